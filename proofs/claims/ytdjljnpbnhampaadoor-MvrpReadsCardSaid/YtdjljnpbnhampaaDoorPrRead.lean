/- prio.Read at every state of a reader. -/
import Derived.Test.YtdjljnpbnhampaaDoorPrReadG
import Derived.Test.YtdjljnpbnhampaaDoorRdT
import Derived.Test.YtdjljnpbnhampaaDoorPrRight
import Derived.Test.YtdjljnpbnhampaaDoorCopyT
namespace Go.Proofs.YtdjljnpbnhampaaDoor
open Go.RowKit
attribute [local go_sem ↓] Go.wp_at_zero Go.wp_at_succ
set_option linter.unusedSimpArgs false
set_option linter.unusedVariables false
set_option maxRecDepth 100000

/-- What Num(2) and Bytes(6) find. -/
def rdN (l : List UInt8) (off : Nat) (st : RSt) : Nat := beN (tkN l off st 2 true).1

def rdS1 (l : List UInt8) (off : Nat) (st : RSt) : RSt := (tkN l off st 2 true).2

def rdA (l : List UInt8) (off : Nat) (st : RSt) : List UInt8 := (tkN l off (rdS1 l off st) 6 false).1

/-- The state behind a name, and the name. -/
def rdBs (l : List UInt8) (off : Nat) (st : RSt) : RSt := (tkN l off (rdS1 l off st) 6 false).2

def rdB (l : List UInt8) (off : Nat) (st : RSt) : Br := if (rdBs l off st).2.1 = 0 then ⟨(rdN l off st : Int) / 4096 * 4096, (rdN l off st : Int) % 4096, byX (rdA l off st)⟩ else zBr

theorem rdN_lt (l : List UInt8) (off : Nat) (st : RSt) : rdN l off st < 65536 := by
  unfold rdN
  have h := beN_lt (tkN l off st 2 true).1
  have q : (tkN l off st 2 true).1 = [] ∨ (tkN l off st 2 true).1.length = 2 := tkN_len l off st 2 true
  rcases q with q | q
  · rw [q]; decide
  · rw [q] at h; exact h

theorem rdA_ok (l : List UInt8) (off : Nat) (st : RSt) (h : (rdBs l off st).2.1 = 0) : (rdA l off st).length = 6 := by
  obtain ⟨h0, h1, h2⟩ := tkN_ok l off (rdS1 l off st) 6 false h
  unfold rdA
  rw [show ((6 : Int)) = ((6 : Nat) : Int) from rfl, h2]
  simp only [List.length_take, List.length_drop]
  omega

theorem rdA_bad (l : List UInt8) (off : Nat) (st : RSt) (h : ¬ (rdBs l off st).2.1 = 0) : rdA l off st = [] := by
  unfold rdBs at h
  unfold rdA
  by_cases h1 : (rdS1 l off st).2.1 = 0
  · by_cases h2 : (rdS1 l off st).1 + 6 ≤ l.length
    · have e := tkN_go l off (rdS1 l off st) 6 false h1 h2 (by simp)
      rw [show ((6 : Int)) = ((6 : Nat) : Int) from rfl, e] at h
      exact absurd h1 h
    · unfold tkN
      rw [if_neg (by simp [h1]), if_neg (by simp), if_pos (by omega)]
  · rw [tkN_bad l off _ 6 false h1]

theorem rdS1_le (l : List UInt8) (off : Nat) (st : RSt) (h : st.1 ≤ l.length) : (rdS1 l off st).1 ≤ l.length := tkN_le l off st 2 true h

theorem rdBs_le (l : List UInt8) (off : Nat) (st : RSt) (h : st.1 ≤ l.length) : (rdBs l off st).1 ≤ l.length := tkN_le l off _ 6 false (rdS1_le l off st h)

theorem byX_nil : brC ⟨0, 0, byX []⟩ = brC zBr := rfl

set_option maxHeartbeats 6400000 in
theorem prRead_t {g : Nat} {s : ByteArray} {off : Nat} (st : RSt) (w : World) (h : RdT w g s off st) (hp : st.1 ≤ s.size) (hb : off + s.size ≤ 281474976710656) :
    Calls Tryd.prog 45 #[.pointer (some ⟨g, 0, none⟩)] w fun e w' => e = .returned (.agg (brC (rdB s.data.toList off st))) ∧ RdT w' g s off (rdBs s.data.toList off st) ∧ w.grownBy w' (some g) := by
  have hls : s.data.toList.length = s.size := by simp
  have hg := h.lt
  have HP1 := rdS1_le s.data.toList off st (by rw [hls]; exact hp)
  have HP2 := rdBs_le s.data.toList off st (by rw [hls]; exact hp)
  rw [hls] at HP1 HP2
  have N1 := Lib.hid (fun W (h : RdT W g s off st) => num_t st 2 W h hp hb)
  have N2 := Lib.hid (fun W (h : RdT W g s off (rdS1 s.data.toList off st)) => bytes_t (rdS1 s.data.toList off st) 6 W h HP1 hb)
  have hN := rdN_lt s.data.toList off st
  have hnw : wrap64 (beN (tkN s.data.toList off st 2 true).1) = ((rdN s.data.toList off st : Nat) : Int) := by
    show wrap64 ((rdN s.data.toList off st : Nat) : Int) = _
    unfold wrap64
    omega
  have hAok := rdA_ok s.data.toList off st
  have hAbad := rdA_bad s.data.toList off st
  rw [hnw] at N1
  have e1 : (tkN s.data.toList off st 2 true).2 = rdS1 s.data.toList off st := rfl
  have e2 : (tkN s.data.toList off (rdS1 s.data.toList off st) 6 false).1 = rdA s.data.toList off st := rfl
  have e3 : (tkN s.data.toList off (rdS1 s.data.toList off st) 6 false).2 = rdBs s.data.toList off st := rfl
  rw [e1] at N1
  rw [e2, e3] at N2
  clear e1 e2 e3 hnw
  have hres : rdB s.data.toList off st = if (rdBs s.data.toList off st).2.1 = 0 then ⟨(rdN s.data.toList off st : Int) / 4096 * 4096, (rdN s.data.toList off st : Int) % 4096, byX (rdA s.data.toList off st)⟩ else zBr := rfl
  obtain ⟨r, hr⟩ : ∃ r, r = rdB s.data.toList off st := ⟨_, rfl⟩
  rw [← hr]
  rw [hres] at hr
  clear hres
  have HR := Lib.hid hr
  clear hr
  generalize rdN s.data.toList off st = n at *
  generalize rdS1 s.data.toList off st = s1 at *
  generalize rdA s.data.toList off st = t at *
  generalize rdBs s.data.toList off st = s2 at *
  have R1 := Blk.new w 27 (brC zBr)
  have H1 := h.al (.cells (brC zBr) 27)
  have G1 : w.grownBy (w.alloc (.cells (brC zBr) 27)) (some g) := World.grownBy_alloc w _ _
  go_enter Tryd.func45, Tryd.ntmps45
  go_wp2_with (refine alloc_blk 27 (brC zBr) (by rfl) rfl Tryd.brZero ?_)
  generalize w.alloc (.cells (brC zBr) 27) = w1 at *
  refine (N1.out _ H1).mono ?_
  rintro e w2 ⟨rfl, H2, g2⟩
  have R2 := R1.grown g2 (by simp; omega)
  have G2 := grown_same G1 g2
  have lt2 : w.heap.size < w2.heap.size := R2.lt
  clear R1 H1 G1 g2
  have B0 : ∃ b, b = (⟨(n : Int) / 4096 * 4096, (n : Int) % 4096, z6⟩ : Br) := ⟨_, rfl⟩
  go_upto_region 3 with (first
    | (refine build_blk (t := 27) (brC ⟨(n : Int) / 4096 * 4096, (n : Int) % 4096, z6⟩) (by rfl) rfl (by kernel_rfl) ?_)
    | (refine alloc_blk 27 (brC zBr) (by rfl) rfl Tryd.brZero ?_)
    | (refine store_blk (k := 0) 27 (.agg (brC ⟨(n : Int) / 4096 * 4096, (n : Int) % 4096, z6⟩)) (brC ⟨(n : Int) / 4096 * 4096, (n : Int) % 4096, z6⟩) (by rfl) rfl rfl rfl (Blk.new w2 _ _) (by kernel_rfl) (show (8 : Nat) ≤ 8 from Nat.le_refl 8) (by rfl) (st_whole _ _ rfl) ?_; intro w3 V3 b3 g3; have R3 := (R2.alloc (.cells (brC zBr) 27)).below b3 lt2; have H3 := (H2.al (.cells (brC zBr) 27)).other (Blk.new w2 _ _) (by decide) (by decide) g3; have G3 := grown_own (grown_same G2 (World.grownBy_alloc w2 (.cells (brC zBr) 27) (some g))) g3 (by omega)))
  (try simp only [Act.put, List.setIfInBounds_toArray, List.set_cons_zero, List.set_cons_succ])
  generalize w2.heap.size = A at *
  have lt3 : A < w3.heap.size := V3.lt
  clear R2 H2 G2 b3 g3
  by_cases c : s2.2.1 = 0
  · rw [if_pos c] at HR
    have HL := Lib.hid (hAok c)
    clear hAok hAbad
    refine wp_region_noPanic ?_
    refine wp_region_held_drew (S := (fun w' => Blk w' w.heap.size 27 (brC zBr))) (by kernel_rfl) ?_ (fun hHeld => ?_)
    · exact R3
    refine wpAnyH_take (i := 0) (v := ?_) rfl (by kernel_rfl) (by kernel_rfl) (by kernel_rfl) (fun _ _ _ h => h) (Or.inl ⟨by rfl, ?_⟩) (by assumption) ?_
    rotate_left
    · (intro w hSw; (try dsimp only at hSw); go_simp; (try with_reducible rfl))
    (try simp only [Act.put, List.getElem_toArray, List.getElem_cons_zero, List.getElem_cons_succ, List.setIfInBounds_toArray, List.set_cons_zero, List.set_cons_succ])
    refine wpAnyH_take (i := 1) (v := ?_) rfl (by kernel_rfl) (by kernel_rfl) (by kernel_rfl) (fun _ _ _ h => h) (Or.inl ⟨by rfl, ?_⟩) (by assumption) ?_
    rotate_left
    · (intro w hSw; (try dsimp only at hSw); go_simp; (try with_reducible rfl))
    (try simp only [Act.put, List.getElem_toArray, List.getElem_cons_zero, List.getElem_cons_succ, List.setIfInBounds_toArray, List.set_cons_zero, List.set_cons_succ])
    refine wpAnyH_take (i := 2) (v := ?_) rfl (by kernel_rfl) (by kernel_rfl) (by kernel_rfl) (fun _ _ _ h => h) (Or.inl ⟨by rfl, ?_⟩) (by assumption) ?_
    rotate_left
    · (intro w hSw; (try dsimp only at hSw); go_simp; (try with_reducible rfl))
    (try simp only [Act.put, List.getElem_toArray, List.getElem_cons_zero, List.getElem_cons_succ, List.setIfInBounds_toArray, List.set_cons_zero, List.set_cons_succ])
    refine wpAnyH_ready (rs := [3]) (by kernel_rfl) (by simp) ?_
    refine AllReadyH.cons rfl (fun K hK => ?_) AllReadyH.nil
    simp only [List.getElem_toArray, List.getElem_cons_zero, List.getElem_cons_succ]
    go_simp
    with_reducible refine (N2.out _ H3.drew).mono ?_
    rintro e w4 ⟨rfl, H4, g4⟩
    have V4 := V3.drew.grown g4 (by simp; omega)
    have R4 := R3.drew.grown g4 (by simp; omega)
    have G4 := grown_same (rdT_drew G3) g4
    refine hK.out _ _ ?_ (fun hHeld => ?_)
    · exact R4
    clear hK K
    (try simp only [Act.put, List.getElem_toArray, List.getElem_cons_zero, List.getElem_cons_succ, List.setIfInBounds_toArray, List.set_cons_zero, List.set_cons_succ])
    refine wpAnyH_ready (rs := [4]) (by kernel_rfl) (by simp) ?_
    refine AllReadyH.cons rfl (fun K hK => ?_) AllReadyH.nil
    simp only [List.getElem_toArray, List.getElem_cons_zero, List.getElem_cons_succ]
    rw [if_pos (by rfl)]
    refine wp_copy_text ⟨t.toArray⟩ (brC ⟨(n : Int) / 4096 * 4096, (n : Int) % 4096, byX t⟩) 5 rfl rfl rfl V4 Tryd.underlying157 (by kernel_rfl) (by simp [ByteArray.size, HL.out]) (by simp [ByteArray.size, HL.out, brC]) ?_ (fun w5 V5 b5 g5 => ?_)
    · rw [byX_c6 t HL.out]; simp [ByteArray.size, HL.out, brC, c6]
    have H5 := H4.other V4 (by decide) (by decide) g5
    have R5 := R4.grown g5 (by simp; omega)
    have G5 := grown_own G4 g5 (by omega)
    refine hK.out _ _ ?_ (fun hHeld => ?_)
    · exact R5
    clear hK K
    (try simp only [Act.put, List.getElem_toArray, List.getElem_cons_zero, List.getElem_cons_succ, List.setIfInBounds_toArray, List.set_cons_zero, List.set_cons_succ])
    refine wpAnyH_done (by kernel_rfl) ?_ _
    refine NoPanic.normal ?_
    clear V4 R4 G4 H4 b5 g5 V3 R3 G3 H3 g4
    go_wp2_with fail
    refine (err_ok s2 _ H5 c).mono ?_
    rintro e w6 ⟨rfl, rfl⟩
    go_wp2_with (first
      | (refine load_blk (k := 0) 27 (brC ⟨(n : Int) / 4096 * 4096, (n : Int) % 4096, byX t⟩) (by rfl) rfl rfl V5 (by kernel_rfl) (by kernel_rfl) rfl ?_)
      | (refine store_blk (k := 0) 27 (.agg (brC ⟨(n : Int) / 4096 * 4096, (n : Int) % 4096, byX t⟩)) (brC ⟨(n : Int) / 4096 * 4096, (n : Int) % 4096, byX t⟩) (by rfl) rfl rfl rfl R5 (by kernel_rfl) (show (8 : Nat) ≤ 8 from Nat.le_refl 8) (by rfl) (st_whole _ _ rfl) ?_; intro w7 R7 b7 g7; have H7 := H5.other R5 (by decide) (by decide) g7; have G7 := grown_own G5 g7 (Nat.le_refl _)))
    exact bodyPost_ret (results_blk rfl rfl R7 (by kernel_rfl) (by kernel_rfl)) rfl ⟨by rw [HR.out], H7, G7⟩
  · rw [if_neg c] at HR
    have ht := hAbad c
    subst ht
    clear hAok hAbad
    refine wp_region_noPanic ?_
    refine wp_region_held_drew (S := (fun w' => Blk w' w.heap.size 27 (brC zBr))) (by kernel_rfl) ?_ (fun hHeld => ?_)
    · exact R3
    refine wpAnyH_take (i := 0) (v := ?_) rfl (by kernel_rfl) (by kernel_rfl) (by kernel_rfl) (fun _ _ _ h => h) (Or.inl ⟨by rfl, ?_⟩) (by assumption) ?_
    rotate_left
    · (intro w hSw; (try dsimp only at hSw); go_simp; (try with_reducible rfl))
    (try simp only [Act.put, List.getElem_toArray, List.getElem_cons_zero, List.getElem_cons_succ, List.setIfInBounds_toArray, List.set_cons_zero, List.set_cons_succ])
    refine wpAnyH_take (i := 1) (v := ?_) rfl (by kernel_rfl) (by kernel_rfl) (by kernel_rfl) (fun _ _ _ h => h) (Or.inl ⟨by rfl, ?_⟩) (by assumption) ?_
    rotate_left
    · (intro w hSw; (try dsimp only at hSw); go_simp; (try with_reducible rfl))
    (try simp only [Act.put, List.getElem_toArray, List.getElem_cons_zero, List.getElem_cons_succ, List.setIfInBounds_toArray, List.set_cons_zero, List.set_cons_succ])
    refine wpAnyH_take (i := 2) (v := ?_) rfl (by kernel_rfl) (by kernel_rfl) (by kernel_rfl) (fun _ _ _ h => h) (Or.inl ⟨by rfl, ?_⟩) (by assumption) ?_
    rotate_left
    · (intro w hSw; (try dsimp only at hSw); go_simp; (try with_reducible rfl))
    (try simp only [Act.put, List.getElem_toArray, List.getElem_cons_zero, List.getElem_cons_succ, List.setIfInBounds_toArray, List.set_cons_zero, List.set_cons_succ])
    refine wpAnyH_ready (rs := [3]) (by kernel_rfl) (by simp) ?_
    refine AllReadyH.cons rfl (fun K hK => ?_) AllReadyH.nil
    simp only [List.getElem_toArray, List.getElem_cons_zero, List.getElem_cons_succ]
    go_simp
    with_reducible refine (N2.out _ H3.drew).mono ?_
    rintro e w4 ⟨rfl, H4, g4⟩
    have V4 := V3.drew.grown g4 (by simp; omega)
    have R4 := R3.drew.grown g4 (by simp; omega)
    have G4 := grown_same (rdT_drew G3) g4
    refine hK.out _ _ ?_ (fun hHeld => ?_)
    · exact R4
    clear hK K
    (try simp only [Act.put, List.getElem_toArray, List.getElem_cons_zero, List.getElem_cons_succ, List.setIfInBounds_toArray, List.set_cons_zero, List.set_cons_succ])
    refine wpAnyH_ready (rs := [4]) (by kernel_rfl) (by simp) ?_
    refine AllReadyH.cons rfl (fun K hK => ?_) AllReadyH.nil
    simp only [List.getElem_toArray, List.getElem_cons_zero, List.getElem_cons_succ]
    rw [if_pos (by rfl)]
    refine wp_copy_text ⟨#[]⟩ (brC ⟨(n : Int) / 4096 * 4096, (n : Int) % 4096, z6⟩) 5 rfl rfl rfl V4 Tryd.underlying157 (by kernel_rfl) (by decide) (by simp [ByteArray.size, brC]) ?_ (fun w5 V5 b5 g5 => ?_)
    · simp [ByteArray.size, brC, Lib.byteCells]
    have H5 := H4.other V4 (by decide) (by decide) g5
    have R5 := R4.grown g5 (by simp; omega)
    have G5 := grown_own G4 g5 (by omega)
    refine hK.out _ _ ?_ (fun hHeld => ?_)
    · exact R5
    clear hK K
    (try simp only [Act.put, List.getElem_toArray, List.getElem_cons_zero, List.getElem_cons_succ, List.setIfInBounds_toArray, List.set_cons_zero, List.set_cons_succ])
    refine wpAnyH_done (by kernel_rfl) ?_ _
    refine NoPanic.normal ?_
    clear V4 R4 G4 H4 b5 g5 V3 R3 G3 H3 g4
    go_wp2_with fail
    refine (err_t s2 _ H5 c).mono ?_
    rintro e w6 ⟨rfl, hf6, k6⟩
    have H6 := H5.below k6
    have R6 := R5.kept k6
    have G6 := grown_belowT G5 k6
    go_wp2_with (first
      | (refine build_blk (t := 27) (brC zBr) (by rfl) rfl (by kernel_rfl) ?_)
      | (refine store_blk (k := 0) 27 (.agg (brC zBr)) (brC zBr) (by rfl) rfl rfl rfl R6 (by kernel_rfl) (show (8 : Nat) ≤ 8 from Nat.le_refl 8) (by rfl) (st_whole _ _ rfl) ?_; intro w7 R7 b7 g7; have H7 := H6.other R6 (by decide) (by decide) g7; have G7 := grown_own G6 g7 (Nat.le_refl _)))
    exact bodyPost_ret (results_blk rfl rfl R7 (by kernel_rfl) (by kernel_rfl)) rfl ⟨by rw [HR.out], H7, G7⟩

end Go.Proofs.YtdjljnpbnhampaaDoor
