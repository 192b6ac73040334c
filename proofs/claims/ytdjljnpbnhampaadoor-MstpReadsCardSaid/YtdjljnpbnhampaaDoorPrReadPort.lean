/- prio.ReadPort at every state of a reader. -/
import Derived.Test.YtdjljnpbnhampaaDoorPrRead
namespace Go.Proofs.YtdjljnpbnhampaaDoor
open Go.RowKit
attribute [local go_sem ↓] Go.wp_at_zero Go.wp_at_succ
set_option linter.unusedSimpArgs false
set_option linter.unusedVariables false
set_option maxRecDepth 100000

theorem Tryd.ptZero : (Tryd.prog.info? 29).map (·.zero) = some (some (.agg (ptC 0 0))) := by kernel_rfl

theorem at_t {g : Nat} {s : ByteArray} {off : Nat} (st : RSt) (w : World) (h : RdT w g s off st) :
    Calls Tryd.prog 77 #[.pointer (some ⟨g, 0, none⟩)] w fun e w' => e = .returned (.int .i64 ((off : Int) + (st.1 : Int))) ∧ w = w' := by
  obtain ⟨f, hr, hf⟩ := h
  exact at_any w hr

/-- The state behind a port's name, and the name. -/
def rpSt (l : List UInt8) (off : Nat) (st : RSt) : RSt := if rdN l off st % 4096 = 0 then flR (rdS1 l off st) 2 ((off : Int) + (st.1 : Int)) else rdS1 l off st

def rpC (l : List UInt8) (off : Nat) (st : RSt) : Array Value := if rdN l off st % 4096 = 0 then ptC 0 0 else ptC ((rdN l off st : Int) / 4096 * 16) ((rdN l off st : Int) % 4096)

theorem rdN_bad (l : List UInt8) (off : Nat) (st : RSt) (h : ¬ (rdS1 l off st).2.1 = 0) : rdN l off st = 0 := by
  unfold rdS1 at h
  unfold rdN
  by_cases h1 : st.2.1 = 0
  · by_cases h2 : st.1 + 2 ≤ l.length
    · have e := tkN_go l off st 2 true h1 h2 (by simp)
      rw [show ((2 : Int)) = ((2 : Nat) : Int) from rfl, e] at h
      exact absurd h1 h
    · unfold tkN
      rw [if_neg (by simp [h1]), if_neg (by simp), if_pos (by omega)]
      rfl
  · rw [tkN_bad l off st 2 true h1]
    rfl

theorem rpSt_le (l : List UInt8) (off : Nat) (st : RSt) (h : st.1 ≤ l.length) : (rpSt l off st).1 ≤ l.length := by
  unfold rpSt
  split
  · exact flR_le l _ _ _ (rdS1_le l off st h)
  · exact rdS1_le l off st h

set_option maxHeartbeats 6400000 in
theorem prReadPort_t {g : Nat} {s : ByteArray} {off : Nat} (st : RSt) (w : World) (h : RdT w g s off st) (hp : st.1 ≤ s.size) (hb : off + s.size ≤ 281474976710656) :
    Calls Tryd.prog 75 #[.pointer (some ⟨g, 0, none⟩)] w fun e w' => e = .returned (.agg (rpC s.data.toList off st)) ∧ RdT w' g s off (rpSt s.data.toList off st) ∧ w.grownBy w' (some g) := by
  have hls : s.data.toList.length = s.size := by simp
  have hg := h.lt
  have N0 := Lib.hid (fun W (h : RdT W g s off st) => at_t st W h)
  have N1 := Lib.hid (fun W (h : RdT W g s off st) => num_t st 2 W h hp hb)
  have hN := rdN_lt s.data.toList off st
  have hNb := rdN_bad s.data.toList off st
  have hnw : wrap64 (beN (tkN s.data.toList off st 2 true).1) = ((rdN s.data.toList off st : Nat) : Int) := by
    show wrap64 ((rdN s.data.toList off st : Nat) : Int) = _
    unfold wrap64
    omega
  rw [hnw] at N1
  have e1 : (tkN s.data.toList off st 2 true).2 = rdS1 s.data.toList off st := rfl
  rw [e1] at N1
  clear e1 hnw
  unfold rpC rpSt
  generalize rdN s.data.toList off st = n at *
  generalize rdS1 s.data.toList off st = s1 at *
  generalize (off : Int) + (st.1 : Int) = pl at *
  have q4 : IntKind.i64.wrap ((n : Int) / 4096 * 16) = (n : Int) / 4096 * 16 := by rw [IntKind.wrap_i64]; omega
  have R1 := Blk.new w 29 (ptC 0 0)
  have H1 := h.al (.cells (ptC 0 0) 29)
  have G1 : w.grownBy (w.alloc (.cells (ptC 0 0) 29)) (some g) := World.grownBy_alloc w _ _
  have lt1 : w.heap.size < (w.alloc (.cells (ptC 0 0) 29)).heap.size := by simp
  by_cases c : n % 4096 = 0
  · rw [if_pos c, if_pos c]
    have c1 : ((n : Int) % 4096 == 0) = true := by rw [beq_iff_eq]; omega
    clear hNb
    go_enter Tryd.func75, Tryd.ntmps75
    go_wp2_with (refine alloc_blk 29 (ptC 0 0) (by rfl) rfl Tryd.ptZero ?_)
    generalize w.alloc (.cells (ptC 0 0) 29) = w1 at *
    refine (N0.out _ H1).mono ?_
    rintro e w1' ⟨rfl, rfl⟩
    go_wp2_with fail
    refine (N1.out _ H1).mono ?_
    rintro e w2 ⟨rfl, H2, g2⟩
    have R2 := R1.grown g2 (by simp; omega)
    have G2 := grown_same G1 g2
    have lt2 : w.heap.size < w2.heap.size := R2.lt
    clear R1 H1 G1 g2 lt1
    go_upto_region 4 with (first
      | (refine build_blk (t := 29) (ptC ((n : Int) / 4096 * 16) ((n : Int) % 4096)) (by rfl) rfl (by kernel_rfl) ?_)
      | (refine alloc_blk 29 (ptC 0 0) (by rfl) rfl Tryd.ptZero ?_)
      | (refine store_blk (k := 0) 29 (.agg (ptC ((n : Int) / 4096 * 16) ((n : Int) % 4096))) (ptC ((n : Int) / 4096 * 16) ((n : Int) % 4096)) (by rfl) rfl rfl rfl (Blk.new w2 _ _) (by kernel_rfl) (show (2 : Nat) ≤ 2 from Nat.le_refl 2) (by rfl) (st_whole _ _ rfl) ?_; intro w3 V3 b3 g3; have R3 := (R2.alloc (.cells (ptC 0 0) 29)).below b3 lt2; have H3 := (H2.al (.cells (ptC 0 0) 29)).other (Blk.new w2 _ _) (by decide) (by decide) g3; have G3 := grown_own (grown_same G2 (World.grownBy_alloc w2 (.cells (ptC 0 0) 29) (some g))) g3 (by omega)))
    (try simp only [Act.put, List.setIfInBounds_toArray, List.set_cons_zero, List.set_cons_succ])
    generalize w2.heap.size = A at *
    have lt3 : A < w3.heap.size := V3.lt
    have v1 := V3.cv 1 (.int .i64 ((n : Int) % 4096)) rfl
    clear R2 H2 G2 b3 g3
    go_wp2_with fail
    refine (fail_t s1 2 pl (by decide) _ H3).mono ?_
    rintro e w4 ⟨rfl, H4, g4⟩
    have R4 := R3.grown g4 (by simp; omega)
    have G4 := grown_same G3 g4
    clear R3 H3 G3 g4 v1
    go_wp2_with fail
    refine (err_t _ _ H4 (flR_ne s1 2 pl (by decide))).mono ?_
    rintro e w6 ⟨rfl, hf6, k6⟩
    have H6 := H4.below k6
    have R6 := R4.kept k6
    have G6 := grown_belowT G4 k6
    go_wp2_with (first
      | (refine build_blk (t := 29) (ptC 0 0) (by rfl) rfl (by kernel_rfl) ?_)
      | (refine store_blk (k := 0) 29 (.agg (ptC 0 0)) (ptC 0 0) (by rfl) rfl rfl rfl R6 (by kernel_rfl) (show (2 : Nat) ≤ 2 from Nat.le_refl 2) (by rfl) (st_whole _ _ rfl) ?_; intro w7 R7 b7 g7; have H7 := H6.other R6 (by decide) (by decide) g7; have G7 := grown_own G6 g7 (Nat.le_refl _)))
    exact bodyPost_ret (results_blk rfl rfl R7 (by kernel_rfl) (by kernel_rfl)) rfl ⟨rfl, H7, G7⟩
  · rw [if_neg c, if_neg c]
    have c1 : ((n : Int) % 4096 == 0) = false := by rw [beq_eq_false_iff_ne]; omega
    have hs0 : s1.2.1 = 0 := by
      by_cases hs : s1.2.1 = 0
      · exact hs
      · exact absurd (by rw [hNb hs]) c
    clear hNb
    go_enter Tryd.func75, Tryd.ntmps75
    go_wp2_with (refine alloc_blk 29 (ptC 0 0) (by rfl) rfl Tryd.ptZero ?_)
    generalize w.alloc (.cells (ptC 0 0) 29) = w1 at *
    refine (N0.out _ H1).mono ?_
    rintro e w1' ⟨rfl, rfl⟩
    go_wp2_with fail
    refine (N1.out _ H1).mono ?_
    rintro e w2 ⟨rfl, H2, g2⟩
    have R2 := R1.grown g2 (by simp; omega)
    have G2 := grown_same G1 g2
    have lt2 : w.heap.size < w2.heap.size := R2.lt
    clear R1 H1 G1 g2 lt1
    go_upto_region 4 with (first
      | (refine build_blk (t := 29) (ptC ((n : Int) / 4096 * 16) ((n : Int) % 4096)) (by rfl) rfl (by kernel_rfl) ?_)
      | (refine alloc_blk 29 (ptC 0 0) (by rfl) rfl Tryd.ptZero ?_)
      | (refine store_blk (k := 0) 29 (.agg (ptC ((n : Int) / 4096 * 16) ((n : Int) % 4096))) (ptC ((n : Int) / 4096 * 16) ((n : Int) % 4096)) (by rfl) rfl rfl rfl (Blk.new w2 _ _) (by kernel_rfl) (show (2 : Nat) ≤ 2 from Nat.le_refl 2) (by rfl) (st_whole _ _ rfl) ?_; intro w3 V3 b3 g3; have R3 := (R2.alloc (.cells (ptC 0 0) 29)).below b3 lt2; have H3 := (H2.al (.cells (ptC 0 0) 29)).other (Blk.new w2 _ _) (by decide) (by decide) g3; have G3 := grown_own (grown_same G2 (World.grownBy_alloc w2 (.cells (ptC 0 0) 29) (some g))) g3 (by omega)))
    (try simp only [Act.put, List.setIfInBounds_toArray, List.set_cons_zero, List.set_cons_succ])
    generalize w2.heap.size = A at *
    have lt3 : A < w3.heap.size := V3.lt
    have v1 := V3.cv 1 (.int .i64 ((n : Int) % 4096)) rfl
    clear R2 H2 G2 b3 g3
    go_wp2_with fail
    refine (err_ok s1 _ H3 hs0).mono ?_
    rintro e w6 ⟨rfl, rfl⟩
    go_wp2_with (first
      | (refine load_blk (k := 0) 29 (ptC ((n : Int) / 4096 * 16) ((n : Int) % 4096)) (by rfl) rfl rfl V3 (by kernel_rfl) (by kernel_rfl) rfl ?_)
      | (refine store_blk (k := 0) 29 (.agg (ptC ((n : Int) / 4096 * 16) ((n : Int) % 4096))) (ptC ((n : Int) / 4096 * 16) ((n : Int) % 4096)) (by rfl) rfl rfl rfl R3 (by kernel_rfl) (show (2 : Nat) ≤ 2 from Nat.le_refl 2) (by rfl) (st_whole _ _ rfl) ?_; intro w7 R7 b7 g7; have H7 := H3.other R3 (by decide) (by decide) g7; have G7 := grown_own G3 g7 (Nat.le_refl _)))
    exact bodyPost_ret (results_blk rfl rfl R7 (by kernel_rfl) (by kernel_rfl)) rfl ⟨rfl, H7, G7⟩

end Go.Proofs.YtdjljnpbnhampaaDoor
