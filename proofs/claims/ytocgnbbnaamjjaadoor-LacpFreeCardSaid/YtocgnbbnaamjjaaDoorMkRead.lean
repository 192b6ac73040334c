/- lacp.ReadMark at every text. -/
import Derived.Test.YtocgnbbnaamjjaaDoorLcParty
namespace Go.Proofs.YtocgnbbnaamjjaaDoor
open Go.RowKit
attribute [local go_sem ↓] Go.wp_at_zero Go.wp_at_succ
set_option linter.unusedSimpArgs false
set_option linter.unusedVariables false
set_option maxRecDepth 100000

set_option maxHeartbeats 6400000 in
theorem mkRead_ok (s : ByteArray) (w : World) (hs : s.size ≤ 100000) (h0 : allP s.data.toList mkSt = none) :
    Calls Tryd.prog 23 #[.string s] w fun e w' => e = .returned (.tuple #[.agg (mkC (mkAt s.data.toList)), .nilIface]) ∧ Below w.heap.size w w' := by
  have hb : 0 + s.size ≤ 281474976710656 := by omega
  have hls : s.data.toList.length = s.size := by simp
  have hz : (zrR s.data.toList 0 (mk9 s.data.toList)).1 = true ∧ rdMk s.data.toList = mkAt s.data.toList := by
    rcases all_ans s.data.toList mkSt mkSt_ok with ⟨h1, h2, h3, h4, h5⟩ | ⟨e, x, h1, h2⟩
    · rw [← mk_run, h5]
      exact ⟨rfl, (mk_vals _ h4 h3).1⟩
    · rw [h0] at h1
      cases h1
  obtain ⟨hz, hv⟩ := hz
  rw [← hv]
  have Q1 : (mk1 s.data.toList).1 ≤ s.data.toList.length := exS_le _ _ _ (Nat.zero_le _)
  have Q2 : (mk2 s.data.toList).1 ≤ s.data.toList.length := exS2_le _ _ _ _ Q1
  have Q3 : (mk3 s.data.toList).1 ≤ s.data.toList.length := exS_le _ _ _ Q2
  have Q4 : (mk4 s.data.toList).1 ≤ s.data.toList.length := nmS_le _ _ _ _ Q3
  have Q5 : (mk5 s.data.toList).1 ≤ s.data.toList.length := tkN_le _ _ _ _ _ Q4
  have Q6 : (mk6 s.data.toList).1 ≤ s.data.toList.length := nmS_le _ _ _ _ Q5
  have Q7 : (mk7 s.data.toList).1 ≤ s.data.toList.length := tkN_le _ _ _ _ _ Q6
  have P1 := Q1
  rw [hls] at P1
  have P2 := Q2
  rw [hls] at P2
  have P3 := Q3
  rw [hls] at P3
  have P4 := Q4
  rw [hls] at P4
  have P5 := Q5
  rw [hls] at P5
  have P6 := Q6
  rw [hls] at P6
  have P7 := Q7
  rw [hls] at P7
  have HX1 : Hid (∀ {g : Nat} {W : World}, RdT W g s 0 (0, 0, -1) → Calls Tryd.prog 35 #[.pointer (some ⟨g, 0, none⟩), .string ⟨#[2, 1]⟩, .slice none 0 0] W fun e w' => e = .returned (.string ⟨(exV s.data.toList (0, 0, -1) [2, 1]).toArray⟩) ∧ RdT w' g s 0 (mk1 s.data.toList) ∧ W.grownBy w' (some g)) := fun {g W} h => exp_t ⟨#[2, 1]⟩ (by decide) _ W h (Nat.zero_le _) hb
  have HX3 : Hid (∀ {g : Nat} {W : World}, RdT W g s 0 (mk2 s.data.toList) → Calls Tryd.prog 35 #[.pointer (some ⟨g, 0, none⟩), .string ⟨#[16]⟩, .slice none 0 0] W fun e w' => e = .returned (.string ⟨(exV s.data.toList (mk2 s.data.toList) [16]).toArray⟩) ∧ RdT w' g s 0 (mk3 s.data.toList) ∧ W.grownBy w' (some g)) := fun {g W} h => exp_t ⟨#[16]⟩ (by decide) _ W h P2 hb
  have HX4 : Hid (∀ {g : Nat} {W : World}, RdT W g s 0 (mk3 s.data.toList) → Calls Tryd.prog 37 #[.pointer (some ⟨g, 0, none⟩), .int .i64 2] W fun e w' => e = .returned (.int .i64 (nmV s.data.toList 0 (mk3 s.data.toList) 2 : Nat)) ∧ RdT w' g s 0 (mk4 s.data.toList) ∧ W.grownBy w' (some g)) := fun {g W} h => numK_t _ 2 (by decide) W h P3 hb
  have HX5 : Hid (∀ {g : Nat} {W : World}, RdT W g s 0 (mk4 s.data.toList) → Calls Tryd.prog 38 #[.pointer (some ⟨g, 0, none⟩), .int .i64 6] W fun e w' => e = .returned (.string ⟨(tkN s.data.toList 0 (mk4 s.data.toList) 6 false).1.toArray⟩) ∧ RdT w' g s 0 (mk5 s.data.toList) ∧ W.grownBy w' (some g)) := fun {g W} h => bytes_t _ 6 W h P4 hb
  have HX6 : Hid (∀ {g : Nat} {W : World}, RdT W g s 0 (mk5 s.data.toList) → Calls Tryd.prog 37 #[.pointer (some ⟨g, 0, none⟩), .int .i64 4] W fun e w' => e = .returned (.int .i64 (nmV s.data.toList 0 (mk5 s.data.toList) 4 : Nat)) ∧ RdT w' g s 0 (mk6 s.data.toList) ∧ W.grownBy w' (some g)) := fun {g W} h => numK_t _ 4 (by decide) W h P5 hb
  have HX7 : Hid (∀ {g : Nat} {W : World}, RdT W g s 0 (mk6 s.data.toList) → Calls Tryd.prog 38 #[.pointer (some ⟨g, 0, none⟩), .int .i64 2] W fun e w' => e = .returned (.string ⟨(tkN s.data.toList 0 (mk6 s.data.toList) 2 false).1.toArray⟩) ∧ RdT w' g s 0 (mk7 s.data.toList) ∧ W.grownBy w' (some g)) := fun {g W} h => bytes_t _ 2 W h P6 hb
  have HX2 : Hid (∀ {g b : Nat} {W : World}, RdT W g s 0 (mk1 s.data.toList) → Blk W b 9 #[.string ⟨#[2]⟩] → Calls Tryd.prog 35 #[.pointer (some ⟨g, 0, none⟩), .string ⟨#[1]⟩, .slice (some ⟨b, 0, none⟩) 1 1] W fun e w' => e = .returned (.string ⟨(exV2 s.data.toList (mk1 s.data.toList) [1] [2]).toArray⟩) ∧ RdT w' g s 0 (mk2 s.data.toList) ∧ W.grownBy w' (some g)) := fun {g b W} h hB => exp2_t ⟨#[1]⟩ ⟨#[2]⟩ (by decide) _ W h hB P1 hb
  have HX9 : Hid (∀ {g : Nat} {W : World}, RdT W g s 0 (mk7 s.data.toList) → Calls Tryd.prog 39 #[.pointer (some ⟨g, 0, none⟩), .int .i64 90] W fun e w' => e = .returned (.bool (zrR s.data.toList 0 (mk9 s.data.toList)).1) ∧ RdT w' g s 0 (zrR s.data.toList 0 (mk9 s.data.toList)).2 ∧ W.grownBy w' (some g)) := fun {g W} h => readEnd_t 90 (by decide) _ W h P7 hb
  rw [hz] at HX9
  have hl6 := tkN_len s.data.toList 0 (mk4 s.data.toList) 6 false
  replace hl6 : (tkN s.data.toList 0 (mk4 s.data.toList) 6 false).1 = [] ∨ (tkN s.data.toList 0 (mk4 s.data.toList) 6 false).1.length = 6 := hl6
  have HM : Hid (rdMk s.data.toList = ⟨exV2 s.data.toList (mk1 s.data.toList) [1] [2] == [2], (nmV s.data.toList 0 (mk3 s.data.toList) 2 : Nat), byX (tkN s.data.toList 0 (mk4 s.data.toList) 6 false).1, (nmV s.data.toList 0 (mk5 s.data.toList) 4 : Nat)⟩) := rfl
  clear hls P1 Q1 P2 Q2 P3 Q3 P4 Q4 P5 Q5 P6 Q6 P7 Q7 hs hb hz h0 hv
  generalize (tkN s.data.toList 0 (mk4 s.data.toList) 6 false).1 = l6 at *
  generalize nmV s.data.toList 0 (mk3 s.data.toList) 2 = n2 at *
  generalize nmV s.data.toList 0 (mk5 s.data.toList) 4 = n4 at *
  generalize (tkN s.data.toList 0 (mk6 s.data.toList) 2 false).1 = l2 at *
  generalize exV s.data.toList (0, 0, -1) [2, 1] = v1 at *
  generalize exV2 s.data.toList (mk1 s.data.toList) [1] [2] = v2 at *
  generalize exV s.data.toList (mk2 s.data.toList) [16] = v3 at *
  generalize (zrR s.data.toList 0 (mk9 s.data.toList)).2 = t9 at *
  generalize mk7 s.data.toList = t7 at *
  generalize mk6 s.data.toList = t6 at *
  generalize mk5 s.data.toList = t5 at *
  generalize mk4 s.data.toList = t4 at *
  generalize mk3 s.data.toList = t3 at *
  generalize mk2 s.data.toList = t2 at *
  generalize mk1 s.data.toList = t1 at *
  have hb6 := Lib.hid (bytes6 hl6)
  obtain ⟨bo, hbo⟩ : ∃ bo : Bool, bo = (v2 == [2]) := ⟨_, rfl⟩
  have hq : ((⟨v2.toArray⟩ : ByteArray).toList == [2]) = bo := by rw [ByteArray.toList_eq, hbo]
  have hq2 : ((⟨v2.toArray⟩ : ByteArray).toList == (⟨#[2]⟩ : ByteArray).toList) = bo := by rw [ByteArray.toList_eq, hbo, ByteArray.toList_eq]
  rw [← hbo] at HM
  obtain ⟨u2, hu2⟩ : ∃ u2 : ByteArray, u2 = ⟨v2.toArray⟩ := ⟨_, rfl⟩
  rw [← hu2] at HX2 hq hq2
  clear hbo hu2
  have HA1 := Blk.new w 38 (mkC zMk)
  have B1 : Below w.heap.size w (w.alloc (.cells (mkC zMk) 38)) := (Below.refl _ _).alloc (Nat.le_refl _) _
  go_enter Tryd.func23, Tryd.ntmps23
  go_upto_region 1 with (refine alloc_blk 38 (mkC zMk) (by rfl) rfl Tryd.mkZero ?_)
  generalize w.alloc (.cells (mkC zMk) 38) = w1 at *
  have hA1 := HA1.lt
  go_wp2_with fail
  refine (new_t s 0 _).mono ?_
  rintro e w2 ⟨rfl, HR2, b2⟩
  have HA2 := HA1.kept b2
  have B2 := B1.trans (b2.mono B1.size)
  have hAg : w.heap.size < w1.heap.size := hA1
  clear HA1 B1 b2
  generalize w1.heap.size = g at *
  clear hA1
  go_wp2_with fail
  refine (HX1.out HR2).mono ?_
  rintro e w3 ⟨rfl, HR3, g3⟩
  have HA3 := HA2.grown g3 (by simp; omega)
  have B3 := grown_belowA B2 g3 B2.size (by omega)
  clear HR2 HA2 B2 g3
  have HY4 := Blk.new w3 9 #[.string ⟨#[2]⟩]
  have HA4 := HA3.alloc (.cells #[.string ⟨#[2]⟩] 9)
  have HR4 := HR3.al (.cells #[.string ⟨#[2]⟩] 9)
  have B4 := B3.alloc B3.size (.cells #[.string ⟨#[2]⟩] 9)
  go_wp2_with fail
  refine (HX2.out HR4 HY4).mono ?_
  rintro e w5 ⟨rfl, HR5, g5⟩
  have HA5 := HA4.grown g5 (by simp; omega)
  have B5 := grown_belowA B4 g5 B4.size (by omega)
  clear HR3 HA3 B3 HY4 HR4 HA4 B4 g5
  have hgV : g < w5.heap.size := HR5.lt
  have HA5b := HA5.alloc (.cells (mkC zMk) 38)
  have HR5b := HR5.al (.cells (mkC zMk) 38)
  have B5b := B5.alloc B5.size (.cells (mkC zMk) 38)
  go_upto_region 4 with (first
    | (refine build_blk (t := 38) (mkC ⟨bo, 0, z6, 0⟩) (by rfl) rfl (by kernel_rfl) ?_)
    | (refine alloc_blk 38 (mkC zMk) (by rfl) rfl Tryd.mkZero ?_)
    | (refine store_blk (k := 0) 38 (.agg (mkC ⟨bo, 0, z6, 0⟩)) (mkC ⟨bo, 0, z6, 0⟩) (by rfl) rfl rfl rfl (Blk.new w5 _ _) (by kernel_rfl) (show (9 : Nat) ≤ 9 from Nat.le_refl 9) (by rfl) rfl ?_; intro w6 HV6 b6 g6))
  (try simp only [Act.put, List.setIfInBounds_toArray, List.set_cons_zero, List.set_cons_succ])
  have HA6 := HA5b.below b6 (by omega)
  have HR6 := HR5b.other (Blk.new w5 _ _) (by decide) (by decide) g6
  have B6 := B5b.trans (b6.mono (by omega))
  clear HR5 HA5 B5 HA5b HR5b B5b b6 g6 hq hq2
  generalize w5.heap.size = V at *
  go_wp2_with fail
  refine (HX3.out HR6).mono ?_
  rintro e w7 ⟨rfl, HR7, g7⟩
  have HA7 := HA6.grown g7 (by simp; omega)
  have HV7 := HV6.grown g7 (by simp; omega)
  have B7 := grown_belowA B6 g7 B6.size (by omega)
  clear HR6 HA6 HV6 B6 g7
  go_wp2_with fail
  refine (HX4.out HR7).mono ?_
  rintro e w8 ⟨rfl, HR8, g8⟩
  have HA8 := HA7.grown g8 (by simp; omega)
  have HV8 := HV7.grown g8 (by simp; omega)
  have B8 := grown_belowA B7 g8 B7.size (by omega)
  clear HR7 HA7 HV7 B7 g8
  go_wp2_with (refine store_blk (k := 1) 3 (.int .i64 (n2 : Nat)) (mkC ⟨bo, (n2 : Nat), z6, 0⟩) (by rfl) rfl rfl rfl HV8 (by kernel_rfl) (show (1 + 1 : Nat) ≤ 9 by decide) (by rfl) rfl ?_; intro w9 HV9 b9 g9; have HA9 := HA8.below b9 (by omega); have HR9 := HR8.other HV8 (by decide) (by decide) g9; have B9 := B8.trans (b9.mono (by omega)))
  clear HR8 HA8 HV8 B8 b9 g9
  (try simp only [Act.put, List.setIfInBounds_toArray, List.set_cons_zero, List.set_cons_succ])
  refine wp_region_noPanic ?_
  refine wp_region_held_drew (S := (fun _ => True)) (by kernel_rfl) ?_ (fun hHeld => ?_)
  · exact trivial
  refine wpAnyH_take (i := 0) (v := ?_) rfl (by kernel_rfl) (by kernel_rfl) (by kernel_rfl) (fun _ _ _ h => h) (Or.inl ⟨by rfl, ?_⟩) (by assumption) ?_
  rotate_left
  · (intro w hSw; (try dsimp only at hSw); go_simp; (try with_reducible rfl))
  (try simp only [Act.put, List.getElem_toArray, List.getElem_cons_zero, List.getElem_cons_succ, List.setIfInBounds_toArray, List.set_cons_zero, List.set_cons_succ])
  refine wpAnyH_take (i := 1) (v := ?_) rfl (by kernel_rfl) (by kernel_rfl) (by kernel_rfl) (fun _ _ _ h => h) (Or.inl ⟨by rfl, ?_⟩) (by assumption) ?_
  rotate_left
  · (intro w hSw; (try dsimp only at hSw); go_simp; (try with_reducible rfl))
  (try simp only [Act.put, List.getElem_toArray, List.getElem_cons_zero, List.getElem_cons_succ, List.setIfInBounds_toArray, List.set_cons_zero, List.set_cons_succ])
  refine wpAnyH_take (i := 2) (v := ?_) rfl (by kernel_rfl) (by kernel_rfl) (by kernel_rfl) (fun _ _ _ h => h) (Or.inl ⟨by rfl, ?_⟩) (by assumption) ?_
  rotate_left
  · (intro w hSw; (try dsimp only at hSw); go_simp; (try with_reducible rfl))
  (try simp only [Act.put, List.getElem_toArray, List.getElem_cons_zero, List.getElem_cons_succ, List.setIfInBounds_toArray, List.set_cons_zero, List.set_cons_succ])
  refine wpAnyH_ready (rs := [3]) (by kernel_rfl) (by simp) ?_
  refine AllReadyH.cons rfl (fun K hK => ?_) AllReadyH.nil
  simp only [List.getElem_toArray, List.getElem_cons_zero, List.getElem_cons_succ]
  go_simp
  go_at_call 38; (refine (HX5.out HR9.drew).mono ?_); rintro e w10 ⟨rfl, HR10, g10⟩; have HA10 := HA9.drew.grown g10 (by simp; omega); have HV10 := HV9.drew.grown g10 (by simp; omega); have B10 := grown_belowA B9.drew g10 B9.size (by omega)
  refine hK.out _ _ ?_ (fun hHeld => ?_)
  · exact trivial
  clear hK K
  (try simp only [Act.put, List.getElem_toArray, List.getElem_cons_zero, List.getElem_cons_succ, List.setIfInBounds_toArray, List.set_cons_zero, List.set_cons_succ])
  refine wpAnyH_ready (rs := [4]) (by kernel_rfl) (by simp) ?_
  refine AllReadyH.cons rfl (fun K hK => ?_) AllReadyH.nil
  simp only [List.getElem_toArray, List.getElem_cons_zero, List.getElem_cons_succ]
  rw [if_pos (by rfl)]
  refine wp_copy_text ⟨l6.toArray⟩ (mkC ⟨bo, (n2 : Nat), byX l6, 0⟩) 5 rfl rfl rfl HV10 Tryd.underlying50 (by kernel_rfl) (by exact hb6.out) (by have q := hb6.out; show 2 + _ ≤ 9; omega) ?_ (fun w11 HV11 b11 g11 => ?_)
  · exact mkCopy _ _ _ l6 hl6
  have HR11 := HR10.other HV10 (by decide) (by decide) g11
  have HA11 := HA10.below b11 (by have := HA10.lt; omega)
  have B11 := B10.trans (b11.mono (by omega))
  refine hK.out _ _ ?_ (fun hHeld => ?_)
  · exact trivial
  clear hK K
  (try simp only [Act.put, List.getElem_toArray, List.getElem_cons_zero, List.getElem_cons_succ, List.setIfInBounds_toArray, List.set_cons_zero, List.set_cons_succ])
  refine wpAnyH_done (by kernel_rfl) ?_ _
  refine NoPanic.normal ?_
  clear HR9 HA9 HV9 B9 HR10 HA10 HV10 B10 g10 b11 g11 hHeld
  go_wp2_with fail
  refine (HX6.out HR11).mono ?_
  rintro e w12 ⟨rfl, HR12, g12⟩
  have HA12 := HA11.grown g12 (by simp; omega)
  have HV12 := HV11.grown g12 (by simp; omega)
  have B12 := grown_belowA B11 g12 B11.size (by omega)
  clear HR11 HA11 HV11 B11 g12
  go_wp2_with (refine store_blk (k := 8) 3 (.int .i64 (n4 : Nat)) (mkC ⟨bo, (n2 : Nat), byX l6, (n4 : Nat)⟩) (by rfl) rfl rfl rfl HV12 (by kernel_rfl) (show (8 + 1 : Nat) ≤ 9 by decide) (by rfl) rfl ?_; intro w13 HV13 b13 g13; have HA13 := HA12.below b13 (by omega); have HR13 := HR12.other HV12 (by decide) (by decide) g13; have B13 := B12.trans (b13.mono (by omega)))
  clear HR12 HA12 HV12 B12 b13 g13
  refine (HX7.out HR13).mono ?_
  rintro e w14 ⟨rfl, HR14, g14⟩
  have HA14 := HA13.grown g14 (by simp; omega)
  have HV14 := HV13.grown g14 (by simp; omega)
  have B14 := grown_belowA B13 g14 B13.size (by omega)
  clear HR13 HA13 HV13 B13 g14
  go_wp2_with fail
  refine (HX9.out HR14).mono ?_
  rintro e w15 ⟨rfl, HR15, g15⟩
  have HA15 := HA14.grown g15 (by simp; omega)
  have HV15 := HV14.grown g15 (by simp; omega)
  have B15 := grown_belowA B14 g15 B14.size (by omega)
  clear HR14 HA14 HV14 B14 g15
  go_wp2_with (first
    | (refine load_blk (k := 0) 38 (mkC ⟨bo, (n2 : Nat), byX l6, (n4 : Nat)⟩) (by rfl) rfl rfl HV15 (by kernel_rfl) (by kernel_rfl) rfl ?_)
    | (refine store_blk (k := 0) 38 (.agg (mkC ⟨bo, (n2 : Nat), byX l6, (n4 : Nat)⟩)) (mkC ⟨bo, (n2 : Nat), byX l6, (n4 : Nat)⟩) (by rfl) rfl rfl rfl HA15 (by kernel_rfl) (show (9 : Nat) ≤ 9 from Nat.le_refl 9) (by rfl) rfl ?_; intro wz HZ bz gz; have BZ := B15.trans bz))
  exact bodyPost_ret (results_blk_tmp rfl rfl HZ (by kernel_rfl) (by kernel_rfl)) rfl ⟨by rw [HM.out]; rfl, BZ⟩

set_option maxHeartbeats 6400000 in
theorem mkRead_bad (s : ByteArray) (w : World) (hs : s.size ≤ 100000) (e0 : Int) (x0 : Nat) (h0 : allP s.data.toList mkSt = some (e0, x0)) :
    Calls Tryd.prog 23 #[.string s] w (ReadsAs (mkC zMk) e0 x0 w) := by
  have hb : 0 + s.size ≤ 281474976710656 := by omega
  have hls : s.data.toList.length = s.size := by simp
  have hz : e0 ≠ 0 ∧ (zrR s.data.toList 0 (mk9 s.data.toList)).1 = false ∧ (zrR s.data.toList 0 (mk9 s.data.toList)).2.2 = (e0, (x0 : Int)) := by
    rcases all_ans s.data.toList mkSt mkSt_ok with ⟨h1, _⟩ | ⟨e, x, h1, h2, h3, h4⟩
    · rw [h0] at h1
      cases h1
    · rw [h0] at h1
      obtain ⟨rfl, rfl⟩ : e0 = e ∧ x0 = x := by simpa using h1
      rw [← mk_run]
      exact ⟨h2, h3, h4⟩
  obtain ⟨he, hz, hF0⟩ := hz
  have Q1 : (mk1 s.data.toList).1 ≤ s.data.toList.length := exS_le _ _ _ (Nat.zero_le _)
  have Q2 : (mk2 s.data.toList).1 ≤ s.data.toList.length := exS2_le _ _ _ _ Q1
  have Q3 : (mk3 s.data.toList).1 ≤ s.data.toList.length := exS_le _ _ _ Q2
  have Q4 : (mk4 s.data.toList).1 ≤ s.data.toList.length := nmS_le _ _ _ _ Q3
  have Q5 : (mk5 s.data.toList).1 ≤ s.data.toList.length := tkN_le _ _ _ _ _ Q4
  have Q6 : (mk6 s.data.toList).1 ≤ s.data.toList.length := nmS_le _ _ _ _ Q5
  have Q7 : (mk7 s.data.toList).1 ≤ s.data.toList.length := tkN_le _ _ _ _ _ Q6
  have P1 := Q1
  rw [hls] at P1
  have P2 := Q2
  rw [hls] at P2
  have P3 := Q3
  rw [hls] at P3
  have P4 := Q4
  rw [hls] at P4
  have P5 := Q5
  rw [hls] at P5
  have P6 := Q6
  rw [hls] at P6
  have P7 := Q7
  rw [hls] at P7
  have HX1 : Hid (∀ {g : Nat} {W : World}, RdT W g s 0 (0, 0, -1) → Calls Tryd.prog 35 #[.pointer (some ⟨g, 0, none⟩), .string ⟨#[2, 1]⟩, .slice none 0 0] W fun e w' => e = .returned (.string ⟨(exV s.data.toList (0, 0, -1) [2, 1]).toArray⟩) ∧ RdT w' g s 0 (mk1 s.data.toList) ∧ W.grownBy w' (some g)) := fun {g W} h => exp_t ⟨#[2, 1]⟩ (by decide) _ W h (Nat.zero_le _) hb
  have HX3 : Hid (∀ {g : Nat} {W : World}, RdT W g s 0 (mk2 s.data.toList) → Calls Tryd.prog 35 #[.pointer (some ⟨g, 0, none⟩), .string ⟨#[16]⟩, .slice none 0 0] W fun e w' => e = .returned (.string ⟨(exV s.data.toList (mk2 s.data.toList) [16]).toArray⟩) ∧ RdT w' g s 0 (mk3 s.data.toList) ∧ W.grownBy w' (some g)) := fun {g W} h => exp_t ⟨#[16]⟩ (by decide) _ W h P2 hb
  have HX4 : Hid (∀ {g : Nat} {W : World}, RdT W g s 0 (mk3 s.data.toList) → Calls Tryd.prog 37 #[.pointer (some ⟨g, 0, none⟩), .int .i64 2] W fun e w' => e = .returned (.int .i64 (nmV s.data.toList 0 (mk3 s.data.toList) 2 : Nat)) ∧ RdT w' g s 0 (mk4 s.data.toList) ∧ W.grownBy w' (some g)) := fun {g W} h => numK_t _ 2 (by decide) W h P3 hb
  have HX5 : Hid (∀ {g : Nat} {W : World}, RdT W g s 0 (mk4 s.data.toList) → Calls Tryd.prog 38 #[.pointer (some ⟨g, 0, none⟩), .int .i64 6] W fun e w' => e = .returned (.string ⟨(tkN s.data.toList 0 (mk4 s.data.toList) 6 false).1.toArray⟩) ∧ RdT w' g s 0 (mk5 s.data.toList) ∧ W.grownBy w' (some g)) := fun {g W} h => bytes_t _ 6 W h P4 hb
  have HX6 : Hid (∀ {g : Nat} {W : World}, RdT W g s 0 (mk5 s.data.toList) → Calls Tryd.prog 37 #[.pointer (some ⟨g, 0, none⟩), .int .i64 4] W fun e w' => e = .returned (.int .i64 (nmV s.data.toList 0 (mk5 s.data.toList) 4 : Nat)) ∧ RdT w' g s 0 (mk6 s.data.toList) ∧ W.grownBy w' (some g)) := fun {g W} h => numK_t _ 4 (by decide) W h P5 hb
  have HX7 : Hid (∀ {g : Nat} {W : World}, RdT W g s 0 (mk6 s.data.toList) → Calls Tryd.prog 38 #[.pointer (some ⟨g, 0, none⟩), .int .i64 2] W fun e w' => e = .returned (.string ⟨(tkN s.data.toList 0 (mk6 s.data.toList) 2 false).1.toArray⟩) ∧ RdT w' g s 0 (mk7 s.data.toList) ∧ W.grownBy w' (some g)) := fun {g W} h => bytes_t _ 2 W h P6 hb
  have HX2 : Hid (∀ {g b : Nat} {W : World}, RdT W g s 0 (mk1 s.data.toList) → Blk W b 9 #[.string ⟨#[2]⟩] → Calls Tryd.prog 35 #[.pointer (some ⟨g, 0, none⟩), .string ⟨#[1]⟩, .slice (some ⟨b, 0, none⟩) 1 1] W fun e w' => e = .returned (.string ⟨(exV2 s.data.toList (mk1 s.data.toList) [1] [2]).toArray⟩) ∧ RdT w' g s 0 (mk2 s.data.toList) ∧ W.grownBy w' (some g)) := fun {g b W} h hB => exp2_t ⟨#[1]⟩ ⟨#[2]⟩ (by decide) _ W h hB P1 hb
  have HX9 : Hid (∀ {g : Nat} {W : World}, RdT W g s 0 (mk7 s.data.toList) → Calls Tryd.prog 39 #[.pointer (some ⟨g, 0, none⟩), .int .i64 90] W fun e w' => e = .returned (.bool (zrR s.data.toList 0 (mk9 s.data.toList)).1) ∧ RdT w' g s 0 (zrR s.data.toList 0 (mk9 s.data.toList)).2 ∧ W.grownBy w' (some g)) := fun {g W} h => readEnd_t 90 (by decide) _ W h P7 hb
  rw [hz] at HX9
  have hl6 := tkN_len s.data.toList 0 (mk4 s.data.toList) 6 false
  replace hl6 : (tkN s.data.toList 0 (mk4 s.data.toList) 6 false).1 = [] ∨ (tkN s.data.toList 0 (mk4 s.data.toList) 6 false).1.length = 6 := hl6
  have hF := Lib.hid hF0
  clear hls P1 Q1 P2 Q2 P3 Q3 P4 Q4 P5 Q5 P6 Q6 P7 Q7 hs hb hz h0 hF0
  generalize (tkN s.data.toList 0 (mk4 s.data.toList) 6 false).1 = l6 at *
  generalize nmV s.data.toList 0 (mk3 s.data.toList) 2 = n2 at *
  generalize nmV s.data.toList 0 (mk5 s.data.toList) 4 = n4 at *
  generalize (tkN s.data.toList 0 (mk6 s.data.toList) 2 false).1 = l2 at *
  generalize exV s.data.toList (0, 0, -1) [2, 1] = v1 at *
  generalize exV2 s.data.toList (mk1 s.data.toList) [1] [2] = v2 at *
  generalize exV s.data.toList (mk2 s.data.toList) [16] = v3 at *
  generalize (zrR s.data.toList 0 (mk9 s.data.toList)).2 = t9 at *
  generalize mk7 s.data.toList = t7 at *
  generalize mk6 s.data.toList = t6 at *
  generalize mk5 s.data.toList = t5 at *
  generalize mk4 s.data.toList = t4 at *
  generalize mk3 s.data.toList = t3 at *
  generalize mk2 s.data.toList = t2 at *
  generalize mk1 s.data.toList = t1 at *
  have hb6 := Lib.hid (bytes6 hl6)
  obtain ⟨bo, hbo⟩ : ∃ bo : Bool, bo = (v2 == [2]) := ⟨_, rfl⟩
  have hq : ((⟨v2.toArray⟩ : ByteArray).toList == [2]) = bo := by rw [ByteArray.toList_eq, hbo]
  have hq2 : ((⟨v2.toArray⟩ : ByteArray).toList == (⟨#[2]⟩ : ByteArray).toList) = bo := by rw [ByteArray.toList_eq, hbo, ByteArray.toList_eq]
  obtain ⟨u2, hu2⟩ : ∃ u2 : ByteArray, u2 = ⟨v2.toArray⟩ := ⟨_, rfl⟩
  rw [← hu2] at HX2 hq hq2
  clear hbo hu2
  have HA1 := Blk.new w 38 (mkC zMk)
  have B1 : Below w.heap.size w (w.alloc (.cells (mkC zMk) 38)) := (Below.refl _ _).alloc (Nat.le_refl _) _
  go_enter Tryd.func23, Tryd.ntmps23
  go_upto_region 1 with (refine alloc_blk 38 (mkC zMk) (by rfl) rfl Tryd.mkZero ?_)
  generalize w.alloc (.cells (mkC zMk) 38) = w1 at *
  have hA1 := HA1.lt
  go_wp2_with fail
  refine (new_t s 0 _).mono ?_
  rintro e w2 ⟨rfl, HR2, b2⟩
  have HA2 := HA1.kept b2
  have B2 := B1.trans (b2.mono B1.size)
  have hAg : w.heap.size < w1.heap.size := hA1
  clear HA1 B1 b2
  generalize w1.heap.size = g at *
  clear hA1
  go_wp2_with fail
  refine (HX1.out HR2).mono ?_
  rintro e w3 ⟨rfl, HR3, g3⟩
  have HA3 := HA2.grown g3 (by simp; omega)
  have B3 := grown_belowA B2 g3 B2.size (by omega)
  clear HR2 HA2 B2 g3
  have HY4 := Blk.new w3 9 #[.string ⟨#[2]⟩]
  have HA4 := HA3.alloc (.cells #[.string ⟨#[2]⟩] 9)
  have HR4 := HR3.al (.cells #[.string ⟨#[2]⟩] 9)
  have B4 := B3.alloc B3.size (.cells #[.string ⟨#[2]⟩] 9)
  go_wp2_with fail
  refine (HX2.out HR4 HY4).mono ?_
  rintro e w5 ⟨rfl, HR5, g5⟩
  have HA5 := HA4.grown g5 (by simp; omega)
  have B5 := grown_belowA B4 g5 B4.size (by omega)
  clear HR3 HA3 B3 HY4 HR4 HA4 B4 g5
  have hgV : g < w5.heap.size := HR5.lt
  have HA5b := HA5.alloc (.cells (mkC zMk) 38)
  have HR5b := HR5.al (.cells (mkC zMk) 38)
  have B5b := B5.alloc B5.size (.cells (mkC zMk) 38)
  go_upto_region 4 with (first
    | (refine build_blk (t := 38) (mkC ⟨bo, 0, z6, 0⟩) (by rfl) rfl (by kernel_rfl) ?_)
    | (refine alloc_blk 38 (mkC zMk) (by rfl) rfl Tryd.mkZero ?_)
    | (refine store_blk (k := 0) 38 (.agg (mkC ⟨bo, 0, z6, 0⟩)) (mkC ⟨bo, 0, z6, 0⟩) (by rfl) rfl rfl rfl (Blk.new w5 _ _) (by kernel_rfl) (show (9 : Nat) ≤ 9 from Nat.le_refl 9) (by rfl) rfl ?_; intro w6 HV6 b6 g6))
  (try simp only [Act.put, List.setIfInBounds_toArray, List.set_cons_zero, List.set_cons_succ])
  have HA6 := HA5b.below b6 (by omega)
  have HR6 := HR5b.other (Blk.new w5 _ _) (by decide) (by decide) g6
  have B6 := B5b.trans (b6.mono (by omega))
  clear HR5 HA5 B5 HA5b HR5b B5b b6 g6 hq hq2
  generalize w5.heap.size = V at *
  go_wp2_with fail
  refine (HX3.out HR6).mono ?_
  rintro e w7 ⟨rfl, HR7, g7⟩
  have HA7 := HA6.grown g7 (by simp; omega)
  have HV7 := HV6.grown g7 (by simp; omega)
  have B7 := grown_belowA B6 g7 B6.size (by omega)
  clear HR6 HA6 HV6 B6 g7
  go_wp2_with fail
  refine (HX4.out HR7).mono ?_
  rintro e w8 ⟨rfl, HR8, g8⟩
  have HA8 := HA7.grown g8 (by simp; omega)
  have HV8 := HV7.grown g8 (by simp; omega)
  have B8 := grown_belowA B7 g8 B7.size (by omega)
  clear HR7 HA7 HV7 B7 g8
  go_wp2_with (refine store_blk (k := 1) 3 (.int .i64 (n2 : Nat)) (mkC ⟨bo, (n2 : Nat), z6, 0⟩) (by rfl) rfl rfl rfl HV8 (by kernel_rfl) (show (1 + 1 : Nat) ≤ 9 by decide) (by rfl) rfl ?_; intro w9 HV9 b9 g9; have HA9 := HA8.below b9 (by omega); have HR9 := HR8.other HV8 (by decide) (by decide) g9; have B9 := B8.trans (b9.mono (by omega)))
  clear HR8 HA8 HV8 B8 b9 g9
  (try simp only [Act.put, List.setIfInBounds_toArray, List.set_cons_zero, List.set_cons_succ])
  refine wp_region_noPanic ?_
  refine wp_region_held_drew (S := (fun _ => True)) (by kernel_rfl) ?_ (fun hHeld => ?_)
  · exact trivial
  refine wpAnyH_take (i := 0) (v := ?_) rfl (by kernel_rfl) (by kernel_rfl) (by kernel_rfl) (fun _ _ _ h => h) (Or.inl ⟨by rfl, ?_⟩) (by assumption) ?_
  rotate_left
  · (intro w hSw; (try dsimp only at hSw); go_simp; (try with_reducible rfl))
  (try simp only [Act.put, List.getElem_toArray, List.getElem_cons_zero, List.getElem_cons_succ, List.setIfInBounds_toArray, List.set_cons_zero, List.set_cons_succ])
  refine wpAnyH_take (i := 1) (v := ?_) rfl (by kernel_rfl) (by kernel_rfl) (by kernel_rfl) (fun _ _ _ h => h) (Or.inl ⟨by rfl, ?_⟩) (by assumption) ?_
  rotate_left
  · (intro w hSw; (try dsimp only at hSw); go_simp; (try with_reducible rfl))
  (try simp only [Act.put, List.getElem_toArray, List.getElem_cons_zero, List.getElem_cons_succ, List.setIfInBounds_toArray, List.set_cons_zero, List.set_cons_succ])
  refine wpAnyH_take (i := 2) (v := ?_) rfl (by kernel_rfl) (by kernel_rfl) (by kernel_rfl) (fun _ _ _ h => h) (Or.inl ⟨by rfl, ?_⟩) (by assumption) ?_
  rotate_left
  · (intro w hSw; (try dsimp only at hSw); go_simp; (try with_reducible rfl))
  (try simp only [Act.put, List.getElem_toArray, List.getElem_cons_zero, List.getElem_cons_succ, List.setIfInBounds_toArray, List.set_cons_zero, List.set_cons_succ])
  refine wpAnyH_ready (rs := [3]) (by kernel_rfl) (by simp) ?_
  refine AllReadyH.cons rfl (fun K hK => ?_) AllReadyH.nil
  simp only [List.getElem_toArray, List.getElem_cons_zero, List.getElem_cons_succ]
  go_simp
  go_at_call 38; (refine (HX5.out HR9.drew).mono ?_); rintro e w10 ⟨rfl, HR10, g10⟩; have HA10 := HA9.drew.grown g10 (by simp; omega); have HV10 := HV9.drew.grown g10 (by simp; omega); have B10 := grown_belowA B9.drew g10 B9.size (by omega)
  refine hK.out _ _ ?_ (fun hHeld => ?_)
  · exact trivial
  clear hK K
  (try simp only [Act.put, List.getElem_toArray, List.getElem_cons_zero, List.getElem_cons_succ, List.setIfInBounds_toArray, List.set_cons_zero, List.set_cons_succ])
  refine wpAnyH_ready (rs := [4]) (by kernel_rfl) (by simp) ?_
  refine AllReadyH.cons rfl (fun K hK => ?_) AllReadyH.nil
  simp only [List.getElem_toArray, List.getElem_cons_zero, List.getElem_cons_succ]
  rw [if_pos (by rfl)]
  refine wp_copy_text ⟨l6.toArray⟩ (mkC ⟨bo, (n2 : Nat), byX l6, 0⟩) 5 rfl rfl rfl HV10 Tryd.underlying50 (by kernel_rfl) (by exact hb6.out) (by have q := hb6.out; show 2 + _ ≤ 9; omega) ?_ (fun w11 HV11 b11 g11 => ?_)
  · exact mkCopy _ _ _ l6 hl6
  have HR11 := HR10.other HV10 (by decide) (by decide) g11
  have HA11 := HA10.below b11 (by have := HA10.lt; omega)
  have B11 := B10.trans (b11.mono (by omega))
  refine hK.out _ _ ?_ (fun hHeld => ?_)
  · exact trivial
  clear hK K
  (try simp only [Act.put, List.getElem_toArray, List.getElem_cons_zero, List.getElem_cons_succ, List.setIfInBounds_toArray, List.set_cons_zero, List.set_cons_succ])
  refine wpAnyH_done (by kernel_rfl) ?_ _
  refine NoPanic.normal ?_
  clear HR9 HA9 HV9 B9 HR10 HA10 HV10 B10 g10 b11 g11 hHeld
  go_wp2_with fail
  refine (HX6.out HR11).mono ?_
  rintro e w12 ⟨rfl, HR12, g12⟩
  have HA12 := HA11.grown g12 (by simp; omega)
  have HV12 := HV11.grown g12 (by simp; omega)
  have B12 := grown_belowA B11 g12 B11.size (by omega)
  clear HR11 HA11 HV11 B11 g12
  go_wp2_with (refine store_blk (k := 8) 3 (.int .i64 (n4 : Nat)) (mkC ⟨bo, (n2 : Nat), byX l6, (n4 : Nat)⟩) (by rfl) rfl rfl rfl HV12 (by kernel_rfl) (show (8 + 1 : Nat) ≤ 9 by decide) (by rfl) rfl ?_; intro w13 HV13 b13 g13; have HA13 := HA12.below b13 (by omega); have HR13 := HR12.other HV12 (by decide) (by decide) g13; have B13 := B12.trans (b13.mono (by omega)))
  clear HR12 HA12 HV12 B12 b13 g13
  refine (HX7.out HR13).mono ?_
  rintro e w14 ⟨rfl, HR14, g14⟩
  have HA14 := HA13.grown g14 (by simp; omega)
  have HV14 := HV13.grown g14 (by simp; omega)
  have B14 := grown_belowA B13 g14 B13.size (by omega)
  clear HR13 HA13 HV13 B13 g14
  go_wp2_with fail
  refine (HX9.out HR14).mono ?_
  rintro e w15 ⟨rfl, HR15, g15⟩
  have HA15 := HA14.grown g15 (by simp; omega)
  have HV15 := HV14.grown g15 (by simp; omega)
  have B15 := grown_belowA B14 g15 B14.size (by omega)
  clear HR14 HA14 HV14 B14 g15
  have hne : t9.2.1 ≠ 0 := by rw [hF.out]; exact he
  go_wp2_with (refine build_blk (t := 38) (mkC zMk) (by rfl) rfl (by kernel_rfl) ?_)
  refine (err_t t9 _ HR15 hne).mono ?_
  rintro e wy ⟨rfl, hf, by_⟩
  have HAy := HA15.kept by_
  have By := B15.trans (by_.mono B15.size)
  have hlt : w.heap.size ≠ w15.heap.size := by have := HA15.lt; omega
  rw [hF.out] at hf
  clear HR15 HA15 HV15 B15 by_ hne hF
  go_wp2_with (refine store_blk (k := 0) 38 (.agg (mkC zMk)) (mkC zMk) (by rfl) rfl rfl rfl HAy (by kernel_rfl) (show (9 : Nat) ≤ 9 from Nat.le_refl 9) (by rfl) rfl ?_; intro wz HZ bz gz; have BZ := By.trans bz)
  have hfz := hf.kept gz (by simpa using Ne.symm hlt)
  exact bodyPost_ret (results_blk_tmp rfl rfl HZ (by kernel_rfl) (by kernel_rfl)) rfl ⟨_, rfl, Or.inr ⟨he, _, rfl, hfz⟩, BZ⟩


end Go.Proofs.YtocgnbbnaamjjaaDoor
