/- A fact on package lacp: what both sides know, and a marker, written and read. -/
import Derived.Test.YtocgnbbnaamjjaaDoorLcWrite
import Derived.Test.YtocgnbbnaamjjaaDoorMkWrite
import Derived.Test.YtocgnbbnaamjjaaDoorLcRead
import Derived.Test.YtocgnbbnaamjjaaDoorMkRead
namespace Go.Proofs.YtocgnbbnaamjjaaDoor
open Go.RowKit
attribute [local go_sem ↓] Go.wp_at_zero Go.wp_at_succ
set_option linter.unusedSimpArgs false
set_option linter.unusedVariables false
set_option maxRecDepth 100000

theorem lcRead_back (x : Lc) (hx : okLc x = true) (hb : byLc x) (w : World) : Calls Tryd.prog 21 #[.string ⟨(lcL x).toArray⟩] w fun e w' => e = .returned (.tuple #[.agg (lcC x), .nilIface]) ∧ Below w.heap.size w w' := by
  obtain ⟨h1, h2⟩ := lc_back x hx hb
  have q := lcRead_ok ⟨(lcL x).toArray⟩ w (by show (lcL x).toArray.size ≤ _; rw [List.size_toArray, lcL_len]; decide) (all_end h1 (by rw [lcL_len]; rfl))
  rw [show (⟨(lcL x).toArray⟩ : ByteArray).data.toList = lcL x from rfl, lcC_congr h2] at q
  exact q

theorem mkRead_back (x : Mk) (hx : okMk x = true) (hb : byMk x) (w : World) : Calls Tryd.prog 23 #[.string ⟨(mkL x).toArray⟩] w fun e w' => e = .returned (.tuple #[.agg (mkC x), .nilIface]) ∧ Below w.heap.size w w' := by
  obtain ⟨h1, h2⟩ := mk_back x hx hb
  have q := mkRead_ok ⟨(mkL x).toArray⟩ w (by show (mkL x).toArray.size ≤ _; rw [List.size_toArray, mkL_len]; decide) (all_end h1 (by rw [mkL_len]; rfl))
  rw [show (⟨(mkL x).toArray⟩ : ByteArray).data.toList = mkL x from rfl, mkC_congr h2] at q
  exact q

def fLc : Lc := ⟨⟨1, z6, 0, 0, 0, 61⟩, ⟨0, z6, 2, 0, 0, 0⟩, 3⟩

def fMk : Mk := ⟨false, 1, z6, 9⟩

theorem fLc_ok : okLc fLc = true := by decide

theorem fMk_ok : okMk fMk = true := by decide

theorem fLc_by : byLc fLc := ⟨fun _ => (by decide : (0 : Nat) < 256), fun _ => (by decide : (0 : Nat) < 256)⟩

theorem fMk_by : byMk fMk := fun _ => (by decide : (0 : Nat) < 256)

theorem fLc_rg : rgLc fLc := by unfold rgLc rgPy i64R fLc; decide

theorem fMk_rg : rgMk fMk := by unfold rgMk i64R fMk; decide

set_option maxHeartbeats 6400000 in
theorem linked_any (w : World) : Calls Tryd.prog 19 #[] w fun e w' => e = .returned (.bool true) ∧ Below w.heap.size w w' := by
  have hnn : ∀ w : World, (binOp BinOp.eql 32 .nilIface .nilIface).run Tryd.prog w = .ok (.bool true) w := fun _ => by kernel_rfl
  have HW1 := Lib.hid (fun W => lcWrite_yes fLc fLc_ok fLc_by fLc_rg W)
  have HR1 := Lib.hid (fun W => lcRead_back fLc fLc_ok fLc_by W)
  have HW2 := Lib.hid (fun W => mkWrite_yes fMk fMk_ok fMk_by fMk_rg W)
  have HR2 := Lib.hid (fun W => mkRead_back fMk fMk_ok fMk_by W)
  have HQ1 := Lib.hid (run_eqv_lc fLc fLc (eqvLc.refl _))
  have HQ2 := Lib.hid (run_eqv_mk fMk fMk (eqvMk.refl _))
  have l1 := lcL_len fLc
  have l2 := mkL_len fMk
  obtain ⟨s1, hs1⟩ : ∃ s : ByteArray, s = ⟨(lcL fLc).toArray⟩ := ⟨_, rfl⟩
  obtain ⟨s2, hs2⟩ : ∃ s : ByteArray, s = ⟨(mkL fMk).toArray⟩ := ⟨_, rfl⟩
  rw [← hs1] at HW1 HR1
  rw [← hs2] at HW2 HR2
  have z1 : s1.size = 110 := by rw [hs1]; show (lcL fLc).toArray.size = _; rw [List.size_toArray, l1]
  have z2 : s2.size = 110 := by rw [hs2]; show (mkL fMk).toArray.size = _; rw [List.size_toArray, l2]
  have d1 : ((s1.size : Int) == 110) = true := by rw [z1]; rfl
  have d2 : ((s2.size : Int) == 110) = true := by rw [z2]; rfl
  clear hs1 hs2 l1 l2 z1 z2
  have B1 : Below w.heap.size w (w.alloc (.cells (lcC zLc) 27)) := (Below.refl _ _).alloc (Nat.le_refl _) _
  go_enter Tryd.func19, Tryd.ntmps19
  go_upto_region 2 with (first
    | (refine build_blk (o := ⟨some 10, _, _, _, _, _⟩) (t := 25) (pyC fLc.a) (by rfl) rfl (by kernel_rfl) ?_)
    | (refine build_blk (o := ⟨some 11, _, _, _, _, _⟩) (t := 25) (pyC fLc.p) (by rfl) rfl (by kernel_rfl) ?_)
    | (refine build_blk (t := 27) (lcC fLc) (by rfl) rfl (by kernel_rfl) ?_)
    | (refine alloc_blk 27 (lcC zLc) (by rfl) rfl Tryd.lcZero ?_)
    | (refine store_blk (k := 0) 27 (.agg (lcC fLc)) (lcC fLc) (by rfl) rfl rfl rfl (Blk.new w _ _) (by kernel_rfl) (show (23 : Nat) ≤ 23 from Nat.le_refl 23) (by rfl) (st_wholeL _ _ rfl) ?_; intro w1 HVw1 bw1 gw1))
  (try simp only [Act.put, List.setIfInBounds_toArray, List.set_cons_zero, List.set_cons_succ])
  replace B1 := B1.trans bw1
  clear bw1 gw1
  go_wp2_with (refine load_blk (k := 0) 27 (lcC fLc) (by rfl) rfl rfl HVw1 (by kernel_rfl) (by kernel_rfl) rfl ?_)
  refine (HW1.out _).mono ?_
  rintro e w2 ⟨rfl, k2⟩
  have HA2 := HVw1.kept k2
  have B2 := B1.trans (k2.mono B1.size)
  clear HVw1 B1 k2
  go_wp2_with fail
  refine (HR1.out _).mono ?_
  rintro e w3 ⟨rfl, k3⟩
  have HA3 := HA2.kept k3
  have B3 := B2.trans (k3.mono B2.size)
  have hA3 : w.heap.size < w3.heap.size := HA3.lt
  clear HA2 B2 k3
  go_wp2_with (first
    | (refine alloc_blk 27 (lcC zLc) (by rfl) rfl Tryd.lcZero ?_)
    | (refine store_blk (k := 0) 27 (.agg (lcC fLc)) (lcC fLc) (by rfl) rfl rfl rfl (Blk.new w3 _ _) (by kernel_rfl) (show (23 : Nat) ≤ 23 from Nat.le_refl 23) (by rfl) (st_wholeL _ _ rfl) ?_; intro w4 HVw4 bw4 gw4; have HA4 := (HA3.alloc (.cells (lcC zLc) 27)).below bw4 hA3; have B4 := (B3.alloc B3.size (.cells (lcC zLc) 27)).trans (bw4.mono B3.size))
    | (refine build_blk (t := 38) (mkC fMk) (by rfl) rfl (by kernel_rfl) ?_))
  clear HA3 B3 bw4 gw4
  generalize w3.heap.size = P at *
  refine (HW2.out _).mono ?_
  rintro e w5 ⟨rfl, k5⟩
  have HA5 := HA4.kept k5
  have HV5 := HVw4.kept k5
  have B5 := B4.trans (k5.mono B4.size)
  clear HA4 HVw4 B4 k5
  go_wp2_with fail
  refine (HR2.out _).mono ?_
  rintro e w6 ⟨rfl, k6⟩
  have HA6 := HA5.kept k6
  have HV6 := HV5.kept k6
  have B6 := B5.trans (k6.mono B5.size)
  have hA6 : w.heap.size < w6.heap.size := HA6.lt
  have hV6 : P < w6.heap.size := HV6.lt
  clear HA5 HV5 B5 k6
  go_upto_region 6 with (first
    | (refine alloc_blk 38 (mkC zMk) (by rfl) rfl Tryd.mkZero ?_)
    | (refine store_blk (k := 0) 38 (.agg (mkC fMk)) (mkC fMk) (by rfl) rfl rfl rfl (Blk.new w6 _ _) (by kernel_rfl) (show (9 : Nat) ≤ 9 from Nat.le_refl 9) (by rfl) (st_wholeL _ _ rfl) ?_; intro w7 HVw7 bw7 gw7; have HA7 := (HA6.alloc (.cells (mkC zMk) 38)).below bw7 hA6; have HP7 := (HV6.alloc (.cells (mkC zMk) 38)).below bw7 hV6; have B7 := (B6.alloc B6.size (.cells (mkC zMk) 38)).trans (bw7.mono B6.size)))
  (try simp only [Act.put, List.setIfInBounds_toArray, List.set_cons_zero, List.set_cons_succ])
  clear HA6 HV6 B6 bw7 gw7
  go_wp2_with (first
    | (refine load_blk (k := 0) 27 (lcC fLc) (by rfl) rfl rfl HP7 (by kernel_rfl) (by kernel_rfl) rfl ?_)
    | (refine load_blk (k := 0) 27 (lcC fLc) (by rfl) rfl rfl HA7 (by kernel_rfl) (by kernel_rfl) rfl ?_)
    | (refine eq_blk .eql 27 (lcC fLc) (lcC fLc) true (by rfl) rfl (Or.inl rfl) rfl rfl (by kernel_rfl) (HQ1.out _) ?_)
    | (refine load_blk (k := 0) 38 (mkC fMk) (by rfl) rfl rfl HVw7 (by kernel_rfl) (by kernel_rfl) rfl ?_)
    | (refine build_blk (t := 38) (mkC fMk) (by rfl) rfl (by kernel_rfl) ?_)
    | (refine eq_blk .eql 38 (mkC fMk) (mkC fMk) true (by rfl) rfl (Or.inl rfl) rfl rfl (by kernel_rfl) (HQ2.out _) ?_))
  go_ret
  exact ⟨rfl, B7⟩

end Go.Proofs.YtocgnbbnaamjjaaDoor
