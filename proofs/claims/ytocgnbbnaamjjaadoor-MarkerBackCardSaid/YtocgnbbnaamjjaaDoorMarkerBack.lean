/- switchyardkeep.MarkerBack returns true at every marker, and changes nothing that was there. -/
import Derived.Test.YtocgnbbnaamjjaaDoorLinked
import Derived.Test.YtocgnbbnaamjjaaDoorPlace
namespace Go.Proofs.YtocgnbbnaamjjaaDoor.markerBack
open Go.RowKit
attribute [local go_sem ↓] Go.wp_at_zero Go.wp_at_succ
set_option linter.unusedSimpArgs false
set_option linter.unusedVariables false
set_option maxRecDepth 100000

set_option maxHeartbeats 12800000 in
theorem walk (m : Mk) (hb : byMk m) (hr : rgMk m) (w : World) (hE : HasErr w) :
    Calls Tryd.prog 8 #[.agg (mkC m)] w fun e w' => e = .returned (.bool true) ∧ Below w.heap.size w w' := by
  have hnn : ∀ w : World, (binOp BinOp.eql 32 .nilIface .nilIface).run Tryd.prog w = .ok (.bool true) w := fun _ => by kernel_rfl
  have hn2 : ∀ w : World, (binOp BinOp.neq 32 .nilIface .nilIface).run Tryd.prog w = .ok (.bool false) w := fun _ => by kernel_rfl
  have HA := Blk.new w 38 (mkC m)
  have B0 : Below w.heap.size w (w.alloc (.cells (mkC m) 38)) := (Below.refl _ _).alloc (Nat.le_refl _) _
  have HR := Lib.hid (fun W => mkRight_any m hr W)
  cases hok : okMk m with
  | false =>
    have HW := Lib.hid (fun W => mkWrite_no m hok hr W)
    rw [hok] at HR
    go_enter Tryd.func8, Tryd.ntmps8
    go_upto_region 1 with (fail)
    generalize (w.alloc (.cells (mkC m) 38)) = w1 at *
    go_wp2_with fail
    refine (linked_any _).mono ?_
    rintro e w2 ⟨rfl, k2⟩
    have HA2 := HA.kept k2
    have B2 := B0.trans (k2.mono B0.size)
    clear HA B0 k2
    go_wp2_with (refine load_blk (k := 0) 38 (mkC m) (by rfl) rfl rfl HA2 (by kernel_rfl) (by kernel_rfl) rfl ?_)
    refine (HW.out _).mono ?_
    rintro e w3 ⟨rfl, k3⟩
    have HA3 := HA2.kept k3
    have B3 := B2.trans (k3.mono B2.size)
    clear HA2 B2 k3
    go_wp2_with (refine load_blk (k := 0) 38 (mkC m) (by rfl) rfl rfl HA3 (by kernel_rfl) (by kernel_rfl) rfl ?_)
    refine (HR.out _).mono ?_
    rintro e w4 ⟨rfl, k4⟩
    have HA4 := HA3.kept k4
    have B4 := B3.trans (k4.mono B3.size)
    clear HA3 B3 k4
    go_wp2_with fail
    refine (tell_errno 1 _ (hE.below B4)).mono ?_
    rintro e w5 ⟨rfl, k5⟩
    go_wp2
    go_ret
    exact ⟨rfl, B4.trans (k5.mono B4.size)⟩
  | true =>
    have HW := Lib.hid (fun W => mkWrite_yes m hok hb hr W)
    have HRd := Lib.hid (fun W => mkRead_back m hok hb W)
    have HQ := Lib.hid (run_eqv_mk m m (eqvMk.refl _))
    rw [hok] at HR
    have l1 := mkL_len m
    obtain ⟨s1, hs1⟩ : ∃ s : ByteArray, s = ⟨(mkL m).toArray⟩ := ⟨_, rfl⟩
    rw [← hs1] at HW HRd
    have z1 : s1.size = 110 := by rw [hs1]; show (mkL m).toArray.size = _; rw [List.size_toArray, l1]
    have d1 : ((s1.size : Int) == 110) = true := by rw [z1]; rfl
    have d2 : ((s1.size : Int) != 110) = false := by rw [z1]; rfl
    clear hs1 l1 z1
    cases hre : m.re with
    | true =>
      have HAN := Lib.hid (fun W => answer_no m hre W)
      have HRE : Hid (∀ W : World, Blk W w.heap.size 38 (mkC m) → W.cell? ⟨w.heap.size, 0, none⟩ = some (.bool true)) := fun W h => by rw [← hre]; exact h.c 0
      clear hre hok hb hr
      go_enter Tryd.func8, Tryd.ntmps8
      go_upto_region 1 with (fail)
      generalize (w.alloc (.cells (mkC m) 38)) = w1 at *
      go_wp2_with fail
      refine (linked_any _).mono ?_
      rintro e w2 ⟨rfl, k2⟩
      have HA2 := HA.kept k2
      have B2 := B0.trans (k2.mono B0.size)
      clear HA B0 k2
      go_wp2_with (refine load_blk (k := 0) 38 (mkC m) (by rfl) rfl rfl HA2 (by kernel_rfl) (by kernel_rfl) rfl ?_)
      refine (HW.out _).mono ?_
      rintro e w3 ⟨rfl, k3⟩
      have HA3 := HA2.kept k3
      have B3 := B2.trans (k3.mono B2.size)
      clear HA2 B2 k3
      go_wp2_with (refine load_blk (k := 0) 38 (mkC m) (by rfl) rfl rfl HA3 (by kernel_rfl) (by kernel_rfl) rfl ?_)
      refine (HR.out _).mono ?_
      rintro e w4 ⟨rfl, k4⟩
      have HA4 := HA3.kept k4
      have B4 := B3.trans (k4.mono B3.size)
      clear HA3 B3 k4
      go_wp2_with fail
      refine (HRd.out _).mono ?_
      rintro e w5 ⟨rfl, k5⟩
      have HA5 := HA4.kept k5
      have B5 := B4.trans (k5.mono B4.size)
      clear HA4 B4 k5
      have hA5 : w.heap.size < w5.heap.size := HA5.lt
      go_wp2_with (first
        | (refine alloc_blk 38 (mkC zMk) (by rfl) rfl Tryd.mkZero ?_)
        | (refine store_blk (k := 0) 38 (.agg (mkC m)) (mkC m) (by rfl) rfl rfl rfl (Blk.new w5 _ _) (by kernel_rfl) (show (9 : Nat) ≤ 9 from Nat.le_refl 9) (by rfl) (st_wholeL _ _ rfl) ?_; intro w6 HVw6 bw6 gw6; have HA6 := (HA5.alloc (.cells (mkC zMk) 38)).below bw6 hA5; have B6 := (B5.alloc B5.size (.cells (mkC zMk) 38)).trans (bw6.mono B5.size))
        | (refine load_blk (k := 0) 38 (mkC m) (by rfl) rfl rfl HA6 (by kernel_rfl) (by kernel_rfl) rfl ?_))
      clear HA5 B5 bw6 gw6
      generalize w5.heap.size = P at *
      refine (HAN.out _).mono ?_
      rintro e w7 ⟨rfl, k7⟩
      have HA7 := HA6.kept k7
      have HP7 := HVw6.kept k7
      have B7 := B6.trans (k7.mono B6.size)
      have hA7 : w.heap.size < w7.heap.size := HA7.lt
      have hP7 : P < w7.heap.size := HP7.lt
      clear HA6 HVw6 B6 k7
      go_upto_region 8 with (first
        | (refine alloc_blk 38 (mkC zMk) (by rfl) rfl Tryd.mkZero ?_)
        | (refine store_blk (k := 0) 38 (.agg (mkC zMk)) (mkC zMk) (by rfl) rfl rfl rfl (Blk.new w7 _ _) (by kernel_rfl) (show (9 : Nat) ≤ 9 from Nat.le_refl 9) (by rfl) (st_wholeL _ _ rfl) ?_; intro w8 HVw8 bw8 gw8; have HA8 := (HA7.alloc (.cells (mkC zMk) 38)).below bw8 hA7; have HP8 := (HP7.alloc (.cells (mkC zMk) 38)).below bw8 hP7; have B8 := (B7.alloc B7.size (.cells (mkC zMk) 38)).trans (bw8.mono B7.size)))
      (try simp only [Act.put, List.setIfInBounds_toArray, List.set_cons_zero, List.set_cons_succ])
      clear HA7 HP7 B7 bw8 gw8 hA7 hP7
      generalize w7.heap.size = V at *
      have c0 := HRE.out _ HA8
      have HE8 := hE.below B8
      go_wp2_with (first
        | (refine load_blk (k := 0) 38 (mkC m) (by rfl) rfl rfl HP8 (by kernel_rfl) (by kernel_rfl) rfl ?_)
        | (refine load_blk (k := 0) 38 (mkC m) (by rfl) rfl rfl HA8 (by kernel_rfl) (by kernel_rfl) rfl ?_)
        | (refine eq_blk .neq 38 (mkC m) (mkC m) true (by rfl) rfl (Or.inr rfl) rfl rfl (by kernel_rfl) (HQ.out _) ?_))
      refine (tell_errno 6 _ HE8).mono ?_
      rintro e w9 ⟨rfl, k9⟩
      go_wp2
      go_ret
      exact ⟨rfl, B8.trans (k9.mono B8.size)⟩
    | false =>
      have HAN := Lib.hid (fun W => answer_yes m hre W)
      have HA2' := Lib.hid (fun W => answer_no ⟨true, m.po, m.sy, m.tx⟩ rfl W)
      have HRA := Lib.hid (fun W => mkRight_any ⟨true, m.po, m.sy, m.tx⟩ hr W)
      rw [show okMk ⟨true, m.po, m.sy, m.tx⟩ = true from hok] at HRA
      have HRE : Hid (∀ W : World, Blk W w.heap.size 38 (mkC m) → W.cell? ⟨w.heap.size, 0, none⟩ = some (.bool false)) := fun W h => by rw [← hre]; exact h.c 0
      have q1 : (m.tx == m.tx) = true := by simp
      have q2 : (m.po == m.po) = true := by simp
      have HQA : Hid (∀ W, (Op.equalIn 10000 23 (.agg (c6 m.sy)) (.agg (c6 m.sy))).run Tryd.prog W = .ok true W) := fun W => by
        have h := run_eql_c6 9998 m.sy m.sy W
        rw [eqN_refl] at h
        exact h
      clear hre hok hb hr
      go_enter Tryd.func8, Tryd.ntmps8
      go_upto_region 1 with (fail)
      generalize (w.alloc (.cells (mkC m) 38)) = w1 at *
      go_wp2_with fail
      refine (linked_any _).mono ?_
      rintro e w2 ⟨rfl, k2⟩
      have HA2 := HA.kept k2
      have B2 := B0.trans (k2.mono B0.size)
      clear HA B0 k2
      go_wp2_with (refine load_blk (k := 0) 38 (mkC m) (by rfl) rfl rfl HA2 (by kernel_rfl) (by kernel_rfl) rfl ?_)
      refine (HW.out _).mono ?_
      rintro e w3 ⟨rfl, k3⟩
      have HA3 := HA2.kept k3
      have B3 := B2.trans (k3.mono B2.size)
      clear HA2 B2 k3
      go_wp2_with (refine load_blk (k := 0) 38 (mkC m) (by rfl) rfl rfl HA3 (by kernel_rfl) (by kernel_rfl) rfl ?_)
      refine (HR.out _).mono ?_
      rintro e w4 ⟨rfl, k4⟩
      have HA4 := HA3.kept k4
      have B4 := B3.trans (k4.mono B3.size)
      clear HA3 B3 k4
      go_wp2_with fail
      refine (HRd.out _).mono ?_
      rintro e w5 ⟨rfl, k5⟩
      have HA5 := HA4.kept k5
      have B5 := B4.trans (k5.mono B4.size)
      clear HA4 B4 k5
      have hA5 : w.heap.size < w5.heap.size := HA5.lt
      go_wp2_with (first
        | (refine alloc_blk 38 (mkC zMk) (by rfl) rfl Tryd.mkZero ?_)
        | (refine store_blk (k := 0) 38 (.agg (mkC m)) (mkC m) (by rfl) rfl rfl rfl (Blk.new w5 _ _) (by kernel_rfl) (show (9 : Nat) ≤ 9 from Nat.le_refl 9) (by rfl) (st_wholeL _ _ rfl) ?_; intro w6 HVw6 bw6 gw6; have HA6 := (HA5.alloc (.cells (mkC zMk) 38)).below bw6 hA5; have B6 := (B5.alloc B5.size (.cells (mkC zMk) 38)).trans (bw6.mono B5.size))
        | (refine load_blk (k := 0) 38 (mkC m) (by rfl) rfl rfl HA6 (by kernel_rfl) (by kernel_rfl) rfl ?_))
      clear HA5 B5 bw6 gw6
      generalize w5.heap.size = P at *
      refine (HAN.out _).mono ?_
      rintro e w7 ⟨rfl, k7⟩
      have HA7 := HA6.kept k7
      have HP7 := HVw6.kept k7
      have B7 := B6.trans (k7.mono B6.size)
      have hA7 : w.heap.size < w7.heap.size := HA7.lt
      have hP7 : P < w7.heap.size := HP7.lt
      clear HA6 HVw6 B6 k7
      go_upto_region 8 with (first
        | (refine alloc_blk 38 (mkC zMk) (by rfl) rfl Tryd.mkZero ?_)
        | (refine store_blk (k := 0) 38 (.agg (mkC ⟨true, m.po, m.sy, m.tx⟩)) (mkC ⟨true, m.po, m.sy, m.tx⟩) (by rfl) rfl rfl rfl (Blk.new w7 _ _) (by kernel_rfl) (show (9 : Nat) ≤ 9 from Nat.le_refl 9) (by rfl) (st_wholeL _ _ rfl) ?_; intro w8 HVw8 bw8 gw8; have HA8 := (HA7.alloc (.cells (mkC zMk) 38)).below bw8 hA7; have HP8 := (HP7.alloc (.cells (mkC zMk) 38)).below bw8 hP7; have B8 := (B7.alloc B7.size (.cells (mkC zMk) 38)).trans (bw8.mono B7.size)))
      (try simp only [Act.put, List.setIfInBounds_toArray, List.set_cons_zero, List.set_cons_succ])
      clear HA7 HP7 B7 bw8 gw8 hA7 hP7
      generalize w7.heap.size = V at *
      have c0 := HRE.out _ HA8
      have HE8 := hE.below B8
      go_wp2_with (first
        | (refine load_blk (k := 0) 38 (mkC m) (by rfl) rfl rfl HP8 (by kernel_rfl) (by kernel_rfl) rfl ?_)
        | (refine load_blk (k := 0) 38 (mkC m) (by rfl) rfl rfl HA8 (by kernel_rfl) (by kernel_rfl) rfl ?_)
        | (refine eq_blk .neq 38 (mkC m) (mkC m) true (by rfl) rfl (Or.inr rfl) rfl rfl (by kernel_rfl) (HQ.out _) ?_)
        | (refine load_blk (k := 0) 38 (mkC ⟨true, m.po, m.sy, m.tx⟩) (by rfl) rfl rfl HVw8 (by kernel_rfl) (by kernel_rfl) rfl ?_))
      refine (HA2'.out _).mono ?_
      rintro e w9 ⟨rfl, k9⟩
      have HA9 := HA8.kept k9
      have HV9 := HVw8.kept k9
      have B9 := B8.trans (k9.mono B8.size)
      have hA9 : w.heap.size < w9.heap.size := HA9.lt
      have hV9 : V < w9.heap.size := HV9.lt
      clear HA8 HVw8 HP8 B8 k9 c0 HE8
      go_upto_region 13 with (first
        | (refine alloc_blk 38 (mkC zMk) (by rfl) rfl Tryd.mkZero ?_)
        | (refine store_blk (k := 0) 38 (.agg (mkC zMk)) (mkC zMk) (by rfl) rfl rfl rfl (Blk.new w9 _ _) (by kernel_rfl) (show (9 : Nat) ≤ 9 from Nat.le_refl 9) (by rfl) (st_wholeL _ _ rfl) ?_; intro w10 HVw10 bw10 gw10; have HA10 := (HA9.alloc (.cells (mkC zMk) 38)).below bw10 hA9; have HV10 := (HV9.alloc (.cells (mkC zMk) 38)).below bw10 hV9; have B10 := (B9.alloc B9.size (.cells (mkC zMk) 38)).trans (bw10.mono B9.size)))
      (try simp only [Act.put, List.setIfInBounds_toArray, List.set_cons_zero, List.set_cons_succ])
      clear HA9 HV9 B9 bw10 gw10 hA9 hV9
      go_wp2_with (refine load_blk (k := 0) 38 (mkC ⟨true, m.po, m.sy, m.tx⟩) (by rfl) rfl rfl HV10 (by kernel_rfl) (by kernel_rfl) rfl ?_)
      refine (HRA.out _).mono ?_
      rintro e w11 ⟨rfl, k11⟩
      have HA11 := HA10.kept k11
      have HV11 := HV10.kept k11
      have B11 := B10.trans (k11.mono B10.size)
      clear HA10 HV10 B10 k11
      have v0 := HV11.cv 0 (.bool true) rfl
      have v1 := HV11.cv 1 (.int .i64 m.po) rfl
      have v8 := HV11.cv 8 (.int .i64 m.tx) rfl
      have a1 := HA11.cv 1 (.int .i64 m.po) rfl
      have a8 := HA11.cv 8 (.int .i64 m.tx) rfl
      have HE11 := hE.below B11
      go_wp2_with (first
        | (refine load_blk (k := 2) 23 (c6 m.sy) (by rfl) rfl rfl HV11 (by kernel_rfl) (by kernel_rfl) rfl ?_)
        | (refine load_blk (k := 2) 23 (c6 m.sy) (by rfl) rfl rfl HA11 (by kernel_rfl) (by kernel_rfl) rfl ?_)
        | (refine eq_blk .eql 23 (c6 m.sy) (c6 m.sy) true (by rfl) rfl (Or.inl rfl) rfl rfl (by kernel_rfl) (HQA.out _) ?_))
      refine (tell_errno 6 _ HE11).mono ?_
      rintro e w12 ⟨rfl, k12⟩
      go_wp2
      go_ret
      exact ⟨rfl, B11.trans (k12.mono B11.size)⟩

end Go.Proofs.YtocgnbbnaamjjaaDoor.markerBack
