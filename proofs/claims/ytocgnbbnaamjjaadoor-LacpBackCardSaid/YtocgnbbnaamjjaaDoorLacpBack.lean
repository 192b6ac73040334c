/- switchyardkeep.LacpBack returns true at everything that both sides may know, and changes nothing that was there. -/
import Derived.Test.YtocgnbbnaamjjaaDoorLinked
import Derived.Test.YtocgnbbnaamjjaaDoorPlace
namespace Go.Proofs.YtocgnbbnaamjjaaDoor.lacpBack
open Go.RowKit
attribute [local go_sem ↓] Go.wp_at_zero Go.wp_at_succ
set_option linter.unusedSimpArgs false
set_option linter.unusedVariables false
set_option maxRecDepth 100000

set_option maxHeartbeats 6400000 in
theorem walk (l : Lc) (hb : byLc l) (hr : rgLc l) (w : World) (hE : HasErr w) :
    Calls Tryd.prog 6 #[.agg (lcC l)] w fun e w' => e = .returned (.bool true) ∧ Below w.heap.size w w' := by
  have hnn : ∀ w : World, (binOp BinOp.eql 32 .nilIface .nilIface).run Tryd.prog w = .ok (.bool true) w := fun _ => by kernel_rfl
  have HA := Blk.new w 27 (lcC l)
  have B0 : Below w.heap.size w (w.alloc (.cells (lcC l) 27)) := (Below.refl _ _).alloc (Nat.le_refl _) _
  have HR := Lib.hid (fun W => lcRight_any l hr W)
  cases hok : okLc l with
  | false =>
    have HW := Lib.hid (fun W => lcWrite_no l hok hr W)
    rw [hok] at HR
    go_enter Tryd.func6, Tryd.ntmps6
    go_upto_region 1 with (fail)
    generalize (w.alloc (.cells (lcC l) 27)) = w1 at *
    go_wp2_with fail
    refine (linked_any _).mono ?_
    rintro e w2 ⟨rfl, k2⟩
    have HA2 := HA.kept k2
    have B2 := B0.trans (k2.mono B0.size)
    clear HA B0 k2
    go_wp2_with (refine load_blk (k := 0) 27 (lcC l) (by rfl) rfl rfl HA2 (by kernel_rfl) (by kernel_rfl) rfl ?_)
    refine (HW.out _).mono ?_
    rintro e w3 ⟨rfl, k3⟩
    have HA3 := HA2.kept k3
    have B3 := B2.trans (k3.mono B2.size)
    clear HA2 B2 k3
    go_wp2_with (refine load_blk (k := 0) 27 (lcC l) (by rfl) rfl rfl HA3 (by kernel_rfl) (by kernel_rfl) rfl ?_)
    refine (HR.out _).mono ?_
    rintro e w4 ⟨rfl, k4⟩
    have HA4 := HA3.kept k4
    have B4 := B3.trans (k4.mono B3.size)
    clear HA3 B3 k4
    go_wp2_with fail
    refine (tell_errno 1 _ (hE.below B4)).mono ?_
    rintro e w5 ⟨rfl, k5⟩
    go_wp2
    go_ret
    exact ⟨rfl, B4.trans (k5.mono B4.size)⟩
  | true =>
    have HW := Lib.hid (fun W => lcWrite_yes l hok hb hr W)
    have HRd := Lib.hid (fun W => lcRead_back l hok hb W)
    have HQ := Lib.hid (run_eqv_lc l l (eqvLc.refl _))
    rw [hok] at HR
    have l1 := lcL_len l
    obtain ⟨s1, hs1⟩ : ∃ s : ByteArray, s = ⟨(lcL l).toArray⟩ := ⟨_, rfl⟩
    rw [← hs1] at HW HRd
    have z1 : s1.size = 110 := by rw [hs1]; show (lcL l).toArray.size = _; rw [List.size_toArray, l1]
    have d1 : ((s1.size : Int) == 110) = true := by rw [z1]; rfl
    clear hs1 l1 z1 hok hb hr
    go_enter Tryd.func6, Tryd.ntmps6
    go_upto_region 1 with (fail)
    generalize (w.alloc (.cells (lcC l) 27)) = w1 at *
    go_wp2_with fail
    refine (linked_any _).mono ?_
    rintro e w2 ⟨rfl, k2⟩
    have HA2 := HA.kept k2
    have B2 := B0.trans (k2.mono B0.size)
    clear HA B0 k2
    go_wp2_with (refine load_blk (k := 0) 27 (lcC l) (by rfl) rfl rfl HA2 (by kernel_rfl) (by kernel_rfl) rfl ?_)
    refine (HW.out _).mono ?_
    rintro e w3 ⟨rfl, k3⟩
    have HA3 := HA2.kept k3
    have B3 := B2.trans (k3.mono B2.size)
    clear HA2 B2 k3
    go_wp2_with (refine load_blk (k := 0) 27 (lcC l) (by rfl) rfl rfl HA3 (by kernel_rfl) (by kernel_rfl) rfl ?_)
    refine (HR.out _).mono ?_
    rintro e w4 ⟨rfl, k4⟩
    have HA4 := HA3.kept k4
    have B4 := B3.trans (k4.mono B3.size)
    clear HA3 B3 k4
    go_wp2_with fail
    refine (HRd.out _).mono ?_
    rintro e w5 ⟨rfl, k5⟩
    have HA5 := HA4.kept k5
    have B5 := B4.trans (k5.mono B4.size)
    clear HA4 B4 k5
    have hA5 : w.heap.size < w5.heap.size := HA5.lt
    go_upto_region 7 with (first
      | (refine alloc_blk 27 (lcC zLc) (by rfl) rfl Tryd.lcZero ?_)
      | (refine store_blk (k := 0) 27 (.agg (lcC l)) (lcC l) (by rfl) rfl rfl rfl (Blk.new w5 _ _) (by kernel_rfl) (show (23 : Nat) ≤ 23 from Nat.le_refl 23) (by rfl) (st_wholeL _ _ rfl) ?_; intro w6 HVw6 bw6 gw6; have HA6 := (HA5.alloc (.cells (lcC zLc) 27)).below bw6 hA5; have B6 := (B5.alloc B5.size (.cells (lcC zLc) 27)).trans (bw6.mono B5.size)))
    (try simp only [Act.put, List.setIfInBounds_toArray, List.set_cons_zero, List.set_cons_succ])
    clear HA5 B5 bw6 gw6
    go_wp2_with (first
      | (refine load_blk (k := 0) 27 (lcC l) (by rfl) rfl rfl HVw6 (by kernel_rfl) (by kernel_rfl) rfl ?_)
      | (refine load_blk (k := 0) 27 (lcC l) (by rfl) rfl rfl HA6 (by kernel_rfl) (by kernel_rfl) rfl ?_)
      | (refine eq_blk .eql 27 (lcC l) (lcC l) true (by rfl) rfl (Or.inl rfl) rfl rfl (by kernel_rfl) (HQ.out _) ?_))
    go_ret
    exact ⟨rfl, B6⟩

end Go.Proofs.YtocgnbbnaamjjaaDoor.lacpBack
