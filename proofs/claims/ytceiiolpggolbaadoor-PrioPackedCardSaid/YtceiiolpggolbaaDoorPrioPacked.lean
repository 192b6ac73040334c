/- switchyardkeep.PrioPacked returns true at every two names, and changes nothing that was there. -/
import Derived.Test.YtceiiolpggolbaaDoorNamed
namespace Go.Proofs.YtceiiolpggolbaaDoor.prioPacked
open Go.RowKit
attribute [local go_sem ↓] Go.wp_at_zero Go.wp_at_succ
set_option linter.unusedSimpArgs false
set_option linter.unusedVariables false
set_option maxRecDepth 100000

theorem lss_run (x y : List UInt8) (W : World) : (Op.stringOp .lss ⟨x.toArray⟩ ⟨y.toArray⟩).run Tryd.prog W = .ok (.bool (Op.bytesLess x y)) W := by
  simp [Op.stringOp, ByteArray.toList_eq]
theorem eql_run (x y : List UInt8) (W : World) : (Op.stringOp .eql ⟨x.toArray⟩ ⟨y.toArray⟩).run Tryd.prog W = .ok (.bool (x == y)) W := by
  simp [Op.stringOp, ByteArray.toList_eq]

theorem pk_any (b : Br) (hb : byB b) : ∃ (x : ByteArray) (er : Value), (∀ w, Calls Tryd.prog 12 #[.agg (brC b)] w fun e w' => e = .returned (.tuple #[.string x, er]) ∧ Below w.heap.size w w') := by
  cases h : okB b with
  | false => exact ⟨_, _, fun w => pack_no b h w⟩
  | true => exact ⟨_, _, fun w => pack_yes b h hb w⟩

set_option maxHeartbeats 3200000 in
theorem walk (a : Br) (xa : byB a) (b : Br) (xb : byB b) (w : World) (hL : HasLib w) :
    Calls Tryd.prog 7 #[.agg (brC a), .agg (brC b)] w fun e w' => e = .returned (.bool true) ∧ Below w.heap.size w w' := by
  obtain ⟨A0, C0, B0⟩ := two_blks w 25 25 (brC a) (brC b)
  have HN := Lib.hid (fun W (h : HasLib W) => named_any W h)
  cases ha : okB a with
  | false =>
    obtain ⟨x, er, hp⟩ := pk_any b xb
    have P1 := Lib.hid (fun W => pack_no a ha W)
    have P2 := Lib.hid hp
    clear hp
    go_enter Tryd.func7, Tryd.ntmps7
    go_upto_region 1 with (fail)
    generalize (w.alloc (.cells (brC a) 25)).alloc (.cells (brC b) 25) = w0 at *
    go_wp2_with fail
    refine (HN.out _ (hL.below B0)).mono ?_
    rintro e w1 ⟨rfl, k1⟩
    have A1 := A0.kept k1
    have C1 := C0.kept k1
    have B1 := B0.trans (k1.mono B0.size)
    clear A0 C0 B0 k1
    go_wp2_with (refine load_blk (k := 0) 25 (brC a) (by rfl) rfl rfl A1 (by kernel_rfl) (by kernel_rfl) rfl ?_)
    refine (P1.out _).mono ?_
    rintro e w2 ⟨rfl, k2⟩
    have A2 := A1.kept k2
    have C2 := C1.kept k2
    have B2 := B1.trans (k2.mono B1.size)
    clear A1 C1 B1 k2
    go_wp2_with (refine load_blk (k := 0) 25 (brC b) (by rfl) rfl rfl C2 (by kernel_rfl) (by kernel_rfl) rfl ?_)
    refine (P2.out _).mono ?_
    rintro e w3 ⟨rfl, k3⟩
    have A3 := A2.kept k3
    have C3 := C2.kept k3
    have B3 := B2.trans (k3.mono B2.size)
    clear A2 C2 B2 k3
    go_wp2
    go_ret
    exact ⟨rfl, B3⟩
  | true =>
    cases hb : okB b with
    | false =>
      have P1 := Lib.hid (fun W => pack_yes a ha xa W)
      have P2 := Lib.hid (fun W => pack_no b hb W)
      go_enter Tryd.func7, Tryd.ntmps7
      go_upto_region 1 with (fail)
      generalize (w.alloc (.cells (brC a) 25)).alloc (.cells (brC b) 25) = w0 at *
      go_wp2_with fail
      refine (HN.out _ (hL.below B0)).mono ?_
      rintro e w1 ⟨rfl, k1⟩
      have A1 := A0.kept k1
      have C1 := C0.kept k1
      have B1 := B0.trans (k1.mono B0.size)
      clear A0 C0 B0 k1
      go_wp2_with (refine load_blk (k := 0) 25 (brC a) (by rfl) rfl rfl A1 (by kernel_rfl) (by kernel_rfl) rfl ?_)
      refine (P1.out _).mono ?_
      rintro e w2 ⟨rfl, k2⟩
      have A2 := A1.kept k2
      have C2 := C1.kept k2
      have B2 := B1.trans (k2.mono B1.size)
      clear A1 C1 B1 k2
      go_wp2_with (refine load_blk (k := 0) 25 (brC b) (by rfl) rfl rfl C2 (by kernel_rfl) (by kernel_rfl) rfl ?_)
      refine (P2.out _).mono ?_
      rintro e w3 ⟨rfl, k3⟩
      have A3 := A2.kept k3
      have C3 := C2.kept k3
      have B3 := B2.trans (k3.mono B2.size)
      clear A2 C2 B2 k3
      go_wp2
      go_ret
      exact ⟨rfl, B3⟩
    | true =>
      have P1 := Lib.hid (fun W => pack_yes a ha xa W)
      have P2 := Lib.hid (fun W => pack_yes b hb xb W)
      have P3 := Lib.hid (fun W => prioLess_any a b xa xb W)
      have h1 := packL_less ha hb xa xb
      have h2 : (packL a == packL b) = eqB a b := by
        rw [eqB_iff, Bool.eq_iff_iff, decide_eq_true_iff, beq_iff_eq]
        exact packL_eq ha hb xa xb
      have r3 := fun W => run_eql_br 9997 a b W
      generalize packL a = u at *
      generalize packL b = v at *
      generalize lessB a b = z at *
      generalize eqB a b = y at *
      have hz : (z == z) = true := by simp
      have hy : (y == y) = true := by simp
      go_enter Tryd.func7, Tryd.ntmps7
      go_upto_region 1 with (fail)
      generalize (w.alloc (.cells (brC a) 25)).alloc (.cells (brC b) 25) = w0 at *
      go_wp2_with fail
      refine (HN.out _ (hL.below B0)).mono ?_
      rintro e w1 ⟨rfl, k1⟩
      have A1 := A0.kept k1
      have C1 := C0.kept k1
      have B1 := B0.trans (k1.mono B0.size)
      clear A0 C0 B0 k1
      go_wp2_with (refine load_blk (k := 0) 25 (brC a) (by rfl) rfl rfl A1 (by kernel_rfl) (by kernel_rfl) rfl ?_)
      refine (P1.out _).mono ?_
      rintro e w2 ⟨rfl, k2⟩
      have A2 := A1.kept k2
      have C2 := C1.kept k2
      have B2 := B1.trans (k2.mono B1.size)
      clear A1 C1 B1 k2
      go_wp2_with (refine load_blk (k := 0) 25 (brC b) (by rfl) rfl rfl C2 (by kernel_rfl) (by kernel_rfl) rfl ?_)
      refine (P2.out _).mono ?_
      rintro e w3 ⟨rfl, k3⟩
      have A3 := A2.kept k3
      have C3 := C2.kept k3
      have B3 := B2.trans (k3.mono B2.size)
      clear A2 C2 B2 k3
      go_wp2_with (first
        | (refine load_blk (k := 0) 25 (brC a) (by rfl) rfl rfl A3 (by kernel_rfl) (by kernel_rfl) rfl ?_)
        | (refine load_blk (k := 0) 25 (brC b) (by rfl) rfl rfl C3 (by kernel_rfl) (by kernel_rfl) rfl ?_))
      refine (P3.out _).mono ?_
      rintro e w4 ⟨rfl, k4⟩
      have A4 := A3.kept k4
      have C4 := C3.kept k4
      have B4 := B3.trans (k4.mono B3.size)
      clear A3 C3 B3 k4
      go_wp2_with (first
        | (refine load_blk (k := 0) 25 (brC a) (by rfl) rfl rfl A4 (by kernel_rfl) (by kernel_rfl) rfl ?_)
        | (refine load_blk (k := 0) 25 (brC b) (by rfl) rfl rfl C4 (by kernel_rfl) (by kernel_rfl) rfl ?_)
        | (refine eq_blk .eql 25 (brC a) (brC b) y (by rfl) rfl (Or.inl rfl) rfl rfl (by kernel_rfl) (r3 _) ?_))
      go_ret
      exact ⟨rfl, B4⟩

end Go.Proofs.YtceiiolpggolbaaDoor.prioPacked
