/- switchyardlaw.WirePuts returns true for every number and every n, and changes nothing that was there. -/
import Derived.Test.YtiikdmempgmlnaaDoorRefPut
import Derived.Test.YtiikdmempgmlnaaDoorPlace
namespace Go.Proofs.YtiikdmempgmlnaaDoor.wirePuts
open Go.RowKit
set_option linter.unusedVariables false

/-- bare: at nil. -/
theorem bare_nil (w : World) : Calls Tryd.prog 11 #[.nilIface, .int .i64 0] w fun e w' => e = .returned (.bool true) ∧ w = w' := by
  go_enter Tryd.func11, Tryd.ntmps11
  go_wp2_with fail
  refine (place_nil _).mono ?_
  rintro e w' ⟨rfl, rfl⟩
  go_wp2
  go_ret
  exact ⟨rfl, rfl⟩

/-- bare: at an Errno. -/
theorem bare_errno (x : Int) (w : World) (hE : HasErr w) : Calls Tryd.prog 11 #[.iface 23 (.int .i64 x), .int .i64 x] w fun e w' => e = .returned (.bool true) ∧ Below w.heap.size w w' := by
  go_enter Tryd.func11, Tryd.ntmps11
  go_wp2_with fail
  refine (place_errno x _ hE).mono ?_
  rintro e w' ⟨rfl, hb⟩
  go_wp2
  go_ret
  exact ⟨rfl, hb⟩

/-- The two Puts are one: what they return, and what is left. -/
def Puts (x n : Int) (w : World) (v : Value) (er : Value) (ea : Int) : Prop :=
  (Calls Tryd.prog 9 #[.int .u64 x, .int .i64 n] w fun e w' => e = .returned (.tuple #[v, .int .i64 ea]) ∧ Below w.heap.size w w') ∧
  (∀ w2, Calls Tryd.prog 10 #[.int .u64 x, .int .i64 n] w2 fun e w' => e = .returned (.tuple #[v, er]) ∧ Below w2.heap.size w2 w') ∧
  (∀ w2, HasErr w2 → Calls Tryd.prog 11 #[er, .int .i64 ea] w2 fun e w' => e = .returned (.bool true) ∧ Below w2.heap.size w2 w')

theorem puts_any (X : Nat) (n : Int) (w : World) (HX : Hid (X ≤ 18446744073709551615)) : ∃ l er ea, Puts X n w (.string ⟨l⟩) er ea := by
  by_cases h : n < 1 ∨ 8 < n
  · exact ⟨#[], _, 2, (refPut_range X n w h).mono (by rintro e w' ⟨rfl, rfl⟩; exact ⟨rfl, Below.refl _ _⟩), fun w2 => (put_range X n w2 h).mono (by rintro e w' ⟨rfl, rfl⟩; exact ⟨rfl, Below.refl _ _⟩), fun w2 hE => bare_errno 2 w2 hE⟩
  · obtain ⟨N, rfl⟩ := Int.eq_ofNat_of_zero_le (show 0 ≤ n by omega)
    by_cases hx : X < 256 ^ N
    · exact ⟨(putL X N).toArray, .nilIface, 0, refPut_fits X N w (by omega) (by omega) HX hx, fun w2 => put_fits X N w2 (by omega) (by omega) (fits_to X N hx), fun w2 hE => (bare_nil w2).mono (by rintro e w' ⟨rfl, rfl⟩; exact ⟨rfl, Below.refl _ _⟩)⟩
    · exact ⟨#[], _, 12, refPut_full X N w (by omega) (by omega) HX hx, fun w2 => (put_full X N w2 (by omega) (by omega) (fits_not X N hx)).mono (by rintro e w' ⟨rfl, rfl⟩; exact ⟨rfl, Below.refl _ _⟩), fun w2 hE => bare_errno 12 w2 hE⟩

set_option maxHeartbeats 800000 in
theorem must_any (X : Nat) (n : Int) (v er : Value) (w : World) (hX : X ≤ 4611686018427387904) (hp : ∀ w2, Calls Tryd.prog 10 #[.int .u64 X, .int .i64 n] w2 fun e w' => e = .returned (.tuple #[v, er]) ∧ Below w2.heap.size w2 w') :
    Calls Tryd.prog 12 #[.int .i64 X, .int .i64 n] w fun e w' => e = .returned v ∧ Below w.heap.size w w' := by
  have HP := Lib.hid hp
  clear hp
  have HW : Hid (IntKind.u64.wrap (X : Int) = (X : Int)) := by show _ = _; rw [IntKind.wrap_u64]; omega
  go_enter Tryd.func12, Tryd.ntmps12
  go_wp2_with fail
  refine (HP.out _).mono ?_
  rintro e w' ⟨rfl, hb⟩
  go_wp2
  go_ret
  exact ⟨rfl, hb⟩

set_option maxHeartbeats 800000 in
theorem walk (X : Nat) (n : Int) (w : World) (HX : Hid (X ≤ 18446744073709551615)) (hE : HasErr w) :
    Calls Tryd.prog 3 #[.int .u64 X, .int .i64 n] w fun e w' => e = .returned (.bool true) ∧ Below w.heap.size w w' := by
  obtain ⟨l, er, ea, hp1, hp2, hp3⟩ := puts_any X n w HX
  have H1 := Lib.hid hp1
  have H2 := Lib.hid hp2
  have H3 := Lib.hid hp3
  clear hp1 hp2 hp3
  go_enter Tryd.func3, Tryd.ntmps3
  go_wp2_with fail
  refine H1.out.mono ?_
  rintro e w1 ⟨rfl, hb1⟩
  go_wp2_with fail
  refine (H2.out _).mono ?_
  rintro e w2 ⟨rfl, b2⟩
  have hb2 := hb1.trans (b2.mono hb1.size)
  have hE2 := hE.below hb2
  clear hb1 b2
  go_wp2_with fail
  refine (H3.out _ hE2).mono ?_
  rintro e w3 ⟨rfl, b3⟩
  have hb3 := hb2.trans (b3.mono hb2.size)
  clear hb2 b3 hE2
  by_cases hx : X ≤ 4611686018427387904
  · have HM := Lib.hid (must_any X n (.string ⟨l⟩) er w3 hx H2.out)
    have hd : ¬ (4611686018427387904 : Int) < (X : Int) := by omega
    have HW : Hid (wrap64 (X : Int) = (X : Int)) := by show _ = _; unfold wrap64; omega
    have hd2 : decide ((4611686018427387904 : Int) < (X : Int)) = false := decide_eq_false hd
    clear hx
    go_wp2_with fail
    refine HM.out.mono ?_
    rintro e w4 ⟨rfl, b4⟩
    have hb4 := hb3.trans (b4.mono hb3.size)
    go_wp2
    go_ret
    exact ⟨rfl, hb4⟩
  · have hd : (4611686018427387904 : Int) < (X : Int) := by omega
    clear hx
    go_wp2
    go_ret
    exact ⟨rfl, hb3⟩
end Go.Proofs.YtiikdmempgmlnaaDoor.wirePuts
