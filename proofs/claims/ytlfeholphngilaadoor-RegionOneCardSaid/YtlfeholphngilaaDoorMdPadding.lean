/- md5.padding. -/
import Derived.Test.YtlfeholphngilaaDoorRev
import Derived.Test.YtlfeholphngilaaDoorPut
import Derived.Test.YtlfeholphngilaaDoorMd5C
import Derived.Test.YtlfeholphngilaaDoorShelf
import Derived.Test.YtlfeholphngilaaDoorBy
namespace Go.Proofs.YtlfeholphngilaaDoor
open Go.RowKit
attribute [local go_sem ↓] Go.wp_at_zero Go.wp_at_succ
set_option linter.unusedSimpArgs false
set_option linter.unusedVariables false
set_option maxRecDepth 100000

theorem ba_join (A B : List UInt8) : (⟨A.toArray⟩ : ByteArray) ++ ⟨B.toArray⟩ = ⟨(A ++ B).toArray⟩ := by
  apply ByteArray.ext
  simp
set_option maxHeartbeats 3200000 in
theorem padding_any (n : Nat) (hn : n ≤ 1000000) (w : World) :
    Calls Tryd.prog 32 #[.int .i64 n] w fun e w' => e = .returned (.string ⟨(padT n).toArray⟩) ∧ Below w.heap.size w w' := by
  obtain ⟨Z, hZ⟩ : ∃ Z, Z = padN n := ⟨_, rfl⟩
  have hZe : Z = (119 - n % 64) % 64 := hZ
  have hR : ∀ W, Calls Tryd.prog 49 #[.string ⟨#[0]⟩, .int .i64 Z] W fun e w' => e = .returned (.string ⟨(List.replicate Z (0 : UInt8)).toArray⟩) ∧ Below W.heap.size W w' := fun W => by
    have h := Tryd.strings_Repeat ⟨#[0]⟩ Z W (by omega) (by show 1 * Z ≤ _; omega)
    have e : Lib.repeatL [(0 : UInt8)] Z = List.replicate Z 0 := by
      have := Lib.repeatL_replicate (0 : UInt8) 1 Z
      simpa using this
    rw [show (⟨#[0]⟩ : ByteArray).data.toList = [(0 : UInt8)] from rfl, e] at h
    exact h
  have hA1 : ∀ W, (Op.stringOp .add ⟨#[128]⟩ ⟨(List.replicate Z (0 : UInt8)).toArray⟩).run Tryd.prog W = .ok (.string ⟨(128 :: List.replicate Z (0 : UInt8)).toArray⟩) W := fun W => run_string_add_lists (P := Tryd.prog) W [128] (List.replicate Z (0 : UInt8)) (by simp) (by simp; omega)
  have hA2 : ∀ W, (Op.stringOp .add ⟨(128 :: List.replicate Z (0 : UInt8)).toArray⟩ ⟨(leN (n * 8) 8).toArray⟩).run Tryd.prog W = .ok (.string ⟨(padT n).toArray⟩) W := fun W => by
    have h := run_string_add_lists (P := Tryd.prog) W (128 :: List.replicate Z (0 : UInt8)) (leN (n * 8) 8) (by simp; omega) (by rw [leN_len]; omega)
    unfold padT
    rw [← hZ]
    exact h
  have hV := Lib.hid (fun W => rev64_any (n * 8) (by omega) W)
  have hP : Hid (∀ W, Calls Tryd.prog 47 #[.int .u64 (revW (n * 8) : Nat), .int .i64 8] W fun e w' => e = .returned (.tuple #[.string ⟨(leN (n * 8) 8).toArray⟩, .nilIface]) ∧ Below W.heap.size W w') := fun W => by
    rw [← put_rev64 (n * 8) (by omega)]
    exact put_fits (revW (n * 8)) 8 W (by omega) (by omega) (fits_to _ _ (by have := revW_lt (n * 8) (by omega); exact this))
  obtain ⟨r, hr⟩ : ∃ r, r = n % 64 := ⟨_, rfl⟩
  have e1 : (n : Int).tmod 64 = (r : Int) := by rw [Int.tmod_eq_emod_of_nonneg (by omega)]; omega
  have e1b : (n : Int) % 64 = (r : Int) := by omega
  have hr64 : r < 64 := by omega
  have e2 : IntKind.i64.wrap (119 - (r : Int)) = 119 - (r : Int) := by rw [IntKind.wrap_i64]; omega
  have e3 : (119 - (r : Int)).tmod 64 = (Z : Int) := by rw [Int.tmod_eq_emod_of_nonneg (by omega)]; omega
  have e3b : (119 - (r : Int)) % 64 = (Z : Int) := by omega
  have e4 : IntKind.u64.wrap (n : Int) = (n : Int) := by unfold IntKind.wrap; simp [IntKind.bits, IntKind.signed]; omega
  have e5 : IntKind.u64.wrap (8 * (n : Int)) = ((n * 8 : Nat) : Int) := by unfold IntKind.wrap; simp [IntKind.bits, IntKind.signed]; omega
  have e6 : (8 * (n : Int)) = ((n * 8 : Nat) : Int) := by omega
  have HR := Lib.hid hR
  generalize padT n = T at *
  generalize leN (n * 8) 8 = L8 at *
  generalize revW (n * 8) = V at *
  generalize List.replicate Z (0 : UInt8) = L0 at *
  generalize (128 :: L0) = L1 at *
  generalize n * 8 = X at *
  clear hZ hZe hR hr
  go_enter Tryd.func32, Tryd.ntmps32
  go_wp2_with fail
  refine (hV.out _).mono ?_
  rintro e w1 ⟨rfl, rfl⟩
  go_wp2_with fail
  refine (hP.out _).mono ?_
  rintro e w2 ⟨rfl, k2⟩
  go_wp2_with fail
  refine (HR.out _).mono ?_
  rintro e w3 ⟨rfl, k3⟩
  go_wp2
  go_ret
  exact ⟨rfl, k2.trans (k3.mono k2.size)⟩

end Go.Proofs.YtlfeholphngilaaDoor
