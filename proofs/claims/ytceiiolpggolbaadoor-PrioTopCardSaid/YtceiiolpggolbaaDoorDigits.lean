/- The reference's digits at base 16, of a byte; AddrText and Reserved of an address; nothing that was there is changed. -/
import Derived.Test.YtceiiolpggolbaaDoorFmt16
import Derived.Test.YtceiiolpggolbaaDoorMacText
import Derived.Laws.IdiomStrings
namespace Go.Proofs.YtceiiolpggolbaaDoor
open Go.RowKit
attribute [local go_sem ↓] Go.wp_at_zero Go.wp_at_succ

set_option maxRecDepth 100000 in
theorem formatInt16 (n : Nat) (hn : n < 256) (w : World) (h : HasTz w) :
    Calls Tryd.prog 82 #[.int .i64 n, .int .i64 16] w fun e w' => e = .returned (.string ⟨(hexN n).toArray⟩) ∧ Below w.heap.size w w' := by
  have hneg : decide ((n : Int) < 0) = false := decide_eq_false (by omega)
  have hwr : IntKind.u64.wrap (n : Int) = (n : Int) := by rw [IntKind.wrap_u64]; omega
  go_enter Tryd.func82, Tryd.ntmps82
  go_wp2_with (first | (go_at_call 98; refine (fmt16 n hn _ h).mono ?_; rintro e w1 ⟨rfl, k1⟩) | go_in)
  go_ret
  exact ⟨rfl, k1⟩

set_option maxHeartbeats 800000 in
set_option maxRecDepth 100000 in
theorem digits16 (n : Nat) (hn : n < 256) (w : World) (h : HasTz w) :
    Calls Tryd.prog 70 #[.int .i64 n, .int .i64 16, .int .i64 2] w fun e w' => e = .returned (.string ⟨(hex2 n).toArray⟩) ∧ Below w.heap.size w w' := by
  go_enter Tryd.func70, Tryd.ntmps70
  go_wp2_with fail
  refine (formatInt16 n hn _ h).mono ?_
  rintro e w1 ⟨rfl, k1⟩
  have hadd : n < 16 → ∀ W, (Op.stringOp .add ⟨#[48]⟩ ⟨#[hexc n]⟩).run Tryd.prog W = .ok (.string ⟨#[48, hexc n]⟩) W := fun _ W => run_string_add_lists W [48] [hexc n] (by decide) (by simp)
  by_cases h16 : n < 16
  · have e1 : hexN n = [hexc n] := by rw [hexN, if_pos h16]
    have e2 : hex2 n = [48, hexc n] := by
      rw [hex2, show n / 16 = 0 by omega, show n % 16 = n by omega]
      rfl
    have ha := hadd h16
    have HE := Lib.hid e2
    rw [e1]
    clear e1 e2 hadd
    go_wp2
    go_loopw [7] (fun s wr => (s = .string ⟨#[hexc n]⟩ ∨ s = .string ⟨#[48, hexc n]⟩) ∧ wr = w1) (fun s _ => match s with | .string b => 3 - b.size | _ => 0)
    case atStart => exact ⟨Or.inl rfl, rfl⟩
    case round =>
      obtain ⟨hs, rfl⟩ := hrel
      rcases hs with rfl | rfl
      · go_wp2
        go_roundw
        case rel => exact ⟨Or.inr rfl, trivial⟩
        case measure => simp [ByteArray.size]
      · go_wp2
        go_ret
        exact ⟨by rw [HE.out]; rfl, k1⟩
  · have e1 : hexN n = hex2 n := by rw [hexN, if_neg h16]
    rw [e1]
    clear e1 hadd
    unfold hex2
    go_wp2
    go_loopw [7] (fun s wr => s = .string ⟨#[hexc (n / 16), hexc (n % 16)]⟩ ∧ wr = w1) (fun _ _ => 0)
    case atStart => exact ⟨rfl, rfl⟩
    case round =>
      obtain ⟨rfl, rfl⟩ := hrel
      go_wp2
      go_ret
      exact ⟨rfl, k1⟩

end Go.Proofs.YtceiiolpggolbaaDoor
