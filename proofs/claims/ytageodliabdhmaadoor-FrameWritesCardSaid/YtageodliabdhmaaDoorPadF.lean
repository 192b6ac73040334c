/- frame.Pad at every text that is not long. -/
import Derived.Test.YtageodliabdhmaaDoorRefPad
import Derived.Test.YtageodliabdhmaaDoorShelf
namespace Go.Proofs.YtageodliabdhmaaDoor
open Go.RowKit
attribute [local go_sem ↓] Go.wp_at_zero Go.wp_at_succ
set_option linter.unusedSimpArgs false
set_option linter.unusedVariables false

set_option maxRecDepth 100000 in
set_option maxHeartbeats 800000 in
theorem pad_any (l : List UInt8) (w : World) (hl : l.length ≤ 3000) :
    Calls Tryd.prog 7 #[.string ⟨l.toArray⟩] w fun e w' => e = .returned (.string ⟨(padL l).toArray⟩) ∧ Below w.heap.size w w' := by
  obtain ⟨k, hk⟩ : ∃ k : Nat, k = 60 - l.length := ⟨_, rfl⟩
  have hm : (if (0 : Int) < 60 - (l.length : Int) then 60 - (l.length : Int) else 0) = (k : Int) := by split <;> omega
  have hsz : ((⟨l.toArray⟩ : ByteArray).size : Int) = (l.length : Int) := by show ((l.toArray.size : Nat) : Int) = _; simp
  have hwr : IntKind.i64.wrap (60 - (l.length : Int)) = 60 - (l.length : Int) := by rw [IntKind.wrap_i64]; omega
  have hR : ∀ W, Calls Tryd.prog 22 #[.string ⟨#[0]⟩, .int .i64 k] W fun e w' => e = .returned (.string ⟨(List.replicate k (0 : UInt8)).toArray⟩) ∧ Below W.heap.size W w' := fun W => by
    have h := Tryd.strings_Repeat ⟨#[0]⟩ k W (by omega) (by show 1 * k ≤ _; omega)
    have e : Lib.repeatL [(0 : UInt8)] k = List.replicate k 0 := by
      have := Lib.repeatL_replicate (0 : UInt8) 1 k
      simpa using this
    rw [show (⟨#[0]⟩ : ByteArray).data.toList = [(0 : UInt8)] from rfl, e] at h
    exact h
  have hadd : ∀ W, (Op.stringOp .add ⟨l.toArray⟩ ⟨(List.replicate k (0 : UInt8)).toArray⟩).run Tryd.prog W = .ok (.string ⟨(padL l).toArray⟩) W := fun W => by
    have h := run_string_add_lists (P := Tryd.prog) W l (List.replicate k (0 : UInt8)) (by omega) (by simp; omega)
    unfold padL padN
    rw [← hk]
    exact h
  have HR : Hid (∀ (W : World) (n : Int), n = (k : Int) → Calls Tryd.prog 22 #[.string ⟨#[0]⟩, .int .i64 n] W fun e w' => e = .returned (.string ⟨(List.replicate k (0 : UInt8)).toArray⟩) ∧ Below W.heap.size W w') := fun W n hn => by rw [hn]; exact hR W
  clear hR
  go_enter Tryd.func7, Tryd.ntmps7
  go_wp2_with (go_at_call 22; (with_reducible refine (HR.out _ _ ?_).mono ?_); (omega); rintro e w1 ⟨rfl, b1⟩)
  all_goals go_ret
  all_goals exact ⟨rfl, b1⟩

end Go.Proofs.YtageodliabdhmaaDoor
