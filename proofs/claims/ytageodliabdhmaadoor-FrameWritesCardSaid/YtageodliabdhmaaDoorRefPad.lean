/- The reference's Pad at every text that is not long. -/
import Derived.Test.YtageodliabdhmaaDoorFr
import Derived.WalkKit
namespace Go.Proofs.YtageodliabdhmaaDoor
open Go.RowKit
attribute [local go_sem ↓] Go.wp_at_zero Go.wp_at_succ
set_option linter.unusedSimpArgs false
set_option linter.unusedVariables false

/-- A text with noughts behind it, up to sixty bytes. -/
def padN (l : List UInt8) (k : Nat) : List UInt8 := l ++ List.replicate k 0
def padL (l : List UInt8) : List UInt8 := padN l (60 - l.length)

theorem padN_length (l : List UInt8) (k : Nat) : (padN l k).length = l.length + k := by simp [padN]
theorem padN_zero (l : List UInt8) : padN l 0 = l := by simp [padN]
theorem padN_succ (l : List UInt8) (k : Nat) : padN l k ++ [0] = padN l (k + 1) := by
  unfold padN
  rw [List.append_assoc, List.replicate_succ']

set_option maxHeartbeats 800000 in
set_option maxRecDepth 100000 in
theorem refPad_any (l : List UInt8) (w : World) (hl : l.length ≤ 3000) :
    Calls Tryd.prog 8 #[.string ⟨l.toArray⟩] w fun e w' => e = .returned (.string ⟨(padL l).toArray⟩) ∧ Below w.heap.size w w' := by
  go_enter Tryd.func8, Tryd.ntmps8
  go_wp2
  go_loopw [0] (fun s wr => ∃ k : Nat, (k = 0 ∨ l.length + k ≤ 60) ∧ s = .string ⟨(padN l k).toArray⟩ ∧ Below w.heap.size w wr) (fun s _ => match s with | .string b => 60 - b.size | _ => 0)
  case atStart => exact ⟨0, Or.inl rfl, by rw [padN_zero], Below.refl _ _⟩
  case round =>
    obtain ⟨k, hk, rfl, hb⟩ := hrel
    have hlen := padN_length l k
    have hadd : ∀ W, (Op.stringOp .add ⟨(padN l k).toArray⟩ ⟨#[0]⟩).run Tryd.prog W = .ok (.string ⟨(padN l (k + 1)).toArray⟩) W := fun W => by
      have h := run_string_add_lists (P := Tryd.prog) W (padN l k) [0] (by rw [hlen]; omega) (by simp)
      rw [padN_succ] at h
      exact h
    have hsz : ((⟨(padN l k).toArray⟩ : ByteArray).size : Int) = (l.length : Int) + k := by show (((padN l k).toArray.size : Nat) : Int) = _; simp [hlen]
    by_cases hlt : l.length + k < 60
    · have hd : decide ((l.length : Int) + k < 60) = true := decide_eq_true (by omega)
      go_wp2
      go_roundw
      case rel => exact ⟨k + 1, by omega, rfl, hb⟩
      case measure =>
        show 60 - (padN l (k + 1)).toArray.size < 60 - (padN l k).toArray.size
        simp only [List.size_toArray, padN_length]
        omega
    · have hd : decide ((l.length : Int) + k < 60) = false := decide_eq_false (by omega)
      go_wp2
      go_ret
      have hke : k = 60 - l.length := by omega
      exact ⟨by rw [hke]; rfl, hb⟩

end Go.Proofs.YtageodliabdhmaaDoor
