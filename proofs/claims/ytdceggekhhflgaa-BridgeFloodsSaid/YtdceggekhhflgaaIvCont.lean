/- slices.Index, slices.Contains of ints; what is no member. -/
import Derived.Test.YtdceggekhhflgaaIvS
import Derived.Test.YtdceggekhhflgaaBgM
import Derived.Lib.Hide
namespace Go.Proofs.Ytdceggekhhflgaa
open Go.RowKit
attribute [local go_sem ↓] Go.wp_at_zero Go.wp_at_succ
set_option linter.unusedSimpArgs false
set_option linter.unusedVariables false
set_option maxRecDepth 100000

set_option maxHeartbeats 1600000 in
theorem indexIv_any (a : Option Addr) (c : Nat) (l : List Int) (v : Int) (w : World) (h : IvIn w a l) (hlen : l.length ≤ maxLen) :
    Calls Try.prog 55 #[.slice a l.length c, .int .i64 v] w fun e w' => (∃ r : Int, e = .returned (.int .i64 r) ∧ decide ((0 : Int) ≤ r) = memB l v) ∧ w = w' := by
  have hll : l.length ≤ 9223372036854775807 := hlen
  have HLEN := Lib.hid hlen
  clear hlen
  go_enter Try.func55, Try.ntmps55
  go_wp2_with fail
  go_loopw [8] (fun i wr => ∃ k : Nat, k ≤ l.length ∧ i = .int .i64 k ∧ (∀ j (hj : j < l.length), j < k → l[j] ≠ v) ∧ w = wr) (fun i _ => l.length - (intOf i).toNat)
  case atStart => exact ⟨0, by omega, rfl, by omega, rfl⟩
  case round =>
    obtain ⟨k, hk, rfl, hall, rfl⟩ := hrel
    by_cases hlt : k < l.length
    · obtain ⟨b, lo, rfl, hbl, hat⟩ := h.at hlt
      have q1 : (k : Int) < (l.length : Int) := by omega
      have q2 : decide ((k : Int) < (l.length : Int)) = true := decide_eq_true q1
      have q3 : (0 : Int) ≤ (k : Int) := by omega
      have q4 : IntKind.i64.wrap ((k : Int) + 1) = (k : Int) + 1 := by rw [IntKind.wrap_i64] <;> omega
      have hcell : w.cell? ⟨b, lo + k, none⟩ = some (.int .i64 l[k]) := by have := hat k hlt 0 _ rfl; rwa [Nat.mul_one, Nat.add_zero] at this
      have HALL := Lib.hid hall
      have HX : Hid (∃ hj : k < l.length, l[k] = l[k]) := ⟨hlt, rfl⟩
      by_cases hx : l[k] = v
      · have HM := Lib.hid (memB_true hlt hx)
        have hd : (l[k] == v) = true := by simpa using hx
        rw [hx] at hcell
        have hd2 : (v == v) = true := by simp
        clear hall hx hd h hat
        go_wp2
        go_ret
        exact ⟨⟨_, rfl, by rw [HM.out]; exact decide_eq_true (by omega)⟩, rfl⟩
      · have hd : (l[k] == v) = false := by simpa using hx
        have HN : Hid (∀ j (hj : j < l.length), j < k + 1 → l[j] ≠ v) := fun j hj hjk => by
          by_cases e : j = k
          · subst e; exact hx
          · exact hall j hj (by omega)
        clear hall HALL HX hx h hat
        generalize l[k] = x at *
        go_wp2
        go_roundw
        case rel => exact ⟨k + 1, by omega, by go_num, HN.out, trivial⟩
        case measure => simp [intOf]; omega
    · obtain rfl : k = l.length := by omega
      have q2 : decide ((l.length : Int) < (l.length : Int)) = false := decide_eq_false (by omega)
      have HM := Lib.hid (memB_false (l := l) (v := v) (fun j hj => hall j hj hj))
      clear hall
      go_wp2
      go_ret
      exact ⟨⟨_, rfl, by rw [HM.out]; rfl⟩, rfl⟩

theorem containsIv_any (a : Option Addr) (c : Nat) (l : List Int) (v : Int) (w : World) (h : IvIn w a l) (hlen : l.length ≤ maxLen) :
    Calls Try.prog 32 #[.slice a l.length c, .int .i64 v] w fun e w' => e = .returned (.bool (memB l v)) ∧ w = w' := by
  have HI := Lib.hid (indexIv_any a c l v w h hlen)
  go_enter Try.func32, Try.ntmps32
  go_wp2_with (refine HI.out.mono ?_; rintro e w' ⟨⟨r, rfl, hr⟩, rfl⟩)
  go_ret
  exact ⟨by rw [← hr]; rfl, rfl⟩

end Go.Proofs.Ytdceggekhhflgaa
