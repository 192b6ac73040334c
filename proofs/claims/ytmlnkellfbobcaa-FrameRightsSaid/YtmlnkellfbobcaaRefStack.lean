/- The reference's Stack at every list; nothing that was there is changed. -/
import Derived.Test.YtmlnkellfbobcaaTagStack
namespace Go.Proofs.Ytmlnkellfbobcaa
open Go.RowKit

set_option maxHeartbeats 800000 in
theorem refStack_any (a : Option Addr) (c : Nat) (l : List Tg) (w : World) (h : TagsIn w a l) (hlen : l.length ≤ 1000000) :
    Calls Try.prog 14 #[.slice a l.length c] w fun e w' => e = .returned (.bool (stackB l)) ∧ Below w.heap.size w w' := by
  go_enter Try.func14, Try.ntmps14
  go_wp2
  go_loopw [7] (fun i wr => ∃ k : Nat, k ≤ l.length ∧ i = .int .i64 k ∧ (∀ j (hj : j < l.length), j < k → okT l[j] = true) ∧ Below w.heap.size w wr) (fun i _ => l.length - (intOf i).toNat)
  case atStart => exact ⟨0, by omega, rfl, fun j _ hj => absurd hj (by omega), Below.refl _ _⟩
  case round =>
    obtain ⟨k, hk, rfl, hok, hb⟩ := hrel
    by_cases hlt : k < l.length
    · obtain ⟨b, lo, rfl, hbl, hat⟩ : ∃ b lo, a = some ⟨b, lo, none⟩ ∧ b < w.heap.size ∧ TagsAt w b lo l := by
        rcases h with rfl | h
        · simp at hlt
        · exact h
      obtain ⟨t, ht⟩ : ∃ t, t = l[k] := ⟨_, rfl⟩
      obtain ⟨q0, q1, q2, q3⟩ := hat k hlt
      rw [← ht] at q0 q1 q2 q3
      have r0 := (hb.cell (p := ⟨b, lo + k * 4, none⟩) hbl).trans q0
      have r1 := (hb.cell (p := ⟨b, lo + k * 4 + 1, none⟩) hbl).trans q1
      have r2 := (hb.cell (p := ⟨b, lo + k * 4 + 2, none⟩) hbl).trans q2
      have r3 := (hb.cell (p := ⟨b, lo + k * 4 + 3, none⟩) hbl).trans q3
      have HT := Lib.hid ht
      have b1 : (k : Int) < (l.length : Int) := by omega
      clear ht q0 q1 q2 q3 h
      go_wp2_with fail
      refine (refRight_any t _).mono ?_
      rintro e w1 ⟨rfl, k1⟩
      have hb1 : Below w.heap.size w w1 := below_next (hb.alloc hb.size _) k1
      clear k1 hb r0 r1 r2 r3
      cases hv : okT t with
      | false =>
        have HS : Hid (stackB l = false) := by show _ = _; exact stack_not k hlt (by rw [← HT.out]; exact hv)
        go_wp2
        go_ret
        exact ⟨by rw [HS.out]; rfl, hb1⟩
      | true =>
        go_wp2
        go_roundw
        case rel =>
          refine ⟨k + 1, by omega, by go_num, fun j hj hjk => ?_, hb1⟩
          rcases Nat.lt_or_ge j k with h | h
          · exact hok j hj h
          · have : j = k := by omega
            subst this
            rw [← HT.out]
            exact hv
        case measure => simp [intOf]; omega
    · obtain rfl : k = l.length := by omega
      have hall : l.all okT = true := by
        rw [List.all_eq_true]
        intro x hx
        obtain ⟨j, hj, rfl⟩ := List.getElem_of_mem hx
        exact hok j hj hj
      clear hok hlt hk
      by_cases h2 : 2 < l.length
      · have HS : Hid (stackB l = false) := by show _ = _; exact stack_long l h2
        have g1 : decide ((l.length : Int) < 2) = false := decide_eq_false (by omega)
        have g2 : ((l.length : Int) == 2) = false := by rw [beq_eq_false_iff_ne]; omega
        go_wp2
        go_ret
        exact ⟨by rw [HS.out]; rfl, hb⟩
      · rcases short_list l h2 with rfl | ⟨x, rfl⟩ | ⟨x, y, rfl⟩
        · go_wp2
          go_ret
          exact ⟨rfl, hb⟩
        · have HS : Hid (stackB [x] = true) := by show _ = _; simp only [stackB, hall, Bool.and_self]
          go_wp2
          go_ret
          exact ⟨by rw [HS.out]; rfl, hb⟩
        · obtain ⟨b, lo, rfl, hbl, hat⟩ : ∃ b lo, a = some ⟨b, lo, none⟩ ∧ b < w.heap.size ∧ TagsAt w b lo [x, y] := by
            rcases h with h | h
            · cases h
            · exact h
          have HS : Hid (stackB [x, y] = (x.s && !y.s)) := by show _ = _; simp only [stackB, hall, Bool.true_and]
          have r0 : wr.cell? ⟨b, lo, none⟩ = some (.bool x.s) := (hb.cell (p := ⟨b, lo, none⟩) hbl).trans (hat 0 (by simp)).1
          have r1 : wr.cell? ⟨b, lo + 4, none⟩ = some (.bool y.s) := (hb.cell (p := ⟨b, lo + 4, none⟩) hbl).trans (hat 1 (by simp)).1
          clear hall hat h
          cases hx : x.s <;> cases hy : y.s
          all_goals (
            rw [hx] at r0
            rw [hy] at r1
            rw [hx, hy] at HS
            clear hx hy
            go_wp2
            go_ret
            exact ⟨by rw [HS.out]; rfl, hb⟩)

end Go.Proofs.Ytmlnkellfbobcaa
