/- The reference's first: the first number that differs. -/
import Derived.Test.YtceiiolpggolbaaRefNums
namespace Go.Proofs.Ytceiiolpggolbaa
open Go.RowKit
attribute [local go_sem ↓] Go.wp_at_zero Go.wp_at_succ
set_option linter.unusedSimpArgs false
set_option linter.unusedVariables false
set_option maxRecDepth 100000

theorem IntsAt.below {w w' : World} {B : Nat} {l : List Int} (h : IntsAt w B l) (hB : B < w.heap.size) (hb : Below w.heap.size w w') : IntsAt w' B l := by
  intro j v hv
  have hc := h j v hv
  have hk : w'.heap[B]? = w.heap[B]? := hb.block B hB
  unfold World.cell? at hc ⊢
  simp only at hc ⊢
  rw [hk]
  exact hc

theorem ints_own {w : World} {base g cap n : Nat} {T : TypeId} {l : List Int} (h : w.ownsRow base T 1 (.slice (some ⟨g, 0, none⟩) n cap) n (ivL l)) : IntsAt w g l := by
  intro j v hv
  have h2 := h.cells (g := g) rfl j (.int .i64 v) (by unfold ivL; rw [List.getElem?_map, hv]; rfl)
  rwa [Addr.add_lit, Nat.zero_add] at h2

theorem cmpL_step (l m : List Int) (k : Nat) (h1 : k < l.length) (h2 : k < m.length) : cmpL (l.drop k) (m.drop k) = if l[k] < m[k] then -1 else if m[k] < l[k] then 1 else cmpL (l.drop (k + 1)) (m.drop (k + 1)) := by
  rw [List.drop_eq_getElem_cons h1, List.drop_eq_getElem_cons h2, cmpL]

set_option maxHeartbeats 1600000 in
theorem first_any (g1 g2 c1 c2 : Nat) (l m : List Int) (w : World) (h1 : IntsAt w g1 l) (h2 : IntsAt w g2 m) (hg1 : g1 < w.heap.size) (hg2 : g2 < w.heap.size) (hlm : m.length = l.length) (hn : l.length ≤ 1000) :
    Calls Try.prog 12 #[.slice (some ⟨g1, 0, none⟩) l.length c1, .slice (some ⟨g2, 0, none⟩) l.length c2] w fun e w' => e = .returned (.int .i64 (cmpL l m)) ∧ Below w.heap.size w w' := by
  go_enter Try.func12, Try.ntmps12
  go_wp2_with fail
  go_loopw [8] (fun i wr => ∃ k : Nat, k ≤ l.length ∧ i = .int .i64 k ∧ Hid (cmpL l m = cmpL (l.drop k) (m.drop k)) ∧ Below w.heap.size w wr) (fun i _ => l.length - (intOf i).toNat)
  case atStart => exact ⟨0, by omega, rfl, by rw [List.drop_zero, List.drop_zero]; rfl, Below.refl _ _⟩
  case round =>
    obtain ⟨k, hk, rfl, HC, hb⟩ := hrel
    by_cases hlt : k < l.length
    · have hltm : k < m.length := by omega
      obtain ⟨x, hx⟩ : ∃ x, x = l[k] := ⟨_, rfl⟩
      obtain ⟨y, hy⟩ : ∃ y, y = m[k] := ⟨_, rfl⟩
      have cx := (h1.below hg1 hb) k x (by rw [hx]; exact List.getElem?_eq_getElem hlt)
      have cy := (h2.below hg2 hb) k y (by rw [hy]; exact List.getElem?_eq_getElem hltm)
      have hst := cmpL_step l m k hlt hltm
      rw [← hx, ← hy] at hst
      have b1 : (k : Int) < (l.length : Int) := by omega
      have b2 : decide ((k : Int) < (l.length : Int)) = true := decide_eq_true b1
      have b3 : (0 : Int) ≤ (k : Int) := by omega
      by_cases e : x = y
      · subst e
        rw [if_neg (by omega), if_neg (by omega)] at hst
        have HN : Hid (cmpL l m = cmpL (l.drop (k + 1)) (m.drop (k + 1))) := by show _ = _; rw [HC.out, hst]
        have n0 : (x != x) = false := by simp
        clear hx hy hst HC
        go_wp2
        go_region
        all_goals (
          go_wp2
          go_roundw
          case rel => exact ⟨k + 1, by omega, by go_num, HN, hb.drew⟩
          case measure => simp [intOf]; omega)
      · have n0 : (x != y) = true := by simpa using e
        by_cases hl : x < y
        · rw [if_pos hl] at hst
          have HN : Hid (cmpL l m = -1) := by show _ = _; rw [HC.out, hst]
          have b4 : decide (x < y) = true := decide_eq_true hl
          clear hx hy hst HC e
          go_wp2
          go_region
          all_goals (
            go_wp2
            go_region
            all_goals (
              go_wp2
              go_ret
              exact ⟨by rw [HN.out]; rfl, hb.drew.drew⟩))
        · rw [if_neg hl, if_pos (by omega)] at hst
          have HN : Hid (cmpL l m = 1) := by show _ = _; rw [HC.out, hst]
          have b4 : decide (x < y) = false := decide_eq_false hl
          clear hx hy hst HC e
          go_wp2
          go_region
          all_goals (
            go_wp2
            go_region
            all_goals (
              go_wp2
              go_ret
              exact ⟨by rw [HN.out]; rfl, hb.drew.drew⟩))
    · obtain rfl : k = l.length := by omega
      have HN : Hid (cmpL l m = 0) := by
        show _ = _
        rw [HC.out, List.drop_eq_nil_of_le (Nat.le_refl _)]
        simp [cmpL]
      have b2 : decide ((l.length : Int) < (l.length : Int)) = false := decide_eq_false (by omega)
      clear HC
      go_wp2
      go_ret
      exact ⟨by rw [HN.out]; rfl, hb⟩

end Go.Proofs.Ytceiiolpggolbaa
