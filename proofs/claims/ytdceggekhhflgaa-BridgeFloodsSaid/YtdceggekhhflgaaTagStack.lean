/- tag.Stack and the reference's Stack at every list; nothing that was there is changed. -/
import Derived.Test.YtdceggekhhflgaaTagParts
namespace Go.Proofs.Ytdceggekhhflgaa
open Go.RowKit

/-- Where a list of tags lies. -/
def TagsAt (w : World) (b lo : Nat) (l : List Tg) : Prop :=
  ∀ j (hj : j < l.length), w.cell? ⟨b, lo + j * 4, none⟩ = some (.bool l[j].s) ∧ w.cell? ⟨b, lo + j * 4 + 1, none⟩ = some (.int .i64 l[j].p) ∧ w.cell? ⟨b, lo + j * 4 + 2, none⟩ = some (.bool l[j].d) ∧ w.cell? ⟨b, lo + j * 4 + 3, none⟩ = some (.int .i64 l[j].v)

/-- A slice value that holds a list of tags. -/
def TagsIn (w : World) (a : Option Addr) (l : List Tg) : Prop := l = [] ∨ ∃ b lo, a = some ⟨b, lo, none⟩ ∧ b < w.heap.size ∧ TagsAt w b lo l

theorem TagsAt.below {w w' : World} {b lo : Nat} {l : List Tg} (h : TagsAt w b lo l) (hb : Below w.heap.size w w') (hlt : b < w.heap.size) : TagsAt w' b lo l := by
  intro j hj
  obtain ⟨h0, h1, h2, h3⟩ := h j hj
  exact ⟨(hb.cell hlt).trans h0, (hb.cell hlt).trans h1, (hb.cell hlt).trans h2, (hb.cell hlt).trans h3⟩

theorem TagsIn.below {w w' : World} {a : Option Addr} {l : List Tg} (h : TagsIn w a l) (hb : Below w.heap.size w w') : TagsIn w' a l := by
  rcases h with h | ⟨b, lo, ha, hlt, h⟩
  · exact Or.inl h
  · exact Or.inr ⟨b, lo, ha, Nat.lt_of_lt_of_le hlt hb.size, h.below hb hlt⟩

/-- Whether tags may stand on a frame. -/
def stackB (l : List Tg) : Bool := l.all okT && (match l with
  | [] => true
  | [_] => true
  | [a, b] => a.s && !b.s
  | _ => false)

theorem okT_at {l : List Tg} (h : l.all okT = true) (k : Nat) (hk : k < l.length) : okT l[k] = true := List.all_eq_true.1 h _ (List.getElem_mem hk)

theorem below_next {w w1 w2 : World} (h : Below w.heap.size w w1) (k : Below w1.heap.size w1 w2) : Below w.heap.size w w2 := h.trans (k.mono h.size)

theorem stack_long (l : List Tg) (h : 2 < l.length) : stackB l = false := by
  match l, h with
  | _ :: _ :: _ :: _, _ => simp [stackB]

theorem stack_not {l : List Tg} (k : Nat) (hk : k < l.length) (h : okT l[k] = false) : stackB l = false := by
  have : l.all okT = false := by
    rw [List.all_eq_false]
    exact ⟨l[k], List.getElem_mem hk, by simp [h]⟩
  simp [stackB, this]

theorem short_list (l : List Tg) (h : ¬ 2 < l.length) : l = [] ∨ (∃ x, l = [x]) ∨ ∃ x y, l = [x, y] := by
  match l, h with
  | [], _ => exact Or.inl rfl
  | [x], _ => exact Or.inr (Or.inl ⟨x, rfl⟩)
  | [x, y], _ => exact Or.inr (Or.inr ⟨x, y, rfl⟩)
  | _ :: _ :: _ :: _, h => simp at h

set_option maxHeartbeats 800000 in
theorem stack_any (a : Option Addr) (c : Nat) (l : List Tg) (w : World) (h : TagsIn w a l) (hlen : l.length ≤ 1000000) :
    Calls Try.prog 56 #[.slice a l.length c] w fun e w' => e = .returned (.bool (stackB l)) ∧ Below w.heap.size w w' := by
  by_cases h2 : 2 < l.length
  · have hgt : decide ((2 : Int) < (l.length : Int)) = true := decide_eq_true (by omega)
    have HL := Lib.hid (stack_long l h2)
    go_enter Try.func56, Try.ntmps56
    go_wp2
    go_ret
    exact ⟨by rw [HL.out]; rfl, Below.refl _ _⟩
  · have hgt : decide ((2 : Int) < (l.length : Int)) = false := decide_eq_false (by omega)
    go_enter Try.func56, Try.ntmps56
    go_wp2
    go_loopw [10] (fun i wr => ∃ k : Nat, k ≤ l.length ∧ i = .int .i64 k ∧ (∀ j (hj : j < l.length), j < k → okT l[j] = true) ∧ Below w.heap.size w wr) (fun i _ => l.length - (intOf i).toNat)
    case atStart => exact ⟨0, by omega, rfl, fun j _ hj => absurd hj (by omega), Below.refl _ _⟩
    case round =>
      obtain ⟨k, hk, rfl, hok, hb⟩ := hrel
      by_cases hlt : k < l.length
      · obtain ⟨b, lo, rfl, hbl, hat⟩ : ∃ b lo, a = some ⟨b, lo, none⟩ ∧ b < w.heap.size ∧ TagsAt w b lo l := by
          rcases h with rfl | h
          · simp at hlt
          · exact h
        obtain ⟨t, ht⟩ : ∃ t, t = l[k] := ⟨_, rfl⟩
        obtain ⟨q0, q1, q2, q3⟩ := hat k hlt
        rw [← ht] at q0 q1 q2 q3
        have r0 := (hb.cell (p := ⟨b, lo + k * 4, none⟩) hbl).trans q0
        have r1 := (hb.cell (p := ⟨b, lo + k * 4 + 1, none⟩) hbl).trans q1
        have r2 := (hb.cell (p := ⟨b, lo + k * 4 + 2, none⟩) hbl).trans q2
        have r3 := (hb.cell (p := ⟨b, lo + k * 4 + 3, none⟩) hbl).trans q3
        have HT := Lib.hid ht
        have b1 : (k : Int) < (l.length : Int) := by omega
        clear ht q0 q1 q2 q3 h
        go_wp2_with fail
        refine (right_any t _).mono ?_
        rintro e w1 ⟨rfl, k1⟩
        have hb1 : Below w.heap.size w w1 := below_next (hb.alloc hb.size _) k1
        clear k1 hb r0 r1 r2 r3
        cases hv : okT t with
        | false =>
          have HS : Hid (stackB l = false) := by show _ = _; exact stack_not k hlt (by rw [← HT.out]; exact hv)
          go_wp2
          go_ret
          exact ⟨by rw [HS.out]; rfl, hb1⟩
        | true =>
          go_wp2
          go_roundw
          case rel =>
            refine ⟨k + 1, by omega, by go_num, fun j hj hjk => ?_, hb1⟩
            rcases Nat.lt_or_ge j k with h | h
            · exact hok j hj h
            · have : j = k := by omega
              subst this
              rw [← HT.out]
              exact hv
          case measure => simp [intOf]; omega
      · obtain rfl : k = l.length := by omega
        have hall : l.all okT = true := by
          rw [List.all_eq_true]
          intro x hx
          obtain ⟨j, hj, rfl⟩ := List.getElem_of_mem hx
          exact hok j hj hj
        clear hok hlt hk
        rcases short_list l h2 with rfl | ⟨x, rfl⟩ | ⟨x, y, rfl⟩
        · go_wp2
          go_ret
          exact ⟨rfl, hb⟩
        · have HS : Hid (stackB [x] = true) := by show _ = _; simp only [stackB, hall, Bool.and_self]
          go_wp2
          go_ret
          exact ⟨by rw [HS.out]; rfl, hb⟩
        · obtain ⟨b, lo, rfl, hbl, hat⟩ : ∃ b lo, a = some ⟨b, lo, none⟩ ∧ b < w.heap.size ∧ TagsAt w b lo [x, y] := by
            rcases h with h | h
            · cases h
            · exact h
          have HS : Hid (stackB [x, y] = (x.s && !y.s)) := by show _ = _; simp only [stackB, hall, Bool.true_and]
          have r0 : wr.cell? ⟨b, lo, none⟩ = some (.bool x.s) := (hb.cell (p := ⟨b, lo, none⟩) hbl).trans (hat 0 (by simp)).1
          have r1 : wr.cell? ⟨b, lo + 4, none⟩ = some (.bool y.s) := (hb.cell (p := ⟨b, lo + 4, none⟩) hbl).trans (hat 1 (by simp)).1
          clear hall hat h
          cases hx : x.s <;> cases hy : y.s
          all_goals (
            rw [hx] at r0
            rw [hy] at r1
            rw [hx, hy] at HS
            clear hx hy
            go_wp2
            go_ret
            exact ⟨by rw [HS.out]; rfl, hb⟩)

end Go.Proofs.Ytdceggekhhflgaa
