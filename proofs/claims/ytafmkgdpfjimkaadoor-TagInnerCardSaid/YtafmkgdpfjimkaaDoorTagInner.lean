/- switchyardkeep.TagInner returns true at every list, and changes nothing that was there. -/
import Derived.Test.YtafmkgdpfjimkaaDoorTagLow
namespace Go.Proofs.YtafmkgdpfjimkaaDoor.tagInner
open Go.RowKit

theorem two_in (w : World) : TagsIn (w.alloc (.cells #[.bool false, .int .i64 0, .bool false, .int .i64 0, .bool false, .int .i64 0, .bool false, .int .i64 0] 40)) (some ⟨w.heap.size, 0, none⟩) [noT, noT] := by
  refine Or.inr ⟨w.heap.size, 0, rfl, by simp, fun j hj => ?_⟩
  have h := heap_alloc_new w (.cells #[.bool false, .int .i64 0, .bool false, .int .i64 0, .bool false, .int .i64 0, .bool false, .int .i64 0] 40)
  have hj2 : j = 0 ∨ j = 1 := by simp at hj; omega
  rcases hj2 with rfl | rfl
  · exact ⟨(Joins.cell_of_block h 0).trans rfl, (Joins.cell_of_block h 1).trans rfl, (Joins.cell_of_block h 2).trans rfl, (Joins.cell_of_block h 3).trans rfl⟩
  · exact ⟨(Joins.cell_of_block h 4).trans rfl, (Joins.cell_of_block h 5).trans rfl, (Joins.cell_of_block h 6).trans rfl, (Joins.cell_of_block h 7).trans rfl⟩

theorem in_tail {w : World} {b lo : Nat} {x y : Tg} (h : TagsIn w (some ⟨b, lo, none⟩) [x, y]) : TagsIn w (some ⟨b, lo + 4, none⟩) [y] := by
  rcases h with h | ⟨b', lo', ha, hlt, h⟩
  · cases h
  · simp only [Option.some.injEq, Addr.mk.injEq, and_true] at ha
    obtain ⟨rfl, rfl⟩ := ha
    refine Or.inr ⟨b, lo + 4, rfl, hlt, fun j hj => ?_⟩
    have hj2 : j = 0 := by simpa using hj
    subst hj2
    exact h 1 (by simp)

theorem stack_two (w : World) :
    Calls Tryd.prog 32 #[.slice (some ⟨w.heap.size, 0, none⟩) 2 2] (w.alloc (.cells #[.bool false, .int .i64 0, .bool false, .int .i64 0, .bool false, .int .i64 0, .bool false, .int .i64 0] 40)) fun e w' => e = .returned (.bool false) ∧ Below (w.heap.size + 1) (w.alloc (.cells #[.bool false, .int .i64 0, .bool false, .int .i64 0, .bool false, .int .i64 0, .bool false, .int .i64 0] 40)) w' := by
  have h := stack_any _ 2 [noT, noT] _ (two_in w) (by decide)
  exact h.mono fun e w' q => ⟨q.1, by simpa using q.2⟩

theorem stack_none (w : World) :
    Calls Tryd.prog 32 #[.slice none 0 0] w fun e w' => e = .returned (.bool true) ∧ Below w.heap.size w w' :=
  stack_any none 0 [] w (Or.inl rfl) (by decide)

theorem walk (a : Option Addr) (c : Nat) (l : List Tg) (w : World) (hin : TagsIn w a l) (hlc : l.length ≤ c) (hL : HasLib w) :
    Calls Tryd.prog 9 #[.slice a l.length c] w fun e w' => e = .returned (.bool true) ∧ Below w.heap.size w w' := by
  go_enter Tryd.func9, Tryd.ntmps9
  go_wp2_with fail
  refine (tagged_any _ hL).mono ?_
  rintro e w1 ⟨rfl, k1⟩
  go_wp2_with fail
  refine (stack_two w1).mono ?_
  rintro e w2 ⟨rfl, k2⟩
  have hb2 : Below w.heap.size w w2 := (k1.alloc k1.size _).trans (k2.mono (by have := k1.size; omega))
  clear k1 k2
  go_wp2_with fail
  refine (stack_none _).mono ?_
  rintro e w3 ⟨rfl, k3⟩
  have hb3 := hb2.trans (k3.mono hb2.size)
  clear hb2 k3
  by_cases hs : l.length ≤ 20
  · have hd : decide ((20 : Int) < (l.length : Int)) = false := decide_eq_false (by omega)
    have hin3 := hin.below hb3
    go_wp2_with fail
    refine (stack_any a c l _ hin3 (by omega)).mono ?_
    rintro e w4 ⟨rfl, k4⟩
    have hb4 := hb3.trans (k4.mono hb3.size)
    have hin4 := hin3.below k4
    clear hb3 k4 hin3 hin
    cases hv : stackB l with
    | false =>
      go_wp2
      go_ret
      exact ⟨rfl, hb4⟩
    | true =>
      have h2 : ¬ 2 < l.length := fun q => by rw [stack_long l q] at hv; cases hv
      have hall : l.all okT = true := by
        simp only [stackB, Bool.and_eq_true] at hv
        exact hv.1
      rcases short_list l h2 with rfl | ⟨x, rfl⟩ | ⟨x, y, rfl⟩
      · go_wp2
        go_ret
        exact ⟨rfl, hb4⟩
      · have hx : okT x = true := by simpa using hall
        obtain ⟨b, lo, rfl, hlt, hat⟩ : ∃ b lo, a = some ⟨b, lo, none⟩ ∧ b < w4.heap.size ∧ TagsAt w4 b lo [x] := by
          rcases hin4 with h | h
          · cases h
          · exact h
        have q0 : w4.cell? ⟨b, lo, none⟩ = some (.bool x.s) := (hat 0 (by simp)).1
        have q1 : w4.cell? ⟨b, lo + 1, none⟩ = some (.int .i64 x.p) := (hat 0 (by simp)).2.1
        have q2 : w4.cell? ⟨b, lo + 2, none⟩ = some (.bool x.d) := (hat 0 (by simp)).2.2.1
        have q3 : w4.cell? ⟨b, lo + 3, none⟩ = some (.int .i64 x.v) := (hat 0 (by simp)).2.2.2
        have hc : 1 ≤ c := hlc
        clear hat hin4
        go_wp2_with fail
        all_goals (
          refine (stack_any _ _ [] _ (Or.inl rfl) (by decide)).mono ?_
          rintro e w5 ⟨rfl, k5⟩
          rw [show stackB [] = true from rfl]
          have r0 := (k5.cell (p := ⟨b, lo, none⟩) hlt).trans q0
          have r1 := (k5.cell (p := ⟨b, lo + 1, none⟩) hlt).trans q1
          have r2 := (k5.cell (p := ⟨b, lo + 2, none⟩) hlt).trans q2
          have r3 := (k5.cell (p := ⟨b, lo + 3, none⟩) hlt).trans q3
          have hb5 := hb4.trans (k5.mono hb4.size)
          clear k5 hb4 q0 q1 q2 q3
          go_wp2_with fail
          refine (right_any x _).mono ?_
          rintro e w6 ⟨rfl, k6⟩
          rw [hx]
          have hb6 := hb5.trans (k6.mono hb5.size)
          go_wp2
          go_ret
          exact ⟨rfl, hb6⟩)
      · have hx : okT x = true := by simp only [List.all_cons, Bool.and_eq_true] at hall; exact hall.1
        have hy : stackB [y] = true := by simp only [List.all_cons, List.all_nil, Bool.and_true, Bool.and_eq_true] at hall; simp [stackB, hall.2]
        obtain ⟨b, lo, rfl, hlt, hat⟩ : ∃ b lo, a = some ⟨b, lo, none⟩ ∧ b < w4.heap.size ∧ TagsAt w4 b lo [x, y] := by
          rcases hin4 with h | h
          · cases h
          · exact h
        have q0 : w4.cell? ⟨b, lo, none⟩ = some (.bool x.s) := (hat 0 (by simp)).1
        have q1 : w4.cell? ⟨b, lo + 1, none⟩ = some (.int .i64 x.p) := (hat 0 (by simp)).2.1
        have q2 : w4.cell? ⟨b, lo + 2, none⟩ = some (.bool x.d) := (hat 0 (by simp)).2.2.1
        have q3 : w4.cell? ⟨b, lo + 3, none⟩ = some (.int .i64 x.v) := (hat 0 (by simp)).2.2.2
        have ht4 := in_tail hin4
        have hc : 2 ≤ c := hlc
        have hc1 : ¬ c = 1 := by omega
        clear hat hin4
        go_wp2_with fail
        refine (stack_any _ _ [y] _ ht4 (by simp)).mono ?_
        rintro e w5 ⟨rfl, k5⟩
        rw [hy]
        have r0 := (k5.cell (p := ⟨b, lo, none⟩) hlt).trans q0
        have r1 := (k5.cell (p := ⟨b, lo + 1, none⟩) hlt).trans q1
        have r2 := (k5.cell (p := ⟨b, lo + 2, none⟩) hlt).trans q2
        have r3 := (k5.cell (p := ⟨b, lo + 3, none⟩) hlt).trans q3
        have hb5 := hb4.trans (k5.mono hb4.size)
        clear k5 hb4 q0 q1 q2 q3 ht4
        go_wp2_with fail
        refine (right_any x _).mono ?_
        rintro e w6 ⟨rfl, k6⟩
        rw [hx]
        have hb6 := hb5.trans (k6.mono hb5.size)
        go_wp2
        go_ret
        exact ⟨rfl, hb6⟩
  · have hd : decide ((20 : Int) < (l.length : Int)) = true := decide_eq_true (by omega)
    go_wp2
    go_ret
    exact ⟨rfl, hb3⟩
end Go.Proofs.YtafmkgdpfjimkaaDoor.tagInner
