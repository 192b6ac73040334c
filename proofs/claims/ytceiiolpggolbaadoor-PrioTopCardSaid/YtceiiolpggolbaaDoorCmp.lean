/- cmp.Compare and cmp.Or of integers; how prio holds names and vectors against each other. -/
import Derived.Test.YtceiiolpggolbaaDoorVecs
import Derived.Test.YtceiiolpggolbaaDoorMacParts
import Derived.Deep.RegionHeld3
import Derived.Deep.DrawnRows
namespace Go.Proofs.YtceiiolpggolbaaDoor
open Go.RowKit
attribute [local go_sem ↓] Go.wp_at_zero Go.wp_at_succ
set_option linter.unusedSimpArgs false
set_option linter.unusedVariables false
set_option maxRecDepth 100000

theorem isNaN_int (x : Int) (w : World) : Calls Tryd.prog 78 #[.int .i64 x] w fun e w' => e = .returned (.bool false) ∧ w = w' := by
  have h : (x != x) = false := by simp
  go_enter Tryd.func78, Tryd.ntmps78
  go_wp2
  go_ret
  first | exact ⟨rfl, rfl⟩ | exact ⟨by simp, rfl⟩

theorem compare_int (x y : Int) (w : World) : Calls Tryd.prog 60 #[.int .i64 x, .int .i64 y] w fun e w' => e = .returned (.int .i64 (cmpI x y)) ∧ w = w' := by
  obtain ⟨r, hr⟩ : ∃ r, r = cmpI x y := ⟨_, rfl⟩
  rw [← hr]
  unfold cmpI at hr
  by_cases h1 : x < y
  · rw [if_pos h1] at hr
    subst hr
    have d1 : decide (x < y) = true := decide_eq_true h1
    go_enter Tryd.func60, Tryd.ntmps60
    go_wp2_with fail
    refine (isNaN_int x _).mono ?_
    rintro e w1 ⟨rfl, rfl⟩
    go_wp2_with fail
    refine (isNaN_int y _).mono ?_
    rintro e w1 ⟨rfl, rfl⟩
    go_wp2
    go_ret
    exact ⟨rfl, rfl⟩
  · rw [if_neg h1] at hr
    have d1 : decide (x < y) = false := decide_eq_false h1
    by_cases h2 : y < x
    · rw [if_pos h2] at hr
      subst hr
      have d2 : decide (y < x) = true := decide_eq_true h2
      go_enter Tryd.func60, Tryd.ntmps60
      go_wp2_with fail
      refine (isNaN_int x _).mono ?_
      rintro e w1 ⟨rfl, rfl⟩
      go_wp2_with fail
      refine (isNaN_int y _).mono ?_
      rintro e w1 ⟨rfl, rfl⟩
      go_wp2
      go_ret
      exact ⟨rfl, rfl⟩
    · rw [if_neg h2] at hr
      subst hr
      have d2 : decide (y < x) = false := decide_eq_false h2
      go_enter Tryd.func60, Tryd.ntmps60
      go_wp2_with fail
      refine (isNaN_int x _).mono ?_
      rintro e w1 ⟨rfl, rfl⟩
      go_wp2_with fail
      refine (isNaN_int y _).mono ?_
      rintro e w1 ⟨rfl, rfl⟩
      go_wp2
      go_ret
      exact ⟨rfl, rfl⟩

/-- Numbers that lie in a row. -/
def IntsAt (w : World) (B : Nat) (l : List Int) : Prop := ∀ (j : Nat) v, l[j]? = some v → w.cell? ⟨B, j, none⟩ = some (.int .i64 v)

theorem orI_zeros : ∀ (k : Nat) (l : List Int), (∀ j v, l[j]? = some v → j < k → v = 0) → orI l = orI (l.drop k)
  | 0, l, _ => by simp
  | k + 1, [], _ => by simp
  | k + 1, a :: l, h => by
    have h0 : a = 0 := h 0 a rfl (by omega)
    subst h0
    have := orI_zeros k l (fun j v hv hj => h (j + 1) v (by simpa using hv) (by omega))
    simpa [orI] using this

set_option maxHeartbeats 800000 in
theorem or_int (B c : Nat) (l : List Int) (w : World) (h : IntsAt w B l) (hl : l.length ≤ 1000) :
    Calls Tryd.prog 59 #[.slice (some ⟨B, 0, none⟩) l.length c] w fun e w' => e = .returned (.int .i64 (orI l)) ∧ w = w' := by
  go_enter Tryd.func59, Tryd.ntmps59
  go_wp2
  go_loopw [8] (fun i wr => ∃ k : Nat, k ≤ l.length ∧ i = .int .i64 k ∧ Hid (∀ j v, l[j]? = some v → j < k → v = 0) ∧ wr = w) (fun i _ => l.length - (intOf i).toNat)
  case atStart => exact ⟨0, by omega, rfl, fun j v _ hj => absurd hj (by omega), rfl⟩
  case round =>
    obtain ⟨k, hk, rfl, hz, rfl⟩ := hrel
    by_cases hlt : k < l.length
    · obtain ⟨v, hv⟩ : ∃ v, l[k]? = some v := ⟨_, List.getElem?_eq_getElem hlt⟩
      have ck := h k v hv
      have b1 : (k : Int) < (l.length : Int) := by omega
      have b2 : decide ((k : Int) < (l.length : Int)) = true := decide_eq_true b1
      by_cases hv0 : v = 0
      · subst hv0
        have HZ : Hid (∀ j v, l[j]? = some v → j < k + 1 → v = 0) := by
          intro j u hu hj
          by_cases e : j = k
          · subst e; rw [hv] at hu; simpa using hu.symm
          · exact hz.out j u hu (by omega)
        clear hv
        go_wp2
        go_roundw
        case rel => exact ⟨k + 1, by omega, by go_num, HZ, trivial⟩
        case measure => simp [intOf]; omega
      · have HO : Hid (orI l = v) := by
          show _ = _
          rw [orI_zeros k l hz.out, List.drop_eq_getElem_cons hlt]
          have : l[k] = v := by rw [List.getElem?_eq_getElem hlt] at hv; simpa using hv
          simp [orI, this, hv0]
        have n0 : (v != 0) = true := by simpa using hv0
        clear hv
        go_wp2
        go_ret
        exact ⟨by rw [HO.out]; rfl, rfl⟩
    · obtain rfl : k = l.length := by omega
      have HO : Hid (orI l = 0) := by
        show _ = _
        rw [orI_zeros l.length l hz.out]
        simp [orI]
      have b2 : decide ((l.length : Int) < (l.length : Int)) = false := decide_eq_false (by omega)
      go_wp2
      go_ret
      exact ⟨by rw [HO.out]; rfl, rfl⟩

theorem ints_two (w : World) (T : TypeId) (x0 x1 : Int) : IntsAt (w.alloc (.cells #[.int .i64 x0, .int .i64 x1] T)) w.heap.size [x0, x1] := fun j v hv =>
  (Blk.new w T _).cv j _ (by
    match j, hv with
    | 0, hv => simp at hv; subst hv; rfl
    | 1, hv => simp at hv; subst hv; rfl)
theorem or_two (B c : Nat) (x0 x1 : Int) (w : World) (h : IntsAt w B [x0, x1]) :
    Calls Tryd.prog 59 #[.slice (some ⟨B, 0, none⟩) 2 c] w fun e w' => e = .returned (.int .i64 (orI [x0, x1])) ∧ w = w' :=
  or_int B c [x0, x1] w h (by simp)

theorem ints_three (w : World) (T : TypeId) (x0 x1 x2 : Int) : IntsAt (w.alloc (.cells #[.int .i64 x0, .int .i64 x1, .int .i64 x2] T)) w.heap.size [x0, x1, x2] := fun j v hv =>
  (Blk.new w T _).cv j _ (by
    match j, hv with
    | 0, hv => simp at hv; subst hv; rfl
    | 1, hv => simp at hv; subst hv; rfl
    | 2, hv => simp at hv; subst hv; rfl)
theorem or_three (B c : Nat) (x0 x1 x2 : Int) (w : World) (h : IntsAt w B [x0, x1, x2]) :
    Calls Tryd.prog 59 #[.slice (some ⟨B, 0, none⟩) 3 c] w fun e w' => e = .returned (.int .i64 (orI [x0, x1, x2])) ∧ w = w' :=
  or_int B c [x0, x1, x2] w h (by simp)

theorem ints_five (w : World) (T : TypeId) (x0 x1 x2 x3 x4 : Int) : IntsAt (w.alloc (.cells #[.int .i64 x0, .int .i64 x1, .int .i64 x2, .int .i64 x3, .int .i64 x4] T)) w.heap.size [x0, x1, x2, x3, x4] := fun j v hv =>
  (Blk.new w T _).cv j _ (by
    match j, hv with
    | 0, hv => simp at hv; subst hv; rfl
    | 1, hv => simp at hv; subst hv; rfl
    | 2, hv => simp at hv; subst hv; rfl
    | 3, hv => simp at hv; subst hv; rfl
    | 4, hv => simp at hv; subst hv; rfl)
theorem or_five (B c : Nat) (x0 x1 x2 x3 x4 : Int) (w : World) (h : IntsAt w B [x0, x1, x2, x3, x4]) :
    Calls Tryd.prog 59 #[.slice (some ⟨B, 0, none⟩) 5 c] w fun e w' => e = .returned (.int .i64 (orI [x0, x1, x2, x3, x4])) ∧ w = w' :=
  or_int B c [x0, x1, x2, x3, x4] w h (by simp)

end Go.Proofs.YtceiiolpggolbaaDoor
