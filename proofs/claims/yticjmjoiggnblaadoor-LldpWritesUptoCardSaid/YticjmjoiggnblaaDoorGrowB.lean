/- strings.Builder: Grow at one that is new; strings.Join with nothing between. -/
import Derived.Test.YticjmjoiggnblaaDoorBuildK
import Derived.Test.YticjmjoiggnblaaDoorIsB
import Derived.Test.YticjmjoiggnblaaDoorLdS
import Derived.Shelf.Strings.Builder2
namespace Go.Proofs.YticjmjoiggnblaaDoor
open Go.RowKit
attribute [local go_sem ↓] Go.wp_at_zero Go.wp_at_succ
set_option linter.unusedSimpArgs false
set_option linter.unusedVariables false
set_option maxRecDepth 100000

theorem Tryd.byteOne : (Tryd.prog.info? 5).map (·.size) = some 1 := by kernel_rfl
set_option maxHeartbeats 2000000 in
theorem grow_fresh (B b n : Nat) (w : World) (hB : B ≤ b) (hbk : w.heap[b]? = some (.cells #[.pointer (some ⟨b, 0, none⟩), .slice none 0 0] 75 (0, 0))) (hBw : B ≤ w.heap.size) (hn : n ≤ 281474976710656) :
    Calls Tryd.prog 140 #[.pointer (some ⟨b, 0, none⟩), .int .i64 n] w fun e w' => e = .returned (.tuple #[]) ∧ (Lib.BuilderAt 75 5 B b (.pointer (some ⟨b, 0, none⟩)) [] w' ∧ Below B w w') := by
  obtain ⟨cs, hrun, hle, hmax⟩ := Lib.run_makeNoZero (P := Tryd.prog) w.drew #[3] 73 5 Tryd.underlying73 n hn
  have hw : IntKind.i64.wrap (IntKind.i64.wrap 0 + (n : Int)) = n := by
    rw [IntKind.wrap_i64, IntKind.wrap_i64]
    omega
  have hcall : (callFunc 145 #[.int .i64 (IntKind.i64.wrap (IntKind.i64.wrap 0 + (n : Int)))]).run Tryd.prog w.drew = .ok (.value (.slice (some ⟨w.drew.heap.size, 0, none⟩) n cs.size)) (w.drew.drew.drew.alloc (.cells cs 5)) := by
    rw [hw, run_callFunc_extern Tryd.func145 (by kernel_rfl) (by kernel_rfl) (by kernel_rfl) (e := Extern.BytealgMakeNoZero.makeNoZero #[3] #[73]) (by kernel_rfl), hrun]
    rfl
  have hlt : b < w.heap.size := by
    rcases Nat.lt_or_ge b w.heap.size with h' | h'
    · exact h'
    · simp [Array.getElem?_eq_none h'] at hbk
  have c1 : w.drew.cell? ⟨b, 1, none⟩ = some (.slice none 0 0) := by
    have : w.drew.heap[b]? = _ := hbk
    rw [Lib.cell_of_heap this]; rfl
  have c2 : (w.alloc (.cells cs 5)).cell? ⟨b, 1, none⟩ = some (.slice none 0 0) := by
    have : (w.alloc (.cells cs 5)).heap[b]? = _ := (Lib.alloc_old w _ b hlt).trans hbk
    rw [Lib.cell_of_heap this]; rfl
  have f2 : (w.alloc (.cells cs 5)).frozen? ⟨b, 1, none⟩ = false := Lib.frozen_of_heap ((Lib.alloc_old w _ b hlt).trans hbk) 1
  have hcopy : ∀ W : World, (Builtin.copy_ #[73, 73] 3 #[.slice (some ⟨w.heap.size, 0, none⟩) 0 cs.size, .slice none 0 0]).run Tryd.prog W = .ok (goInt 0) W :=
    fun W => run_copy_none W 73 73 3 5 _ _ 0 cs.size 0 0 Tryd.underlying73 Tryd.byteOne rfl
  clear hw
  go_enter Tryd.func140, Tryd.ntmps140
  go_wp2
  have hfin := Lib.grown_fresh (T := 75) (e := 5) (cs := cs) hB hbk hBw (hmax (by unfold maxLen; omega)) (by decide)
  have hfin2 : Lib.BuilderAt 75 5 B b (.pointer (some ⟨b, 0, none⟩)) [] ((w.setCell ⟨b, 1, none⟩ (.slice (some ⟨w.heap.size, 0, none⟩) 0 cs.size)).alloc (.cells cs 5)).drew.drew.drew ∧ Below B w ((w.setCell ⟨b, 1, none⟩ (.slice (some ⟨w.heap.size, 0, none⟩) 0 cs.size)).alloc (.cells cs 5)).drew.drew.drew := by
    have h' := hfin
    rw [World.setCell_alloc_past _ _ _ _ hlt] at h'
    exact h'
  clear hfin
  go_region
  all_goals (go_wp2; go_end0; exact ⟨rfl, hfin2⟩)

set_option maxHeartbeats 2000000 in
theorem Grow_fresh (b n : Nat) (w : World) (hbk : w.heap[b]? = some (.cells #[.pointer none, .slice none 0 0] 75 (0, 0))) (hBw : b ≤ w.heap.size) (hn0 : 0 < n) (hn : n ≤ 281474976710656) :
    Calls Tryd.prog 132 #[.pointer (some ⟨b, 0, none⟩), .int .i64 n] w fun e w' => e = .returned (.tuple #[]) ∧ (BU b [] w' ∧ Below b w w') := by
  have hbk1 : (w.setCell ⟨b, 0, none⟩ (.pointer (some ⟨b, 0, none⟩))).heap[b]? = some (.cells #[.pointer (some ⟨b, 0, none⟩), .slice none 0 0] 75 (0, 0)) := by
    simp [World.setCell, Array.getElem?_modify, hbk]
  have hb1 : Below b w (w.setCell ⟨b, 0, none⟩ (.pointer (some ⟨b, 0, none⟩))) := (Below.refl b w).setCell (p := ⟨b, 0, none⟩) (Nat.le_refl b) _
  have hcc := Lib.hid (build_fresh b w (by rw [Lib.cell_of_heap hbk]; rfl) (by simp [World.shape?, hbk]) (Lib.frozen_of_heap hbk 0))
  have hs1 : b ≤ (w.setCell ⟨b, 0, none⟩ (.pointer (some ⟨b, 0, none⟩))).heap.size := Nat.le_trans hBw hb1.size
  have d1 : decide ((n : Int) < 0) = false := decide_eq_false (by omega)
  have d2 : ¬ (n : Int) < 0 := by omega
  have d3 : (0 : Int) < (n : Int) := by omega
  have d4 : decide ((0 : Int) < (n : Int)) = true := decide_eq_true d3
  go_enter Tryd.func132, Tryd.ntmps132
  go_wp2_with fail
  refine hcc.out.mono ?_
  rintro e w' ⟨rfl, rfl⟩
  generalize (w.setCell ⟨b, 0, none⟩ (.pointer (some ⟨b, 0, none⟩))) = w1 at *
  have c1 : w1.drew.cell? ⟨b, 1, none⟩ = some (.slice none 0 0) := by
    have : w1.drew.heap[b]? = _ := hbk1
    rw [Lib.cell_of_heap this]; rfl
  go_wp2_with fail
  go_region
  all_goals go_wp2_with fail
  all_goals first | refine (grow_fresh b b n w1 (Nat.le_refl b) hbk1 hs1 hn).mono ?_ | refine (grow_fresh b b n w1.drew (Nat.le_refl b) hbk1 hs1 hn).mono ?_
  all_goals rintro e w' ⟨rfl, h1, h2⟩
  all_goals go_wp2
  all_goals go_end0
  all_goals first | exact ⟨rfl, Or.inr h1, hb1.drew.trans h2⟩ | exact ⟨rfl, Or.inr h1, hb1.trans h2⟩

end Go.Proofs.YticjmjoiggnblaaDoor
