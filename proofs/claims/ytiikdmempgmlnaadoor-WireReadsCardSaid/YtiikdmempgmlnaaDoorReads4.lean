/- The reference's Reads, of nothing. -/
import Derived.Test.YtiikdmempgmlnaaDoorReads3
namespace Go.Proofs.YtiikdmempgmlnaaDoor
open Go.RowKit
set_option linter.unusedVariables false

set_option maxHeartbeats 3200000 in
set_option maxRecDepth 100000 in
theorem reads_nil (s : ByteArray) (off : Nat) (v : Option Addr) (lc : Nat) (w : World) (hT : HasTab w) (hs : s.size ≤ 100) (ho : off ≤ 1099511627776) :
    Calls Tryd.prog 14 #[.string s, .int .i64 off, .slice v 0 lc] w fun e w' => e = .returned (.tuple #[.slice none 0 0, .agg #[.int .i64 0, .int .i64 (-1)]]) ∧ Below w.heap.size w w' := by
  have hmf : ∀ (fn : Fn) (first cap : Array Value) (w : World), (Instr.makeFunc fn first cap).run Tryd.prog w = .ok (.func fn first cap) w := fun _ _ _ _ => rfl
  go_enter Tryd.func14, Tryd.ntmps14
  go_wp2_with fail
  refine (good_any _).mono ?_
  rintro e w1 ⟨rfl, hb1⟩
  obtain ⟨a0, a1, a2, a3⟩ := alloc4 w (.cells #[.string s] 9) (.cells #[.int .i64 off] 3) (.cells #[.int .i64 0, .int .i64 0] 38) (.cells #[.int .i64 0] 3)
  have hz : ((((w.alloc (.cells #[.string s] 9)).alloc (.cells #[.int .i64 off] 3)).alloc (.cells #[.int .i64 0, .int .i64 0] 38)).alloc (.cells #[.int .i64 0] 3)).heap.size = w.heap.size + 1 + 1 + 1 + 1 := by simp
  have hw : Below w.heap.size w ((((w.alloc (.cells #[.string s] 9)).alloc (.cells #[.int .i64 off] 3)).alloc (.cells #[.int .i64 0, .int .i64 0] 38)).alloc (.cells #[.int .i64 0] 3)) :=
    ((((Below.refl _ _).alloc (Nat.le_refl _) _).alloc (by simp) _).alloc (by simp; omega) _).alloc (by simp; omega) _
  generalize ((((w.alloc (.cells #[.string s] 9)).alloc (.cells #[.int .i64 off] 3)).alloc (.cells #[.int .i64 0, .int .i64 0] 38)).alloc (.cells #[.int .i64 0] 3)) = w0 at *
  have hw1 : Below w.heap.size w w1 := hw.trans (hb1.mono hw.size)
  have hz1 : w.heap.size + 4 ≤ w1.heap.size := by have := hb1.size; omega
  have b0 := (hb1.block _ (by omega)).trans a0
  have b1 := (hb1.block _ (by omega)).trans a1
  have b2 : Nt w1 (w.heap.size + 1 + 1) 0 0 := (hb1.block _ (by omega)).trans a2
  have b3 := (hb1.block _ (by omega)).trans a3
  have k0 := b2.c0
  have k1 := b2.c1
  have z0 := b2.fz 0
  have z1 := b2.fz 1
  have hT1 := hT.below hw1
  clear a0 a1 a2 a3 hz hw hb1
  obtain ⟨B, hB⟩ : ∃ B, B = w.heap.size := ⟨_, rfl⟩
  rw [← hB] at b0 b1 b2 b3 hz1 k0 k1 z0 z1 hw1
  rw [← hB]
  have HB := Lib.hid hB
  clear hB
  go_wp2
  have rs : RS (((w1.setCell ⟨B + 1 + 1, 0, none⟩ (.int .i64 0)).setCell ⟨B + 1 + 1, 1, none⟩ (.int .i64 (-1))).alloc (.cells #[.func (.func 36) #[] #[.pointer (some ⟨B + 1 + 1, 0, none⟩)]] 51)) B (B + 1) (B + 1 + 1) (B + 1 + 1 + 1) w1.heap.size s off (0, 0, -1) := by
    have q := grownBy_trans (grownBy_setCell w1 (B + 1 + 1) 0 (.int .i64 0)) (grownBy_setCell _ (B + 1 + 1) 1 (.int .i64 (-1)))
    have sz : ((w1.setCell ⟨B + 1 + 1, 0, none⟩ (.int .i64 0)).setCell ⟨B + 1 + 1, 1, none⟩ (.int .i64 (-1))).heap.size = w1.heap.size := by simp [World.setCell]
    have hd := heap_alloc_new ((w1.setCell ⟨B + 1 + 1, 0, none⟩ (.int .i64 0)).setCell ⟨B + 1 + 1, 1, none⟩ (.int .i64 (-1))) (.cells #[.func (.func 36) #[] #[.pointer (some ⟨B + 1 + 1, 0, none⟩)]] 51)
    rw [sz] at hd
    refine ⟨?_, ?_, ?_, ?_, hd, by omega⟩
    · exact (Below.heap_alloc _ _ _ (by rw [sz]; omega)).trans ((q.block _ (by omega) (by intro e; cases e)).trans b0)
    · exact (Below.heap_alloc _ _ _ (by rw [sz]; omega)).trans ((q.block _ (by omega) (by intro e; cases e)).trans b1)
    · exact (Below.heap_alloc _ _ _ (by rw [sz]; omega)).trans (b2.set2 0 (-1))
    · exact (Below.heap_alloc _ _ _ (by rw [sz]; omega)).trans ((q.block _ (by omega) (by intro e; cases e)).trans b3)
  have hb3 : Below B w (((w1.setCell ⟨B + 1 + 1, 0, none⟩ (.int .i64 0)).setCell ⟨B + 1 + 1, 1, none⟩ (.int .i64 (-1))).alloc (.cells #[.func (.func 36) #[] #[.pointer (some ⟨B + 1 + 1, 0, none⟩)]] 51)) :=
    ((hw1.setCell (p := ⟨B + 1 + 1, 0, none⟩) (by show B ≤ B + 1 + 1; omega) _).setCell (p := ⟨B + 1 + 1, 1, none⟩) (by show B ≤ B + 1 + 1; omega) _).alloc (by simp [World.setCell]; omega) _
  have hM : w1.heap.size + 1 = (((w1.setCell ⟨B + 1 + 1, 0, none⟩ (.int .i64 0)).setCell ⟨B + 1 + 1, 1, none⟩ (.int .i64 (-1))).alloc (.cells #[.func (.func 36) #[] #[.pointer (some ⟨B + 1 + 1, 0, none⟩)]] 51)).heap.size := by simp [World.setCell]
  obtain ⟨D, hD⟩ : ∃ D, D = w1.heap.size := ⟨_, rfl⟩
  rw [← hD] at rs hM hz1
  rw [← hD]
  generalize (((w1.setCell ⟨B + 1 + 1, 0, none⟩ (.int .i64 0)).setCell ⟨B + 1 + 1, 1, none⟩ (.int .i64 (-1))).alloc (.cells #[.func (.func 36) #[] #[.pointer (some ⟨B + 1 + 1, 0, none⟩)]] 51)) = w2 at *
  clear hw1 b0 b1 b2 b3 k0 k1 z0 z1 hT1 hD hmf
  have c0 : w2.cell? ⟨B + 1 + 1, 0, none⟩ = some (.int .i64 0) := rs.hc.c0
  have c1 : w2.cell? ⟨B + 1 + 1, 1, none⟩ = some (.int .i64 (-1)) := rs.hc.c1
  have z0 := rs.hc.fz 0
  have z1 := rs.hc.fz 1
  have HN := Lib.hid rs.hc
  refine wp_loop_rounds 1 ?_
  rw [rounds_succ]
  go_wp2
  go_region
  go_wp2
  have n9 : Nt ((w2.setCell ⟨B + 1 + 1, 0, none⟩ (.int .i64 0)).setCell ⟨B + 1 + 1, 1, none⟩ (.int .i64 (-1))) (B + 1 + 1) 0 (-1) := HN.out.set2 _ _
  have q0 : (((w2.setCell ⟨B + 1 + 1, 0, none⟩ (.int .i64 0)).setCell ⟨B + 1 + 1, 1, none⟩ (.int .i64 (-1))).drew).cell? ⟨B + 1 + 1, 0, none⟩ = some (.int .i64 0) := n9.c0
  have q1 : (((w2.setCell ⟨B + 1 + 1, 0, none⟩ (.int .i64 0)).setCell ⟨B + 1 + 1, 1, none⟩ (.int .i64 (-1))).drew).cell? ⟨B + 1 + 1, 1, none⟩ = some (.int .i64 (-1)) := n9.c1
  have bel9 := ((hb3.setCell (p := ⟨B + 1 + 1, 0, none⟩) (by show B ≤ B + 1 + 1; omega) (.int .i64 0)).setCell (p := ⟨B + 1 + 1, 1, none⟩) (by show B ≤ B + 1 + 1; omega) (.int .i64 (-1))).drew
  have bel9 := bel9.mono (show w.heap.size ≤ B by have := HB.out; omega)
  exact bodyPost_ret (v := .tuple #[.slice none 0 0, .agg #[.int .i64 0, .int .i64 (-1)]]) (by simp [results, Tryd.results14, go_sem, q0, q1]) rfl ⟨rfl, bel9⟩
end Go.Proofs.YtiikdmempgmlnaaDoor
