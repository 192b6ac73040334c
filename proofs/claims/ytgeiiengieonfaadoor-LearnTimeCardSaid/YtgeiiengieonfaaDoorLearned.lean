/- switchyardkeep.learned. -/
import Derived.Test.YtgeiiengieonfaaDoorSchool
import Derived.Test.YtgeiiengieonfaaDoorLnL
namespace Go.Proofs.YtgeiiengieonfaaDoor
open Go.RowKit
open Go.Shelf
attribute [local go_sem ↓] Go.wp_at_zero Go.wp_at_succ
set_option linter.unusedSimpArgs false
set_option linter.unusedVariables false
set_option maxRecDepth 100000

theorem Tryd.leParts : (Tryd.prog.info? 53).map (fun i => (i.zero, i.size, i.bytes)) = some (some (.agg (leC zLe)), 4, 32) := by kernel_rfl

theorem fill_le2 (x y : Le) : Instr.fill (fun i => some (i * 4, 4)) ((Array.range (2 * 4)).map ((Value.agg (leC zLe)).cells[· % (Value.agg (leC zLe)).cells.size]!)) [(0, .agg (leC x)), (1, .agg (leC y))] = some ((leC x).toList ++ (leC y).toList).toArray := by kernel_rfl

theorem slice2L_le {ops : Array Oper} {rest : List Oper} {o : Oper} {a : Act} {w : World} {Q : Exit → Act → World → Prop} {x0 x1 : Operand} (y0 y1 : Le) (hg : o.guard = none) (ho : o.op = .buildSlice 22 2 #[(0, x0), (1, x1)]) (h0 : a.eval x0 = .agg (leC y0)) (h1 : a.eval x1 = .agg (leC y1))
    (h : ∀ w1, LeIn w1 (some ⟨w.heap.size, 0, none⟩) [y0, y1] → Below w.heap.size w w1 → wpList Tryd.prog ops Q rest (a.put o.dst (.slice (some ⟨w.heap.size, 0, none⟩) 2 2)) w1) : wpList Tryd.prog ops Q (o :: rest) a w :=
  wpList_plain hg fun _ hK => by
    obtain ⟨i0, hi, hz0, hz1, hz2⟩ := info_parts Tryd.leParts
    have HN := Blk.new w 53 ((leC y0).toList ++ (leC y1).toList).toArray
    refine wp_buildSlice 22 53 2 _ ho ((leC y0).toList ++ (leC y1).toList).toArray i0 (.agg (leC zLe)) Tryd.underlying22 hi hz0 (by rw [hz1]; decide) (by rw [hz1]; decide) (by rw [hz1]; simp only [List.map_toArray, List.map_cons, List.map_nil, h0, h1]; exact fill_le2 y0 y1) (hK _ _ (h _ (Or.inr ⟨w.heap.size, 0, rfl, HN.lt, ?_⟩) ((Below.refl _ _).alloc (Nat.le_refl _) _)))
    intro j hj k c hc
    have hk : k < 4 := (Array.getElem?_eq_some_iff.1 hc).1
    have hj2 : j < 2 := hj
    rw [HN.c]
    have hj3 : j = 0 ∨ j = 1 := by omega
    have hk3 : k = 0 ∨ k = 1 ∨ k = 2 ∨ k = 3 := by omega
    rcases hj3 with rfl | rfl <;> rcases hk3 with rfl | rfl | rfl | rfl <;> exact hc

def leA : Le := ⟨0, 1, 3, 0⟩

def leB : Le := ⟨0, 2, 4, 20⟩

set_option maxHeartbeats 3200000 in
theorem learned_any (w : World) : Calls Tryd.prog 5 #[] w fun e w' => e = .returned (.bool true) ∧ Below w.heap.size w w' := by
  have HS := Lib.hid (fun W (h : LeIn W (some ⟨w.heap.size, 0, none⟩) [leA, leB]) => school_any (some ⟨w.heap.size, 0, none⟩) 2 [leA, leB] W h (by decide))
  have hL1 : lookM 100 (schoolM [leA, leB]).1 1 (adF 1) 20 = 3 := by kernel_rfl
  have hL2 : lookM 100 (schoolM [leA, leB]).1 1 (adF 2) 20 = 4 := by kernel_rfl
  have hL3 : lookM 100 (schoolM [leA, leB]).1 1 (adF 3) 20 = -1 := by kernel_rfl
  have hL4 : lookM 100 (schoolM [leA, leB]).1 1 (adF 1) 101 = -1 := by kernel_rfl
  have hL5 : lenM 100 (schoolM [leA, leB]).1 100 = 2 := by kernel_rfl
  generalize (schoolM [leA, leB]).1 = E at *
  generalize (schoolM [leA, leB]).2 = T at *
  have A1 := Lib.hid (fun w => address_any 1 w)
  have A2 := Lib.hid (fun w => address_any 2 w)
  have A3 := Lib.hid (fun w => address_any 3 w)
  have K1 : Hid (∀ t W, Tab W t t 100 T E → Calls Tryd.prog 8 #[.pointer (some ⟨t, 0, none⟩), .int .i64 1, .agg (c6 (adF 1)), .int .i64 20] W fun e w' => e = .returned (.int .i64 3) ∧ Below W.heap.size W w') := fun t W h => by have := lnLook_any t t 100 T E 1 (adF 1) 20 W h; rw [hL1] at this; exact this
  have K2 : Hid (∀ t W, Tab W t t 100 T E → Calls Tryd.prog 8 #[.pointer (some ⟨t, 0, none⟩), .int .i64 1, .agg (c6 (adF 2)), .int .i64 20] W fun e w' => e = .returned (.int .i64 4) ∧ Below W.heap.size W w') := fun t W h => by have := lnLook_any t t 100 T E 1 (adF 2) 20 W h; rw [hL2] at this; exact this
  have K3 : Hid (∀ t W, Tab W t t 100 T E → Calls Tryd.prog 8 #[.pointer (some ⟨t, 0, none⟩), .int .i64 1, .agg (c6 (adF 3)), .int .i64 20] W fun e w' => e = .returned (.int .i64 (-1)) ∧ Below W.heap.size W w') := fun t W h => by have := lnLook_any t t 100 T E 1 (adF 3) 20 W h; rw [hL3] at this; exact this
  have K4 : Hid (∀ t W, Tab W t t 100 T E → Calls Tryd.prog 8 #[.pointer (some ⟨t, 0, none⟩), .int .i64 1, .agg (c6 (adF 1)), .int .i64 101] W fun e w' => e = .returned (.int .i64 (-1)) ∧ Below W.heap.size W w') := fun t W h => by have := lnLook_any t t 100 T E 1 (adF 1) 101 W h; rw [hL4] at this; exact this
  have K5 : Hid (∀ t W, Tab W t t 100 T E → Calls Tryd.prog 18 #[.pointer (some ⟨t, 0, none⟩), .int .i64 100] W fun e w' => e = .returned (.int .i64 2) ∧ Below W.heap.size W w') := fun t W h => by have := lnLen_any t t 100 T E 100 W h; rw [hL5] at this; exact this
  clear hL1 hL2 hL3 hL4 hL5
  generalize adF 1 = f1 at *
  generalize adF 2 = f2 at *
  generalize adF 3 = f3 at *
  go_enter Tryd.func5, Tryd.ntmps5
  go_upto_region 2 with (first
    | (refine build_blk (o := ⟨some 4, _, _, _, _, _⟩) (leC leA) (by rfl) rfl (by kernel_rfl) ?_)
    | (refine build_blk (o := ⟨some 5, _, _, _, _, _⟩) (leC leB) (by rfl) rfl (by kernel_rfl) ?_)
    | (refine slice2L_le leA leB (by rfl) rfl rfl rfl ?_; intro w1 h1 k1)
    | (go_at_call 6; refine (HS.out _ h1).mono ?_; rintro e w2 ⟨rfl, HT, k2⟩))
  have BW : Below w.heap.size w w2 := k1.trans (k2.mono k1.size)
  have HZ := k2.size
  clear k1 k2 h1
  generalize w1.heap.size = tb at *
  go_wp2_with (first
    | (go_at_call 9; (first | (with_reducible refine (A1.out _).mono ?_) | (with_reducible refine (A2.out _).mono ?_) | (with_reducible refine (A3.out _).mono ?_)); rintro e w9 ⟨rfl, kk⟩; replace HT := HT.kept kk; replace BW := BW.trans (kk.mono BW.size); replace HZ := Nat.le_trans HZ kk.size; clear kk)
    | (go_at_call 8; (first | (with_reducible refine (K1.out _ _ HT).mono ?_) | (with_reducible refine (K2.out _ _ HT).mono ?_) | (with_reducible refine (K3.out _ _ HT).mono ?_) | (with_reducible refine (K4.out _ _ HT).mono ?_)); rintro e w9 ⟨rfl, kk⟩; replace HT := HT.kept kk; replace BW := BW.trans (kk.mono BW.size); replace HZ := Nat.le_trans HZ kk.size; clear kk)
    | (go_at_call 18; (first | (with_reducible refine (K5.out _ _ HT).mono ?_)); rintro e w9 ⟨rfl, kk⟩; replace HT := HT.kept kk; replace BW := BW.trans (kk.mono BW.size); replace HZ := Nat.le_trans HZ kk.size; clear kk))
  go_ret
  exact ⟨rfl, BW⟩

end Go.Proofs.YtgeiiengieonfaaDoor
