/- package verdict's sameMst at any two. -/
import Derived.Test.YtnlphldkdglofaaVd
import Derived.Test.YtnlphldkdglofaaBoxB
namespace Go.Proofs.Ytnlphldkdglofaa
open Go.RowKit
attribute [local go_sem ↓] Go.wp_at_zero Go.wp_at_succ
set_option linter.unusedSimpArgs false
set_option linter.unusedVariables false
set_option maxRecDepth 100000

set_option maxHeartbeats 1600000 in
theorem sameM_any (x y : Vd) (w : World) (hx : VdIn w x) (hy : VdIn w y) :
    Calls Try.prog 10 #[.agg (mstC x), .agg (mstC y)] w fun e w' => e = .returned (.bool (eqM x y)) ∧ Below w.heap.size w w' := by
  go_enter Try.func10, Try.ntmps10
  go_upto_region 1 with (first
    | (refine box_blk 44 (mstC x) (by rfl) (by rfl) rfl ?_; intro w1 HA1 B1)
    | (refine box_blk 44 (mstC y) (by rfl) (by rfl) rfl ?_; intro w2 HB B2))
  have HA := HA1.kept B2
  have BB := B1.trans (B2.mono B1.size)
  generalize w1.heap.size = B at *
  clear HA1 B1 B2
  refine wp_region_lit ?_
  rename_i hK
  refine chain_start (p := .pointer (some ⟨w.heap.size, 0, none⟩)) (q := .pointer (some ⟨B, 0, none⟩)) (n := 59) rfl rfl rfl rfl ?_
  intro a0 h2 h3 hn hd
  refine cmp5 (eqBp x.ms.base y.ms.base) (Sm.refl 5 _) h2 h2 h3 (fun _ _ _ => wanted_plain rfl _) (fun _ _ _ => wanted_plain rfl _) (fun _ _ _ => wanted_plain rfl _) (fun _ _ _ => wanted_plain rfl _) (fun _ _ _ => wanted_plain rfl _) rfl rfl rfl rfl rfl (by rw [hn]; decide) (fun _ h => ex_field (k := 0) rfl h (by kernel_rfl)) (fun _ h => exec_load_blk _ (bpC x.ms.base) rfl h HA (by kernel_rfl) (by kernel_rfl) (by kernel_rfl)) (fun _ h => ex_field (k := 0) rfl h (by kernel_rfl)) (fun _ h => exec_load_blk _ (bpC y.ms.base) rfl h HB (by kernel_rfl) (by kernel_rfl) (by kernel_rfl)) (fun _ h h' => exec_eq_agg .eql _ (bpC x.ms.base) (bpC y.ms.base) (eqBp x.ms.base y.ms.base) rfl (Or.inl rfl) h h' (by kernel_rfl) (run_eql_bp 9996 x.ms.base y.ms.base _)) ?_
  intro a1 S1 G1 A1
  refine one_move S1 A1 rfl rfl rfl (by rw [hn]; decide) ?_
  intro a2 S A2
  clear S1 A1 G1
  rcases Bool.eq_false_or_eq_true (eqBp x.ms.base y.ms.base) with c0 | c0
  rotate_left
  · rw [c0] at A2
    refine skip_to 59 4 _ _ A2 (S.sz.trans hn) (by kernel_rfl) ?_
    intro a' e1 e2 e3
    exact chain_end hK rfl (e2.trans (S.df.trans hd)) e3 ⟨by simp [eqM, c0], BB⟩
  rw [c0] at A2
  have G := A2
  clear A2
  refine cmp5 ((x.ms.name.toList == y.ms.name.toList)) S G h2 h3 (fun _ _ q => wanted_at rfl (by kernel_rfl) q) (fun _ _ q => wanted_at rfl (by kernel_rfl) q) (fun _ _ q => wanted_at rfl (by kernel_rfl) q) (fun _ _ q => wanted_at rfl (by kernel_rfl) q) (fun _ _ q => wanted_at rfl (by kernel_rfl) q) rfl rfl rfl rfl rfl (by rw [hn]; decide) (fun _ h => ex_field (k := 31) rfl h (by kernel_rfl)) (fun _ h => ex_load (v := .string x.ms.name) rfl h (by have c := HA.cv 31 (.string x.ms.name) rfl; go_simp)) (fun _ h => ex_field (k := 31) rfl h (by kernel_rfl)) (fun _ h => ex_load (v := .string y.ms.name) rfl h (by have c := HB.cv 31 (.string y.ms.name) rfl; go_simp)) (fun _ h h' => ex_eq rfl h h' (by first | (go_simp; done) | (go_simp; rfl) | (go_simp; simp))) ?_
  intro a1 S1 G1 A1
  clear S G
  refine pick_move S1 G1 A1 rfl rfl rfl rfl rfl rfl (by rw [hn]; decide) ?_
  intro a2 S A2
  clear S1 A1 G1
  rcases Bool.eq_false_or_eq_true ((x.ms.name.toList == y.ms.name.toList)) with c1 | c1
  rotate_left
  · rw [c1] at A2
    refine skip_to 59 4 _ _ A2 (S.sz.trans hn) (by kernel_rfl) ?_
    intro a' e1 e2 e3
    exact chain_end hK rfl (e2.trans (S.df.trans hd)) e3 ⟨by simp [eqM, c0, c1], BB⟩
  rw [c1] at A2
  have G := A2
  clear A2
  refine cmp5 ((x.ms.rev == y.ms.rev)) S G h2 h3 (fun _ _ q => wanted_at rfl (by kernel_rfl) q) (fun _ _ q => wanted_at rfl (by kernel_rfl) q) (fun _ _ q => wanted_at rfl (by kernel_rfl) q) (fun _ _ q => wanted_at rfl (by kernel_rfl) q) (fun _ _ q => wanted_at rfl (by kernel_rfl) q) rfl rfl rfl rfl rfl (by rw [hn]; decide) (fun _ h => ex_field (k := 32) rfl h (by kernel_rfl)) (fun _ h => ex_load (v := .int .i64 x.ms.rev) rfl h (by have c := HA.cv 32 (.int .i64 x.ms.rev) rfl; go_simp)) (fun _ h => ex_field (k := 32) rfl h (by kernel_rfl)) (fun _ h => ex_load (v := .int .i64 y.ms.rev) rfl h (by have c := HB.cv 32 (.int .i64 y.ms.rev) rfl; go_simp)) (fun _ h h' => ex_eq rfl h h' (by first | (go_simp; done) | (go_simp; rfl) | (go_simp; simp))) ?_
  intro a1 S1 G1 A1
  clear S G
  refine pick_move S1 G1 A1 rfl rfl rfl rfl rfl rfl (by rw [hn]; decide) ?_
  intro a2 S A2
  clear S1 A1 G1
  rcases Bool.eq_false_or_eq_true ((x.ms.rev == y.ms.rev)) with c2 | c2
  rotate_left
  · rw [c2] at A2
    refine skip_to 59 4 _ _ A2 (S.sz.trans hn) (by kernel_rfl) ?_
    intro a' e1 e2 e3
    exact chain_end hK rfl (e2.trans (S.df.trans hd)) e3 ⟨by simp [eqM, c0, c1, c2], BB⟩
  rw [c2] at A2
  have G := A2
  clear A2
  refine cmp5 ((x.ms.dig.toList == y.ms.dig.toList)) S G h2 h3 (fun _ _ q => wanted_at rfl (by kernel_rfl) q) (fun _ _ q => wanted_at rfl (by kernel_rfl) q) (fun _ _ q => wanted_at rfl (by kernel_rfl) q) (fun _ _ q => wanted_at rfl (by kernel_rfl) q) (fun _ _ q => wanted_at rfl (by kernel_rfl) q) rfl rfl rfl rfl rfl (by rw [hn]; decide) (fun _ h => ex_field (k := 33) rfl h (by kernel_rfl)) (fun _ h => ex_load (v := .string x.ms.dig) rfl h (by have c := HA.cv 33 (.string x.ms.dig) rfl; go_simp)) (fun _ h => ex_field (k := 33) rfl h (by kernel_rfl)) (fun _ h => ex_load (v := .string y.ms.dig) rfl h (by have c := HB.cv 33 (.string y.ms.dig) rfl; go_simp)) (fun _ h h' => ex_eq rfl h h' (by first | (go_simp; done) | (go_simp; rfl) | (go_simp; simp))) ?_
  intro a1 S1 G1 A1
  clear S G
  refine pick_move S1 G1 A1 rfl rfl rfl rfl rfl rfl (by rw [hn]; decide) ?_
  intro a2 S A2
  clear S1 A1 G1
  rcases Bool.eq_false_or_eq_true ((x.ms.dig.toList == y.ms.dig.toList)) with c3 | c3
  rotate_left
  · rw [c3] at A2
    refine skip_to 59 4 _ _ A2 (S.sz.trans hn) (by kernel_rfl) ?_
    intro a' e1 e2 e3
    exact chain_end hK rfl (e2.trans (S.df.trans hd)) e3 ⟨by simp [eqM, c0, c1, c2, c3], BB⟩
  rw [c3] at A2
  have G := A2
  clear A2
  refine cmp5 ((x.ms.cost == y.ms.cost)) S G h2 h3 (fun _ _ q => wanted_at rfl (by kernel_rfl) q) (fun _ _ q => wanted_at rfl (by kernel_rfl) q) (fun _ _ q => wanted_at rfl (by kernel_rfl) q) (fun _ _ q => wanted_at rfl (by kernel_rfl) q) (fun _ _ q => wanted_at rfl (by kernel_rfl) q) rfl rfl rfl rfl rfl (by rw [hn]; decide) (fun _ h => ex_field (k := 34) rfl h (by kernel_rfl)) (fun _ h => ex_load (v := .int .i64 x.ms.cost) rfl h (by have c := HA.cv 34 (.int .i64 x.ms.cost) rfl; go_simp)) (fun _ h => ex_field (k := 34) rfl h (by kernel_rfl)) (fun _ h => ex_load (v := .int .i64 y.ms.cost) rfl h (by have c := HB.cv 34 (.int .i64 y.ms.cost) rfl; go_simp)) (fun _ h h' => ex_eq rfl h h' (by first | (go_simp; done) | (go_simp; rfl) | (go_simp; simp))) ?_
  intro a1 S1 G1 A1
  clear S G
  refine pick_move S1 G1 A1 rfl rfl rfl rfl rfl rfl (by rw [hn]; decide) ?_
  intro a2 S A2
  clear S1 A1 G1
  rcases Bool.eq_false_or_eq_true ((x.ms.cost == y.ms.cost)) with c4 | c4
  rotate_left
  · rw [c4] at A2
    refine skip_to 59 4 _ _ A2 (S.sz.trans hn) (by kernel_rfl) ?_
    intro a' e1 e2 e3
    exact chain_end hK rfl (e2.trans (S.df.trans hd)) e3 ⟨by simp [eqM, c0, c1, c2, c3, c4], BB⟩
  rw [c4] at A2
  have G := A2
  clear A2
  refine cmp5 (eqB x.ms.br y.ms.br) S G h2 h3 (fun _ _ q => wanted_at rfl (by kernel_rfl) q) (fun _ _ q => wanted_at rfl (by kernel_rfl) q) (fun _ _ q => wanted_at rfl (by kernel_rfl) q) (fun _ _ q => wanted_at rfl (by kernel_rfl) q) (fun _ _ q => wanted_at rfl (by kernel_rfl) q) rfl rfl rfl rfl rfl (by rw [hn]; decide) (fun _ h => ex_field (k := 35) rfl h (by kernel_rfl)) (fun _ h => exec_load_blk _ (brC x.ms.br) rfl h HA (by kernel_rfl) (by kernel_rfl) (by kernel_rfl)) (fun _ h => ex_field (k := 35) rfl h (by kernel_rfl)) (fun _ h => exec_load_blk _ (brC y.ms.br) rfl h HB (by kernel_rfl) (by kernel_rfl) (by kernel_rfl)) (fun _ h h' => exec_eq_agg .eql _ (brC x.ms.br) (brC y.ms.br) (eqB x.ms.br y.ms.br) rfl (Or.inl rfl) h h' (by kernel_rfl) (run_eql_br 9997 x.ms.br y.ms.br _)) ?_
  intro a1 S1 G1 A1
  clear S G
  refine pick_move S1 G1 A1 rfl rfl rfl rfl rfl rfl (by rw [hn]; decide) ?_
  intro a2 S A2
  clear S1 A1 G1
  rcases Bool.eq_false_or_eq_true (eqB x.ms.br y.ms.br) with c5 | c5
  rotate_left
  · rw [c5] at A2
    refine skip_to 59 4 _ _ A2 (S.sz.trans hn) (by kernel_rfl) ?_
    intro a' e1 e2 e3
    exact chain_end hK rfl (e2.trans (S.df.trans hd)) e3 ⟨by simp [eqM, c0, c1, c2, c3, c4, c5], BB⟩
  rw [c5] at A2
  have G := A2
  clear A2
  refine cmp5 ((x.ms.hop == y.ms.hop)) S G h2 h3 (fun _ _ q => wanted_at rfl (by kernel_rfl) q) (fun _ _ q => wanted_at rfl (by kernel_rfl) q) (fun _ _ q => wanted_at rfl (by kernel_rfl) q) (fun _ _ q => wanted_at rfl (by kernel_rfl) q) (fun _ _ q => wanted_at rfl (by kernel_rfl) q) rfl rfl rfl rfl rfl (by rw [hn]; decide) (fun _ h => ex_field (k := 43) rfl h (by kernel_rfl)) (fun _ h => ex_load (v := .int .i64 x.ms.hop) rfl h (by have c := HA.cv 43 (.int .i64 x.ms.hop) rfl; go_simp)) (fun _ h => ex_field (k := 43) rfl h (by kernel_rfl)) (fun _ h => ex_load (v := .int .i64 y.ms.hop) rfl h (by have c := HB.cv 43 (.int .i64 y.ms.hop) rfl; go_simp)) (fun _ h h' => ex_eq rfl h h' (by first | (go_simp; done) | (go_simp; rfl) | (go_simp; simp))) ?_
  intro a1 S1 G1 A1
  clear S G
  refine pick_move S1 G1 A1 rfl rfl rfl rfl rfl rfl (by rw [hn]; decide) ?_
  intro a2 S A2
  clear S1 A1 G1
  rcases Bool.eq_false_or_eq_true ((x.ms.hop == y.ms.hop)) with c6 | c6
  rotate_left
  · rw [c6] at A2
    refine skip_to 59 4 _ _ A2 (S.sz.trans hn) (by kernel_rfl) ?_
    intro a' e1 e2 e3
    exact chain_end hK rfl (e2.trans (S.df.trans hd)) e3 ⟨by simp [eqM, c0, c1, c2, c3, c4, c5, c6], BB⟩
  rw [c6] at A2
  have G := A2
  clear A2
  refine cal5 (eqL eqIn x.il y.il) S G h2 h3 (fun _ _ q => wanted_at rfl (by kernel_rfl) q) (fun _ _ q => wanted_at rfl (by kernel_rfl) q) (fun _ _ q => wanted_at rfl (by kernel_rfl) q) (fun _ _ q => wanted_at rfl (by kernel_rfl) q) (fun _ _ q => wanted_at rfl (by kernel_rfl) q) rfl rfl rfl rfl rfl (by rw [hn]; decide) (fun _ h => ex_field (k := 44) rfl h (by kernel_rfl)) (fun _ h => ex_load (v := .slice x.ia x.il.length x.ic) rfl h (by have c := HA.cv 44 (.slice x.ia x.il.length x.ic) rfl; go_simp)) (fun _ h => ex_field (k := 44) rfl h (by kernel_rfl)) (fun _ h => ex_load (v := .slice y.ia y.il.length y.ic) rfl h (by have c := HB.cv 44 (.slice y.ia y.il.length y.ic) rfl; go_simp)) (fun _ h h' => ex_call2 rfl h h' Try.func15 (by kernel_rfl) rfl) (eqInsL_any x.ia x.ic y.ia y.ic x.il y.il _ (hx.ins.below BB) (hy.ins.below BB) hx.len.1 hy.len.1) ?_
  intro a1 u kk S1 G1 A1
  replace BB := BB.trans (kk.mono BB.size)
  clear S G
  refine pick_end S1 G1 A1 rfl rfl rfl rfl rfl rfl (by rw [hn]; decide) ?_
  intro a' e1 e2 e3
  exact chain_end hK rfl (e2.trans hd) e3 ⟨by simp [eqM, c0, c1, c2, c3, c4, c5, c6], BB⟩

end Go.Proofs.Ytnlphldkdglofaa
