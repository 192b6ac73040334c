/- package verdict's Same at any two. -/
import Derived.Test.YtnlphldkdglofaaSmM
import Derived.Test.YtnlphldkdglofaaSmL
import Derived.Test.YtnlphldkdglofaaFrSm
namespace Go.Proofs.Ytnlphldkdglofaa
open Go.RowKit
attribute [local go_sem ↓] Go.wp_at_zero Go.wp_at_succ
set_option linter.unusedSimpArgs false
set_option linter.unusedVariables false
set_option maxRecDepth 100000

set_option maxHeartbeats 1600000 in
theorem sameVd_any (x y : Vd) (w : World) (hx : VdIn w x) (hy : VdIn w y) (hf : FrIn w x.fr) (hg : FrIn w y.fr) :
    Calls Try.prog 5 #[.agg (vdC x), .agg (vdC y)] w fun e w' => e = .returned (.bool (eqVd x y)) ∧ Below w.heap.size w w' := by
  go_enter Try.func5, Try.ntmps5
  go_upto_region 1 with (first
    | (refine box_blk 61 (vdC x) (by rfl) (by rfl) rfl ?_; intro w1 HA1 B1)
    | (refine box_blk 61 (vdC y) (by rfl) (by rfl) rfl ?_; intro w2 HB B2))
  have HA := HA1.kept B2
  have BB := B1.trans (B2.mono B1.size)
  generalize w1.heap.size = B at *
  clear HA1 B1 B2
  refine wp_region_lit ?_
  rename_i hK
  refine chain_start (p := .pointer (some ⟨w.heap.size, 0, none⟩)) (q := .pointer (some ⟨B, 0, none⟩)) (n := 87) rfl rfl rfl rfl ?_
  intro a0 h2 h3 hn hd
  refine cmp5 ((x.k == y.k)) (Sm.refl 5 _) h2 h2 h3 (fun _ _ _ => wanted_plain rfl _) (fun _ _ _ => wanted_plain rfl _) (fun _ _ _ => wanted_plain rfl _) (fun _ _ _ => wanted_plain rfl _) (fun _ _ _ => wanted_plain rfl _) rfl rfl rfl rfl rfl (by rw [hn]; decide) (fun _ h => ex_field (k := 0) rfl h (by kernel_rfl)) (fun _ h => ex_load (v := .int .i64 x.k) rfl h (by have c := HA.cv 0 (.int .i64 x.k) rfl; go_simp)) (fun _ h => ex_field (k := 0) rfl h (by kernel_rfl)) (fun _ h => ex_load (v := .int .i64 y.k) rfl h (by have c := HB.cv 0 (.int .i64 y.k) rfl; go_simp)) (fun _ h h' => ex_eq rfl h h' (by first | (go_simp; done) | (go_simp; rfl) | (go_simp; simp))) ?_
  intro a1 S1 G1 A1
  refine one_move S1 A1 rfl rfl rfl (by rw [hn]; decide) ?_
  intro a2 S A2
  clear S1 A1 G1
  rcases Bool.eq_false_or_eq_true ((x.k == y.k)) with c0 | c0
  rotate_left
  · rw [c0] at A2
    refine skip_to 87 4 _ _ A2 (S.sz.trans hn) (by kernel_rfl) ?_
    intro a' e1 e2 e3
    exact chain_end hK rfl (e2.trans (S.df.trans hd)) e3 ⟨by simp [eqVd, c0], BB⟩
  rw [c0] at A2
  have G := A2
  clear A2
  refine cmp5 ((x.e == y.e)) S G h2 h3 (fun _ _ q => wanted_at rfl (by kernel_rfl) q) (fun _ _ q => wanted_at rfl (by kernel_rfl) q) (fun _ _ q => wanted_at rfl (by kernel_rfl) q) (fun _ _ q => wanted_at rfl (by kernel_rfl) q) (fun _ _ q => wanted_at rfl (by kernel_rfl) q) rfl rfl rfl rfl rfl (by rw [hn]; decide) (fun _ h => ex_field (k := 1) rfl h (by kernel_rfl)) (fun _ h => ex_load (v := .int .i64 x.e) rfl h (by have c := HA.cv 1 (.int .i64 x.e) rfl; go_simp)) (fun _ h => ex_field (k := 1) rfl h (by kernel_rfl)) (fun _ h => ex_load (v := .int .i64 y.e) rfl h (by have c := HB.cv 1 (.int .i64 y.e) rfl; go_simp)) (fun _ h h' => ex_eq rfl h h' (by first | (go_simp; done) | (go_simp; rfl) | (go_simp; simp))) ?_
  intro a1 S1 G1 A1
  clear S G
  refine pick_move S1 G1 A1 rfl rfl rfl rfl rfl rfl (by rw [hn]; decide) ?_
  intro a2 S A2
  clear S1 A1 G1
  rcases Bool.eq_false_or_eq_true ((x.e == y.e)) with c1 | c1
  rotate_left
  · rw [c1] at A2
    refine skip_to 87 4 _ _ A2 (S.sz.trans hn) (by kernel_rfl) ?_
    intro a' e1 e2 e3
    exact chain_end hK rfl (e2.trans (S.df.trans hd)) e3 ⟨by simp [eqVd, c0, c1], BB⟩
  rw [c1] at A2
  have G := A2
  clear A2
  refine cmp5 ((x.p == y.p)) S G h2 h3 (fun _ _ q => wanted_at rfl (by kernel_rfl) q) (fun _ _ q => wanted_at rfl (by kernel_rfl) q) (fun _ _ q => wanted_at rfl (by kernel_rfl) q) (fun _ _ q => wanted_at rfl (by kernel_rfl) q) (fun _ _ q => wanted_at rfl (by kernel_rfl) q) rfl rfl rfl rfl rfl (by rw [hn]; decide) (fun _ h => ex_field (k := 2) rfl h (by kernel_rfl)) (fun _ h => ex_load (v := .int .i64 x.p) rfl h (by have c := HA.cv 2 (.int .i64 x.p) rfl; go_simp)) (fun _ h => ex_field (k := 2) rfl h (by kernel_rfl)) (fun _ h => ex_load (v := .int .i64 y.p) rfl h (by have c := HB.cv 2 (.int .i64 y.p) rfl; go_simp)) (fun _ h h' => ex_eq rfl h h' (by first | (go_simp; done) | (go_simp; rfl) | (go_simp; simp))) ?_
  intro a1 S1 G1 A1
  clear S G
  refine pick_move S1 G1 A1 rfl rfl rfl rfl rfl rfl (by rw [hn]; decide) ?_
  intro a2 S A2
  clear S1 A1 G1
  rcases Bool.eq_false_or_eq_true ((x.p == y.p)) with c2 | c2
  rotate_left
  · rw [c2] at A2
    refine skip_to 87 4 _ _ A2 (S.sz.trans hn) (by kernel_rfl) ?_
    intro a' e1 e2 e3
    exact chain_end hK rfl (e2.trans (S.df.trans hd)) e3 ⟨by simp [eqVd, c0, c1, c2], BB⟩
  rw [c2] at A2
  have G := A2
  clear A2
  refine cal5 (sameB x.fr y.fr) S G h2 h3 (fun _ _ q => wanted_at rfl (by kernel_rfl) q) (fun _ _ q => wanted_at rfl (by kernel_rfl) q) (fun _ _ q => wanted_at rfl (by kernel_rfl) q) (fun _ _ q => wanted_at rfl (by kernel_rfl) q) (fun _ _ q => wanted_at rfl (by kernel_rfl) q) rfl rfl rfl rfl rfl (by rw [hn]; decide) (fun _ h => ex_field (k := 3) rfl h (by kernel_rfl)) (fun _ h => exec_load_blk _ (frC x.fr) rfl h HA (by kernel_rfl) (by kernel_rfl) (by kernel_rfl)) (fun _ h => ex_field (k := 3) rfl h (by kernel_rfl)) (fun _ h => exec_load_blk _ (frC y.fr) rfl h HB (by kernel_rfl) (by kernel_rfl) (by kernel_rfl)) (fun _ h h' => ex_call2 rfl h h' Try.func9 (by kernel_rfl) rfl) (same_any x.fr y.fr _ (hf.below BB) (hg.below BB)) ?_
  intro a1 u kk S1 G1 A1
  replace HA := HA.kept kk
  replace HB := HB.kept kk
  replace BB := BB.trans (kk.mono BB.size)
  clear S G
  refine pick_move S1 G1 A1 rfl rfl rfl rfl rfl rfl (by rw [hn]; decide) ?_
  intro a2 S A2
  clear S1 A1 G1
  rcases Bool.eq_false_or_eq_true (sameB x.fr y.fr) with c3 | c3
  rotate_left
  · rw [c3] at A2
    refine skip_to 87 4 _ _ A2 (S.sz.trans hn) (by kernel_rfl) ?_
    intro a' e1 e2 e3
    exact chain_end hK rfl (e2.trans (S.df.trans hd)) e3 ⟨by simp [eqVd, c0, c1, c2, c3], BB⟩
  rw [c3] at A2
  have G := A2
  clear A2
  refine cmp5 (eqAr x.ar y.ar) S G h2 h3 (fun _ _ q => wanted_at rfl (by kernel_rfl) q) (fun _ _ q => wanted_at rfl (by kernel_rfl) q) (fun _ _ q => wanted_at rfl (by kernel_rfl) q) (fun _ _ q => wanted_at rfl (by kernel_rfl) q) (fun _ _ q => wanted_at rfl (by kernel_rfl) q) rfl rfl rfl rfl rfl (by rw [hn]; decide) (fun _ h => ex_field (k := 24) rfl h (by kernel_rfl)) (fun _ h => exec_load_blk _ (arC x.ar) rfl h HA (by kernel_rfl) (by kernel_rfl) (by kernel_rfl)) (fun _ h => ex_field (k := 24) rfl h (by kernel_rfl)) (fun _ h => exec_load_blk _ (arC y.ar) rfl h HB (by kernel_rfl) (by kernel_rfl) (by kernel_rfl)) (fun _ h h' => exec_eq_agg .eql _ (arC x.ar) (arC y.ar) (eqAr x.ar y.ar) rfl (Or.inl rfl) h h' (by kernel_rfl) (run_eql_ar x.ar y.ar _)) ?_
  intro a1 S1 G1 A1
  clear S G
  refine pick_move S1 G1 A1 rfl rfl rfl rfl rfl rfl (by rw [hn]; decide) ?_
  intro a2 S A2
  clear S1 A1 G1
  rcases Bool.eq_false_or_eq_true (eqAr x.ar y.ar) with c4 | c4
  rotate_left
  · rw [c4] at A2
    refine skip_to 87 4 _ _ A2 (S.sz.trans hn) (by kernel_rfl) ?_
    intro a' e1 e2 e3
    exact chain_end hK rfl (e2.trans (S.df.trans hd)) e3 ⟨by simp [eqVd, c0, c1, c2, c3, c4], BB⟩
  rw [c4] at A2
  have G := A2
  clear A2
  refine cmp5 (eqPa x.pa y.pa) S G h2 h3 (fun _ _ q => wanted_at rfl (by kernel_rfl) q) (fun _ _ q => wanted_at rfl (by kernel_rfl) q) (fun _ _ q => wanted_at rfl (by kernel_rfl) q) (fun _ _ q => wanted_at rfl (by kernel_rfl) q) (fun _ _ q => wanted_at rfl (by kernel_rfl) q) rfl rfl rfl rfl rfl (by rw [hn]; decide) (fun _ h => ex_field (k := 45) rfl h (by kernel_rfl)) (fun _ h => exec_load_blk _ (paC x.pa) rfl h HA (by kernel_rfl) (by kernel_rfl) (by kernel_rfl)) (fun _ h => ex_field (k := 45) rfl h (by kernel_rfl)) (fun _ h => exec_load_blk _ (paC y.pa) rfl h HB (by kernel_rfl) (by kernel_rfl) (by kernel_rfl)) (fun _ h h' => exec_eq_agg .eql _ (paC x.pa) (paC y.pa) (eqPa x.pa y.pa) rfl (Or.inl rfl) h h' (by kernel_rfl) (run_eql_pa x.pa y.pa _)) ?_
  intro a1 S1 G1 A1
  clear S G
  refine pick_move S1 G1 A1 rfl rfl rfl rfl rfl rfl (by rw [hn]; decide) ?_
  intro a2 S A2
  clear S1 A1 G1
  rcases Bool.eq_false_or_eq_true (eqPa x.pa y.pa) with c5 | c5
  rotate_left
  · rw [c5] at A2
    refine skip_to 87 4 _ _ A2 (S.sz.trans hn) (by kernel_rfl) ?_
    intro a' e1 e2 e3
    exact chain_end hK rfl (e2.trans (S.df.trans hd)) e3 ⟨by simp [eqVd, c0, c1, c2, c3, c4, c5], BB⟩
  rw [c5] at A2
  have G := A2
  clear A2
  refine cmp5 (eqBp x.bp y.bp) S G h2 h3 (fun _ _ q => wanted_at rfl (by kernel_rfl) q) (fun _ _ q => wanted_at rfl (by kernel_rfl) q) (fun _ _ q => wanted_at rfl (by kernel_rfl) q) (fun _ _ q => wanted_at rfl (by kernel_rfl) q) (fun _ _ q => wanted_at rfl (by kernel_rfl) q) rfl rfl rfl rfl rfl (by rw [hn]; decide) (fun _ h => ex_field (k := 55) rfl h (by kernel_rfl)) (fun _ h => exec_load_blk _ (bpC x.bp) rfl h HA (by kernel_rfl) (by kernel_rfl) (by kernel_rfl)) (fun _ h => ex_field (k := 55) rfl h (by kernel_rfl)) (fun _ h => exec_load_blk _ (bpC y.bp) rfl h HB (by kernel_rfl) (by kernel_rfl) (by kernel_rfl)) (fun _ h h' => exec_eq_agg .eql _ (bpC x.bp) (bpC y.bp) (eqBp x.bp y.bp) rfl (Or.inl rfl) h h' (by kernel_rfl) (run_eql_bp 9996 x.bp y.bp _)) ?_
  intro a1 S1 G1 A1
  clear S G
  refine pick_move S1 G1 A1 rfl rfl rfl rfl rfl rfl (by rw [hn]; decide) ?_
  intro a2 S A2
  clear S1 A1 G1
  rcases Bool.eq_false_or_eq_true (eqBp x.bp y.bp) with c6 | c6
  rotate_left
  · rw [c6] at A2
    refine skip_to 87 4 _ _ A2 (S.sz.trans hn) (by kernel_rfl) ?_
    intro a' e1 e2 e3
    exact chain_end hK rfl (e2.trans (S.df.trans hd)) e3 ⟨by simp [eqVd, c0, c1, c2, c3, c4, c5, c6], BB⟩
  rw [c6] at A2
  have G := A2
  clear A2
  refine cal5 (eqM x y) S G h2 h3 (fun _ _ q => wanted_at rfl (by kernel_rfl) q) (fun _ _ q => wanted_at rfl (by kernel_rfl) q) (fun _ _ q => wanted_at rfl (by kernel_rfl) q) (fun _ _ q => wanted_at rfl (by kernel_rfl) q) (fun _ _ q => wanted_at rfl (by kernel_rfl) q) rfl rfl rfl rfl rfl (by rw [hn]; decide) (fun _ h => ex_field (k := 86) rfl h (by kernel_rfl)) (fun _ h => exec_load_blk _ (mstC x) rfl h HA (by kernel_rfl) (by kernel_rfl) (by kernel_rfl)) (fun _ h => ex_field (k := 86) rfl h (by kernel_rfl)) (fun _ h => exec_load_blk _ (mstC y) rfl h HB (by kernel_rfl) (by kernel_rfl) (by kernel_rfl)) (fun _ h h' => ex_call2 rfl h h' Try.func10 (by kernel_rfl) rfl) (sameM_any x y _ (hx.below BB) (hy.below BB)) ?_
  intro a1 u kk S1 G1 A1
  replace HA := HA.kept kk
  replace HB := HB.kept kk
  replace BB := BB.trans (kk.mono BB.size)
  clear S G
  refine pick_move S1 G1 A1 rfl rfl rfl rfl rfl rfl (by rw [hn]; decide) ?_
  intro a2 S A2
  clear S1 A1 G1
  rcases Bool.eq_false_or_eq_true (eqM x y) with c7 | c7
  rotate_left
  · rw [c7] at A2
    refine skip_to 87 4 _ _ A2 (S.sz.trans hn) (by kernel_rfl) ?_
    intro a' e1 e2 e3
    exact chain_end hK rfl (e2.trans (S.df.trans hd)) e3 ⟨by simp [eqVd, c0, c1, c2, c3, c4, c5, c6, c7], BB⟩
  rw [c7] at A2
  have G := A2
  clear A2
  refine cal5 (eqD x y) S G h2 h3 (fun _ _ q => wanted_at rfl (by kernel_rfl) q) (fun _ _ q => wanted_at rfl (by kernel_rfl) q) (fun _ _ q => wanted_at rfl (by kernel_rfl) q) (fun _ _ q => wanted_at rfl (by kernel_rfl) q) (fun _ _ q => wanted_at rfl (by kernel_rfl) q) rfl rfl rfl rfl rfl (by rw [hn]; decide) (fun _ h => ex_field (k := 131) rfl h (by kernel_rfl)) (fun _ h => exec_load_blk _ (ldC x.ld x.lq) rfl h HA (by kernel_rfl) (by kernel_rfl) (by kernel_rfl)) (fun _ h => ex_field (k := 131) rfl h (by kernel_rfl)) (fun _ h => exec_load_blk _ (ldC y.ld y.lq) rfl h HB (by kernel_rfl) (by kernel_rfl) (by kernel_rfl)) (fun _ h h' => ex_call2 rfl h h' Try.func11 (by kernel_rfl) rfl) (sameD_any x y _ (hx.below BB) (hy.below BB)) ?_
  intro a1 u kk S1 G1 A1
  replace HA := HA.kept kk
  replace HB := HB.kept kk
  replace BB := BB.trans (kk.mono BB.size)
  clear S G
  refine pick_move S1 G1 A1 rfl rfl rfl rfl rfl rfl (by rw [hn]; decide) ?_
  intro a2 S A2
  clear S1 A1 G1
  rcases Bool.eq_false_or_eq_true (eqD x y) with c8 | c8
  rotate_left
  · rw [c8] at A2
    refine skip_to 87 4 _ _ A2 (S.sz.trans hn) (by kernel_rfl) ?_
    intro a' e1 e2 e3
    exact chain_end hK rfl (e2.trans (S.df.trans hd)) e3 ⟨by simp [eqVd, c0, c1, c2, c3, c4, c5, c6, c7, c8], BB⟩
  rw [c8] at A2
  have G := A2
  clear A2
  refine cmp5 (eqLc x.lc y.lc) S G h2 h3 (fun _ _ q => wanted_at rfl (by kernel_rfl) q) (fun _ _ q => wanted_at rfl (by kernel_rfl) q) (fun _ _ q => wanted_at rfl (by kernel_rfl) q) (fun _ _ q => wanted_at rfl (by kernel_rfl) q) (fun _ _ q => wanted_at rfl (by kernel_rfl) q) rfl rfl rfl rfl rfl (by rw [hn]; decide) (fun _ h => ex_field (k := 142) rfl h (by kernel_rfl)) (fun _ h => exec_load_blk _ (lcC x.lc) rfl h HA (by kernel_rfl) (by kernel_rfl) (by kernel_rfl)) (fun _ h => ex_field (k := 142) rfl h (by kernel_rfl)) (fun _ h => exec_load_blk _ (lcC y.lc) rfl h HB (by kernel_rfl) (by kernel_rfl) (by kernel_rfl)) (fun _ h h' => exec_eq_agg .eql _ (lcC x.lc) (lcC y.lc) (eqLc x.lc y.lc) rfl (Or.inl rfl) h h' (by kernel_rfl) (run_eql_lc 9996 x.lc y.lc _)) ?_
  intro a1 S1 G1 A1
  clear S G
  refine pick_move S1 G1 A1 rfl rfl rfl rfl rfl rfl (by rw [hn]; decide) ?_
  intro a2 S A2
  clear S1 A1 G1
  rcases Bool.eq_false_or_eq_true (eqLc x.lc y.lc) with c9 | c9
  rotate_left
  · rw [c9] at A2
    refine skip_to 87 4 _ _ A2 (S.sz.trans hn) (by kernel_rfl) ?_
    intro a' e1 e2 e3
    exact chain_end hK rfl (e2.trans (S.df.trans hd)) e3 ⟨by simp [eqVd, c0, c1, c2, c3, c4, c5, c6, c7, c8, c9], BB⟩
  rw [c9] at A2
  have G := A2
  clear A2
  refine cmp5 (eqMk x.mr y.mr) S G h2 h3 (fun _ _ q => wanted_at rfl (by kernel_rfl) q) (fun _ _ q => wanted_at rfl (by kernel_rfl) q) (fun _ _ q => wanted_at rfl (by kernel_rfl) q) (fun _ _ q => wanted_at rfl (by kernel_rfl) q) (fun _ _ q => wanted_at rfl (by kernel_rfl) q) rfl rfl rfl rfl rfl (by rw [hn]; decide) (fun _ h => ex_field (k := 165) rfl h (by kernel_rfl)) (fun _ h => exec_load_blk _ (mkC x.mr) rfl h HA (by kernel_rfl) (by kernel_rfl) (by kernel_rfl)) (fun _ h => ex_field (k := 165) rfl h (by kernel_rfl)) (fun _ h => exec_load_blk _ (mkC y.mr) rfl h HB (by kernel_rfl) (by kernel_rfl) (by kernel_rfl)) (fun _ h h' => exec_eq_agg .eql _ (mkC x.mr) (mkC y.mr) (eqMk x.mr y.mr) rfl (Or.inl rfl) h h' (by kernel_rfl) (run_eql_mk 9997 x.mr y.mr _)) ?_
  intro a1 S1 G1 A1
  clear S G
  refine pick_move S1 G1 A1 rfl rfl rfl rfl rfl rfl (by rw [hn]; decide) ?_
  intro a2 S A2
  clear S1 A1 G1
  rcases Bool.eq_false_or_eq_true (eqMk x.mr y.mr) with c10 | c10
  rotate_left
  · rw [c10] at A2
    refine skip_to 87 4 _ _ A2 (S.sz.trans hn) (by kernel_rfl) ?_
    intro a' e1 e2 e3
    exact chain_end hK rfl (e2.trans (S.df.trans hd)) e3 ⟨by simp [eqVd, c0, c1, c2, c3, c4, c5, c6, c7, c8, c9, c10], BB⟩
  rw [c10] at A2
  have G := A2
  clear A2
  refine cal5 (decide (xs x.vl = xs y.vl)) S G h2 h3 (fun _ _ q => wanted_at rfl (by kernel_rfl) q) (fun _ _ q => wanted_at rfl (by kernel_rfl) q) (fun _ _ q => wanted_at rfl (by kernel_rfl) q) (fun _ _ q => wanted_at rfl (by kernel_rfl) q) (fun _ _ q => wanted_at rfl (by kernel_rfl) q) rfl rfl rfl rfl rfl (by rw [hn]; decide) (fun _ h => ex_field (k := 174) rfl h (by kernel_rfl)) (fun _ h => ex_load (v := .slice x.va x.vl.length x.vc) rfl h (by have c := HA.cv 174 (.slice x.va x.vl.length x.vc) rfl; go_simp)) (fun _ h => ex_field (k := 174) rfl h (by kernel_rfl)) (fun _ h => ex_load (v := .slice y.va y.vl.length y.vc) rfl h (by have c := HB.cv 174 (.slice y.va y.vl.length y.vc) rfl; go_simp)) (fun _ h h' => ex_call3 rfl h h' Try.func12 (by kernel_rfl) rfl) (sameV_many x.va y.va x.vc y.vc x.vl y.vl _ (hx.below BB).mv (hy.below BB).mv hx.len.2.1 hy.len.2.1) ?_
  intro a1 u kk S1 G1 A1
  replace HA := HA.kept kk
  replace HB := HB.kept kk
  replace BB := BB.trans (kk.mono BB.size)
  clear S G
  refine pick_end S1 G1 A1 rfl rfl rfl rfl rfl rfl (by rw [hn]; decide) ?_
  intro a' e1 e2 e3
  exact chain_end hK rfl (e2.trans hd) e3 ⟨by simp [eqVd, c0, c1, c2, c3, c4, c5, c6, c7, c8, c9, c10], BB⟩

end Go.Proofs.Ytnlphldkdglofaa
