/- package verdict's sameLldp at any two. -/
import Derived.Test.YtnlphldkdglofaaVd
import Derived.Test.YtnlphldkdglofaaBoxB
namespace Go.Proofs.Ytnlphldkdglofaa
open Go.RowKit
attribute [local go_sem ↓] Go.wp_at_zero Go.wp_at_succ
set_option linter.unusedSimpArgs false
set_option linter.unusedVariables false
set_option maxRecDepth 100000

set_option maxHeartbeats 1600000 in
theorem sameD_any (x y : Vd) (w : World) (hx : VdIn w x) (hy : VdIn w y) :
    Calls Try.prog 11 #[.agg (ldC x.ld x.lq), .agg (ldC y.ld y.lq)] w fun e w' => e = .returned (.bool (eqD x y)) ∧ Below w.heap.size w w' := by
  go_enter Try.func11, Try.ntmps11
  go_upto_region 1 with (first
    | (refine box_blk 52 (ldC x.ld x.lq) (by rfl) (by rfl) rfl ?_; intro w1 HA1 B1)
    | (refine box_blk 52 (ldC y.ld y.lq) (by rfl) (by rfl) rfl ?_; intro w2 HB B2))
  have HA := HA1.kept B2
  have BB := B1.trans (B2.mono B1.size)
  generalize w1.heap.size = B at *
  clear HA1 B1 B2
  refine wp_region_lit ?_
  rename_i hK
  refine chain_start (p := .pointer (some ⟨w.heap.size, 0, none⟩)) (q := .pointer (some ⟨B, 0, none⟩)) (n := 66) rfl rfl rfl rfl ?_
  intro a0 h2 h3 hn hd
  refine cmp5 (eqNm x.ld.ch y.ld.ch) (Sm.refl 5 _) h2 h2 h3 (fun _ _ _ => wanted_plain rfl _) (fun _ _ _ => wanted_plain rfl _) (fun _ _ _ => wanted_plain rfl _) (fun _ _ _ => wanted_plain rfl _) (fun _ _ _ => wanted_plain rfl _) rfl rfl rfl rfl rfl (by rw [hn]; decide) (fun _ h => ex_field (k := 0) rfl h (by kernel_rfl)) (fun _ h => exec_load_blk _ (nmC x.ld.ch) rfl h HA (by kernel_rfl) (by kernel_rfl) (by kernel_rfl)) (fun _ h => ex_field (k := 0) rfl h (by kernel_rfl)) (fun _ h => exec_load_blk _ (nmC y.ld.ch) rfl h HB (by kernel_rfl) (by kernel_rfl) (by kernel_rfl)) (fun _ h h' => exec_eq_agg .eql _ (nmC x.ld.ch) (nmC y.ld.ch) (eqNm x.ld.ch y.ld.ch) rfl (Or.inl rfl) h h' (by kernel_rfl) (run_eql_nm 9995 x.ld.ch y.ld.ch _)) ?_
  intro a1 S1 G1 A1
  refine one_move S1 A1 rfl rfl rfl (by rw [hn]; decide) ?_
  intro a2 S A2
  clear S1 A1 G1
  rcases Bool.eq_false_or_eq_true (eqNm x.ld.ch y.ld.ch) with c0 | c0
  rotate_left
  · rw [c0] at A2
    refine skip_to 66 4 _ _ A2 (S.sz.trans hn) (by kernel_rfl) ?_
    intro a' e1 e2 e3
    exact chain_end hK rfl (e2.trans (S.df.trans hd)) e3 ⟨by simp [eqD, c0], BB⟩
  rw [c0] at A2
  have G := A2
  clear A2
  refine cmp5 (eqNm x.ld.po y.ld.po) S G h2 h3 (fun _ _ q => wanted_at rfl (by kernel_rfl) q) (fun _ _ q => wanted_at rfl (by kernel_rfl) q) (fun _ _ q => wanted_at rfl (by kernel_rfl) q) (fun _ _ q => wanted_at rfl (by kernel_rfl) q) (fun _ _ q => wanted_at rfl (by kernel_rfl) q) rfl rfl rfl rfl rfl (by rw [hn]; decide) (fun _ h => ex_field (k := 2) rfl h (by kernel_rfl)) (fun _ h => exec_load_blk _ (nmC x.ld.po) rfl h HA (by kernel_rfl) (by kernel_rfl) (by kernel_rfl)) (fun _ h => ex_field (k := 2) rfl h (by kernel_rfl)) (fun _ h => exec_load_blk _ (nmC y.ld.po) rfl h HB (by kernel_rfl) (by kernel_rfl) (by kernel_rfl)) (fun _ h h' => exec_eq_agg .eql _ (nmC x.ld.po) (nmC y.ld.po) (eqNm x.ld.po y.ld.po) rfl (Or.inl rfl) h h' (by kernel_rfl) (run_eql_nm 9995 x.ld.po y.ld.po _)) ?_
  intro a1 S1 G1 A1
  clear S G
  refine pick_move S1 G1 A1 rfl rfl rfl rfl rfl rfl (by rw [hn]; decide) ?_
  intro a2 S A2
  clear S1 A1 G1
  rcases Bool.eq_false_or_eq_true (eqNm x.ld.po y.ld.po) with c1 | c1
  rotate_left
  · rw [c1] at A2
    refine skip_to 66 4 _ _ A2 (S.sz.trans hn) (by kernel_rfl) ?_
    intro a' e1 e2 e3
    exact chain_end hK rfl (e2.trans (S.df.trans hd)) e3 ⟨by simp [eqD, c0, c1], BB⟩
  rw [c1] at A2
  have G := A2
  clear A2
  refine cmp5 ((x.ld.tt == y.ld.tt)) S G h2 h3 (fun _ _ q => wanted_at rfl (by kernel_rfl) q) (fun _ _ q => wanted_at rfl (by kernel_rfl) q) (fun _ _ q => wanted_at rfl (by kernel_rfl) q) (fun _ _ q => wanted_at rfl (by kernel_rfl) q) (fun _ _ q => wanted_at rfl (by kernel_rfl) q) rfl rfl rfl rfl rfl (by rw [hn]; decide) (fun _ h => ex_field (k := 4) rfl h (by kernel_rfl)) (fun _ h => ex_load (v := .int .i64 x.ld.tt) rfl h (by have c := HA.cv 4 (.int .i64 x.ld.tt) rfl; go_simp)) (fun _ h => ex_field (k := 4) rfl h (by kernel_rfl)) (fun _ h => ex_load (v := .int .i64 y.ld.tt) rfl h (by have c := HB.cv 4 (.int .i64 y.ld.tt) rfl; go_simp)) (fun _ h h' => ex_eq rfl h h' (by first | (go_simp; done) | (go_simp; rfl) | (go_simp; simp))) ?_
  intro a1 S1 G1 A1
  clear S G
  refine pick_move S1 G1 A1 rfl rfl rfl rfl rfl rfl (by rw [hn]; decide) ?_
  intro a2 S A2
  clear S1 A1 G1
  rcases Bool.eq_false_or_eq_true ((x.ld.tt == y.ld.tt)) with c2 | c2
  rotate_left
  · rw [c2] at A2
    refine skip_to 66 4 _ _ A2 (S.sz.trans hn) (by kernel_rfl) ?_
    intro a' e1 e2 e3
    exact chain_end hK rfl (e2.trans (S.df.trans hd)) e3 ⟨by simp [eqD, c0, c1, c2], BB⟩
  rw [c2] at A2
  have G := A2
  clear A2
  refine cal5 (decide (x.ld.de = y.ld.de)) S G h2 h3 (fun _ _ q => wanted_at rfl (by kernel_rfl) q) (fun _ _ q => wanted_at rfl (by kernel_rfl) q) (fun _ _ q => wanted_at rfl (by kernel_rfl) q) (fun _ _ q => wanted_at rfl (by kernel_rfl) q) (fun _ _ q => wanted_at rfl (by kernel_rfl) q) rfl rfl rfl rfl rfl (by rw [hn]; decide) (fun _ h => ex_field (k := 5) rfl h (by kernel_rfl)) (fun _ h => ex_load (v := .slice x.lq.de.1 x.ld.de.length x.lq.de.2) rfl h (by have c := HA.cv 5 (.slice x.lq.de.1 x.ld.de.length x.lq.de.2) rfl; go_simp)) (fun _ h => ex_field (k := 5) rfl h (by kernel_rfl)) (fun _ h => ex_load (v := .slice y.lq.de.1 y.ld.de.length y.lq.de.2) rfl h (by have c := HB.cv 5 (.slice y.lq.de.1 y.ld.de.length y.lq.de.2) rfl; go_simp)) (fun _ h h' => ex_call2 rfl h h' Try.func16 (by kernel_rfl) rfl) (eqTxt_any x.lq.de.1 x.lq.de.2 y.lq.de.1 y.lq.de.2 x.ld.de y.ld.de _ (hx.below BB).ld.1 (hy.below BB).ld.1 hx.len.2.2.1 hy.len.2.2.1) ?_
  intro a1 u kk S1 G1 A1
  replace HA := HA.kept kk
  replace HB := HB.kept kk
  replace BB := BB.trans (kk.mono BB.size)
  clear S G
  refine pick_move S1 G1 A1 rfl rfl rfl rfl rfl rfl (by rw [hn]; decide) ?_
  intro a2 S A2
  clear S1 A1 G1
  rcases Bool.eq_false_or_eq_true (decide (x.ld.de = y.ld.de)) with c3 | c3
  rotate_left
  · rw [c3] at A2
    refine skip_to 66 4 _ _ A2 (S.sz.trans hn) (by kernel_rfl) ?_
    intro a' e1 e2 e3
    exact chain_end hK rfl (e2.trans (S.df.trans hd)) e3 ⟨by simp [eqD, c0, c1, c2, c3], BB⟩
  rw [c3] at A2
  have G := A2
  clear A2
  refine cal5 (decide (x.ld.ho = y.ld.ho)) S G h2 h3 (fun _ _ q => wanted_at rfl (by kernel_rfl) q) (fun _ _ q => wanted_at rfl (by kernel_rfl) q) (fun _ _ q => wanted_at rfl (by kernel_rfl) q) (fun _ _ q => wanted_at rfl (by kernel_rfl) q) (fun _ _ q => wanted_at rfl (by kernel_rfl) q) rfl rfl rfl rfl rfl (by rw [hn]; decide) (fun _ h => ex_field (k := 6) rfl h (by kernel_rfl)) (fun _ h => ex_load (v := .slice x.lq.ho.1 x.ld.ho.length x.lq.ho.2) rfl h (by have c := HA.cv 6 (.slice x.lq.ho.1 x.ld.ho.length x.lq.ho.2) rfl; go_simp)) (fun _ h => ex_field (k := 6) rfl h (by kernel_rfl)) (fun _ h => ex_load (v := .slice y.lq.ho.1 y.ld.ho.length y.lq.ho.2) rfl h (by have c := HB.cv 6 (.slice y.lq.ho.1 y.ld.ho.length y.lq.ho.2) rfl; go_simp)) (fun _ h h' => ex_call2 rfl h h' Try.func16 (by kernel_rfl) rfl) (eqTxt_any x.lq.ho.1 x.lq.ho.2 y.lq.ho.1 y.lq.ho.2 x.ld.ho y.ld.ho _ (hx.below BB).ld.2.1 (hy.below BB).ld.2.1 hx.len.2.2.2.1 hy.len.2.2.2.1) ?_
  intro a1 u kk S1 G1 A1
  replace HA := HA.kept kk
  replace HB := HB.kept kk
  replace BB := BB.trans (kk.mono BB.size)
  clear S G
  refine pick_move S1 G1 A1 rfl rfl rfl rfl rfl rfl (by rw [hn]; decide) ?_
  intro a2 S A2
  clear S1 A1 G1
  rcases Bool.eq_false_or_eq_true (decide (x.ld.ho = y.ld.ho)) with c4 | c4
  rotate_left
  · rw [c4] at A2
    refine skip_to 66 4 _ _ A2 (S.sz.trans hn) (by kernel_rfl) ?_
    intro a' e1 e2 e3
    exact chain_end hK rfl (e2.trans (S.df.trans hd)) e3 ⟨by simp [eqD, c0, c1, c2, c3, c4], BB⟩
  rw [c4] at A2
  have G := A2
  clear A2
  refine cal5 (decide (x.ld.sy = y.ld.sy)) S G h2 h3 (fun _ _ q => wanted_at rfl (by kernel_rfl) q) (fun _ _ q => wanted_at rfl (by kernel_rfl) q) (fun _ _ q => wanted_at rfl (by kernel_rfl) q) (fun _ _ q => wanted_at rfl (by kernel_rfl) q) (fun _ _ q => wanted_at rfl (by kernel_rfl) q) rfl rfl rfl rfl rfl (by rw [hn]; decide) (fun _ h => ex_field (k := 7) rfl h (by kernel_rfl)) (fun _ h => ex_load (v := .slice x.lq.sy.1 x.ld.sy.length x.lq.sy.2) rfl h (by have c := HA.cv 7 (.slice x.lq.sy.1 x.ld.sy.length x.lq.sy.2) rfl; go_simp)) (fun _ h => ex_field (k := 7) rfl h (by kernel_rfl)) (fun _ h => ex_load (v := .slice y.lq.sy.1 y.ld.sy.length y.lq.sy.2) rfl h (by have c := HB.cv 7 (.slice y.lq.sy.1 y.ld.sy.length y.lq.sy.2) rfl; go_simp)) (fun _ h h' => ex_call2 rfl h h' Try.func16 (by kernel_rfl) rfl) (eqTxt_any x.lq.sy.1 x.lq.sy.2 y.lq.sy.1 y.lq.sy.2 x.ld.sy y.ld.sy _ (hx.below BB).ld.2.2.1 (hy.below BB).ld.2.2.1 hx.len.2.2.2.2.1 hy.len.2.2.2.2.1) ?_
  intro a1 u kk S1 G1 A1
  replace HA := HA.kept kk
  replace HB := HB.kept kk
  replace BB := BB.trans (kk.mono BB.size)
  clear S G
  refine pick_move S1 G1 A1 rfl rfl rfl rfl rfl rfl (by rw [hn]; decide) ?_
  intro a2 S A2
  clear S1 A1 G1
  rcases Bool.eq_false_or_eq_true (decide (x.ld.sy = y.ld.sy)) with c5 | c5
  rotate_left
  · rw [c5] at A2
    refine skip_to 66 4 _ _ A2 (S.sz.trans hn) (by kernel_rfl) ?_
    intro a' e1 e2 e3
    exact chain_end hK rfl (e2.trans (S.df.trans hd)) e3 ⟨by simp [eqD, c0, c1, c2, c3, c4, c5], BB⟩
  rw [c5] at A2
  have G := A2
  clear A2
  refine cal5 (eqL eqCp x.ld.ca y.ld.ca) S G h2 h3 (fun _ _ q => wanted_at rfl (by kernel_rfl) q) (fun _ _ q => wanted_at rfl (by kernel_rfl) q) (fun _ _ q => wanted_at rfl (by kernel_rfl) q) (fun _ _ q => wanted_at rfl (by kernel_rfl) q) (fun _ _ q => wanted_at rfl (by kernel_rfl) q) rfl rfl rfl rfl rfl (by rw [hn]; decide) (fun _ h => ex_field (k := 8) rfl h (by kernel_rfl)) (fun _ h => ex_load (v := .slice x.lq.ca.1 x.ld.ca.length x.lq.ca.2) rfl h (by have c := HA.cv 8 (.slice x.lq.ca.1 x.ld.ca.length x.lq.ca.2) rfl; go_simp)) (fun _ h => ex_field (k := 8) rfl h (by kernel_rfl)) (fun _ h => ex_load (v := .slice y.lq.ca.1 y.ld.ca.length y.lq.ca.2) rfl h (by have c := HB.cv 8 (.slice y.lq.ca.1 y.ld.ca.length y.lq.ca.2) rfl; go_simp)) (fun _ h h' => ex_call2 rfl h h' Try.func17 (by kernel_rfl) rfl) (eqCpL_any x.lq.ca.1 x.lq.ca.2 y.lq.ca.1 y.lq.ca.2 x.ld.ca y.ld.ca _ (hx.below BB).ld.2.2.2.1 (hy.below BB).ld.2.2.2.1 hx.len.2.2.2.2.2.1 hy.len.2.2.2.2.2.1) ?_
  intro a1 u kk S1 G1 A1
  replace HA := HA.kept kk
  replace HB := HB.kept kk
  replace BB := BB.trans (kk.mono BB.size)
  clear S G
  refine pick_move S1 G1 A1 rfl rfl rfl rfl rfl rfl (by rw [hn]; decide) ?_
  intro a2 S A2
  clear S1 A1 G1
  rcases Bool.eq_false_or_eq_true (eqL eqCp x.ld.ca y.ld.ca) with c6 | c6
  rotate_left
  · rw [c6] at A2
    refine skip_to 66 4 _ _ A2 (S.sz.trans hn) (by kernel_rfl) ?_
    intro a' e1 e2 e3
    exact chain_end hK rfl (e2.trans (S.df.trans hd)) e3 ⟨by simp [eqD, c0, c1, c2, c3, c4, c5, c6], BB⟩
  rw [c6] at A2
  have G := A2
  clear A2
  refine cal5 (eqL eqMg x.ld.ma y.ld.ma) S G h2 h3 (fun _ _ q => wanted_at rfl (by kernel_rfl) q) (fun _ _ q => wanted_at rfl (by kernel_rfl) q) (fun _ _ q => wanted_at rfl (by kernel_rfl) q) (fun _ _ q => wanted_at rfl (by kernel_rfl) q) (fun _ _ q => wanted_at rfl (by kernel_rfl) q) rfl rfl rfl rfl rfl (by rw [hn]; decide) (fun _ h => ex_field (k := 9) rfl h (by kernel_rfl)) (fun _ h => ex_load (v := .slice x.lq.ma.1 x.ld.ma.length x.lq.ma.2) rfl h (by have c := HA.cv 9 (.slice x.lq.ma.1 x.ld.ma.length x.lq.ma.2) rfl; go_simp)) (fun _ h => ex_field (k := 9) rfl h (by kernel_rfl)) (fun _ h => ex_load (v := .slice y.lq.ma.1 y.ld.ma.length y.lq.ma.2) rfl h (by have c := HB.cv 9 (.slice y.lq.ma.1 y.ld.ma.length y.lq.ma.2) rfl; go_simp)) (fun _ h h' => ex_call2 rfl h h' Try.func18 (by kernel_rfl) rfl) (eqMgL_any x.lq.ma.1 x.lq.ma.2 y.lq.ma.1 y.lq.ma.2 x.ld.ma y.ld.ma _ (hx.below BB).ld.2.2.2.2.1 (hy.below BB).ld.2.2.2.2.1 hx.len.2.2.2.2.2.2.1 hy.len.2.2.2.2.2.2.1) ?_
  intro a1 u kk S1 G1 A1
  replace HA := HA.kept kk
  replace HB := HB.kept kk
  replace BB := BB.trans (kk.mono BB.size)
  clear S G
  refine pick_move S1 G1 A1 rfl rfl rfl rfl rfl rfl (by rw [hn]; decide) ?_
  intro a2 S A2
  clear S1 A1 G1
  rcases Bool.eq_false_or_eq_true (eqL eqMg x.ld.ma y.ld.ma) with c7 | c7
  rotate_left
  · rw [c7] at A2
    refine skip_to 66 4 _ _ A2 (S.sz.trans hn) (by kernel_rfl) ?_
    intro a' e1 e2 e3
    exact chain_end hK rfl (e2.trans (S.df.trans hd)) e3 ⟨by simp [eqD, c0, c1, c2, c3, c4, c5, c6, c7], BB⟩
  rw [c7] at A2
  have G := A2
  clear A2
  refine cal5 (eqL eqOg x.ld.og y.ld.og) S G h2 h3 (fun _ _ q => wanted_at rfl (by kernel_rfl) q) (fun _ _ q => wanted_at rfl (by kernel_rfl) q) (fun _ _ q => wanted_at rfl (by kernel_rfl) q) (fun _ _ q => wanted_at rfl (by kernel_rfl) q) (fun _ _ q => wanted_at rfl (by kernel_rfl) q) rfl rfl rfl rfl rfl (by rw [hn]; decide) (fun _ h => ex_field (k := 10) rfl h (by kernel_rfl)) (fun _ h => ex_load (v := .slice x.lq.og.1 x.ld.og.length x.lq.og.2) rfl h (by have c := HA.cv 10 (.slice x.lq.og.1 x.ld.og.length x.lq.og.2) rfl; go_simp)) (fun _ h => ex_field (k := 10) rfl h (by kernel_rfl)) (fun _ h => ex_load (v := .slice y.lq.og.1 y.ld.og.length y.lq.og.2) rfl h (by have c := HB.cv 10 (.slice y.lq.og.1 y.ld.og.length y.lq.og.2) rfl; go_simp)) (fun _ h h' => ex_call2 rfl h h' Try.func19 (by kernel_rfl) rfl) (eqOgL_any x.lq.og.1 x.lq.og.2 y.lq.og.1 y.lq.og.2 x.ld.og y.ld.og _ (hx.below BB).ld.2.2.2.2.2 (hy.below BB).ld.2.2.2.2.2 hx.len.2.2.2.2.2.2.2 hy.len.2.2.2.2.2.2.2) ?_
  intro a1 u kk S1 G1 A1
  replace HA := HA.kept kk
  replace HB := HB.kept kk
  replace BB := BB.trans (kk.mono BB.size)
  clear S G
  refine pick_end S1 G1 A1 rfl rfl rfl rfl rfl rfl (by rw [hn]; decide) ?_
  intro a' e1 e2 e3
  exact chain_end hK rfl (e2.trans hd) e3 ⟨by simp [eqD, c0, c1, c2, c3, c4, c5, c6, c7], BB⟩

end Go.Proofs.Ytnlphldkdglofaa
