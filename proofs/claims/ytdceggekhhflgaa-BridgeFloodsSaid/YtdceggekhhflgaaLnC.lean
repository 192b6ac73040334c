/- package learn: Learn, where it doesn't err. -/
import Derived.Test.YtdceggekhhflgaaLnE
import Derived.Test.YtdceggekhhflgaaAnyT
namespace Go.Proofs.Ytdceggekhhflgaa
open Go.RowKit
open Go.Shelf
attribute [local go_sem ↓] Go.wp_at_zero Go.wp_at_succ
set_option linter.unusedSimpArgs false
set_option linter.unusedVariables false
set_option maxRecDepth 100000
set_option linter.unusedSectionVars false
variable [Zone]

theorem exec_build_blkE {P : Program} {a : Act} {o : Oper} {w : World} {t : TypeId} {parts : Array (Nat × Operand)} (X : Array Value) (ho : o.op = .build t parts)
    (hf : P.built t (parts.map fun (i, x) => (i, a.eval x)).toList = some X) : (execOp a.eval o).run P w = .ok (.value (.agg X)) w := by
  have h1 := run_build (P := P) w t (parts.map fun (i, x) => (i, a.eval x)) X hf
  unfold execOp
  simp only [ho, Sem.run_bind, Result.andThen_ok, h1, Sem.run_pure]

set_option maxHeartbeats 3200000 in
theorem learn_okS (B t : Nat) (age last : Int) (l : List Ent) (vid : Int) (a : Nat → Nat) (port now : Int) (w : World) (h : Tab w B t age last l) (ha : ∀ i, a i < 256) (hB : Zone.up B ≤ w.heap.size) (hg : ¬ a 0 % 2 = 1) (hv1 : ¬ vid < 1) (hv2 : ¬ 4094 < vid) (hp1 : ¬ port < 0) (hp2 : ¬ 8 ≤ port) (hn1 : ¬ now < 0) (hn2 : ¬ 1099511627776 < now) (ho1 : ¬ now < last)
    (hm : ¬ (restM age l vid a now).length = 32) :
    Calls Try.prog 41 #[.pointer (some ⟨t, 0, none⟩), .int .i64 vid, .agg (c6 a), .int .i64 port, .int .i64 now] w fun e w' => e = .returned .nilIface ∧ Tab w' B t age now (learnM age l vid a port now) ∧ Lx B LT w w' := by
  obtain ⟨hX, hb0⟩ := box4 w t vid (c6 a) now
  have HG := Lib.hid (group6 a ha (W4 w t vid (c6 a) now))
  have hTab := h.kept hb0
  obtain ⟨v, hb, hr⟩ := hTab.row
  have HOK := Lib.hid (h.ok.learn age vid a port now ha (by omega) (by omega) (by omega) (by omega))
  have HN := Lib.hid (show 0 ≤ now ∧ now ≤ 1099511627776 by omega)
  have hlo := Lib.hid h.lo
  have ha0 := Lib.hid h.a0
  have ha1 := Lib.hid h.a1
  obtain ⟨m, hm0⟩ : ∃ m, restM age l vid a now = m := ⟨_, rfl⟩
  rw [hm0] at hm
  have hLM : learnM age l vid a port now = m ++ [⟨vid, a, port, now⟩] := by unfold learnM; rw [hm0]; unfold roomM; rw [if_neg hm]
  rw [hLM] at HOK ⊢
  have HM0 : Hid ((l.filter fun e => !goneE age now vid a e) = m) := hm0
  have HX := Lib.hid hX
  have HB := Lib.hid hb
  have HTB := Lib.hid hTab
  have HB0 := Lib.hid hb0
  have hBs0 := Nat.le_trans hB hb0.size
  have HLb : Hid (Lx B LT w (W4 w t vid (c6 a) now)) := Lx.of hb0
  have hAl := hX.a
  have hg : decide (a 0 % 2 = 1) = false := decide_eq_false hg
  have dv1 : decide (vid < 1) = false := decide_eq_false hv1
  have dv2 : decide ((4094 : Int) < vid) = false := decide_eq_false hv2
  have dp1 : decide (port < 0) = false := decide_eq_false hp1
  have dp2 : decide ((8 : Int) ≤ port) = false := decide_eq_false hp2
  have dn1 : decide (now < 0) = false := decide_eq_false hn1
  have dn2 : decide ((1099511627776 : Int) < now) = false := decide_eq_false hn2
  have do1 : decide (now < last) = false := decide_eq_false ho1
  rw [hg] at HG
  clear h hr hb hb0 hX hg hTab hm0 hLM
  unfold W4 c6 at *
  go_enter Try.func41, Try.ntmps41
  go_upto_region 1 with (fail)
  generalize (((w.alloc (.cells #[.pointer (some ⟨t, 0, none⟩)] 72)).alloc (.cells #[.int .i64 vid] 3)).alloc (.cells #[.int .u8 (a 0), .int .u8 (a 1), .int .u8 (a 2), .int .u8 (a 3), .int .u8 (a 4), .int .u8 (a 5)] 33)).alloc (.cells #[.int .i64 now] 3) = W0 at *
  generalize w.heap.size = NB at *
  go_wp2_with (first
    | (refine load_blk (k := 0) 33 #[.int .u8 (a 0), .int .u8 (a 1), .int .u8 (a 2), .int .u8 (a 3), .int .u8 (a 4), .int .u8 (a 5)] (by rfl) rfl rfl hAl (by kernel_rfl) (by kernel_rfl) (by rfl) ?_)
    | (go_at_call 40; refine HG.out.mono ?_; rintro e w1 ⟨rfl, k1⟩; have HX1 := HX.out.kept k1; have c0 := HX1.t.cv 0 (.pointer (some ⟨t, 0, none⟩)) rfl; have c1 := HX1.v.cv 0 (.int .i64 vid) rfl; have c3 := HX1.n.cv 0 (.int .i64 now) rfl; have c4 := (HB.out.kept k1).cv 1 (.int .i64 last) rfl))
  go_quiet (fail)
  have kq : Below W0.heap.size W0 (w1.drewN nq) := ⟨k1.os, k1.tape, k1.output, k1.size, k1.block⟩
  generalize w1.drewN nq = w2 at *
  have HX2 := HX.out.kept kq
  have hT2 := HTB.out.kept kq
  have c0 := HX2.t.cv 0 (.pointer (some ⟨t, 0, none⟩)) rfl
  obtain ⟨v2, hb2, hr2⟩ := hT2.row
  have hBs2 := Nat.le_trans hBs0 kq.size
  have HR := Lib.hid (remove_any _ _ _ _ Try.enters_learn1 (learn1_any t NB (NB + 3) (NB + 1) (NB + 2) age last v2 now vid a ha0.out ha1.out) (fun w w' h hx => h.lx hx) B t age last l w2 hT2 ⟨hb2, HX2.t, HX2.n, HX2.v, HX2.a⟩ hBs2)
  rw [HM0.out] at HR
  have L2 : Lx B LT W0 w2 := Lx.of kq
  clear hT2 hb2 hr2 HTB HB HX k1 HX1
  go_upto_region 8 with (refine HR.out.mono ?_; rintro e w3 ⟨rfl, hT3, hx3⟩)
  have HXb := HX2.lx hx3 (by decide) (by decide) (by decide)
  have c0 := HXb.t.cv 0 (.pointer (some ⟨t, 0, none⟩)) rfl
  have hBs := Nat.le_trans hBs2 hx3.size
  have L3 := L2.trans hx3
  have hlen3 := hT3.ok.len
  obtain ⟨⟨v3, hTb, hr3⟩, -, hok3, -, -, -, -⟩ := hT3
  obtain ⟨ad5, c5, rfl⟩ := hr3.toA.form
  have c2 := hTb.cv 2 (.slice ad5 m.length c5) rfl
  clear L2 hx3 kq HX2 HR HM0 HG
  have e32 : ((m.length : Int) == 32) = false := beq_eq_false_iff_ne.2 (by omega)
  go_wp2_with fail
  have HM := Lib.hid (show m.length ≤ 100000 by omega)
  have hR := Lib.hid hr3
  have Lw := Lib.hid L3
  obtain ⟨M, hM⟩ : ∃ M, m.length = M := ⟨_, rfl⟩
  rw [hM] at hR hTb ⊢
  clear hr3 L3 hok3 hm e32 hlen3 c2 c0
  go_upto_region 10 with (fail)
  have HXb1 : Box4 w3.drew NB t vid #[.int .u8 (a 0), .int .u8 (a 1), .int .u8 (a 2), .int .u8 (a 3), .int .u8 (a 4), .int .u8 (a 5)] now := HXb.drew
  refine wp_region_noPanic ?_
  refine wp_region_T (fun w' => Blk w' t 104 (tabC age last (.slice ad5 M c5))) (fun w' => Box4 w' NB t vid #[.int .u8 (a 0), .int .u8 (a 1), .int .u8 (a 2), .int .u8 (a 3), .int .u8 (a 4), .int .u8 (a 5)] now) (fun j => j == 11) (by kernel_rfl) (⟨hTb, HXb1⟩) (fun hHeld => ?_)
  refine wpAnyT_takeT (i := 0) (v := (.pointer (some ⟨t, 0, none⟩))) rfl (by kernel_rfl) (by kernel_rfl) (by kernel_rfl) (by rfl) (fun _ _ _ h => h) (Or.inl ⟨by rfl, fun w hSw => by have c := hSw.t.cv 0 (.pointer (some ⟨t, 0, none⟩)) rfl; go_simp⟩) (by assumption) ?_
  (try simp only [Act.put, List.getElem_toArray, List.getElem_cons_zero, List.getElem_cons_succ, List.setIfInBounds_toArray, List.set_cons_zero, List.set_cons_succ])
  refine wpAnyT_takeT (i := 1) (v := (.pointer (some ⟨t, 0, none⟩))) rfl (by kernel_rfl) (by kernel_rfl) (by kernel_rfl) (by rfl) (fun _ _ _ h => h) (Or.inl ⟨by rfl, fun w hSw => by have c := hSw.t.cv 0 (.pointer (some ⟨t, 0, none⟩)) rfl; go_simp⟩) (by assumption) ?_
  (try simp only [Act.put, List.getElem_toArray, List.getElem_cons_zero, List.getElem_cons_succ, List.setIfInBounds_toArray, List.set_cons_zero, List.set_cons_succ])
  refine wpAnyT_takeT (i := 2) (v := ?_) rfl (by kernel_rfl) (by kernel_rfl) (by kernel_rfl) (by rfl) (fun _ _ _ h => h) (Or.inl ⟨by rfl, ?_⟩) (by assumption) ?_
  rotate_left
  · intro w hSw; clear hSw; go_simp; (try with_reducible rfl)
  (try simp only [Act.put, List.getElem_toArray, List.getElem_cons_zero, List.getElem_cons_succ, List.setIfInBounds_toArray, List.set_cons_zero, List.set_cons_succ])
  refine wpAnyT_takeT (i := 3) (v := ?_) rfl (by kernel_rfl) (by kernel_rfl) (by kernel_rfl) (by rfl) (fun _ _ _ h => h) (Or.inl ⟨by rfl, ?_⟩) (by assumption) ?_
  rotate_left
  · intro w hSw; clear hSw; go_simp; (try with_reducible rfl)
  (try simp only [Act.put, List.getElem_toArray, List.getElem_cons_zero, List.getElem_cons_succ, List.setIfInBounds_toArray, List.set_cons_zero, List.set_cons_succ])
  refine wpAnyT_take (i := 4) (v := (.slice ad5 M c5)) rfl (by kernel_rfl) (by kernel_rfl) (by kernel_rfl) (by rfl) (by kernel_rfl) (fun _ _ _ h => h) (Or.inl ⟨by rfl, fun w hSw => by have c := hSw.cv 2 (.slice ad5 M c5) rfl; go_simp⟩) (by assumption) ?_
  (try simp only [Act.put, List.getElem_toArray, List.getElem_cons_zero, List.getElem_cons_succ, List.setIfInBounds_toArray, List.set_cons_zero, List.set_cons_succ])
  refine wpAnyT_takeT (i := 5) (v := (.int .i64 vid)) rfl (by kernel_rfl) (by kernel_rfl) (by kernel_rfl) (by rfl) (fun _ _ _ h => h) (Or.inl ⟨by rfl, fun w hSw => by have c := hSw.v.cv 0 (.int .i64 vid) rfl; go_simp⟩) (by assumption) ?_
  (try simp only [Act.put, List.getElem_toArray, List.getElem_cons_zero, List.getElem_cons_succ, List.setIfInBounds_toArray, List.set_cons_zero, List.set_cons_succ])
  refine wpAnyT_takeT (i := 6) (v := (.agg #[.int .u8 (a 0), .int .u8 (a 1), .int .u8 (a 2), .int .u8 (a 3), .int .u8 (a 4), .int .u8 (a 5)])) rfl (by kernel_rfl) (by kernel_rfl) (by kernel_rfl) (by rfl) (fun _ _ _ h => h) (Or.inl ⟨by rfl, fun w hSw => exec_load_blk (k := 0) 33 (#[.int .u8 (a 0), .int .u8 (a 1), .int .u8 (a 2), .int .u8 (a 3), .int .u8 (a 4), .int .u8 (a 5)]) rfl rfl hSw.a (by kernel_rfl) (by kernel_rfl) rfl⟩) (by assumption) ?_
  (try simp only [Act.put, List.getElem_toArray, List.getElem_cons_zero, List.getElem_cons_succ, List.setIfInBounds_toArray, List.set_cons_zero, List.set_cons_succ])
  refine wpAnyT_takeT (i := 7) (v := ?_) rfl (by kernel_rfl) (by kernel_rfl) (by kernel_rfl) (by rfl) (fun _ _ _ h => h) (Or.inl ⟨by rfl, ?_⟩) (by assumption) ?_
  rotate_left
  · intro w hSw; clear hSw; go_simp; (try with_reducible rfl)
  (try simp only [Act.put, List.getElem_toArray, List.getElem_cons_zero, List.getElem_cons_succ, List.setIfInBounds_toArray, List.set_cons_zero, List.set_cons_succ])
  refine wpAnyT_takeT (i := 8) (v := (.int .i64 now)) rfl (by kernel_rfl) (by kernel_rfl) (by kernel_rfl) (by rfl) (fun _ _ _ h => h) (Or.inl ⟨by rfl, fun w hSw => by have c := hSw.n.cv 0 (.int .i64 now) rfl; go_simp⟩) (by assumption) ?_
  (try simp only [Act.put, List.getElem_toArray, List.getElem_cons_zero, List.getElem_cons_succ, List.setIfInBounds_toArray, List.set_cons_zero, List.set_cons_succ])
  refine wpAnyT_takeT (i := 9) (v := (.agg (enC ⟨vid, a, port, now⟩))) rfl (by kernel_rfl) (by kernel_rfl) (by kernel_rfl) (by rfl) (fun _ _ _ h => h) (Or.inl ⟨by rfl, fun w hSw => exec_build_blkE (t := 100) (enC ⟨vid, a, port, now⟩) rfl (by kernel_rfl)⟩) (by assumption) ?_
  (try simp only [Act.put, List.getElem_toArray, List.getElem_cons_zero, List.getElem_cons_succ, List.setIfInBounds_toArray, List.set_cons_zero, List.set_cons_succ])
  refine wpAnyT_one (r := 10) (by kernel_rfl) rfl (by rfl) (by rfl) (fun K hK => ?_)
  (try simp only [List.getElem_toArray, List.getElem_cons_zero, List.getElem_cons_succ])
  refine slice_en Try.enT ⟨vid, a, port, now⟩ rfl rfl (fun u1 hBn bb1 hs1 => ?_)
  have hT1 := hTb.drew.kept bb1
  have hX1 := HXb1.kept bb1
  have hR1 := (show RowE w3.drew B 100 (.slice ad5 M c5) _ from hR.out).kept bb1
  have hbs1 := Nat.le_trans hBs bb1.size
  refine hK _ _ ?_ (fun hHeld => ?_)
  · exact ⟨hT1, hX1⟩
  clear hK K
  (try simp only [Act.put, List.getElem_toArray, List.getElem_cons_zero, List.getElem_cons_succ, List.setIfInBounds_toArray, List.set_cons_zero, List.set_cons_succ])
  refine wpAnyT_last (r := 11) (by kernel_rfl) rfl (by rfl) (by rfl) (fun K hK => ?_)
  (try simp only [List.getElem_toArray, List.getElem_cons_zero, List.getElem_cons_succ])
  refine append_en (l := m) Try.enT ⟨vid, a, port, now⟩ rfl rfl rfl hR1 hBn (by have := HM.out; omega) hbs1 (fun v6 u2 hr6 hx6 => ?_)
  have hT2 := hx6.blk hT1 (by decide)
  have hX2 := hX1.lx hx6 (by decide) (by decide) (by decide)
  obtain ⟨ad6, c6', e6⟩ := hr6.toA.form
  subst e6
  have hr6 := Lib.hid hr6
  obtain ⟨M6, hM6⟩ : ∃ M6, (m ++ [(⟨vid, a, port, now⟩ : Ent)]).length = M6 := ⟨_, rfl⟩
  rw [hM6] at hr6 ⊢
  have hx6 := Lib.hid ((Lx.of bb1 : Lx B [100] _ _).trans hx6)
  refine hK _ _ ?_ (fun hHeld => ?_)
  · exact hX2
  clear hK K
  (try simp only [Act.put, List.getElem_toArray, List.getElem_cons_zero, List.getElem_cons_succ, List.setIfInBounds_toArray, List.set_cons_zero, List.set_cons_succ])
  refine wpAnyH_take (i := 12) (v := ?_) rfl (by kernel_rfl) (by kernel_rfl) (by kernel_rfl) (fun _ _ _ h => h) (Or.inl ⟨by rfl, ?_⟩) (by assumption) ?_
  rotate_left
  · (intro w hSw; clear hSw; go_simp; (try with_reducible rfl))
  (try simp only [Act.put, List.getElem_toArray, List.getElem_cons_zero, List.getElem_cons_succ, List.setIfInBounds_toArray, List.set_cons_zero, List.set_cons_succ])
  refine wpAnyH_take (i := 13) (v := ?_) rfl (by kernel_rfl) (by kernel_rfl) (by kernel_rfl) (fun _ _ _ h => h) (Or.inl ⟨by rfl, ?_⟩) (by assumption) ?_
  rotate_left
  · (intro w hSw; clear hSw; go_simp; (try with_reducible rfl))
  (try simp only [Act.put, List.getElem_toArray, List.getElem_cons_zero, List.getElem_cons_succ, List.setIfInBounds_toArray, List.set_cons_zero, List.set_cons_succ])
  refine wpAnyH_ready (rs := [14]) (by kernel_rfl) (by simp) ?_
  refine AllReadyH.cons rfl (fun K hK => ?_) AllReadyH.nil
  simp only [List.getElem_toArray, List.getElem_cons_zero, List.getElem_cons_succ]
  rw [if_pos (by rfl)]
  refine wp_store_op (k := 2) 102 (.slice ad6 M6 c6') (tabC age last (.slice ad6 M6 c6')) (by rfl) rfl rfl hT2 (by kernel_rfl) (show (3 : Nat) ≤ 3 from Nat.le_refl 3) (by rfl) rfl (fun u3 hT3 bb3 g3 => ?_)
  have hX3 : Box4 u3 NB t vid #[.int .u8 (a 0), .int .u8 (a 1), .int .u8 (a 2), .int .u8 (a 3), .int .u8 (a 4), .int .u8 (a 5)] now := ⟨hX2.t.grown g3 (by intro e; cases e; exact absurd (blk_type hX2.t hT2) (by decide)), hX2.v.grown g3 (by intro e; cases e; exact absurd (blk_type hX2.v hT2) (by decide)), hX2.a.grown g3 (by intro e; cases e; exact absurd (blk_type hX2.a hT2) (by decide)), hX2.n.grown g3 (by intro e; cases e; exact absurd (blk_type hX2.n hT2) (by decide))⟩
  have hR3 := Lib.hid (hr6.out.other g3 hT2 (by decide))
  have L3 := Lib.hid (((Lw.out.trans (show Lx B LT w3 w3.drew from Lx.of ((Below.refl _ _).drew))).trans (hx6.out.mono (Nat.le_refl _) (by simp))).grown g3 hlo.out List.mem_cons_self hT2)
  refine hK.out _ _ ?_ (fun hHeld => ?_)
  · exact hX3
  clear hK K
  (try simp only [Act.put, List.getElem_toArray, List.getElem_cons_zero, List.getElem_cons_succ, List.setIfInBounds_toArray, List.set_cons_zero, List.set_cons_succ])
  refine wpAnyH_done (by kernel_rfl) ?_ _
  refine NoPanic.normal ?_
  have c0 := hX3.t.cv 0 (.pointer (some ⟨t, 0, none⟩)) rfl
  have c3 := hX3.n.cv 0 (.int .i64 now) rfl
  clear hT1 hX1 hR1 hbs1 hT2 hX2 bb1 hs1 hBn bb3
  go_wp2_with (refine store_blk (B := t) (k := 1) 3 (.int .i64 now) (tabC age now (.slice ad6 M6 c6')) (by rfl) rfl rfl rfl hT3 (by kernel_rfl) (show (2 : Nat) ≤ 3 by decide) (by rfl) rfl ?_; intro u4 hT4 bb4 g4)
  go_ret
  exact ⟨rfl, ⟨⟨_, hT4, hR3.out.other g4 hT3 (by decide)⟩, hlo.out, HOK.out, ha0.out, ha1.out, HN.out.1, HN.out.2⟩, HLb.out.trans (L3.out.grown g4 hlo.out List.mem_cons_self hT3)⟩

set_option maxHeartbeats 3200000 in
theorem learn_okF (B t : Nat) (age last : Int) (l : List Ent) (vid : Int) (a : Nat → Nat) (port now : Int) (w : World) (h : Tab w B t age last l) (ha : ∀ i, a i < 256) (hB : Zone.up B ≤ w.heap.size) (hg : ¬ a 0 % 2 = 1) (hv1 : ¬ vid < 1) (hv2 : ¬ 4094 < vid) (hp1 : ¬ port < 0) (hp2 : ¬ 8 ≤ port) (hn1 : ¬ now < 0) (hn2 : ¬ 1099511627776 < now) (ho1 : ¬ now < last)
    (hm : (restM age l vid a now).length = 32) :
    Calls Try.prog 41 #[.pointer (some ⟨t, 0, none⟩), .int .i64 vid, .agg (c6 a), .int .i64 port, .int .i64 now] w fun e w' => e = .returned .nilIface ∧ Tab w' B t age now (learnM age l vid a port now) ∧ Lx B LT w w' := by
  obtain ⟨hX, hb0⟩ := box4 w t vid (c6 a) now
  have HG := Lib.hid (group6 a ha (W4 w t vid (c6 a) now))
  have hTab := h.kept hb0
  obtain ⟨v, hb, hr⟩ := hTab.row
  have HOK := Lib.hid (h.ok.learn age vid a port now ha (by omega) (by omega) (by omega) (by omega))
  have HN := Lib.hid (show 0 ≤ now ∧ now ≤ 1099511627776 by omega)
  have hlo := Lib.hid h.lo
  have ha0 := Lib.hid h.a0
  have ha1 := Lib.hid h.a1
  obtain ⟨m, hm0⟩ : ∃ m, restM age l vid a now = m := ⟨_, rfl⟩
  rw [hm0] at hm
  have hLM : learnM age l vid a port now = m.drop 1 ++ [⟨vid, a, port, now⟩] := by unfold learnM; rw [hm0]; unfold roomM; rw [if_pos hm]
  rw [hLM] at HOK ⊢
  have HM0 : Hid ((l.filter fun e => !goneE age now vid a e) = m) := hm0
  have HX := Lib.hid hX
  have HB := Lib.hid hb
  have HTB := Lib.hid hTab
  have HB0 := Lib.hid hb0
  have hBs0 := Nat.le_trans hB hb0.size
  have HLb : Hid (Lx B LT w (W4 w t vid (c6 a) now)) := Lx.of hb0
  have hAl := hX.a
  have hg : decide (a 0 % 2 = 1) = false := decide_eq_false hg
  have dv1 : decide (vid < 1) = false := decide_eq_false hv1
  have dv2 : decide ((4094 : Int) < vid) = false := decide_eq_false hv2
  have dp1 : decide (port < 0) = false := decide_eq_false hp1
  have dp2 : decide ((8 : Int) ≤ port) = false := decide_eq_false hp2
  have dn1 : decide (now < 0) = false := decide_eq_false hn1
  have dn2 : decide ((1099511627776 : Int) < now) = false := decide_eq_false hn2
  have do1 : decide (now < last) = false := decide_eq_false ho1
  rw [hg] at HG
  clear h hr hb hb0 hX hg hTab hm0 hLM
  unfold W4 c6 at *
  go_enter Try.func41, Try.ntmps41
  go_upto_region 1 with (fail)
  generalize (((w.alloc (.cells #[.pointer (some ⟨t, 0, none⟩)] 72)).alloc (.cells #[.int .i64 vid] 3)).alloc (.cells #[.int .u8 (a 0), .int .u8 (a 1), .int .u8 (a 2), .int .u8 (a 3), .int .u8 (a 4), .int .u8 (a 5)] 33)).alloc (.cells #[.int .i64 now] 3) = W0 at *
  generalize w.heap.size = NB at *
  go_wp2_with (first
    | (refine load_blk (k := 0) 33 #[.int .u8 (a 0), .int .u8 (a 1), .int .u8 (a 2), .int .u8 (a 3), .int .u8 (a 4), .int .u8 (a 5)] (by rfl) rfl rfl hAl (by kernel_rfl) (by kernel_rfl) (by rfl) ?_)
    | (go_at_call 40; refine HG.out.mono ?_; rintro e w1 ⟨rfl, k1⟩; have HX1 := HX.out.kept k1; have c0 := HX1.t.cv 0 (.pointer (some ⟨t, 0, none⟩)) rfl; have c1 := HX1.v.cv 0 (.int .i64 vid) rfl; have c3 := HX1.n.cv 0 (.int .i64 now) rfl; have c4 := (HB.out.kept k1).cv 1 (.int .i64 last) rfl))
  go_quiet (fail)
  have kq : Below W0.heap.size W0 (w1.drewN nq) := ⟨k1.os, k1.tape, k1.output, k1.size, k1.block⟩
  generalize w1.drewN nq = w2 at *
  have HX2 := HX.out.kept kq
  have hT2 := HTB.out.kept kq
  have c0 := HX2.t.cv 0 (.pointer (some ⟨t, 0, none⟩)) rfl
  obtain ⟨v2, hb2, hr2⟩ := hT2.row
  have hBs2 := Nat.le_trans hBs0 kq.size
  have HR := Lib.hid (remove_any _ _ _ _ Try.enters_learn1 (learn1_any t NB (NB + 3) (NB + 1) (NB + 2) age last v2 now vid a ha0.out ha1.out) (fun w w' h hx => h.lx hx) B t age last l w2 hT2 ⟨hb2, HX2.t, HX2.n, HX2.v, HX2.a⟩ hBs2)
  rw [HM0.out] at HR
  have L2 : Lx B LT W0 w2 := Lx.of kq
  clear hT2 hb2 hr2 HTB HB HX k1 HX1
  go_upto_region 8 with (refine HR.out.mono ?_; rintro e w3 ⟨rfl, hT3, hx3⟩)
  have HXb := HX2.lx hx3 (by decide) (by decide) (by decide)
  have c0 := HXb.t.cv 0 (.pointer (some ⟨t, 0, none⟩)) rfl
  have hBs := Nat.le_trans hBs2 hx3.size
  have L3 := L2.trans hx3
  have hlen3 := hT3.ok.len
  obtain ⟨⟨v3, hTb, hr3⟩, -, hok3, -, -, -, -⟩ := hT3
  obtain ⟨ad5, c5, rfl⟩ := hr3.toA.form
  have c2 := hTb.cv 2 (.slice ad5 m.length c5) rfl
  clear L2 hx3 kq HX2 HR HM0 HG
  have hg : ∃ g0, ad5 = some ⟨g0, 0, none⟩ := by
    rcases hr3.2 with ⟨e, q⟩ | ⟨g0, cap, cur, e, _⟩
    · injection e with e1 e2 e3
      omega
    · injection e with e1 e2 e3
      exact ⟨g0, e1⟩
  obtain ⟨g0, rfl⟩ := hg
  have HD := Lib.hid (delete_first B g0 c5 m w3.drew hr3 hm)
  have e32 : ((m.length : Int) == 32) = true := by rw [hm]; rfl
  have HMl := Lib.hid hm
  clear hm
  go_upto_region 9 with (fail)
  have HXb1 : Box4 w3.drew NB t vid #[.int .u8 (a 0), .int .u8 (a 1), .int .u8 (a 2), .int .u8 (a 3), .int .u8 (a 4), .int .u8 (a 5)] now := HXb.drew
  refine wp_region_noPanic ?_
  refine wp_region_T (fun w' => Blk w' t 104 (tabC age last (.slice (some ⟨g0, 0, none⟩) m.length c5))) (fun w' => Box4 w' NB t vid #[.int .u8 (a 0), .int .u8 (a 1), .int .u8 (a 2), .int .u8 (a 3), .int .u8 (a 4), .int .u8 (a 5)] now) (fun j => j == 5) (by kernel_rfl) (⟨hTb, HXb1⟩) (fun hHeld => ?_)
  refine wpAnyT_takeT (i := 0) (v := (.pointer (some ⟨t, 0, none⟩))) rfl (by kernel_rfl) (by kernel_rfl) (by kernel_rfl) (by rfl) (fun _ _ _ h => h) (Or.inl ⟨by rfl, fun w hSw => by have c := hSw.t.cv 0 (.pointer (some ⟨t, 0, none⟩)) rfl; go_simp⟩) (by assumption) ?_
  (try simp only [Act.put, List.getElem_toArray, List.getElem_cons_zero, List.getElem_cons_succ, List.setIfInBounds_toArray, List.set_cons_zero, List.set_cons_succ])
  refine wpAnyT_takeT (i := 1) (v := (.pointer (some ⟨t, 0, none⟩))) rfl (by kernel_rfl) (by kernel_rfl) (by kernel_rfl) (by rfl) (fun _ _ _ h => h) (Or.inl ⟨by rfl, fun w hSw => by have c := hSw.t.cv 0 (.pointer (some ⟨t, 0, none⟩)) rfl; go_simp⟩) (by assumption) ?_
  (try simp only [Act.put, List.getElem_toArray, List.getElem_cons_zero, List.getElem_cons_succ, List.setIfInBounds_toArray, List.set_cons_zero, List.set_cons_succ])
  refine wpAnyT_takeT (i := 2) (v := ?_) rfl (by kernel_rfl) (by kernel_rfl) (by kernel_rfl) (by rfl) (fun _ _ _ h => h) (Or.inl ⟨by rfl, ?_⟩) (by assumption) ?_
  rotate_left
  · intro w hSw; clear hSw; go_simp; (try with_reducible rfl)
  (try simp only [Act.put, List.getElem_toArray, List.getElem_cons_zero, List.getElem_cons_succ, List.setIfInBounds_toArray, List.set_cons_zero, List.set_cons_succ])
  refine wpAnyT_takeT (i := 3) (v := ?_) rfl (by kernel_rfl) (by kernel_rfl) (by kernel_rfl) (by rfl) (fun _ _ _ h => h) (Or.inl ⟨by rfl, ?_⟩) (by assumption) ?_
  rotate_left
  · intro w hSw; clear hSw; go_simp; (try with_reducible rfl)
  (try simp only [Act.put, List.getElem_toArray, List.getElem_cons_zero, List.getElem_cons_succ, List.setIfInBounds_toArray, List.set_cons_zero, List.set_cons_succ])
  refine wpAnyT_take (i := 4) (v := (.slice (some ⟨g0, 0, none⟩) m.length c5)) rfl (by kernel_rfl) (by kernel_rfl) (by kernel_rfl) (by rfl) (by kernel_rfl) (fun _ _ _ h => h) (Or.inl ⟨by rfl, fun w hSw => by have c := hSw.cv 2 (.slice (some ⟨g0, 0, none⟩) m.length c5) rfl; go_simp⟩) (by assumption) ?_
  (try simp only [Act.put, List.getElem_toArray, List.getElem_cons_zero, List.getElem_cons_succ, List.setIfInBounds_toArray, List.set_cons_zero, List.set_cons_succ])
  refine wpAnyT_last (r := 5) (by kernel_rfl) rfl (by rfl) (by rfl) (fun K hK => ?_)
  (try simp only [List.getElem_toArray, List.getElem_cons_zero, List.getElem_cons_succ])
  go_simp
  refine HD.out.mono ?_
  rintro e u1 ⟨v5, rfl, hr5, hx5⟩
  have hT1 := hx5.blk hTb.drew (by decide)
  have hX1 := (show Box4 w3.drew NB t vid #[.int .u8 (a 0), .int .u8 (a 1), .int .u8 (a 2), .int .u8 (a 3), .int .u8 (a 4), .int .u8 (a 5)] now from HXb.drew).lx hx5 (by decide) (by decide) (by decide)
  obtain ⟨ad7, c7, e7⟩ := hr5.toA.form
  subst e7
  obtain ⟨M, hM⟩ : ∃ M, (m.drop 1).length = M := ⟨_, rfl⟩
  rw [hM] at hr5 ⊢
  have hr5 := Lib.hid hr5
  refine hK _ _ ?_ (fun hHeld => ?_)
  · exact hX1
  clear hK K
  (try simp only [Act.put, List.getElem_toArray, List.getElem_cons_zero, List.getElem_cons_succ, List.setIfInBounds_toArray, List.set_cons_zero, List.set_cons_succ])
  refine wpAnyH_take (i := 6) (v := ?_) rfl (by kernel_rfl) (by kernel_rfl) (by kernel_rfl) (fun _ _ _ h => h) (Or.inl ⟨by rfl, ?_⟩) (by assumption) ?_
  rotate_left
  · (intro w hSw; clear hSw; go_simp; (try with_reducible rfl))
  (try simp only [Act.put, List.getElem_toArray, List.getElem_cons_zero, List.getElem_cons_succ, List.setIfInBounds_toArray, List.set_cons_zero, List.set_cons_succ])
  refine wpAnyH_take (i := 7) (v := ?_) rfl (by kernel_rfl) (by kernel_rfl) (by kernel_rfl) (fun _ _ _ h => h) (Or.inl ⟨by rfl, ?_⟩) (by assumption) ?_
  rotate_left
  · (intro w hSw; clear hSw; go_simp; (try with_reducible rfl))
  (try simp only [Act.put, List.getElem_toArray, List.getElem_cons_zero, List.getElem_cons_succ, List.setIfInBounds_toArray, List.set_cons_zero, List.set_cons_succ])
  refine wpAnyH_ready (rs := [8]) (by kernel_rfl) (by simp) ?_
  refine AllReadyH.cons rfl (fun K hK => ?_) AllReadyH.nil
  simp only [List.getElem_toArray, List.getElem_cons_zero, List.getElem_cons_succ]
  rw [if_pos (by rfl)]
  refine wp_store_op (k := 2) 102 (.slice ad7 M c7) (tabC age last (.slice ad7 M c7)) (by rfl) rfl rfl hT1 (by kernel_rfl) (show (3 : Nat) ≤ 3 from Nat.le_refl 3) (by rfl) rfl (fun s2 hT2 bb2 g2 => ?_)
  have hX2 : Box4 s2 NB t vid #[.int .u8 (a 0), .int .u8 (a 1), .int .u8 (a 2), .int .u8 (a 3), .int .u8 (a 4), .int .u8 (a 5)] now := ⟨hX1.t.grown g2 (by intro e; cases e; exact absurd (blk_type hX1.t hT1) (by decide)), hX1.v.grown g2 (by intro e; cases e; exact absurd (blk_type hX1.v hT1) (by decide)), hX1.a.grown g2 (by intro e; cases e; exact absurd (blk_type hX1.a hT1) (by decide)), hX1.n.grown g2 (by intro e; cases e; exact absurd (blk_type hX1.n hT1) (by decide))⟩
  have hR2 := Lib.hid (hr5.out.other g2 hT1 (by decide))
  have L5 := ((L3.trans (show Lx B LT w3 w3.drew from Lx.of ((Below.refl _ _).drew))).trans (hx5.mono (Nat.le_refl _) (by simp))).grown g2 hlo.out List.mem_cons_self hT1
  refine hK.out _ _ ?_ (fun hHeld => ?_)
  · exact hX2
  clear hK K
  (try simp only [Act.put, List.getElem_toArray, List.getElem_cons_zero, List.getElem_cons_succ, List.setIfInBounds_toArray, List.set_cons_zero, List.set_cons_succ])
  refine wpAnyH_done (by kernel_rfl) ?_ _
  refine NoPanic.normal ?_
  have hBs4 := Nat.le_trans hBs (show w3.heap.size ≤ s2.heap.size from Nat.le_trans hx5.size g2.size)
  have HM := Lib.hid (show (m.drop 1).length ≤ 100000 by rw [List.length_drop, HMl.out]; decide)
  have hR := hR2
  have Lw := Lib.hid L5
  clear hr3 L3 hok3 e32 hlen3 c2 c0 HXb HXb1 hBs hTb hT1 hX1 L5 hx5 g2 bb2 HD
  have hTb := hT2
  have HXb := hX2
  have hBs := hBs4
  clear hT2 hX2 hBs4 hR2
  go_upto_region 10 with (fail)
  have HXb1 : Box4 s2.drew NB t vid #[.int .u8 (a 0), .int .u8 (a 1), .int .u8 (a 2), .int .u8 (a 3), .int .u8 (a 4), .int .u8 (a 5)] now := HXb.drew
  refine wp_region_noPanic ?_
  refine wp_region_T (fun w' => Blk w' t 104 (tabC age last (.slice ad7 M c7))) (fun w' => Box4 w' NB t vid #[.int .u8 (a 0), .int .u8 (a 1), .int .u8 (a 2), .int .u8 (a 3), .int .u8 (a 4), .int .u8 (a 5)] now) (fun j => j == 11) (by kernel_rfl) (⟨hTb, HXb1⟩) (fun hHeld => ?_)
  refine wpAnyT_takeT (i := 0) (v := (.pointer (some ⟨t, 0, none⟩))) rfl (by kernel_rfl) (by kernel_rfl) (by kernel_rfl) (by rfl) (fun _ _ _ h => h) (Or.inl ⟨by rfl, fun w hSw => by have c := hSw.t.cv 0 (.pointer (some ⟨t, 0, none⟩)) rfl; go_simp⟩) (by assumption) ?_
  (try simp only [Act.put, List.getElem_toArray, List.getElem_cons_zero, List.getElem_cons_succ, List.setIfInBounds_toArray, List.set_cons_zero, List.set_cons_succ])
  refine wpAnyT_takeT (i := 1) (v := (.pointer (some ⟨t, 0, none⟩))) rfl (by kernel_rfl) (by kernel_rfl) (by kernel_rfl) (by rfl) (fun _ _ _ h => h) (Or.inl ⟨by rfl, fun w hSw => by have c := hSw.t.cv 0 (.pointer (some ⟨t, 0, none⟩)) rfl; go_simp⟩) (by assumption) ?_
  (try simp only [Act.put, List.getElem_toArray, List.getElem_cons_zero, List.getElem_cons_succ, List.setIfInBounds_toArray, List.set_cons_zero, List.set_cons_succ])
  refine wpAnyT_takeT (i := 2) (v := ?_) rfl (by kernel_rfl) (by kernel_rfl) (by kernel_rfl) (by rfl) (fun _ _ _ h => h) (Or.inl ⟨by rfl, ?_⟩) (by assumption) ?_
  rotate_left
  · intro w hSw; clear hSw; go_simp; (try with_reducible rfl)
  (try simp only [Act.put, List.getElem_toArray, List.getElem_cons_zero, List.getElem_cons_succ, List.setIfInBounds_toArray, List.set_cons_zero, List.set_cons_succ])
  refine wpAnyT_takeT (i := 3) (v := ?_) rfl (by kernel_rfl) (by kernel_rfl) (by kernel_rfl) (by rfl) (fun _ _ _ h => h) (Or.inl ⟨by rfl, ?_⟩) (by assumption) ?_
  rotate_left
  · intro w hSw; clear hSw; go_simp; (try with_reducible rfl)
  (try simp only [Act.put, List.getElem_toArray, List.getElem_cons_zero, List.getElem_cons_succ, List.setIfInBounds_toArray, List.set_cons_zero, List.set_cons_succ])
  refine wpAnyT_take (i := 4) (v := (.slice ad7 M c7)) rfl (by kernel_rfl) (by kernel_rfl) (by kernel_rfl) (by rfl) (by kernel_rfl) (fun _ _ _ h => h) (Or.inl ⟨by rfl, fun w hSw => by have c := hSw.cv 2 (.slice ad7 M c7) rfl; go_simp⟩) (by assumption) ?_
  (try simp only [Act.put, List.getElem_toArray, List.getElem_cons_zero, List.getElem_cons_succ, List.setIfInBounds_toArray, List.set_cons_zero, List.set_cons_succ])
  refine wpAnyT_takeT (i := 5) (v := (.int .i64 vid)) rfl (by kernel_rfl) (by kernel_rfl) (by kernel_rfl) (by rfl) (fun _ _ _ h => h) (Or.inl ⟨by rfl, fun w hSw => by have c := hSw.v.cv 0 (.int .i64 vid) rfl; go_simp⟩) (by assumption) ?_
  (try simp only [Act.put, List.getElem_toArray, List.getElem_cons_zero, List.getElem_cons_succ, List.setIfInBounds_toArray, List.set_cons_zero, List.set_cons_succ])
  refine wpAnyT_takeT (i := 6) (v := (.agg #[.int .u8 (a 0), .int .u8 (a 1), .int .u8 (a 2), .int .u8 (a 3), .int .u8 (a 4), .int .u8 (a 5)])) rfl (by kernel_rfl) (by kernel_rfl) (by kernel_rfl) (by rfl) (fun _ _ _ h => h) (Or.inl ⟨by rfl, fun w hSw => exec_load_blk (k := 0) 33 (#[.int .u8 (a 0), .int .u8 (a 1), .int .u8 (a 2), .int .u8 (a 3), .int .u8 (a 4), .int .u8 (a 5)]) rfl rfl hSw.a (by kernel_rfl) (by kernel_rfl) rfl⟩) (by assumption) ?_
  (try simp only [Act.put, List.getElem_toArray, List.getElem_cons_zero, List.getElem_cons_succ, List.setIfInBounds_toArray, List.set_cons_zero, List.set_cons_succ])
  refine wpAnyT_takeT (i := 7) (v := ?_) rfl (by kernel_rfl) (by kernel_rfl) (by kernel_rfl) (by rfl) (fun _ _ _ h => h) (Or.inl ⟨by rfl, ?_⟩) (by assumption) ?_
  rotate_left
  · intro w hSw; clear hSw; go_simp; (try with_reducible rfl)
  (try simp only [Act.put, List.getElem_toArray, List.getElem_cons_zero, List.getElem_cons_succ, List.setIfInBounds_toArray, List.set_cons_zero, List.set_cons_succ])
  refine wpAnyT_takeT (i := 8) (v := (.int .i64 now)) rfl (by kernel_rfl) (by kernel_rfl) (by kernel_rfl) (by rfl) (fun _ _ _ h => h) (Or.inl ⟨by rfl, fun w hSw => by have c := hSw.n.cv 0 (.int .i64 now) rfl; go_simp⟩) (by assumption) ?_
  (try simp only [Act.put, List.getElem_toArray, List.getElem_cons_zero, List.getElem_cons_succ, List.setIfInBounds_toArray, List.set_cons_zero, List.set_cons_succ])
  refine wpAnyT_takeT (i := 9) (v := (.agg (enC ⟨vid, a, port, now⟩))) rfl (by kernel_rfl) (by kernel_rfl) (by kernel_rfl) (by rfl) (fun _ _ _ h => h) (Or.inl ⟨by rfl, fun w hSw => exec_build_blkE (t := 100) (enC ⟨vid, a, port, now⟩) rfl (by kernel_rfl)⟩) (by assumption) ?_
  (try simp only [Act.put, List.getElem_toArray, List.getElem_cons_zero, List.getElem_cons_succ, List.setIfInBounds_toArray, List.set_cons_zero, List.set_cons_succ])
  refine wpAnyT_one (r := 10) (by kernel_rfl) rfl (by rfl) (by rfl) (fun K hK => ?_)
  (try simp only [List.getElem_toArray, List.getElem_cons_zero, List.getElem_cons_succ])
  refine slice_en Try.enT ⟨vid, a, port, now⟩ rfl rfl (fun u1 hBn bb1 hs1 => ?_)
  have hT1 := hTb.drew.kept bb1
  have hX1 := HXb1.kept bb1
  have hR1 := (show RowE s2.drew B 100 (.slice ad7 M c7) _ from hR.out).kept bb1
  have hbs1 := Nat.le_trans hBs bb1.size
  refine hK _ _ ?_ (fun hHeld => ?_)
  · exact ⟨hT1, hX1⟩
  clear hK K
  (try simp only [Act.put, List.getElem_toArray, List.getElem_cons_zero, List.getElem_cons_succ, List.setIfInBounds_toArray, List.set_cons_zero, List.set_cons_succ])
  refine wpAnyT_last (r := 11) (by kernel_rfl) rfl (by rfl) (by rfl) (fun K hK => ?_)
  (try simp only [List.getElem_toArray, List.getElem_cons_zero, List.getElem_cons_succ])
  refine append_en (l := (m.drop 1)) Try.enT ⟨vid, a, port, now⟩ rfl rfl rfl hR1 hBn (by have := HM.out; omega) hbs1 (fun v6 u2 hr6 hx6 => ?_)
  have hT2 := hx6.blk hT1 (by decide)
  have hX2 := hX1.lx hx6 (by decide) (by decide) (by decide)
  obtain ⟨ad6, c6', e6⟩ := hr6.toA.form
  subst e6
  have hr6 := Lib.hid hr6
  obtain ⟨M6, hM6⟩ : ∃ M6, ((m.drop 1) ++ [(⟨vid, a, port, now⟩ : Ent)]).length = M6 := ⟨_, rfl⟩
  rw [hM6] at hr6 ⊢
  have hx6 := Lib.hid ((Lx.of bb1 : Lx B [100] _ _).trans hx6)
  refine hK _ _ ?_ (fun hHeld => ?_)
  · exact hX2
  clear hK K
  (try simp only [Act.put, List.getElem_toArray, List.getElem_cons_zero, List.getElem_cons_succ, List.setIfInBounds_toArray, List.set_cons_zero, List.set_cons_succ])
  refine wpAnyH_take (i := 12) (v := ?_) rfl (by kernel_rfl) (by kernel_rfl) (by kernel_rfl) (fun _ _ _ h => h) (Or.inl ⟨by rfl, ?_⟩) (by assumption) ?_
  rotate_left
  · (intro w hSw; clear hSw; go_simp; (try with_reducible rfl))
  (try simp only [Act.put, List.getElem_toArray, List.getElem_cons_zero, List.getElem_cons_succ, List.setIfInBounds_toArray, List.set_cons_zero, List.set_cons_succ])
  refine wpAnyH_take (i := 13) (v := ?_) rfl (by kernel_rfl) (by kernel_rfl) (by kernel_rfl) (fun _ _ _ h => h) (Or.inl ⟨by rfl, ?_⟩) (by assumption) ?_
  rotate_left
  · (intro w hSw; clear hSw; go_simp; (try with_reducible rfl))
  (try simp only [Act.put, List.getElem_toArray, List.getElem_cons_zero, List.getElem_cons_succ, List.setIfInBounds_toArray, List.set_cons_zero, List.set_cons_succ])
  refine wpAnyH_ready (rs := [14]) (by kernel_rfl) (by simp) ?_
  refine AllReadyH.cons rfl (fun K hK => ?_) AllReadyH.nil
  simp only [List.getElem_toArray, List.getElem_cons_zero, List.getElem_cons_succ]
  rw [if_pos (by rfl)]
  refine wp_store_op (k := 2) 102 (.slice ad6 M6 c6') (tabC age last (.slice ad6 M6 c6')) (by rfl) rfl rfl hT2 (by kernel_rfl) (show (3 : Nat) ≤ 3 from Nat.le_refl 3) (by rfl) rfl (fun u3 hT3 bb3 g3 => ?_)
  have hX3 : Box4 u3 NB t vid #[.int .u8 (a 0), .int .u8 (a 1), .int .u8 (a 2), .int .u8 (a 3), .int .u8 (a 4), .int .u8 (a 5)] now := ⟨hX2.t.grown g3 (by intro e; cases e; exact absurd (blk_type hX2.t hT2) (by decide)), hX2.v.grown g3 (by intro e; cases e; exact absurd (blk_type hX2.v hT2) (by decide)), hX2.a.grown g3 (by intro e; cases e; exact absurd (blk_type hX2.a hT2) (by decide)), hX2.n.grown g3 (by intro e; cases e; exact absurd (blk_type hX2.n hT2) (by decide))⟩
  have hR3 := Lib.hid (hr6.out.other g3 hT2 (by decide))
  have L3 := Lib.hid (((Lw.out.trans (show Lx B LT s2 s2.drew from Lx.of ((Below.refl _ _).drew))).trans (hx6.out.mono (Nat.le_refl _) (by simp))).grown g3 hlo.out List.mem_cons_self hT2)
  refine hK.out _ _ ?_ (fun hHeld => ?_)
  · exact hX3
  clear hK K
  (try simp only [Act.put, List.getElem_toArray, List.getElem_cons_zero, List.getElem_cons_succ, List.setIfInBounds_toArray, List.set_cons_zero, List.set_cons_succ])
  refine wpAnyH_done (by kernel_rfl) ?_ _
  refine NoPanic.normal ?_
  have c0 := hX3.t.cv 0 (.pointer (some ⟨t, 0, none⟩)) rfl
  have c3 := hX3.n.cv 0 (.int .i64 now) rfl
  clear hT1 hX1 hR1 hbs1 hT2 hX2 bb1 hs1 hBn bb3
  go_wp2_with (refine store_blk (B := t) (k := 1) 3 (.int .i64 now) (tabC age now (.slice ad6 M6 c6')) (by rfl) rfl rfl rfl hT3 (by kernel_rfl) (show (2 : Nat) ≤ 3 by decide) (by rfl) rfl ?_; intro u4 hT4 bb4 g4)
  go_ret
  exact ⟨rfl, ⟨⟨_, hT4, hR3.out.other g4 hT3 (by decide)⟩, hlo.out, HOK.out, ha0.out, ha1.out, HN.out.1, HN.out.2⟩, HLb.out.trans (L3.out.grown g4 hlo.out List.mem_cons_self hT3)⟩

end Go.Proofs.Ytdceggekhhflgaa
