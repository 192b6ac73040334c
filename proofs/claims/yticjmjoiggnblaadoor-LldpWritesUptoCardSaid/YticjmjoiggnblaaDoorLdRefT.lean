/- The reference's tlvs at every announcement. -/
import Derived.Test.YticjmjoiggnblaaDoorLdRefM
import Derived.Deep.Cut
import Derived.Deep.CutBlock
import Derived.Deep.CutRange
namespace Go.Proofs.YticjmjoiggnblaaDoor
open Go.RowKit
attribute [local go_sem ↓] Go.wp_at_zero Go.wp_at_succ
set_option linter.unusedSimpArgs false
set_option linter.unusedVariables false
set_option maxRecDepth 100000

theorem exec_build_blkL {P : Program} {a : Act} {o : Oper} {w : World} {t : TypeId} {parts : Array (Nat × Operand)} (X : Array Value) (ho : o.op = .build t parts)
    (hf : P.built t (parts.map fun (i, x) => (i, a.eval x)).toList = some X) : (execOp a.eval o).run P w = .ok (.value (.agg X)) w := by
  have h1 := run_build (P := P) w t (parts.map fun (i, x) => (i, a.eval x)) X hf
  unfold execOp
  simp only [ho, Sem.run_bind, Result.andThen_ok, h1, Sem.run_pure]
theorem fill_tl3 (a b c : Tl) : Instr.fill (fun i => some (i * 2, 2)) ((Array.range (3 * 2)).map ((Value.agg (tlC zTl)).cells[· % (Value.agg (tlC zTl)).cells.size]!)) [(0, .agg (tlC a)), (1, .agg (tlC b)), (2, .agg (tlC c))] = some (tlR [a, b, c]).toArray := by kernel_rfl
/-- Three records, a list of its own. -/
theorem slice3_tl {o : Oper} {a : Act} {w : World} {K : Act → World → Prop} {Q : Exit → Act → World → Prop} {x0 x1 x2 : Operand} (y0 y1 y2 : Tl) (base : Nat) (hb : base ≤ w.heap.size) (ho : o.op = .buildSlice 22 3 #[(0, x0), (1, x1), (2, x2)]) (h0 : a.eval x0 = .agg (tlC y0)) (h1 : a.eval x1 = .agg (tlC y1)) (h2 : a.eval x2 = .agg (tlC y2))
    (h : ∀ v w1, OwnTl w1 base v [y0, y1, y2] → Below w.heap.size w w1 → K (a.put o.dst v) w1) : Oper.wp Tryd.prog o a w K Q := by
  obtain ⟨i0, hi, hz0, hz1, hz2⟩ := info_parts Tryd.tlParts
  refine wp_buildSlice 22 24 3 _ ho (tlR [y0, y1, y2]).toArray i0 (.agg (tlC zTl)) Tryd.underlying22 hi hz0 (by rw [hz1]; decide) (by rw [hz1]; decide) (by rw [hz1]; simp only [List.map_toArray, List.map_cons, List.map_nil, h0, h1, h2]; exact fill_tl3 y0 y1 y2) (h _ _ ?_ ((Below.refl _ _).alloc (Nat.le_refl _) _))
  refine Or.inr ⟨by simp, w.heap.size, 3, rfl, ?_⟩
  have HN := Blk.new w 24 (tlR [y0, y1, y2]).toArray
  exact ⟨by rw [tlR_len], Or.inr ⟨w.heap.size, 3, (tlR [y0, y1, y2]).toArray, rfl, hb, HN, Nat.le_refl _, by unfold maxLen; omega, by rw [List.size_toArray, tlR_len]; rfl, by rw [← tlR_len [y0, y1, y2]]; simp⟩⟩

set_option maxHeartbeats 6400000 in
/-- The first test, in one. -/
theorem tlvs_any (x : Ld) (q : LdA) (w : World) (h : LdIn w x q) (hr : rgLd x) (hd : x.de.length + x.ho.length + x.sy.length + x.ca.length + x.ma.length + x.og.length ≤ 700)
    (z1 : x.ch.id.size ≤ 1048576) (z2 : x.po.id.size ≤ 1048576) (z3 : ∀ y ∈ x.ma, y.ai.size ≤ 1048576 ∧ y.oid.size ≤ 1048576) (z4 : ∀ y ∈ x.og, y.nf.size ≤ 1048576) :
    Calls Tryd.prog 59 #[.agg (ldC x q)] w fun e w' => ∃ a c, e = .returned (.tuple #[.slice a (refTls x).length c, .bool (okRef x)]) ∧ TlIn w' a (refTls x) ∧ Below w.heap.size w w' := by
  obtain ⟨⟨qd, qdc⟩, ⟨qh, qhc⟩, ⟨qs, qsc⟩, ⟨qc, qcc⟩, ⟨qm, qmc⟩, ⟨qo, qoc⟩⟩ := q
  obtain ⟨i1, i2, i3, i4, i5, i6⟩ := h
  obtain ⟨ch, po, tt, de, ho, sy, ca, ma, og⟩ := x
  dsimp only at hd z1 z2 z3 z4 i1 i2 i3 i4 i5 i6
  have HA0 := Blk.new w 54 (ldC ⟨ch, po, tt, de, ho, sy, ca, ma, og⟩ ⟨(qd, qdc), (qh, qhc), (qs, qsc), (qc, qcc), (qm, qmc), (qo, qoc)⟩)
  have B0 : Below w.heap.size w (w.alloc (.cells (ldC ⟨ch, po, tt, de, ho, sy, ca, ma, og⟩ ⟨(qd, qdc), (qh, qhc), (qs, qsc), (qc, qcc), (qm, qmc), (qo, qoc)⟩) 54)) := (Below.refl _ _).alloc (Nat.le_refl _) _
  have hlt0 := HA0.lt
  have P8 := Lib.hid (fun k (hk : k < ma.length) => z3 _ (List.getElem_mem hk))
  have P9 := Lib.hid (fun k (hk : k < og.length) => z4 _ (List.getElem_mem hk))
  have HO : Hid (okRef (⟨ch, po, tt, de, ho, sy, ca, ma, og⟩ : Ld) = ((((((ok0 (⟨ch, po, tt, de, ho, sy, ca, ma, og⟩ : Ld) && few okSt de) && few okSt ho) && few okSt sy) && ca.all okCpR) && ma.all okMgR) && og.all okOgR)) := rfl
  have HL : Hid (refTls (⟨ch, po, tt, de, ho, sy, ca, ma, og⟩ : Ld) = refHead (⟨ch, po, tt, de, ho, sy, ca, ma, og⟩ : Ld) ++ kTl 4 de ++ kTl 5 ho ++ kTl 6 sy ++ ca.map cpT ++ ma.map mgT ++ og.map ogT) := rfl
  have h0n : (refHead (⟨ch, po, tt, de, ho, sy, ca, ma, og⟩ : Ld)).length = 3 := rfl
  have HH : Hid (refHead (⟨ch, po, tt, de, ho, sy, ca, ma, og⟩ : Ld) = [⟨1, ⟨(nmR ch).toArray⟩⟩, ⟨2, ⟨(nmR po).toArray⟩⟩, ⟨3, ⟨(beI tt 2).toArray⟩⟩]) := rfl
  have H1 := Lib.hid (fun W => nameRight_any ch W)
  have H2 := Lib.hid (fun W => nameRight_any po W)
  have H3 := Lib.hid (fun W => withinRf_any tt 0 65535 W)
  have HE1 := Lib.hid (fun W => be_1 ch.su W)
  have HE2 := Lib.hid (fun W => be_1 po.su W)
  have HE3 := Lib.hid (fun W => be_2 tt W)
  have p1 : ∀ W, (Op.stringOp .add ⟨(beI ch.su 1).toArray⟩ ch.id).run Tryd.prog W = .ok (.string ⟨(nmR ch).toArray⟩) W := fun W => run_string_add_lists W (beI ch.su 1) ch.id.data.toList (by rw [beI_len]; omega) (by simp; omega)
  have p2 : ∀ W, (Op.stringOp .add ⟨(beI po.su 1).toArray⟩ po.id).run Tryd.prog W = .ok (.string ⟨(nmR po).toArray⟩) W := fun W => run_string_add_lists W (beI po.su 1) po.id.data.toList (by rw [beI_len]; omega) (by simp; omega)
  generalize nmR ch = n1 at *
  generalize nmR po = n2 at *
  generalize beI ch.su 1 = y1 at *
  generalize beI po.su 1 = y2 at *
  generalize beI tt 2 = y3 at *
  have HK : Hid (ok0 (⟨ch, po, tt, de, ho, sy, ca, ma, og⟩ : Ld) = (okNm ch && (okNm po && (wthn tt 0 65535 && (decide ((ca.length : Int) ≤ 1) && (decide ((ma.length : Int) ≤ 20) && decide ((og.length : Int) ≤ 20))))))) := rfl
  obtain ⟨b0, hb0⟩ : ∃ b0, b0 = ok0 (⟨ch, po, tt, de, ho, sy, ca, ma, og⟩ : Ld) := ⟨_, rfl⟩
  rw [← hb0] at HO HK
  clear hb0 z1 z2 z3 z4
  go_enter Tryd.func59, Tryd.ntmps59
  go_upto_region 1 with (fail)
  generalize (w.alloc (.cells (ldC ⟨ch, po, tt, de, ho, sy, ca, ma, og⟩ ⟨(qd, qdc), (qh, qhc), (qs, qsc), (qc, qcc), (qm, qmc), (qo, qoc)⟩) 54)) = w0 at *
  go_cut [4] from 16 to 46 (fun v wx => v = .bool b0 ∧ Blk wx w.heap.size 54 (ldC ⟨ch, po, tt, de, ho, sy, ca, ma, og⟩ ⟨(qd, qdc), (qh, qhc), (qs, qsc), (qc, qcc), (qm, qmc), (qo, qoc)⟩) ∧ Below w.heap.size w wx)
  case first =>
    clear HO HL HE1 HE2 HE3 p1 p2 P8 P9 HH
    generalize okNm ch = x1 at *
    generalize okNm po = x2 at *
    generalize wthn tt 0 65535 = x3 at *
    cases x1 with
    | false => 
      go_wp2_with (refine load_blk (k := 0) 48 (nmC ch) (by rfl) rfl rfl HA0 (by kernel_rfl) (by kernel_rfl) rfl ?_)
      refine (H1.out _).mono ?_
      rintro e w1 ⟨rfl, k1⟩
      have HA1 := HA0.kept k1
      have B1 := B0.trans (k1.mono B0.size)
      clear HA0 B0 k1
      go_wp2_with fail
      go_meet
      exact ⟨by rw [HK.out]; rfl, HA1, B1⟩
    | true =>
      cases x2 with
      | false => 
        go_wp2_with (refine load_blk (k := 0) 48 (nmC ch) (by rfl) rfl rfl HA0 (by kernel_rfl) (by kernel_rfl) rfl ?_)
        refine (H1.out _).mono ?_
        rintro e w1 ⟨rfl, k1⟩
        have HA1 := HA0.kept k1
        have B1 := B0.trans (k1.mono B0.size)
        clear HA0 B0 k1
        go_wp2_with (refine load_blk (k := 2) 48 (nmC po) (by rfl) rfl rfl HA1 (by kernel_rfl) (by kernel_rfl) rfl ?_)
        refine (H2.out _).mono ?_
        rintro e w2 ⟨rfl, k2⟩
        have HA2 := HA1.kept k2
        have B2 := B1.trans (k2.mono B1.size)
        clear HA1 B1 k2
        go_wp2_with fail
        go_meet
        exact ⟨by rw [HK.out]; rfl, HA2, B2⟩
      | true =>
        cases x3 with
        | false => 
          go_wp2_with (refine load_blk (k := 0) 48 (nmC ch) (by rfl) rfl rfl HA0 (by kernel_rfl) (by kernel_rfl) rfl ?_)
          refine (H1.out _).mono ?_
          rintro e w1 ⟨rfl, k1⟩
          have HA1 := HA0.kept k1
          have B1 := B0.trans (k1.mono B0.size)
          clear HA0 B0 k1
          go_wp2_with (refine load_blk (k := 2) 48 (nmC po) (by rfl) rfl rfl HA1 (by kernel_rfl) (by kernel_rfl) rfl ?_)
          refine (H2.out _).mono ?_
          rintro e w2 ⟨rfl, k2⟩
          have HA2 := HA1.kept k2
          have B2 := B1.trans (k2.mono B1.size)
          clear HA1 B1 k2
          have c4 := HA2.cv 4 (.int .i64 tt) rfl
          go_wp2_with fail
          refine (H3.out _).mono ?_
          rintro e w3 ⟨rfl, k3⟩
          have HA3 := HA2.kept k3
          have B3 := B2.trans (k3.mono B2.size)
          clear HA2 B2 k3 c4
          go_wp2_with fail
          go_meet
          exact ⟨by rw [HK.out]; rfl, HA3, B3⟩
        | true => 
          go_wp2_with (refine load_blk (k := 0) 48 (nmC ch) (by rfl) rfl rfl HA0 (by kernel_rfl) (by kernel_rfl) rfl ?_)
          refine (H1.out _).mono ?_
          rintro e w1 ⟨rfl, k1⟩
          have HA1 := HA0.kept k1
          have B1 := B0.trans (k1.mono B0.size)
          clear HA0 B0 k1
          go_wp2_with (refine load_blk (k := 2) 48 (nmC po) (by rfl) rfl rfl HA1 (by kernel_rfl) (by kernel_rfl) rfl ?_)
          refine (H2.out _).mono ?_
          rintro e w2 ⟨rfl, k2⟩
          have HA2 := HA1.kept k2
          have B2 := B1.trans (k2.mono B1.size)
          clear HA1 B1 k2
          have c4 := HA2.cv 4 (.int .i64 tt) rfl
          go_wp2_with fail
          refine (H3.out _).mono ?_
          rintro e w3 ⟨rfl, k3⟩
          have HA3 := HA2.kept k3
          have B3 := B2.trans (k3.mono B2.size)
          clear HA2 B2 k3 c4
          have c8 := HA3.cv 8 (.slice qc ca.length qcc) rfl
          have c9 := HA3.cv 9 (.slice qm ma.length qmc) rfl
          have c10 := HA3.cv 10 (.slice qo og.length qoc) rfl
          by_cases g1 : (ca.length : Int) ≤ 1
          · have e1 : decide ((ca.length : Int) ≤ 1) = true := decide_eq_true g1
            by_cases g2 : (ma.length : Int) ≤ 20
            · have e2 : decide ((ma.length : Int) ≤ 20) = true := decide_eq_true g2
              obtain ⟨b3, e3⟩ : ∃ b3, decide ((og.length : Int) ≤ 20) = b3 := ⟨_, rfl⟩
              go_wp2_with fail
              go_meet
              exact ⟨by rw [HK.out, e1, e2, e3]; rfl, HA3, B3⟩
            · have e2 : decide ((ma.length : Int) ≤ 20) = false := decide_eq_false g2
              go_wp2_with fail
              go_meet
              exact ⟨by rw [HK.out, e1, e2]; rfl, HA3, B3⟩
          · have e1 : decide ((ca.length : Int) ≤ 1) = false := decide_eq_false g1
            go_wp2_with fail
            go_meet
            exact ⟨by rw [HK.out, e1]; rfl, HA3, B3⟩
  case rest =>
    obtain ⟨rfl, HA1, B1⟩ := hcut
    clear HK HA0 B0 H1 H2 H3
    have hwB : w.heap.size + 1 ≤ wc.heap.size := HA1.lt
    go_upto_region 2 with (fail)
    refine wp_region_noPanic ?_
    refine wp_region_held_drew (S := (fun w' => Blk w' w.heap.size 54 (ldC ⟨ch, po, tt, de, ho, sy, ca, ma, og⟩ ⟨(qd, qdc), (qh, qhc), (qs, qsc), (qc, qcc), (qm, qmc), (qo, qoc)⟩))) (by kernel_rfl) ?_ (fun hHeld => ?_)
    · exact HA1.drew
    refine wpAnyH_take (i := 0) (v := ?_) rfl (by kernel_rfl) (by kernel_rfl) (by kernel_rfl) (fun _ _ _ h => h) (Or.inl ⟨by rfl, ?_⟩) (by assumption) ?_
    rotate_left
    · (intro w hSw; (try dsimp only at hSw); go_simp; (try with_reducible rfl))
    (try simp only [Act.put, List.getElem_toArray, List.getElem_cons_zero, List.getElem_cons_succ, List.setIfInBounds_toArray, List.set_cons_zero, List.set_cons_succ])
    refine wpAnyH_take (i := 1) (v := ?_) rfl (by kernel_rfl) (by kernel_rfl) (by kernel_rfl) (fun _ _ _ h => h) (Or.inl ⟨by rfl, ?_⟩) (by assumption) ?_
    rotate_left
    · (intro w hSw; (try dsimp only at hSw); go_simp; (try with_reducible rfl))
    (try simp only [Act.put, List.getElem_toArray, List.getElem_cons_zero, List.getElem_cons_succ, List.setIfInBounds_toArray, List.set_cons_zero, List.set_cons_succ])
    refine wpAnyH_take (i := 2) (v := .int .i64 ch.su) rfl (by kernel_rfl) (by kernel_rfl) (by kernel_rfl) (fun _ _ _ h => h) (Or.inl ⟨by rfl, fun w hSw => by have c := hSw.cv 0 (.int .i64 ch.su) rfl; go_simp⟩) (by assumption) ?_
    (try simp only [Act.put, List.getElem_toArray, List.getElem_cons_zero, List.getElem_cons_succ, List.setIfInBounds_toArray, List.set_cons_zero, List.set_cons_succ])
    refine wpAnyH_take (i := 4) (v := ?_) rfl (by kernel_rfl) (by kernel_rfl) (by kernel_rfl) (fun _ _ _ h => h) (Or.inl ⟨by rfl, ?_⟩) (by assumption) ?_
    rotate_left
    · (intro w hSw; (try dsimp only at hSw); go_simp; (try with_reducible rfl))
    (try simp only [Act.put, List.getElem_toArray, List.getElem_cons_zero, List.getElem_cons_succ, List.setIfInBounds_toArray, List.set_cons_zero, List.set_cons_succ])
    refine wpAnyH_take (i := 5) (v := ?_) rfl (by kernel_rfl) (by kernel_rfl) (by kernel_rfl) (fun _ _ _ h => h) (Or.inl ⟨by rfl, ?_⟩) (by assumption) ?_
    rotate_left
    · (intro w hSw; (try dsimp only at hSw); go_simp; (try with_reducible rfl))
    (try simp only [Act.put, List.getElem_toArray, List.getElem_cons_zero, List.getElem_cons_succ, List.setIfInBounds_toArray, List.set_cons_zero, List.set_cons_succ])
    refine wpAnyH_take (i := 6) (v := .string ch.id) rfl (by kernel_rfl) (by kernel_rfl) (by kernel_rfl) (fun _ _ _ h => h) (Or.inl ⟨by rfl, fun w hSw => by have c := hSw.cv 1 (.string ch.id) rfl; go_simp⟩) (by assumption) ?_
    (try simp only [Act.put, List.getElem_toArray, List.getElem_cons_zero, List.getElem_cons_succ, List.setIfInBounds_toArray, List.set_cons_zero, List.set_cons_succ])
    refine wpAnyH_take (i := 9) (v := ?_) rfl (by kernel_rfl) (by kernel_rfl) (by kernel_rfl) (fun _ _ _ h => h) (Or.inl ⟨by rfl, ?_⟩) (by assumption) ?_
    rotate_left
    · (intro w hSw; (try dsimp only at hSw); go_simp; (try with_reducible rfl))
    (try simp only [Act.put, List.getElem_toArray, List.getElem_cons_zero, List.getElem_cons_succ, List.setIfInBounds_toArray, List.set_cons_zero, List.set_cons_succ])
    refine wpAnyH_take (i := 10) (v := ?_) rfl (by kernel_rfl) (by kernel_rfl) (by kernel_rfl) (fun _ _ _ h => h) (Or.inl ⟨by rfl, ?_⟩) (by assumption) ?_
    rotate_left
    · (intro w hSw; (try dsimp only at hSw); go_simp; (try with_reducible rfl))
    (try simp only [Act.put, List.getElem_toArray, List.getElem_cons_zero, List.getElem_cons_succ, List.setIfInBounds_toArray, List.set_cons_zero, List.set_cons_succ])
    refine wpAnyH_take (i := 11) (v := .int .i64 po.su) rfl (by kernel_rfl) (by kernel_rfl) (by kernel_rfl) (fun _ _ _ h => h) (Or.inl ⟨by rfl, fun w hSw => by have c := hSw.cv 2 (.int .i64 po.su) rfl; go_simp⟩) (by assumption) ?_
    (try simp only [Act.put, List.getElem_toArray, List.getElem_cons_zero, List.getElem_cons_succ, List.setIfInBounds_toArray, List.set_cons_zero, List.set_cons_succ])
    refine wpAnyH_take (i := 13) (v := ?_) rfl (by kernel_rfl) (by kernel_rfl) (by kernel_rfl) (fun _ _ _ h => h) (Or.inl ⟨by rfl, ?_⟩) (by assumption) ?_
    rotate_left
    · (intro w hSw; (try dsimp only at hSw); go_simp; (try with_reducible rfl))
    (try simp only [Act.put, List.getElem_toArray, List.getElem_cons_zero, List.getElem_cons_succ, List.setIfInBounds_toArray, List.set_cons_zero, List.set_cons_succ])
    refine wpAnyH_take (i := 14) (v := ?_) rfl (by kernel_rfl) (by kernel_rfl) (by kernel_rfl) (fun _ _ _ h => h) (Or.inl ⟨by rfl, ?_⟩) (by assumption) ?_
    rotate_left
    · (intro w hSw; (try dsimp only at hSw); go_simp; (try with_reducible rfl))
    (try simp only [Act.put, List.getElem_toArray, List.getElem_cons_zero, List.getElem_cons_succ, List.setIfInBounds_toArray, List.set_cons_zero, List.set_cons_succ])
    refine wpAnyH_take (i := 15) (v := .string po.id) rfl (by kernel_rfl) (by kernel_rfl) (by kernel_rfl) (fun _ _ _ h => h) (Or.inl ⟨by rfl, fun w hSw => by have c := hSw.cv 3 (.string po.id) rfl; go_simp⟩) (by assumption) ?_
    (try simp only [Act.put, List.getElem_toArray, List.getElem_cons_zero, List.getElem_cons_succ, List.setIfInBounds_toArray, List.set_cons_zero, List.set_cons_succ])
    refine wpAnyH_take (i := 18) (v := ?_) rfl (by kernel_rfl) (by kernel_rfl) (by kernel_rfl) (fun _ _ _ h => h) (Or.inl ⟨by rfl, ?_⟩) (by assumption) ?_
    rotate_left
    · (intro w hSw; (try dsimp only at hSw); go_simp; (try with_reducible rfl))
    (try simp only [Act.put, List.getElem_toArray, List.getElem_cons_zero, List.getElem_cons_succ, List.setIfInBounds_toArray, List.set_cons_zero, List.set_cons_succ])
    refine wpAnyH_take (i := 19) (v := .int .i64 tt) rfl (by kernel_rfl) (by kernel_rfl) (by kernel_rfl) (fun _ _ _ h => h) (Or.inl ⟨by rfl, fun w hSw => by have c := hSw.cv 4 (.int .i64 tt) rfl; go_simp⟩) (by assumption) ?_
    (try simp only [Act.put, List.getElem_toArray, List.getElem_cons_zero, List.getElem_cons_succ, List.setIfInBounds_toArray, List.set_cons_zero, List.set_cons_succ])
    refine wpAnyH_ready (rs := [3]) (by kernel_rfl) (by simp) ?_
    refine AllReadyH.cons rfl (fun K hK => ?_) AllReadyH.nil
    simp only [List.getElem_toArray, List.getElem_cons_zero, List.getElem_cons_succ]
    go_simp
    go_at_call 35; (with_reducible refine (HE1.out _).mono ?_); rintro e w2 ⟨rfl, b2⟩; have HA2 := HA1.drew.kept b2; have B2 := B1.drew.trans (b2.mono B1.drew.size)
    refine hK.out _ _ ?_ (fun hHeld => ?_)
    · exact HA2
    clear hK K
    (try simp only [Act.put, List.getElem_toArray, List.getElem_cons_zero, List.getElem_cons_succ, List.setIfInBounds_toArray, List.set_cons_zero, List.set_cons_succ])
    refine wpAnyH_take (i := 7) (v := .string ⟨n1.toArray⟩) rfl (by kernel_rfl) (by kernel_rfl) (by kernel_rfl) (fun _ _ _ h => h) (Or.inl ⟨by rfl, fun w hSw => by go_simp⟩) (by assumption) ?_
    (try simp only [Act.put, List.getElem_toArray, List.getElem_cons_zero, List.getElem_cons_succ, List.setIfInBounds_toArray, List.set_cons_zero, List.set_cons_succ])
    refine wpAnyH_take (i := 8) (v := .agg (tlC ⟨1, ⟨n1.toArray⟩⟩)) rfl (by kernel_rfl) (by kernel_rfl) (by kernel_rfl) (fun _ _ _ h => h) (Or.inl ⟨by rfl, fun w hSw => exec_build_blkL (t := 24) (tlC ⟨1, ⟨n1.toArray⟩⟩) rfl (by kernel_rfl)⟩) (by assumption) ?_
    (try simp only [Act.put, List.getElem_toArray, List.getElem_cons_zero, List.getElem_cons_succ, List.setIfInBounds_toArray, List.set_cons_zero, List.set_cons_succ])
    refine wpAnyH_ready (rs := [12]) (by kernel_rfl) (by simp) ?_
    refine AllReadyH.cons rfl (fun K hK => ?_) AllReadyH.nil
    simp only [List.getElem_toArray, List.getElem_cons_zero, List.getElem_cons_succ]
    go_simp
    go_at_call 35; (with_reducible refine (HE2.out _).mono ?_); rintro e w3 ⟨rfl, b3⟩; have HA3 := HA2.kept b3; have B3 := B2.trans (b3.mono B2.size)
    refine hK.out _ _ ?_ (fun hHeld => ?_)
    · exact HA3
    clear hK K
    (try simp only [Act.put, List.getElem_toArray, List.getElem_cons_zero, List.getElem_cons_succ, List.setIfInBounds_toArray, List.set_cons_zero, List.set_cons_succ])
    refine wpAnyH_take (i := 16) (v := .string ⟨n2.toArray⟩) rfl (by kernel_rfl) (by kernel_rfl) (by kernel_rfl) (fun _ _ _ h => h) (Or.inl ⟨by rfl, fun w hSw => by go_simp⟩) (by assumption) ?_
    (try simp only [Act.put, List.getElem_toArray, List.getElem_cons_zero, List.getElem_cons_succ, List.setIfInBounds_toArray, List.set_cons_zero, List.set_cons_succ])
    refine wpAnyH_take (i := 17) (v := .agg (tlC ⟨2, ⟨n2.toArray⟩⟩)) rfl (by kernel_rfl) (by kernel_rfl) (by kernel_rfl) (fun _ _ _ h => h) (Or.inl ⟨by rfl, fun w hSw => exec_build_blkL (t := 24) (tlC ⟨2, ⟨n2.toArray⟩⟩) rfl (by kernel_rfl)⟩) (by assumption) ?_
    (try simp only [Act.put, List.getElem_toArray, List.getElem_cons_zero, List.getElem_cons_succ, List.setIfInBounds_toArray, List.set_cons_zero, List.set_cons_succ])
    refine wpAnyH_ready (rs := [20]) (by kernel_rfl) (by simp) ?_
    refine AllReadyH.cons rfl (fun K hK => ?_) AllReadyH.nil
    simp only [List.getElem_toArray, List.getElem_cons_zero, List.getElem_cons_succ]
    go_simp
    go_at_call 35; (with_reducible refine (HE3.out _).mono ?_); rintro e w4 ⟨rfl, b4⟩; have HA4 := HA3.kept b4; have B4 := B3.trans (b4.mono B3.size); have B4x : wc.heap.size ≤ w4.heap.size := Nat.le_trans b2.size (Nat.le_trans b3.size b4.size)
    refine hK.out _ _ ?_ (fun hHeld => ?_)
    · exact HA4
    clear hK K
    (try simp only [Act.put, List.getElem_toArray, List.getElem_cons_zero, List.getElem_cons_succ, List.setIfInBounds_toArray, List.set_cons_zero, List.set_cons_succ])
    refine wpAnyH_take (i := 21) (v := .agg (tlC ⟨3, ⟨y3.toArray⟩⟩)) rfl (by kernel_rfl) (by kernel_rfl) (by kernel_rfl) (fun _ _ _ h => h) (Or.inl ⟨by rfl, fun w hSw => exec_build_blkL (t := 24) (tlC ⟨3, ⟨y3.toArray⟩⟩) rfl (by kernel_rfl)⟩) (by assumption) ?_
    (try simp only [Act.put, List.getElem_toArray, List.getElem_cons_zero, List.getElem_cons_succ, List.setIfInBounds_toArray, List.set_cons_zero, List.set_cons_succ])
    refine wpAnyH_ready (rs := [22]) (by kernel_rfl) (by simp) ?_
    refine AllReadyH.cons rfl (fun K hK => ?_) AllReadyH.nil
    simp only [List.getElem_toArray, List.getElem_cons_zero, List.getElem_cons_succ]
    rw [if_pos (by rfl)]
    refine slice3_tl ⟨1, ⟨n1.toArray⟩⟩ ⟨2, ⟨n2.toArray⟩⟩ ⟨3, ⟨y3.toArray⟩⟩ (w.heap.size + 1) (Nat.le_trans hwB B4x) rfl rfl rfl rfl (fun v5 w5 HO5 b5 => ?_)
    have HA5 := HA4.kept b5
    have B5 := B4.trans (b5.mono B4.size)
    refine hK.out _ _ ?_ (fun hHeld => ?_)
    · exact HA5
    clear hK K
    (try simp only [Act.put, List.getElem_toArray, List.getElem_cons_zero, List.getElem_cons_succ, List.setIfInBounds_toArray, List.set_cons_zero, List.set_cons_succ])
    refine wpAnyH_take (i := 23) (v := ?_) rfl (by kernel_rfl) (by kernel_rfl) (by kernel_rfl) (fun _ _ _ h => h) (Or.inl ⟨by rfl, ?_⟩) (by assumption) ?_
    rotate_left
    · (intro w hSw; (try dsimp only at hSw); go_simp; (try with_reducible rfl))
    (try simp only [Act.put, List.getElem_toArray, List.getElem_cons_zero, List.getElem_cons_succ, List.setIfInBounds_toArray, List.set_cons_zero, List.set_cons_succ])
    refine wpAnyH_done (by kernel_rfl) ?_ _
    refine NoPanic.normal ?_
    have B5x : w.heap.size + 1 ≤ w5.heap.size := Nat.le_trans (Nat.le_trans hwB B4x) b5.size
    rw [← HH.out] at HO5
    clear HA1 B1 HA2 B2 HA3 B3 HA4 B4 b2 b3 b4 b5 B4x hwB HE1 HE2 HE3 p1 p2 HH hlt0
    generalize refHead (⟨ch, po, tt, de, ho, sy, ca, ma, og⟩ : Ld) = L0 at *
    have hA5 := HO5
    clear HO5
    obtain ⟨acF, hacF⟩ : ∃ acF : Nat → List Tl, acF 0 = L0 ∧ acF 1 = L0 ++ kTl 4 de ∧ acF 2 = L0 ++ kTl 4 de ++ kTl 5 ho ∧ acF 3 = L0 ++ kTl 4 de ++ kTl 5 ho ++ kTl 6 sy := ⟨fun k => match k with | 0 => L0 | 1 => L0 ++ kTl 4 de | 2 => L0 ++ kTl 4 de ++ kTl 5 ho | _ => L0 ++ kTl 4 de ++ kTl 5 ho ++ kTl 6 sy, rfl, rfl, rfl, rfl⟩
    obtain ⟨okF, hokF⟩ : ∃ okF : Nat → Bool, okF 0 = b0 ∧ okF 1 = (b0 && few okSt de) ∧ okF 2 = ((b0 && few okSt de) && few okSt ho) ∧ okF 3 = (((b0 && few okSt de) && few okSt ho) && few okSt sy) := ⟨fun k => match k with | 0 => b0 | 1 => (b0 && few okSt de) | 2 => ((b0 && few okSt de) && few okSt ho) | _ => (((b0 && few okSt de) && few okSt ho) && few okSt sy), rfl, rfl, rfl, rfl⟩
    have HacF := Lib.hid hacF
    have HokF := Lib.hid hokF
    have e0 := hokF.1
    have c5 := HA5.cv 5 (.slice qd de.length qdc) rfl
    have c6 := HA5.cv 6 (.slice qh ho.length qhc) rfl
    have c7 := HA5.cv 7 (.slice qs sy.length qsc) rfl
    rw [← hacF.1] at hA5
    rw [← e0]
    clear hacF hokF e0
    go_wp2_with fail
    go_loopw [4, 5, 77] (fun okv v i wr => ∃ k : Nat, k ≤ 3 ∧ i = .int .i64 k ∧ okv = .bool (okF k) ∧ OwnTl wr (w.heap.size + 1) v (acF k) ∧ Blk wr w.heap.size 54 (ldC ⟨ch, po, tt, de, ho, sy, ca, ma, og⟩ ⟨(qd, qdc), (qh, qhc), (qs, qsc), (qc, qcc), (qm, qmc), (qo, qoc)⟩) ∧ Below w.heap.size w wr ∧ w.heap.size + 1 ≤ wr.heap.size) (fun _ _ i _ => 3 - (intOf i).toNat)
    case atStart => exact ⟨0, by omega, rfl, rfl, hA5, HA5, B5, B5x⟩
    case round =>
      clear hA5 HA5 B5 B5x c5 c6 c7
      rename_i v
      obtain ⟨k, hk, rfl, rfl, hAk, HAk, Bk, Bkx⟩ := hrel
      have k4 : k = 0 ∨ k = 1 ∨ k = 2 ∨ k = 3 := by omega
      rcases k4 with rfl | rfl | rfl | rfl
      · have hix : ∀ W : World, (Instr.index 141 (.agg #[.slice qd de.length qdc, .slice qh ho.length qhc, .slice qs sy.length qsc]) (.int .i64 0)).run Tryd.prog W = .ok (.slice qd de.length qdc) W := fun W => by kernel_rfl
        have hnext : Hid (∀ r, okF 0 = r → okF 1 = (r && few okSt de)) := fun r hr => by
          rw [HokF.out.2.1, ← hr, HokF.out.1]
        have hacc : Hid (acF 1 = acF 0 ++ kTl 4 de) := by
          show _ = _
          rw [HacF.out.2.1, HacF.out.1]
        have hacl : Hid ((acF 0).length ≤ 703) := by
          show _ ≤ _
          rw [HacF.out.1]
          (try simp only [List.length_append, kTl_len])
          omega
        have hln : de.length ≤ 700 := by omega
        have HI := i1.below Bk
        generalize okF 0 = bk at *
        generalize acF 0 = ac at *
        replace hnext := Lib.hid (hnext.out bk rfl)
        clear HokF HacF
        rw [show ((0 : Nat) : Int) = 0 from rfl]
        go_upto_region 6 with (fail)
        go_cut [4] from 81 to 86 (fun v2 wx => v2 = .bool (bk && decide ((de.length : Int) ≤ 1)) ∧ wx = wr)
        case first =>
          obtain ⟨dk, hdk⟩ : ∃ dk, decide ((de.length : Int) ≤ 1) = dk := ⟨_, rfl⟩
          clear hnext hacc hacl
          cases bk with
          | false =>
            go_wp2_with fail
            go_meet
            exact ⟨rfl, rfl⟩
          | true =>
            go_wp2_with fail
            go_meet
            exact ⟨by rw [hdk]; rfl, rfl⟩
        case rest =>
          obtain ⟨rfl, rfl⟩ := hcut
          obtain ⟨bd, hbd⟩ : ∃ bd, (bk && decide ((de.length : Int) ≤ 1)) = bd := ⟨_, rfl⟩
          rw [hbd]
          have Hbd := Lib.hid hbd
          clear hbd
          obtain ⟨w6, hw6⟩ : ∃ z, z = wc := ⟨_, rfl⟩
          subst hw6
          go_wp2_with fail
          go_loopw [4, 5, 89] (fun okv v i wz => ∃ j : Nat, j ≤ de.length ∧ i = .int .i64 j ∧ okv = .bool (bd && (de.take j).all okSt) ∧ OwnTl wz (w.heap.size + 1) v (ac ++ kTl 4 (de.take j)) ∧ Blk wz w.heap.size 54 (ldC ⟨ch, po, tt, de, ho, sy, ca, ma, og⟩ ⟨(qd, qdc), (qh, qhc), (qs, qsc), (qc, qcc), (qm, qmc), (qo, qoc)⟩) ∧ Below w.heap.size w wz ∧ w.heap.size + 1 ≤ wz.heap.size) (fun _ _ i _ => de.length - (intOf i).toNat)
          case atStart => exact ⟨0, by omega, rfl, by rw [List.take_zero]; simp, by rw [List.take_zero]; simpa [kTl] using hAk, HAk, Bk, Bkx⟩
          case round =>
            clear hAk HAk Bk Bkx
            rename_i v2
            obtain ⟨j, hj, rfl, rfl, hAj, HAj, Bj, Bjx⟩ := hrel
            by_cases hlt : j < de.length
            · have hIj := i1.below Bj
              obtain ⟨b, lo, rfl, hbl, hat⟩ := hIj.at hlt
              have q1 : (j : Int) < (de.length : Int) := by omega
              have q2 : decide ((j : Int) < (de.length : Int)) = true := decide_eq_true q1
              have q3 : (0 : Int) ≤ (j : Int) := by omega
              have HT := Lib.hid (kTl_take 4 de j hlt)
              have hsn : de.take (j + 1) = de.take j ++ [de[j]] := by rw [List.take_add_one, List.getElem?_eq_getElem hlt]; rfl
              have HS : Hid (∀ r, (bd && (de.take j).all okSt) = r → (bd && (de.take (j + 1)).all okSt) = (r && decide ((de[j].size : Int) ≤ 255))) := fun r hr => by
                rw [hsn, List.all_append, ← Bool.and_assoc, hr]
                simp [okSt]
              have hml : Hid ((ac ++ kTl 4 (de.take j)).length ≤ 2000) := by
                show _ ≤ _
                have := hacl.out
                rw [List.length_append, kTl_len, List.length_take]
                omega
              have KX : wr.cell? ⟨b, lo + j, none⟩ = some (.string de[j]) := by
                have q := hat j hlt 0 (.string de[j]) rfl
                rw [Nat.mul_one, Nat.add_zero] at q
                exact q
              generalize de[j] = x at *
              generalize hbj : (bd && (de.take j).all okSt) = bj at *
              generalize hmm : ac ++ kTl 4 (de.take j) = mm at *
              have HMM := Lib.hid hmm
              replace HS := Lib.hid (HS.out bj rfl)
              clear hbj hmm hsn hat hIj hnext hacc Hbd
              go_upto_region 10 with (fail)
              go_cut [4] from 93 to 98 (fun v3 wx => v3 = .bool (bj && decide ((x.size : Int) ≤ 255)) ∧ wx = wr)
              case first =>
                obtain ⟨dk, hdk⟩ : ∃ dk, decide ((x.size : Int) ≤ 255) = dk := ⟨_, rfl⟩
                clear HS HT
                cases bj with
                | false =>
                  go_wp2_with fail
                  go_meet
                  exact ⟨rfl, rfl⟩
                | true =>
                  go_wp2_with fail
                  go_meet
                  exact ⟨by rw [hdk]; rfl, rfl⟩
              case rest =>
                obtain ⟨rfl, hwc⟩ := hcut
                subst hwc
                rw [← HS.out]
                generalize hbn : (bd && (de.take (j + 1)).all okSt) = bn at *
                have HBN := Lib.hid hbn
                clear hbn
                go_wp2_with (first
                  | (refine build_blk (t := 24) (tlC ⟨4, x⟩) (by rfl) rfl (by kernel_rfl) ?_)
                  | (refine sliceL_tl ⟨4, x⟩ rfl rfl rfl (fun w7 HG7 b7 hlt7 => ?_); have HA7 := HAj.kept b7; have HO7 := hAj.kept b7; have B7 := Bj.trans (b7.mono (Nat.le_of_lt (Nat.lt_of_lt_of_le (Nat.lt_succ_self _) Bjx))); have B7x : w.heap.size + 1 ≤ w7.heap.size := Nat.le_trans Bjx b7.size)
                  | (refine appendL_tl ⟨4, x⟩ rfl rfl rfl rfl HO7 HG7 (by have := hml.out; omega) B7x (fun v8 w8 HO8 b8 g8 => ?_); have HA8 := HA7.below b8 (Nat.lt_succ_self _); have B8 := B7.trans (b8.mono (Nat.le_succ _)); have B8x := Nat.le_trans B7x b8.size))
                go_roundw
                case rel => exact ⟨j + 1, by omega, by go_num, by rw [HBN.out], by
                  rw [HT.out, ← List.append_assoc, HMM.out]
                  exact HO8, HA8, B8, B8x⟩
                case measure => simp [intOf]; omega
            · obtain rfl : j = de.length := by omega
              have q2 : decide ((de.length : Int) < (de.length : Int)) = false := decide_eq_false (by omega)
              rw [List.take_length] at hAj ⊢
              have hval : Hid ((bd && de.all okSt) = okF 1) := by
                show _ = _
                rw [← Hbd.out, hnext.out, Bool.and_assoc]
                rfl
              rw [hval.out]
              rw [← hacc.out] at hAj
              generalize hbz : okF 1 = bz at *
              have HBZ := Lib.hid hbz
              clear hbz
              go_wp2
              go_roundw
              case rel => exact ⟨1, by omega, rfl, by rw [HBZ.out], hAj, HAj, Bj, Bjx⟩
              case measure => simp [intOf]
      · have hix : ∀ W : World, (Instr.index 141 (.agg #[.slice qd de.length qdc, .slice qh ho.length qhc, .slice qs sy.length qsc]) (.int .i64 1)).run Tryd.prog W = .ok (.slice qh ho.length qhc) W := fun W => by kernel_rfl
        have hnext : Hid (∀ r, okF 1 = r → okF 2 = (r && few okSt ho)) := fun r hr => by
          rw [HokF.out.2.2.1, ← hr, HokF.out.2.1]
        have hacc : Hid (acF 2 = acF 1 ++ kTl 5 ho) := by
          show _ = _
          rw [HacF.out.2.2.1, HacF.out.2.1]
        have hacl : Hid ((acF 1).length ≤ 703) := by
          show _ ≤ _
          rw [HacF.out.2.1]
          (try simp only [List.length_append, kTl_len])
          omega
        have hln : ho.length ≤ 700 := by omega
        have HI := i2.below Bk
        generalize okF 1 = bk at *
        generalize acF 1 = ac at *
        replace hnext := Lib.hid (hnext.out bk rfl)
        clear HokF HacF
        rw [show ((1 : Nat) : Int) = 1 from rfl]
        go_upto_region 6 with (fail)
        go_cut [4] from 81 to 86 (fun v2 wx => v2 = .bool (bk && decide ((ho.length : Int) ≤ 1)) ∧ wx = wr)
        case first =>
          obtain ⟨dk, hdk⟩ : ∃ dk, decide ((ho.length : Int) ≤ 1) = dk := ⟨_, rfl⟩
          clear hnext hacc hacl
          cases bk with
          | false =>
            go_wp2_with fail
            go_meet
            exact ⟨rfl, rfl⟩
          | true =>
            go_wp2_with fail
            go_meet
            exact ⟨by rw [hdk]; rfl, rfl⟩
        case rest =>
          obtain ⟨rfl, rfl⟩ := hcut
          obtain ⟨bd, hbd⟩ : ∃ bd, (bk && decide ((ho.length : Int) ≤ 1)) = bd := ⟨_, rfl⟩
          rw [hbd]
          have Hbd := Lib.hid hbd
          clear hbd
          obtain ⟨w6, hw6⟩ : ∃ z, z = wc := ⟨_, rfl⟩
          subst hw6
          go_wp2_with fail
          go_loopw [4, 5, 89] (fun okv v i wz => ∃ j : Nat, j ≤ ho.length ∧ i = .int .i64 j ∧ okv = .bool (bd && (ho.take j).all okSt) ∧ OwnTl wz (w.heap.size + 1) v (ac ++ kTl 5 (ho.take j)) ∧ Blk wz w.heap.size 54 (ldC ⟨ch, po, tt, de, ho, sy, ca, ma, og⟩ ⟨(qd, qdc), (qh, qhc), (qs, qsc), (qc, qcc), (qm, qmc), (qo, qoc)⟩) ∧ Below w.heap.size w wz ∧ w.heap.size + 1 ≤ wz.heap.size) (fun _ _ i _ => ho.length - (intOf i).toNat)
          case atStart => exact ⟨0, by omega, rfl, by rw [List.take_zero]; simp, by rw [List.take_zero]; simpa [kTl] using hAk, HAk, Bk, Bkx⟩
          case round =>
            clear hAk HAk Bk Bkx
            rename_i v2
            obtain ⟨j, hj, rfl, rfl, hAj, HAj, Bj, Bjx⟩ := hrel
            by_cases hlt : j < ho.length
            · have hIj := i2.below Bj
              obtain ⟨b, lo, rfl, hbl, hat⟩ := hIj.at hlt
              have q1 : (j : Int) < (ho.length : Int) := by omega
              have q2 : decide ((j : Int) < (ho.length : Int)) = true := decide_eq_true q1
              have q3 : (0 : Int) ≤ (j : Int) := by omega
              have HT := Lib.hid (kTl_take 5 ho j hlt)
              have hsn : ho.take (j + 1) = ho.take j ++ [ho[j]] := by rw [List.take_add_one, List.getElem?_eq_getElem hlt]; rfl
              have HS : Hid (∀ r, (bd && (ho.take j).all okSt) = r → (bd && (ho.take (j + 1)).all okSt) = (r && decide ((ho[j].size : Int) ≤ 255))) := fun r hr => by
                rw [hsn, List.all_append, ← Bool.and_assoc, hr]
                simp [okSt]
              have hml : Hid ((ac ++ kTl 5 (ho.take j)).length ≤ 2000) := by
                show _ ≤ _
                have := hacl.out
                rw [List.length_append, kTl_len, List.length_take]
                omega
              have KX : wr.cell? ⟨b, lo + j, none⟩ = some (.string ho[j]) := by
                have q := hat j hlt 0 (.string ho[j]) rfl
                rw [Nat.mul_one, Nat.add_zero] at q
                exact q
              generalize ho[j] = x at *
              generalize hbj : (bd && (ho.take j).all okSt) = bj at *
              generalize hmm : ac ++ kTl 5 (ho.take j) = mm at *
              have HMM := Lib.hid hmm
              replace HS := Lib.hid (HS.out bj rfl)
              clear hbj hmm hsn hat hIj hnext hacc Hbd
              go_upto_region 10 with (fail)
              go_cut [4] from 93 to 98 (fun v3 wx => v3 = .bool (bj && decide ((x.size : Int) ≤ 255)) ∧ wx = wr)
              case first =>
                obtain ⟨dk, hdk⟩ : ∃ dk, decide ((x.size : Int) ≤ 255) = dk := ⟨_, rfl⟩
                clear HS HT
                cases bj with
                | false =>
                  go_wp2_with fail
                  go_meet
                  exact ⟨rfl, rfl⟩
                | true =>
                  go_wp2_with fail
                  go_meet
                  exact ⟨by rw [hdk]; rfl, rfl⟩
              case rest =>
                obtain ⟨rfl, hwc⟩ := hcut
                subst hwc
                rw [← HS.out]
                generalize hbn : (bd && (ho.take (j + 1)).all okSt) = bn at *
                have HBN := Lib.hid hbn
                clear hbn
                go_wp2_with (first
                  | (refine build_blk (t := 24) (tlC ⟨5, x⟩) (by rfl) rfl (by kernel_rfl) ?_)
                  | (refine sliceL_tl ⟨5, x⟩ rfl rfl rfl (fun w7 HG7 b7 hlt7 => ?_); have HA7 := HAj.kept b7; have HO7 := hAj.kept b7; have B7 := Bj.trans (b7.mono (Nat.le_of_lt (Nat.lt_of_lt_of_le (Nat.lt_succ_self _) Bjx))); have B7x : w.heap.size + 1 ≤ w7.heap.size := Nat.le_trans Bjx b7.size)
                  | (refine appendL_tl ⟨5, x⟩ rfl rfl rfl rfl HO7 HG7 (by have := hml.out; omega) B7x (fun v8 w8 HO8 b8 g8 => ?_); have HA8 := HA7.below b8 (Nat.lt_succ_self _); have B8 := B7.trans (b8.mono (Nat.le_succ _)); have B8x := Nat.le_trans B7x b8.size))
                go_roundw
                case rel => exact ⟨j + 1, by omega, by go_num, by rw [HBN.out], by
                  rw [HT.out, ← List.append_assoc, HMM.out]
                  exact HO8, HA8, B8, B8x⟩
                case measure => simp [intOf]; omega
            · obtain rfl : j = ho.length := by omega
              have q2 : decide ((ho.length : Int) < (ho.length : Int)) = false := decide_eq_false (by omega)
              rw [List.take_length] at hAj ⊢
              have hval : Hid ((bd && ho.all okSt) = okF 2) := by
                show _ = _
                rw [← Hbd.out, hnext.out, Bool.and_assoc]
                rfl
              rw [hval.out]
              rw [← hacc.out] at hAj
              generalize hbz : okF 2 = bz at *
              have HBZ := Lib.hid hbz
              clear hbz
              go_wp2
              go_roundw
              case rel => exact ⟨2, by omega, rfl, by rw [HBZ.out], hAj, HAj, Bj, Bjx⟩
              case measure => simp [intOf]
      · have hix : ∀ W : World, (Instr.index 141 (.agg #[.slice qd de.length qdc, .slice qh ho.length qhc, .slice qs sy.length qsc]) (.int .i64 2)).run Tryd.prog W = .ok (.slice qs sy.length qsc) W := fun W => by kernel_rfl
        have hnext : Hid (∀ r, okF 2 = r → okF 3 = (r && few okSt sy)) := fun r hr => by
          rw [HokF.out.2.2.2, ← hr, HokF.out.2.2.1]
        have hacc : Hid (acF 3 = acF 2 ++ kTl 6 sy) := by
          show _ = _
          rw [HacF.out.2.2.2, HacF.out.2.2.1]
        have hacl : Hid ((acF 2).length ≤ 703) := by
          show _ ≤ _
          rw [HacF.out.2.2.1]
          (try simp only [List.length_append, kTl_len])
          omega
        have hln : sy.length ≤ 700 := by omega
        have HI := i3.below Bk
        generalize okF 2 = bk at *
        generalize acF 2 = ac at *
        replace hnext := Lib.hid (hnext.out bk rfl)
        clear HokF HacF
        rw [show ((2 : Nat) : Int) = 2 from rfl]
        go_upto_region 6 with (fail)
        go_cut [4] from 81 to 86 (fun v2 wx => v2 = .bool (bk && decide ((sy.length : Int) ≤ 1)) ∧ wx = wr)
        case first =>
          obtain ⟨dk, hdk⟩ : ∃ dk, decide ((sy.length : Int) ≤ 1) = dk := ⟨_, rfl⟩
          clear hnext hacc hacl
          cases bk with
          | false =>
            go_wp2_with fail
            go_meet
            exact ⟨rfl, rfl⟩
          | true =>
            go_wp2_with fail
            go_meet
            exact ⟨by rw [hdk]; rfl, rfl⟩
        case rest =>
          obtain ⟨rfl, rfl⟩ := hcut
          obtain ⟨bd, hbd⟩ : ∃ bd, (bk && decide ((sy.length : Int) ≤ 1)) = bd := ⟨_, rfl⟩
          rw [hbd]
          have Hbd := Lib.hid hbd
          clear hbd
          obtain ⟨w6, hw6⟩ : ∃ z, z = wc := ⟨_, rfl⟩
          subst hw6
          go_wp2_with fail
          go_loopw [4, 5, 89] (fun okv v i wz => ∃ j : Nat, j ≤ sy.length ∧ i = .int .i64 j ∧ okv = .bool (bd && (sy.take j).all okSt) ∧ OwnTl wz (w.heap.size + 1) v (ac ++ kTl 6 (sy.take j)) ∧ Blk wz w.heap.size 54 (ldC ⟨ch, po, tt, de, ho, sy, ca, ma, og⟩ ⟨(qd, qdc), (qh, qhc), (qs, qsc), (qc, qcc), (qm, qmc), (qo, qoc)⟩) ∧ Below w.heap.size w wz ∧ w.heap.size + 1 ≤ wz.heap.size) (fun _ _ i _ => sy.length - (intOf i).toNat)
          case atStart => exact ⟨0, by omega, rfl, by rw [List.take_zero]; simp, by rw [List.take_zero]; simpa [kTl] using hAk, HAk, Bk, Bkx⟩
          case round =>
            clear hAk HAk Bk Bkx
            rename_i v2
            obtain ⟨j, hj, rfl, rfl, hAj, HAj, Bj, Bjx⟩ := hrel
            by_cases hlt : j < sy.length
            · have hIj := i3.below Bj
              obtain ⟨b, lo, rfl, hbl, hat⟩ := hIj.at hlt
              have q1 : (j : Int) < (sy.length : Int) := by omega
              have q2 : decide ((j : Int) < (sy.length : Int)) = true := decide_eq_true q1
              have q3 : (0 : Int) ≤ (j : Int) := by omega
              have HT := Lib.hid (kTl_take 6 sy j hlt)
              have hsn : sy.take (j + 1) = sy.take j ++ [sy[j]] := by rw [List.take_add_one, List.getElem?_eq_getElem hlt]; rfl
              have HS : Hid (∀ r, (bd && (sy.take j).all okSt) = r → (bd && (sy.take (j + 1)).all okSt) = (r && decide ((sy[j].size : Int) ≤ 255))) := fun r hr => by
                rw [hsn, List.all_append, ← Bool.and_assoc, hr]
                simp [okSt]
              have hml : Hid ((ac ++ kTl 6 (sy.take j)).length ≤ 2000) := by
                show _ ≤ _
                have := hacl.out
                rw [List.length_append, kTl_len, List.length_take]
                omega
              have KX : wr.cell? ⟨b, lo + j, none⟩ = some (.string sy[j]) := by
                have q := hat j hlt 0 (.string sy[j]) rfl
                rw [Nat.mul_one, Nat.add_zero] at q
                exact q
              generalize sy[j] = x at *
              generalize hbj : (bd && (sy.take j).all okSt) = bj at *
              generalize hmm : ac ++ kTl 6 (sy.take j) = mm at *
              have HMM := Lib.hid hmm
              replace HS := Lib.hid (HS.out bj rfl)
              clear hbj hmm hsn hat hIj hnext hacc Hbd
              go_upto_region 10 with (fail)
              go_cut [4] from 93 to 98 (fun v3 wx => v3 = .bool (bj && decide ((x.size : Int) ≤ 255)) ∧ wx = wr)
              case first =>
                obtain ⟨dk, hdk⟩ : ∃ dk, decide ((x.size : Int) ≤ 255) = dk := ⟨_, rfl⟩
                clear HS HT
                cases bj with
                | false =>
                  go_wp2_with fail
                  go_meet
                  exact ⟨rfl, rfl⟩
                | true =>
                  go_wp2_with fail
                  go_meet
                  exact ⟨by rw [hdk]; rfl, rfl⟩
              case rest =>
                obtain ⟨rfl, hwc⟩ := hcut
                subst hwc
                rw [← HS.out]
                generalize hbn : (bd && (sy.take (j + 1)).all okSt) = bn at *
                have HBN := Lib.hid hbn
                clear hbn
                go_wp2_with (first
                  | (refine build_blk (t := 24) (tlC ⟨6, x⟩) (by rfl) rfl (by kernel_rfl) ?_)
                  | (refine sliceL_tl ⟨6, x⟩ rfl rfl rfl (fun w7 HG7 b7 hlt7 => ?_); have HA7 := HAj.kept b7; have HO7 := hAj.kept b7; have B7 := Bj.trans (b7.mono (Nat.le_of_lt (Nat.lt_of_lt_of_le (Nat.lt_succ_self _) Bjx))); have B7x : w.heap.size + 1 ≤ w7.heap.size := Nat.le_trans Bjx b7.size)
                  | (refine appendL_tl ⟨6, x⟩ rfl rfl rfl rfl HO7 HG7 (by have := hml.out; omega) B7x (fun v8 w8 HO8 b8 g8 => ?_); have HA8 := HA7.below b8 (Nat.lt_succ_self _); have B8 := B7.trans (b8.mono (Nat.le_succ _)); have B8x := Nat.le_trans B7x b8.size))
                go_roundw
                case rel => exact ⟨j + 1, by omega, by go_num, by rw [HBN.out], by
                  rw [HT.out, ← List.append_assoc, HMM.out]
                  exact HO8, HA8, B8, B8x⟩
                case measure => simp [intOf]; omega
            · obtain rfl : j = sy.length := by omega
              have q2 : decide ((sy.length : Int) < (sy.length : Int)) = false := decide_eq_false (by omega)
              rw [List.take_length] at hAj ⊢
              have hval : Hid ((bd && sy.all okSt) = okF 3) := by
                show _ = _
                rw [← Hbd.out, hnext.out, Bool.and_assoc]
                rfl
              rw [hval.out]
              rw [← hacc.out] at hAj
              generalize hbz : okF 3 = bz at *
              have HBZ := Lib.hid hbz
              clear hbz
              go_wp2
              go_roundw
              case rel => exact ⟨3, by omega, rfl, by rw [HBZ.out], hAj, HAj, Bj, Bjx⟩
              case measure => simp [intOf]
      · have hB3 : Hid (okF 3 = (((b0 && few okSt de) && few okSt ho) && few okSt sy)) := HokF.out.2.2.2
        have hA3 : Hid (acF 3 = L0 ++ kTl 4 de ++ kTl 5 ho ++ kTl 6 sy) := HacF.out.2.2.2
        have hl3 : (acF 3).length = 3 + de.length + ho.length + sy.length := by
          rw [hA3.out]
          simp only [List.length_append, kTl_len]
          omega
        rw [show ((3 : Nat) : Int) = 3 from rfl]
        clear HokF HacF hk
        generalize okF 3 = b3 at *
        generalize acF 3 = L3 at *
        have cz := HAk.cv 8 (.slice qc ca.length qcc) rfl
        go_wp2_with fail
        go_loopw [4, 5, 111] (fun okv v i wz => ∃ (j : Nat) (v2 : Value), v2 = v ∧ j ≤ ca.length ∧ i = .int .i64 j ∧ okv = .bool (b3 && (ca.take j).all okCpR) ∧ OwnTl wz (w.heap.size + 1) v (L3 ++ (ca.take j).map cpT) ∧ Blk wz w.heap.size 54 (ldC ⟨ch, po, tt, de, ho, sy, ca, ma, og⟩ ⟨(qd, qdc), (qh, qhc), (qs, qsc), (qc, qcc), (qm, qmc), (qo, qoc)⟩) ∧ Below w.heap.size w wz ∧ w.heap.size + 1 ≤ wz.heap.size) (fun _ _ i _ => ca.length - (intOf i).toNat)
        case atStart => exact ⟨0, _, rfl, by omega, rfl, by rw [List.take_zero]; simp, by rw [List.take_zero, List.map_nil, List.append_nil]; exact hAk, HAk, Bk, Bkx⟩
        case round =>
          clear hAk HAk Bk Bkx cz
          obtain ⟨j, v2, rfl, hj, rfl, rfl, hAj, HAj, Bj, Bjx⟩ := hrel
          by_cases hlt : j < ca.length
          · have hIj := i4.below Bj
            obtain ⟨b, lo, rfl, hbl, hat⟩ := hIj.at hlt
            have q1 : (j : Int) < (ca.length : Int) := by omega
            have q2 : decide ((j : Int) < (ca.length : Int)) = true := decide_eq_true q1
            have q3 : (0 : Int) ≤ (j : Int) := by omega
            have HKc := hat j hlt
            have HT := Lib.hid (map_take1 cpT ca j hlt)
            have hsn : ca.take (j + 1) = ca.take j ++ [ca[j]] := by rw [List.take_add_one, List.getElem?_eq_getElem hlt]; rfl
            have HS : Hid (∀ r, (b3 && (ca.take j).all okCpR) = r → (b3 && (ca.take (j + 1)).all okCpR) = (r && okCpR ca[j])) := fun r hr => by
              rw [hsn, List.all_append, ← Bool.and_assoc, hr]
              simp
            have hml : Hid ((L3 ++ (ca.take j).map cpT).length ≤ 2000) := by
              show _ ≤ _
              rw [List.length_append, List.length_map, List.length_take]
              omega
            have HV4 := Blk.new wr 110 (cpC zCp)
            have B4 : Below wr.heap.size wr (wr.alloc (.cells (cpC zCp) 110)) := (Below.refl _ _).alloc (Nat.le_refl _) _
            generalize ca[j] = y at *
            generalize hbj : (b3 && (ca.take j).all okCpR) = bj at *
            generalize hmm : L3 ++ (ca.take j).map cpT = mm at *
            have HMM := Lib.hid hmm
            replace HS := Lib.hid (HS.out bj rfl)
            clear hbj hmm hsn hat hIj
            go_upto_region 17 with (first
              | (refine load_cells (B := b) (k := lo + j * 2) 110 (cpC y) (by rfl) rfl rfl HKc (by kernel_rfl) (by kernel_rfl) ?_)
              | (refine alloc_blk 110 (cpC zCp) (by rfl) rfl Tryd.cpZero ?_)
              | (refine store_blk (k := 0) 110 (.agg (cpC y)) (cpC y) (by rfl) rfl rfl rfl HV4 (by kernel_rfl) (show (2 : Nat) ≤ 2 from Nat.le_refl 2) (by rfl) (st_whole _ _ rfl) ?_; intro w5 HV5 b5 g5))
            have b5' := B4.trans b5
            have HA5 := HAj.kept b5'
            have HO5 := hAj.kept b5'
            have B5 := Bj.trans (b5'.mono Bj.size)
            have B5x := Nat.le_trans Bjx b5'.size
            clear HV4 B4 b5 g5 b5' HKc HAj hAj Bj Bjx
            generalize wr.heap.size = V at *
            (try simp only [Act.put, List.setIfInBounds_toArray, List.set_cons_zero, List.set_cons_succ])
            go_cut [4] from 115 to 119 (fun v3 wx => v3 = .bool (bj && okCpR y) ∧ Blk wx V 110 (cpC y) ∧ OwnTl wx (w.heap.size + 1) v2 mm ∧ Blk wx w.heap.size 54 (ldC ⟨ch, po, tt, de, ho, sy, ca, ma, og⟩ ⟨(qd, qdc), (qh, qhc), (qs, qsc), ((some ⟨b, lo, none⟩ : Option Addr), qcc), (qm, qmc), (qo, qoc)⟩) ∧ Below w.heap.size w wx ∧ w.heap.size + 1 ≤ wx.heap.size)
            case first =>
              have HR := Lib.hid (fun W => capsRight_any y W)
              obtain ⟨dk, hdk⟩ : ∃ dk, okCpR y = dk := ⟨_, rfl⟩
              rw [hdk] at HR
              have HDK := Lib.hid hdk
              clear HS HT hdk
              cases bj with
              | false =>
                go_wp2_with fail
                go_meet
                exact ⟨rfl, HV5, HO5, HA5, B5, B5x⟩
              | true =>
                go_wp2_with (refine load_blk (k := 0) 110 (cpC y) (by rfl) rfl rfl HV5 (by kernel_rfl) (by kernel_rfl) rfl ?_)
                refine (HR.out _).mono ?_
                rintro e w6 ⟨rfl, b6⟩
                go_wp2_with fail
                go_meet
                exact ⟨by rw [HDK.out]; rfl, HV5.kept b6, HO5.kept b6, HA5.kept b6, B5.trans (b6.mono B5.size), Nat.le_trans B5x b6.size⟩
            case rest =>
              obtain ⟨rfl, HV6, HO6, HA6, B6, B6x⟩ := hcut
              clear HV5 HO5 HA5 B5 B5x
              rw [← HS.out]
              generalize hbn : (b3 && (ca.take (j + 1)).all okCpR) = bn at *
              have HBN := Lib.hid hbn
              clear hbn
              have HM0 := Lib.hid (fun W => be_2 y.h W)
              have HM1 := Lib.hid (fun W => be_2 y.o W)
              have HY : Hid (cpT y = ⟨7, ⟨(cpR y).toArray⟩⟩) := rfl
              have p1 : ∀ W, (Op.stringOp .add ⟨(beI y.h 2).toArray⟩ ⟨(beI y.o 2).toArray⟩).run Tryd.prog W = .ok (.string ⟨(cpR y).toArray⟩) W := fun W => run_string_add_lists W (beI y.h 2) (beI y.o 2) (by rw [beI_len]; omega) (by rw [beI_len]; omega)
              rw [HY.out] at HT
              generalize beI y.h 2 = y0 at *
              generalize beI y.o 2 = y1 at *
              generalize cpR y = z at *
              clear HY
              go_upto_region 18 with (fail)
              refine wp_region_noPanic ?_
              refine wp_region_held_drew (S := (fun w' => Blk w' V 110 (cpC y))) (by kernel_rfl) ?_ (fun hHeld => ?_)
              · exact HV6.drew
              refine wpAnyH_take (i := 0) (v := ?_) rfl (by kernel_rfl) (by kernel_rfl) (by kernel_rfl) (fun _ _ _ h => h) (Or.inl ⟨by rfl, ?_⟩) (by assumption) ?_
              rotate_left
              · (intro w hSw; (try dsimp only at hSw); go_simp; (try with_reducible rfl))
              (try simp only [Act.put, List.getElem_toArray, List.getElem_cons_zero, List.getElem_cons_succ, List.setIfInBounds_toArray, List.set_cons_zero, List.set_cons_succ])
              refine wpAnyH_take (i := 1) (v := ?_) rfl (by kernel_rfl) (by kernel_rfl) (by kernel_rfl) (fun _ _ _ h => h) (Or.inl ⟨by rfl, ?_⟩) (by assumption) ?_
              rotate_left
              · (intro w hSw; (try dsimp only at hSw); go_simp; (try with_reducible rfl))
              (try simp only [Act.put, List.getElem_toArray, List.getElem_cons_zero, List.getElem_cons_succ, List.setIfInBounds_toArray, List.set_cons_zero, List.set_cons_succ])
              refine wpAnyH_take (i := 2) (v := .int .i64 y.h) rfl (by kernel_rfl) (by kernel_rfl) (by kernel_rfl) (fun _ _ _ h => h) (Or.inl ⟨by rfl, fun w hSw => by have c := hSw.cv 0 (.int .i64 y.h) rfl; go_simp⟩) (by assumption) ?_
              (try simp only [Act.put, List.getElem_toArray, List.getElem_cons_zero, List.getElem_cons_succ, List.setIfInBounds_toArray, List.set_cons_zero, List.set_cons_succ])
              refine wpAnyH_take (i := 4) (v := ?_) rfl (by kernel_rfl) (by kernel_rfl) (by kernel_rfl) (fun _ _ _ h => h) (Or.inl ⟨by rfl, ?_⟩) (by assumption) ?_
              rotate_left
              · (intro w hSw; (try dsimp only at hSw); go_simp; (try with_reducible rfl))
              (try simp only [Act.put, List.getElem_toArray, List.getElem_cons_zero, List.getElem_cons_succ, List.setIfInBounds_toArray, List.set_cons_zero, List.set_cons_succ])
              refine wpAnyH_take (i := 5) (v := .int .i64 y.o) rfl (by kernel_rfl) (by kernel_rfl) (by kernel_rfl) (fun _ _ _ h => h) (Or.inl ⟨by rfl, fun w hSw => by have c := hSw.cv 1 (.int .i64 y.o) rfl; go_simp⟩) (by assumption) ?_
              (try simp only [Act.put, List.getElem_toArray, List.getElem_cons_zero, List.getElem_cons_succ, List.setIfInBounds_toArray, List.set_cons_zero, List.set_cons_succ])
              refine wpAnyH_ready (rs := [3]) (by kernel_rfl) (by simp) ?_
              refine AllReadyH.cons rfl (fun K hK => ?_) AllReadyH.nil
              simp only [List.getElem_toArray, List.getElem_cons_zero, List.getElem_cons_succ]
              go_simp
              go_at_call 35; (with_reducible refine (HM0.out _).mono ?_); rintro e w7 ⟨rfl, b7⟩; have HV7 := HV6.drew.kept b7; have HA7 := HA6.drew.kept b7; have HO7 := (show OwnTl wc.drew (w.heap.size + 1) v2 mm from HO6).kept b7; have B7 := B6.drew.trans (b7.mono B6.drew.size); have B7x := Nat.le_trans (show w.heap.size + 1 ≤ wc.heap.size from B6x) b7.size
              refine hK.out _ _ ?_ (fun hHeld => ?_)
              · exact HV7
              clear hK K
              (try simp only [Act.put, List.getElem_toArray, List.getElem_cons_zero, List.getElem_cons_succ, List.setIfInBounds_toArray, List.set_cons_zero, List.set_cons_succ])
              refine wpAnyH_ready (rs := [6]) (by kernel_rfl) (by simp) ?_
              refine AllReadyH.cons rfl (fun K hK => ?_) AllReadyH.nil
              simp only [List.getElem_toArray, List.getElem_cons_zero, List.getElem_cons_succ]
              go_simp
              go_at_call 35; (with_reducible refine (HM1.out _).mono ?_); rintro e w8 ⟨rfl, b8⟩; have HV8 := HV7.kept b8; have HA8 := HA7.kept b8; have HO8 := HO7.kept b8; have B8 := B7.trans (b8.mono B7.size); have B8x := Nat.le_trans (show w.heap.size + 1 ≤ w7.heap.size from B7x) b8.size
              refine hK.out _ _ ?_ (fun hHeld => ?_)
              · exact HV8
              clear hK K
              (try simp only [Act.put, List.getElem_toArray, List.getElem_cons_zero, List.getElem_cons_succ, List.setIfInBounds_toArray, List.set_cons_zero, List.set_cons_succ])
              refine wpAnyH_take (i := 7) (v := .string ⟨z.toArray⟩) rfl (by kernel_rfl) (by kernel_rfl) (by kernel_rfl) (fun _ _ _ h => h) (Or.inl ⟨by rfl, fun w hSw => by go_simp⟩) (by assumption) ?_
              (try simp only [Act.put, List.getElem_toArray, List.getElem_cons_zero, List.getElem_cons_succ, List.setIfInBounds_toArray, List.set_cons_zero, List.set_cons_succ])
              refine wpAnyH_take (i := 8) (v := .agg (tlC ⟨7, ⟨z.toArray⟩⟩)) rfl (by kernel_rfl) (by kernel_rfl) (by kernel_rfl) (fun _ _ _ h => h) (Or.inl ⟨by rfl, fun w hSw => exec_build_blkL (t := 24) (tlC ⟨7, ⟨z.toArray⟩⟩) rfl (by kernel_rfl)⟩) (by assumption) ?_
              (try simp only [Act.put, List.getElem_toArray, List.getElem_cons_zero, List.getElem_cons_succ, List.setIfInBounds_toArray, List.set_cons_zero, List.set_cons_succ])
              refine wpAnyH_ready (rs := [9]) (by kernel_rfl) (by simp) ?_
              refine AllReadyH.cons rfl (fun K hK => ?_) AllReadyH.nil
              simp only [List.getElem_toArray, List.getElem_cons_zero, List.getElem_cons_succ]
              rw [if_pos (by rfl)]
              refine slice_tl ⟨7, ⟨z.toArray⟩⟩ rfl rfl (fun w9 HG9 b9 hlt9 => ?_)
              have HV9 := HV8.kept b9
              have HA9 := HA8.kept b9
              have HO9 := HO8.kept b9
              have B9 := B8.trans (b9.mono B8.size)
              have B9x := Nat.le_trans B8x b9.size
              refine hK.out _ _ ?_ (fun hHeld => ?_)
              · exact HV9
              clear hK K
              (try simp only [Act.put, List.getElem_toArray, List.getElem_cons_zero, List.getElem_cons_succ, List.setIfInBounds_toArray, List.set_cons_zero, List.set_cons_succ])
              refine wpAnyH_ready (rs := [10]) (by kernel_rfl) (by simp) ?_
              refine AllReadyH.cons rfl (fun K hK => ?_) AllReadyH.nil
              simp only [List.getElem_toArray, List.getElem_cons_zero, List.getElem_cons_succ]
              rw [if_pos (by rfl)]
              refine append_tl ⟨7, ⟨z.toArray⟩⟩ rfl rfl rfl HO9 HG9 (by have := hml.out; omega) B9x (fun vz wz HOz bz gz => ?_)
              have HVz := KeepL.row HO9 gz _ _ _ HV9 (by decide) (by decide)
              have HAz := HA9.below bz (Nat.lt_succ_self _)
              have Bz := B9.trans (bz.mono (Nat.le_succ _))
              have Bzx := Nat.le_trans B9x bz.size
              refine hK.out _ _ ?_ (fun hHeld => ?_)
              · exact HVz
              clear hK K
              (try simp only [Act.put, List.getElem_toArray, List.getElem_cons_zero, List.getElem_cons_succ, List.setIfInBounds_toArray, List.set_cons_zero, List.set_cons_succ])
              refine wpAnyH_take (i := 11) (v := ?_) rfl (by kernel_rfl) (by kernel_rfl) (by kernel_rfl) (fun _ _ _ h => h) (Or.inl ⟨by rfl, ?_⟩) (by assumption) ?_
              rotate_left
              · (intro w hSw; (try dsimp only at hSw); go_simp; (try with_reducible rfl))
              (try simp only [Act.put, List.getElem_toArray, List.getElem_cons_zero, List.getElem_cons_succ, List.setIfInBounds_toArray, List.set_cons_zero, List.set_cons_succ])
              refine wpAnyH_done (by kernel_rfl) ?_ _
              refine NoPanic.normal ?_
              go_wp2
              go_roundw
              case rel => exact ⟨j + 1, _, rfl, by omega, by go_num, by rw [HBN.out], by
                rw [HT.out, ← List.append_assoc, HMM.out]
                exact HOz, HAz, Bz, Bzx⟩
              case measure => simp [intOf]; omega
          · obtain rfl : j = ca.length := by omega
            have q2 : decide ((ca.length : Int) < (ca.length : Int)) = false := decide_eq_false (by omega)
            rw [List.take_length] at hAj ⊢
            have hB4 : Hid ((b3 && ca.all okCpR) = (b3 && ca.all okCpR)) := rfl
            have hl4 : (L3 ++ ca.map cpT).length = L3.length + ca.length := by rw [List.length_append, List.length_map]
            generalize hb4 : (b3 && ca.all okCpR) = b4 at *
            replace hB4 := Lib.hid hb4
            generalize hL4 : L3 ++ ca.map cpT = L4 at *
            have hA4 := Lib.hid hL4
            have hAk := hAj
            have HAk := HAj
            have Bk := Bj
            have Bkx := Bjx
            clear hb4 hL4 hAj HAj Bj Bjx hlt hj
            have cz := HAk.cv 9 (.slice qm ma.length qmc) rfl
            go_wp2_with fail
            go_loopw [4, 5, 135] (fun okv v i wz => ∃ (j : Nat) (v2 : Value), v2 = v ∧ j ≤ ma.length ∧ i = .int .i64 j ∧ okv = .bool (b4 && (ma.take j).all okMgR) ∧ OwnTl wz (w.heap.size + 1) v (L4 ++ (ma.take j).map mgT) ∧ Blk wz w.heap.size 54 (ldC ⟨ch, po, tt, de, ho, sy, ca, ma, og⟩ ⟨(qd, qdc), (qh, qhc), (qs, qsc), (qc, qcc), (qm, qmc), (qo, qoc)⟩) ∧ Below w.heap.size w wz ∧ w.heap.size + 1 ≤ wz.heap.size) (fun _ _ i _ => ma.length - (intOf i).toNat)
            case atStart => exact ⟨0, _, rfl, by omega, rfl, by rw [List.take_zero]; simp, by rw [List.take_zero, List.map_nil, List.append_nil]; exact hAk, HAk, Bk, Bkx⟩
            case round =>
              clear hAk HAk Bk Bkx cz
              obtain ⟨j, v2, rfl, hj, rfl, rfl, hAj, HAj, Bj, Bjx⟩ := hrel
              by_cases hlt : j < ma.length
              · have hIj := i5.below Bj
                obtain ⟨b, lo, rfl, hbl, hat⟩ := hIj.at hlt
                have q1 : (j : Int) < (ma.length : Int) := by omega
                have q2 : decide ((j : Int) < (ma.length : Int)) = true := decide_eq_true q1
                have q3 : (0 : Int) ≤ (j : Int) := by omega
                have HKc := hat j hlt
                have HT := Lib.hid (map_take1 mgT ma j hlt)
                have hsn : ma.take (j + 1) = ma.take j ++ [ma[j]] := by rw [List.take_add_one, List.getElem?_eq_getElem hlt]; rfl
                have HS : Hid (∀ r, (b4 && (ma.take j).all okMgR) = r → (b4 && (ma.take (j + 1)).all okMgR) = (r && okMgR ma[j])) := fun r hr => by
                  rw [hsn, List.all_append, ← Bool.and_assoc, hr]
                  simp
                have hml : Hid ((L4 ++ (ma.take j).map mgT).length ≤ 2000) := by
                  show _ ≤ _
                  rw [List.length_append, List.length_map, List.length_take]
                  omega
                have HV4 := Blk.new wr 114 (mgC zMg)
                have B4 : Below wr.heap.size wr (wr.alloc (.cells (mgC zMg) 114)) := (Below.refl _ _).alloc (Nat.le_refl _) _
                have hPj := P8.out j hlt
                generalize ma[j] = y at *
                generalize hbj : (b4 && (ma.take j).all okMgR) = bj at *
                generalize hmm : L4 ++ (ma.take j).map mgT = mm at *
                have HMM := Lib.hid hmm
                replace HS := Lib.hid (HS.out bj rfl)
                clear hbj hmm hsn hat hIj
                go_upto_region 23 with (first
                  | (refine load_cells (B := b) (k := lo + j * 5) 114 (mgC y) (by rfl) rfl rfl HKc (by kernel_rfl) (by kernel_rfl) ?_)
                  | (refine alloc_blk 114 (mgC zMg) (by rfl) rfl Tryd.mgZero ?_)
                  | (refine store_blk (k := 0) 114 (.agg (mgC y)) (mgC y) (by rfl) rfl rfl rfl HV4 (by kernel_rfl) (show (5 : Nat) ≤ 5 from Nat.le_refl 5) (by rfl) (st_whole _ _ rfl) ?_; intro w5 HV5 b5 g5))
                have b5' := B4.trans b5
                have HA5 := HAj.kept b5'
                have HO5 := hAj.kept b5'
                have B5 := Bj.trans (b5'.mono Bj.size)
                have B5x := Nat.le_trans Bjx b5'.size
                clear HV4 B4 b5 g5 b5' HKc HAj hAj Bj Bjx
                generalize wr.heap.size = V at *
                (try simp only [Act.put, List.setIfInBounds_toArray, List.set_cons_zero, List.set_cons_succ])
                go_cut [4] from 139 to 143 (fun v3 wx => v3 = .bool (bj && okMgR y) ∧ Blk wx V 114 (mgC y) ∧ OwnTl wx (w.heap.size + 1) v2 mm ∧ Blk wx w.heap.size 54 (ldC ⟨ch, po, tt, de, ho, sy, ca, ma, og⟩ ⟨(qd, qdc), (qh, qhc), (qs, qsc), (qc, qcc), ((some ⟨b, lo, none⟩ : Option Addr), qmc), (qo, qoc)⟩) ∧ Below w.heap.size w wx ∧ w.heap.size + 1 ≤ wx.heap.size)
                case first =>
                  have HR := Lib.hid (fun W => manageRight_any y W)
                  obtain ⟨dk, hdk⟩ : ∃ dk, okMgR y = dk := ⟨_, rfl⟩
                  rw [hdk] at HR
                  have HDK := Lib.hid hdk
                  clear HS HT hdk
                  cases bj with
                  | false =>
                    go_wp2_with fail
                    go_meet
                    exact ⟨rfl, HV5, HO5, HA5, B5, B5x⟩
                  | true =>
                    go_wp2_with (refine load_blk (k := 0) 114 (mgC y) (by rfl) rfl rfl HV5 (by kernel_rfl) (by kernel_rfl) rfl ?_)
                    refine (HR.out _).mono ?_
                    rintro e w6 ⟨rfl, b6⟩
                    go_wp2_with fail
                    go_meet
                    exact ⟨by rw [HDK.out]; rfl, HV5.kept b6, HO5.kept b6, HA5.kept b6, B5.trans (b6.mono B5.size), Nat.le_trans B5x b6.size⟩
                case rest =>
                  obtain ⟨rfl, HV6, HO6, HA6, B6, B6x⟩ := hcut
                  clear HV5 HO5 HA5 B5 B5x
                  rw [← HS.out]
                  generalize hbn : (b4 && (ma.take (j + 1)).all okMgR) = bn at *
                  have HBN := Lib.hid hbn
                  clear hbn
                  have HM0 := Lib.hid (fun W => be_1 ((y.ai.size : Int) + 1) W)
                  have HM1 := Lib.hid (fun W => be_1 y.as W)
                  have HM2 := Lib.hid (fun W => be_1 y.fs W)
                  have HM3 := Lib.hid (fun W => be_4 y.fi W)
                  have HM4 := Lib.hid (fun W => be_1 (y.oid.size : Int) W)
                  have HY : Hid (mgT y = ⟨8, ⟨(mgR y).toArray⟩⟩) := rfl
                  have hp1 := hPj.1
                  have hp2 := hPj.2
                  have qw : IntKind.i64.wrap ((y.ai.size : Int) + 1) = (y.ai.size : Int) + 1 := by rw [IntKind.wrap_i64] <;> omega
                  have p1 : ∀ W, (Op.stringOp .add ⟨(beI ((y.ai.size : Int) + 1) 1).toArray⟩ ⟨(beI y.as 1).toArray⟩).run Tryd.prog W = .ok (.string ⟨(mgR1 y).toArray⟩) W := fun W => run_string_add_lists W _ _ (by rw [beI_len]; omega) (by rw [beI_len]; omega)
                  have p2 : ∀ W, (Op.stringOp .add ⟨(mgR1 y).toArray⟩ y.ai).run Tryd.prog W = .ok (.string ⟨(mgR2 y).toArray⟩) W := fun W => run_string_add_lists W (mgR1 y) y.ai.data.toList (by rw [mgR1_len]; omega) (by simp; omega)
                  have p3 : ∀ W, (Op.stringOp .add ⟨(mgR2 y).toArray⟩ ⟨(beI y.fs 1).toArray⟩).run Tryd.prog W = .ok (.string ⟨(mgR3 y).toArray⟩) W := fun W => run_string_add_lists W _ _ (by rw [mgR2_len]; omega) (by rw [beI_len]; omega)
                  have p4 : ∀ W, (Op.stringOp .add ⟨(mgR3 y).toArray⟩ ⟨(beI y.fi 4).toArray⟩).run Tryd.prog W = .ok (.string ⟨(mgR4 y).toArray⟩) W := fun W => run_string_add_lists W _ _ (by rw [mgR3_len]; omega) (by rw [beI_len]; omega)
                  have p5 : ∀ W, (Op.stringOp .add ⟨(mgR4 y).toArray⟩ ⟨(beI (y.oid.size : Int) 1).toArray⟩).run Tryd.prog W = .ok (.string ⟨(mgR5 y).toArray⟩) W := fun W => run_string_add_lists W _ _ (by rw [mgR4_len]; omega) (by rw [beI_len]; omega)
                  have p6 : ∀ W, (Op.stringOp .add ⟨(mgR5 y).toArray⟩ y.oid).run Tryd.prog W = .ok (.string ⟨(mgR y).toArray⟩) W := fun W => run_string_add_lists W (mgR5 y) y.oid.data.toList (by rw [mgR5_len]; omega) (by simp; omega)
                  rw [HY.out] at HT
                  generalize beI ((y.ai.size : Int) + 1) 1 = y0 at *
                  generalize beI y.as 1 = y1 at *
                  generalize beI y.fs 1 = y2 at *
                  generalize beI y.fi 4 = y3 at *
                  generalize beI (y.oid.size : Int) 1 = y4 at *
                  generalize mgR1 y = z1 at *
                  generalize mgR2 y = z2 at *
                  generalize mgR3 y = z3 at *
                  generalize mgR4 y = z4 at *
                  generalize mgR5 y = z5 at *
                  generalize mgR y = z at *
                  clear HY hp1 hp2 hPj
                  go_upto_region 24 with (fail)
                  refine wp_region_noPanic ?_
                  refine wp_region_held_drew (S := (fun w' => Blk w' V 114 (mgC y))) (by kernel_rfl) ?_ (fun hHeld => ?_)
                  · exact HV6.drew
                  refine wpAnyH_take (i := 0) (v := ?_) rfl (by kernel_rfl) (by kernel_rfl) (by kernel_rfl) (fun _ _ _ h => h) (Or.inl ⟨by rfl, ?_⟩) (by assumption) ?_
                  rotate_left
                  · (intro w hSw; (try dsimp only at hSw); go_simp; (try with_reducible rfl))
                  (try simp only [Act.put, List.getElem_toArray, List.getElem_cons_zero, List.getElem_cons_succ, List.setIfInBounds_toArray, List.set_cons_zero, List.set_cons_succ])
                  refine wpAnyH_take (i := 1) (v := ?_) rfl (by kernel_rfl) (by kernel_rfl) (by kernel_rfl) (fun _ _ _ h => h) (Or.inl ⟨by rfl, ?_⟩) (by assumption) ?_
                  rotate_left
                  · (intro w hSw; (try dsimp only at hSw); go_simp; (try with_reducible rfl))
                  (try simp only [Act.put, List.getElem_toArray, List.getElem_cons_zero, List.getElem_cons_succ, List.setIfInBounds_toArray, List.set_cons_zero, List.set_cons_succ])
                  refine wpAnyH_take (i := 2) (v := ?_) rfl (by kernel_rfl) (by kernel_rfl) (by kernel_rfl) (fun _ _ _ h => h) (Or.inl ⟨by rfl, ?_⟩) (by assumption) ?_
                  rotate_left
                  · (intro w hSw; (try dsimp only at hSw); go_simp; (try with_reducible rfl))
                  (try simp only [Act.put, List.getElem_toArray, List.getElem_cons_zero, List.getElem_cons_succ, List.setIfInBounds_toArray, List.set_cons_zero, List.set_cons_succ])
                  refine wpAnyH_take (i := 3) (v := .string y.ai) rfl (by kernel_rfl) (by kernel_rfl) (by kernel_rfl) (fun _ _ _ h => h) (Or.inl ⟨by rfl, fun w hSw => by have c := hSw.cv 1 (.string y.ai) rfl; go_simp⟩) (by assumption) ?_
                  (try simp only [Act.put, List.getElem_toArray, List.getElem_cons_zero, List.getElem_cons_succ, List.setIfInBounds_toArray, List.set_cons_zero, List.set_cons_succ])
                  refine wpAnyH_take (i := 4) (v := ?_) rfl (by kernel_rfl) (by kernel_rfl) (by kernel_rfl) (fun _ _ _ h => h) (Or.inl ⟨by rfl, ?_⟩) (by assumption) ?_
                  rotate_left
                  · (intro w hSw; (try dsimp only at hSw); go_simp; (try with_reducible rfl))
                  (try simp only [Act.put, List.getElem_toArray, List.getElem_cons_zero, List.getElem_cons_succ, List.setIfInBounds_toArray, List.set_cons_zero, List.set_cons_succ])
                  refine wpAnyH_take (i := 5) (v := ?_) rfl (by kernel_rfl) (by kernel_rfl) (by kernel_rfl) (fun _ _ _ h => h) (Or.inl ⟨by rfl, ?_⟩) (by assumption) ?_
                  rotate_left
                  · (intro w hSw; (try dsimp only at hSw); go_simp; (try with_reducible rfl))
                  (try simp only [Act.put, List.getElem_toArray, List.getElem_cons_zero, List.getElem_cons_succ, List.setIfInBounds_toArray, List.set_cons_zero, List.set_cons_succ])
                  refine wpAnyH_take (i := 7) (v := ?_) rfl (by kernel_rfl) (by kernel_rfl) (by kernel_rfl) (fun _ _ _ h => h) (Or.inl ⟨by rfl, ?_⟩) (by assumption) ?_
                  rotate_left
                  · (intro w hSw; (try dsimp only at hSw); go_simp; (try with_reducible rfl))
                  (try simp only [Act.put, List.getElem_toArray, List.getElem_cons_zero, List.getElem_cons_succ, List.setIfInBounds_toArray, List.set_cons_zero, List.set_cons_succ])
                  refine wpAnyH_take (i := 8) (v := ?_) rfl (by kernel_rfl) (by kernel_rfl) (by kernel_rfl) (fun _ _ _ h => h) (Or.inl ⟨by rfl, ?_⟩) (by assumption) ?_
                  rotate_left
                  · (intro w hSw; (try dsimp only at hSw); go_simp; (try with_reducible rfl))
                  (try simp only [Act.put, List.getElem_toArray, List.getElem_cons_zero, List.getElem_cons_succ, List.setIfInBounds_toArray, List.set_cons_zero, List.set_cons_succ])
                  refine wpAnyH_take (i := 9) (v := .int .i64 y.as) rfl (by kernel_rfl) (by kernel_rfl) (by kernel_rfl) (fun _ _ _ h => h) (Or.inl ⟨by rfl, fun w hSw => by have c := hSw.cv 0 (.int .i64 y.as) rfl; go_simp⟩) (by assumption) ?_
                  (try simp only [Act.put, List.getElem_toArray, List.getElem_cons_zero, List.getElem_cons_succ, List.setIfInBounds_toArray, List.set_cons_zero, List.set_cons_succ])
                  refine wpAnyH_take (i := 12) (v := ?_) rfl (by kernel_rfl) (by kernel_rfl) (by kernel_rfl) (fun _ _ _ h => h) (Or.inl ⟨by rfl, ?_⟩) (by assumption) ?_
                  rotate_left
                  · (intro w hSw; (try dsimp only at hSw); go_simp; (try with_reducible rfl))
                  (try simp only [Act.put, List.getElem_toArray, List.getElem_cons_zero, List.getElem_cons_succ, List.setIfInBounds_toArray, List.set_cons_zero, List.set_cons_succ])
                  refine wpAnyH_take (i := 13) (v := ?_) rfl (by kernel_rfl) (by kernel_rfl) (by kernel_rfl) (fun _ _ _ h => h) (Or.inl ⟨by rfl, ?_⟩) (by assumption) ?_
                  rotate_left
                  · (intro w hSw; (try dsimp only at hSw); go_simp; (try with_reducible rfl))
                  (try simp only [Act.put, List.getElem_toArray, List.getElem_cons_zero, List.getElem_cons_succ, List.setIfInBounds_toArray, List.set_cons_zero, List.set_cons_succ])
                  refine wpAnyH_take (i := 14) (v := .string y.ai) rfl (by kernel_rfl) (by kernel_rfl) (by kernel_rfl) (fun _ _ _ h => h) (Or.inl ⟨by rfl, fun w hSw => by have c := hSw.cv 1 (.string y.ai) rfl; go_simp⟩) (by assumption) ?_
                  (try simp only [Act.put, List.getElem_toArray, List.getElem_cons_zero, List.getElem_cons_succ, List.setIfInBounds_toArray, List.set_cons_zero, List.set_cons_succ])
                  refine wpAnyH_take (i := 16) (v := ?_) rfl (by kernel_rfl) (by kernel_rfl) (by kernel_rfl) (fun _ _ _ h => h) (Or.inl ⟨by rfl, ?_⟩) (by assumption) ?_
                  rotate_left
                  · (intro w hSw; (try dsimp only at hSw); go_simp; (try with_reducible rfl))
                  (try simp only [Act.put, List.getElem_toArray, List.getElem_cons_zero, List.getElem_cons_succ, List.setIfInBounds_toArray, List.set_cons_zero, List.set_cons_succ])
                  refine wpAnyH_take (i := 17) (v := .int .i64 y.fs) rfl (by kernel_rfl) (by kernel_rfl) (by kernel_rfl) (fun _ _ _ h => h) (Or.inl ⟨by rfl, fun w hSw => by have c := hSw.cv 2 (.int .i64 y.fs) rfl; go_simp⟩) (by assumption) ?_
                  (try simp only [Act.put, List.getElem_toArray, List.getElem_cons_zero, List.getElem_cons_succ, List.setIfInBounds_toArray, List.set_cons_zero, List.set_cons_succ])
                  refine wpAnyH_take (i := 20) (v := ?_) rfl (by kernel_rfl) (by kernel_rfl) (by kernel_rfl) (fun _ _ _ h => h) (Or.inl ⟨by rfl, ?_⟩) (by assumption) ?_
                  rotate_left
                  · (intro w hSw; (try dsimp only at hSw); go_simp; (try with_reducible rfl))
                  (try simp only [Act.put, List.getElem_toArray, List.getElem_cons_zero, List.getElem_cons_succ, List.setIfInBounds_toArray, List.set_cons_zero, List.set_cons_succ])
                  refine wpAnyH_take (i := 21) (v := .int .i64 y.fi) rfl (by kernel_rfl) (by kernel_rfl) (by kernel_rfl) (fun _ _ _ h => h) (Or.inl ⟨by rfl, fun w hSw => by have c := hSw.cv 3 (.int .i64 y.fi) rfl; go_simp⟩) (by assumption) ?_
                  (try simp only [Act.put, List.getElem_toArray, List.getElem_cons_zero, List.getElem_cons_succ, List.setIfInBounds_toArray, List.set_cons_zero, List.set_cons_succ])
                  refine wpAnyH_take (i := 24) (v := ?_) rfl (by kernel_rfl) (by kernel_rfl) (by kernel_rfl) (fun _ _ _ h => h) (Or.inl ⟨by rfl, ?_⟩) (by assumption) ?_
                  rotate_left
                  · (intro w hSw; (try dsimp only at hSw); go_simp; (try with_reducible rfl))
                  (try simp only [Act.put, List.getElem_toArray, List.getElem_cons_zero, List.getElem_cons_succ, List.setIfInBounds_toArray, List.set_cons_zero, List.set_cons_succ])
                  refine wpAnyH_take (i := 25) (v := .string y.oid) rfl (by kernel_rfl) (by kernel_rfl) (by kernel_rfl) (fun _ _ _ h => h) (Or.inl ⟨by rfl, fun w hSw => by have c := hSw.cv 4 (.string y.oid) rfl; go_simp⟩) (by assumption) ?_
                  (try simp only [Act.put, List.getElem_toArray, List.getElem_cons_zero, List.getElem_cons_succ, List.setIfInBounds_toArray, List.set_cons_zero, List.set_cons_succ])
                  refine wpAnyH_take (i := 26) (v := ?_) rfl (by kernel_rfl) (by kernel_rfl) (by kernel_rfl) (fun _ _ _ h => h) (Or.inl ⟨by rfl, ?_⟩) (by assumption) ?_
                  rotate_left
                  · (intro w hSw; (try dsimp only at hSw); go_simp; (try with_reducible rfl))
                  (try simp only [Act.put, List.getElem_toArray, List.getElem_cons_zero, List.getElem_cons_succ, List.setIfInBounds_toArray, List.set_cons_zero, List.set_cons_succ])
                  refine wpAnyH_take (i := 29) (v := ?_) rfl (by kernel_rfl) (by kernel_rfl) (by kernel_rfl) (fun _ _ _ h => h) (Or.inl ⟨by rfl, ?_⟩) (by assumption) ?_
                  rotate_left
                  · (intro w hSw; (try dsimp only at hSw); go_simp; (try with_reducible rfl))
                  (try simp only [Act.put, List.getElem_toArray, List.getElem_cons_zero, List.getElem_cons_succ, List.setIfInBounds_toArray, List.set_cons_zero, List.set_cons_succ])
                  refine wpAnyH_take (i := 30) (v := .string y.oid) rfl (by kernel_rfl) (by kernel_rfl) (by kernel_rfl) (fun _ _ _ h => h) (Or.inl ⟨by rfl, fun w hSw => by have c := hSw.cv 4 (.string y.oid) rfl; go_simp⟩) (by assumption) ?_
                  (try simp only [Act.put, List.getElem_toArray, List.getElem_cons_zero, List.getElem_cons_succ, List.setIfInBounds_toArray, List.set_cons_zero, List.set_cons_succ])
                  refine wpAnyH_ready (rs := [6]) (by kernel_rfl) (by simp) ?_
                  refine AllReadyH.cons rfl (fun K hK => ?_) AllReadyH.nil
                  simp only [List.getElem_toArray, List.getElem_cons_zero, List.getElem_cons_succ]
                  go_simp
                  go_at_call 35; (with_reducible refine (HM0.out _).mono ?_); rintro e w7 ⟨rfl, b7⟩; have HV7 := HV6.drew.kept b7; have HA7 := HA6.drew.kept b7; have HO7 := (show OwnTl wc.drew (w.heap.size + 1) v2 mm from HO6).kept b7; have B7 := B6.drew.trans (b7.mono B6.drew.size); have B7x := Nat.le_trans (show w.heap.size + 1 ≤ wc.heap.size from B6x) b7.size
                  refine hK.out _ _ ?_ (fun hHeld => ?_)
                  · exact HV7
                  clear hK K
                  (try simp only [Act.put, List.getElem_toArray, List.getElem_cons_zero, List.getElem_cons_succ, List.setIfInBounds_toArray, List.set_cons_zero, List.set_cons_succ])
                  refine wpAnyH_ready (rs := [10]) (by kernel_rfl) (by simp) ?_
                  refine AllReadyH.cons rfl (fun K hK => ?_) AllReadyH.nil
                  simp only [List.getElem_toArray, List.getElem_cons_zero, List.getElem_cons_succ]
                  go_simp
                  go_at_call 35; (with_reducible refine (HM1.out _).mono ?_); rintro e w8 ⟨rfl, b8⟩; have HV8 := HV7.kept b8; have HA8 := HA7.kept b8; have HO8 := HO7.kept b8; have B8 := B7.trans (b8.mono B7.size); have B8x := Nat.le_trans (show w.heap.size + 1 ≤ w7.heap.size from B7x) b8.size
                  refine hK.out _ _ ?_ (fun hHeld => ?_)
                  · exact HV8
                  clear hK K
                  (try simp only [Act.put, List.getElem_toArray, List.getElem_cons_zero, List.getElem_cons_succ, List.setIfInBounds_toArray, List.set_cons_zero, List.set_cons_succ])
                  refine wpAnyH_take (i := 11) (v := .string ⟨z1.toArray⟩) rfl (by kernel_rfl) (by kernel_rfl) (by kernel_rfl) (fun _ _ _ h => h) (Or.inl ⟨by rfl, fun w hSw => by go_simp⟩) (by assumption) ?_
                  (try simp only [Act.put, List.getElem_toArray, List.getElem_cons_zero, List.getElem_cons_succ, List.setIfInBounds_toArray, List.set_cons_zero, List.set_cons_succ])
                  refine wpAnyH_take (i := 15) (v := .string ⟨z2.toArray⟩) rfl (by kernel_rfl) (by kernel_rfl) (by kernel_rfl) (fun _ _ _ h => h) (Or.inl ⟨by rfl, fun w hSw => by go_simp⟩) (by assumption) ?_
                  (try simp only [Act.put, List.getElem_toArray, List.getElem_cons_zero, List.getElem_cons_succ, List.setIfInBounds_toArray, List.set_cons_zero, List.set_cons_succ])
                  refine wpAnyH_ready (rs := [18]) (by kernel_rfl) (by simp) ?_
                  refine AllReadyH.cons rfl (fun K hK => ?_) AllReadyH.nil
                  simp only [List.getElem_toArray, List.getElem_cons_zero, List.getElem_cons_succ]
                  go_simp
                  go_at_call 35; (with_reducible refine (HM2.out _).mono ?_); rintro e w9 ⟨rfl, b9⟩; have HV9 := HV8.kept b9; have HA9 := HA8.kept b9; have HO9 := HO8.kept b9; have B9 := B8.trans (b9.mono B8.size); have B9x := Nat.le_trans (show w.heap.size + 1 ≤ w8.heap.size from B8x) b9.size
                  refine hK.out _ _ ?_ (fun hHeld => ?_)
                  · exact HV9
                  clear hK K
                  (try simp only [Act.put, List.getElem_toArray, List.getElem_cons_zero, List.getElem_cons_succ, List.setIfInBounds_toArray, List.set_cons_zero, List.set_cons_succ])
                  refine wpAnyH_take (i := 19) (v := .string ⟨z3.toArray⟩) rfl (by kernel_rfl) (by kernel_rfl) (by kernel_rfl) (fun _ _ _ h => h) (Or.inl ⟨by rfl, fun w hSw => by go_simp⟩) (by assumption) ?_
                  (try simp only [Act.put, List.getElem_toArray, List.getElem_cons_zero, List.getElem_cons_succ, List.setIfInBounds_toArray, List.set_cons_zero, List.set_cons_succ])
                  refine wpAnyH_ready (rs := [22]) (by kernel_rfl) (by simp) ?_
                  refine AllReadyH.cons rfl (fun K hK => ?_) AllReadyH.nil
                  simp only [List.getElem_toArray, List.getElem_cons_zero, List.getElem_cons_succ]
                  go_simp
                  go_at_call 35; (with_reducible refine (HM3.out _).mono ?_); rintro e w10 ⟨rfl, b10⟩; have HV10 := HV9.kept b10; have HA10 := HA9.kept b10; have HO10 := HO9.kept b10; have B10 := B9.trans (b10.mono B9.size); have B10x := Nat.le_trans (show w.heap.size + 1 ≤ w9.heap.size from B9x) b10.size
                  refine hK.out _ _ ?_ (fun hHeld => ?_)
                  · exact HV10
                  clear hK K
                  (try simp only [Act.put, List.getElem_toArray, List.getElem_cons_zero, List.getElem_cons_succ, List.setIfInBounds_toArray, List.set_cons_zero, List.set_cons_succ])
                  refine wpAnyH_take (i := 23) (v := .string ⟨z4.toArray⟩) rfl (by kernel_rfl) (by kernel_rfl) (by kernel_rfl) (fun _ _ _ h => h) (Or.inl ⟨by rfl, fun w hSw => by go_simp⟩) (by assumption) ?_
                  (try simp only [Act.put, List.getElem_toArray, List.getElem_cons_zero, List.getElem_cons_succ, List.setIfInBounds_toArray, List.set_cons_zero, List.set_cons_succ])
                  refine wpAnyH_ready (rs := [27]) (by kernel_rfl) (by simp) ?_
                  refine AllReadyH.cons rfl (fun K hK => ?_) AllReadyH.nil
                  simp only [List.getElem_toArray, List.getElem_cons_zero, List.getElem_cons_succ]
                  go_simp
                  go_at_call 35; (with_reducible refine (HM4.out _).mono ?_); rintro e w11 ⟨rfl, b11⟩; have HV11 := HV10.kept b11; have HA11 := HA10.kept b11; have HO11 := HO10.kept b11; have B11 := B10.trans (b11.mono B10.size); have B11x := Nat.le_trans (show w.heap.size + 1 ≤ w10.heap.size from B10x) b11.size
                  refine hK.out _ _ ?_ (fun hHeld => ?_)
                  · exact HV11
                  clear hK K
                  (try simp only [Act.put, List.getElem_toArray, List.getElem_cons_zero, List.getElem_cons_succ, List.setIfInBounds_toArray, List.set_cons_zero, List.set_cons_succ])
                  refine wpAnyH_take (i := 28) (v := .string ⟨z5.toArray⟩) rfl (by kernel_rfl) (by kernel_rfl) (by kernel_rfl) (fun _ _ _ h => h) (Or.inl ⟨by rfl, fun w hSw => by go_simp⟩) (by assumption) ?_
                  (try simp only [Act.put, List.getElem_toArray, List.getElem_cons_zero, List.getElem_cons_succ, List.setIfInBounds_toArray, List.set_cons_zero, List.set_cons_succ])
                  refine wpAnyH_take (i := 31) (v := .string ⟨z.toArray⟩) rfl (by kernel_rfl) (by kernel_rfl) (by kernel_rfl) (fun _ _ _ h => h) (Or.inl ⟨by rfl, fun w hSw => by go_simp⟩) (by assumption) ?_
                  (try simp only [Act.put, List.getElem_toArray, List.getElem_cons_zero, List.getElem_cons_succ, List.setIfInBounds_toArray, List.set_cons_zero, List.set_cons_succ])
                  refine wpAnyH_take (i := 32) (v := .agg (tlC ⟨8, ⟨z.toArray⟩⟩)) rfl (by kernel_rfl) (by kernel_rfl) (by kernel_rfl) (fun _ _ _ h => h) (Or.inl ⟨by rfl, fun w hSw => exec_build_blkL (t := 24) (tlC ⟨8, ⟨z.toArray⟩⟩) rfl (by kernel_rfl)⟩) (by assumption) ?_
                  (try simp only [Act.put, List.getElem_toArray, List.getElem_cons_zero, List.getElem_cons_succ, List.setIfInBounds_toArray, List.set_cons_zero, List.set_cons_succ])
                  refine wpAnyH_ready (rs := [33]) (by kernel_rfl) (by simp) ?_
                  refine AllReadyH.cons rfl (fun K hK => ?_) AllReadyH.nil
                  simp only [List.getElem_toArray, List.getElem_cons_zero, List.getElem_cons_succ]
                  rw [if_pos (by rfl)]
                  refine slice_tl ⟨8, ⟨z.toArray⟩⟩ rfl rfl (fun w12 HG12 b12 hlt12 => ?_)
                  have HV12 := HV11.kept b12
                  have HA12 := HA11.kept b12
                  have HO12 := HO11.kept b12
                  have B12 := B11.trans (b12.mono B11.size)
                  have B12x := Nat.le_trans B11x b12.size
                  refine hK.out _ _ ?_ (fun hHeld => ?_)
                  · exact HV12
                  clear hK K
                  (try simp only [Act.put, List.getElem_toArray, List.getElem_cons_zero, List.getElem_cons_succ, List.setIfInBounds_toArray, List.set_cons_zero, List.set_cons_succ])
                  refine wpAnyH_ready (rs := [34]) (by kernel_rfl) (by simp) ?_
                  refine AllReadyH.cons rfl (fun K hK => ?_) AllReadyH.nil
                  simp only [List.getElem_toArray, List.getElem_cons_zero, List.getElem_cons_succ]
                  rw [if_pos (by rfl)]
                  refine append_tl ⟨8, ⟨z.toArray⟩⟩ rfl rfl rfl HO12 HG12 (by have := hml.out; omega) B12x (fun vz wz HOz bz gz => ?_)
                  have HVz := KeepL.row HO12 gz _ _ _ HV12 (by decide) (by decide)
                  have HAz := HA12.below bz (Nat.lt_succ_self _)
                  have Bz := B12.trans (bz.mono (Nat.le_succ _))
                  have Bzx := Nat.le_trans B12x bz.size
                  refine hK.out _ _ ?_ (fun hHeld => ?_)
                  · exact HVz
                  clear hK K
                  (try simp only [Act.put, List.getElem_toArray, List.getElem_cons_zero, List.getElem_cons_succ, List.setIfInBounds_toArray, List.set_cons_zero, List.set_cons_succ])
                  refine wpAnyH_take (i := 35) (v := ?_) rfl (by kernel_rfl) (by kernel_rfl) (by kernel_rfl) (fun _ _ _ h => h) (Or.inl ⟨by rfl, ?_⟩) (by assumption) ?_
                  rotate_left
                  · (intro w hSw; (try dsimp only at hSw); go_simp; (try with_reducible rfl))
                  (try simp only [Act.put, List.getElem_toArray, List.getElem_cons_zero, List.getElem_cons_succ, List.setIfInBounds_toArray, List.set_cons_zero, List.set_cons_succ])
                  refine wpAnyH_done (by kernel_rfl) ?_ _
                  refine NoPanic.normal ?_
                  go_wp2
                  go_roundw
                  case rel => exact ⟨j + 1, _, rfl, by omega, by go_num, by rw [HBN.out], by
                    rw [HT.out, ← List.append_assoc, HMM.out]
                    exact HOz, HAz, Bz, Bzx⟩
                  case measure => simp [intOf]; omega
              · obtain rfl : j = ma.length := by omega
                have q2 : decide ((ma.length : Int) < (ma.length : Int)) = false := decide_eq_false (by omega)
                rw [List.take_length] at hAj ⊢
                have hB5 : Hid ((b4 && ma.all okMgR) = (b4 && ma.all okMgR)) := rfl
                have hl5 : (L4 ++ ma.map mgT).length = L4.length + ma.length := by rw [List.length_append, List.length_map]
                generalize hb5 : (b4 && ma.all okMgR) = b5 at *
                replace hB5 := Lib.hid hb5
                generalize hL5 : L4 ++ ma.map mgT = L5 at *
                have hA5 := Lib.hid hL5
                have hAk := hAj
                have HAk := HAj
                have Bk := Bj
                have Bkx := Bjx
                clear hb5 hL5 hAj HAj Bj Bjx hlt hj
                have cz := HAk.cv 10 (.slice qo og.length qoc) rfl
                go_wp2_with fail
                go_loopw [4, 5, 183] (fun okv v i wz => ∃ (j : Nat) (v2 : Value), v2 = v ∧ j ≤ og.length ∧ i = .int .i64 j ∧ okv = .bool (b5 && (og.take j).all okOgR) ∧ OwnTl wz (w.heap.size + 1) v (L5 ++ (og.take j).map ogT) ∧ Blk wz w.heap.size 54 (ldC ⟨ch, po, tt, de, ho, sy, ca, ma, og⟩ ⟨(qd, qdc), (qh, qhc), (qs, qsc), (qc, qcc), (qm, qmc), (qo, qoc)⟩) ∧ Below w.heap.size w wz ∧ w.heap.size + 1 ≤ wz.heap.size) (fun _ _ i _ => og.length - (intOf i).toNat)
                case atStart => exact ⟨0, _, rfl, by omega, rfl, by rw [List.take_zero]; simp, by rw [List.take_zero, List.map_nil, List.append_nil]; exact hAk, HAk, Bk, Bkx⟩
                case round =>
                  clear hAk HAk Bk Bkx cz
                  obtain ⟨j, v2, rfl, hj, rfl, rfl, hAj, HAj, Bj, Bjx⟩ := hrel
                  by_cases hlt : j < og.length
                  · have hIj := i6.below Bj
                    obtain ⟨b, lo, rfl, hbl, hat⟩ := hIj.at hlt
                    have q1 : (j : Int) < (og.length : Int) := by omega
                    have q2 : decide ((j : Int) < (og.length : Int)) = true := decide_eq_true q1
                    have q3 : (0 : Int) ≤ (j : Int) := by omega
                    have HKc := hat j hlt
                    have HT := Lib.hid (map_take1 ogT og j hlt)
                    have hsn : og.take (j + 1) = og.take j ++ [og[j]] := by rw [List.take_add_one, List.getElem?_eq_getElem hlt]; rfl
                    have HS : Hid (∀ r, (b5 && (og.take j).all okOgR) = r → (b5 && (og.take (j + 1)).all okOgR) = (r && okOgR og[j])) := fun r hr => by
                      rw [hsn, List.all_append, ← Bool.and_assoc, hr]
                      simp
                    have hml : Hid ((L5 ++ (og.take j).map ogT).length ≤ 2000) := by
                      show _ ≤ _
                      rw [List.length_append, List.length_map, List.length_take]
                      omega
                    have HV4 := Blk.new wr 61 (ogC zOg)
                    have B4 : Below wr.heap.size wr (wr.alloc (.cells (ogC zOg) 61)) := (Below.refl _ _).alloc (Nat.le_refl _) _
                    have hPj := P9.out j hlt
                    generalize og[j] = y at *
                    generalize hbj : (b5 && (og.take j).all okOgR) = bj at *
                    generalize hmm : L5 ++ (og.take j).map ogT = mm at *
                    have HMM := Lib.hid hmm
                    replace HS := Lib.hid (HS.out bj rfl)
                    clear hbj hmm hsn hat hIj
                    go_upto_region 29 with (first
                      | (refine load_cells (B := b) (k := lo + j * 3) 61 (ogC y) (by rfl) rfl rfl HKc (by kernel_rfl) (by kernel_rfl) ?_)
                      | (refine alloc_blk 61 (ogC zOg) (by rfl) rfl Tryd.ogZero ?_)
                      | (refine store_blk (k := 0) 61 (.agg (ogC y)) (ogC y) (by rfl) rfl rfl rfl HV4 (by kernel_rfl) (show (3 : Nat) ≤ 3 from Nat.le_refl 3) (by rfl) (st_whole _ _ rfl) ?_; intro w5 HV5 b5 g5))
                    have b5' := B4.trans b5
                    have HA5 := HAj.kept b5'
                    have HO5 := hAj.kept b5'
                    have B5 := Bj.trans (b5'.mono Bj.size)
                    have B5x := Nat.le_trans Bjx b5'.size
                    clear HV4 B4 b5 g5 b5' HKc HAj hAj Bj Bjx
                    generalize wr.heap.size = V at *
                    (try simp only [Act.put, List.setIfInBounds_toArray, List.set_cons_zero, List.set_cons_succ])
                    go_cut [4] from 187 to 191 (fun v3 wx => v3 = .bool (bj && okOgR y) ∧ Blk wx V 61 (ogC y) ∧ OwnTl wx (w.heap.size + 1) v2 mm ∧ Blk wx w.heap.size 54 (ldC ⟨ch, po, tt, de, ho, sy, ca, ma, og⟩ ⟨(qd, qdc), (qh, qhc), (qs, qsc), (qc, qcc), (qm, qmc), ((some ⟨b, lo, none⟩ : Option Addr), qoc)⟩) ∧ Below w.heap.size w wx ∧ w.heap.size + 1 ≤ wx.heap.size)
                    case first =>
                      have HR := Lib.hid (fun W => orgRight_any y W)
                      obtain ⟨dk, hdk⟩ : ∃ dk, okOgR y = dk := ⟨_, rfl⟩
                      rw [hdk] at HR
                      have HDK := Lib.hid hdk
                      clear HS HT hdk
                      cases bj with
                      | false =>
                        go_wp2_with fail
                        go_meet
                        exact ⟨rfl, HV5, HO5, HA5, B5, B5x⟩
                      | true =>
                        go_wp2_with (refine load_blk (k := 0) 61 (ogC y) (by rfl) rfl rfl HV5 (by kernel_rfl) (by kernel_rfl) rfl ?_)
                        refine (HR.out _).mono ?_
                        rintro e w6 ⟨rfl, b6⟩
                        go_wp2_with fail
                        go_meet
                        exact ⟨by rw [HDK.out]; rfl, HV5.kept b6, HO5.kept b6, HA5.kept b6, B5.trans (b6.mono B5.size), Nat.le_trans B5x b6.size⟩
                    case rest =>
                      obtain ⟨rfl, HV6, HO6, HA6, B6, B6x⟩ := hcut
                      clear HV5 HO5 HA5 B5 B5x
                      rw [← HS.out]
                      generalize hbn : (b5 && (og.take (j + 1)).all okOgR) = bn at *
                      have HBN := Lib.hid hbn
                      clear hbn
                      have HM0 := Lib.hid (fun W => be_3 y.ou W)
                      have HM1 := Lib.hid (fun W => be_1 y.su W)
                      have HY : Hid (ogT y = ⟨127, ⟨(ogR y).toArray⟩⟩) := rfl
                      have p1 : ∀ W, (Op.stringOp .add ⟨(beI y.ou 3).toArray⟩ ⟨(beI y.su 1).toArray⟩).run Tryd.prog W = .ok (.string ⟨(ogR1 y).toArray⟩) W := fun W => run_string_add_lists W _ _ (by rw [beI_len]; omega) (by rw [beI_len]; omega)
                      have hz1 : (ogR1 y).length = 4 := by simp [ogR1, beI_len]
                      have p2 : ∀ W, (Op.stringOp .add ⟨(ogR1 y).toArray⟩ y.nf).run Tryd.prog W = .ok (.string ⟨(ogR y).toArray⟩) W := fun W => run_string_add_lists W (ogR1 y) y.nf.data.toList (by rw [hz1]; omega) (by simp; omega)
                      rw [HY.out] at HT
                      generalize beI y.ou 3 = y0 at *
                      generalize beI y.su 1 = y1 at *
                      generalize ogR1 y = z1 at *
                      generalize ogR y = z at *
                      clear HY hz1 hPj
                      go_upto_region 30 with (fail)
                      refine wp_region_noPanic ?_
                      refine wp_region_held_drew (S := (fun w' => Blk w' V 61 (ogC y))) (by kernel_rfl) ?_ (fun hHeld => ?_)
                      · exact HV6.drew
                      refine wpAnyH_take (i := 0) (v := ?_) rfl (by kernel_rfl) (by kernel_rfl) (by kernel_rfl) (fun _ _ _ h => h) (Or.inl ⟨by rfl, ?_⟩) (by assumption) ?_
                      rotate_left
                      · (intro w hSw; (try dsimp only at hSw); go_simp; (try with_reducible rfl))
                      (try simp only [Act.put, List.getElem_toArray, List.getElem_cons_zero, List.getElem_cons_succ, List.setIfInBounds_toArray, List.set_cons_zero, List.set_cons_succ])
                      refine wpAnyH_take (i := 1) (v := ?_) rfl (by kernel_rfl) (by kernel_rfl) (by kernel_rfl) (fun _ _ _ h => h) (Or.inl ⟨by rfl, ?_⟩) (by assumption) ?_
                      rotate_left
                      · (intro w hSw; (try dsimp only at hSw); go_simp; (try with_reducible rfl))
                      (try simp only [Act.put, List.getElem_toArray, List.getElem_cons_zero, List.getElem_cons_succ, List.setIfInBounds_toArray, List.set_cons_zero, List.set_cons_succ])
                      refine wpAnyH_take (i := 2) (v := .int .i64 y.ou) rfl (by kernel_rfl) (by kernel_rfl) (by kernel_rfl) (fun _ _ _ h => h) (Or.inl ⟨by rfl, fun w hSw => by have c := hSw.cv 0 (.int .i64 y.ou) rfl; go_simp⟩) (by assumption) ?_
                      (try simp only [Act.put, List.getElem_toArray, List.getElem_cons_zero, List.getElem_cons_succ, List.setIfInBounds_toArray, List.set_cons_zero, List.set_cons_succ])
                      refine wpAnyH_take (i := 4) (v := ?_) rfl (by kernel_rfl) (by kernel_rfl) (by kernel_rfl) (fun _ _ _ h => h) (Or.inl ⟨by rfl, ?_⟩) (by assumption) ?_
                      rotate_left
                      · (intro w hSw; (try dsimp only at hSw); go_simp; (try with_reducible rfl))
                      (try simp only [Act.put, List.getElem_toArray, List.getElem_cons_zero, List.getElem_cons_succ, List.setIfInBounds_toArray, List.set_cons_zero, List.set_cons_succ])
                      refine wpAnyH_take (i := 5) (v := .int .i64 y.su) rfl (by kernel_rfl) (by kernel_rfl) (by kernel_rfl) (fun _ _ _ h => h) (Or.inl ⟨by rfl, fun w hSw => by have c := hSw.cv 1 (.int .i64 y.su) rfl; go_simp⟩) (by assumption) ?_
                      (try simp only [Act.put, List.getElem_toArray, List.getElem_cons_zero, List.getElem_cons_succ, List.setIfInBounds_toArray, List.set_cons_zero, List.set_cons_succ])
                      refine wpAnyH_take (i := 8) (v := ?_) rfl (by kernel_rfl) (by kernel_rfl) (by kernel_rfl) (fun _ _ _ h => h) (Or.inl ⟨by rfl, ?_⟩) (by assumption) ?_
                      rotate_left
                      · (intro w hSw; (try dsimp only at hSw); go_simp; (try with_reducible rfl))
                      (try simp only [Act.put, List.getElem_toArray, List.getElem_cons_zero, List.getElem_cons_succ, List.setIfInBounds_toArray, List.set_cons_zero, List.set_cons_succ])
                      refine wpAnyH_take (i := 9) (v := .string y.nf) rfl (by kernel_rfl) (by kernel_rfl) (by kernel_rfl) (fun _ _ _ h => h) (Or.inl ⟨by rfl, fun w hSw => by have c := hSw.cv 2 (.string y.nf) rfl; go_simp⟩) (by assumption) ?_
                      (try simp only [Act.put, List.getElem_toArray, List.getElem_cons_zero, List.getElem_cons_succ, List.setIfInBounds_toArray, List.set_cons_zero, List.set_cons_succ])
                      refine wpAnyH_ready (rs := [3]) (by kernel_rfl) (by simp) ?_
                      refine AllReadyH.cons rfl (fun K hK => ?_) AllReadyH.nil
                      simp only [List.getElem_toArray, List.getElem_cons_zero, List.getElem_cons_succ]
                      go_simp
                      go_at_call 35; (with_reducible refine (HM0.out _).mono ?_); rintro e w7 ⟨rfl, b7⟩; have HV7 := HV6.drew.kept b7; have HA7 := HA6.drew.kept b7; have HO7 := (show OwnTl wc.drew (w.heap.size + 1) v2 mm from HO6).kept b7; have B7 := B6.drew.trans (b7.mono B6.drew.size); have B7x := Nat.le_trans (show w.heap.size + 1 ≤ wc.heap.size from B6x) b7.size
                      refine hK.out _ _ ?_ (fun hHeld => ?_)
                      · exact HV7
                      clear hK K
                      (try simp only [Act.put, List.getElem_toArray, List.getElem_cons_zero, List.getElem_cons_succ, List.setIfInBounds_toArray, List.set_cons_zero, List.set_cons_succ])
                      refine wpAnyH_ready (rs := [6]) (by kernel_rfl) (by simp) ?_
                      refine AllReadyH.cons rfl (fun K hK => ?_) AllReadyH.nil
                      simp only [List.getElem_toArray, List.getElem_cons_zero, List.getElem_cons_succ]
                      go_simp
                      go_at_call 35; (with_reducible refine (HM1.out _).mono ?_); rintro e w8 ⟨rfl, b8⟩; have HV8 := HV7.kept b8; have HA8 := HA7.kept b8; have HO8 := HO7.kept b8; have B8 := B7.trans (b8.mono B7.size); have B8x := Nat.le_trans (show w.heap.size + 1 ≤ w7.heap.size from B7x) b8.size
                      refine hK.out _ _ ?_ (fun hHeld => ?_)
                      · exact HV8
                      clear hK K
                      (try simp only [Act.put, List.getElem_toArray, List.getElem_cons_zero, List.getElem_cons_succ, List.setIfInBounds_toArray, List.set_cons_zero, List.set_cons_succ])
                      refine wpAnyH_take (i := 7) (v := .string ⟨z1.toArray⟩) rfl (by kernel_rfl) (by kernel_rfl) (by kernel_rfl) (fun _ _ _ h => h) (Or.inl ⟨by rfl, fun w hSw => by go_simp⟩) (by assumption) ?_
                      (try simp only [Act.put, List.getElem_toArray, List.getElem_cons_zero, List.getElem_cons_succ, List.setIfInBounds_toArray, List.set_cons_zero, List.set_cons_succ])
                      refine wpAnyH_take (i := 10) (v := .string ⟨z.toArray⟩) rfl (by kernel_rfl) (by kernel_rfl) (by kernel_rfl) (fun _ _ _ h => h) (Or.inl ⟨by rfl, fun w hSw => by go_simp⟩) (by assumption) ?_
                      (try simp only [Act.put, List.getElem_toArray, List.getElem_cons_zero, List.getElem_cons_succ, List.setIfInBounds_toArray, List.set_cons_zero, List.set_cons_succ])
                      refine wpAnyH_take (i := 11) (v := .agg (tlC ⟨127, ⟨z.toArray⟩⟩)) rfl (by kernel_rfl) (by kernel_rfl) (by kernel_rfl) (fun _ _ _ h => h) (Or.inl ⟨by rfl, fun w hSw => exec_build_blkL (t := 24) (tlC ⟨127, ⟨z.toArray⟩⟩) rfl (by kernel_rfl)⟩) (by assumption) ?_
                      (try simp only [Act.put, List.getElem_toArray, List.getElem_cons_zero, List.getElem_cons_succ, List.setIfInBounds_toArray, List.set_cons_zero, List.set_cons_succ])
                      refine wpAnyH_ready (rs := [12]) (by kernel_rfl) (by simp) ?_
                      refine AllReadyH.cons rfl (fun K hK => ?_) AllReadyH.nil
                      simp only [List.getElem_toArray, List.getElem_cons_zero, List.getElem_cons_succ]
                      rw [if_pos (by rfl)]
                      refine slice_tl ⟨127, ⟨z.toArray⟩⟩ rfl rfl (fun w9 HG9 b9 hlt9 => ?_)
                      have HV9 := HV8.kept b9
                      have HA9 := HA8.kept b9
                      have HO9 := HO8.kept b9
                      have B9 := B8.trans (b9.mono B8.size)
                      have B9x := Nat.le_trans B8x b9.size
                      refine hK.out _ _ ?_ (fun hHeld => ?_)
                      · exact HV9
                      clear hK K
                      (try simp only [Act.put, List.getElem_toArray, List.getElem_cons_zero, List.getElem_cons_succ, List.setIfInBounds_toArray, List.set_cons_zero, List.set_cons_succ])
                      refine wpAnyH_ready (rs := [13]) (by kernel_rfl) (by simp) ?_
                      refine AllReadyH.cons rfl (fun K hK => ?_) AllReadyH.nil
                      simp only [List.getElem_toArray, List.getElem_cons_zero, List.getElem_cons_succ]
                      rw [if_pos (by rfl)]
                      refine append_tl ⟨127, ⟨z.toArray⟩⟩ rfl rfl rfl HO9 HG9 (by have := hml.out; omega) B9x (fun vz wz HOz bz gz => ?_)
                      have HVz := KeepL.row HO9 gz _ _ _ HV9 (by decide) (by decide)
                      have HAz := HA9.below bz (Nat.lt_succ_self _)
                      have Bz := B9.trans (bz.mono (Nat.le_succ _))
                      have Bzx := Nat.le_trans B9x bz.size
                      refine hK.out _ _ ?_ (fun hHeld => ?_)
                      · exact HVz
                      clear hK K
                      (try simp only [Act.put, List.getElem_toArray, List.getElem_cons_zero, List.getElem_cons_succ, List.setIfInBounds_toArray, List.set_cons_zero, List.set_cons_succ])
                      refine wpAnyH_take (i := 14) (v := ?_) rfl (by kernel_rfl) (by kernel_rfl) (by kernel_rfl) (fun _ _ _ h => h) (Or.inl ⟨by rfl, ?_⟩) (by assumption) ?_
                      rotate_left
                      · (intro w hSw; (try dsimp only at hSw); go_simp; (try with_reducible rfl))
                      (try simp only [Act.put, List.getElem_toArray, List.getElem_cons_zero, List.getElem_cons_succ, List.setIfInBounds_toArray, List.set_cons_zero, List.set_cons_succ])
                      refine wpAnyH_done (by kernel_rfl) ?_ _
                      refine NoPanic.normal ?_
                      go_wp2
                      go_roundw
                      case rel => exact ⟨j + 1, _, rfl, by omega, by go_num, by rw [HBN.out], by
                        rw [HT.out, ← List.append_assoc, HMM.out]
                        exact HOz, HAz, Bz, Bzx⟩
                      case measure => simp [intOf]; omega
                  · obtain rfl : j = og.length := by omega
                    have q2 : decide ((og.length : Int) < (og.length : Int)) = false := decide_eq_false (by omega)
                    rw [List.take_length] at hAj ⊢
                    have hB6 : Hid ((b5 && og.all okOgR) = (b5 && og.all okOgR)) := rfl
                    have hl6 : (L5 ++ og.map ogT).length = L5.length + og.length := by rw [List.length_append, List.length_map]
                    generalize hb6 : (b5 && og.all okOgR) = b6 at *
                    replace hB6 := Lib.hid hb6
                    generalize hL6 : L5 ++ og.map ogT = L6 at *
                    have hA6 := Lib.hid hL6
                    have hAk := hAj
                    have HAk := HAj
                    have Bk := Bj
                    have Bkx := Bjx
                    clear hb6 hL6 hAj HAj Bj Bjx hlt hj
                    have hfin : Hid (L6 = refTls (⟨ch, po, tt, de, ho, sy, ca, ma, og⟩ : Ld)) := by
                      show _ = _
                      rw [HL.out, ← hA6.out, ← hA5.out, ← hA4.out, hA3.out]
                    have hbin : Hid (b6 = okRef (⟨ch, po, tt, de, ho, sy, ca, ma, og⟩ : Ld)) := by
                      show _ = _
                      rw [HO.out, ← hB6.out, ← hB5.out, ← hB4.out, hB3.out]
                    obtain ⟨a9, c9, rfl, HT9⟩ := hAk.inL
                    rw [hfin.out] at HT9 ⊢
                    rw [hbin.out]
                    go_wp2
                    go_ret2
                    exact ⟨_, _, rfl, HT9, Bk⟩

end Go.Proofs.YticjmjoiggnblaaDoor
