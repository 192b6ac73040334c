/- mvrp.join, attrText: an attribute as bytes. -/
import Derived.Test.YtdjljnpbnhampaaDoorMvRight
import Derived.Test.YtdjljnpbnhampaaDoorMvBackM
import Derived.Test.YtdjljnpbnhampaaDoorChunk
import Derived.Test.YtdjljnpbnhampaaDoorBuildO
import Derived.Test.YtdjljnpbnhampaaDoorMust
import Derived.Test.YtdjljnpbnhampaaDoorIsB
namespace Go.Proofs.YtdjljnpbnhampaaDoor
open Go.RowKit
attribute [local go_sem ↓] Go.wp_at_zero Go.wp_at_succ
attribute [local go_sem] Oper.semAt_some
set_option linter.unusedSimpArgs false
set_option linter.unusedVariables false
set_option maxRecDepth 100000

/-- The first three, noughts behind them. -/
def p3 (l : List Int) : Array Value := #[.int .i64 (l.getD 0 0), .int .i64 (l.getD 1 0), .int .i64 (l.getD 2 0)]

theorem join_any (a b c : Int) (ha : 0 ≤ a ∧ a ≤ 5) (hb : 0 ≤ b ∧ b ≤ 5) (hc : 0 ≤ c ∧ c ≤ 5) (w : World) :
    Calls Tryd.prog 114 #[.agg #[.int .i64 a, .int .i64 b, .int .i64 c]] w fun e w' => e = .returned (.int .i64 (g3 a b c : Nat)) ∧ Below w.heap.size w w' := by
  have hb0 : Below w.heap.size w (w.alloc (.cells #[.int .i64 a, .int .i64 b, .int .i64 c] 217)) := (Below.refl _ _).alloc (Nat.le_refl _) _
  have e : ((g3 a b c : Nat) : Int) = 6 * (6 * a + b) + c := by unfold g3; omega
  have q1 : IntKind.i64.wrap (6 * a) = 6 * a := by rw [IntKind.wrap_i64] <;> omega
  have q2 : IntKind.i64.wrap (6 * a + b) = 6 * a + b := by rw [IntKind.wrap_i64] <;> omega
  have q3 : IntKind.i64.wrap (6 * (6 * a + b)) = 6 * (6 * a + b) := by rw [IntKind.wrap_i64] <;> omega
  have q4 : IntKind.i64.wrap (6 * (6 * a + b) + c) = 6 * (6 * a + b) + c := by rw [IntKind.wrap_i64] <;> omega
  rw [e]
  clear e ha hb hc
  go_enter Tryd.func114, Tryd.ntmps114
  go_wp2
  go_ret
  exact ⟨rfl, hb0⟩

theorem evL_few : ∀ (m : List Int), 0 < m.length → m.length ≤ 3 → evL m = putL (g3 (m.getD 0 0) (m.getD 1 0) (m.getD 2 0)) 1
  | [a], _, _ => by simp [evL]
  | [a, b], _, _ => by simp [evL]
  | [a, b, c], _, _ => by simp [evL]
  | a :: b :: c :: d :: l, _, h => by simp at h

theorem copy_few (m : List Int) (h : m.length ≤ 3) : ((#[Value.int .i64 0, .int .i64 0, .int .i64 0] : Array Value).toList.take 0 ++ (m.map fun v => Value.int .i64 v) ++ (#[Value.int .i64 0, .int .i64 0, .int .i64 0] : Array Value).toList.drop (0 + (m.map fun v => Value.int .i64 v).length)).toArray = p3 m := by
  match m, h with
  | [], _ => rfl
  | [a], _ => rfl
  | [a, b], _ => rfl
  | [a, b, c], _ => rfl
  | a :: b :: c :: d :: l, h => simp at h

/-- Three events into an array, in a round. -/
theorem copyR {F : Fence} {n : Nat} {ops : Array Oper} {rest : List Oper} {o : Oper} {a : Act} {w : World} {Q : Exit → Act → World → Prop} {d x : Operand} {B b q c : Nat} (m : List Int) (hg : o.guard = none)
    (hop : o.op = .call { callee := .builtin .copy, args := #[d, x], argTypes := #[90, 90] }) (hd : a.eval d = .slice (some ⟨B, 0, none⟩) 3 3) (hx : a.eval x = .slice (some ⟨b, q, none⟩) m.length c)
    (hB : Blk w B 217 #[.int .i64 0, .int .i64 0, .int .i64 0]) (hI : IvAt w b q m) (hm : m.length ≤ 3)
    (h : ∀ w', Blk w' B 217 (p3 m) → w.grownBy w' (some B) → Below B w w' → wpListIn F n Tryd.prog ops Q rest (a.put o.dst (goInt m.length)) w') : wpListIn F n Tryd.prog ops Q (o :: rest) a w := by
  refine wpListIn_plain hg fun K hK => ?_
  have hrun := run_copy_row (P := Tryd.prog) w 90 90 o.type 3 B 0 3 3 ⟨b, q, none⟩ m.length c #[.int .i64 0, .int .i64 0, .int .i64 0] 217 (m.map fun v => .int .i64 v) Tryd.underlying90 (by kernel_rfl) hB
    (by rw [List.length_map]; exact (Nat.min_eq_left hm).symm) (fun j v hv => by
      rw [List.getElem?_map] at hv
      obtain ⟨y, hy, rfl⟩ := Option.map_eq_some_iff.1 hv
      obtain ⟨hj, hy⟩ := List.getElem?_eq_some_iff.1 hy
      have e := hI j hj 0 (.int .i64 m[j]) rfl
      rw [Nat.mul_one, Nat.add_zero] at e
      rw [Addr.add_lit, e, hy]) (by rw [List.length_map]; simpa using hm) (fun v hv => by
      obtain ⟨y, _, rfl⟩ := List.mem_map.1 hv
      rfl)
  rw [copy_few m hm, List.length_map] at hrun
  unfold Oper.wpIn
  refine ⟨by simp [Oper.about, hop, resolve, Target.leads, Sem.run_pure], ?_⟩
  rw [Oper.semAt_plain F _ _ (by rw [hop]; intro c hc'; cases hc')]
  simp [execOp, hop, resolve, invoke, builtin, hd, hx, hrun, Result.andThen]
  exact hK _ _ (h _ (hB.setRow _) ⟨rfl, rfl, rfl, by simp, fun j _ hj => setRow_other w B j _ (by intro e; subst e; exact hj rfl)⟩ (below_setRow (Below.refl _ _) (Nat.le_refl _) _))

/-- What holds between two rounds. -/
structure AtJ (w0 : World) (B b1 b2 D L : Nat) (r : Loop) (sl : Value) (y : List UInt8) (W : World) : Prop where
  bo : BO B y W
  x1 : Blk W b1 90 #[sl]
  x2 : Blk W b2 3 #[.int .i64 3]
  lp : W.heap[L]? = some (.loop r)
  dm : W.heap[D]? = some (.deferred (some []))
  be : Below w0.heap.size w0 W

theorem AtJ.keepC {w0 W W' : World} {B b1 b2 D L : Nat} {r r' : Loop} {sl : Value} {y : List UInt8} (h : AtJ w0 B b1 b2 D L r sl y W) (hk : KeepC W W') (hl : W'.heap[L]? = some (.loop r')) (hm : W'.heap[D]? = some (.deferred (some []))) (hb : Below w0.heap.size W W') : AtJ w0 B b1 b2 D L r' sl y W' :=
  ⟨bo_keepC h.bo hk, hk.blk h.x1, hk.blk h.x2, hl, hm, h.be.trans hb⟩

theorem AtJ.grown {w0 W W' : World} {B b1 b2 D L G : Nat} {r : Loop} {sl : Value} {y : List UInt8} {T : TypeId} {C : Array Value} (h : AtJ w0 B b1 b2 D L r sl y W) (hg : W.grownBy W' (some G)) (hG : Blk W G T C) (h1 : T ≠ 5) (h2 : T ≠ 188) (h3 : T ≠ 90 ∧ T ≠ 3) (h4 : w0.heap.size ≤ G) : AtJ w0 B b1 b2 D L r sl y W' := by
  have hne : ∀ (X : Nat) (o : Obj), W.heap[X]? = some o → (∀ C2 F, o ≠ Obj.cells C2 T F) → W'.heap[X]? = some o := fun X o ho hno => by
    refine (hg.block X (Array.getElem?_eq_some_iff.1 ho).1 ?_).trans ho
    intro e
    obtain rfl : X = G := by simpa using e
    have q : W.heap[X]? = some (.cells C T (0, 0)) := hG
    rw [ho] at q
    injection q with q
    exact hno _ _ q
  have key : ∀ p, Lib.BuilderAt 188 5 B B p (Lib.byteCells y) W → Lib.BuilderAt 188 5 B B p (Lib.byteCells y) W' := fun p h => by
    obtain ⟨hB, v, hbk, hown, hne2⟩ := h
    refine ⟨hB, v, hne _ _ hbk (fun C2 F e => by injection e with _ e; exact h2 e.symm), hown.kept hg ?_, hne2⟩
    rcases hown.2 with ⟨rfl, _⟩ | ⟨g, cap, cur, rfl, _, hgb, _⟩
    · exact Or.inl rfl
    · refine Or.inr fun e => ?_
      obtain rfl : g = G := by simpa [Value.ownBlock] using e
      have q : W.heap[g]? = some (.cells C T (0, 0)) := hG
      rw [hgb] at q
      injection q with q
      injection q with _ q
      exact h1 q.symm
  refine ⟨?_, hne _ _ h.x1 (fun C2 F e => by injection e with _ e; exact h3.1 e.symm), hne _ _ h.x2 (fun C2 F e => by injection e with _ e; exact h3.2 e.symm), hne _ _ h.lp (fun C2 F e => by cases e), hne _ _ h.dm (fun C2 F e => by cases e), ?_⟩
  · rcases h.bo with q | q
    · exact Or.inl (key _ q)
    · exact Or.inr (key _ q)
  · exact h.be.grown hg h.be.size (fun k e => by cases e; exact h4)

theorem AtJ.of {w0 W W' : World} {B b1 b2 D L : Nat} {r : Loop} {sl : Value} {y : List UInt8} (h : AtJ w0 B b1 b2 D L r sl y W) (hb : Below W.heap.size W W') : AtJ w0 B b1 b2 D L r sl y W' :=
  h.keepC (KeepC.of hb) (loop_below h.lp hb) (loop_below h.dm hb) (hb.mono h.be.size)

set_option maxHeartbeats 12800000 in
theorem attrText_any (x : Mv) (a : Option Addr) (c : Nat) (hc : x.ev.length ≤ c) (w : World) (hx : okMv x = true) (h : IvIn w a x.ev) :
    Calls Tryd.prog 93 #[.agg (mvC ⟨x, a, c⟩)] w fun e w' => e = .returned (.string ⟨(attrW x).toArray⟩) ∧ Below w.heap.size w w' := by
  have hl := okMv_len hx
  have hf := okMv_first hx
  have he := okMv_ev hx
  have HM : Hid (∀ (X : Nat) (W : World), X < 65536 → Calls Tryd.prog 112 #[.int .i64 (X : Nat), .int .i64 2] W fun e w' => e = .returned (.string ⟨(putL X 2).toArray⟩) ∧ Below W.heap.size W w') := fun X W hX => must_fits X 2 W (by decide) (by decide) hX
  have HAW : Hid (attrW x = putL (cntMv x) 2 ++ putL x.first.toNat 2 ++ evL x.ev) := by show _ = _; unfold attrW; rw [List.append_assoc]
  obtain ⟨F, hF⟩ : ∃ F : Nat, x.first = (F : Int) := ⟨x.first.toNat, by omega⟩
  have hFl : F < 65536 := by omega
  obtain ⟨Y, hY⟩ : ∃ Y, cntMv x = Y := ⟨_, rfl⟩
  have hYl : Y < 65536 := by rw [← hY]; have := (cnt_ok hx).2.1; omega
  rw [hF, hY, Int.toNat_natCast] at HAW
  have hcn : cntMv x = x.ev.length + if x.all then 8192 else 0 := rfl
  rw [hY] at hcn
  generalize attrW x = AW at *
  obtain ⟨al, fi, ev⟩ := x
  simp only at *
  subst hF
  clear hx hf hY
  unfold mvC
  simp only
  have HA := Blk.new w 92 #[.bool al, .int .i64 (F : Nat), .slice a ev.length c]
  have B0 : Below w.heap.size w (w.alloc (.cells #[.bool al, .int .i64 (F : Nat), .slice a ev.length c] 92)) := (Below.refl _ _).alloc (Nat.le_refl _) _
  have hs0 : (w.alloc (.cells #[.bool al, .int .i64 (F : Nat), .slice a ev.length c] 92)).heap.size = w.heap.size + 1 := by simp
  refine calls_of_marks Tryd.func93 rfl ?_
  simp only [Tryd.ntmps93, List.size_toArray, List.length_cons, List.length_nil, Nat.reduceAdd, Nat.reduceSub, Array.replicate_succ, Array.replicate_zero, List.push_toArray, List.append_toArray, List.nil_append, List.cons_append]
  go_upto_region 1 with (fail)
  generalize w.alloc (.cells #[.bool al, .int .i64 (F : Nat), .slice a ev.length c] 92) = w1 at *
  have k0 := HA.cv 0 (.bool al) rfl
  have k1 := HA.cv 1 (.int .i64 (F : Nat)) rfl
  have k2 := HA.cv 2 (.slice a ev.length c) rfl
  generalize hg : w.heap.size = g at *
  have HBO := bo_new w1
  have B1 : Below w1.heap.size w1 (w1.alloc (.cells #[.pointer none, .slice none 0 0] 188)) := (Below.refl _ _).alloc (Nat.le_refl _) _
  have HA1 := HA.kept B1
  obtain ⟨B, hB⟩ : ∃ B, w1.heap.size = B := ⟨_, rfl⟩
  have hgB : g < B := by rw [← hB, hs0]; omega
  clear hs0
  rw [hB] at HBO B1
  have hsl : (putL Y 2 ++ putL F 2).length = 4 := by rw [List.length_append, putL_length, putL_length]
  obtain ⟨z1, hz1⟩ : ∃ z, z = putL Y 2 ++ putL F 2 := ⟨_, rfl⟩
  have p1 : ∀ W, (Op.stringOp .add ⟨(putL Y 2).toArray⟩ ⟨(putL F 2).toArray⟩).run Tryd.prog W = .ok (.string ⟨z1.toArray⟩) W := fun W => by rw [hz1]; exact run_string_add_lists W (putL Y 2) (putL F 2) (by rw [putL_length]; omega) (by rw [putL_length]; omega)
  have zl1 : z1.length = 4 := by rw [hz1]; exact hsl
  have zl2 : z1.length ≤ 4 := Nat.le_of_eq zl1
  rw [← hz1] at HAW
  have hne : AW ≠ [] := by
    rw [HAW.out]
    intro q
    have q2 := congrArg List.length q
    rw [List.length_append, zl1] at q2
    simp at q2
  clear hz1 hsl
  have HMF := Lib.hid (fun W => HM.out F W hFl)
  have HMY := Lib.hid (fun W => HM.out Y W hYl)
  have HM1 : Hid (∀ (X : Nat) (W : World), X ≤ 215 → Calls Tryd.prog 112 #[.int .i64 (X : Nat), .int .i64 1] W fun e w' => e = .returned (.string ⟨(putL X 1).toArray⟩) ∧ Below W.heap.size W w') := fun X W hX => must_fits X 1 W (by decide) (by decide) (by omega)
  have HWB : Hid (∀ (z : List UInt8) (W : World), BO B [] W → z.length ≤ 1000 → Calls Tryd.prog 92 #[.pointer (some ⟨B, 0, none⟩), .string ⟨z.toArray⟩] W fun e w' => e = .returned (.tuple #[.int .i64 z.length, .nilIface]) ∧ BO B z w' ∧ Below B W w' ∧ KeepO W w') := fun z W hB hz => by
    have q := write_bo B [] z W hB (by simp; omega) (Nat.le_of_lt (bo_lt hB))
    rw [List.nil_append] at q
    exact q
  generalize hY1 : putL Y 2 = y1 at *
  generalize hY2 : putL F 2 = y2 at *
  clear hY1 hY2 HM
  cases al
  · obtain rfl : Y = ev.length := hcn
    go_upto_region 5 with (fail)
    generalize w1.alloc (.cells #[.pointer none, .slice none 0 0] 188) = w2 at *
    refine wp_region_noPanic ?_
    refine wp_region_held_drew (S := (fun w' => Blk w' g 92 #[.bool false, .int .i64 (F : Nat), .slice a ev.length c])) (by kernel_rfl) ?_ (fun hHeld => ?_)
    · exact HA1
    refine wpAnyH_take (i := 0) (v := ?_) rfl (by kernel_rfl) (by kernel_rfl) (by kernel_rfl) (fun _ _ _ h => h) (Or.inl ⟨by rfl, ?_⟩) (by assumption) ?_
    rotate_left
    · (intro w hSw; (try dsimp only at hSw); go_simp; (try with_reducible rfl))
    (try simp only [Act.put, List.getElem_toArray, List.getElem_cons_zero, List.getElem_cons_succ, List.setIfInBounds_toArray, List.set_cons_zero, List.set_cons_succ])
    refine wpAnyH_take (i := 2) (v := ?_) rfl (by kernel_rfl) (by kernel_rfl) (by kernel_rfl) (fun _ _ _ h => h) (Or.inl ⟨by rfl, ?_⟩) (by assumption) ?_
    rotate_left
    · (intro w hSw; (try dsimp only at hSw); go_simp; (try with_reducible rfl))
    (try simp only [Act.put, List.getElem_toArray, List.getElem_cons_zero, List.getElem_cons_succ, List.setIfInBounds_toArray, List.set_cons_zero, List.set_cons_succ])
    refine wpAnyH_take (i := 3) (v := .int .i64 (F : Nat)) rfl (by kernel_rfl) (by kernel_rfl) (by kernel_rfl) (fun _ _ _ h => h) (Or.inl ⟨by rfl, fun w hSw => by have c := hSw.cv 1 (.int .i64 (F : Nat)) rfl; go_simp⟩) (by assumption) ?_
    (try simp only [Act.put, List.getElem_toArray, List.getElem_cons_zero, List.getElem_cons_succ, List.setIfInBounds_toArray, List.set_cons_zero, List.set_cons_succ])
    refine wpAnyH_ready (rs := [1]) (by kernel_rfl) (by simp) ?_
    refine AllReadyH.cons rfl (fun K hK => ?_) AllReadyH.nil
    simp only [List.getElem_toArray, List.getElem_cons_zero, List.getElem_cons_succ]
    go_simp
    go_at_call 112; (with_reducible refine (HMY.out _).mono ?_); rintro e w3 ⟨rfl, b3⟩; have HA3 := HA1.drew.kept b3; have HO3 := bo_keepC HBO ((KeepC.drew _).trans (KeepC.of b3)); have B3 := B1.drew.trans (b3.mono (by have := B1.drew.size; omega))
    refine hK.out _ _ ?_ (fun hHeld => ?_)
    · exact HA3
    clear hK K
    (try simp only [Act.put, List.getElem_toArray, List.getElem_cons_zero, List.getElem_cons_succ, List.setIfInBounds_toArray, List.set_cons_zero, List.set_cons_succ])
    refine wpAnyH_ready (rs := [4]) (by kernel_rfl) (by simp) ?_
    refine AllReadyH.cons rfl (fun K hK => ?_) AllReadyH.nil
    simp only [List.getElem_toArray, List.getElem_cons_zero, List.getElem_cons_succ]
    go_simp
    go_at_call 112; (with_reducible refine (HMF.out _).mono ?_); rintro e w4 ⟨rfl, b4⟩; have HA4 := HA3.kept b4; have HO4 := bo_keepC HO3 (KeepC.of b4); have B4 := B3.trans (b4.mono (by have := B3.size; omega))
    refine hK.out _ _ ?_ (fun hHeld => ?_)
    · exact HA4
    clear hK K
    (try simp only [Act.put, List.getElem_toArray, List.getElem_cons_zero, List.getElem_cons_succ, List.setIfInBounds_toArray, List.set_cons_zero, List.set_cons_succ])
    refine wpAnyH_take (i := 5) (v := .string ⟨z1.toArray⟩) rfl (by kernel_rfl) (by kernel_rfl) (by kernel_rfl) (fun _ _ _ h => h) (Or.inl ⟨by rfl, fun w hSw => by go_simp⟩) (by assumption) ?_
    (try simp only [Act.put, List.getElem_toArray, List.getElem_cons_zero, List.getElem_cons_succ, List.setIfInBounds_toArray, List.set_cons_zero, List.set_cons_succ])
    refine wpAnyH_ready (rs := [6]) (by kernel_rfl) (by simp) ?_
    refine AllReadyH.cons rfl (fun K hK => ?_) AllReadyH.nil
    simp only [List.getElem_toArray, List.getElem_cons_zero, List.getElem_cons_succ]
    go_simp
    go_at_call 92; (with_reducible refine (HWB.out z1 _ HO4 (by omega)).mono ?_); rintro e w5 ⟨rfl, HO5, b5, K5⟩; have HA5 := K5.blk HA4 (by decide) (by decide); have B5 := B4.trans b5
    refine hK.out _ _ ?_ (fun hHeld => ?_)
    · exact HA5
    clear hK K
    (try simp only [Act.put, List.getElem_toArray, List.getElem_cons_zero, List.getElem_cons_succ, List.setIfInBounds_toArray, List.set_cons_zero, List.set_cons_succ])
    refine wpAnyH_done (by kernel_rfl) ?_ _
    refine NoPanic.normal ?_
    clear HBO HA1 HA3 HA4 HO3 HO4 b3 b4 B3 K5 HMF HMY p1 HWB zl1 b5 B1
    have m1 := HA5.cv 2 (.slice a ev.length c) rfl
    have hs5 := B5.size
    have HCH := Lib.hid (chunk_any a ev.length c w5)
    go_wp2_with fail
    refine HCH.out.mono ?_
    rintro e w6 ⟨rfl, HX1, HX2, b6, hs6⟩
    have HO6 := bo_keepC HO5 (KeepC.of b6)
    have hB0 : g < w1.heap.size := by omega
    have B6 := B0.trans ((B5.trans (b6.mono (show B ≤ w5.heap.size by omega))).mono (Nat.le_of_lt hgB))
    clear HCH m1 HO5 HA5 B4 B5
    go_wp2_with fail
    have hB6 : B ≤ w6.heap.size := by omega
    generalize w5.heap.size = q5 at *
    refine rf_outer rfl (enters_of Tryd.func124 (by kernel_rfl) rfl) ?_
    intro fn RL W hRL HL HD bW hW
    have HJ0 : AtJ w B q5 (q5 + 1) w6.heap.size (w6.heap.size + 1) (RL .ready) (.slice a ev.length c) z1 W := ⟨bo_keepC HO6 (KeepC.of bW), HX1.kept bW, HX2.kept bW, HL, HD, by rw [hg]; exact B6.trans (bW.mono (by omega))⟩
    generalize w6.heap.size = D at *
    have hgD : g < D := by omega
    have hq5 : q5 + 1 < D := by omega
    replace hs6 := Lib.hid hs6
    replace hW := Lib.hid hW
    have HIT : Calls Tryd.prog 124 #[.func (.yield (D + 1)) #[] #[], .pointer (some ⟨q5, 0, none⟩), .pointer (some ⟨q5 + 1, 0, none⟩)] W fun e w' => (∃ v, e = .returned v) ∧ AtJ w B q5 (q5 + 1) D (D + 1) (RL .ready) (.slice a ev.length c) (z1 ++ evL ev) w' := by
      by_cases h0 : ev = []
      · subst h0
        refine (chunk_nil (D + 1) q5 (q5 + 1) a c W HJ0.x1).mono ?_
        rintro e w' ⟨hv, rfl⟩
        exact ⟨hv, by simpa [evL] using HJ0⟩
      · obtain ⟨b, o, rfl, hbl, hat⟩ := h.at (k := 0) (List.length_pos_iff.2 h0)
        have hend : ev.take (3 * ((ev.length + 2) / 3)) = ev := List.take_of_length_le (by omega)
        refine (chunk_it (D + 1) q5 (q5 + 1) b o ev.length c (by omega) (fun k W => AtJ w B q5 (q5 + 1) D (D + 1) (RL .ready) (.slice (some ⟨b, o, none⟩) ev.length c) (z1 ++ evL (ev.take (3 * k))) W) (fun k W h => h.x1) (fun k W h => h.x2)
          (fun k W h => h.keepC (KeepC.drew W) h.lp h.dm ((Below.refl _ _).drew)) hc ?_ W (by simpa [evL] using HJ0)).mono ?_
        · intro k W HJ hk
          obtain ⟨m, hm⟩ : ∃ m, (ev.drop (3 * k)).take 3 = m := ⟨_, rfl⟩
          have hml : m.length = min 3 (ev.length - 3 * k) := by rw [← hm, List.length_take, List.length_drop]
          have hm0 : 0 < m.length := by omega
          have hm3 : m.length ≤ 3 := by omega
          have hstep := evL_step ev k (by omega)
          rw [hm, evL_few m hm0 hm3] at hstep
          have hme : ∀ j : Nat, 0 ≤ m.getD j 0 ∧ m.getD j 0 ≤ 5 := fun j => by
            rw [List.getD_eq_getElem?_getD]
            cases hj : m[j]? with
            | none => exact ⟨by decide, by decide⟩
            | some v =>
              have hv := List.mem_of_getElem? hj
              rw [← hm] at hv
              exact he v (List.mem_of_mem_drop (List.mem_of_mem_take hv))
          have hmI : IvAt W b (o + 3 * k) m := fun j hj => by
            have e1 : ev[3 * k + j]? = m[j]? := by rw [← hm, List.getElem?_take, if_pos (by omega), List.getElem?_drop]
            have hj2 : 3 * k + j < ev.length := by omega
            rw [List.getElem?_eq_getElem hj2, List.getElem?_eq_getElem hj] at e1
            have e2 := (hat (3 * k + j) hj2).below HJ.be (by omega)
            rw [Option.some.inj e1] at e2
            rw [show o + 3 * k + j * 1 = o + (3 * k + j) * 1 by omega]
            exact e2
          obtain ⟨G3, hG3⟩ : ∃ G3, g3 (m.getD 0 0) (m.getD 1 0) (m.getD 2 0) = G3 := ⟨_, rfl⟩
          have HJN : Hid (∀ W, Calls Tryd.prog 114 #[.agg (p3 m)] W fun e w' => e = .returned (.int .i64 (G3 : Nat)) ∧ Below W.heap.size W w') := fun W => by rw [← hG3]; exact join_any (m.getD 0 0) (m.getD 1 0) (m.getD 2 0) (hme 0) (hme 1) (hme 2) W
          rw [hG3] at hstep
          have HMU := Lib.hid (fun W => HM1.out G3 W (by rw [← hG3]; exact (g3_lt (hme 0) (hme 1) (hme 2)).1))
          have hyl : (z1 ++ evL (ev.take (3 * k))).length ≤ 1000 := by
            rw [List.length_append, evL_len, List.length_take]
            omega
          have hnext : Hid (z1 ++ evL (ev.take (3 * (k + 1))) = (z1 ++ evL (ev.take (3 * k))) ++ putL G3 1) := by
            show _ = _
            rw [show 3 * (k + 1) = 3 * k + 3 by omega, hstep, List.append_assoc]
          rw [← hml, hnext.out]
          generalize z1 ++ evL (ev.take (3 * k)) = yk at *
          have hp1 : (putL G3 1).length = 1 := putL_length _ _
          generalize putL G3 1 = yb at *
          clear hstep hnext hG3 hend HJ0 hme
          replace hml := Lib.hid hml
          clear hm
          refine yield_of hRL HJ.lp rfl ?_
          gi_wp2
          refine ⟨HJ.lp, ?_⟩
          have hLs := (Array.getElem?_eq_some_iff.1 HJ.lp).1
          have HJ1 : AtJ w B q5 (q5 + 1) D (D + 1) (RL .busy) (.slice (some ⟨b, o, none⟩) ev.length c) yk (W.putObj (D + 1) (.loop (RL .busy))) := HJ.keepC (KeepC.putLoop _ HJ.lp) (World.putObj_heap_same hLs) ((World.putObj_heap_other (by omega)).trans HJ.dm) (belowPut _ (by omega) HJ.lp)
          have hmI1 : IvAt (W.putObj (D + 1) (.loop (RL .busy))) b (o + 3 * k) m := hmI.below (belowPut (n₀ := w.heap.size) _ (by omega) HJ.lp) hbl
          generalize W.putObj (D + 1) (.loop (RL .busy)) = W1 at *
          have hZ := Blk.new W1 217 #[.int .i64 0, .int .i64 0, .int .i64 0]
          have bZ : Below W1.heap.size W1 (W1.alloc (.cells #[.int .i64 0, .int .i64 0, .int .i64 0] 217)) := (Below.refl _ _).alloc (Nat.le_refl _) _
          have HJ2 := HJ1.of bZ
          have hmI2 : IvAt (W1.alloc (.cells #[.int .i64 0, .int .i64 0, .int .i64 0] 217)) b (o + 3 * k) m := hmI1.below (bZ.mono HJ1.be.size) hbl
          have hGs : w.heap.size ≤ W1.heap.size := HJ1.be.size
          clear HJ hmI HJ1 hmI1 bZ
          generalize hW2 : W1.alloc (.cells #[.int .i64 0, .int .i64 0, .int .i64 0] 217) = W2 at *
          obtain ⟨G, hG⟩ : ∃ G, W1.heap.size = G := ⟨_, rfl⟩
          rw [hG] at hZ hGs
          gi_wp2_with (first
            | (refine copyR m rfl rfl rfl rfl hZ hmI2 hm3 ?_; intro W3 hP g3' b3; have HJ3 : AtJ w B q5 (q5 + 1) D (D + 1) (RL .busy) (.slice (some ⟨b, o, none⟩) ev.length c) yk W3 := HJ2.grown g3' hZ (by decide) (by decide) (by decide) (by omega))
            | (refine loadR (k := 0) 217 (p3 m) rfl rfl rfl hP (by kernel_rfl) (by kernel_rfl) rfl ?_)
            | (refine ⟨trivial, rfl, ?_⟩; gi_at_call 114; refine (CallsIn.inRound (D + 1) (callsIn_wide.2 (HJN.out _))).mono ?_; rintro e W4 ⟨rfl, b4⟩; have HJ4 := HJ3.of b4)
            | (refine ⟨trivial, rfl, ?_⟩; gi_at_call 112; refine (CallsIn.inRound (D + 1) (callsIn_wide.2 (HMU.out _))).mono ?_; rintro e W5 ⟨rfl, b5⟩; have HJ5 := HJ4.of b5)
            | (refine ⟨trivial, rfl, ?_⟩; gi_at_call 92; refine (CallsIn.inRound (D + 1) (callsIn_wide.2 (write_bo B yk yb _ HJ5.bo (by omega) (Nat.le_of_lt (bo_lt HJ5.bo))))).mono ?_; rintro e W6 ⟨rfl, HO6, b6', K6⟩))
          have hl6 := K6.loop HJ5.lp
          have HJ6 : AtJ w B q5 (q5 + 1) D (D + 1) (RL .busy) (.slice (some ⟨b, o, none⟩) ev.length c) (yk ++ yb) W6 := ⟨HO6, K6.blk HJ5.x1 (by decide) (by decide), K6.blk HJ5.x2 (by decide) (by decide), hl6, K6.mark HJ5.dm, HJ5.be.trans (b6'.mono (by omega))⟩
          exact ⟨hl6, rfl, HJ6.keepC (KeepC.putLoop _ hl6) (World.putObj_heap_same (Array.getElem?_eq_some_iff.1 hl6).1) ((World.putObj_heap_other (by omega)).trans HJ6.dm) (belowPut _ (by omega) hl6)⟩
        · rintro e w' ⟨hv, hJ⟩
          rw [hend] at hJ
          exact ⟨hv, hJ⟩
    refine HIT.mono ?_
    rintro e W2 ⟨hv, HJ2⟩
    refine ⟨hv, HJ2.lp, ?_⟩
    have HO7 := bo_keepC HJ2.bo (KeepC.putLoop (.loop (RL .exhausted)) HJ2.lp)
    have HD7 : (W2.putObj (D + 1) (.loop (RL .exhausted))).heap[D]? = some (.deferred (some [])) := (World.putObj_heap_other (by omega)).trans HJ2.dm
    have B7 : Below g w (W2.putObj (D + 1) (.loop (RL .exhausted))) := by
      have q := HJ2.be
      rw [hg] at q
      exact q.trans (belowPut _ (by omega) HJ2.lp)
    rw [← HAW.out] at HO7
    generalize W2.putObj (D + 1) (.loop (RL .exhausted)) = w7 at *
    have HST := Lib.hid (string_bo HO7 hne)
    clear HIT HJ0 HJ2 HL HD bW hRL HO6 HX1 HX2 b6 HM1
    go_wp2_with fail
    refine HST.out.mono ?_
    rintro e w8 ⟨rfl, b8, K8⟩
    have HD8 := K8.mark HD7
    have B8 := B7.trans (b8.mono (Nat.le_of_lt hgB))
    go_wp2
    refine ret_marks HD8 (results_tmp rfl _ _ _) ⟨rfl, ?_⟩
    rw [hg]
    exact B8.trans (belowPut _ (by omega) HD8)
  · have q0 : IntKind.i64.wrap ((ev.length : Int) + 8192) = (Y : Int) := by rw [hcn, IntKind.wrap_i64] <;> simp <;> omega
    clear hcn
    go_upto_region 5 with (fail)
    generalize w1.alloc (.cells #[.pointer none, .slice none 0 0] 188) = w2 at *
    refine wp_region_noPanic ?_
    refine wp_region_held_drew (S := (fun w' => Blk w' g 92 #[.bool true, .int .i64 (F : Nat), .slice a ev.length c])) (by kernel_rfl) ?_ (fun hHeld => ?_)
    · exact HA1
    refine wpAnyH_take (i := 0) (v := ?_) rfl (by kernel_rfl) (by kernel_rfl) (by kernel_rfl) (fun _ _ _ h => h) (Or.inl ⟨by rfl, ?_⟩) (by assumption) ?_
    rotate_left
    · (intro w hSw; (try dsimp only at hSw); go_simp; (try with_reducible rfl))
    (try simp only [Act.put, List.getElem_toArray, List.getElem_cons_zero, List.getElem_cons_succ, List.setIfInBounds_toArray, List.set_cons_zero, List.set_cons_succ])
    refine wpAnyH_take (i := 2) (v := ?_) rfl (by kernel_rfl) (by kernel_rfl) (by kernel_rfl) (fun _ _ _ h => h) (Or.inl ⟨by rfl, ?_⟩) (by assumption) ?_
    rotate_left
    · (intro w hSw; (try dsimp only at hSw); go_simp; (try with_reducible rfl))
    (try simp only [Act.put, List.getElem_toArray, List.getElem_cons_zero, List.getElem_cons_succ, List.setIfInBounds_toArray, List.set_cons_zero, List.set_cons_succ])
    refine wpAnyH_take (i := 3) (v := .int .i64 (F : Nat)) rfl (by kernel_rfl) (by kernel_rfl) (by kernel_rfl) (fun _ _ _ h => h) (Or.inl ⟨by rfl, fun w hSw => by have c := hSw.cv 1 (.int .i64 (F : Nat)) rfl; go_simp⟩) (by assumption) ?_
    (try simp only [Act.put, List.getElem_toArray, List.getElem_cons_zero, List.getElem_cons_succ, List.setIfInBounds_toArray, List.set_cons_zero, List.set_cons_succ])
    refine wpAnyH_ready (rs := [1]) (by kernel_rfl) (by simp) ?_
    refine AllReadyH.cons rfl (fun K hK => ?_) AllReadyH.nil
    simp only [List.getElem_toArray, List.getElem_cons_zero, List.getElem_cons_succ]
    go_simp
    go_at_call 112; (with_reducible refine (HMY.out _).mono ?_); rintro e w3 ⟨rfl, b3⟩; have HA3 := HA1.drew.kept b3; have HO3 := bo_keepC HBO ((KeepC.drew _).trans (KeepC.of b3)); have B3 := B1.drew.trans (b3.mono (by have := B1.drew.size; omega))
    refine hK.out _ _ ?_ (fun hHeld => ?_)
    · exact HA3
    clear hK K
    (try simp only [Act.put, List.getElem_toArray, List.getElem_cons_zero, List.getElem_cons_succ, List.setIfInBounds_toArray, List.set_cons_zero, List.set_cons_succ])
    refine wpAnyH_ready (rs := [4]) (by kernel_rfl) (by simp) ?_
    refine AllReadyH.cons rfl (fun K hK => ?_) AllReadyH.nil
    simp only [List.getElem_toArray, List.getElem_cons_zero, List.getElem_cons_succ]
    go_simp
    go_at_call 112; (with_reducible refine (HMF.out _).mono ?_); rintro e w4 ⟨rfl, b4⟩; have HA4 := HA3.kept b4; have HO4 := bo_keepC HO3 (KeepC.of b4); have B4 := B3.trans (b4.mono (by have := B3.size; omega))
    refine hK.out _ _ ?_ (fun hHeld => ?_)
    · exact HA4
    clear hK K
    (try simp only [Act.put, List.getElem_toArray, List.getElem_cons_zero, List.getElem_cons_succ, List.setIfInBounds_toArray, List.set_cons_zero, List.set_cons_succ])
    refine wpAnyH_take (i := 5) (v := .string ⟨z1.toArray⟩) rfl (by kernel_rfl) (by kernel_rfl) (by kernel_rfl) (fun _ _ _ h => h) (Or.inl ⟨by rfl, fun w hSw => by go_simp⟩) (by assumption) ?_
    (try simp only [Act.put, List.getElem_toArray, List.getElem_cons_zero, List.getElem_cons_succ, List.setIfInBounds_toArray, List.set_cons_zero, List.set_cons_succ])
    refine wpAnyH_ready (rs := [6]) (by kernel_rfl) (by simp) ?_
    refine AllReadyH.cons rfl (fun K hK => ?_) AllReadyH.nil
    simp only [List.getElem_toArray, List.getElem_cons_zero, List.getElem_cons_succ]
    go_simp
    go_at_call 92; (with_reducible refine (HWB.out z1 _ HO4 (by omega)).mono ?_); rintro e w5 ⟨rfl, HO5, b5, K5⟩; have HA5 := K5.blk HA4 (by decide) (by decide); have B5 := B4.trans b5
    refine hK.out _ _ ?_ (fun hHeld => ?_)
    · exact HA5
    clear hK K
    (try simp only [Act.put, List.getElem_toArray, List.getElem_cons_zero, List.getElem_cons_succ, List.setIfInBounds_toArray, List.set_cons_zero, List.set_cons_succ])
    refine wpAnyH_done (by kernel_rfl) ?_ _
    refine NoPanic.normal ?_
    clear HBO HA1 HA3 HA4 HO3 HO4 b3 b4 B3 K5 HMF HMY p1 HWB zl1 b5 B1
    have m1 := HA5.cv 2 (.slice a ev.length c) rfl
    have hs5 := B5.size
    have HCH := Lib.hid (chunk_any a ev.length c w5)
    go_wp2_with fail
    refine HCH.out.mono ?_
    rintro e w6 ⟨rfl, HX1, HX2, b6, hs6⟩
    have HO6 := bo_keepC HO5 (KeepC.of b6)
    have hB0 : g < w1.heap.size := by omega
    have B6 := B0.trans ((B5.trans (b6.mono (show B ≤ w5.heap.size by omega))).mono (Nat.le_of_lt hgB))
    clear HCH m1 HO5 HA5 B4 B5
    go_wp2_with fail
    have hB6 : B ≤ w6.heap.size := by omega
    generalize w5.heap.size = q5 at *
    refine rf_outer rfl (enters_of Tryd.func124 (by kernel_rfl) rfl) ?_
    intro fn RL W hRL HL HD bW hW
    have HJ0 : AtJ w B q5 (q5 + 1) w6.heap.size (w6.heap.size + 1) (RL .ready) (.slice a ev.length c) z1 W := ⟨bo_keepC HO6 (KeepC.of bW), HX1.kept bW, HX2.kept bW, HL, HD, by rw [hg]; exact B6.trans (bW.mono (by omega))⟩
    generalize w6.heap.size = D at *
    have hgD : g < D := by omega
    have hq5 : q5 + 1 < D := by omega
    replace hs6 := Lib.hid hs6
    replace hW := Lib.hid hW
    have HIT : Calls Tryd.prog 124 #[.func (.yield (D + 1)) #[] #[], .pointer (some ⟨q5, 0, none⟩), .pointer (some ⟨q5 + 1, 0, none⟩)] W fun e w' => (∃ v, e = .returned v) ∧ AtJ w B q5 (q5 + 1) D (D + 1) (RL .ready) (.slice a ev.length c) (z1 ++ evL ev) w' := by
      by_cases h0 : ev = []
      · subst h0
        refine (chunk_nil (D + 1) q5 (q5 + 1) a c W HJ0.x1).mono ?_
        rintro e w' ⟨hv, rfl⟩
        exact ⟨hv, by simpa [evL] using HJ0⟩
      · obtain ⟨b, o, rfl, hbl, hat⟩ := h.at (k := 0) (List.length_pos_iff.2 h0)
        have hend : ev.take (3 * ((ev.length + 2) / 3)) = ev := List.take_of_length_le (by omega)
        refine (chunk_it (D + 1) q5 (q5 + 1) b o ev.length c (by omega) (fun k W => AtJ w B q5 (q5 + 1) D (D + 1) (RL .ready) (.slice (some ⟨b, o, none⟩) ev.length c) (z1 ++ evL (ev.take (3 * k))) W) (fun k W h => h.x1) (fun k W h => h.x2)
          (fun k W h => h.keepC (KeepC.drew W) h.lp h.dm ((Below.refl _ _).drew)) hc ?_ W (by simpa [evL] using HJ0)).mono ?_
        · intro k W HJ hk
          obtain ⟨m, hm⟩ : ∃ m, (ev.drop (3 * k)).take 3 = m := ⟨_, rfl⟩
          have hml : m.length = min 3 (ev.length - 3 * k) := by rw [← hm, List.length_take, List.length_drop]
          have hm0 : 0 < m.length := by omega
          have hm3 : m.length ≤ 3 := by omega
          have hstep := evL_step ev k (by omega)
          rw [hm, evL_few m hm0 hm3] at hstep
          have hme : ∀ j : Nat, 0 ≤ m.getD j 0 ∧ m.getD j 0 ≤ 5 := fun j => by
            rw [List.getD_eq_getElem?_getD]
            cases hj : m[j]? with
            | none => exact ⟨by decide, by decide⟩
            | some v =>
              have hv := List.mem_of_getElem? hj
              rw [← hm] at hv
              exact he v (List.mem_of_mem_drop (List.mem_of_mem_take hv))
          have hmI : IvAt W b (o + 3 * k) m := fun j hj => by
            have e1 : ev[3 * k + j]? = m[j]? := by rw [← hm, List.getElem?_take, if_pos (by omega), List.getElem?_drop]
            have hj2 : 3 * k + j < ev.length := by omega
            rw [List.getElem?_eq_getElem hj2, List.getElem?_eq_getElem hj] at e1
            have e2 := (hat (3 * k + j) hj2).below HJ.be (by omega)
            rw [Option.some.inj e1] at e2
            rw [show o + 3 * k + j * 1 = o + (3 * k + j) * 1 by omega]
            exact e2
          obtain ⟨G3, hG3⟩ : ∃ G3, g3 (m.getD 0 0) (m.getD 1 0) (m.getD 2 0) = G3 := ⟨_, rfl⟩
          have HJN : Hid (∀ W, Calls Tryd.prog 114 #[.agg (p3 m)] W fun e w' => e = .returned (.int .i64 (G3 : Nat)) ∧ Below W.heap.size W w') := fun W => by rw [← hG3]; exact join_any (m.getD 0 0) (m.getD 1 0) (m.getD 2 0) (hme 0) (hme 1) (hme 2) W
          rw [hG3] at hstep
          have HMU := Lib.hid (fun W => HM1.out G3 W (by rw [← hG3]; exact (g3_lt (hme 0) (hme 1) (hme 2)).1))
          have hyl : (z1 ++ evL (ev.take (3 * k))).length ≤ 1000 := by
            rw [List.length_append, evL_len, List.length_take]
            omega
          have hnext : Hid (z1 ++ evL (ev.take (3 * (k + 1))) = (z1 ++ evL (ev.take (3 * k))) ++ putL G3 1) := by
            show _ = _
            rw [show 3 * (k + 1) = 3 * k + 3 by omega, hstep, List.append_assoc]
          rw [← hml, hnext.out]
          generalize z1 ++ evL (ev.take (3 * k)) = yk at *
          have hp1 : (putL G3 1).length = 1 := putL_length _ _
          generalize putL G3 1 = yb at *
          clear hstep hnext hG3 hend HJ0 hme
          replace hml := Lib.hid hml
          clear hm
          refine yield_of hRL HJ.lp rfl ?_
          gi_wp2
          refine ⟨HJ.lp, ?_⟩
          have hLs := (Array.getElem?_eq_some_iff.1 HJ.lp).1
          have HJ1 : AtJ w B q5 (q5 + 1) D (D + 1) (RL .busy) (.slice (some ⟨b, o, none⟩) ev.length c) yk (W.putObj (D + 1) (.loop (RL .busy))) := HJ.keepC (KeepC.putLoop _ HJ.lp) (World.putObj_heap_same hLs) ((World.putObj_heap_other (by omega)).trans HJ.dm) (belowPut _ (by omega) HJ.lp)
          have hmI1 : IvAt (W.putObj (D + 1) (.loop (RL .busy))) b (o + 3 * k) m := hmI.below (belowPut (n₀ := w.heap.size) _ (by omega) HJ.lp) hbl
          generalize W.putObj (D + 1) (.loop (RL .busy)) = W1 at *
          have hZ := Blk.new W1 217 #[.int .i64 0, .int .i64 0, .int .i64 0]
          have bZ : Below W1.heap.size W1 (W1.alloc (.cells #[.int .i64 0, .int .i64 0, .int .i64 0] 217)) := (Below.refl _ _).alloc (Nat.le_refl _) _
          have HJ2 := HJ1.of bZ
          have hmI2 : IvAt (W1.alloc (.cells #[.int .i64 0, .int .i64 0, .int .i64 0] 217)) b (o + 3 * k) m := hmI1.below (bZ.mono HJ1.be.size) hbl
          have hGs : w.heap.size ≤ W1.heap.size := HJ1.be.size
          clear HJ hmI HJ1 hmI1 bZ
          generalize hW2 : W1.alloc (.cells #[.int .i64 0, .int .i64 0, .int .i64 0] 217) = W2 at *
          obtain ⟨G, hG⟩ : ∃ G, W1.heap.size = G := ⟨_, rfl⟩
          rw [hG] at hZ hGs
          gi_wp2_with (first
            | (refine copyR m rfl rfl rfl rfl hZ hmI2 hm3 ?_; intro W3 hP g3' b3; have HJ3 : AtJ w B q5 (q5 + 1) D (D + 1) (RL .busy) (.slice (some ⟨b, o, none⟩) ev.length c) yk W3 := HJ2.grown g3' hZ (by decide) (by decide) (by decide) (by omega))
            | (refine loadR (k := 0) 217 (p3 m) rfl rfl rfl hP (by kernel_rfl) (by kernel_rfl) rfl ?_)
            | (refine ⟨trivial, rfl, ?_⟩; gi_at_call 114; refine (CallsIn.inRound (D + 1) (callsIn_wide.2 (HJN.out _))).mono ?_; rintro e W4 ⟨rfl, b4⟩; have HJ4 := HJ3.of b4)
            | (refine ⟨trivial, rfl, ?_⟩; gi_at_call 112; refine (CallsIn.inRound (D + 1) (callsIn_wide.2 (HMU.out _))).mono ?_; rintro e W5 ⟨rfl, b5⟩; have HJ5 := HJ4.of b5)
            | (refine ⟨trivial, rfl, ?_⟩; gi_at_call 92; refine (CallsIn.inRound (D + 1) (callsIn_wide.2 (write_bo B yk yb _ HJ5.bo (by omega) (Nat.le_of_lt (bo_lt HJ5.bo))))).mono ?_; rintro e W6 ⟨rfl, HO6, b6', K6⟩))
          have hl6 := K6.loop HJ5.lp
          have HJ6 : AtJ w B q5 (q5 + 1) D (D + 1) (RL .busy) (.slice (some ⟨b, o, none⟩) ev.length c) (yk ++ yb) W6 := ⟨HO6, K6.blk HJ5.x1 (by decide) (by decide), K6.blk HJ5.x2 (by decide) (by decide), hl6, K6.mark HJ5.dm, HJ5.be.trans (b6'.mono (by omega))⟩
          exact ⟨hl6, rfl, HJ6.keepC (KeepC.putLoop _ hl6) (World.putObj_heap_same (Array.getElem?_eq_some_iff.1 hl6).1) ((World.putObj_heap_other (by omega)).trans HJ6.dm) (belowPut _ (by omega) hl6)⟩
        · rintro e w' ⟨hv, hJ⟩
          rw [hend] at hJ
          exact ⟨hv, hJ⟩
    refine HIT.mono ?_
    rintro e W2 ⟨hv, HJ2⟩
    refine ⟨hv, HJ2.lp, ?_⟩
    have HO7 := bo_keepC HJ2.bo (KeepC.putLoop (.loop (RL .exhausted)) HJ2.lp)
    have HD7 : (W2.putObj (D + 1) (.loop (RL .exhausted))).heap[D]? = some (.deferred (some [])) := (World.putObj_heap_other (by omega)).trans HJ2.dm
    have B7 : Below g w (W2.putObj (D + 1) (.loop (RL .exhausted))) := by
      have q := HJ2.be
      rw [hg] at q
      exact q.trans (belowPut _ (by omega) HJ2.lp)
    rw [← HAW.out] at HO7
    generalize W2.putObj (D + 1) (.loop (RL .exhausted)) = w7 at *
    have HST := Lib.hid (string_bo HO7 hne)
    clear HIT HJ0 HJ2 HL HD bW hRL HO6 HX1 HX2 b6 HM1
    go_wp2_with fail
    refine HST.out.mono ?_
    rintro e w8 ⟨rfl, b8, K8⟩
    have HD8 := K8.mark HD7
    have B8 := B7.trans (b8.mono (Nat.le_of_lt hgB))
    go_wp2
    refine ret_marks HD8 (results_tmp rfl _ _ _) ⟨rfl, ?_⟩
    rw [hg]
    exact B8.trans (belowPut _ (by omega) HD8)


end Go.Proofs.YtdjljnpbnhampaaDoor
