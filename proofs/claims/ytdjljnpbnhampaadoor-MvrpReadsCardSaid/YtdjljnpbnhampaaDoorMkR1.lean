/- Texts one behind the other. wire.Must of a number that fits. A Builder elsewhere is as it was. mvrp.join, attrText: an attribute as bytes. switchyardlaw.placed: an error that is this one, at this place. (apart: ErrAs, ErrAs.below, ErrAs.nil) mvrp.Write at every list of attributes. Are attributes the same? Are attributes the same, says the reference? -/
import Derived.Test.YtdjljnpbnhampaaDoorPut
import Derived.Lib.Hide
import Derived.Test.YtdjljnpbnhampaaDoorBuildF
import Derived.Test.YtdjljnpbnhampaaDoorBy
import Derived.Test.YtdjljnpbnhampaaDoorMvRight
import Derived.Test.YtdjljnpbnhampaaDoorMvBackM
import Derived.Test.YtdjljnpbnhampaaDoorChunk
import Derived.Test.YtdjljnpbnhampaaDoorBuildO
import Derived.Test.YtdjljnpbnhampaaDoorFlt
import Derived.Test.YtdjljnpbnhampaaDoorBlk
import Derived.Test.YtdjljnpbnhampaaDoorShelf
namespace Go.Proofs.YtdjljnpbnhampaaDoor
open Go.RowKit

set_option maxHeartbeats 800000 in
theorem must_put (X : Nat) (n : Int) (v er : Value) (w : World) (hX : X ≤ 4611686018427387904) (hp : ∀ w2, Calls Tryd.prog 118 #[.int .u64 X, .int .i64 n] w2 fun e w' => e = .returned (.tuple #[v, er]) ∧ Below w2.heap.size w2 w') :
    Calls Tryd.prog 112 #[.int .i64 X, .int .i64 n] w fun e w' => e = .returned v ∧ Below w.heap.size w w' := by
  have HP := Lib.hid hp
  clear hp
  have HW : Hid (IntKind.u64.wrap (X : Int) = (X : Int)) := by show _ = _; rw [IntKind.wrap_u64]; omega
  go_enter Tryd.func112, Tryd.ntmps112
  go_wp2_with fail
  refine (HP.out _).mono ?_
  rintro e w' ⟨rfl, hb⟩
  go_wp2
  go_ret
  exact ⟨rfl, hb⟩

/-- Must, the number fits: its n bytes. -/
theorem must_fits (X n : Nat) (w : World) (h1 : 1 ≤ n) (h7 : n ≤ 7) (hf : X < 256 ^ n) :
    Calls Tryd.prog 112 #[.int .i64 X, .int .i64 n] w fun e w' => e = .returned (.string ⟨(putL X n).toArray⟩) ∧ Below w.heap.size w w' := by
  have hX : X ≤ 4611686018427387904 := by
    have : 256 ^ n ≤ 256 ^ 7 := Nat.pow_le_pow_right (by decide) h7
    omega
  exact must_put X n _ _ w hX fun w2 => put_fits X n w2 h1 (by omega) (fits_to X n hf)

end Go.Proofs.YtdjljnpbnhampaaDoor

namespace Go.Proofs.YtdjljnpbnhampaaDoor
open Go.RowKit
attribute [local go_sem ↓] Go.wp_at_zero Go.wp_at_succ
set_option linter.unusedSimpArgs false
set_option linter.unusedVariables false
set_option maxRecDepth 100000

theorem isB_below {T e : TypeId} {B b : Nat} {bs : List Value} {w w' : World} (h : Lib.IsBuilder T e B b bs w) (hb : Below w.heap.size w w') : Lib.IsBuilder T e B b bs w' := by
  have hg : w.grownBy w' none := ⟨hb.os, hb.tape, hb.output, hb.size, fun k hk _ => hb.block k hk⟩
  have key : ∀ p, Lib.BuilderAt T e B b p bs w → Lib.BuilderAt T e B b p bs w' := fun p h => by
    have hlt := h.lt
    obtain ⟨hB, v, hbk, hown, hne⟩ := h
    exact ⟨hB, v, (hb.block b hlt).trans hbk, hown.kept hg (by cases hv : v.ownBlock <;> simp), hne⟩
  rcases h with h | h
  · exact Or.inl (key _ h)
  · exact Or.inr (key _ h)

theorem Tryd.bdZero : (Tryd.prog.info? 188).map (·.zero) = some (some (.agg #[.pointer none, .slice none 0 0])) := by kernel_rfl

end Go.Proofs.YtdjljnpbnhampaaDoor

namespace Go.Proofs.YtdjljnpbnhampaaDoor
open Go.RowKit
attribute [local go_sem ↓] Go.wp_at_zero Go.wp_at_succ
attribute [local go_sem] Oper.semAt_some
set_option linter.unusedSimpArgs false
set_option linter.unusedVariables false
set_option maxRecDepth 100000

/-- The first three, noughts behind them. -/
def p3 (l : List Int) : Array Value := #[.int .i64 (l.getD 0 0), .int .i64 (l.getD 1 0), .int .i64 (l.getD 2 0)]

theorem join_any (a b c : Int) (ha : 0 ≤ a ∧ a ≤ 5) (hb : 0 ≤ b ∧ b ≤ 5) (hc : 0 ≤ c ∧ c ≤ 5) (w : World) :
    Calls Tryd.prog 114 #[.agg #[.int .i64 a, .int .i64 b, .int .i64 c]] w fun e w' => e = .returned (.int .i64 (g3 a b c : Nat)) ∧ Below w.heap.size w w' := by
  have hb0 : Below w.heap.size w (w.alloc (.cells #[.int .i64 a, .int .i64 b, .int .i64 c] 217)) := (Below.refl _ _).alloc (Nat.le_refl _) _
  have e : ((g3 a b c : Nat) : Int) = 6 * (6 * a + b) + c := by unfold g3; omega
  have q1 : IntKind.i64.wrap (6 * a) = 6 * a := by rw [IntKind.wrap_i64] <;> omega
  have q2 : IntKind.i64.wrap (6 * a + b) = 6 * a + b := by rw [IntKind.wrap_i64] <;> omega
  have q3 : IntKind.i64.wrap (6 * (6 * a + b)) = 6 * (6 * a + b) := by rw [IntKind.wrap_i64] <;> omega
  have q4 : IntKind.i64.wrap (6 * (6 * a + b) + c) = 6 * (6 * a + b) + c := by rw [IntKind.wrap_i64] <;> omega
  rw [e]
  clear e ha hb hc
  go_enter Tryd.func114, Tryd.ntmps114
  go_wp2
  go_ret
  exact ⟨rfl, hb0⟩

theorem evL_few : ∀ (m : List Int), 0 < m.length → m.length ≤ 3 → evL m = putL (g3 (m.getD 0 0) (m.getD 1 0) (m.getD 2 0)) 1
  | [a], _, _ => by simp [evL]
  | [a, b], _, _ => by simp [evL]
  | [a, b, c], _, _ => by simp [evL]
  | a :: b :: c :: d :: l, _, h => by simp at h

theorem copy_few (m : List Int) (h : m.length ≤ 3) : ((#[Value.int .i64 0, .int .i64 0, .int .i64 0] : Array Value).toList.take 0 ++ (m.map fun v => Value.int .i64 v) ++ (#[Value.int .i64 0, .int .i64 0, .int .i64 0] : Array Value).toList.drop (0 + (m.map fun v => Value.int .i64 v).length)).toArray = p3 m := by
  match m, h with
  | [], _ => rfl
  | [a], _ => rfl
  | [a, b], _ => rfl
  | [a, b, c], _ => rfl
  | a :: b :: c :: d :: l, h => simp at h

/-- Three events into an array, in a round. -/
theorem copyR {F : Fence} {n : Nat} {ops : Array Oper} {rest : List Oper} {o : Oper} {a : Act} {w : World} {Q : Exit → Act → World → Prop} {d x : Operand} {B b q c : Nat} (m : List Int) (hg : o.guard = none)
    (hop : o.op = .call { callee := .builtin .copy, args := #[d, x], argTypes := #[90, 90] }) (hd : a.eval d = .slice (some ⟨B, 0, none⟩) 3 3) (hx : a.eval x = .slice (some ⟨b, q, none⟩) m.length c)
    (hB : Blk w B 217 #[.int .i64 0, .int .i64 0, .int .i64 0]) (hI : IvAt w b q m) (hm : m.length ≤ 3)
    (h : ∀ w', Blk w' B 217 (p3 m) → w.grownBy w' (some B) → Below B w w' → wpListIn F n Tryd.prog ops Q rest (a.put o.dst (goInt m.length)) w') : wpListIn F n Tryd.prog ops Q (o :: rest) a w := by
  refine wpListIn_plain hg fun K hK => ?_
  have hrun := run_copy_row (P := Tryd.prog) w 90 90 o.type 3 B 0 3 3 ⟨b, q, none⟩ m.length c #[.int .i64 0, .int .i64 0, .int .i64 0] 217 (m.map fun v => .int .i64 v) Tryd.underlying90 (by kernel_rfl) hB
    (by rw [List.length_map]; exact (Nat.min_eq_left hm).symm) (fun j v hv => by
      rw [List.getElem?_map] at hv
      obtain ⟨y, hy, rfl⟩ := Option.map_eq_some_iff.1 hv
      obtain ⟨hj, hy⟩ := List.getElem?_eq_some_iff.1 hy
      have e := hI j hj 0 (.int .i64 m[j]) rfl
      rw [Nat.mul_one, Nat.add_zero] at e
      rw [Addr.add_lit, e, hy]) (by rw [List.length_map]; simpa using hm) (fun v hv => by
      obtain ⟨y, _, rfl⟩ := List.mem_map.1 hv
      rfl)
  rw [copy_few m hm, List.length_map] at hrun
  unfold Oper.wpIn
  refine ⟨by simp [Oper.about, hop, resolve, Target.leads, Sem.run_pure], ?_⟩
  rw [Oper.semAt_plain F _ _ (by rw [hop]; intro c hc'; cases hc')]
  simp [execOp, hop, resolve, invoke, builtin, hd, hx, hrun, Result.andThen]
  exact hK _ _ (h _ (hB.setRow _) ⟨rfl, rfl, rfl, by simp, fun j _ hj => setRow_other w B j _ (by intro e; subst e; exact hj rfl)⟩ (below_setRow (Below.refl _ _) (Nat.le_refl _) _))

/-- What holds between two rounds. -/
structure AtJ (w0 : World) (B b1 b2 D L : Nat) (r : Loop) (sl : Value) (y : List UInt8) (W : World) : Prop where
  bo : BO B y W
  x1 : Blk W b1 90 #[sl]
  x2 : Blk W b2 3 #[.int .i64 3]
  lp : W.heap[L]? = some (.loop r)
  dm : W.heap[D]? = some (.deferred (some []))
  be : Below w0.heap.size w0 W

theorem AtJ.keepC {w0 W W' : World} {B b1 b2 D L : Nat} {r r' : Loop} {sl : Value} {y : List UInt8} (h : AtJ w0 B b1 b2 D L r sl y W) (hk : KeepC W W') (hl : W'.heap[L]? = some (.loop r')) (hm : W'.heap[D]? = some (.deferred (some []))) (hb : Below w0.heap.size W W') : AtJ w0 B b1 b2 D L r' sl y W' :=
  ⟨bo_keepC h.bo hk, hk.blk h.x1, hk.blk h.x2, hl, hm, h.be.trans hb⟩

theorem AtJ.grown {w0 W W' : World} {B b1 b2 D L G : Nat} {r : Loop} {sl : Value} {y : List UInt8} {T : TypeId} {C : Array Value} (h : AtJ w0 B b1 b2 D L r sl y W) (hg : W.grownBy W' (some G)) (hG : Blk W G T C) (h1 : T ≠ 5) (h2 : T ≠ 188) (h3 : T ≠ 90 ∧ T ≠ 3) (h4 : w0.heap.size ≤ G) : AtJ w0 B b1 b2 D L r sl y W' := by
  have hne : ∀ (X : Nat) (o : Obj), W.heap[X]? = some o → (∀ C2 F, o ≠ Obj.cells C2 T F) → W'.heap[X]? = some o := fun X o ho hno => by
    refine (hg.block X (Array.getElem?_eq_some_iff.1 ho).1 ?_).trans ho
    intro e
    obtain rfl : X = G := by simpa using e
    have q : W.heap[X]? = some (.cells C T (0, 0)) := hG
    rw [ho] at q
    injection q with q
    exact hno _ _ q
  have key : ∀ p, Lib.BuilderAt 188 5 B B p (Lib.byteCells y) W → Lib.BuilderAt 188 5 B B p (Lib.byteCells y) W' := fun p h => by
    obtain ⟨hB, v, hbk, hown, hne2⟩ := h
    refine ⟨hB, v, hne _ _ hbk (fun C2 F e => by injection e with _ e; exact h2 e.symm), hown.kept hg ?_, hne2⟩
    rcases hown.2 with ⟨rfl, _⟩ | ⟨g, cap, cur, rfl, _, hgb, _⟩
    · exact Or.inl rfl
    · refine Or.inr fun e => ?_
      obtain rfl : g = G := by simpa [Value.ownBlock] using e
      have q : W.heap[g]? = some (.cells C T (0, 0)) := hG
      rw [hgb] at q
      injection q with q
      injection q with _ q
      exact h1 q.symm
  refine ⟨?_, hne _ _ h.x1 (fun C2 F e => by injection e with _ e; exact h3.1 e.symm), hne _ _ h.x2 (fun C2 F e => by injection e with _ e; exact h3.2 e.symm), hne _ _ h.lp (fun C2 F e => by cases e), hne _ _ h.dm (fun C2 F e => by cases e), ?_⟩
  · rcases h.bo with q | q
    · exact Or.inl (key _ q)
    · exact Or.inr (key _ q)
  · exact h.be.grown hg h.be.size (fun k e => by cases e; exact h4)

theorem AtJ.of {w0 W W' : World} {B b1 b2 D L : Nat} {r : Loop} {sl : Value} {y : List UInt8} (h : AtJ w0 B b1 b2 D L r sl y W) (hb : Below W.heap.size W W') : AtJ w0 B b1 b2 D L r sl y W' :=
  h.keepC (KeepC.of hb) (loop_below h.lp hb) (loop_below h.dm hb) (hb.mono h.be.size)

set_option maxHeartbeats 12800000 in
theorem attrText_any (x : Mv) (a : Option Addr) (c : Nat) (hc : x.ev.length ≤ c) (w : World) (hx : okMv x = true) (h : IvIn w a x.ev) :
    Calls Tryd.prog 93 #[.agg (mvC ⟨x, a, c⟩)] w fun e w' => e = .returned (.string ⟨(attrW x).toArray⟩) ∧ Below w.heap.size w w' := by
  have hl := okMv_len hx
  have hf := okMv_first hx
  have he := okMv_ev hx
  have HM : Hid (∀ (X : Nat) (W : World), X < 65536 → Calls Tryd.prog 112 #[.int .i64 (X : Nat), .int .i64 2] W fun e w' => e = .returned (.string ⟨(putL X 2).toArray⟩) ∧ Below W.heap.size W w') := fun X W hX => must_fits X 2 W (by decide) (by decide) hX
  have HAW : Hid (attrW x = putL (cntMv x) 2 ++ putL x.first.toNat 2 ++ evL x.ev) := by show _ = _; unfold attrW; rw [List.append_assoc]
  obtain ⟨F, hF⟩ : ∃ F : Nat, x.first = (F : Int) := ⟨x.first.toNat, by omega⟩
  have hFl : F < 65536 := by omega
  obtain ⟨Y, hY⟩ : ∃ Y, cntMv x = Y := ⟨_, rfl⟩
  have hYl : Y < 65536 := by rw [← hY]; have := (cnt_ok hx).2.1; omega
  rw [hF, hY, Int.toNat_natCast] at HAW
  have hcn : cntMv x = x.ev.length + if x.all then 8192 else 0 := rfl
  rw [hY] at hcn
  generalize attrW x = AW at *
  obtain ⟨al, fi, ev⟩ := x
  simp only at *
  subst hF
  clear hx hf hY
  unfold mvC
  simp only
  have HA := Blk.new w 92 #[.bool al, .int .i64 (F : Nat), .slice a ev.length c]
  have B0 : Below w.heap.size w (w.alloc (.cells #[.bool al, .int .i64 (F : Nat), .slice a ev.length c] 92)) := (Below.refl _ _).alloc (Nat.le_refl _) _
  have hs0 : (w.alloc (.cells #[.bool al, .int .i64 (F : Nat), .slice a ev.length c] 92)).heap.size = w.heap.size + 1 := by simp
  refine calls_of_marks Tryd.func93 rfl ?_
  simp only [Tryd.ntmps93, List.size_toArray, List.length_cons, List.length_nil, Nat.reduceAdd, Nat.reduceSub, Array.replicate_succ, Array.replicate_zero, List.push_toArray, List.append_toArray, List.nil_append, List.cons_append]
  go_upto_region 1 with (fail)
  generalize w.alloc (.cells #[.bool al, .int .i64 (F : Nat), .slice a ev.length c] 92) = w1 at *
  have k0 := HA.cv 0 (.bool al) rfl
  have k1 := HA.cv 1 (.int .i64 (F : Nat)) rfl
  have k2 := HA.cv 2 (.slice a ev.length c) rfl
  generalize hg : w.heap.size = g at *
  have HBO := bo_new w1
  have B1 : Below w1.heap.size w1 (w1.alloc (.cells #[.pointer none, .slice none 0 0] 188)) := (Below.refl _ _).alloc (Nat.le_refl _) _
  have HA1 := HA.kept B1
  obtain ⟨B, hB⟩ : ∃ B, w1.heap.size = B := ⟨_, rfl⟩
  have hgB : g < B := by rw [← hB, hs0]; omega
  clear hs0
  rw [hB] at HBO B1
  have hsl : (putL Y 2 ++ putL F 2).length = 4 := by rw [List.length_append, putL_length, putL_length]
  obtain ⟨z1, hz1⟩ : ∃ z, z = putL Y 2 ++ putL F 2 := ⟨_, rfl⟩
  have p1 : ∀ W, (Op.stringOp .add ⟨(putL Y 2).toArray⟩ ⟨(putL F 2).toArray⟩).run Tryd.prog W = .ok (.string ⟨z1.toArray⟩) W := fun W => by rw [hz1]; exact run_string_add_lists W (putL Y 2) (putL F 2) (by rw [putL_length]; omega) (by rw [putL_length]; omega)
  have zl1 : z1.length = 4 := by rw [hz1]; exact hsl
  have zl2 : z1.length ≤ 4 := Nat.le_of_eq zl1
  rw [← hz1] at HAW
  have hne : AW ≠ [] := by
    rw [HAW.out]
    intro q
    have q2 := congrArg List.length q
    rw [List.length_append, zl1] at q2
    simp at q2
  clear hz1 hsl
  have HMF := Lib.hid (fun W => HM.out F W hFl)
  have HMY := Lib.hid (fun W => HM.out Y W hYl)
  have HM1 : Hid (∀ (X : Nat) (W : World), X ≤ 215 → Calls Tryd.prog 112 #[.int .i64 (X : Nat), .int .i64 1] W fun e w' => e = .returned (.string ⟨(putL X 1).toArray⟩) ∧ Below W.heap.size W w') := fun X W hX => must_fits X 1 W (by decide) (by decide) (by omega)
  have HWB : Hid (∀ (z : List UInt8) (W : World), BO B [] W → z.length ≤ 1000 → Calls Tryd.prog 92 #[.pointer (some ⟨B, 0, none⟩), .string ⟨z.toArray⟩] W fun e w' => e = .returned (.tuple #[.int .i64 z.length, .nilIface]) ∧ BO B z w' ∧ Below B W w' ∧ KeepO W w') := fun z W hB hz => by
    have q := write_bo B [] z W hB (by simp; omega) (Nat.le_of_lt (bo_lt hB))
    rw [List.nil_append] at q
    exact q
  generalize hY1 : putL Y 2 = y1 at *
  generalize hY2 : putL F 2 = y2 at *
  clear hY1 hY2 HM
  cases al
  · obtain rfl : Y = ev.length := hcn
    go_upto_region 5 with (fail)
    generalize w1.alloc (.cells #[.pointer none, .slice none 0 0] 188) = w2 at *
    refine wp_region_noPanic ?_
    refine wp_region_held_drew (S := (fun w' => Blk w' g 92 #[.bool false, .int .i64 (F : Nat), .slice a ev.length c])) (by kernel_rfl) ?_ (fun hHeld => ?_)
    · exact HA1
    refine wpAnyH_take (i := 0) (v := ?_) rfl (by kernel_rfl) (by kernel_rfl) (by kernel_rfl) (fun _ _ _ h => h) (Or.inl ⟨by rfl, ?_⟩) (by assumption) ?_
    rotate_left
    · (intro w hSw; (try dsimp only at hSw); go_simp; (try with_reducible rfl))
    (try simp only [Act.put, List.getElem_toArray, List.getElem_cons_zero, List.getElem_cons_succ, List.setIfInBounds_toArray, List.set_cons_zero, List.set_cons_succ])
    refine wpAnyH_take (i := 2) (v := ?_) rfl (by kernel_rfl) (by kernel_rfl) (by kernel_rfl) (fun _ _ _ h => h) (Or.inl ⟨by rfl, ?_⟩) (by assumption) ?_
    rotate_left
    · (intro w hSw; (try dsimp only at hSw); go_simp; (try with_reducible rfl))
    (try simp only [Act.put, List.getElem_toArray, List.getElem_cons_zero, List.getElem_cons_succ, List.setIfInBounds_toArray, List.set_cons_zero, List.set_cons_succ])
    refine wpAnyH_take (i := 3) (v := .int .i64 (F : Nat)) rfl (by kernel_rfl) (by kernel_rfl) (by kernel_rfl) (fun _ _ _ h => h) (Or.inl ⟨by rfl, fun w hSw => by have c := hSw.cv 1 (.int .i64 (F : Nat)) rfl; go_simp⟩) (by assumption) ?_
    (try simp only [Act.put, List.getElem_toArray, List.getElem_cons_zero, List.getElem_cons_succ, List.setIfInBounds_toArray, List.set_cons_zero, List.set_cons_succ])
    refine wpAnyH_ready (rs := [1]) (by kernel_rfl) (by simp) ?_
    refine AllReadyH.cons rfl (fun K hK => ?_) AllReadyH.nil
    simp only [List.getElem_toArray, List.getElem_cons_zero, List.getElem_cons_succ]
    go_simp
    go_at_call 112; (with_reducible refine (HMY.out _).mono ?_); rintro e w3 ⟨rfl, b3⟩; have HA3 := HA1.drew.kept b3; have HO3 := bo_keepC HBO ((KeepC.drew _).trans (KeepC.of b3)); have B3 := B1.drew.trans (b3.mono (by have := B1.drew.size; omega))
    refine hK.out _ _ ?_ (fun hHeld => ?_)
    · exact HA3
    clear hK K
    (try simp only [Act.put, List.getElem_toArray, List.getElem_cons_zero, List.getElem_cons_succ, List.setIfInBounds_toArray, List.set_cons_zero, List.set_cons_succ])
    refine wpAnyH_ready (rs := [4]) (by kernel_rfl) (by simp) ?_
    refine AllReadyH.cons rfl (fun K hK => ?_) AllReadyH.nil
    simp only [List.getElem_toArray, List.getElem_cons_zero, List.getElem_cons_succ]
    go_simp
    go_at_call 112; (with_reducible refine (HMF.out _).mono ?_); rintro e w4 ⟨rfl, b4⟩; have HA4 := HA3.kept b4; have HO4 := bo_keepC HO3 (KeepC.of b4); have B4 := B3.trans (b4.mono (by have := B3.size; omega))
    refine hK.out _ _ ?_ (fun hHeld => ?_)
    · exact HA4
    clear hK K
    (try simp only [Act.put, List.getElem_toArray, List.getElem_cons_zero, List.getElem_cons_succ, List.setIfInBounds_toArray, List.set_cons_zero, List.set_cons_succ])
    refine wpAnyH_take (i := 5) (v := .string ⟨z1.toArray⟩) rfl (by kernel_rfl) (by kernel_rfl) (by kernel_rfl) (fun _ _ _ h => h) (Or.inl ⟨by rfl, fun w hSw => by go_simp⟩) (by assumption) ?_
    (try simp only [Act.put, List.getElem_toArray, List.getElem_cons_zero, List.getElem_cons_succ, List.setIfInBounds_toArray, List.set_cons_zero, List.set_cons_succ])
    refine wpAnyH_ready (rs := [6]) (by kernel_rfl) (by simp) ?_
    refine AllReadyH.cons rfl (fun K hK => ?_) AllReadyH.nil
    simp only [List.getElem_toArray, List.getElem_cons_zero, List.getElem_cons_succ]
    go_simp
    go_at_call 92; (with_reducible refine (HWB.out z1 _ HO4 (by omega)).mono ?_); rintro e w5 ⟨rfl, HO5, b5, K5⟩; have HA5 := K5.blk HA4 (by decide) (by decide); have B5 := B4.trans b5
    refine hK.out _ _ ?_ (fun hHeld => ?_)
    · exact HA5
    clear hK K
    (try simp only [Act.put, List.getElem_toArray, List.getElem_cons_zero, List.getElem_cons_succ, List.setIfInBounds_toArray, List.set_cons_zero, List.set_cons_succ])
    refine wpAnyH_done (by kernel_rfl) ?_ _
    refine NoPanic.normal ?_
    clear HBO HA1 HA3 HA4 HO3 HO4 b3 b4 B3 K5 HMF HMY p1 HWB zl1 b5 B1
    have m1 := HA5.cv 2 (.slice a ev.length c) rfl
    have hs5 := B5.size
    have HCH := Lib.hid (chunk_any a ev.length c w5)
    go_wp2_with fail
    refine HCH.out.mono ?_
    rintro e w6 ⟨rfl, HX1, HX2, b6, hs6⟩
    have HO6 := bo_keepC HO5 (KeepC.of b6)
    have hB0 : g < w1.heap.size := by omega
    have B6 := B0.trans ((B5.trans (b6.mono (show B ≤ w5.heap.size by omega))).mono (Nat.le_of_lt hgB))
    clear HCH m1 HO5 HA5 B4 B5
    go_wp2_with fail
    have hB6 : B ≤ w6.heap.size := by omega
    generalize w5.heap.size = q5 at *
    refine rf_outer rfl (enters_of Tryd.func124 (by kernel_rfl) rfl) ?_
    intro fn RL W hRL HL HD bW hW
    have HJ0 : AtJ w B q5 (q5 + 1) w6.heap.size (w6.heap.size + 1) (RL .ready) (.slice a ev.length c) z1 W := ⟨bo_keepC HO6 (KeepC.of bW), HX1.kept bW, HX2.kept bW, HL, HD, by rw [hg]; exact B6.trans (bW.mono (by omega))⟩
    generalize w6.heap.size = D at *
    have hgD : g < D := by omega
    have hq5 : q5 + 1 < D := by omega
    replace hs6 := Lib.hid hs6
    replace hW := Lib.hid hW
    have HIT : Calls Tryd.prog 124 #[.func (.yield (D + 1)) #[] #[], .pointer (some ⟨q5, 0, none⟩), .pointer (some ⟨q5 + 1, 0, none⟩)] W fun e w' => (∃ v, e = .returned v) ∧ AtJ w B q5 (q5 + 1) D (D + 1) (RL .ready) (.slice a ev.length c) (z1 ++ evL ev) w' := by
      by_cases h0 : ev = []
      · subst h0
        refine (chunk_nil (D + 1) q5 (q5 + 1) a c W HJ0.x1).mono ?_
        rintro e w' ⟨hv, rfl⟩
        exact ⟨hv, by simpa [evL] using HJ0⟩
      · obtain ⟨b, o, rfl, hbl, hat⟩ := h.at (k := 0) (List.length_pos_iff.2 h0)
        have hend : ev.take (3 * ((ev.length + 2) / 3)) = ev := List.take_of_length_le (by omega)
        refine (chunk_it (D + 1) q5 (q5 + 1) b o ev.length c (by omega) (fun k W => AtJ w B q5 (q5 + 1) D (D + 1) (RL .ready) (.slice (some ⟨b, o, none⟩) ev.length c) (z1 ++ evL (ev.take (3 * k))) W) (fun k W h => h.x1) (fun k W h => h.x2)
          (fun k W h => h.keepC (KeepC.drew W) h.lp h.dm ((Below.refl _ _).drew)) hc ?_ W (by simpa [evL] using HJ0)).mono ?_
        · intro k W HJ hk
          obtain ⟨m, hm⟩ : ∃ m, (ev.drop (3 * k)).take 3 = m := ⟨_, rfl⟩
          have hml : m.length = min 3 (ev.length - 3 * k) := by rw [← hm, List.length_take, List.length_drop]
          have hm0 : 0 < m.length := by omega
          have hm3 : m.length ≤ 3 := by omega
          have hstep := evL_step ev k (by omega)
          rw [hm, evL_few m hm0 hm3] at hstep
          have hme : ∀ j : Nat, 0 ≤ m.getD j 0 ∧ m.getD j 0 ≤ 5 := fun j => by
            rw [List.getD_eq_getElem?_getD]
            cases hj : m[j]? with
            | none => exact ⟨by decide, by decide⟩
            | some v =>
              have hv := List.mem_of_getElem? hj
              rw [← hm] at hv
              exact he v (List.mem_of_mem_drop (List.mem_of_mem_take hv))
          have hmI : IvAt W b (o + 3 * k) m := fun j hj => by
            have e1 : ev[3 * k + j]? = m[j]? := by rw [← hm, List.getElem?_take, if_pos (by omega), List.getElem?_drop]
            have hj2 : 3 * k + j < ev.length := by omega
            rw [List.getElem?_eq_getElem hj2, List.getElem?_eq_getElem hj] at e1
            have e2 := (hat (3 * k + j) hj2).below HJ.be (by omega)
            rw [Option.some.inj e1] at e2
            rw [show o + 3 * k + j * 1 = o + (3 * k + j) * 1 by omega]
            exact e2
          obtain ⟨G3, hG3⟩ : ∃ G3, g3 (m.getD 0 0) (m.getD 1 0) (m.getD 2 0) = G3 := ⟨_, rfl⟩
          have HJN : Hid (∀ W, Calls Tryd.prog 114 #[.agg (p3 m)] W fun e w' => e = .returned (.int .i64 (G3 : Nat)) ∧ Below W.heap.size W w') := fun W => by rw [← hG3]; exact join_any (m.getD 0 0) (m.getD 1 0) (m.getD 2 0) (hme 0) (hme 1) (hme 2) W
          rw [hG3] at hstep
          have HMU := Lib.hid (fun W => HM1.out G3 W (by rw [← hG3]; exact (g3_lt (hme 0) (hme 1) (hme 2)).1))
          have hyl : (z1 ++ evL (ev.take (3 * k))).length ≤ 1000 := by
            rw [List.length_append, evL_len, List.length_take]
            omega
          have hnext : Hid (z1 ++ evL (ev.take (3 * (k + 1))) = (z1 ++ evL (ev.take (3 * k))) ++ putL G3 1) := by
            show _ = _
            rw [show 3 * (k + 1) = 3 * k + 3 by omega, hstep, List.append_assoc]
          rw [← hml, hnext.out]
          generalize z1 ++ evL (ev.take (3 * k)) = yk at *
          have hp1 : (putL G3 1).length = 1 := putL_length _ _
          generalize putL G3 1 = yb at *
          clear hstep hnext hG3 hend HJ0 hme
          replace hml := Lib.hid hml
          clear hm
          refine yield_of hRL HJ.lp rfl ?_
          gi_wp2
          refine ⟨HJ.lp, ?_⟩
          have hLs := (Array.getElem?_eq_some_iff.1 HJ.lp).1
          have HJ1 : AtJ w B q5 (q5 + 1) D (D + 1) (RL .busy) (.slice (some ⟨b, o, none⟩) ev.length c) yk (W.putObj (D + 1) (.loop (RL .busy))) := HJ.keepC (KeepC.putLoop _ HJ.lp) (World.putObj_heap_same hLs) ((World.putObj_heap_other (by omega)).trans HJ.dm) (belowPut _ (by omega) HJ.lp)
          have hmI1 : IvAt (W.putObj (D + 1) (.loop (RL .busy))) b (o + 3 * k) m := hmI.below (belowPut (n₀ := w.heap.size) _ (by omega) HJ.lp) hbl
          generalize W.putObj (D + 1) (.loop (RL .busy)) = W1 at *
          have hZ := Blk.new W1 217 #[.int .i64 0, .int .i64 0, .int .i64 0]
          have bZ : Below W1.heap.size W1 (W1.alloc (.cells #[.int .i64 0, .int .i64 0, .int .i64 0] 217)) := (Below.refl _ _).alloc (Nat.le_refl _) _
          have HJ2 := HJ1.of bZ
          have hmI2 : IvAt (W1.alloc (.cells #[.int .i64 0, .int .i64 0, .int .i64 0] 217)) b (o + 3 * k) m := hmI1.below (bZ.mono HJ1.be.size) hbl
          have hGs : w.heap.size ≤ W1.heap.size := HJ1.be.size
          clear HJ hmI HJ1 hmI1 bZ
          generalize hW2 : W1.alloc (.cells #[.int .i64 0, .int .i64 0, .int .i64 0] 217) = W2 at *
          obtain ⟨G, hG⟩ : ∃ G, W1.heap.size = G := ⟨_, rfl⟩
          rw [hG] at hZ hGs
          gi_wp2_with (first
            | (refine copyR m rfl rfl rfl rfl hZ hmI2 hm3 ?_; intro W3 hP g3' b3; have HJ3 : AtJ w B q5 (q5 + 1) D (D + 1) (RL .busy) (.slice (some ⟨b, o, none⟩) ev.length c) yk W3 := HJ2.grown g3' hZ (by decide) (by decide) (by decide) (by omega))
            | (refine loadR (k := 0) 217 (p3 m) rfl rfl rfl hP (by kernel_rfl) (by kernel_rfl) rfl ?_)
            | (refine ⟨trivial, rfl, ?_⟩; gi_at_call 114; refine (CallsIn.inRound (D + 1) (callsIn_wide.2 (HJN.out _))).mono ?_; rintro e W4 ⟨rfl, b4⟩; have HJ4 := HJ3.of b4)
            | (refine ⟨trivial, rfl, ?_⟩; gi_at_call 112; refine (CallsIn.inRound (D + 1) (callsIn_wide.2 (HMU.out _))).mono ?_; rintro e W5 ⟨rfl, b5⟩; have HJ5 := HJ4.of b5)
            | (refine ⟨trivial, rfl, ?_⟩; gi_at_call 92; refine (CallsIn.inRound (D + 1) (callsIn_wide.2 (write_bo B yk yb _ HJ5.bo (by omega) (Nat.le_of_lt (bo_lt HJ5.bo))))).mono ?_; rintro e W6 ⟨rfl, HO6, b6', K6⟩))
          have hl6 := K6.loop HJ5.lp
          have HJ6 : AtJ w B q5 (q5 + 1) D (D + 1) (RL .busy) (.slice (some ⟨b, o, none⟩) ev.length c) (yk ++ yb) W6 := ⟨HO6, K6.blk HJ5.x1 (by decide) (by decide), K6.blk HJ5.x2 (by decide) (by decide), hl6, K6.mark HJ5.dm, HJ5.be.trans (b6'.mono (by omega))⟩
          exact ⟨hl6, rfl, HJ6.keepC (KeepC.putLoop _ hl6) (World.putObj_heap_same (Array.getElem?_eq_some_iff.1 hl6).1) ((World.putObj_heap_other (by omega)).trans HJ6.dm) (belowPut _ (by omega) hl6)⟩
        · rintro e w' ⟨hv, hJ⟩
          rw [hend] at hJ
          exact ⟨hv, hJ⟩
    refine HIT.mono ?_
    rintro e W2 ⟨hv, HJ2⟩
    refine ⟨hv, HJ2.lp, ?_⟩
    have HO7 := bo_keepC HJ2.bo (KeepC.putLoop (.loop (RL .exhausted)) HJ2.lp)
    have HD7 : (W2.putObj (D + 1) (.loop (RL .exhausted))).heap[D]? = some (.deferred (some [])) := (World.putObj_heap_other (by omega)).trans HJ2.dm
    have B7 : Below g w (W2.putObj (D + 1) (.loop (RL .exhausted))) := by
      have q := HJ2.be
      rw [hg] at q
      exact q.trans (belowPut _ (by omega) HJ2.lp)
    rw [← HAW.out] at HO7
    generalize W2.putObj (D + 1) (.loop (RL .exhausted)) = w7 at *
    have HST := Lib.hid (string_bo HO7 hne)
    clear HIT HJ0 HJ2 HL HD bW hRL HO6 HX1 HX2 b6 HM1
    go_wp2_with fail
    refine HST.out.mono ?_
    rintro e w8 ⟨rfl, b8, K8⟩
    have HD8 := K8.mark HD7
    have B8 := B7.trans (b8.mono (Nat.le_of_lt hgB))
    go_wp2
    refine ret_marks HD8 (results_tmp rfl _ _ _) ⟨rfl, ?_⟩
    rw [hg]
    exact B8.trans (belowPut _ (by omega) HD8)
  · have q0 : IntKind.i64.wrap ((ev.length : Int) + 8192) = (Y : Int) := by rw [hcn, IntKind.wrap_i64] <;> simp <;> omega
    clear hcn
    go_upto_region 5 with (fail)
    generalize w1.alloc (.cells #[.pointer none, .slice none 0 0] 188) = w2 at *
    refine wp_region_noPanic ?_
    refine wp_region_held_drew (S := (fun w' => Blk w' g 92 #[.bool true, .int .i64 (F : Nat), .slice a ev.length c])) (by kernel_rfl) ?_ (fun hHeld => ?_)
    · exact HA1
    refine wpAnyH_take (i := 0) (v := ?_) rfl (by kernel_rfl) (by kernel_rfl) (by kernel_rfl) (fun _ _ _ h => h) (Or.inl ⟨by rfl, ?_⟩) (by assumption) ?_
    rotate_left
    · (intro w hSw; (try dsimp only at hSw); go_simp; (try with_reducible rfl))
    (try simp only [Act.put, List.getElem_toArray, List.getElem_cons_zero, List.getElem_cons_succ, List.setIfInBounds_toArray, List.set_cons_zero, List.set_cons_succ])
    refine wpAnyH_take (i := 2) (v := ?_) rfl (by kernel_rfl) (by kernel_rfl) (by kernel_rfl) (fun _ _ _ h => h) (Or.inl ⟨by rfl, ?_⟩) (by assumption) ?_
    rotate_left
    · (intro w hSw; (try dsimp only at hSw); go_simp; (try with_reducible rfl))
    (try simp only [Act.put, List.getElem_toArray, List.getElem_cons_zero, List.getElem_cons_succ, List.setIfInBounds_toArray, List.set_cons_zero, List.set_cons_succ])
    refine wpAnyH_take (i := 3) (v := .int .i64 (F : Nat)) rfl (by kernel_rfl) (by kernel_rfl) (by kernel_rfl) (fun _ _ _ h => h) (Or.inl ⟨by rfl, fun w hSw => by have c := hSw.cv 1 (.int .i64 (F : Nat)) rfl; go_simp⟩) (by assumption) ?_
    (try simp only [Act.put, List.getElem_toArray, List.getElem_cons_zero, List.getElem_cons_succ, List.setIfInBounds_toArray, List.set_cons_zero, List.set_cons_succ])
    refine wpAnyH_ready (rs := [1]) (by kernel_rfl) (by simp) ?_
    refine AllReadyH.cons rfl (fun K hK => ?_) AllReadyH.nil
    simp only [List.getElem_toArray, List.getElem_cons_zero, List.getElem_cons_succ]
    go_simp
    go_at_call 112; (with_reducible refine (HMY.out _).mono ?_); rintro e w3 ⟨rfl, b3⟩; have HA3 := HA1.drew.kept b3; have HO3 := bo_keepC HBO ((KeepC.drew _).trans (KeepC.of b3)); have B3 := B1.drew.trans (b3.mono (by have := B1.drew.size; omega))
    refine hK.out _ _ ?_ (fun hHeld => ?_)
    · exact HA3
    clear hK K
    (try simp only [Act.put, List.getElem_toArray, List.getElem_cons_zero, List.getElem_cons_succ, List.setIfInBounds_toArray, List.set_cons_zero, List.set_cons_succ])
    refine wpAnyH_ready (rs := [4]) (by kernel_rfl) (by simp) ?_
    refine AllReadyH.cons rfl (fun K hK => ?_) AllReadyH.nil
    simp only [List.getElem_toArray, List.getElem_cons_zero, List.getElem_cons_succ]
    go_simp
    go_at_call 112; (with_reducible refine (HMF.out _).mono ?_); rintro e w4 ⟨rfl, b4⟩; have HA4 := HA3.kept b4; have HO4 := bo_keepC HO3 (KeepC.of b4); have B4 := B3.trans (b4.mono (by have := B3.size; omega))
    refine hK.out _ _ ?_ (fun hHeld => ?_)
    · exact HA4
    clear hK K
    (try simp only [Act.put, List.getElem_toArray, List.getElem_cons_zero, List.getElem_cons_succ, List.setIfInBounds_toArray, List.set_cons_zero, List.set_cons_succ])
    refine wpAnyH_take (i := 5) (v := .string ⟨z1.toArray⟩) rfl (by kernel_rfl) (by kernel_rfl) (by kernel_rfl) (fun _ _ _ h => h) (Or.inl ⟨by rfl, fun w hSw => by go_simp⟩) (by assumption) ?_
    (try simp only [Act.put, List.getElem_toArray, List.getElem_cons_zero, List.getElem_cons_succ, List.setIfInBounds_toArray, List.set_cons_zero, List.set_cons_succ])
    refine wpAnyH_ready (rs := [6]) (by kernel_rfl) (by simp) ?_
    refine AllReadyH.cons rfl (fun K hK => ?_) AllReadyH.nil
    simp only [List.getElem_toArray, List.getElem_cons_zero, List.getElem_cons_succ]
    go_simp
    go_at_call 92; (with_reducible refine (HWB.out z1 _ HO4 (by omega)).mono ?_); rintro e w5 ⟨rfl, HO5, b5, K5⟩; have HA5 := K5.blk HA4 (by decide) (by decide); have B5 := B4.trans b5
    refine hK.out _ _ ?_ (fun hHeld => ?_)
    · exact HA5
    clear hK K
    (try simp only [Act.put, List.getElem_toArray, List.getElem_cons_zero, List.getElem_cons_succ, List.setIfInBounds_toArray, List.set_cons_zero, List.set_cons_succ])
    refine wpAnyH_done (by kernel_rfl) ?_ _
    refine NoPanic.normal ?_
    clear HBO HA1 HA3 HA4 HO3 HO4 b3 b4 B3 K5 HMF HMY p1 HWB zl1 b5 B1
    have m1 := HA5.cv 2 (.slice a ev.length c) rfl
    have hs5 := B5.size
    have HCH := Lib.hid (chunk_any a ev.length c w5)
    go_wp2_with fail
    refine HCH.out.mono ?_
    rintro e w6 ⟨rfl, HX1, HX2, b6, hs6⟩
    have HO6 := bo_keepC HO5 (KeepC.of b6)
    have hB0 : g < w1.heap.size := by omega
    have B6 := B0.trans ((B5.trans (b6.mono (show B ≤ w5.heap.size by omega))).mono (Nat.le_of_lt hgB))
    clear HCH m1 HO5 HA5 B4 B5
    go_wp2_with fail
    have hB6 : B ≤ w6.heap.size := by omega
    generalize w5.heap.size = q5 at *
    refine rf_outer rfl (enters_of Tryd.func124 (by kernel_rfl) rfl) ?_
    intro fn RL W hRL HL HD bW hW
    have HJ0 : AtJ w B q5 (q5 + 1) w6.heap.size (w6.heap.size + 1) (RL .ready) (.slice a ev.length c) z1 W := ⟨bo_keepC HO6 (KeepC.of bW), HX1.kept bW, HX2.kept bW, HL, HD, by rw [hg]; exact B6.trans (bW.mono (by omega))⟩
    generalize w6.heap.size = D at *
    have hgD : g < D := by omega
    have hq5 : q5 + 1 < D := by omega
    replace hs6 := Lib.hid hs6
    replace hW := Lib.hid hW
    have HIT : Calls Tryd.prog 124 #[.func (.yield (D + 1)) #[] #[], .pointer (some ⟨q5, 0, none⟩), .pointer (some ⟨q5 + 1, 0, none⟩)] W fun e w' => (∃ v, e = .returned v) ∧ AtJ w B q5 (q5 + 1) D (D + 1) (RL .ready) (.slice a ev.length c) (z1 ++ evL ev) w' := by
      by_cases h0 : ev = []
      · subst h0
        refine (chunk_nil (D + 1) q5 (q5 + 1) a c W HJ0.x1).mono ?_
        rintro e w' ⟨hv, rfl⟩
        exact ⟨hv, by simpa [evL] using HJ0⟩
      · obtain ⟨b, o, rfl, hbl, hat⟩ := h.at (k := 0) (List.length_pos_iff.2 h0)
        have hend : ev.take (3 * ((ev.length + 2) / 3)) = ev := List.take_of_length_le (by omega)
        refine (chunk_it (D + 1) q5 (q5 + 1) b o ev.length c (by omega) (fun k W => AtJ w B q5 (q5 + 1) D (D + 1) (RL .ready) (.slice (some ⟨b, o, none⟩) ev.length c) (z1 ++ evL (ev.take (3 * k))) W) (fun k W h => h.x1) (fun k W h => h.x2)
          (fun k W h => h.keepC (KeepC.drew W) h.lp h.dm ((Below.refl _ _).drew)) hc ?_ W (by simpa [evL] using HJ0)).mono ?_
        · intro k W HJ hk
          obtain ⟨m, hm⟩ : ∃ m, (ev.drop (3 * k)).take 3 = m := ⟨_, rfl⟩
          have hml : m.length = min 3 (ev.length - 3 * k) := by rw [← hm, List.length_take, List.length_drop]
          have hm0 : 0 < m.length := by omega
          have hm3 : m.length ≤ 3 := by omega
          have hstep := evL_step ev k (by omega)
          rw [hm, evL_few m hm0 hm3] at hstep
          have hme : ∀ j : Nat, 0 ≤ m.getD j 0 ∧ m.getD j 0 ≤ 5 := fun j => by
            rw [List.getD_eq_getElem?_getD]
            cases hj : m[j]? with
            | none => exact ⟨by decide, by decide⟩
            | some v =>
              have hv := List.mem_of_getElem? hj
              rw [← hm] at hv
              exact he v (List.mem_of_mem_drop (List.mem_of_mem_take hv))
          have hmI : IvAt W b (o + 3 * k) m := fun j hj => by
            have e1 : ev[3 * k + j]? = m[j]? := by rw [← hm, List.getElem?_take, if_pos (by omega), List.getElem?_drop]
            have hj2 : 3 * k + j < ev.length := by omega
            rw [List.getElem?_eq_getElem hj2, List.getElem?_eq_getElem hj] at e1
            have e2 := (hat (3 * k + j) hj2).below HJ.be (by omega)
            rw [Option.some.inj e1] at e2
            rw [show o + 3 * k + j * 1 = o + (3 * k + j) * 1 by omega]
            exact e2
          obtain ⟨G3, hG3⟩ : ∃ G3, g3 (m.getD 0 0) (m.getD 1 0) (m.getD 2 0) = G3 := ⟨_, rfl⟩
          have HJN : Hid (∀ W, Calls Tryd.prog 114 #[.agg (p3 m)] W fun e w' => e = .returned (.int .i64 (G3 : Nat)) ∧ Below W.heap.size W w') := fun W => by rw [← hG3]; exact join_any (m.getD 0 0) (m.getD 1 0) (m.getD 2 0) (hme 0) (hme 1) (hme 2) W
          rw [hG3] at hstep
          have HMU := Lib.hid (fun W => HM1.out G3 W (by rw [← hG3]; exact (g3_lt (hme 0) (hme 1) (hme 2)).1))
          have hyl : (z1 ++ evL (ev.take (3 * k))).length ≤ 1000 := by
            rw [List.length_append, evL_len, List.length_take]
            omega
          have hnext : Hid (z1 ++ evL (ev.take (3 * (k + 1))) = (z1 ++ evL (ev.take (3 * k))) ++ putL G3 1) := by
            show _ = _
            rw [show 3 * (k + 1) = 3 * k + 3 by omega, hstep, List.append_assoc]
          rw [← hml, hnext.out]
          generalize z1 ++ evL (ev.take (3 * k)) = yk at *
          have hp1 : (putL G3 1).length = 1 := putL_length _ _
          generalize putL G3 1 = yb at *
          clear hstep hnext hG3 hend HJ0 hme
          replace hml := Lib.hid hml
          clear hm
          refine yield_of hRL HJ.lp rfl ?_
          gi_wp2
          refine ⟨HJ.lp, ?_⟩
          have hLs := (Array.getElem?_eq_some_iff.1 HJ.lp).1
          have HJ1 : AtJ w B q5 (q5 + 1) D (D + 1) (RL .busy) (.slice (some ⟨b, o, none⟩) ev.length c) yk (W.putObj (D + 1) (.loop (RL .busy))) := HJ.keepC (KeepC.putLoop _ HJ.lp) (World.putObj_heap_same hLs) ((World.putObj_heap_other (by omega)).trans HJ.dm) (belowPut _ (by omega) HJ.lp)
          have hmI1 : IvAt (W.putObj (D + 1) (.loop (RL .busy))) b (o + 3 * k) m := hmI.below (belowPut (n₀ := w.heap.size) _ (by omega) HJ.lp) hbl
          generalize W.putObj (D + 1) (.loop (RL .busy)) = W1 at *
          have hZ := Blk.new W1 217 #[.int .i64 0, .int .i64 0, .int .i64 0]
          have bZ : Below W1.heap.size W1 (W1.alloc (.cells #[.int .i64 0, .int .i64 0, .int .i64 0] 217)) := (Below.refl _ _).alloc (Nat.le_refl _) _
          have HJ2 := HJ1.of bZ
          have hmI2 : IvAt (W1.alloc (.cells #[.int .i64 0, .int .i64 0, .int .i64 0] 217)) b (o + 3 * k) m := hmI1.below (bZ.mono HJ1.be.size) hbl
          have hGs : w.heap.size ≤ W1.heap.size := HJ1.be.size
          clear HJ hmI HJ1 hmI1 bZ
          generalize hW2 : W1.alloc (.cells #[.int .i64 0, .int .i64 0, .int .i64 0] 217) = W2 at *
          obtain ⟨G, hG⟩ : ∃ G, W1.heap.size = G := ⟨_, rfl⟩
          rw [hG] at hZ hGs
          gi_wp2_with (first
            | (refine copyR m rfl rfl rfl rfl hZ hmI2 hm3 ?_; intro W3 hP g3' b3; have HJ3 : AtJ w B q5 (q5 + 1) D (D + 1) (RL .busy) (.slice (some ⟨b, o, none⟩) ev.length c) yk W3 := HJ2.grown g3' hZ (by decide) (by decide) (by decide) (by omega))
            | (refine loadR (k := 0) 217 (p3 m) rfl rfl rfl hP (by kernel_rfl) (by kernel_rfl) rfl ?_)
            | (refine ⟨trivial, rfl, ?_⟩; gi_at_call 114; refine (CallsIn.inRound (D + 1) (callsIn_wide.2 (HJN.out _))).mono ?_; rintro e W4 ⟨rfl, b4⟩; have HJ4 := HJ3.of b4)
            | (refine ⟨trivial, rfl, ?_⟩; gi_at_call 112; refine (CallsIn.inRound (D + 1) (callsIn_wide.2 (HMU.out _))).mono ?_; rintro e W5 ⟨rfl, b5⟩; have HJ5 := HJ4.of b5)
            | (refine ⟨trivial, rfl, ?_⟩; gi_at_call 92; refine (CallsIn.inRound (D + 1) (callsIn_wide.2 (write_bo B yk yb _ HJ5.bo (by omega) (Nat.le_of_lt (bo_lt HJ5.bo))))).mono ?_; rintro e W6 ⟨rfl, HO6, b6', K6⟩))
          have hl6 := K6.loop HJ5.lp
          have HJ6 : AtJ w B q5 (q5 + 1) D (D + 1) (RL .busy) (.slice (some ⟨b, o, none⟩) ev.length c) (yk ++ yb) W6 := ⟨HO6, K6.blk HJ5.x1 (by decide) (by decide), K6.blk HJ5.x2 (by decide) (by decide), hl6, K6.mark HJ5.dm, HJ5.be.trans (b6'.mono (by omega))⟩
          exact ⟨hl6, rfl, HJ6.keepC (KeepC.putLoop _ hl6) (World.putObj_heap_same (Array.getElem?_eq_some_iff.1 hl6).1) ((World.putObj_heap_other (by omega)).trans HJ6.dm) (belowPut _ (by omega) hl6)⟩
        · rintro e w' ⟨hv, hJ⟩
          rw [hend] at hJ
          exact ⟨hv, hJ⟩
    refine HIT.mono ?_
    rintro e W2 ⟨hv, HJ2⟩
    refine ⟨hv, HJ2.lp, ?_⟩
    have HO7 := bo_keepC HJ2.bo (KeepC.putLoop (.loop (RL .exhausted)) HJ2.lp)
    have HD7 : (W2.putObj (D + 1) (.loop (RL .exhausted))).heap[D]? = some (.deferred (some [])) := (World.putObj_heap_other (by omega)).trans HJ2.dm
    have B7 : Below g w (W2.putObj (D + 1) (.loop (RL .exhausted))) := by
      have q := HJ2.be
      rw [hg] at q
      exact q.trans (belowPut _ (by omega) HJ2.lp)
    rw [← HAW.out] at HO7
    generalize W2.putObj (D + 1) (.loop (RL .exhausted)) = w7 at *
    have HST := Lib.hid (string_bo HO7 hne)
    clear HIT HJ0 HJ2 HL HD bW hRL HO6 HX1 HX2 b6 HM1
    go_wp2_with fail
    refine HST.out.mono ?_
    rintro e w8 ⟨rfl, b8, K8⟩
    have HD8 := K8.mark HD7
    have B8 := B7.trans (b8.mono (Nat.le_of_lt hgB))
    go_wp2
    refine ret_marks HD8 (results_tmp rfl _ _ _) ⟨rfl, ?_⟩
    rw [hg]
    exact B8.trans (belowPut _ (by omega) HD8)


end Go.Proofs.YtdjljnpbnhampaaDoor

namespace Go.Proofs.YtdjljnpbnhampaaDoor
open Go.RowKit
set_option linter.unusedVariables false

/-- What a reader's error says: nothing (0, -1), or an At. -/
def ErrAs (w : World) (er : Value) (e pl : Int) : Prop := (er = .nilIface ∧ e = 0 ∧ pl = -1) ∨ (e ≠ 0 ∧ ∃ q, er = .iface 142 (.pointer (some ⟨q, 0, none⟩)) ∧ Flt w q e pl)

theorem ErrAs.below {w w' : World} {er : Value} {e pl : Int} (h : ErrAs w er e pl) (hb : Below w.heap.size w w') : ErrAs w' er e pl := by
  rcases h with h | ⟨he, q, hq, hf⟩
  · exact Or.inl h
  · exact Or.inr ⟨he, q, hq, hf.below hb⟩

theorem ErrAs.nil {w : World} : ErrAs w .nilIface 0 (-1) := Or.inl ⟨rfl, rfl, rfl⟩

/-- A reader's answer: a value, and its error. -/
def ReadsAs (X : Array Value) (e pl : Int) (w : World) (r : Ending) (w' : World) : Prop := ∃ er, r = .returned (.tuple #[.agg X, er]) ∧ ErrAs w' er e pl ∧ Below w.heap.size w w'


end Go.Proofs.YtdjljnpbnhampaaDoor

namespace Go.Proofs.YtdjljnpbnhampaaDoor
open Go.RowKit
attribute [local go_sem ↓] Go.wp_at_zero Go.wp_at_succ
set_option linter.unusedSimpArgs false
set_option linter.unusedVariables false
set_option maxRecDepth 100000

theorem Tryd.mhZero : (Tryd.prog.info? 92).map (·.zero) = some (some (.agg (mvC zMvH))) := by kernel_rfl

/-- A list of attributes lies here, each with its events. -/
structure MvsIn (w : World) (a : Option Addr) (hs : List MvH) : Prop where
  row : MhIn w a hs
  ev : ∀ h ∈ hs, IvIn w h.a h.x.ev ∧ h.x.ev.length ≤ h.c ∧ h.c ≤ maxLen

theorem MvsIn.below {w w' : World} {a : Option Addr} {hs : List MvH} (h : MvsIn w a hs) (hb : Below w.heap.size w w') : MvsIn w' a hs := ⟨h.row.below hb, fun x hx => ⟨(h.ev x hx).1.below hb, (h.ev x hx).2⟩⟩

def xs (hs : List MvH) : List Mv := hs.map (·.x)

theorem xs_len (hs : List MvH) : (xs hs).length = hs.length := by simp [xs]

theorem xs_get (hs : List MvH) (k : Nat) (hk : k < hs.length) : (xs hs)[k]'(by rw [xs_len]; exact hk) = hs[k].x := by simp [xs]

theorem xs_take (hs : List MvH) (k : Nat) : xs (hs.take k) = (xs hs).take k := by simp [xs, List.map_take]

/-- An error of Write: none, one at an attribute, or one alone. -/
def ErrAs3 (w : World) (er : Value) (e pl : Int) : Prop := ErrAs w er e pl ∨ (er = .iface 35 (.int .i64 e) ∧ e ≠ 0 ∧ pl = -1)

theorem ErrAs3.below {w w' : World} {er : Value} {e pl : Int} (h : ErrAs3 w er e pl) (hb : Below w.heap.size w w') : ErrAs3 w' er e pl := by
  rcases h with h | h
  · exact Or.inl (h.below hb)
  · exact Or.inr h

/-- What is written: nothing where it may not be. -/
def mvX (l : List Mv) : List UInt8 := if (mvE l).1 = 0 then mvW l else []

theorem mvX_bad {l : List Mv} {e p : Int} (h : mvE l = (e, p)) (he : e ≠ 0) : mvX l = [] := by unfold mvX; rw [h]; exact if_neg he

theorem mvX_ok {l : List Mv} {p : Int} (h : mvE l = (0, p)) : mvX l = mvW l := by unfold mvX; rw [h]; exact if_pos rfl

theorem attrs_at (hs : List MvH) (k : Nat) (hk : k < hs.length) : attrsW (xs (hs.take (k + 1))) = attrsW (xs (hs.take k)) ++ attrW hs[k].x := by
  rw [xs_take, xs_take, attrsW_take _ k (by rw [xs_len]; exact hk), xs_get]

theorem mvWrite_long (a : Option Addr) (c : Nat) (n : Nat) (hn : 40 < n) (w : World) :
    Calls Tryd.prog 64 #[.slice a n c] w fun e w' => e = .returned (.tuple #[.string ⟨#[]⟩, .iface 35 (.int .i64 4)]) ∧ Below w.heap.size w w' := by
  have q1 : (40 : Int) < (n : Int) := by omega
  have q2 : decide ((40 : Int) < (n : Int)) = true := decide_eq_true q1
  go_enter Tryd.func64, Tryd.ntmps64
  go_wp2
  go_ret2
  exact ⟨rfl, Below.refl _ _⟩

theorem mvWrite_nil (a : Option Addr) (c : Nat) (w : World) :
    Calls Tryd.prog 64 #[.slice a 0 c] w fun e w' => e = .returned (.tuple #[.string ⟨#[0, 0, 0]⟩, .nilIface]) ∧ Below w.heap.size w w' := by
  go_enter Tryd.func64, Tryd.ntmps64
  go_wp2
  go_ret2
  exact ⟨rfl, Below.refl _ _⟩

set_option maxHeartbeats 6400000 in
theorem mvWrite_some (a : Option Addr) (c : Nat) (hs : List MvH) (m : Nat) (hm : m ≤ hs.length) (hlo : 0 < hs.length) (hhi : ¬ 40 < hs.length) (hok : ∀ (k : Nat) (hk : k < hs.length), k < m → okMv hs[k].x = true) (X : List UInt8) (e0 pl : Int)
    (hend : (m = hs.length ∧ X = [0, 1, 2] ++ attrsW (xs hs) ++ [0, 0, 0, 0] ∧ e0 = 0 ∧ pl = -1) ∨ (∃ hk : m < hs.length, okMv hs[m].x = false ∧ X = [] ∧ e0 = 1 ∧ pl = m)) (w : World) (h : MvsIn w a hs) :
    Calls Tryd.prog 64 #[.slice a hs.length c] w fun e w' => ∃ er, e = .returned (.tuple #[.string ⟨X.toArray⟩, er]) ∧ ErrAs w' er e0 pl ∧ Below w.heap.size w w' := by
  have HB0 := bo_new w
  have B0 : Below w.heap.size w (w.alloc (.cells #[.pointer none, .slice none 0 0] 188)) := (Below.refl _ _).alloc (Nat.le_refl _) _
  have HSL : Hid (∀ k, k ≤ m → (attrsW (xs (hs.take k))).length ≤ 138 * k) := fun k hk => by
    have q := attrsW_le (xs (hs.take k)) (fun x hx => by
      obtain ⟨y, hy, rfl⟩ := List.mem_map.1 hx
      obtain ⟨j, hj, rfl⟩ := List.mem_take_iff_getElem.1 hy
      exact hok j (by omega) (by omega))
    rw [xs_len, List.length_take] at q
    omega
  have HOK := Lib.hid hok
  have HT := Lib.hid (attrs_at hs)
  have HZ : Hid (attrsW (xs (hs.take 0)) = []) := by show _ = _; rw [List.take_zero]; rfl
  have HWS : Hid (∀ (y z : List UInt8) (W : World), BO w.heap.size y W → y.length + z.length ≤ 10000 → Calls Tryd.prog 92 #[.pointer (some ⟨w.heap.size, 0, none⟩), .string ⟨z.toArray⟩] W fun e w' => e = .returned (.tuple #[.int .i64 z.length, .nilIface]) ∧ BO w.heap.size (y ++ z) w' ∧ Below w.heap.size W w' ∧ KeepO W w') := fun y z W hB hz => write_bo w.heap.size y z W hB (by omega) (Nat.le_of_lt (bo_lt hB))
  have d1 : decide ((40 : Int) < (hs.length : Int)) = false := decide_eq_false (by omega)
  have d2 : ((hs.length : Int) == 0) = false := beq_eq_false_iff_ne.2 (by omega)
  clear hok
  go_enter Tryd.func64, Tryd.ntmps64
  go_upto_region 6 with (fail)
  obtain ⟨g, hg⟩ : ∃ g, w.heap.size = g := ⟨_, rfl⟩
  rw [hg] at HB0 B0 HWS ⊢
  generalize w.alloc (.cells #[.pointer none, .slice none 0 0] 188) = w1 at *
  have H3 := Lib.hid (HWS.out [] [0, 1, 2] w1 HB0 (by decide))
  go_wp2_with fail
  refine H3.out.mono ?_
  rintro e w2 ⟨rfl, HB2, b2, K2⟩
  rw [List.nil_append] at HB2
  have B2 := B0.trans b2
  clear H3 HB0 B0 b2 K2
  go_wp2_with fail
  go_loopw [19] (fun i wr => ∃ k : Nat, k ≤ m ∧ i = .int .i64 k ∧ BO g ([0, 1, 2] ++ attrsW (xs (hs.take k))) wr ∧ Below g w wr) (fun i _ => hs.length - (intOf i).toNat)
  case atStart => exact ⟨0, by omega, rfl, by rw [HZ.out, List.append_nil]; exact HB2, B2⟩
  case round =>
    obtain ⟨k, hk, rfl, HBk, Bk⟩ := hrel
    have hsk := HSL.out k hk
    have hsw : g ≤ wr.heap.size := by rw [← hg]; exact Bk.size
    by_cases hlt : k < hs.length
    · have Bk2 : Below w.heap.size w wr := by rw [hg]; exact Bk
      have hIk := h.below Bk2
      obtain ⟨b, lo, rfl, hbl, hat⟩ := hIk.row.at hlt
      have q1 : (k : Int) < (hs.length : Int) := by omega
      have q2 : decide ((k : Int) < (hs.length : Int)) = true := decide_eq_true q1
      have q3 : (0 : Int) ≤ (k : Int) := by omega
      have HK := hat k hlt
      obtain ⟨hev, hcap, hcm⟩ := hIk.ev hs[k] (List.getElem_mem hlt)
      have HA4 := Blk.new wr 92 (mvC zMvH)
      have B4 := Bk.alloc hsw (.cells (mvC zMvH) 92)
      have hb4 : Below wr.heap.size wr (wr.alloc (.cells (mvC zMvH) 92)) := (Below.refl _ _).alloc (Nat.le_refl _) _
      have HR : Hid (∀ W, Below wr.heap.size wr W → Calls Tryd.prog 22 #[.agg (mvC hs[k])] W fun e w' => e = .returned (.bool (okMv hs[k].x)) ∧ Below W.heap.size W w') := fun W hb => mvRight_any hs[k].x hs[k].a hs[k].c W (hev.below hb) (Nat.le_trans hcap hcm)
      have HX : Hid (∀ W, okMv hs[k].x = true → Below wr.heap.size wr W → Calls Tryd.prog 93 #[.agg (mvC hs[k])] W fun e w' => e = .returned (.string ⟨(attrW hs[k].x).toArray⟩) ∧ Below W.heap.size W w') := fun W hx hb => attrText_any hs[k].x hs[k].a hs[k].c hcap W hx (hev.below hb)
      have hHT := Lib.hid (HT.out k hlt)
      have hOK := Lib.hid (fun h => HOK.out k hlt h)
      have hbad : Hid (m = k → okMv hs[k].x = false ∧ X = [] ∧ e0 = 1 ∧ pl = k) := fun e1 => by
        rcases hend with ⟨r1, _⟩ | ⟨hk2, r2, r3, r4, r5⟩
        · omega
        · subst e1
          exact ⟨r2, r3, r4, r5⟩
      have hal : Hid (okMv hs[k].x = true → (attrW hs[k].x).length ≤ 138) := fun q => by
        rw [attrW_len]
        have := okMv_len q
        omega
      generalize hs[k] = x at *
      clear hat Bk hend HT HOK hIk hev hcap hcm Bk2 HSL
      go_upto_region 10 with (first
        | (refine load_cells (B := b) (k := lo + k * 3) 92 (mvC x) (by rfl) rfl rfl HK (by kernel_rfl) (by kernel_rfl) ?_)
        | (refine alloc_blk 92 (mvC zMvH) (by rfl) rfl Tryd.mhZero ?_)
        | (refine store_blk (k := 0) 92 (.agg (mvC x)) (mvC x) (by rfl) rfl rfl rfl HA4 (by kernel_rfl) (show (3 : Nat) ≤ 3 from Nat.le_refl 3) (by rfl) (st_whole _ _ rfl) ?_; intro w5 HA5 b5 g5))
      have HB5 : BO g ([0, 1, 2] ++ attrsW (xs (hs.take k))) w5 := isB_below HBk (hb4.trans b5)
      have B5 := B4.trans (b5.mono hsw)
      have b05 := hb4.trans b5
      clear HA4 B4 b5 g5 HK hb4 HBk
      have hyl : ([0, 1, 2] ++ attrsW (xs (hs.take k)) : List UInt8).length ≤ 3 + 138 * k := by rw [List.length_append]; show 3 + (attrsW (xs (hs.take k))).length ≤ _; omega
      have hnx : Hid ([0, 1, 2] ++ attrsW (xs (hs.take (k + 1))) = ([0, 1, 2] ++ attrsW (xs (hs.take k))) ++ attrW x.x) := by show _ = _; rw [hHT.out, List.append_assoc]
      generalize ([0, 1, 2] ++ attrsW (xs (hs.take k)) : List UInt8) = yk at *
      clear hHT hsk
      have HR5 := Lib.hid (HR.out _ b05)
      by_cases hkm : k < m
      · have hx := hOK.out hkm
        have hxl := hal.out hx
        have HX5 := Lib.hid (fun W => HX.out W hx)
        replace HR : Hid (Calls Tryd.prog 22 #[.agg (mvC x)] w5 fun e w' => e = .returned (.bool true) ∧ Below w5.heap.size w5 w') := by rw [← hx]; exact HR5.out
        clear hbad hOK hx HR5 hal HX
        generalize attrW x.x = AX at *
        go_wp2_with (refine load_blk (k := 0) 92 (mvC x) (by rfl) rfl rfl HA5 (by kernel_rfl) (by kernel_rfl) rfl ?_)
        refine HR.out.mono ?_
        rintro e w6 ⟨rfl, b6⟩
        have HA6 := HA5.kept b6
        have HB6 : BO g yk w6 := isB_below HB5 b6
        have hg5 : g ≤ w5.heap.size := Nat.le_trans hsw b05.size
        have B6 := B5.trans (b6.mono hg5)
        have b06 := b05.trans (b6.mono b05.size)
        have HX6 := Lib.hid (HX5.out _ b06)
        have hg6 : g ≤ w6.heap.size := Nat.le_trans hg5 b6.size
        clear HA5 HB5 B5 b6 HR HX5 b05
        go_wp2_with (refine load_blk (k := 0) 92 (mvC x) (by rfl) rfl rfl HA6 (by kernel_rfl) (by kernel_rfl) rfl ?_)
        refine HX6.out.mono ?_
        rintro e w7 ⟨rfl, b7⟩
        have HB7 : BO g yk w7 := isB_below HB6 b7
        have B7 := B6.trans (b7.mono hg6)
        have HW7 := Lib.hid (HWS.out yk AX w7 HB7 (by omega))
        clear HA6 HB6 B6 b7 HX6 HWS
        go_wp2_with fail
        refine HW7.out.mono ?_
        rintro e w8 ⟨rfl, HB8, b8, K8⟩
        rw [← hnx.out] at HB8
        have B8 := B7.trans b8
        go_wp2
        go_roundw
        case rel => exact ⟨k + 1, by omega, by go_num, HB8, B8⟩
        case measure => simp [intOf]; omega
      · obtain rfl : k = m := by omega
        obtain ⟨hx, rfl, rfl, rfl⟩ := hbad.out rfl
        replace HR : Hid (Calls Tryd.prog 22 #[.agg (mvC x)] w5 fun e w' => e = .returned (.bool false) ∧ Below w5.heap.size w5 w') := by rw [← hx]; exact HR5.out
        clear hbad hOK hx HR5 HX hal
        go_wp2_with (refine load_blk (k := 0) 92 (mvC x) (by rfl) rfl rfl HA5 (by kernel_rfl) (by kernel_rfl) rfl ?_)
        refine HR.out.mono ?_
        rintro e w6 ⟨rfl, b6⟩
        have B6 := B5.trans (b6.mono (Nat.le_trans hsw b05.size))
        have hg6 : g ≤ w6.heap.size := Nat.le_trans (Nat.le_trans hsw b05.size) b6.size
        have F7 : Flt (w6.alloc (.cells #[.int .i64 1, .int .i64 k] 144)) w6.heap.size 1 k := heap_alloc_new w6 _
        have B7 := B6.alloc hg6 (.cells #[.int .i64 1, .int .i64 k] 144)
        go_wp2
        go_ret2
        exact ⟨_, rfl, Or.inr ⟨by decide, _, rfl, F7⟩, by rw [hg]; exact B7⟩
    · obtain rfl : k = hs.length := by omega
      obtain rfl : m = hs.length := by omega
      have q2 : decide ((hs.length : Int) < (hs.length : Int)) = false := decide_eq_false (by omega)
      obtain ⟨hX, rfl, rfl⟩ : X = [0, 1, 2] ++ attrsW (xs hs) ++ [0, 0, 0, 0] ∧ e0 = 0 ∧ pl = -1 := by
        rcases hend with ⟨_, r1, r2, r3⟩ | ⟨hk2, _⟩
        · exact ⟨r1, r2, r3⟩
        · omega
      rw [List.take_length] at HBk hsk
      have HX : Hid ([0, 1, 2] ++ attrsW (xs hs) ++ [0, 0, 0, 0] = X) := hX.symm
      have hXn : X ≠ [] := by rw [hX]; simp
      have hyl : ([0, 1, 2] ++ attrsW (xs hs) : List UInt8).length ≤ 3 + 138 * hs.length := by rw [List.length_append]; show 3 + (attrsW (xs hs)).length ≤ _; omega
      clear hX hend hsk
      generalize ([0, 1, 2] ++ attrsW (xs hs) : List UInt8) = yk at *
      have HW7 := Lib.hid (HWS.out yk [0, 0, 0, 0] wr HBk (by show yk.length + 4 ≤ _; omega))
      clear HWS HSL HOK HT
      go_wp2_with fail
      refine HW7.out.mono ?_
      rintro e w7 ⟨rfl, HB7, b7, K7⟩
      rw [HX.out] at HB7
      have B7 := Bk.trans b7
      have HS8 := Lib.hid (string_bo HB7 hXn)
      go_wp2_with fail
      refine HS8.out.mono ?_
      rintro e w8 ⟨rfl, k8, _⟩
      go_wp2
      go_ret2
      exact ⟨_, rfl, Or.inl ⟨rfl, rfl, rfl⟩, by rw [hg]; exact B7.trans k8⟩

/-- mvrp.Write: the bytes, or what is wrong first. -/
theorem mvWrite_any (a : Option Addr) (c : Nat) (hs : List MvH) (w : World) (h : MvsIn w a hs) :
    Calls Tryd.prog 64 #[.slice a hs.length c] w fun e w' => ∃ er, e = .returned (.tuple #[.string ⟨(mvX (xs hs)).toArray⟩, er]) ∧ ErrAs3 w' er (mvE (xs hs)).1 (mvE (xs hs)).2 ∧ Below w.heap.size w w' := by
  by_cases h1 : 40 < hs.length
  · have e1 := mvE_long (l := xs hs) (by rw [xs_len]; exact h1)
    rw [mvX_bad e1 (by decide), e1]
    refine (mvWrite_long a c hs.length h1 w).mono ?_
    rintro e w' ⟨rfl, hb⟩
    exact ⟨_, rfl, Or.inr ⟨rfl, by decide, rfl⟩, hb⟩
  · by_cases h0 : hs = []
    · subst h0
      refine (mvWrite_nil a c w).mono ?_
      rintro e w' ⟨rfl, hb⟩
      exact ⟨_, rfl, Or.inl (Or.inl ⟨rfl, rfl, rfl⟩), hb⟩
    · have hlo := List.length_pos_iff.2 h0
      have hne : xs hs ≠ [] := by simpa [xs] using h0
      rcases mv_or (xs hs) with ha | ⟨k, hk, hb, ha⟩
      · have e1 := mvE_ok (l := xs hs) (by rw [xs_len]; exact h1) ha
        rw [mvX_ok e1, e1]
        have eW : mvW (xs hs) = [0, 1, 2] ++ attrsW (xs hs) ++ [0, 0, 0, 0] := by unfold mvW; rw [if_neg hne, List.append_assoc]
        rw [eW]
        refine (mvWrite_some a c hs hs.length (Nat.le_refl _) hlo h1 (fun k hk _ => ha _ (List.mem_map.2 ⟨hs[k], List.getElem_mem hk, rfl⟩)) _ 0 (-1) (Or.inl ⟨rfl, rfl, rfl, rfl⟩) w h).mono ?_
        rintro e w' ⟨er, rfl, he, hb⟩
        exact ⟨er, rfl, Or.inl he, hb⟩
      · have e1 := mvE_bad (l := xs hs) (by rw [xs_len]; exact h1) hk hb ha
        rw [mvX_bad e1 (by decide), e1]
        rw [xs_len] at hk
        rw [xs_get hs k hk] at hb
        refine (mvWrite_some a c hs k (Nat.le_of_lt hk) hlo h1 (fun j hj hjk => ha _ (by
          rw [← xs_take]
          exact List.mem_map.2 ⟨hs[j], List.mem_take_iff_getElem.2 ⟨j, by omega, rfl⟩, rfl⟩)) [] 1 k (Or.inr ⟨hk, hb, rfl, rfl, rfl⟩) w h).mono ?_
        rintro e w' ⟨er, rfl, he, hb⟩
        exact ⟨er, rfl, Or.inl he, hb⟩

end Go.Proofs.YtdjljnpbnhampaaDoor

namespace Go.Proofs.YtdjljnpbnhampaaDoor
open Go.RowKit
attribute [local go_sem ↓] Go.wp_at_zero Go.wp_at_succ
set_option linter.unusedSimpArgs false
set_option linter.unusedVariables false
set_option maxRecDepth 100000

theorem bel_drewN (w : World) (q : Nat) : Below w.heap.size w (w.drewN q) := ⟨rfl, rfl, rfl, Nat.le_refl _, fun _ _ => rfl⟩

theorem ivIn_cells {w : World} {b o : Nat} {l : List Int} (h : IvAt w b o l) : ∀ j, j < l.length → w.cell? ⟨b, o + j, none⟩ = some (.int .i64 (l.getD j 0)) := fun j hj => by
  have e := h j hj 0 (.int .i64 l[j]) rfl
  rw [Nat.mul_one, Nat.add_zero] at e
  rw [e, List.getD_eq_getElem?_getD, List.getElem?_eq_getElem hj]
  rfl

theorem intEq_any (a1 a2 : Option Addr) (c1 c2 : Nat) (l1 l2 : List Int) (w : World) (h1 : IvIn w a1 l1) (h2 : IvIn w a2 l2) (m1 : l1.length ≤ maxLen) (m2 : l2.length ≤ maxLen) :
    Calls Tryd.prog 86 #[.slice a1 l1.length c1, .slice a2 l2.length c2] w fun e w' => e = .returned (.bool (decide (l1 = l2))) ∧ Below w.heap.size w w' := by
  have k1 : l1.length ≤ 9223372036854775807 := m1
  have k2 : l2.length ≤ 9223372036854775807 := m2
  by_cases hl : l1.length = l2.length
  · by_cases h0 : l1 = []
    · subst h0
      have h20 : l2 = [] := List.eq_nil_of_length_eq_zero hl.symm
      subst h20
      refine (Tryd.slices_Equal_int_empty a1 a2 c1 0 c2 w (by omega)).mono ?_
      rintro e w' ⟨rfl, rfl⟩
      exact ⟨rfl, Below.refl _ _⟩
    · have hp1 := List.length_pos_iff.2 h0
      obtain ⟨b1, o1, rfl, _, q1⟩ := h1.at hp1
      obtain ⟨b2, o2, rfl, _, q2⟩ := h2.at (show 0 < l2.length by omega)
      refine (Tryd.slices_Equal_int b1 o1 l1.length c1 b2 o2 l2.length c2 l1 l2 w (Nat.le_refl _) (Nat.le_refl _) k1 k2 (ivIn_cells q1) (ivIn_cells q2)).mono ?_
      rintro e w' ⟨rfl, q, rfl⟩
      rw [List.take_length, List.take_length]
      exact ⟨by rw [show (l1 == l2) = decide (l1 = l2) from by rw [Bool.eq_iff_iff]; simp], bel_drewN w q⟩
  · refine (Tryd.slices_Equal_int_lens a1 a2 l1.length c1 l2.length c2 w hl).mono ?_
    rintro e w' ⟨rfl, rfl⟩
    rw [decide_eq_false (fun q => hl (by rw [q]))]
    exact ⟨rfl, Below.refl _ _⟩

set_option maxHeartbeats 1600000 in
theorem sameK_one (x y : MvH) (w : World) (hx : IvIn w x.a x.x.ev) (hy : IvIn w y.a y.x.ev) (mx : x.x.ev.length ≤ maxLen) (my : y.x.ev.length ≤ maxLen) :
    Calls Tryd.prog 95 #[.agg (mvC x), .agg (mvC y)] w fun e w' => e = .returned (.bool (decide (x.x = y.x))) ∧ Below w.heap.size w w' := by
  obtain ⟨⟨a1, f1, e1⟩, p1, c1⟩ := x
  obtain ⟨⟨a2, f2, e2⟩, p2, c2⟩ := y
  simp only at *
  unfold mvC
  simp only
  have hb0 : Below w.heap.size w ((w.alloc (.cells #[.bool a1, .int .i64 f1, .slice p1 e1.length c1] 92)).alloc (.cells #[.bool a2, .int .i64 f2, .slice p2 e2.length c2] 92)) := ((Below.refl _ _).alloc (Nat.le_refl _) _).alloc (by simp) _
  have HE := Lib.hid (intEq_any p1 p2 c1 c2 e1 e2 _ (hx.below hb0) (hy.below hb0) mx my)
  have he : decide ((⟨a1, f1, e1⟩ : Mv) = ⟨a2, f2, e2⟩) = ((a1 == a2) && ((f1 == f2) && decide (e1 = e2))) := by
    by_cases q1 : a1 = a2
    · by_cases q2 : f1 = f2
      · subst q1 q2
        simp
      · rw [decide_eq_false (fun q => q2 (congrArg Mv.first q)), (beq_eq_false_iff_ne.2 q2)]
        simp
    · rw [decide_eq_false (fun q => q1 (congrArg Mv.all q)), (beq_eq_false_iff_ne.2 q1)]
      simp
  rw [he]
  clear he hx hy
  cases hq1 : (a1 == a2) with
  | false =>
    clear HE
    go_enter Tryd.func95, Tryd.ntmps95
    go_wp2
    go_ret
    exact ⟨by simp, hb0⟩
  | true =>
    cases hq2 : (f1 == f2) with
    | false =>
      clear HE
      go_enter Tryd.func95, Tryd.ntmps95
      go_wp2
      go_ret
      exact ⟨by simp, hb0⟩
    | true =>
      have hsz : ((w.alloc (.cells #[.bool a1, .int .i64 f1, .slice p1 e1.length c1] 92)).alloc (.cells #[.bool a2, .int .i64 f2, .slice p2 e2.length c2] 92)).heap.size = w.heap.size + 1 + 1 := by simp
      go_enter Tryd.func95, Tryd.ntmps95
      go_wp2_with fail
      refine HE.out.mono ?_
      rintro e w2 ⟨rfl, b2⟩
      have B2 := hb0.trans (b2.mono hb0.size)
      go_wp2
      go_ret
      exact ⟨by simp, B2⟩

set_option maxHeartbeats 3200000 in
theorem sameK_many (a1 a2 : Option Addr) (c1 c2 : Nat) (h1 h2 : List MvH) (w : World) (H1 : MvsIn w a1 h1) (H2 : MvsIn w a2 h2) (m1 : h1.length ≤ maxLen) (m2 : h2.length ≤ maxLen) :
    Calls Tryd.prog 84 #[.slice a1 h1.length c1, .slice a2 h2.length c2, .func (.func 95) #[] #[]] w fun e w' => e = .returned (.bool (decide (xs h1 = xs h2))) ∧ Below w.heap.size w w' := by
  have k1 : h1.length ≤ 9223372036854775807 := m1
  have k2 : h2.length ≤ 9223372036854775807 := m2
  clear m1 m2
  by_cases hl : h1.length = h2.length
  · have hl3 := Lib.hid hl.symm
    have HIN : Hid (∀ (k : Nat) (hk : k < h1.length), xs h1 = xs h2 → h1[k].x = (h2[k]'(by rw [hl3.out]; exact hk)).x) := fun k hk q => by
      have e1 := xs_get h1 k hk
      have e2 := xs_get h2 k (by rw [hl3.out]; exact hk)
      rw [← e1, ← e2]
      congr 1
    have HEX : Hid ((∀ (k : Nat) (hk : k < h1.length), h1[k].x = (h2[k]'(by rw [hl3.out]; exact hk)).x) → xs h1 = xs h2) := fun q => by
      apply List.ext_getElem
      · rw [xs_len, xs_len, hl]
      · intro k q1 q2
        rw [xs_len] at q1 q2
        rw [xs_get h1 k q1, xs_get h2 k q2]
        exact q k q1
    rw [← hl]
    clear hl k2
    go_enter Tryd.func84, Tryd.ntmps84
    go_wp2_with fail
    go_loopw [17] (fun i wr => ∃ k : Nat, k ≤ h1.length ∧ i = .int .i64 k ∧ (∀ (j : Nat) (hj : j < h1.length), j < k → h1[j].x = (h2[j]'(by rw [hl3.out]; exact hj)).x) ∧ Below w.heap.size w wr) (fun i _ => h1.length - (intOf i).toNat)
    case atStart => exact ⟨0, by omega, rfl, fun j hj q => by omega, Below.refl _ _⟩
    case round =>
      obtain ⟨k, hk, rfl, hall, Bk⟩ := hrel
      by_cases hlt : k < h1.length
      · have I1 := H1.below Bk
        have I2 := H2.below Bk
        have hlt2 : k < h2.length := by rw [hl3.out]; exact hlt
        obtain ⟨b1, o1, rfl, hb1, at1⟩ := I1.row.at hlt
        obtain ⟨b2, o2, rfl, hb2, at2⟩ := I2.row.at hlt2
        have q1 : (k : Int) < (h1.length : Int) := by omega
        have q2 : decide ((k : Int) < (h1.length : Int)) = true := decide_eq_true q1
        have q3 : (0 : Int) ≤ (k : Int) := by omega
        have q4 : IntKind.i64.wrap ((k : Int) + 1) = (k : Int) + 1 := by rw [IntKind.wrap_i64] <;> omega
        have HK1 := at1 k hlt
        have HK2 := at2 k hlt2
        obtain ⟨e1, cp1, cm1⟩ := I1.ev h1[k] (List.getElem_mem hlt)
        obtain ⟨e2, cp2, cm2⟩ := I2.ev h2[k] (List.getElem_mem hlt2)
        have HS : Hid (∀ W, Below wr.heap.size wr W → Calls Tryd.prog 95 #[.agg (mvC h1[k]), .agg (mvC h2[k])] W fun e w' => e = .returned (.bool (decide (h1[k].x = h2[k].x))) ∧ Below W.heap.size W w') := fun W hb => sameK_one h1[k] h2[k] W (e1.below hb) (e2.below hb) (Nat.le_trans cp1 cm1) (Nat.le_trans cp2 cm2)
        have hstep : Hid (h1[k].x = h2[k].x → ∀ (j : Nat) (hj : j < h1.length), j < k + 1 → h1[j].x = (h2[j]'(by rw [hl3.out]; exact hj)).x) := fun q j hj hj2 => by
          by_cases hjk : j = k
          · subst hjk; exact q
          · exact hall j hj (by omega)
        have hno : Hid (¬ h1[k].x = h2[k].x → decide (xs h1 = xs h2) = false) := fun q => decide_eq_false (fun r => q (HIN.out k hlt r))
        generalize h1[k] = x at *
        generalize h2[k] = y at *
        clear at1 at2 e1 e2 cp1 cm1 cp2 cm2 I1 I2 hall HIN HEX
        have k2 : (k : Int) < (h2.length : Int) := by have := hl3.out; omega
        have HA4 := Blk.new wr 92 (mvC zMvH)
        have b4 : Below wr.heap.size wr (wr.alloc (.cells (mvC zMvH) 92)) := (Below.refl _ _).alloc (Nat.le_refl _) _
        go_upto_region 6 with (first
          | (refine load_cells (B := b1) (k := o1 + k * 3) 92 (mvC x) (by rfl) rfl rfl HK1 (by kernel_rfl) (by kernel_rfl) ?_)
          | (refine alloc_blk 92 (mvC zMvH) (by rfl) rfl Tryd.mhZero ?_)
          | (refine store_blk (k := 0) 92 (.agg (mvC x)) (mvC x) (by rfl) rfl rfl rfl HA4 (by kernel_rfl) (show (3 : Nat) ≤ 3 from Nat.le_refl 3) (by rfl) (st_whole _ _ rfl) ?_; intro w5 HA5 b5 g5))
        have b15 := b4.trans b5
        have HK5 : CellsAt w5 b2 (o2 + k * 3) (mvC y) := HK2.below b15 hb2
        have HA6 := Blk.new w5 92 (mvC zMvH)
        have b6 : Below w5.heap.size w5 (w5.alloc (.cells (mvC zMvH) 92)) := (Below.refl _ _).alloc (Nat.le_refl _) _
        clear HA4 b4 b5 g5 HK1 HK2
        have hsw := Bk.size
        have hs5 : w.heap.size ≤ w5.heap.size := Nat.le_trans hsw b15.size
        have HS5 := Lib.hid (fun W (hb : Below w5.heap.size w5 W) => HS.out W (b15.trans (hb.mono b15.size)))
        have B5 := Bk.trans (b15.mono hsw)
        clear HS b15 Bk
        generalize wr.heap.size = G1 at *
        go_upto_region 7 with (first
          | (refine load_cells (B := b2) (k := o2 + k * 3) 92 (mvC y) (by rfl) rfl rfl HK5 (by kernel_rfl) (by kernel_rfl) ?_)
          | (refine alloc_blk 92 (mvC zMvH) (by rfl) rfl Tryd.mhZero ?_)
          | (refine store_blk (k := 0) 92 (.agg (mvC y)) (mvC y) (by rfl) rfl rfl rfl HA6 (by kernel_rfl) (show (3 : Nat) ≤ 3 from Nat.le_refl 3) (by rfl) (st_whole _ _ rfl) ?_; intro w7 HA7 b7 g7))
        have b57 := b6.trans b7
        have HA5' := HA5.kept b57
        have B7 := B5.trans (b57.mono hs5)
        have HS7 := Lib.hid (HS5.out w7 b57)
        have hs7 : w.heap.size ≤ w7.heap.size := Nat.le_trans hs5 b57.size
        clear HS5 B5 b57 b6 b7 g7 HA6 HK5
        generalize w5.heap.size = G2 at *
        go_wp2_with (first
          | (refine load_blk (k := 0) 92 (mvC x) (by rfl) rfl rfl HA5' (by kernel_rfl) (by kernel_rfl) rfl ?_)
          | (refine load_blk (k := 0) 92 (mvC y) (by rfl) rfl rfl HA7 (by kernel_rfl) (by kernel_rfl) rfl ?_))
        refine HS7.out.mono ?_
        rintro e w8 ⟨rfl, b8⟩
        have B8 := B7.trans (b8.mono hs7)
        by_cases hxy : x.x = y.x
        · rw [decide_eq_true hxy]
          have hst := Lib.hid (hstep.out hxy)
          clear hno hxy hstep
          go_wp2
          go_roundw
          case rel => exact ⟨k + 1, by omega, by go_num, hst.out, B8⟩
          case measure => simp [intOf]; omega
        · rw [decide_eq_false hxy]
          have hnn := Lib.hid (hno.out hxy)
          clear hno hxy hstep
          go_wp2
          go_ret
          exact ⟨by rw [hnn.out]; rfl, B8⟩
      · obtain rfl : k = h1.length := by omega
        have q2 : decide ((h1.length : Int) < (h1.length : Int)) = false := decide_eq_false (by omega)
        have hyes : Hid (decide (xs h1 = xs h2) = true) := decide_eq_true (HEX.out (fun j hj => hall j hj hj))
        clear hall HIN HEX
        go_wp2
        go_ret
        exact ⟨by rw [hyes.out]; rfl, Bk⟩
  · have d : ((h1.length : Int) != (h2.length : Int)) = true := by
      rw [bne_iff_ne]
      omega
    rw [decide_eq_false (fun q : xs h1 = xs h2 => hl (by rw [← xs_len h1, ← xs_len h2, q]))]
    clear hl
    go_enter Tryd.func84, Tryd.ntmps84
    go_wp2
    go_ret
    exact ⟨rfl, Below.refl _ _⟩

theorem sameK_any (a1 a2 : Option Addr) (c1 c2 : Nat) (h1 h2 : List MvH) (w : World) (H1 : MvsIn w a1 h1) (H2 : MvsIn w a2 h2) (m1 : h1.length ≤ maxLen) (m2 : h2.length ≤ maxLen) :
    Calls Tryd.prog 65 #[.slice a1 h1.length c1, .slice a2 h2.length c2] w fun e w' => e = .returned (.bool (decide (xs h1 = xs h2))) ∧ Below w.heap.size w w' := by
  have HX := Lib.hid (sameK_many a1 a2 c1 c2 h1 h2 w H1 H2 m1 m2)
  go_enter Tryd.func65, Tryd.ntmps65
  go_wp2_with fail
  refine HX.out.mono ?_
  rintro e w2 ⟨rfl, b2⟩
  go_wp2
  go_ret
  exact ⟨rfl, b2⟩

end Go.Proofs.YtdjljnpbnhampaaDoor

namespace Go.Proofs.YtdjljnpbnhampaaDoor
open Go.RowKit
attribute [local go_sem ↓] Go.wp_at_zero Go.wp_at_succ
set_option linter.unusedSimpArgs false
set_option linter.unusedVariables false
set_option maxRecDepth 100000


set_option maxHeartbeats 1600000 in
theorem sameR_one (x y : MvH) (w : World) (hx : IvIn w x.a x.x.ev) (hy : IvIn w y.a y.x.ev) (mx : x.x.ev.length ≤ maxLen) (my : y.x.ev.length ≤ maxLen) :
    Calls Tryd.prog 85 #[.agg (mvC x), .agg (mvC y)] w fun e w' => e = .returned (.bool (decide (x.x = y.x))) ∧ Below w.heap.size w w' := by
  obtain ⟨⟨a1, f1, e1⟩, p1, c1⟩ := x
  obtain ⟨⟨a2, f2, e2⟩, p2, c2⟩ := y
  simp only at *
  unfold mvC
  simp only
  have hb0 : Below w.heap.size w ((w.alloc (.cells #[.bool a1, .int .i64 f1, .slice p1 e1.length c1] 92)).alloc (.cells #[.bool a2, .int .i64 f2, .slice p2 e2.length c2] 92)) := ((Below.refl _ _).alloc (Nat.le_refl _) _).alloc (by simp) _
  have HE := Lib.hid (intEq_any p1 p2 c1 c2 e1 e2 _ (hx.below hb0) (hy.below hb0) mx my)
  have he : decide ((⟨a1, f1, e1⟩ : Mv) = ⟨a2, f2, e2⟩) = ((a1 == a2) && ((f1 == f2) && decide (e1 = e2))) := by
    by_cases q1 : a1 = a2
    · by_cases q2 : f1 = f2
      · subst q1 q2
        simp
      · rw [decide_eq_false (fun q => q2 (congrArg Mv.first q)), (beq_eq_false_iff_ne.2 q2)]
        simp
    · rw [decide_eq_false (fun q => q1 (congrArg Mv.all q)), (beq_eq_false_iff_ne.2 q1)]
      simp
  rw [he]
  clear he hx hy
  cases hq1 : (a1 == a2) with
  | false =>
    clear HE
    go_enter Tryd.func85, Tryd.ntmps85
    go_wp2
    go_ret
    exact ⟨by simp, hb0⟩
  | true =>
    cases hq2 : (f1 == f2) with
    | false =>
      clear HE
      go_enter Tryd.func85, Tryd.ntmps85
      go_wp2
      go_ret
      exact ⟨by simp, hb0⟩
    | true =>
      have hsz : ((w.alloc (.cells #[.bool a1, .int .i64 f1, .slice p1 e1.length c1] 92)).alloc (.cells #[.bool a2, .int .i64 f2, .slice p2 e2.length c2] 92)).heap.size = w.heap.size + 1 + 1 := by simp
      go_enter Tryd.func85, Tryd.ntmps85
      go_wp2_with fail
      refine HE.out.mono ?_
      rintro e w2 ⟨rfl, b2⟩
      have B2 := hb0.trans (b2.mono hb0.size)
      go_wp2
      go_ret
      exact ⟨by simp, B2⟩

set_option maxHeartbeats 3200000 in
theorem sameR_many (a1 a2 : Option Addr) (c1 c2 : Nat) (h1 h2 : List MvH) (w : World) (H1 : MvsIn w a1 h1) (H2 : MvsIn w a2 h2) (m1 : h1.length ≤ maxLen) (m2 : h2.length ≤ maxLen) :
    Calls Tryd.prog 84 #[.slice a1 h1.length c1, .slice a2 h2.length c2, .func (.func 85) #[] #[]] w fun e w' => e = .returned (.bool (decide (xs h1 = xs h2))) ∧ Below w.heap.size w w' := by
  have k1 : h1.length ≤ 9223372036854775807 := m1
  have k2 : h2.length ≤ 9223372036854775807 := m2
  clear m1 m2
  by_cases hl : h1.length = h2.length
  · have hl3 := Lib.hid hl.symm
    have HIN : Hid (∀ (k : Nat) (hk : k < h1.length), xs h1 = xs h2 → h1[k].x = (h2[k]'(by rw [hl3.out]; exact hk)).x) := fun k hk q => by
      have e1 := xs_get h1 k hk
      have e2 := xs_get h2 k (by rw [hl3.out]; exact hk)
      rw [← e1, ← e2]
      congr 1
    have HEX : Hid ((∀ (k : Nat) (hk : k < h1.length), h1[k].x = (h2[k]'(by rw [hl3.out]; exact hk)).x) → xs h1 = xs h2) := fun q => by
      apply List.ext_getElem
      · rw [xs_len, xs_len, hl]
      · intro k q1 q2
        rw [xs_len] at q1 q2
        rw [xs_get h1 k q1, xs_get h2 k q2]
        exact q k q1
    rw [← hl]
    clear hl k2
    go_enter Tryd.func84, Tryd.ntmps84
    go_wp2_with fail
    go_loopw [17] (fun i wr => ∃ k : Nat, k ≤ h1.length ∧ i = .int .i64 k ∧ (∀ (j : Nat) (hj : j < h1.length), j < k → h1[j].x = (h2[j]'(by rw [hl3.out]; exact hj)).x) ∧ Below w.heap.size w wr) (fun i _ => h1.length - (intOf i).toNat)
    case atStart => exact ⟨0, by omega, rfl, fun j hj q => by omega, Below.refl _ _⟩
    case round =>
      obtain ⟨k, hk, rfl, hall, Bk⟩ := hrel
      by_cases hlt : k < h1.length
      · have I1 := H1.below Bk
        have I2 := H2.below Bk
        have hlt2 : k < h2.length := by rw [hl3.out]; exact hlt
        obtain ⟨b1, o1, rfl, hb1, at1⟩ := I1.row.at hlt
        obtain ⟨b2, o2, rfl, hb2, at2⟩ := I2.row.at hlt2
        have q1 : (k : Int) < (h1.length : Int) := by omega
        have q2 : decide ((k : Int) < (h1.length : Int)) = true := decide_eq_true q1
        have q3 : (0 : Int) ≤ (k : Int) := by omega
        have q4 : IntKind.i64.wrap ((k : Int) + 1) = (k : Int) + 1 := by rw [IntKind.wrap_i64] <;> omega
        have HK1 := at1 k hlt
        have HK2 := at2 k hlt2
        obtain ⟨e1, cp1, cm1⟩ := I1.ev h1[k] (List.getElem_mem hlt)
        obtain ⟨e2, cp2, cm2⟩ := I2.ev h2[k] (List.getElem_mem hlt2)
        have HS : Hid (∀ W, Below wr.heap.size wr W → Calls Tryd.prog 85 #[.agg (mvC h1[k]), .agg (mvC h2[k])] W fun e w' => e = .returned (.bool (decide (h1[k].x = h2[k].x))) ∧ Below W.heap.size W w') := fun W hb => sameR_one h1[k] h2[k] W (e1.below hb) (e2.below hb) (Nat.le_trans cp1 cm1) (Nat.le_trans cp2 cm2)
        have hstep : Hid (h1[k].x = h2[k].x → ∀ (j : Nat) (hj : j < h1.length), j < k + 1 → h1[j].x = (h2[j]'(by rw [hl3.out]; exact hj)).x) := fun q j hj hj2 => by
          by_cases hjk : j = k
          · subst hjk; exact q
          · exact hall j hj (by omega)
        have hno : Hid (¬ h1[k].x = h2[k].x → decide (xs h1 = xs h2) = false) := fun q => decide_eq_false (fun r => q (HIN.out k hlt r))
        generalize h1[k] = x at *
        generalize h2[k] = y at *
        clear at1 at2 e1 e2 cp1 cm1 cp2 cm2 I1 I2 hall HIN HEX
        have k2 : (k : Int) < (h2.length : Int) := by have := hl3.out; omega
        have HA4 := Blk.new wr 92 (mvC zMvH)
        have b4 : Below wr.heap.size wr (wr.alloc (.cells (mvC zMvH) 92)) := (Below.refl _ _).alloc (Nat.le_refl _) _
        go_upto_region 6 with (first
          | (refine load_cells (B := b1) (k := o1 + k * 3) 92 (mvC x) (by rfl) rfl rfl HK1 (by kernel_rfl) (by kernel_rfl) ?_)
          | (refine alloc_blk 92 (mvC zMvH) (by rfl) rfl Tryd.mhZero ?_)
          | (refine store_blk (k := 0) 92 (.agg (mvC x)) (mvC x) (by rfl) rfl rfl rfl HA4 (by kernel_rfl) (show (3 : Nat) ≤ 3 from Nat.le_refl 3) (by rfl) (st_whole _ _ rfl) ?_; intro w5 HA5 b5 g5))
        have b15 := b4.trans b5
        have HK5 : CellsAt w5 b2 (o2 + k * 3) (mvC y) := HK2.below b15 hb2
        have HA6 := Blk.new w5 92 (mvC zMvH)
        have b6 : Below w5.heap.size w5 (w5.alloc (.cells (mvC zMvH) 92)) := (Below.refl _ _).alloc (Nat.le_refl _) _
        clear HA4 b4 b5 g5 HK1 HK2
        have hsw := Bk.size
        have hs5 : w.heap.size ≤ w5.heap.size := Nat.le_trans hsw b15.size
        have HS5 := Lib.hid (fun W (hb : Below w5.heap.size w5 W) => HS.out W (b15.trans (hb.mono b15.size)))
        have B5 := Bk.trans (b15.mono hsw)
        clear HS b15 Bk
        generalize wr.heap.size = G1 at *
        go_upto_region 7 with (first
          | (refine load_cells (B := b2) (k := o2 + k * 3) 92 (mvC y) (by rfl) rfl rfl HK5 (by kernel_rfl) (by kernel_rfl) ?_)
          | (refine alloc_blk 92 (mvC zMvH) (by rfl) rfl Tryd.mhZero ?_)
          | (refine store_blk (k := 0) 92 (.agg (mvC y)) (mvC y) (by rfl) rfl rfl rfl HA6 (by kernel_rfl) (show (3 : Nat) ≤ 3 from Nat.le_refl 3) (by rfl) (st_whole _ _ rfl) ?_; intro w7 HA7 b7 g7))
        have b57 := b6.trans b7
        have HA5' := HA5.kept b57
        have B7 := B5.trans (b57.mono hs5)
        have HS7 := Lib.hid (HS5.out w7 b57)
        have hs7 : w.heap.size ≤ w7.heap.size := Nat.le_trans hs5 b57.size
        clear HS5 B5 b57 b6 b7 g7 HA6 HK5
        generalize w5.heap.size = G2 at *
        go_wp2_with (first
          | (refine load_blk (k := 0) 92 (mvC x) (by rfl) rfl rfl HA5' (by kernel_rfl) (by kernel_rfl) rfl ?_)
          | (refine load_blk (k := 0) 92 (mvC y) (by rfl) rfl rfl HA7 (by kernel_rfl) (by kernel_rfl) rfl ?_))
        refine HS7.out.mono ?_
        rintro e w8 ⟨rfl, b8⟩
        have B8 := B7.trans (b8.mono hs7)
        by_cases hxy : x.x = y.x
        · rw [decide_eq_true hxy]
          have hst := Lib.hid (hstep.out hxy)
          clear hno hxy hstep
          go_wp2
          go_roundw
          case rel => exact ⟨k + 1, by omega, by go_num, hst.out, B8⟩
          case measure => simp [intOf]; omega
        · rw [decide_eq_false hxy]
          have hnn := Lib.hid (hno.out hxy)
          clear hno hxy hstep
          go_wp2
          go_ret
          exact ⟨by rw [hnn.out]; rfl, B8⟩
      · obtain rfl : k = h1.length := by omega
        have q2 : decide ((h1.length : Int) < (h1.length : Int)) = false := decide_eq_false (by omega)
        have hyes : Hid (decide (xs h1 = xs h2) = true) := decide_eq_true (HEX.out (fun j hj => hall j hj hj))
        clear hall HIN HEX
        go_wp2
        go_ret
        exact ⟨by rw [hyes.out]; rfl, Bk⟩
  · have d : ((h1.length : Int) != (h2.length : Int)) = true := by
      rw [bne_iff_ne]
      omega
    rw [decide_eq_false (fun q : xs h1 = xs h2 => hl (by rw [← xs_len h1, ← xs_len h2, q]))]
    clear hl
    go_enter Tryd.func84, Tryd.ntmps84
    go_wp2
    go_ret
    exact ⟨rfl, Below.refl _ _⟩

theorem sameR_any (a1 a2 : Option Addr) (c1 c2 : Nat) (h1 h2 : List MvH) (w : World) (H1 : MvsIn w a1 h1) (H2 : MvsIn w a2 h2) (m1 : h1.length ≤ maxLen) (m2 : h2.length ≤ maxLen) :
    Calls Tryd.prog 55 #[.slice a1 h1.length c1, .slice a2 h2.length c2] w fun e w' => e = .returned (.bool (decide (xs h1 = xs h2))) ∧ Below w.heap.size w w' := by
  have HX := Lib.hid (sameR_many a1 a2 c1 c2 h1 h2 w H1 H2 m1 m2)
  go_enter Tryd.func55, Tryd.ntmps55
  go_wp2_with fail
  refine HX.out.mono ?_
  rintro e w2 ⟨rfl, b2⟩
  go_wp2
  go_ret
  exact ⟨rfl, b2⟩

end Go.Proofs.YtdjljnpbnhampaaDoor

