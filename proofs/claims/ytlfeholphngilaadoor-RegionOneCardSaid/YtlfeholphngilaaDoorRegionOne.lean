/- slices.Clone, slices.Insert of spans. slices.Insert of spans: in place. slices.Insert of spans: at the end; into a new row. slices.Clone of spans; slices.Insert, whatever the room; a span's end stored. switchyardkeep.RegionOne returns true at every list of spans and numbers, and changes nothing that was there. -/
import Derived.Test.YtlfeholphngilaaDoorSpOwn
import Derived.Test.YtlfeholphngilaaDoorSpLeast
import Derived.Lib.Overlaps
import Derived.Lib.AppendZerosOnto
import Derived.Laws.CopyRow
import Derived.Shelf.Spec.SlicesInsert
import Derived.Lib.AppendZeros
import Derived.Test.YtlfeholphngilaaDoorRegional
import Derived.Test.YtlfeholphngilaaDoorPick
namespace Go.Proofs.YtlfeholphngilaaDoor
open Go.RowKit
attribute [local go_sem ↓] Go.wp_at_zero Go.wp_at_succ
set_option linter.unusedSimpArgs false
set_option linter.unusedVariables false
set_option maxRecDepth 100000

theorem run_copy_sz {P : Program} (w : World) (dT sT ty elem : TypeId) (sz g o dLen dCap : Nat) (a : Addr) (sLen sCap m : Nat) (cur : Array Value) (t : TypeId) (cs : List Value)
    (hu : P.underlying dT = some (.slice elem)) (hs : (P.info? elem).map (·.size) = some sz)
    (hg : w.heap[g]? = some (.cells cur t (0, 0))) (hm : m = Nat.min sLen dLen) (hn : cs.length = m * sz)
    (hsrc : ∀ j v, cs[j]? = some v → w.cell? (a.add j) = some v) (hfit : o + cs.length ≤ cur.size) (h1 : ∀ v ∈ cs, v.oneCell' = true) :
    (Builtin.copy_ #[dT, sT] ty #[.slice (some ⟨g, o, none⟩) dLen dCap, .slice (some a) sLen sCap]).run P w =
      .ok (goInt m) (w.setRow g (cur.toList.take o ++ cs ++ cur.toList.drop (o + cs.length)).toArray) := by
  have hl := run_loadCells_list (P := P) w a cs hsrc
  have hst := run_storeCells_at P g o t cs 0 cur w hg (by simpa using hfit) h1
  cases hq : P.info? elem with
  | none => simp [hq] at hs
  | some i =>
    have hi : i.size = sz := by simpa [hq] using hs
    simp [Builtin.copy_, run_underlying hu, Builtin.lenOf, Builtin.firstCells, sizeOf, typeInfo, hq, hi, ← hm, ← hn, hl, hst]
theorem wp_copy_sz {P : Program} {o : Oper} {a : Act} {w : World} {K : Act → World → Prop} {Q : Exit → Act → World → Prop} {d x : Operand} {dT sT elem T : TypeId} {sz G k dLen dCap sLen sCap m : Nat} {ad : Addr} {C : Array Value} (cs : List Value) (C' : Array Value)
    (hop : o.op = Op.call { callee := Callee.builtin Builtin.copy, args := #[d, x], argTypes := #[dT, sT] }) (hd : a.eval d = .slice (some ⟨G, k, none⟩) dLen dCap) (hx : a.eval x = .slice (some ad) sLen sCap) (hB : Blk w G T C)
    (hu : P.underlying dT = some (.slice elem)) (hs : (P.info? elem).map (·.size) = some sz) (hm : m = Nat.min sLen dLen) (hn : cs.length = m * sz)
    (hsrc : ∀ j v, cs[j]? = some v → w.cell? (ad.add j) = some v) (hfit : k + cs.length ≤ C.size) (h1 : ∀ v ∈ cs, v.oneCell' = true) (hC : (C.toList.take k ++ cs ++ C.toList.drop (k + cs.length)).toArray = C')
    (hK : ∀ w', Blk w' G T C' → Below G w w' → w.grownBy w' (some G) → K (a.put o.dst (goInt m)) w') : Oper.wp P o a w K Q := by
  have hrun := run_copy_sz (P := P) w dT sT o.type elem sz G k dLen dCap ad sLen sCap m C T cs hu hs hB hm hn hsrc hfit h1
  rw [hC] at hrun
  have hFr := hB.setRow C'
  have hbl : Below G w (w.setRow G C') := below_setRow (Below.refl _ _) (Nat.le_refl _) _
  have hgr : w.grownBy (w.setRow G C') (some G) := ⟨rfl, rfl, rfl, by simp, fun j _ hj => setRow_other w G j C' (by intro e; subst e; exact hj rfl)⟩
  unfold Oper.wp
  simp [execOp, hop, resolve, invoke, builtin, hd, hx, hrun, Result.andThen]
  exact hK _ hFr hbl hgr
theorem copy_sz {P : Program} {ops : Array Oper} {rest : List Oper} {o : Oper} {a : Act} {w : World} {Q : Exit → Act → World → Prop} {d x : Operand} {dT sT elem T : TypeId} {sz G k dLen dCap sLen sCap m : Nat} {ad : Addr} {C : Array Value} (cs : List Value) (C' : Array Value) (hw : Region.wanted o (yielded ops a.tmps) = true)
    (hop : o.op = Op.call { callee := Callee.builtin Builtin.copy, args := #[d, x], argTypes := #[dT, sT] }) (hd : a.eval d = .slice (some ⟨G, k, none⟩) dLen dCap) (hx : a.eval x = .slice (some ad) sLen sCap) (hB : Blk w G T C)
    (hu : P.underlying dT = some (.slice elem)) (hs : (P.info? elem).map (·.size) = some sz) (hm : m = Nat.min sLen dLen) (hn : cs.length = m * sz)
    (hsrc : ∀ j v, cs[j]? = some v → w.cell? (ad.add j) = some v) (hfit : k + cs.length ≤ C.size) (h1 : ∀ v ∈ cs, v.oneCell' = true) (hC : (C.toList.take k ++ cs ++ C.toList.drop (k + cs.length)).toArray = C')
    (h : ∀ w', Blk w' G T C' → Below G w w' → w.grownBy w' (some G) → wpList P ops Q rest (a.put o.dst (goInt m)) w') : wpList P ops Q (o :: rest) a w :=
  wpList_step fun K hK => by
    rw [if_pos hw]
    exact wp_copy_sz cs C' hop hd hx hB hu hs hm hn hsrc hfit h1 hC (fun w' h1 h2 h3 => hK _ _ (h w' h1 h2 h3))
theorem spAt_take {w : World} {B : Nat} {C : Array Value} {L : List Sp} (h : Blk w B 42 C) (hC : C.toList.take (L.length * 3) = spL L) : SpAt w B 0 L := by
  intro j hj k c hc
  have hk : k < 3 := (Array.getElem?_eq_some_iff.1 hc).1
  have h2 := spL_get L j hj k hk
  rw [hc, ← hC, List.getElem?_take, if_pos (by omega)] at h2
  rw [Nat.zero_add, h.c (j * 3 + k)]
  simpa using h2
/-- A cell of a row that lies at the head of a block. -/
theorem head_cell {w : World} {B : Nat} {T : TypeId} {C : Array Value} {X : List Value} (h : Blk w B T C) (n : Nat) (hC : C.toList.take n = X) (j : Nat) (v : Value) (hv : X[j]? = some v) : w.cell? ⟨B, j, none⟩ = some v := by
  rw [h.c j]
  rw [← hC, List.getElem?_take] at hv
  split at hv
  · simpa using hv
  · cases hv
theorem spL_take (l : List Sp) (i : Nat) : (spL l).take (i * 3) = spL (l.take i) := by
  have h : spL l = spL (l.take i) ++ spL (l.drop i) := by rw [← spL_append, List.take_append_drop]
  by_cases c : i ≤ l.length
  · rw [h, List.take_append_of_le_length (by rw [spL_len, List.length_take, Nat.min_eq_left c]; exact Nat.le_refl _), List.take_of_length_le (by rw [spL_len, List.length_take, Nat.min_eq_left c]; exact Nat.le_refl _)]
  · rw [List.take_of_length_le (by rw [spL_len]; omega), List.take_of_length_le (by omega)]
theorem spL_drop (l : List Sp) (i : Nat) : (spL l).drop (i * 3) = spL (l.drop i) := by
  by_cases c : i ≤ l.length
  · have h : spL l = spL (l.take i) ++ spL (l.drop i) := by rw [← spL_append, List.take_append_drop]
    have hl : (spL (l.take i)).length = i * 3 := by rw [spL_len, List.length_take, Nat.min_eq_left c]
    rw [h, List.drop_append_of_le_length (by omega), ← hl, List.drop_length, List.nil_append]
  · rw [List.drop_of_length_le (by rw [spL_len]; omega), List.drop_of_length_le (by omega)]
    rfl


end Go.Proofs.YtlfeholphngilaaDoor

namespace Go.Proofs.YtlfeholphngilaaDoor
open Go.RowKit
attribute [local go_sem ↓] Go.wp_at_zero Go.wp_at_succ
set_option linter.unusedSimpArgs false
set_option linter.unusedVariables false
set_option maxRecDepth 100000

theorem ins_shift (cur : List Value) (l : List Sp) (x : Sp) (n i cap : Nat) (hc : cur.length = cap * 3) (hcur : cur.take (n * 3) = spL l) (hln : l.length = n) (hin : i < n) (hroom : n + 1 ≤ cap) (C1 : List Value)
    (h1 : C1 = cur.take ((i + 1) * 3) ++ spL (l.drop i) ++ cur.drop ((i + 1) * 3 + (spL (l.drop i)).length)) :
    (C1.take (i * 3) ++ (spC x).toList ++ C1.drop (i * 3 + (spC x).toList.length)).take ((l.take i ++ x :: l.drop i).length * 3) = spL (l.take i ++ x :: l.drop i) := by
  have hA : cur.take (i * 3) = spL (l.take i) := by
    rw [← spL_take, ← hcur, List.take_take, Nat.min_eq_left (by omega)]
  have hAl : (spL (l.take i)).length = i * 3 := by rw [spL_len, List.length_take, Nat.min_eq_left (by omega)]
  have hDl : (spL (l.drop i)).length = (n - i) * 3 := by rw [spL_len, List.length_drop, hln]
  have hPl : (cur.take ((i + 1) * 3)).length = (i + 1) * 3 := by rw [List.length_take, Nat.min_eq_left (by omega)]
  have e1 : C1.take (i * 3) = spL (l.take i) := by
    rw [h1, List.append_assoc, List.take_append_of_le_length (by omega), List.take_take, Nat.min_eq_left (by omega), hA]
  have e2 : C1.drop (i * 3 + 3) = spL (l.drop i) ++ cur.drop ((i + 1) * 3 + (spL (l.drop i)).length) := by
    rw [h1, List.append_assoc, show i * 3 + 3 = (i + 1) * 3 by omega, List.drop_append_of_le_length (by omega), List.drop_of_length_le (by omega), List.nil_append]
  have hL : (l.take i ++ x :: l.drop i).length * 3 = (spL (l.take i) ++ (spC x).toList ++ spL (l.drop i)).length := by
    simp only [List.length_append, List.length_cons, List.length_take, List.length_drop, hAl, hDl, spC_len, hln]
    rw [Nat.min_eq_left (by omega)]
    omega
  rw [spC_len, e1, e2, hL, ← List.append_assoc, List.take_left, spL_append, spL_cons, List.append_assoc]
theorem Tryd.spSize : (Tryd.prog.info? 42).map (·.size) = some 3 := by kernel_rfl
theorem blk_shape {w : World} {B : Nat} {T : TypeId} {C : Array Value} (h : Blk w B T C) : w.shape? B = some (T, C.size) := by
  have h1 : w.heap[B]? = _ := h
  unfold World.shape?
  rw [h1]
set_option maxHeartbeats 12800000 in
theorem insC (g cap n i vb : Nat) (l : List Sp) (x : Sp) (cur : Array Value) (w : World)
    (HG : Blk w g 42 cur) (hcz : cur.size = cap * 3) (hcur : cur.toList.take (n * 3) = spL l) (hln : l.length = n) (hnc : n ≤ cap) (hcm : cap ≤ maxLen)
    (HV : Blk w vb 42 (spC x)) (hvg : vb ≠ g) (hi1 : 1 ≤ i) (h61 : n ≤ 100) (hin : i < n) (hroom : n + 1 ≤ cap) :
    Calls Tryd.prog 29 #[.slice (some ⟨g, 0, none⟩) n cap, .int .i64 i, .slice (some ⟨vb, 0, none⟩) 1 1] w fun e w' => e = .returned (.slice (some ⟨g, 0, none⟩) (n + 1) cap) ∧ SpAt w' g 0 (l.take i ++ x :: l.drop i) ∧ Below g w w' := by
  have hcl : cur.toList.length = cap * 3 := by rw [Array.length_toList]; exact hcz
  have hDl : (spL (l.drop i)).length = (n - i) * 3 := by rw [spL_len, List.length_drop, hln]
  obtain ⟨C1, hC1e⟩ : ∃ C1, C1 = (cur.toList.take ((i + 1) * 3) ++ spL (l.drop i) ++ cur.toList.drop ((i + 1) * 3 + (spL (l.drop i)).length)).toArray := ⟨_, rfl⟩
  have hC1 := Lib.hid hC1e.symm
  have hC1l : C1.toList = cur.toList.take ((i + 1) * 3) ++ spL (l.drop i) ++ cur.toList.drop ((i + 1) * 3 + (spL (l.drop i)).length) := by rw [hC1e]
  have hC1s : C1.size = cap * 3 := by
    rw [← Array.length_toList, hC1l]
    simp only [List.length_append, List.length_take, List.length_drop, hcl, hDl]
    omega
  obtain ⟨C2, hC2e⟩ : ∃ C2, C2 = (C1.toList.take (i * 3) ++ (spC x).toList ++ C1.toList.drop (i * 3 + (spC x).toList.length)).toArray := ⟨_, rfl⟩
  have hC2 := Lib.hid hC2e.symm
  have HFIN : Hid (C2.toList.take ((l.take i ++ x :: l.drop i).length * 3) = spL (l.take i ++ x :: l.drop i)) := by
    show _ = _
    rw [hC2e]
    exact ins_shift cur.toList l x n i cap hcl hcur hln hin hroom C1.toList hC1l
  have hm1 : Hid (n - i = Nat.min (n + 1 - i) (n - i)) := by show _ = _; exact (Nat.min_eq_right (by omega)).symm
  have hd1 := Lib.hid hDl
  have hs1 : Hid (∀ j v, (spL (l.drop i))[j]? = some v → w.drew.cell? ((⟨g, i * 3, none⟩ : Addr).add j) = some v) := fun j v hj => by
    rw [Addr.add_lit]
    refine head_cell HG.drew (n * 3) hcur (i * 3 + j) v ?_
    rw [← spL_drop, List.getElem?_drop] at hj
    exact hj
  have hf1 : Hid ((i + 1) * 3 + (spL (l.drop i)).length ≤ cur.size) := by show _ ≤ _; rw [hDl, hcz]; omega
  have hov : ∀ lb cb, (callFunc 43 #[.slice (some ⟨vb, 0, none⟩) 1 1, .slice (some ⟨g, (i + 1) * 3, none⟩) lb cb]).run Tryd.prog w = .ok (.value (.bool false)) w := fun lb cb => by
    rw [run_callFunc_extern Tryd.func43 (by kernel_rfl) (by kernel_rfl) (by kernel_rfl) (e := Extern.SlicesOverlaps.overlaps #[27, 27] #[4]) (by kernel_rfl),
      Lib.run_overlaps_apart w 27 4 42 Tryd.underlying27 3 Tryd.sizeOf42 ⟨vb, 0, none⟩ ⟨g, (i + 1) * 3, none⟩ 1 1 lb cb hvg 42 42 3 cur.size (blk_shape HV) (blk_shape HG) (by omega) (HV.fz 0) (HV.fz 3)]
    rfl
  have q1 : ((i : Int) == (n : Int)) = false := by rw [beq_eq_false_iff_ne]; omega
  have q2 : IntKind.i64.wrap ((n : Int) + 1) = (n : Int) + 1 := by rw [IntKind.wrap_i64] <;> omega
  have q3 : decide ((cap : Int) < (n : Int) + 1) = false := decide_eq_false (by omega)
  have q4 : IntKind.i64.wrap ((i : Int) + 1) = (i : Int) + 1 := by rw [IntKind.wrap_i64] <;> omega
  have q5 : (i : Int) ≤ (n : Int) := by omega
  have q6 : (n : Int) + 1 ≤ (cap : Int) := by omega
  have q7 : (0 : Int) ≤ (n : Int) + 1 := by omega
  have q8 : (i : Int) + 1 ≤ (n : Int) + 1 := by omega
  have q9 : (0 : Int) ≤ (i : Int) + 1 := by omega
  have p1 : ((n : Int) + 1).toNat = n + 1 := by omega
  have p2 : ((i : Int) + 1).toNat = i + 1 := by omega
  have p3 : ¬ cap = i + 1 := by omega
  have p4 : ¬ cap = i := by omega
  have p5 : ¬ ((i : Int) = (n : Int)) := by omega
  have p6 : ¬ (cap : Int) < (n : Int) + 1 := by omega
  have p7 : (i : Int) ≤ (n : Int) + 1 := by omega
  have hm2 : Hid (1 = Nat.min 1 (n + 1 - i)) := by show _ = _; exact (Nat.min_eq_left (by omega)).symm
  have hf2 : Hid (i * 3 + (spC x).toList.length ≤ C1.size) := by show _ ≤ _; rw [spC_len, hC1s]; omega
  clear hC1e hC2e hC1l hcl hcur hC1s hcm
  go_enter Tryd.func29, Tryd.ntmps29
  go_wp2_with (simp only [hov])
  clear hov
  refine wp_region_noPanic ?_
  refine wp_region_held_drew (S := (fun _ => True)) (by kernel_rfl) ?_ (fun hHeld => ?_)
  · exact trivial
  refine wpAnyH_take (i := 0) (v := ?_) rfl (by kernel_rfl) (by kernel_rfl) (by kernel_rfl) (fun _ _ _ h => h) (Or.inl ⟨by rfl, ?_⟩) (by assumption) ?_
  rotate_left
  · (intro w hSw; (try dsimp only at hSw); go_simp; (try with_reducible rfl))
  (try simp only [Act.put, List.getElem_toArray, List.getElem_cons_zero, List.getElem_cons_succ, List.setIfInBounds_toArray, List.set_cons_zero, List.set_cons_succ])
  refine wpAnyH_take (i := 1) (v := ?_) rfl (by kernel_rfl) (by kernel_rfl) (by kernel_rfl) (fun _ _ _ h => h) (Or.inl ⟨by rfl, ?_⟩) (by assumption) ?_
  rotate_left
  · (intro w hSw; (try dsimp only at hSw); go_simp; (try with_reducible rfl))
  (try simp only [Act.put, List.getElem_toArray, List.getElem_cons_zero, List.getElem_cons_succ, List.setIfInBounds_toArray, List.set_cons_zero, List.set_cons_succ])
  refine wpAnyH_take (i := 2) (v := ?_) rfl (by kernel_rfl) (by kernel_rfl) (by kernel_rfl) (fun _ _ _ h => h) (Or.inl ⟨by rfl, ?_⟩) (by assumption) ?_
  rotate_left
  · (intro w hSw; (try dsimp only at hSw); go_simp; (try with_reducible rfl))
  (try simp only [Act.put, List.getElem_toArray, List.getElem_cons_zero, List.getElem_cons_succ, List.setIfInBounds_toArray, List.set_cons_zero, List.set_cons_succ])
  refine wpAnyH_take (i := 3) (v := ?_) rfl (by kernel_rfl) (by kernel_rfl) (by kernel_rfl) (fun _ _ _ h => h) (Or.inl ⟨by rfl, ?_⟩) (by assumption) ?_
  rotate_left
  · (intro w hSw; (try dsimp only at hSw); go_simp; (try with_reducible rfl))
  (try simp only [Act.put, List.getElem_toArray, List.getElem_cons_zero, List.getElem_cons_succ, List.setIfInBounds_toArray, List.set_cons_zero, List.set_cons_succ])
  refine wpAnyH_take (i := 4) (v := ?_) rfl (by kernel_rfl) (by kernel_rfl) (by kernel_rfl) (fun _ _ _ h => h) (Or.inl ⟨by rfl, ?_⟩) (by assumption) ?_
  rotate_left
  · (intro w hSw; (try dsimp only at hSw); go_simp; (try with_reducible rfl))
  (try simp only [Act.put, List.getElem_toArray, List.getElem_cons_zero, List.getElem_cons_succ, List.setIfInBounds_toArray, List.set_cons_zero, List.set_cons_succ])
  refine wpAnyH_take (i := 5) (v := ?_) rfl (by kernel_rfl) (by kernel_rfl) (by kernel_rfl) (fun _ _ _ h => h) (Or.inl ⟨by rfl, ?_⟩) (by assumption) ?_
  rotate_left
  · (intro w hSw; (try dsimp only at hSw); go_simp; (try with_reducible rfl))
  (try simp only [Act.put, List.getElem_toArray, List.getElem_cons_zero, List.getElem_cons_succ, List.setIfInBounds_toArray, List.set_cons_zero, List.set_cons_succ])
  refine wpAnyH_take (i := 6) (v := ?_) rfl (by kernel_rfl) (by kernel_rfl) (by kernel_rfl) (fun _ _ _ h => h) (Or.inl ⟨by rfl, ?_⟩) (by assumption) ?_
  rotate_left
  · (intro w hSw; (try dsimp only at hSw); go_simp; (try with_reducible rfl))
  (try simp only [Act.put, List.getElem_toArray, List.getElem_cons_zero, List.getElem_cons_succ, List.setIfInBounds_toArray, List.set_cons_zero, List.set_cons_succ])
  refine wpAnyH_take (i := 7) (v := ?_) rfl (by kernel_rfl) (by kernel_rfl) (by kernel_rfl) (fun _ _ _ h => h) (Or.inl ⟨by rfl, ?_⟩) (by assumption) ?_
  rotate_left
  · (intro w hSw; (try dsimp only at hSw); go_simp; (try with_reducible rfl))
  (try simp only [Act.put, List.getElem_toArray, List.getElem_cons_zero, List.getElem_cons_succ, List.setIfInBounds_toArray, List.set_cons_zero, List.set_cons_succ])
  refine wpAnyH_ready (rs := [8]) (by kernel_rfl) (by simp) ?_
  refine AllReadyH.cons rfl (fun K hK => ?_) AllReadyH.nil
  simp only [List.getElem_toArray, List.getElem_cons_zero, List.getElem_cons_succ]
  rw [if_pos (by rfl)]
  refine wp_copy_sz (m := n - i) (spL (l.drop i)) C1 rfl rfl rfl HG.drew Tryd.underlying27 Tryd.spSize hm1.out hd1.out hs1.out hf1.out (spL_cells _) hC1.out ?_
  intro w1 R1 b1 g1
  refine hK.out _ _ ?_ (fun hHeld => ?_)
  · exact trivial
  clear hK K
  (try simp only [Act.put, List.getElem_toArray, List.getElem_cons_zero, List.getElem_cons_succ, List.setIfInBounds_toArray, List.set_cons_zero, List.set_cons_succ])
  refine wpAnyH_done (by kernel_rfl) ?_ _
  refine NoPanic.normal ?_
  have V1 := HV.drew.grown g1 (by simp; omega)
  have hs2 : Hid (∀ j v, (spC x).toList[j]? = some v → w1.cell? ((⟨vb, 0, none⟩ : Addr).add j) = some v) := fun j v hj => by
    rw [Addr.add_lit, Nat.zero_add]
    exact V1.cv j v (by simpa using hj)
  go_wp2_with (refine copy_sz (m := 1) (sz := 3) (T := 42) (C := C1) (spC x).toList C2 (by rfl) rfl rfl rfl R1 Tryd.underlying27 Tryd.spSize hm2.out rfl hs2.out hf2.out (spC_cells x) hC2.out ?_; intro w2 R2 b2 g2)
  go_ret
  exact ⟨rfl, spAt_take R2 HFIN.out, ((Below.refl g w).drew.trans b1).trans b2⟩

end Go.Proofs.YtlfeholphngilaaDoor

namespace Go.Proofs.YtlfeholphngilaaDoor
open Go.RowKit
attribute [local go_sem ↓] Go.wp_at_zero Go.wp_at_succ
set_option linter.unusedSimpArgs false
set_option linter.unusedVariables false
set_option maxRecDepth 100000

theorem ins_grow (row : List Value) (l : List Sp) (x : Sp) (n i : Nat) (hrow : row.take (i * 3) = spL (l.take i)) (hrl : (n + 1) * 3 ≤ row.length) (hln : l.length = n) (hin : i < n) (C1 : List Value)
    (h1 : C1 = row.take (i * 3) ++ (spC x).toList ++ row.drop (i * 3 + (spC x).toList.length)) :
    (C1.take ((i + 1) * 3) ++ spL (l.drop i) ++ C1.drop ((i + 1) * 3 + (spL (l.drop i)).length)).take ((l.take i ++ x :: l.drop i).length * 3) = spL (l.take i ++ x :: l.drop i) := by
  have hAl : (spL (l.take i)).length = i * 3 := by rw [spL_len, List.length_take, Nat.min_eq_left (by omega)]
  have hDl : (spL (l.drop i)).length = (n - i) * 3 := by rw [spL_len, List.length_drop, hln]
  have e1 : C1.take ((i + 1) * 3) = spL (l.take i) ++ (spC x).toList := by
    rw [h1, hrow, List.take_append_of_le_length (by rw [List.length_append, hAl, spC_len]; omega), List.take_of_length_le (by rw [List.length_append, hAl, spC_len]; omega)]
  have hL : (l.take i ++ x :: l.drop i).length * 3 = (spL (l.take i) ++ (spC x).toList ++ spL (l.drop i)).length := by
    simp only [List.length_append, List.length_cons, List.length_take, List.length_drop, hAl, hDl, spC_len, hln]
    rw [Nat.min_eq_left (by omega)]
    omega
  rw [e1, hL, List.take_left, spL_append, spL_cons, List.append_assoc]
/-- What Insert answers. -/
def InsOut (w' : World) (n : Nat) (L : List Sp) (e : Ending) : Prop := ∃ g' cap', e = .returned (.slice (some ⟨g', 0, none⟩) (n + 1) cap') ∧ SpAt w' g' 0 L ∧ g' < w'.heap.size
theorem own_of_blk {w : World} {base g cap n : Nat} {l : List Sp} {cur : Array Value} (hbg : base ≤ g) (HG : Blk w g 42 cur) (hcz : cur.size = cap * 3) (hcur : cur.toList.take (n * 3) = spL l) (hln : l.length = n) (hnc : n ≤ cap) (hcm : cap ≤ maxLen) : w.ownsRow base 42 3 (.slice (some ⟨g, 0, none⟩) n cap) n (spL l) :=
  ⟨by rw [spL_len, hln], Or.inr ⟨g, cap, cur, rfl, hbg, HG, hnc, hcm, hcz, hcur⟩⟩
set_option maxHeartbeats 6400000 in
theorem insA (base g cap n vb : Nat) (l : List Sp) (x : Sp) (cur : Array Value) (w : World) (hbs : base ≤ w.heap.size) (hbg : base ≤ g)
    (HG : Blk w g 42 cur) (hcz : cur.size = cap * 3) (hcur : cur.toList.take (n * 3) = spL l) (hln : l.length = n) (hnc : n ≤ cap) (hcm : cap ≤ maxLen)
    (HV : Blk w vb 42 (spC x)) (hvg : vb ≠ g) (hi1 : 1 ≤ n) (h61 : n ≤ 100) :
    Calls Tryd.prog 29 #[.slice (some ⟨g, 0, none⟩) n cap, .int .i64 n, .slice (some ⟨vb, 0, none⟩) 1 1] w fun e w' => InsOut w' n (l ++ [x]) e ∧ Below base w w' := by
  obtain ⟨i0, hi, hz0, hz1, hz2⟩ := info_parts Tryd.spParts
  have HO := own_of_blk hbg HG hcz hcur hln hnc hcm
  have q1 : ((n : Int) == (n : Int)) = true := by simp
  have q5 : (n : Int) ≤ (n : Int) := Int.le_refl _
  have hl1 : (l ++ [x]).length = n + 1 := by simp [hln]
  have hvn : ∀ j u, (spC x).toList[j]? = some u → w.cell? ((⟨vb, 0, none⟩ : Addr).add j) = some u := fun j u hj => by
    rw [Addr.add_lit, Nat.zero_add]
    exact HV.cv j u (by simpa using hj)
  clear HG hcz hcur HV hcm
  go_enter Tryd.func29, Tryd.ntmps29
  go_wp2_with (at_builtin; refine wpList_append_lies _ rfl _ _ _ rfl base 42 i0 (.agg (spC zSp)) 3 24 Tryd.underlying27 hi hz0 hz1 hz2 rfl (by decide) (.slice (some ⟨g, 0, none⟩) n cap) n _ rfl HO ⟨vb, 0, none⟩ 1 1 (spC x).toList rfl rfl hvn (spC_cells x) (by decide) (by unfold maxLen; omega) (by omega) hbs _ rfl ?_; intro g6 cap6 w6 hown6 hgrow6 hat6 hlt6)
  all_goals go_ret
  all_goals refine ⟨⟨g6, cap6, rfl, sp_own hl1.symm (by rw [spL_append, spL_one]; exact hown6), hlt6⟩, (Below.refl base w).grown hgrow6 hbs (fun q hq => by simp [Value.ownBlock] at hq; omega)⟩
set_option maxHeartbeats 12800000 in
theorem insB (g cap n i vb : Nat) (l : List Sp) (x : Sp) (cur : Array Value) (w : World)
    (HG : Blk w g 42 cur) (hcz : cur.size = cap * 3) (hcur : cur.toList.take (n * 3) = spL l) (hln : l.length = n) (hnc : n ≤ cap) (hcm : cap ≤ maxLen)
    (HV : Blk w vb 42 (spC x)) (hvg : vb ≠ g) (hi1 : 1 ≤ i) (h61 : n ≤ 100) (hin : i < n) (hroom : cap < n + 1) :
    Calls Tryd.prog 29 #[.slice (some ⟨g, 0, none⟩) n cap, .int .i64 i, .slice (some ⟨vb, 0, none⟩) 1 1] w fun e w' => InsOut w' n (l.take i ++ x :: l.drop i) e ∧ Below w.heap.size w w' := by
  obtain ⟨i0, hi0, hz0, hzs, hzb⟩ := info_parts Tryd.spParts
  have hik : i + (n + 1 - i) = n + 1 := by omega
  have hkk : (n : Int) + 1 - (i : Int) = ((n + 1 - i : Nat) : Int) := by omega
  have hAl : (spL (l.take i)).length = i * 3 := by rw [spL_len, List.length_take, Nat.min_eq_left (by omega)]
  have hDl : (spL (l.drop i)).length = (n - i) * 3 := by rw [spL_len, List.length_drop, hln]
  have hold : (Builtin.firstCells i0.size i (.slice (some ⟨g, 0, none⟩) i cap)).run Tryd.prog w.drew = .ok (spL (l.take i)).toArray w.drew := by
    rw [hzs]
    exact run_firstCells_some w.drew 3 i ⟨g, 0, none⟩ i cap (spL (l.take i)) hAl (fun j v hj => by
      rw [Addr.add_lit, Nat.zero_add]
      refine head_cell HG.drew (n * 3) hcur j v ?_
      rw [← spL_take, List.getElem?_take] at hj
      split at hj
      · exact hj
      · cases hj)
  obtain ⟨G, hG⟩ : ∃ G, G = grownCap w (n + 1) cap 42 := ⟨_, rfl⟩
  obtain ⟨ROW, hROW⟩ : ∃ ROW : Array Value, ROW = (spL (l.take i)).toArray ++ Builtin.zeroCells (Value.agg (spC zSp)).cells (n + 1 - i) ++ Builtin.zeroCells (Value.agg (spC zSp)).cells (G - (n + 1)) := ⟨_, rfl⟩
  have hrz : ∀ ty, (Builtin.append_ #[27, 3] ty #[.slice (some ⟨g, 0, none⟩) i cap, .int .i64 ((n : Int) + 1 - (i : Int))]).run Tryd.prog w = .ok (.slice (some ⟨w.heap.size, 0, none⟩) (n + 1) G) (w.drew.alloc (.cells ROW 42)) := fun ty => by
    have h := Lib.run_append_grow_zeros w 27 3 ty 42 i0 _ .i64 .i64 Tryd.underlying27 Tryd.underlying3 hi0 hz0 (some ⟨g, 0, none⟩) i cap (spL (l.take i)) hold (n + 1 - i) (by omega) (by omega) (by omega) (by omega) (by rw [hzb]; omega) (by rw [hzb, hik]; exact growslice_fits hroom (by omega))
    rw [hik, ← hG, ← hROW] at h
    rw [hkk]
    exact h
  have hGn : n + 1 ≤ G := by rw [hG]; exact grownCap_ge w _ _ _
  have hGm : G ≤ maxLen := by rw [hG]; exact grownCap_le_maxLen w (n + 1) cap 42 (by unfold maxLen; omega)
  have hRl : (n + 1) * 3 ≤ ROW.size := by
    rw [hROW]
    have : (spL (l.take i)).toArray.size = i * 3 := by simpa using hAl
    have e2 : (Builtin.zeroCells (Value.agg (spC zSp)).cells (n + 1 - i)).size = (n + 1 - i) * 3 := by simp [Builtin.zeroCells, Value.cells, spC]
    rw [Array.size_append, Array.size_append, this, e2]
    omega
  have hRt : ROW.toList.take (i * 3) = spL (l.take i) := by
    rw [hROW, Array.toList_append, Array.toList_append, List.append_assoc, List.take_append_of_le_length (by simp [hAl]), List.take_of_length_le (by simp [hAl])]
  have HN := Blk.new w.drew 42 ROW
  have BN : Below w.heap.size w (w.drew.alloc (.cells ROW 42)) := (Below.refl w.heap.size w).drew.alloc (Nat.le_refl _) _
  have VN := HV.drew.alloc (.cells ROW 42)
  have GN := HG.drew.alloc (.cells ROW 42)
  have hvw : vb < w.heap.size := HV.lt
  have hgw : g < w.heap.size := HG.lt
  obtain ⟨C1, hC1e⟩ : ∃ C1, C1 = (ROW.toList.take (i * 3) ++ (spC x).toList ++ ROW.toList.drop (i * 3 + (spC x).toList.length)).toArray := ⟨_, rfl⟩
  have hC1 := Lib.hid hC1e.symm
  have hC1l : C1.toList = ROW.toList.take (i * 3) ++ (spC x).toList ++ ROW.toList.drop (i * 3 + (spC x).toList.length) := by rw [hC1e]
  have hrl : (n + 1) * 3 ≤ ROW.toList.length := by rw [Array.length_toList]; exact hRl
  have hC1s : (n + 1) * 3 ≤ C1.size := by
    rw [← Array.length_toList, hC1l]
    simp only [List.length_append, List.length_take, List.length_drop, spC_len]
    omega
  obtain ⟨C2, hC2e⟩ : ∃ C2, C2 = (C1.toList.take ((i + 1) * 3) ++ spL (l.drop i) ++ C1.toList.drop ((i + 1) * 3 + (spL (l.drop i)).length)).toArray := ⟨_, rfl⟩
  have hC2 := Lib.hid hC2e.symm
  have HFIN : Hid (C2.toList.take ((l.take i ++ x :: l.drop i).length * 3) = spL (l.take i ++ x :: l.drop i)) := by
    show _ = _
    rw [hC2e]
    exact ins_grow ROW.toList l x n i hRt hrl hln hin C1.toList hC1l
  have hm1 : Hid (1 = Nat.min 1 (n + 1 - i)) := by show _ = _; exact (Nat.min_eq_left (by omega)).symm
  have hf1 : Hid (i * 3 + (spC x).toList.length ≤ ROW.size) := by show _ ≤ _; rw [spC_len]; omega
  have hm2 : Hid (n - i = Nat.min (n - i) (n - i)) := by show _ = _; exact (Nat.min_eq_left (Nat.le_refl _)).symm
  have hd1 := Lib.hid hDl
  have hf2 : Hid ((i + 1) * 3 + (spL (l.drop i)).length ≤ C1.size) := by show _ ≤ _; rw [hDl]; omega
  have hs1 : Hid (∀ j v, (spC x).toList[j]? = some v → (w.drew.alloc (.cells ROW 42)).cell? ((⟨vb, 0, none⟩ : Addr).add j) = some v) := fun j v hj => by
    rw [Addr.add_lit, Nat.zero_add]
    exact VN.cv j v (by simpa using hj)
  have HCUR := Lib.hid hcur
  have hG63 : (G : Int) ≤ 9223372036854775807 := by unfold maxLen at hGm; omega
  have q2 : IntKind.i64.wrap ((n : Int) + 1) = (n : Int) + 1 := by rw [IntKind.wrap_i64] <;> omega
  have q4 : IntKind.i64.wrap ((i : Int) + 1) = (i : Int) + 1 := by rw [IntKind.wrap_i64] <;> omega
  have q4b : IntKind.i64.wrap ((n : Int) + 1 - (i : Int)) = (n : Int) + 1 - (i : Int) := by rw [IntKind.wrap_i64] <;> omega
  have q5 : (i : Int) ≤ (n : Int) := by omega
  have q7 : (0 : Int) ≤ (n : Int) + 1 := by omega
  have q8 : (i : Int) + 1 ≤ (n : Int) + 1 := by omega
  have q9 : (0 : Int) ≤ (i : Int) + 1 := by omega
  have p1 : ((n : Int) + 1).toNat = n + 1 := by omega
  have p2 : ((i : Int) + 1).toNat = i + 1 := by omega
  have p7 : (i : Int) ≤ (n : Int) + 1 := by omega
  have q1 : ((i : Int) == (n : Int)) = false := by rw [beq_eq_false_iff_ne]; omega
  have q3 : decide ((cap : Int) < (n : Int) + 1) = true := decide_eq_true (by omega)
  have p6 : (cap : Int) < (n : Int) + 1 := by omega
  have p3 : ¬ G = i + 1 := by omega
  have p4 : ¬ G = i := by omega
  have p5 : ¬ ((i : Int) = (n : Int)) := by omega
  have p8 : ¬ cap = i := by omega
  have p9 : (i : Int) ≤ (cap : Int) := by omega
  clear hC1e hC2e hC1l hcur hC1s hcm hkk hik hold hROW hG hRl hRt hrl HV HG hGm
  rw [show w.drew.heap.size = w.heap.size from rfl] at HN
  generalize hW1 : w.drew.alloc (.cells ROW 42) = W1 at *
  go_enter Tryd.func29, Tryd.ntmps29
  go_wp2_with (first
    | (at_builtin; refine Lib.wpList_append_run _ rfl _ _ _ _ rfl _ _ rfl rfl _ _ (hrz _) ?_)
    | (refine copy_sz (m := 1) (sz := 3) (T := 42) (C := ROW) (spC x).toList C1 (by rfl) rfl rfl rfl HN Tryd.underlying27 Tryd.spSize hm1.out rfl hs1.out hf1.out (spC_cells x) hC1.out ?_; intro w1 R1 b1 g1))
  have G1 := GN.grown g1 (by simp; omega)
  have hs2 : Hid (∀ j v, (spL (l.drop i))[j]? = some v → w1.drew.cell? ((⟨g, i * 3, none⟩ : Addr).add j) = some v) := fun j v hj => by
    rw [Addr.add_lit]
    refine head_cell G1.drew (n * 3) HCUR.out (i * 3 + j) v ?_
    rw [← spL_drop, List.getElem?_drop] at hj
    exact hj
  refine wp_region_noPanic ?_
  refine wp_region_held_drew (S := (fun _ => True)) (by kernel_rfl) ?_ (fun hHeld => ?_)
  · exact trivial
  refine wpAnyH_take (i := 0) (v := ?_) rfl (by kernel_rfl) (by kernel_rfl) (by kernel_rfl) (fun _ _ _ h => h) (Or.inl ⟨by rfl, ?_⟩) (by assumption) ?_
  rotate_left
  · (intro w hSw; (try dsimp only at hSw); go_simp; (try with_reducible rfl))
  (try simp only [Act.put, List.getElem_toArray, List.getElem_cons_zero, List.getElem_cons_succ, List.setIfInBounds_toArray, List.set_cons_zero, List.set_cons_succ])
  refine wpAnyH_take (i := 1) (v := ?_) rfl (by kernel_rfl) (by kernel_rfl) (by kernel_rfl) (fun _ _ _ h => h) (Or.inl ⟨by rfl, ?_⟩) (by assumption) ?_
  rotate_left
  · (intro w hSw; (try dsimp only at hSw); go_simp; (try with_reducible rfl))
  (try simp only [Act.put, List.getElem_toArray, List.getElem_cons_zero, List.getElem_cons_succ, List.setIfInBounds_toArray, List.set_cons_zero, List.set_cons_succ])
  refine wpAnyH_take (i := 2) (v := ?_) rfl (by kernel_rfl) (by kernel_rfl) (by kernel_rfl) (fun _ _ _ h => h) (Or.inl ⟨by rfl, ?_⟩) (by assumption) ?_
  rotate_left
  · (intro w hSw; (try dsimp only at hSw); go_simp; (try with_reducible rfl))
  (try simp only [Act.put, List.getElem_toArray, List.getElem_cons_zero, List.getElem_cons_succ, List.setIfInBounds_toArray, List.set_cons_zero, List.set_cons_succ])
  refine wpAnyH_take (i := 3) (v := ?_) rfl (by kernel_rfl) (by kernel_rfl) (by kernel_rfl) (fun _ _ _ h => h) (Or.inl ⟨by rfl, ?_⟩) (by assumption) ?_
  rotate_left
  · (intro w hSw; (try dsimp only at hSw); go_simp; (try with_reducible rfl))
  (try simp only [Act.put, List.getElem_toArray, List.getElem_cons_zero, List.getElem_cons_succ, List.setIfInBounds_toArray, List.set_cons_zero, List.set_cons_succ])
  refine wpAnyH_take (i := 4) (v := ?_) rfl (by kernel_rfl) (by kernel_rfl) (by kernel_rfl) (fun _ _ _ h => h) (Or.inl ⟨by rfl, ?_⟩) (by assumption) ?_
  rotate_left
  · (intro w hSw; (try dsimp only at hSw); go_simp; (try with_reducible rfl))
  (try simp only [Act.put, List.getElem_toArray, List.getElem_cons_zero, List.getElem_cons_succ, List.setIfInBounds_toArray, List.set_cons_zero, List.set_cons_succ])
  refine wpAnyH_take (i := 5) (v := ?_) rfl (by kernel_rfl) (by kernel_rfl) (by kernel_rfl) (fun _ _ _ h => h) (Or.inl ⟨by rfl, ?_⟩) (by assumption) ?_
  rotate_left
  · (intro w hSw; (try dsimp only at hSw); go_simp; (try with_reducible rfl))
  (try simp only [Act.put, List.getElem_toArray, List.getElem_cons_zero, List.getElem_cons_succ, List.setIfInBounds_toArray, List.set_cons_zero, List.set_cons_succ])
  refine wpAnyH_take (i := 6) (v := ?_) rfl (by kernel_rfl) (by kernel_rfl) (by kernel_rfl) (fun _ _ _ h => h) (Or.inl ⟨by rfl, ?_⟩) (by assumption) ?_
  rotate_left
  · (intro w hSw; (try dsimp only at hSw); go_simp; (try with_reducible rfl))
  (try simp only [Act.put, List.getElem_toArray, List.getElem_cons_zero, List.getElem_cons_succ, List.setIfInBounds_toArray, List.set_cons_zero, List.set_cons_succ])
  refine wpAnyH_take (i := 7) (v := ?_) rfl (by kernel_rfl) (by kernel_rfl) (by kernel_rfl) (fun _ _ _ h => h) (Or.inl ⟨by rfl, ?_⟩) (by assumption) ?_
  rotate_left
  · (intro w hSw; (try dsimp only at hSw); go_simp; (try with_reducible rfl))
  (try simp only [Act.put, List.getElem_toArray, List.getElem_cons_zero, List.getElem_cons_succ, List.setIfInBounds_toArray, List.set_cons_zero, List.set_cons_succ])
  refine wpAnyH_ready (rs := [8]) (by kernel_rfl) (by simp) ?_
  refine AllReadyH.cons rfl (fun K hK => ?_) AllReadyH.nil
  simp only [List.getElem_toArray, List.getElem_cons_zero, List.getElem_cons_succ]
  rw [if_pos (by rfl)]
  refine wp_copy_sz (m := n - i) (spL (l.drop i)) C2 rfl rfl rfl R1.drew Tryd.underlying27 Tryd.spSize hm2.out hd1.out hs2.out hf2.out (spL_cells _) hC2.out ?_
  intro w2 R2 b2 g2
  refine hK.out _ _ ?_ (fun hHeld => ?_)
  · exact trivial
  clear hK K
  (try simp only [Act.put, List.getElem_toArray, List.getElem_cons_zero, List.getElem_cons_succ, List.setIfInBounds_toArray, List.set_cons_zero, List.set_cons_succ])
  refine wpAnyH_done (by kernel_rfl) ?_ _
  refine NoPanic.normal ?_
  go_wp2
  go_ret
  exact ⟨⟨w.heap.size, G, rfl, spAt_take R2 HFIN.out, R2.lt⟩, (BN.trans b1).drew.trans b2⟩

end Go.Proofs.YtlfeholphngilaaDoor

namespace Go.Proofs.YtlfeholphngilaaDoor
open Go.RowKit
attribute [local go_sem ↓] Go.wp_at_zero Go.wp_at_succ
set_option linter.unusedSimpArgs false
set_option linter.unusedVariables false
set_option maxRecDepth 100000

set_option maxHeartbeats 3200000 in
theorem cloneSp_any (base b o c : Nat) (l : List Sp) (w : World) (h : SpAt w b o l) (hb : b < w.heap.size) (h0 : 0 < l.length) (h30 : l.length ≤ 100) (hbs : base ≤ w.heap.size) :
    Calls Tryd.prog 28 #[.slice (some ⟨b, o, none⟩) l.length c] w fun e w' => ∃ g cap, e = .returned (.slice (some ⟨g, 0, none⟩) l.length cap) ∧ w'.ownsRow base 42 3 (.slice (some ⟨g, 0, none⟩) l.length cap) l.length (spL l) ∧ g < w'.heap.size ∧ Below w.heap.size w w' := by
  obtain ⟨i0, hi, hz0, hz1, hz2⟩ := info_parts Tryd.spParts
  have hown := World.ownsRow_made (base := w.heap.size) (e := 42) (size := 3) w #[] 0 (Nat.le_refl _) (by unfold maxLen; omega) rfl
  have hat : SpAt (w.alloc (.cells #[] 42)) b o l := fun j hj => (h j hj).below ((Below.refl w.heap.size w).alloc (Nat.le_refl _) _) hb
  have hlv := spL_len l
  have hnil : ∀ W, (binOp BinOp.eql 27 (.slice (some ⟨b, o, none⟩) l.length c) (.slice none 0 0)).run Tryd.prog W = .ok (.bool false) W := fun W => by kernel_rfl
  go_enter Tryd.func28, Tryd.ntmps28
  go_wp2_with (at_builtin; refine wpList_append_lies _ rfl _ _ _ rfl w.heap.size 42 i0 (.agg (spC zSp)) 3 24 Tryd.underlying27 hi hz0 hz1 hz2 rfl (by omega) (.slice (some ⟨w.heap.size, 0, none⟩) 0 0) 0 _ rfl hown ⟨b, o, none⟩ l.length c (spL l) rfl hlv (spAt_news hat) (spL_cells l) h0 (by unfold maxLen; omega) (by omega) (by simp) (w.heap.size + 1) (by simp) ?_; intro g cap w5 hown5 hgrow5 hat5 hlt5)
  go_ret
  rw [Nat.zero_add, List.nil_append] at hown5
  have hB : Below w.heap.size w w5 := ((Below.refl w.heap.size w).alloc (Nat.le_refl _) (.cells #[] 42)).grown hgrow5 (by simp) (fun k hk => by simp [Value.ownBlock] at hk; omega)
  refine ⟨g, cap, rfl, ?_, hlt5, hB⟩
  obtain ⟨q0, q1⟩ := hown5
  refine ⟨q0, ?_⟩
  rcases q1 with q1 | ⟨g', cap', cur, e1, e2, e3⟩
  · exact Or.inl q1
  · exact Or.inr ⟨g', cap', cur, e1, Nat.le_trans hbs e2, e3⟩
theorem InsOut.of {w' : World} {n : Nat} {L : List Sp} {e : Ending} (g' cap' : Nat) (h1 : e = .returned (.slice (some ⟨g', 0, none⟩) (n + 1) cap')) (h2 : SpAt w' g' 0 L) (h3 : g' < w'.heap.size) : InsOut w' n L e := ⟨g', cap', h1, h2, h3⟩
theorem ins_any (base g cap n i vb : Nat) (l : List Sp) (x : Sp) (w : World) (hbs : base ≤ w.heap.size) (HO : w.ownsRow base 42 3 (.slice (some ⟨g, 0, none⟩) n cap) n (spL l)) (hln : l.length = n) (HV : Blk w vb 42 (spC x)) (hvg : vb ≠ g) (hi1 : 1 ≤ i) (hin : i ≤ n) (h61 : n ≤ 100) :
    Calls Tryd.prog 29 #[.slice (some ⟨g, 0, none⟩) n cap, .int .i64 i, .slice (some ⟨vb, 0, none⟩) 1 1] w fun e w' => InsOut w' n (l.take i ++ x :: l.drop i) e ∧ Below base w w' := by
  rcases HO.2 with ⟨q, -⟩ | ⟨g', cap', cur, e1, e2, e3, e4, e5, e6, e7⟩
  · cases q
  · cases e1
    have HG : Blk w g 42 cur := e3
    by_cases c1 : i = n
    · subst c1
      have h := insA base g cap i vb l x cur w hbs e2 HG e6 e7 hln e4 e5 HV hvg hi1 h61
      rw [show l.take i ++ x :: l.drop i = l ++ [x] by rw [← hln, List.take_length, List.drop_length]]
      exact h
    · by_cases c2 : n + 1 ≤ cap
      · refine (insC g cap n i vb l x cur w HG e6 e7 hln e4 e5 HV hvg hi1 h61 (by omega) c2).mono ?_
        rintro e w' ⟨r1, r2, r3⟩
        exact ⟨⟨g, cap, r1, r2, Nat.lt_of_lt_of_le HG.lt r3.size⟩, r3.mono e2⟩
      · refine (insB g cap n i vb l x cur w HG e6 e7 hln e4 e5 HV hvg hi1 h61 (by omega) (by omega)).mono ?_
        rintro e w' ⟨r1, r2⟩
        exact ⟨r1, r2.mono hbs⟩
/-- One span's end is stored anew. -/
theorem own_set {w w' : World} {base g cap n : Nat} {A B : List Sp} {y : Sp} {t : Int} {cur : Array Value} (hn : (A ++ y :: B).length = n)
    (h : w.ownsRow base 42 3 (.slice (some ⟨g, 0, none⟩) n cap) n (spL (A ++ y :: B))) (hg : Blk w g 42 cur)
    (hw : Blk w' g 42 (cur.setIfInBounds (A.length * 3 + 1) (.int .i64 t))) :
    w'.ownsRow base 42 3 (.slice (some ⟨g, 0, none⟩) n cap) n (spL (A ++ ⟨y.f, t, y.i⟩ :: B)) := by
  obtain ⟨h0, h1⟩ := h
  have hl2 : (A ++ (⟨y.f, t, y.i⟩ : Sp) :: B).length = n := by rw [← hn]; simp
  refine ⟨by rw [spL_len, hl2], ?_⟩
  rcases h1 with ⟨h1, h2⟩ | ⟨g', cap', cur', e1, e2, e3, e4, e5, e6, e7⟩
  · cases h1
  · cases e1
    have ec : cur' = cur := by
      have q : w.heap[g]? = some (.cells cur 42 (0, 0)) := hg
      rw [q] at e3
      cases e3
      rfl
    subst ec
    refine Or.inr ⟨g, cap, _, rfl, e2, hw, e4, e5, by rw [Array.size_setIfInBounds]; exact e6, ?_⟩
    rw [Array.toList_setIfInBounds, List.take_set, e7, spL_append, spL_append, spL_cons, spL_cons, List.set_append_right _ _ (by rw [spL_len]; omega), spL_len, show A.length * 3 + 1 - A.length * 3 = 1 by omega]
    rfl
theorem own_blk2 {w : World} {base g cap n : Nat} {l : List Sp} (h : w.ownsRow base 42 3 (.slice (some ⟨g, 0, none⟩) n cap) n (spL l)) : ∃ cur, Blk w g 42 cur ∧ n * 3 ≤ cur.size ∧ base ≤ g := by
  rcases h.2 with ⟨h1, -⟩ | ⟨g', cap', cur', e1, e2, e3, e4, e5, e6, e7⟩
  · cases h1
  · cases e1
    exact ⟨cur', e3, by rw [e6]; exact Nat.mul_le_mul_right 3 e4, e2⟩

end Go.Proofs.YtlfeholphngilaaDoor

namespace Go.Proofs.YtlfeholphngilaaDoor.regionOne
open Go.RowKit
attribute [local go_sem ↓] Go.wp_at_zero Go.wp_at_succ
set_option linter.unusedSimpArgs false
set_option linter.unusedVariables false
set_option maxRecDepth 100000

theorem cut_list (A B : List Sp) (y z : Sp) (r : Nat) (hA : A.length = r) : (A ++ y :: B).take (r + 1) ++ z :: (A ++ y :: B).drop (r + 1) = A ++ y :: z :: B := by
  have e : A ++ y :: B = (A ++ [y]) ++ B := by simp
  have hl : (A ++ [y]).length = r + 1 := by simp [hA]
  rw [e, ← hl, List.take_left, List.drop_left, List.append_assoc]
  rfl
theorem fill_y (v : Sp) : Instr.fill (fun i => some (i * 3, 3)) ((Array.range (1 * 3)).map ((Value.agg (spC zSp)).cells[· % (Value.agg (spC zSp)).cells.size]!)) [(0, .agg (spC v))] = some (spC v) := by kernel_rfl

set_option maxHeartbeats 12800000 in
theorem walk (a : Option Addr) (c : Nat) (l : List Sp) (at0 wh : Int) (w : World) (h : SpIn w a l) (HM : HasMd w) :
    Calls Tryd.prog 8 #[.slice a l.length c, .int .i64 at0, .int .i64 wh] w fun e w' => e = .returned (.bool true) ∧ Below w.heap.size w w' := by
  have H0 := Lib.hid (fun W HM => regional_any W HM)
  by_cases hz : l.length = 0
  · have he0 : ((l.length : Int) == 0) = true := by rw [hz]; rfl
    go_enter Tryd.func8, Tryd.ntmps8
    go_wp2_with fail
    refine (H0.out _ HM).mono ?_
    rintro e w1 ⟨rfl, k1⟩
    have b1 := k1
    go_wp2
    go_ret
    exact ⟨rfl, b1⟩
  · have he0 : ((l.length : Int) == 0) = false := by rw [beq_eq_false_iff_ne]; omega
    by_cases hl : l.length ≤ 60
    · have hgt : decide ((60 : Int) < (l.length : Int)) = false := decide_eq_false (by omega)
      have hgt2 : ¬ (60 : Int) < (l.length : Int) := by omega
      have hlen : l.length ≤ 1000000 := by omega
      have H2 := Lib.hid (fun W h => spRight_any a c l W h hlen)
      cases hr : rightL l with
      | true =>
        have H5 := Lib.hid (fun W => pick_any at0 l.length W (by omega) (by omega))
        have HD := Lib.hid (fun W h HM => spDigest_ok a c l W h hlen hr HM)
        have HAT := Lib.hid (right_at l hr)
        have hr0 := Lib.hid hr
        rw [hr] at H2
        clear hr
        go_enter Tryd.func8, Tryd.ntmps8
        go_wp2_with fail
        refine (H0.out _ HM).mono ?_
        rintro e w1 ⟨rfl, k1⟩
        have b1 := k1
        go_wp2_with fail
        refine (H2.out _ (h.below b1)).mono ?_
        rintro e w2 ⟨rfl, k2⟩
        have b2 := b1.trans (k2.mono b1.size)
        go_wp2_with fail
        refine (H5.out _).mono ?_
        rintro e w3 ⟨r, rfl, hrl, rfl⟩
        obtain ⟨r1, r2, r3, r4, r5⟩ := HAT.out r hrl
        have hspl : l = l.take r ++ l[r] :: l.drop (r + 1) := by rw [← List.drop_eq_getElem_cons hrl, List.take_append_drop]
        have hAl : (l.take r).length = r := by rw [List.length_take, Nat.min_eq_left (by omega)]
        have HSP := Lib.hid hspl
        obtain ⟨bk, o, rfl, hbk, hat⟩ := h.at hrl
        have q1 : (r : Int) < (l.length : Int) := by omega
        have q2 : (0 : Int) ≤ (r : Int) := by omega
        have HK := (hat r hrl).below b2 hbk
        have B0 := b2.alloc b2.size (.cells (spC zSp) 42)
        have HN := Blk.new w2 42 (spC zSp)
        have HSPX : Hid (∀ X, X = l[r] → l = l.take r ++ X :: l.drop (r + 1)) := fun X q => by rw [q]; exact hspl
        clear HSP hspl
        obtain ⟨x, hx⟩ : ∃ x, x = l[r] := ⟨_, rfl⟩
        rw [← hx] at HK r1 r2 r3 r4 r5
        have hspx := HSPX.out x hx
        clear HSPX hx HAT H5
        obtain ⟨A, hA⟩ : ∃ A, A = l.take r := ⟨_, rfl⟩
        obtain ⟨B, hB⟩ : ∃ B, B = l.drop (r + 1) := ⟨_, rfl⟩
        rw [← hA, ← hB] at hspx
        rw [← hA] at hAl
        have HSP := Lib.hid hspx
        clear hspx hA hB
        go_upto_region 7 with (first
          | (refine load_cells 42 (spC x) (by rfl) rfl rfl HK (by kernel_rfl) (by kernel_rfl) ?_)
          | (refine alloc_blk 42 (spC zSp) (by rfl) rfl Tryd.spZero ?_)
          | (refine store_blk (k := 0) 42 (.agg (spC x)) (spC x) (by rfl) rfl rfl rfl HN (by kernel_rfl) (show (3 : Nat) ≤ 3 from Nat.le_refl 3) (by rfl) (st_whole _ _ rfl) (fun w4 HV b4 g4 => ?_)))
        have b4x : Below w.heap.size w w4 := B0.trans (b4.mono b2.size)
        have c0 := HV.cv 0 (.int .i64 x.f) rfl
        have c1 := HV.cv 1 (.int .i64 x.t) rfl
        have c2 := HV.cv 2 (.int .i64 x.i) rfl
        clear HN B0 b4 g4 HK
        have hGl : w2.heap.size < w4.heap.size := HV.lt
        have hwG : w.heap.size ≤ w2.heap.size := b2.size
        generalize hG : w2.heap.size = G at *
        clear hG
        by_cases hft : x.f = x.t
        · have d : (x.f == x.t) = true := by rw [beq_iff_eq]; exact hft
          go_wp2
          go_ret
          exact ⟨rfl, b4x⟩
        have d : (x.f == x.t) = false := by rw [beq_eq_false_iff_ne]; exact hft
        obtain ⟨D, hD⟩ := Int.eq_ofNat_of_zero_le (show 0 ≤ x.t - x.f by omega)
        have hwD : IntKind.i64.wrap (x.t - x.f) = (D : Int) := by rw [IntKind.wrap_i64] <;> omega
        have hwD2 : IntKind.i64.wrap (D : Int) = (D : Int) := by rw [IntKind.wrap_i64] <;> omega
        have H6 := Lib.hid (fun W => pick_any wh D W (by omega) (by omega))
        have d0 := HV.drew.cv 0 (.int .i64 x.f) rfl
        have d1 := HV.drew.cv 1 (.int .i64 x.t) rfl
        go_upto_region 9 with (fail)
        refine wp_region_noPanic ?_
        refine wp_region_held_drew (S := (fun w' => w'.cell? ⟨G, 0, none⟩ = some (.int .i64 x.f) ∧ w'.cell? ⟨G, 1, none⟩ = some (.int .i64 x.t))) (by kernel_rfl) ?_ (fun hHeld => ?_)
        · exact ⟨d0, d1⟩
        refine wpAnyH_take (i := 0) (v := ?_) rfl (by kernel_rfl) (by kernel_rfl) (by kernel_rfl) (fun _ _ _ h => h) (Or.inl ⟨by rfl, ?_⟩) (by assumption) ?_
        rotate_left
        · (intro w hSw; (try dsimp only at hSw); go_simp; (try with_reducible rfl))
        (try simp only [Act.put, List.getElem_toArray, List.getElem_cons_zero, List.getElem_cons_succ, List.setIfInBounds_toArray, List.set_cons_zero, List.set_cons_succ])
        refine wpAnyH_take (i := 1) (v := ?_) rfl (by kernel_rfl) (by kernel_rfl) (by kernel_rfl) (fun _ _ _ h => h) (Or.inl ⟨by rfl, ?_⟩) (by assumption) ?_
        rotate_left
        · (intro w hSw; (try dsimp only at hSw); go_simp; (try with_reducible rfl))
        (try simp only [Act.put, List.getElem_toArray, List.getElem_cons_zero, List.getElem_cons_succ, List.setIfInBounds_toArray, List.set_cons_zero, List.set_cons_succ])
        refine wpAnyH_take (i := 2) (v := ?_) rfl (by kernel_rfl) (by kernel_rfl) (by kernel_rfl) (fun _ _ _ h => h) (Or.inl ⟨by rfl, ?_⟩) (by assumption) ?_
        rotate_left
        · (intro w hSw; (try dsimp only at hSw); go_simp; (try with_reducible rfl))
        (try simp only [Act.put, List.getElem_toArray, List.getElem_cons_zero, List.getElem_cons_succ, List.setIfInBounds_toArray, List.set_cons_zero, List.set_cons_succ])
        refine wpAnyH_take (i := 3) (v := ?_) rfl (by kernel_rfl) (by kernel_rfl) (by kernel_rfl) (fun _ _ _ h => h) (Or.inl ⟨by rfl, ?_⟩) (by assumption) ?_
        rotate_left
        · (intro w hSw; (try dsimp only at hSw); go_simp; (try with_reducible rfl))
        (try simp only [Act.put, List.getElem_toArray, List.getElem_cons_zero, List.getElem_cons_succ, List.setIfInBounds_toArray, List.set_cons_zero, List.set_cons_succ])
        refine wpAnyH_take (i := 4) (v := ?_) rfl (by kernel_rfl) (by kernel_rfl) (by kernel_rfl) (fun _ _ _ h => h) (Or.inl ⟨by rfl, ?_⟩) (by assumption) ?_
        rotate_left
        · (intro w hSw; (try dsimp only at hSw); go_simp; (try with_reducible rfl))
        (try simp only [Act.put, List.getElem_toArray, List.getElem_cons_zero, List.getElem_cons_succ, List.setIfInBounds_toArray, List.set_cons_zero, List.set_cons_succ])
        refine wpAnyH_take (i := 5) (v := ?_) rfl (by kernel_rfl) (by kernel_rfl) (by kernel_rfl) (fun _ _ _ h => h) (Or.inl ⟨by rfl, ?_⟩) (by assumption) ?_
        rotate_left
        · (intro w hSw; (try dsimp only at hSw); go_simp; (try with_reducible rfl))
        (try simp only [Act.put, List.getElem_toArray, List.getElem_cons_zero, List.getElem_cons_succ, List.setIfInBounds_toArray, List.set_cons_zero, List.set_cons_succ])
        refine wpAnyH_take (i := 6) (v := ?_) rfl (by kernel_rfl) (by kernel_rfl) (by kernel_rfl) (fun _ _ _ h => h) (Or.inl ⟨by rfl, ?_⟩) (by assumption) ?_
        rotate_left
        · (intro w hSw; (try dsimp only at hSw); go_simp; (try with_reducible rfl))
        (try simp only [Act.put, List.getElem_toArray, List.getElem_cons_zero, List.getElem_cons_succ, List.setIfInBounds_toArray, List.set_cons_zero, List.set_cons_succ])
        refine wpAnyH_take (i := 7) (v := ?_) rfl (by kernel_rfl) (by kernel_rfl) (by kernel_rfl) (fun _ _ _ h => h) (Or.inl ⟨by rfl, ?_⟩) (by assumption) ?_
        rotate_left
        · (intro w hSw; (try dsimp only at hSw); go_simp; (try with_reducible rfl))
        (try simp only [Act.put, List.getElem_toArray, List.getElem_cons_zero, List.getElem_cons_succ, List.setIfInBounds_toArray, List.set_cons_zero, List.set_cons_succ])
        refine wpAnyH_ready (rs := [8]) (by kernel_rfl) (by simp) ?_
        refine AllReadyH.cons rfl (fun K hK => ?_) AllReadyH.nil
        simp only [List.getElem_toArray, List.getElem_cons_zero, List.getElem_cons_succ]
        go_simp
        with_reducible refine (H6.out _).mono ?_
        rintro e wp ⟨p, rfl, hp, rfl⟩
        have hwp : IntKind.i64.wrap (x.f + (p : Int)) = x.f + (p : Int) := by rw [IntKind.wrap_i64] <;> omega
        refine hK.out _ _ ?_ (fun hHeld => ?_)
        · exact hHeld
        clear hK K
        (try simp only [Act.put, List.getElem_toArray, List.getElem_cons_zero, List.getElem_cons_succ, List.setIfInBounds_toArray, List.set_cons_zero, List.set_cons_succ])
        refine wpAnyH_take (i := 9) (v := ?_) rfl (by kernel_rfl) (by kernel_rfl) (by kernel_rfl) (fun _ _ _ h => h) (Or.inl ⟨by rfl, ?_⟩) (by assumption) ?_
        rotate_left
        · (intro w hSw; (try dsimp only at hSw); go_simp; (try with_reducible rfl))
        (try simp only [Act.put, List.getElem_toArray, List.getElem_cons_zero, List.getElem_cons_succ, List.setIfInBounds_toArray, List.set_cons_zero, List.set_cons_succ])
        refine wpAnyH_take (i := 10) (v := ?_) rfl (by kernel_rfl) (by kernel_rfl) (by kernel_rfl) (fun _ _ _ h => h) (Or.inl ⟨by rfl, ?_⟩) (by assumption) ?_
        rotate_left
        · (intro w hSw; (try dsimp only at hSw); go_simp; (try with_reducible rfl))
        (try simp only [Act.put, List.getElem_toArray, List.getElem_cons_zero, List.getElem_cons_succ, List.setIfInBounds_toArray, List.set_cons_zero, List.set_cons_succ])
        refine wpAnyH_done (by kernel_rfl) ?_ _
        refine NoPanic.normal ?_
        have b5 := b4x.drew
        have HV5 := HV.drew
        have hG5 : G < w4.drew.heap.size := hGl
        obtain ⟨k, hk⟩ : ∃ k, k = x.f + (p : Int) := ⟨_, rfl⟩
        have hk1 : x.f ≤ k := by omega
        have hk2 : k < x.t := by omega
        rw [← hk]
        have hat5 : SpAt w4.drew bk o l := hat.below b5 hbk
        have hbk5 : bk < w4.drew.heap.size := Nat.lt_of_lt_of_le hbk b5.size
        clear hk hwp hp d0 d1 c0 c1 c2 HV hD hwD H6 b4x hat
        generalize w4.drew = w5 at *
        have HCl := Lib.hid (cloneSp_any w5.heap.size bk o c l w5 hat5 hbk5 (by omega) (by omega) (Nat.le_refl _))
        go_wp2_with fail
        refine HCl.out.mono ?_
        rintro e w6 ⟨g, cap, rfl, hown6, hg6, k6⟩
        have b6 := b5.trans (k6.mono b5.size)
        obtain ⟨cur, hcur, hcsz, hgb⟩ := own_blk2 hown6
        have hcs : r * 3 + 1 < cur.size := by omega
        have hstc := Lib.hid (st_cell cur (cur.setIfInBounds (r * 3 + 1) (.int .i64 k)) (r * 3 + 1) (.int .i64 k) rfl hcs rfl)
        have hkz : Hid (r * 3 + 1 + (Value.int .i64 k).cells.toList.length ≤ cur.size) := hcs
        have HV6 := HV5.kept k6
        have hwB : w.heap.size ≤ w5.heap.size := b5.size
        go_upto_region 12 with (refine store_blk (k := r * 3 + 1) 3 (.int .i64 k) (cur.setIfInBounds (r * 3 + 1) (.int .i64 k)) (by rfl) rfl rfl rfl hcur (by kernel_rfl) hkz.out rfl hstc.out (fun w7 R7 b7 g7 => ?_))
        have b7w := b6.trans (b7.mono (Nat.le_trans hwB hgb))
        have HV7 := HV6.grown g7 (by simp; omega)
        have c1 := HV7.cv 1 (.int .i64 x.t) rfl
        have c2 := HV7.cv 2 (.int .i64 x.i) rfl
        have hnl : (A ++ x :: B).length = l.length := by rw [← HSP.out]
        rw [HSP.out] at hown6
        rw [← HSP.out] at hown6
        have hown7 : w7.ownsRow w5.heap.size 42 3 (.slice (some ⟨g, 0, none⟩) l.length cap) l.length (spL (A ++ ⟨x.f, k, x.i⟩ :: B)) := by
          refine own_set (y := x) (cur := cur) hnl ?_ hcur (by rw [hAl]; exact R7)
          have q := hown6
          rw [HSP.out] at q
          rw [← hnl]
          exact q
        have hml : (A ++ (⟨x.f, k, x.i⟩ : Sp) :: B).length = l.length := by rw [← hnl]; simp
        have hg7 : g < w7.heap.size := R7.lt
        have hB7 : w5.heap.size ≤ w7.heap.size := Nat.le_trans k6.size b7.size
        have HW8 := Blk.new w7 42 (spC ⟨k + 1, x.t, x.i⟩)
        have b8 := b7w.alloc b7w.size (.cells (spC ⟨k + 1, x.t, x.i⟩) 42)
        have hown8 := hown7.alloc (.cells (spC ⟨k + 1, x.t, x.i⟩) 42)
        have HI := Lib.hid (ins_any w5.heap.size g cap l.length (r + 1) w7.heap.size (A ++ ⟨x.f, k, x.i⟩ :: B) ⟨k + 1, x.t, x.i⟩ (w7.alloc (.cells (spC ⟨k + 1, x.t, x.i⟩) 42)) (by simp; omega) hown8 hml HW8 (by omega) (by omega) (by omega) (by omega))
        rw [cut_list A B ⟨x.f, k, x.i⟩ ⟨k + 1, x.t, x.i⟩ r hAl] at HI
        have hcr := cut_right x k B hk1 hk2 A 0
        have hci := fun v => cut_inst x k B hk1 hk2 v A
        rw [← HSP.out] at hcr hci
        have hmr : rightL (A ++ ⟨x.f, k, x.i⟩ :: ⟨k + 1, x.t, x.i⟩ :: B) = true := hcr hr0.out
        have htb := tabB_same hci
        have hLl : (A ++ (⟨x.f, k, x.i⟩ : Sp) :: ⟨k + 1, x.t, x.i⟩ :: B).length = l.length + 1 := by rw [← hnl]; simp; omega
        have HD2 : Hid (∀ W a c, SpIn W a (A ++ ⟨x.f, k, x.i⟩ :: ⟨k + 1, x.t, x.i⟩ :: B) → HasMd W → Calls Tryd.prog 30 #[.slice a (l.length + 1) c] W fun e w' => e = .returned (.tuple #[.string ⟨(hmacL mstKey (tabB l)).toArray⟩, .nilIface]) ∧ Below W.heap.size W w') := fun W a c q HM => by
          have z := spDigest_ok a c _ W q (by omega) hmr HM
          rw [hLl, htb] at z
          exact z
        have HR2 : Hid (∀ W a c, SpIn W a (A ++ ⟨x.f, k, x.i⟩ :: ⟨k + 1, x.t, x.i⟩ :: B) → Calls Tryd.prog 17 #[.slice a (l.length + 1) c] W fun e w' => e = .returned (.bool true) ∧ Below W.heap.size W w') := fun W a c q => by
          have z := spRight_any a c _ W q (by omega)
          rw [hLl, hmr] at z
          exact z
        have hms : (⟨(hmacL mstKey (tabB l)).toArray⟩ : ByteArray).size = 16 := by show (hmacL mstKey (tabB l)).toArray.size = 16; rw [List.size_toArray]; unfold hmacL; rw [md5L_len]
        generalize (⟨(hmacL mstKey (tabB l)).toArray⟩ : ByteArray) = mk at *
        have hq : (mk.toList == mk.toList) = true := beq_iff_eq.2 rfl
        obtain ⟨R1, hR1⟩ : ∃ R1, R1 = r + 1 := ⟨_, rfl⟩
        rw [← hR1] at HI
        have e1 : IntKind.i64.wrap ((r : Int) + 1) = (R1 : Int) := by rw [IntKind.wrap_i64] <;> omega
        clear hR1
        have e2 : IntKind.i64.wrap (k + 1) = k + 1 := by rw [IntKind.wrap_i64] <;> omega
        obtain ⟨i0, hi, hz0, hz1, hz2⟩ := info_parts Tryd.spParts
        generalize hL : A ++ (⟨x.f, k, x.i⟩ : Sp) :: ⟨k + 1, x.t, x.i⟩ :: B = L at *
        clear hL hcr hci hmr htb hLl hown6 hown7 hown8 hml hnl hcs hcsz hstc hkz R7 g7 b7 HV5 HV6 hat5 HSP
        go_wp2_with (first
          | (refine build_blk (t := 42) (spC ⟨k + 1, x.t, x.i⟩) (by rfl) rfl (by kernel_rfl) ?_)
          | (refine wpList_buildSlice rfl 27 42 1 _ rfl (spC ⟨k + 1, x.t, x.i⟩) i0 (.agg (spC zSp)) Tryd.underlying27 hi hz0 (by rw [hz1]; decide) (by rw [hz1]; decide) (by rw [hz1]; simp only [List.map_toArray, List.map_cons, List.map_nil]; exact fill_y ⟨k + 1, x.t, x.i⟩) ?_))
        refine HI.out.mono ?_
        rintro e w9 ⟨⟨g9, cap9, rfl, hat9, hlt9⟩, k9⟩
        have b9 := b8.trans (k9.mono hwB)
        have S9 : SpIn w9 (some ⟨g9, 0, none⟩) L := Or.inr ⟨g9, 0, rfl, hlt9, hat9⟩
        go_wp2_with fail
        refine (HD.out _ (h.below b9) (HM.below b9)).mono ?_
        rintro e w10 ⟨rfl, k10⟩
        have b10 := b9.trans (k10.mono b9.size)
        have S10 := S9.below k10
        go_wp2_with fail
        refine (HD2.out _ _ _ S10 (HM.below b10)).mono ?_
        rintro e w11 ⟨rfl, k11⟩
        have b11 := b10.trans (k11.mono b10.size)
        have S11 := S10.below k11
        go_wp2_with fail
        refine (HR2.out _ _ _ S11).mono ?_
        rintro e w12 ⟨rfl, k12⟩
        have b12 := b11.trans (k12.mono b11.size)
        go_wp2
        go_ret
        exact ⟨rfl, b12⟩
      | false =>
        rw [hr] at H2
        clear hr
        go_enter Tryd.func8, Tryd.ntmps8
        go_wp2_with fail
        refine (H0.out _ HM).mono ?_
        rintro e w1 ⟨rfl, k1⟩
        have b1 := k1
        go_wp2_with fail
        refine (H2.out _ (h.below b1)).mono ?_
        rintro e w2 ⟨rfl, k2⟩
        have b2 := b1.trans (k2.mono b1.size)
        go_wp2
        go_ret
        exact ⟨rfl, b2⟩
    · have hgt : decide ((60 : Int) < (l.length : Int)) = true := decide_eq_true (by omega)
      have hgt2 : (60 : Int) < (l.length : Int) := by omega
      go_enter Tryd.func8, Tryd.ntmps8
      go_wp2_with fail
      refine (H0.out _ HM).mono ?_
      rintro e w1 ⟨rfl, k1⟩
      have b1 := k1
      go_wp2
      go_ret
      exact ⟨rfl, b1⟩

end Go.Proofs.YtlfeholphngilaaDoor.regionOne
