/- Texts one behind the other. Rows of instances of one's own: made by append. An instance comes behind a row of one's own: append, in a region that draws. A region that draws its order: a load that must come before the region's own store to the same place. Ahead of an operation of D a fact S holds at every world; from it on nothing is asked. mstp.Read at every text. mstp.Read at every text. mstp.Read of what is written, and of anything. -/
import Derived.Test.YtkfhcblgfndoaaaDoorMs
import Derived.Test.YtkfhcblgfndoaaaDoorStOp
import Derived.Deep.AppendLies
import Derived.Deep.RegionHeld3
import Derived.Great.BuildSlice
import Derived.Test.YtkfhcblgfndoaaaDoorRdT
import Derived.Test.YtkfhcblgfndoaaaDoorBlk
import Derived.Test.YtkfhcblgfndoaaaDoorMsWays
import Derived.Test.YtkfhcblgfndoaaaDoorShelf
import Derived.Test.YtkfhcblgfndoaaaDoorMsMath
namespace Go.Proofs.YtkfhcblgfndoaaaDoor
open Go.RowKit
set_option linter.unusedSimpArgs false
set_option linter.unusedVariables false
set_option maxRecDepth 100000

/-- The cells of instances, one behind the other. -/
def inR (l : List Ins) : List Value := l.flatMap fun v => (inC v).toList

theorem inR_cons (v : Ins) (l : List Ins) : inR (v :: l) = (inC v).toList ++ inR l := by simp [inR]

theorem inR_append (l m : List Ins) : inR (l ++ m) = inR l ++ inR m := by simp [inR]

theorem inR_one (v : Ins) : inR [v] = (inC v).toList := by simp [inR]

theorem inC_len (v : Ins) : (inC v).toList.length = 19 := rfl

theorem inR_len (l : List Ins) : (inR l).length = l.length * 19 := by
  induction l with
  | nil => rfl
  | cons v l ih => rw [inR_cons, List.length_append, ih, inC_len, List.length_cons]; omega

theorem inR_get : ∀ (l : List Ins) (j : Nat) (hj : j < l.length) (k : Nat), k < 19 → (inR l)[j * 19 + k]? = (inC l[j])[k]?
  | [], j, hj, _, _ => by simp at hj
  | v :: l, 0, _, k, hk => by
    rw [inR_cons, List.getElem?_append_left (by rw [inC_len]; omega)]
    simp
  | v :: l, j + 1, hj, k, hk => by
    have ih := inR_get l j (by simpa using hj) k hk
    rw [inR_cons, List.getElem?_append_right (by rw [inC_len]; omega), inC_len, show (j + 1) * 19 + k - 19 = j * 19 + k by omega, ih]
    rfl

theorem inC_cells (v : Ins) : ∀ u ∈ (inC v).toList, u.oneCell' = true := by
  intro u hu
  simp only [inC, List.mem_cons, List.not_mem_nil, or_false] at hu
  rcases hu with rfl | rfl | rfl | rfl | rfl | rfl | rfl | rfl | rfl | rfl | rfl | rfl | rfl | rfl | rfl | rfl | rfl | rfl | rfl <;> rfl

theorem inR_cells (l : List Ins) : ∀ u ∈ inR l, u.oneCell' = true := by
  intro u hu
  unfold inR at hu
  obtain ⟨v, _, hv⟩ := List.mem_flatMap.1 hu
  exact inC_cells v u hv

theorem inAt_news {w : World} {b o : Nat} {l : List Ins} (h : InAt w b o l) : ∀ (q : Nat) u, (inR l)[q]? = some u → w.cell? ((⟨b, o, none⟩ : Addr).add q) = some u := by
  intro q u hu
  have hq : q < l.length * 19 := by
    rw [← inR_len]
    exact (List.getElem?_eq_some_iff.1 hu).1
  have hj : q / 19 < l.length := by omega
  have e : q = q / 19 * 19 + q % 19 := by omega
  rw [e, inR_get l (q / 19) hj (q % 19) (by omega)] at hu
  have := h (q / 19) hj (q % 19) u hu
  rw [e, Addr.add_lit, ← Nat.add_assoc]
  exact this

theorem in_own {w : World} {base g cap n : Nat} {T : TypeId} {l : List Ins} (hn : n = l.length) (h : w.ownsRow base T 19 (.slice (some ⟨g, 0, none⟩) n cap) n (inR l)) : InAt w g 0 l := by
  subst hn
  intro j hj k c hc
  have hk : k < 19 := (Array.getElem?_eq_some_iff.1 hc).1
  have h2 := h.cellAt (j * 19 + k) (by omega)
  rw [inR_get l j hj k hk, hc] at h2
  rw [Nat.zero_add]
  exact h2

/-- A row of instances of one's own: none, or a block from base on. -/
def OwnI (w : World) (base : Nat) (v : Value) (l : List Ins) : Prop := (l = [] ∧ v = .slice none 0 0) ∨ (l ≠ [] ∧ ∃ g cap, v = .slice (some ⟨g, 0, none⟩) l.length cap ∧ w.ownsRow base 93 19 v l.length (inR l))

theorem OwnI.kept {w w' : World} {base : Nat} {v : Value} {l : List Ins} (h : OwnI w base v l) (hb : Below w.heap.size w w') : OwnI w' base v l := by
  rcases h with h | ⟨h1, g, cap, rfl, h2⟩
  · exact Or.inl h
  · exact Or.inr ⟨h1, g, cap, rfl, h2.kept (show w.grownBy w' none from ⟨hb.os, hb.tape, hb.output, hb.size, fun k hk _ => hb.block k hk⟩) (Or.inr (by simp [Value.ownBlock]))⟩

theorem OwnI.alloc {w : World} {base : Nat} {v : Value} {l : List Ins} (h : OwnI w base v l) (o : Obj) : OwnI (w.alloc o) base v l := h.kept ((Below.refl _ _).alloc (Nat.le_refl _) o)

theorem OwnI.inL {w : World} {base : Nat} {v : Value} {l : List Ins} (h : OwnI w base v l) : ∃ a c, v = .slice a l.length c ∧ InIn w a l := by
  rcases h with ⟨rfl, rfl⟩ | ⟨h1, g, cap, rfl, h2⟩
  · exact ⟨none, 0, rfl, Or.inl rfl⟩
  · exact ⟨some ⟨g, 0, none⟩, cap, rfl, Or.inr ⟨g, 0, rfl, (h2.lt g rfl).2, in_own rfl h2⟩⟩

theorem inR_snoc (l : List Ins) (x : Ins) : inR (l ++ [x]) = inR l ++ (inC x).toList := by rw [inR_append, inR_one]

/-- Another block is written. -/
theorem OwnI.grown {w w' : World} {base : Nat} {v : Value} {l : List Ins} {row : Option Nat} (h : OwnI w base v l) (hg : w.grownBy w' row) (hr : ∀ g, row = some g → g < base) : OwnI w' base v l := by
  rcases h with h | ⟨h1, g, cap, rfl, h2⟩
  · exact Or.inl h
  · refine Or.inr ⟨h1, g, cap, rfl, h2.kept hg ?_⟩
    right
    intro e
    have h3 := (h2.lt g rfl).1
    have := hr g (by rw [← e]; simp [Value.ownBlock])
    omega

theorem Tryd.inParts : (Tryd.prog.info? 93).map (fun i => (i.zero, i.size, i.bytes)) = some (some (.agg (inC zIns)), 19, 80) := by kernel_rfl

theorem fill_in (v : Ins) : Instr.fill (fun i => some (i * 19, 19)) ((Array.range (1 * 19)).map ((Value.agg (inC zIns)).cells[· % (Value.agg (inC zIns)).cells.size]!)) [(0, .agg (inC v))] = some (inC v) := by kernel_rfl

end Go.Proofs.YtkfhcblgfndoaaaDoor

namespace Go.Proofs.YtkfhcblgfndoaaaDoor
open Go.RowKit
set_option linter.unusedSimpArgs false
set_option linter.unusedVariables false
set_option maxRecDepth 100000

theorem own_append {o : Oper} {a : Act} {w : World} {K : Act → World → Prop} {Q : Exit → Act → World → Prop} {s x : Operand} {base G : Nat} {v : Value} {l : List Ins} (y : Ins)
    (ho : o.op = .call { callee := .builtin .append, args := #[s, x], argTypes := #[32, 32] }) (hs : a.eval s = v) (hx : a.eval x = .slice (some ⟨G, 0, none⟩) 1 1)
    (hO : OwnI w base v l) (hG : Blk w G 93 (inC y)) (hlen : l.length ≤ 10000) (hbase : base ≤ w.heap.size)
    (h : ∀ v' w', OwnI w' base v' (l ++ [y]) → Below base w w' → (∀ gr s off st, RdT w gr s off st → RdT w' gr s off st) → K (a.put o.dst v') w') : Oper.wp Tryd.prog o a w K Q := by
  obtain ⟨i0, hi, hz0, hz1, hz2⟩ := info_parts Tryd.inParts
  have hnews : ∀ (j : Nat) u, (inC y).toList[j]? = some u → w.cell? ((⟨G, 0, none⟩ : Addr).add j) = some u := fun j u hu => by
    rw [Addr.add_lit, Nat.zero_add]
    exact hG.cv j u (by simpa using hu)
  rcases hO with ⟨rfl, rfl⟩ | ⟨hne, g, cap, rfl, hown⟩
  · refine wp_append_lies w s x _ ho base 93 i0 (.agg (inC zIns)) 19 80 Tryd.underlying32 hi hz0 hz1 hz2 rfl (by decide) (.slice none 0 0) 0 [] hs (World.ownsRow_nil w base _ 19) ⟨G, 0, none⟩ 1 1 (inC y).toList hx rfl hnews (inC_cells y) (by decide) (by unfold maxLen; omega) (by decide) hbase _ rfl ?_
    intro g cap w' hown hgrow hat hlt
    refine h _ _ (Or.inr ⟨by simp, g, cap, rfl, ?_⟩) ((Below.refl base w).grown hgrow hbase (fun q hq => by simp [Value.ownBlock] at hq)) (fun gr s off st hR => ?_)
    · rw [List.nil_append, inR_one]
      exact hown
    · exact hR.below ⟨hgrow.os, hgrow.tape, hgrow.output, hgrow.size, fun k hk => hgrow.block k hk (by simp [Value.ownBlock])⟩
  · have hown' := hown
    refine wp_append_lies w s x _ ho base 93 i0 (.agg (inC zIns)) 19 80 Tryd.underlying32 hi hz0 hz1 hz2 rfl (by decide) (.slice (some ⟨g, 0, none⟩) l.length cap) l.length (inR l) hs hown ⟨G, 0, none⟩ 1 1 (inC y).toList hx rfl hnews (inC_cells y) (by decide) (by unfold maxLen; omega) (by omega) hbase _ rfl ?_
    intro g' cap' w' hown2 hgrow hat hlt
    obtain ⟨cur, hB, hge⟩ : ∃ cur, Blk w g 93 cur ∧ base ≤ g := by
      rcases hown'.2 with ⟨h1, -⟩ | ⟨g1, cap1, cur1, e1, e2, e3, -⟩
      · cases h1
      · cases e1
        exact ⟨cur1, e3, e2⟩
    have hob : Value.ownBlock (.slice (some ⟨g, 0, none⟩) l.length cap) = some g := rfl
    rw [hob] at hgrow
    refine h _ _ (Or.inr ⟨by simp, g', cap', by rw [List.length_append]; rfl, ?_⟩) ((Below.refl base w).grown hgrow hbase (fun q hq => by cases hq; exact hge)) (fun gr s off st hR => hR.other hB (by decide) (by decide) hgrow)
    rw [inR_snoc, List.length_append]
    exact hown2

end Go.Proofs.YtkfhcblgfndoaaaDoor

namespace Go.Proofs.YtkfhcblgfndoaaaDoor
open Go
set_option linter.unusedVariables false
set_option linter.unusedSimpArgs false

section
variable {P : Program} {ops : Array Oper} {Q : Exit → Act → World → Prop} {md : Region.Mode} {S : World → Prop} {D : Nat → Bool}

def wpAnyS (P : Program) (md : Region.Mode) (ops : Array Oper) (Q : Exit → Act → World → Prop) (S : World → Prop) (D : Nat → Bool) : Nat → Array Bool → Act → World → Prop
  | 0, listed, a, w => Region.ready md ops listed = [] ∧ Q .normal a w
  | fuel + 1, listed, a, w =>
    (Region.ready md ops listed = [] → Q .normal a w) ∧
    ∀ i ∈ Region.ready md ops listed, wpOp P ops Q i (fun a' w' => (D i = true → wpAny P md ops Q fuel (listed.setIfInBounds i true) a' w') ∧ (D i = false → S w' ∧ wpAnyS P md ops Q S D fuel (listed.setIfInBounds i true) a' w')) a w

theorem wpAny_of_S : ∀ (fuel : Nat) (listed : Array Bool) (a : Act) (w : World), wpAnyS P md ops Q S D fuel listed a w → wpAny P md ops Q fuel listed a w
  | 0, _, _, _, h => h
  | fuel + 1, _, _, _, h => ⟨h.1, fun i hi => wpOp_mono (fun a' w' h' => by
      cases hD : D i with
      | true => exact h'.1 hD
      | false => exact wpAny_of_S fuel _ a' w' (h'.2 hD).2) (h.2 i hi)⟩

theorem wpAnyS_first {i : Nat} {oi : Oper} {v : Value} (hi : ops[i]? = some oi) (hsel : ∀ (j : Nat) (o : Oper) cs b, ops[j]? = some o → o.op ≠ .select cs b)
    (hQ : ∀ c a w, Q (.panic c) (a.put oi.dst v) w → Q (.panic c) a w) (hDi : D i = false)
    (hD : ∀ j oj, ops[j]? = some oj → D j = true → ∃ e ∈ oj.after, Region.binds md e = true ∧ e.on = i) :
    ∀ (fuel : Nat) (listed : Array Bool) (a : Act) (w : World),
      (∀ j oj, ops[j]? = some oj → j ≠ i → listed.getD j true = false → (∀ e ∈ oj.after, Region.binds md e = true → e.on ≠ i) → oi.apart ops oj = true) →
      i ∈ Region.ready md ops listed → YieldsIf P ops S oi v a → S w →
      wpAnyS P md ops Q S D fuel (listed.setIfInBounds i true) (a.put oi.dst v) w → wpAnyS P md ops Q S D (fuel + 1) listed a w := by
  intro fuel
  induction fuel with
  | zero =>
    intro listed a w _ hr hy hS H
    refine ⟨fun h => (by rw [h] at hr; cases hr), fun j hj => ?_⟩
    by_cases hji : j = i
    · subst hji
      exact hy.wpOp hi hS ⟨fun h => (by rw [hDi] at h; cases h), fun _ => ⟨hS, H⟩⟩
    · have := ready_mono hj hji
      rw [H.1] at this
      cases this
  | succ fuel ih =>
    intro listed a w hfree hr hy hS H
    refine ⟨fun h => (by rw [h] at hr; cases hr), fun j hj => ?_⟩
    by_cases hji : j = i
    · subst hji
      exact hy.wpOp hi hS ⟨fun h => (by rw [hDi] at h; cases h), fun _ => ⟨hS, H⟩⟩
    · have h1 := H.2 j (ready_mono hj hji)
      obtain ⟨hjun, oj, hoj, hall⟩ := mem_ready.1 hj
      have hnot : ∀ e ∈ oj.after, Region.binds md e = true → e.on ≠ i := fun e he hb heq => by
        have h1 := hall e he hb
        have h0 := (mem_ready.1 hr).1
        rw [heq] at h1
        rcases Nat.lt_or_ge i listed.size with h' | h'
        · simp [h'] at h0 h1; rw [h0] at h1; cases h1
        · simp [Array.getElem?_eq_none h'] at h1
      have hDj : D j = false := by
        cases hq : D j with
        | false => rfl
        | true =>
          obtain ⟨e, he, hb, heq⟩ := hD j oj hoj hq
          exact absurd heq (hnot e he hb)
      have h1' : wpOp P ops Q j (fun a' w' => S w' ∧ wpAnyS P md ops Q S D fuel ((listed.setIfInBounds i true).setIfInBounds j true) a' w') (a.put oi.dst v) w := wpOp_mono (fun a' w' h => h.2 hDj) h1
      have h2 := wpOp_putIf hoj (hfree j oj hoj hji hjun hnot) (fun cs b => hsel i oi cs b hi) (fun cs b => hsel j oj cs b hoj) hQ hy h1'
      have hfree' : ∀ k ok, ops[k]? = some ok → k ≠ i → (listed.setIfInBounds j true).getD k true = false →
          (∀ e ∈ ok.after, Region.binds md e = true → e.on ≠ i) → oi.apart ops ok = true := fun k ok hk hki hun hno => by
        refine hfree k ok hk hki ?_ hno
        by_cases hjk : j = k
        · subst hjk; exact hjun
        · rw [getD_set_ne true hjk] at hun; exact hun
      refine wpOp_mono (fun a' w' h3 => ⟨fun h => (by rw [hDj] at h; cases h), fun _ => ⟨h3.2.1, ih (listed.setIfInBounds j true) a' w' hfree' (ready_mono hr (Ne.symm hji)) h3.1 h3.2.1 ?_⟩⟩) h2
      rw [Array.setIfInBounds_comm _ _ hji]
      exact h3.2.2

theorem wpAnyS_first0 {i : Nat} {oi : Oper} {v : Value} (hi : ops[i]? = some oi) (hsel : ∀ (j : Nat) (o : Oper) cs b, ops[j]? = some o → o.op ≠ .select cs b)
    (hQ : ∀ c a w, Q (.panic c) (a.put oi.dst v) w → Q (.panic c) a w) (hDi : D i = false) :
    ∀ (fuel : Nat) (listed : Array Bool) (a : Act) (w : World),
      (∀ j oj, ops[j]? = some oj → j ≠ i → listed.getD j true = false → (∀ e ∈ oj.after, Region.binds md e = true → e.on ≠ i) → oi.apart ops oj = true) →
      i ∈ Region.ready md ops listed → Yields P ops oi v a → S w →
      wpAnyS P md ops Q S D fuel (listed.setIfInBounds i true) (a.put oi.dst v) w → wpAnyS P md ops Q S D (fuel + 1) listed a w := by
  intro fuel
  induction fuel with
  | zero =>
    intro listed a w _ hr hy hS H
    refine ⟨fun h => (by rw [h] at hr; cases hr), fun j hj => ?_⟩
    by_cases hji : j = i
    · subst hji
      exact (hy.yieldsIf (S := S)).wpOp hi hS ⟨fun h => (by rw [hDi] at h; cases h), fun _ => ⟨hS, H⟩⟩
    · have := ready_mono hj hji
      rw [H.1] at this
      cases this
  | succ fuel ih =>
    intro listed a w hfree hr hy hS H
    refine ⟨fun h => (by rw [h] at hr; cases hr), fun j hj => ?_⟩
    by_cases hji : j = i
    · subst hji
      exact (hy.yieldsIf (S := S)).wpOp hi hS ⟨fun h => (by rw [hDi] at h; cases h), fun _ => ⟨hS, H⟩⟩
    · have h1 := H.2 j (ready_mono hj hji)
      obtain ⟨hjun, oj, hoj, hall⟩ := mem_ready.1 hj
      have hnot : ∀ e ∈ oj.after, Region.binds md e = true → e.on ≠ i := fun e he hb heq => by
        have h1 := hall e he hb
        have h0 := (mem_ready.1 hr).1
        rw [heq] at h1
        rcases Nat.lt_or_ge i listed.size with h' | h'
        · simp [h'] at h0 h1; rw [h0] at h1; cases h1
        · simp [Array.getElem?_eq_none h'] at h1
      have h2 := wpOp_put hoj (hfree j oj hoj hji hjun hnot) (fun cs b => hsel i oi cs b hi) (fun cs b => hsel j oj cs b hoj) hQ hy h1
      have hfree' : ∀ k ok, ops[k]? = some ok → k ≠ i → (listed.setIfInBounds j true).getD k true = false →
          (∀ e ∈ ok.after, Region.binds md e = true → e.on ≠ i) → oi.apart ops ok = true := fun k ok hk hki hun hno => by
        refine hfree k ok hk hki ?_ hno
        by_cases hjk : j = k
        · subst hjk; exact hjun
        · rw [getD_set_ne true hjk] at hun; exact hun
      refine wpOp_mono (fun a' w' h3 => ⟨fun hDj => ?_, fun hDj => ?_⟩) h2
      · refine wpAny_first hi hsel hQ fuel (listed.setIfInBounds j true) a' w' hfree' (ready_mono hr (Ne.symm hji)) h3.1 ?_
        rw [Array.setIfInBounds_comm _ _ hji]
        exact h3.2.1 hDj
      · refine ⟨(h3.2.2 hDj).1, ih (listed.setIfInBounds j true) a' w' hfree' (ready_mono hr (Ne.symm hji)) h3.1 (h3.2.2 hDj).1 ?_⟩
        rw [Array.setIfInBounds_comm _ _ hji]
        exact (h3.2.2 hDj).2

/-- Every operation of D waits for number i. -/
def waitsD (md : Region.Mode) (ops : Array Oper) (D : Nat → Bool) (i : Nat) : Bool :=
  (List.range ops.size).all fun j => !(D j) || (match ops[j]? with | some oj => oj.after.toList.any (fun e => Region.binds md e && (e.on == i)) | none => true)

theorem waitsD_spec {i : Nat} (h : waitsD md ops D i = true) : ∀ j oj, ops[j]? = some oj → D j = true → ∃ e ∈ oj.after, Region.binds md e = true ∧ e.on = i := fun j oj hoj hD => by
  have hj : j < ops.size := (Array.getElem?_eq_some_iff.1 hoj).1
  have h1 := List.all_eq_true.1 h j (List.mem_range.2 hj)
  rw [hD, hoj] at h1
  simp only [Bool.not_true, Bool.false_or, List.any_eq_true, Bool.and_eq_true, beq_iff_eq] at h1
  obtain ⟨e, he, hb, heq⟩ := h1
  exact ⟨e, by simpa using he, hb, heq⟩

theorem wpAnyS_take {i : Nat} {oi : Oper} {v : Value} {fuel : Nat} {listed : Array Bool} {a : Act} {w : World} (hi : ops[i]? = some oi)
    (hs : Region.noSelect ops = true) (hf : Region.free md ops listed i = true) (hr : (Region.ready md ops listed).contains i = true) (hDi : D i = false) (hD : waitsD md ops D i = true)
    (hQ : ∀ c a w, Q (.panic c) (a.put oi.dst v) w → Q (.panic c) a w) (hy : YieldsIf P ops S oi v a) (hS : S w)
    (h : wpAnyS P md ops Q S D fuel (listed.setIfInBounds i true) (a.put oi.dst v) w) : wpAnyS P md ops Q S D (fuel + 1) listed a w :=
  wpAnyS_first hi (Region.noSelect_spec hs) hQ hDi (waitsD_spec hD) fuel listed a w (Region.free_spec hi hf) (by simpa using hr) hy hS h

theorem wpAnyS_take0 {i : Nat} {oi : Oper} {v : Value} {fuel : Nat} {listed : Array Bool} {a : Act} {w : World} (hi : ops[i]? = some oi)
    (hs : Region.noSelect ops = true) (hf : Region.free md ops listed i = true) (hr : (Region.ready md ops listed).contains i = true) (hDi : D i = false)
    (hQ : ∀ c a w, Q (.panic c) (a.put oi.dst v) w → Q (.panic c) a w) (hw : Region.wanted oi (yielded ops a.tmps) = true) (hy : ∀ w, (execOp a.eval oi).run P w = .ok (.value v) w) (hS : S w)
    (h : wpAnyS P md ops Q S D fuel (listed.setIfInBounds i true) (a.put oi.dst v) w) : wpAnyS P md ops Q S D (fuel + 1) listed a w :=
  wpAnyS_first0 hi (Region.noSelect_spec hs) hQ hDi fuel listed a w (Region.free_spec hi hf) (by simpa using hr) (Or.inl ⟨hw, hy⟩) hS h

/-- The only one that may come up. -/
theorem wpAnyS_one {r : Nat} {o : Oper} {fuel : Nat} {listed : Array Bool} {a : Act} {w : World} (hr : Region.ready md ops listed = [r]) (ho : ops[r]? = some o) (hw : Region.wanted o (yielded ops a.tmps) = true) (hD : D r = false)
    (h : ∀ K : Act → World → Prop, (∀ a' w', S w' → (S w' → wpAnyS P md ops Q S D fuel (listed.setIfInBounds r true) a' w') → K a' w') → o.wp P a w K Q) : wpAnyS P md ops Q S D (fuel + 1) listed a w := by
  refine ⟨fun h0 => (by rw [hr] at h0; cases h0), fun i hi => ?_⟩
  rw [hr] at hi
  obtain rfl := List.mem_singleton.1 hi
  unfold wpOp
  simp only [ho, hw, if_true]
  exact Or.inl (h _ fun a' w' h1 h2 => ⟨fun q => (by rw [hD] at q; cases q), fun _ => ⟨h1, h2 h1⟩⟩)

theorem wpAnyS_last {r : Nat} {o : Oper} {fuel : Nat} {listed : Array Bool} {a : Act} {w : World} (hr : Region.ready md ops listed = [r]) (ho : ops[r]? = some o) (hw : Region.wanted o (yielded ops a.tmps) = true) (hD : D r = true)
    (h : ∀ K : Act → World → Prop, (∀ a' w', wpAny P md ops Q fuel (listed.setIfInBounds r true) a' w' → K a' w') → o.wp P a w K Q) : wpAnyS P md ops Q S D (fuel + 1) listed a w := by
  refine ⟨fun h0 => (by rw [hr] at h0; cases h0), fun i hi => ?_⟩
  rw [hr] at hi
  obtain rfl := List.mem_singleton.1 hi
  unfold wpOp
  simp only [ho, hw, if_true]
  exact Or.inl (h _ fun a' w' h1 => ⟨fun _ => h1, fun q => (by rw [hD] at q; cases q)⟩)

theorem wpAny_one {r : Nat} {o : Oper} {fuel : Nat} {listed : Array Bool} {a : Act} {w : World} (hr : Region.ready md ops listed = [r]) (ho : ops[r]? = some o) (hw : Region.wanted o (yielded ops a.tmps) = true)
    (h : ∀ K : Act → World → Prop, (∀ a' w', wpAny P md ops Q fuel (listed.setIfInBounds r true) a' w' → K a' w') → o.wp P a w K Q) : wpAny P md ops Q (fuel + 1) listed a w := by
  refine ⟨fun h0 => (by rw [hr] at h0; cases h0), fun i hi => ?_⟩
  rw [hr] at hi
  obtain rfl := List.mem_singleton.1 hi
  unfold wpOp
  simp only [ho, hw, if_true]
  exact Or.inl (h _ fun a' w' h1 => h1)

theorem wp_region_S {id : Nat} {a : Act} {w : World} (S : World → Prop) (D : Nat → Bool) (hm : P.follows .mixedOrders = true) (h0 : S w.drew)
    (h : S w.drew → wpAnyS P .any ops Q S D ops.size (Array.replicate ops.size false) a w.drew) : (Code.region id ops true).wp P Q a w :=
  wp_region_any hm (wpAny_of_S _ _ _ _ (h h0))
end

end Go.Proofs.YtkfhcblgfndoaaaDoor

namespace Go.Proofs.YtkfhcblgfndoaaaDoor
open Go.RowKit
attribute [local go_sem ↓] Go.wp_at_zero Go.wp_at_succ
set_option linter.unusedSimpArgs false
set_option linter.unusedVariables false
set_option maxRecDepth 100000

theorem sb9_leO (l : List UInt8) (st : RSt) (h : st.1 ≤ l.length) : (sb9 l 0 st).1 ≤ l.length :=
  nmS_le _ _ _ _ (nmS_le _ _ _ _ (nmS_le _ _ _ _ (nmS_le _ _ _ _ (rpSt_le _ _ _ (rdBs_le _ _ _ (nmS_le _ _ _ _ (rdBs_le _ _ _ (nmS_le _ _ _ _ h))))))))

theorem OwnI.mono {w : World} {base B : Nat} {v : Value} {l : List Ins} (h : OwnI w base v l) (hB : B ≤ base) : OwnI w B v l := by
  rcases h with h | ⟨h1, g, cap, rfl, h2, h3⟩
  · exact Or.inl h
  · refine Or.inr ⟨h1, g, cap, rfl, h2, ?_⟩
    rcases h3 with h3 | ⟨g', cap', cur, e1, e2, e3⟩
    · exact Or.inl h3
    · exact Or.inr ⟨g', cap', cur, e1, Nat.le_trans hB e2, e3⟩

set_option maxHeartbeats 12800000 in
theorem msRead_ok (s : ByteArray) (w : World) (hs : s.size ≤ 100000) (hF0 : (mhF s.data.toList).2.1 = 0) (M' : Ms) (I' : List Ins) (hM' : rdMs s.data.toList = M') (hI' : itV s.data.toList (mh11 s.data.toList) (rcN s.data.toList (mh3 s.data.toList)) = I') :
    Calls Tryd.prog 6 #[.string s] w fun r w' => (∃ v, r = .returned (.tuple #[.agg (msC M' v), .nilIface]) ∧ OwnI w' w.heap.size v I') ∧ Below w.heap.size w w' := by
  have hb : 0 + s.size ≤ 281474976710656 := by omega
  have hls : s.data.toList.length = s.size := by simp
  obtain ⟨i0, hi, hz0, hz1, hz2⟩ := info_parts Tryd.inParts
  have Q1 : (mh1 s.data.toList).1 ≤ s.data.toList.length := exS_le _ _ _ (Nat.zero_le _)
  have Q2 : (mh2 s.data.toList).1 ≤ s.data.toList.length := sb9_leO _ _ Q1
  have Q3 : (mh3 s.data.toList).1 ≤ s.data.toList.length := exS_le _ _ _ Q2
  have Q4 : (mh4 s.data.toList).1 ≤ s.data.toList.length := rcS_le _ _ Q3
  have Q5 : (mh5 s.data.toList).1 ≤ s.data.toList.length := exS_le _ _ _ Q4
  have Q6 : (mh6 s.data.toList).1 ≤ s.data.toList.length := tkN_le _ _ _ _ _ Q5
  have Q7 : (mh7 s.data.toList).1 ≤ s.data.toList.length := nmS_le _ _ _ _ Q6
  have Q8 : (mh8 s.data.toList).1 ≤ s.data.toList.length := tkN_le _ _ _ _ _ Q7
  have Q9 : (mh9 s.data.toList).1 ≤ s.data.toList.length := nmS_le _ _ _ _ Q8
  have Q10 : (mh10 s.data.toList).1 ≤ s.data.toList.length := rdBs_le _ _ _ Q9
  have Q11 : (mh11 s.data.toList).1 ≤ s.data.toList.length := nmS_le _ _ _ _ Q10
  have HSP : ∀ k, (itS s.data.toList (mh11 s.data.toList) k).1 ≤ s.size := fun k => by have q := itS_le s.data.toList _ Q11 k; rw [hls] at q; exact q
  have P1 := Q1
  rw [hls] at P1
  have P2 := Q2
  rw [hls] at P2
  have P3 := Q3
  rw [hls] at P3
  have P4 := Q4
  rw [hls] at P4
  have P5 := Q5
  rw [hls] at P5
  have P6 := Q6
  rw [hls] at P6
  have P7 := Q7
  rw [hls] at P7
  have P8 := Q8
  rw [hls] at P8
  have P9 := Q9
  rw [hls] at P9
  have P10 := Q10
  rw [hls] at P10
  have HX1 : Hid (∀ {g : Nat} {W : World}, RdT W g s 0 (0, 0, -1) → Calls Tryd.prog 26 #[.pointer (some ⟨g, 0, none⟩), .string ⟨#[0, 0, 3, 2]⟩, .slice none 0 0] W fun e w' => e = .returned (.string ⟨(exV s.data.toList (0, 0, -1) [0, 0, 3, 2]).toArray⟩) ∧ RdT w' g s 0 (mh1 s.data.toList) ∧ W.grownBy w' (some g)) := fun {g W} h => exp_t ⟨#[0, 0, 3, 2]⟩ (by decide) _ W h (Nat.zero_le _) hb
  have HX2 : Hid (∀ {g : Nat} {W : World}, RdT W g s 0 (mh1 s.data.toList) → Calls Tryd.prog 27 #[.pointer (some ⟨g, 0, none⟩), .int .i64 3] W fun e w' => e = .returned (.agg (bpC (rbB s.data.toList 0 (mh1 s.data.toList) 3))) ∧ RdT w' g s 0 (mh2 s.data.toList) ∧ W.grownBy w' (some g)) := fun {g W} h => readBody_t _ 3 W h P1 hb
  have HX3 : Hid (∀ {g : Nat} {W : World}, RdT W g s 0 (mh2 s.data.toList) → Calls Tryd.prog 26 #[.pointer (some ⟨g, 0, none⟩), .string ⟨#[0]⟩, .slice none 0 0] W fun e w' => e = .returned (.string ⟨(exV s.data.toList (mh2 s.data.toList) [0]).toArray⟩) ∧ RdT w' g s 0 (mh3 s.data.toList) ∧ W.grownBy w' (some g)) := fun {g W} h => exp_t ⟨#[0]⟩ (by decide) _ W h P2 hb
  have HX4 : Hid (∀ {g : Nat} {W : World}, RdT W g s 0 (mh3 s.data.toList) → Calls Tryd.prog 28 #[.pointer (some ⟨g, 0, none⟩)] W fun e w' => e = .returned (.int .i64 (rcN s.data.toList (mh3 s.data.toList) : Nat)) ∧ RdT w' g s 0 (mh4 s.data.toList) ∧ W.grownBy w' (some g)) := fun {g W} h => readCount_t _ W h P3 hb
  have HX5 : Hid (∀ {g : Nat} {W : World}, RdT W g s 0 (mh4 s.data.toList) → Calls Tryd.prog 26 #[.pointer (some ⟨g, 0, none⟩), .string ⟨#[0]⟩, .slice none 0 0] W fun e w' => e = .returned (.string ⟨(exV s.data.toList (mh4 s.data.toList) [0]).toArray⟩) ∧ RdT w' g s 0 (mh5 s.data.toList) ∧ W.grownBy w' (some g)) := fun {g W} h => exp_t ⟨#[0]⟩ (by decide) _ W h P4 hb
  have HX6 : Hid (∀ {g : Nat} {W : World}, RdT W g s 0 (mh5 s.data.toList) → Calls Tryd.prog 30 #[.pointer (some ⟨g, 0, none⟩), .int .i64 32] W fun e w' => e = .returned (.string ⟨(tkN s.data.toList 0 (mh5 s.data.toList) 32 false).1.toArray⟩) ∧ RdT w' g s 0 (mh6 s.data.toList) ∧ W.grownBy w' (some g)) := fun {g W} h => bytes_t _ 32 W h P5 hb
  have HX7 : Hid (∀ {g : Nat} {W : World}, RdT W g s 0 (mh6 s.data.toList) → Calls Tryd.prog 31 #[.pointer (some ⟨g, 0, none⟩), .int .i64 2] W fun e w' => e = .returned (.int .i64 (nmV s.data.toList 0 (mh6 s.data.toList) 2 : Nat)) ∧ RdT w' g s 0 (mh7 s.data.toList) ∧ W.grownBy w' (some g)) := fun {g W} h => numK_t _ 2 (by decide) W h P6 hb
  have HX8 : Hid (∀ {g : Nat} {W : World}, RdT W g s 0 (mh7 s.data.toList) → Calls Tryd.prog 30 #[.pointer (some ⟨g, 0, none⟩), .int .i64 16] W fun e w' => e = .returned (.string ⟨(tkN s.data.toList 0 (mh7 s.data.toList) 16 false).1.toArray⟩) ∧ RdT w' g s 0 (mh8 s.data.toList) ∧ W.grownBy w' (some g)) := fun {g W} h => bytes_t _ 16 W h P7 hb
  have HX9 : Hid (∀ {g : Nat} {W : World}, RdT W g s 0 (mh8 s.data.toList) → Calls Tryd.prog 31 #[.pointer (some ⟨g, 0, none⟩), .int .i64 4] W fun e w' => e = .returned (.int .i64 (nmV s.data.toList 0 (mh8 s.data.toList) 4 : Nat)) ∧ RdT w' g s 0 (mh9 s.data.toList) ∧ W.grownBy w' (some g)) := fun {g W} h => numK_t _ 4 (by decide) W h P8 hb
  have HX10 : Hid (∀ {g : Nat} {W : World}, RdT W g s 0 (mh9 s.data.toList) → Calls Tryd.prog 32 #[.pointer (some ⟨g, 0, none⟩)] W fun e w' => e = .returned (.agg (brC (rdB s.data.toList 0 (mh9 s.data.toList)))) ∧ RdT w' g s 0 (mh10 s.data.toList) ∧ W.grownBy w' (some g)) := fun {g W} h => prRead_t _ W h P9 hb
  have HX11 : Hid (∀ {g : Nat} {W : World}, RdT W g s 0 (mh10 s.data.toList) → Calls Tryd.prog 31 #[.pointer (some ⟨g, 0, none⟩), .int .i64 1] W fun e w' => e = .returned (.int .i64 (nmV s.data.toList 0 (mh10 s.data.toList) 1 : Nat)) ∧ RdT w' g s 0 (mh11 s.data.toList) ∧ W.grownBy w' (some g)) := fun {g W} h => numK_t _ 1 (by decide) W h P10 hb
  have HI : Hid (∀ (k : Nat) {g : Nat} {W : World}, RdT W g s 0 (itS s.data.toList (mh11 s.data.toList) k) → Calls Tryd.prog 33 #[.pointer (some ⟨g, 0, none⟩)] W fun e w' => e = .returned (.agg (inC (riV s.data.toList (itS s.data.toList (mh11 s.data.toList) k)))) ∧ RdT w' g s 0 (itS s.data.toList (mh11 s.data.toList) (k + 1)) ∧ W.grownBy w' (some g)) := fun k {g W} h => readInst_t _ W h (HSP k) hb
  have hIs : Hid (∀ k, itV s.data.toList (mh11 s.data.toList) (k + 1) = itV s.data.toList (mh11 s.data.toList) k ++ [riV s.data.toList (itS s.data.toList (mh11 s.data.toList) k)]) := fun k => itV_succ _ _ k
  have hI0 : Hid (itV s.data.toList (mh11 s.data.toList) 0 = []) := rfl
  have hIl : Hid (∀ k, (itV s.data.toList (mh11 s.data.toList) k).length = k) := fun k => itV_len _ _ k
  have hS0 : Hid (itS s.data.toList (mh11 s.data.toList) 0 = mh11 s.data.toList) := rfl
  have hn64 := rcN_le s.data.toList (mh3 s.data.toList)
  have HT := Lib.hid (fun W => Tryd.strings_TrimRight_one ⟨(tkN s.data.toList 0 (mh5 s.data.toList) 32 false).1.toArray⟩ 0 (by decide) W (by
    show (tkN s.data.toList 0 (mh5 s.data.toList) 32 false).1.toArray.size ≤ _
    rw [List.size_toArray]
    rcases tkN_len s.data.toList 0 (mh5 s.data.toList) 32 false with q | q
    · have q' : (tkN s.data.toList 0 (mh5 s.data.toList) 32 false).1 = [] := q
      rw [q']; decide
    · have q' : (tkN s.data.toList 0 (mh5 s.data.toList) 32 false).1.length = 32 := q
      rw [q']; decide))
  have hF : Hid ((itS s.data.toList (mh11 s.data.toList) (rcN s.data.toList (mh3 s.data.toList))).2.1 = 0) := hF0
  have hM : Hid (M' = ⟨rbB s.data.toList 0 (mh1 s.data.toList) 3, ⟨(Lib.trimRightB (tkN s.data.toList 0 (mh5 s.data.toList) 32 false).1 0).toArray⟩, (nmV s.data.toList 0 (mh6 s.data.toList) 2 : Nat), ⟨(tkN s.data.toList 0 (mh7 s.data.toList) 16 false).1.toArray⟩, (nmV s.data.toList 0 (mh8 s.data.toList) 4 : Nat), rdB s.data.toList 0 (mh9 s.data.toList), (nmV s.data.toList 0 (mh10 s.data.toList) 1 : Nat)⟩) := hM'.symm
  have hI : Hid (itV s.data.toList (mh11 s.data.toList) (rcN s.data.toList (mh3 s.data.toList)) = I') := hI'
  clear hF0 hM' hI' HSP hls P1 P2 P3 P4 P5 P6 P7 P8 P9 P10 Q1 Q2 Q3 Q4 Q5 Q6 Q7 Q8 Q9 Q10 Q11
  obtain ⟨nmB, hnmB⟩ : ∃ nmB : ByteArray, nmB = ⟨(Lib.trimRightB (tkN s.data.toList 0 (mh5 s.data.toList) 32 false).1 0).toArray⟩ := ⟨_, rfl⟩
  obtain ⟨nm0, hnm0⟩ : ∃ nm0 : ByteArray, nm0 = ⟨(tkN s.data.toList 0 (mh5 s.data.toList) 32 false).1.toArray⟩ := ⟨_, rfl⟩
  obtain ⟨dg, hdg⟩ : ∃ dg : ByteArray, dg = ⟨(tkN s.data.toList 0 (mh7 s.data.toList) 16 false).1.toArray⟩ := ⟨_, rfl⟩
  replace HT : Hid (∀ W, Calls Tryd.prog 29 #[.string nm0, .string ⟨#[0]⟩] W fun e w' => e = .returned (.string nmB) ∧ w' = W) := fun W => by
    rw [hnmB, hnm0]
    exact HT.out W
  rw [← hnm0] at HX6
  rw [← hdg] at HX8
  rw [← hnmB, ← hdg] at hM
  clear hnmB hnm0 hdg
  generalize rcN s.data.toList (mh3 s.data.toList) = n at *
  generalize rbB s.data.toList 0 (mh1 s.data.toList) 3 = b at *
  generalize nmV s.data.toList 0 (mh6 s.data.toList) 2 = rv at *
  generalize nmV s.data.toList 0 (mh8 s.data.toList) 4 = co at *
  generalize rdB s.data.toList 0 (mh9 s.data.toList) = br at *
  generalize nmV s.data.toList 0 (mh10 s.data.toList) 1 = ho at *
  obtain ⟨XV, hXV⟩ : ∃ XV : Nat → Ins, XV = fun k => riV s.data.toList (itS s.data.toList (mh11 s.data.toList) k) := ⟨_, rfl⟩
  obtain ⟨SS, hSS⟩ : ∃ SS : Nat → RSt, SS = itS s.data.toList (mh11 s.data.toList) := ⟨_, rfl⟩
  obtain ⟨II, hII⟩ : ∃ II : Nat → List Ins, II = itV s.data.toList (mh11 s.data.toList) := ⟨_, rfl⟩
  have eX : ∀ k, riV s.data.toList (itS s.data.toList (mh11 s.data.toList) k) = XV k := fun k => by rw [hXV]
  simp only [eX] at HI hIs
  rw [← hSS] at HI hS0 hF
  rw [← hII] at hIs hI0 hIl hI
  clear hXV hSS hII eX
  generalize mh11 s.data.toList = t11 at *
  generalize mh10 s.data.toList = t10 at *
  generalize mh9 s.data.toList = t9 at *
  generalize mh8 s.data.toList = t8 at *
  generalize mh7 s.data.toList = t7 at *
  generalize mh6 s.data.toList = t6 at *
  generalize mh5 s.data.toList = t5 at *
  generalize mh4 s.data.toList = t4 at *
  generalize mh3 s.data.toList = t3 at *
  generalize mh2 s.data.toList = t2 at *
  generalize mh1 s.data.toList = t1 at *
  have HA1 := Blk.new w 34 (msC zMs (.slice none 0 0))
  have B1 : Below w.heap.size w (w.alloc (.cells (msC zMs (.slice none 0 0)) 34)) := (Below.refl _ _).alloc (Nat.le_refl _) _
  go_enter Tryd.func6, Tryd.ntmps6
  go_upto_region 1 with (refine alloc_blk 34 (msC zMs (.slice none 0 0)) (by rfl) rfl Tryd.msZero ?_)
  generalize w.alloc (.cells (msC zMs (.slice none 0 0)) 34) = w1 at *
  have hA1 := HA1.lt
  go_wp2_with fail
  refine (new_t s 0 _).mono ?_
  rintro e w2 ⟨rfl, HR2, b2⟩
  have HA2 := HA1.kept b2
  have B2 := B1.trans (b2.mono B1.size)
  have hAg : w.heap.size < w1.heap.size := hA1
  clear HA1 B1 b2
  generalize w1.heap.size = g at *
  clear hA1
  go_wp2_with fail
  refine (HX1.out HR2).mono ?_
  rintro e w3 ⟨rfl, HR3, g3⟩
  have HA3 := HA2.grown g3 (by simp; omega)
  have B3 := grown_belowA B2 g3 B2.size (by omega)
  clear HR2 HA2 B2 g3
  go_wp2_with fail
  refine (HX2.out HR3).mono ?_
  rintro e w4 ⟨rfl, HR4, g4⟩
  have HA4 := HA3.grown g4 (by simp; omega)
  have B4 := grown_belowA B3 g4 B3.size (by omega)
  clear HR3 HA3 B3 g4
  have hgl4 := HR4.lt
  have HA4b := HA4.alloc (.cells (msC zMs (.slice none 0 0)) 34)
  have HR4b := HR4.al (.cells (msC zMs (.slice none 0 0)) 34)
  have B4b := B4.alloc B4.size (.cells (msC zMs (.slice none 0 0)) 34)
  go_upto_region 4 with (first
    | (refine build_blk (t := 34) (msC ⟨b, ⟨#[]⟩, 0, ⟨#[]⟩, 0, ⟨0, 0, z6b⟩, 0⟩ (.slice none 0 0)) (by rfl) rfl (by kernel_rfl) ?_)
    | (refine alloc_blk 34 (msC zMs (.slice none 0 0)) (by rfl) rfl Tryd.msZero ?_)
    | (refine store_blk (k := 0) 34 (.agg (msC ⟨b, ⟨#[]⟩, 0, ⟨#[]⟩, 0, ⟨0, 0, z6b⟩, 0⟩ (.slice none 0 0))) (msC ⟨b, ⟨#[]⟩, 0, ⟨#[]⟩, 0, ⟨0, 0, z6b⟩, 0⟩ (.slice none 0 0)) (by rfl) rfl rfl rfl (Blk.new w4 _ _) (by kernel_rfl) (show (45 : Nat) ≤ 45 from Nat.le_refl 45) (by rfl) (st_whole _ _ rfl) ?_; intro w5 HV5 b5 g5))
  (try simp only [Act.put, List.setIfInBounds_toArray, List.set_cons_zero, List.set_cons_succ])
  have hgV : g < w4.heap.size := hgl4
  have HA5 := HA4b.below b5 (by omega)
  have HR5 := HR4b.other (Blk.new w4 _ _) (by decide) (by decide) g5
  have B5 := B4b.trans (b5.mono (by omega))
  clear HR4 HA4 B4 HA4b HR4b B4b b5 g5 hgl4
  generalize w4.heap.size = V at *
  go_wp2_with fail
  refine (HX3.out HR5).mono ?_
  rintro e w6 ⟨rfl, HR6, g6⟩
  have HA6 := HA5.grown g6 (by simp; omega)
  have B6 := grown_belowA B5 g6 B5.size (by omega)
  have HV6 := HV5.grown g6 (by simp; omega)
  clear HR5 HA5 B5 HV5 g6
  go_wp2_with fail
  refine (HX4.out HR6).mono ?_
  rintro e w7 ⟨rfl, HR7, g7⟩
  have HA7 := HA6.grown g7 (by simp; omega)
  have B7 := grown_belowA B6 g7 B6.size (by omega)
  have HV7 := HV6.grown g7 (by simp; omega)
  clear HR6 HA6 B6 HV6 g7
  go_wp2_with fail
  refine (HX5.out HR7).mono ?_
  rintro e w8 ⟨rfl, HR8, g8⟩
  have HA8 := HA7.grown g8 (by simp; omega)
  have B8 := grown_belowA B7 g8 B7.size (by omega)
  have HV8 := HV7.grown g8 (by simp; omega)
  clear HR7 HA7 B7 HV7 g8
  go_wp2_with fail
  refine (HX6.out HR8).mono ?_
  rintro e w9 ⟨rfl, HR9, g9⟩
  have HA9 := HA8.grown g9 (by simp; omega)
  have B9 := grown_belowA B8 g9 B8.size (by omega)
  have HV9 := HV8.grown g9 (by simp; omega)
  clear HR8 HA8 B8 HV8 g9
  go_wp2_with fail
  refine (HT.out _).mono ?_
  rintro e w10 ⟨rfl, rfl⟩
  have HR10 := HR9
  have HA10 := HA9
  have B10 := B9
  have HV10 := HV9
  clear HR9 HA9 B9 HV9
  go_wp2_with (refine store_blk (k := 31) 9 (.string nmB) (msC ⟨b, nmB, 0, ⟨#[]⟩, 0, ⟨0, 0, z6b⟩, 0⟩ (.slice none 0 0)) (by rfl) rfl rfl rfl HV10 (by kernel_rfl) (show (31 + 1 : Nat) ≤ 45 by decide) (by rfl) rfl ?_; intro w11 HV11 b11 g11; have HA11 := HA10.below b11 (by omega); have HR11 := HR10.other HV10 (by decide) (by decide) g11; have B11 := B10.trans (b11.mono (by omega)))
  clear HR10 HA10 B10 HV10 b11 g11
  refine (HX7.out HR11).mono ?_
  rintro e w12 ⟨rfl, HR12, g12⟩
  have HA12 := HA11.grown g12 (by simp; omega)
  have B12 := grown_belowA B11 g12 B11.size (by omega)
  have HV12 := HV11.grown g12 (by simp; omega)
  clear HR11 HA11 B11 HV11 g12
  go_wp2_with (refine store_blk (k := 32) 3 (.int .i64 ((rv : Nat) : Int)) (msC ⟨b, nmB, ((rv : Nat) : Int), ⟨#[]⟩, 0, ⟨0, 0, z6b⟩, 0⟩ (.slice none 0 0)) (by rfl) rfl rfl rfl HV12 (by kernel_rfl) (show (32 + 1 : Nat) ≤ 45 by decide) (by rfl) rfl ?_; intro w13 HV13 b13 g13; have HA13 := HA12.below b13 (by omega); have HR13 := HR12.other HV12 (by decide) (by decide) g13; have B13 := B12.trans (b13.mono (by omega)))
  clear HR12 HA12 B12 HV12 b13 g13
  refine (HX8.out HR13).mono ?_
  rintro e w14 ⟨rfl, HR14, g14⟩
  have HA14 := HA13.grown g14 (by simp; omega)
  have B14 := grown_belowA B13 g14 B13.size (by omega)
  have HV14 := HV13.grown g14 (by simp; omega)
  clear HR13 HA13 B13 HV13 g14
  go_wp2_with (refine store_blk (k := 33) 9 (.string dg) (msC ⟨b, nmB, ((rv : Nat) : Int), dg, 0, ⟨0, 0, z6b⟩, 0⟩ (.slice none 0 0)) (by rfl) rfl rfl rfl HV14 (by kernel_rfl) (show (33 + 1 : Nat) ≤ 45 by decide) (by rfl) rfl ?_; intro w15 HV15 b15 g15; have HA15 := HA14.below b15 (by omega); have HR15 := HR14.other HV14 (by decide) (by decide) g15; have B15 := B14.trans (b15.mono (by omega)))
  clear HR14 HA14 B14 HV14 b15 g15
  refine (HX9.out HR15).mono ?_
  rintro e w16 ⟨rfl, HR16, g16⟩
  have HA16 := HA15.grown g16 (by simp; omega)
  have B16 := grown_belowA B15 g16 B15.size (by omega)
  have HV16 := HV15.grown g16 (by simp; omega)
  clear HR15 HA15 B15 HV15 g16
  go_wp2_with (refine store_blk (k := 34) 3 (.int .i64 ((co : Nat) : Int)) (msC ⟨b, nmB, ((rv : Nat) : Int), dg, ((co : Nat) : Int), ⟨0, 0, z6b⟩, 0⟩ (.slice none 0 0)) (by rfl) rfl rfl rfl HV16 (by kernel_rfl) (show (34 + 1 : Nat) ≤ 45 by decide) (by rfl) rfl ?_; intro w17 HV17 b17 g17; have HA17 := HA16.below b17 (by omega); have HR17 := HR16.other HV16 (by decide) (by decide) g17; have B17 := B16.trans (b17.mono (by omega)))
  clear HR16 HA16 B16 HV16 b17 g17
  refine (HX10.out HR17).mono ?_
  rintro e w18 ⟨rfl, HR18, g18⟩
  have HA18 := HA17.grown g18 (by simp; omega)
  have B18 := grown_belowA B17 g18 B17.size (by omega)
  have HV18 := HV17.grown g18 (by simp; omega)
  clear HR17 HA17 B17 HV17 g18
  go_wp2_with (refine store_blk (k := 35) 27 (.agg (brC br)) (msC ⟨b, nmB, ((rv : Nat) : Int), dg, ((co : Nat) : Int), br, 0⟩ (.slice none 0 0)) (by rfl) rfl rfl rfl HV18 (by kernel_rfl) (show (35 + 8 : Nat) ≤ 45 by decide) (by rfl) rfl ?_; intro w19 HV19 b19 g19; have HA19 := HA18.below b19 (by omega); have HR19 := HR18.other HV18 (by decide) (by decide) g19; have B19 := B18.trans (b19.mono (by omega)))
  clear HR18 HA18 B18 HV18 b19 g19
  refine (HX11.out HR19).mono ?_
  rintro e w20 ⟨rfl, HR20, g20⟩
  have HA20 := HA19.grown g20 (by simp; omega)
  have B20 := grown_belowA B19 g20 B19.size (by omega)
  have HV20 := HV19.grown g20 (by simp; omega)
  clear HR19 HA19 B19 HV19 g20
  go_wp2_with (refine store_blk (k := 43) 3 (.int .i64 ((ho : Nat) : Int)) (msC ⟨b, nmB, ((rv : Nat) : Int), dg, ((co : Nat) : Int), br, ((ho : Nat) : Int)⟩ (.slice none 0 0)) (by rfl) rfl rfl rfl HV20 (by kernel_rfl) (show (43 + 1 : Nat) ≤ 45 by decide) (by rfl) rfl ?_; intro w21 HV21 b21 g21; have HA21 := HA20.below b21 (by omega); have HR21 := HR20.other HV20 (by decide) (by decide) g21; have B21 := B20.trans (b21.mono (by omega)))
  clear HR20 HA20 B20 HV20 b21 g21
  obtain ⟨MM, hMM⟩ : ∃ MM : Ms, MM = ⟨b, nmB, ((rv : Nat) : Int), dg, ((co : Nat) : Int), br, ((ho : Nat) : Int)⟩ := ⟨_, rfl⟩
  rw [← hMM] at HV21
  rw [← hMM] at hM
  clear hMM
  have hgBs := HR21.lt
  have hVBs := HV21.lt
  have hABs := HA21.lt
  rw [← hS0.out] at HR21
  obtain ⟨Bs, hBs⟩ : ∃ Bs, Bs = w21.heap.size := ⟨_, rfl⟩
  rw [← hBs] at hgBs hVBs hABs
  have hB21 : Bs ≤ w21.heap.size := by omega
  have hwBs : w.heap.size ≤ Bs := by omega
  clear hBs
  go_loopw [41] (fun i wr => ∃ (k : Nat) (v : Value), k ≤ n ∧ i = .int .i64 k ∧ RdT wr g s 0 (SS k) ∧ Blk wr V 34 (msC MM v) ∧ Blk wr w.heap.size 34 (msC zMs (.slice none 0 0)) ∧ OwnI wr Bs v (II k) ∧ Below w.heap.size w wr ∧ Bs ≤ wr.heap.size) (fun i _ => n - (intOf i).toNat)
  case atStart => exact ⟨0, _, by omega, rfl, HR21, HV21, HA21, Or.inl ⟨hI0.out, rfl⟩, B21, hB21⟩
  case round =>
    clear HR21 HV21 HA21 B21 hB21
    obtain ⟨k, v, hk, rfl, HRk, HVk, HAk, HOk, Bk, hBk⟩ := hrel
    by_cases hlt : k < n
    · have q1 : (k : Int) < (n : Int) := by omega
      have q2 : decide ((k : Int) < (n : Int)) = true := decide_eq_true q1
      have hIk := hIs.out k
      have hll := hIl.out k
      have HIk := Lib.hid (fun (g : Nat) (W : World) (h : RdT W g s 0 (SS k)) => HI.out k h)
      generalize XV k = xx at *
      have c44 := HVk.cv 44 v rfl
      go_upto_region 15 with (fail)
      refine wp_region_noPanic ?_
      refine wp_region_S (fun w' => w'.cell? ⟨V, 44, none⟩ = some v) (fun j => j == 5) (by kernel_rfl) (c44) (fun hHeld => ?_)
      refine wpAnyS_take0 (i := 0) (v := ?_) rfl (by kernel_rfl) (by kernel_rfl) (by kernel_rfl) (by rfl) (fun _ _ _ h => h) (by rfl) ?_ (by assumption) ?_
      rotate_left
      · intro w; go_simp; (try with_reducible rfl)
      (try simp only [Act.put, List.getElem_toArray, List.getElem_cons_zero, List.getElem_cons_succ, List.setIfInBounds_toArray, List.set_cons_zero, List.set_cons_succ])
      refine wpAnyS_take (i := 1) (v := v) rfl (by kernel_rfl) (by kernel_rfl) (by kernel_rfl) (by rfl) (by kernel_rfl) (fun _ _ _ h => h) (Or.inl ⟨by rfl, fun w hSw => by (try dsimp only at hSw); go_simp⟩) (by assumption) ?_
      (try simp only [Act.put, List.getElem_toArray, List.getElem_cons_zero, List.getElem_cons_succ, List.setIfInBounds_toArray, List.set_cons_zero, List.set_cons_succ])
      refine wpAnyS_take0 (i := 2) (v := ?_) rfl (by kernel_rfl) (by kernel_rfl) (by kernel_rfl) (by rfl) (fun _ _ _ h => h) (by rfl) ?_ (by assumption) ?_
      rotate_left
      · intro w; go_simp; (try with_reducible rfl)
      (try simp only [Act.put, List.getElem_toArray, List.getElem_cons_zero, List.getElem_cons_succ, List.setIfInBounds_toArray, List.set_cons_zero, List.set_cons_succ])
      refine wpAnyS_one (r := 3) (by kernel_rfl) rfl (by rfl) (by rfl) (fun K hK => ?_)
      (try simp only [List.getElem_toArray, List.getElem_cons_zero, List.getElem_cons_succ])
      go_simp
      go_at_call 33; (refine (HIk.out _ _ (show RdT wr.drew g s 0 (SS k) from HRk)).mono ?_); rintro e u1 ⟨rfl, KR1, k1⟩; have KV1 := HVk.drew.grown k1 (by simp; omega); have KA1 := HAk.drew.grown k1 (by simp; omega); have KO1 := (show OwnI wr.drew Bs v (II k) from HOk).grown k1 (fun q hq => by cases hq; exact hgBs); have C1 := grown_belowA Bk.drew k1 Bk.drew.size (by omega); have hC1 : Bs ≤ u1.heap.size := Nat.le_trans (show Bs ≤ wr.drew.heap.size from hBk) k1.size; have d44 := KV1.cv 44 v rfl
      refine hK _ _ ?_ (fun hHeld => ?_)
      · exact d44
      clear hK K
      (try simp only [Act.put, List.getElem_toArray, List.getElem_cons_zero, List.getElem_cons_succ, List.setIfInBounds_toArray, List.set_cons_zero, List.set_cons_succ])
      refine wpAnyS_one (r := 4) (by kernel_rfl) rfl (by rfl) (by rfl) (fun K hK => ?_)
      (try simp only [List.getElem_toArray, List.getElem_cons_zero, List.getElem_cons_succ])
      refine wp_buildSlice 32 93 1 _ rfl (inC xx) i0 (.agg (inC zIns)) Tryd.underlying32 hi hz0 (by rw [hz1]; decide) (by rw [hz1]; decide) (by rw [hz1]; simp only [List.map_toArray, List.map_cons, List.map_nil]; exact fill_in xx) ?_
      have KR2 := KR1.al (.cells (inC xx) 93)
      have KV2 := KV1.alloc (.cells (inC xx) 93)
      have KA2 := KA1.alloc (.cells (inC xx) 93)
      have KO2 := KO1.alloc (.cells (inC xx) 93)
      have KG2 := Blk.new u1 93 (inC xx)
      have C2 := C1.alloc C1.size (.cells (inC xx) 93)
      have hC2 : Bs ≤ (u1.alloc (.cells (inC xx) 93)).heap.size := Nat.le_trans hC1 (by simp)
      have e44 := KV2.cv 44 v rfl
      generalize u1.alloc (.cells (inC xx) 93) = u2 at *
      generalize u1.heap.size = G at *
      refine hK _ _ ?_ (fun hHeld => ?_)
      · exact e44
      clear hK K
      (try simp only [Act.put, List.getElem_toArray, List.getElem_cons_zero, List.getElem_cons_succ, List.setIfInBounds_toArray, List.set_cons_zero, List.set_cons_succ])
      refine wpAnyS_last (r := 5) (by kernel_rfl) rfl (by rfl) (by rfl) (fun K hK => ?_)
      (try simp only [List.getElem_toArray, List.getElem_cons_zero, List.getElem_cons_succ])
      refine own_append xx rfl rfl rfl KO2 KG2 (by rw [hll]; omega) hC2 (fun v3 u3 KO3 b3 R3 => ?_)
      have KR3 := R3 _ _ _ _ KR2
      have KV3 := KV2.below b3 hVBs
      have KA3 := KA2.below b3 hABs
      have C3 := C2.trans (b3.mono hwBs)
      have hC3 := Nat.le_trans hC2 b3.size
      obtain ⟨a3, c3, hv3, -⟩ := KO3.inL
      subst hv3
      refine hK _ _ ?_
      clear hK K
      (try simp only [Act.put, List.getElem_toArray, List.getElem_cons_zero, List.getElem_cons_succ, List.setIfInBounds_toArray, List.set_cons_zero, List.set_cons_succ])
      refine wpAny_take (i := 6) (v := ?_) rfl (by kernel_rfl) (by kernel_rfl) (by kernel_rfl) (fun _ _ _ h => h) (Or.inl ⟨by rfl, ?_⟩) ?_
      rotate_left
      · intro w; go_simp; (try with_reducible rfl)
      (try simp only [Act.put, List.getElem_toArray, List.getElem_cons_zero, List.getElem_cons_succ, List.setIfInBounds_toArray, List.set_cons_zero, List.set_cons_succ])
      refine wpAny_one (r := 7) (by kernel_rfl) rfl (by rfl) (fun K hK => ?_)
      (try simp only [List.getElem_toArray, List.getElem_cons_zero, List.getElem_cons_succ])
      refine wp_store_op (k := 44) 32 (.slice a3 (II k ++ [xx]).length c3) (msC MM (.slice a3 (II k ++ [xx]).length c3)) (by rfl) rfl rfl KV3 (by kernel_rfl) (show (44 + 1 : Nat) ≤ 45 by decide) (by rfl) rfl (fun u4 KV4 b4 g4 => ?_)
      have KR4 := KR3.other KV3 (by decide) (by decide) g4
      have KA4 := KA3.grown g4 (by simp; omega)
      have KO4 := KO3.grown g4 (fun q hq => by cases hq; exact hVBs)
      have C4 := grown_belowA C3 g4 C3.size (by omega)
      have hC4 : Bs ≤ u4.heap.size := Nat.le_trans hC3 g4.size
      refine hK _ _ ?_
      clear hK K
      (try simp only [Act.put, List.getElem_toArray, List.getElem_cons_zero, List.getElem_cons_succ, List.setIfInBounds_toArray, List.set_cons_zero, List.set_cons_succ])
      refine wpAny_done (by kernel_rfl) ?_ _
      refine NoPanic.normal ?_
      rw [← hIk] at KO4 KV4
      go_wp2
      go_roundw
      case rel => exact ⟨k + 1, _, by omega, by go_num, KR4, KV4, KA4, KO4, C4, hC4⟩
      case measure => simp [intOf]; omega
    · obtain rfl : k = n := by omega
      have q2 : decide ((k : Int) < (k : Int)) = false := decide_eq_false (by omega)
      go_wp2_with fail
      refine (err_ok (SS k) _ HRk hF.out).mono ?_
      rintro e we ⟨rfl, rfl⟩
      rw [hI.out] at HOk
      have HWR := HAk
      obtain ⟨a', c', hv', -⟩ := HOk.inL
      subst hv'
      go_wp2_with (first
        | (refine load_blk (k := 0) 34 (msC MM (.slice a' I'.length c')) (by rfl) rfl rfl HVk (by kernel_rfl) (by kernel_rfl) rfl ?_)
        | (refine store_blk (k := 0) 34 (.agg (msC MM (.slice a' I'.length c'))) (msC MM (.slice a' I'.length c')) (by rfl) rfl rfl rfl HWR (by kernel_rfl) (show (45 : Nat) ≤ 45 from Nat.le_refl 45) (by rfl) (st_whole _ _ rfl) ?_; intro wz HZ bz gz; have HOz := HOk.grown gz (fun q hq => by cases hq; exact hABs); have Bz := grown_belowA Bk gz Bk.size (by omega)))
      exact bodyPost_ret (results_blk_tmp rfl rfl HZ (by kernel_rfl) (by kernel_rfl)) rfl ⟨⟨_, by rw [hM.out]; rfl, OwnI.mono HOz hwBs⟩, Bz⟩

end Go.Proofs.YtkfhcblgfndoaaaDoor

namespace Go.Proofs.YtkfhcblgfndoaaaDoor
open Go.RowKit
attribute [local go_sem ↓] Go.wp_at_zero Go.wp_at_succ
set_option linter.unusedSimpArgs false
set_option linter.unusedVariables false
set_option maxRecDepth 100000

theorem sb9_leB (l : List UInt8) (st : RSt) (h : st.1 ≤ l.length) : (sb9 l 0 st).1 ≤ l.length :=
  nmS_le _ _ _ _ (nmS_le _ _ _ _ (nmS_le _ _ _ _ (nmS_le _ _ _ _ (rpSt_le _ _ _ (rdBs_le _ _ _ (nmS_le _ _ _ _ (rdBs_le _ _ _ (nmS_le _ _ _ _ h))))))))

set_option maxHeartbeats 12800000 in
theorem msRead_bad (s : ByteArray) (w : World) (hs : s.size ≤ 100000) (e0 : Int) (x0 : Nat) (he : e0 ≠ 0) (hF0 : (mhF s.data.toList).2 = (e0, (x0 : Int))) :
    Calls Tryd.prog 6 #[.string s] w (ReadsAs (msC zMs (.slice none 0 0)) e0 x0 w) := by
  have hb : 0 + s.size ≤ 281474976710656 := by omega
  have hls : s.data.toList.length = s.size := by simp
  obtain ⟨i0, hi, hz0, hz1, hz2⟩ := info_parts Tryd.inParts
  have Q1 : (mh1 s.data.toList).1 ≤ s.data.toList.length := exS_le _ _ _ (Nat.zero_le _)
  have Q2 : (mh2 s.data.toList).1 ≤ s.data.toList.length := sb9_leB _ _ Q1
  have Q3 : (mh3 s.data.toList).1 ≤ s.data.toList.length := exS_le _ _ _ Q2
  have Q4 : (mh4 s.data.toList).1 ≤ s.data.toList.length := rcS_le _ _ Q3
  have Q5 : (mh5 s.data.toList).1 ≤ s.data.toList.length := exS_le _ _ _ Q4
  have Q6 : (mh6 s.data.toList).1 ≤ s.data.toList.length := tkN_le _ _ _ _ _ Q5
  have Q7 : (mh7 s.data.toList).1 ≤ s.data.toList.length := nmS_le _ _ _ _ Q6
  have Q8 : (mh8 s.data.toList).1 ≤ s.data.toList.length := tkN_le _ _ _ _ _ Q7
  have Q9 : (mh9 s.data.toList).1 ≤ s.data.toList.length := nmS_le _ _ _ _ Q8
  have Q10 : (mh10 s.data.toList).1 ≤ s.data.toList.length := rdBs_le _ _ _ Q9
  have Q11 : (mh11 s.data.toList).1 ≤ s.data.toList.length := nmS_le _ _ _ _ Q10
  have HSP : ∀ k, (itS s.data.toList (mh11 s.data.toList) k).1 ≤ s.size := fun k => by have q := itS_le s.data.toList _ Q11 k; rw [hls] at q; exact q
  have P1 := Q1
  rw [hls] at P1
  have P2 := Q2
  rw [hls] at P2
  have P3 := Q3
  rw [hls] at P3
  have P4 := Q4
  rw [hls] at P4
  have P5 := Q5
  rw [hls] at P5
  have P6 := Q6
  rw [hls] at P6
  have P7 := Q7
  rw [hls] at P7
  have P8 := Q8
  rw [hls] at P8
  have P9 := Q9
  rw [hls] at P9
  have P10 := Q10
  rw [hls] at P10
  have HX1 : Hid (∀ {g : Nat} {W : World}, RdT W g s 0 (0, 0, -1) → Calls Tryd.prog 26 #[.pointer (some ⟨g, 0, none⟩), .string ⟨#[0, 0, 3, 2]⟩, .slice none 0 0] W fun e w' => e = .returned (.string ⟨(exV s.data.toList (0, 0, -1) [0, 0, 3, 2]).toArray⟩) ∧ RdT w' g s 0 (mh1 s.data.toList) ∧ W.grownBy w' (some g)) := fun {g W} h => exp_t ⟨#[0, 0, 3, 2]⟩ (by decide) _ W h (Nat.zero_le _) hb
  have HX2 : Hid (∀ {g : Nat} {W : World}, RdT W g s 0 (mh1 s.data.toList) → Calls Tryd.prog 27 #[.pointer (some ⟨g, 0, none⟩), .int .i64 3] W fun e w' => e = .returned (.agg (bpC (rbB s.data.toList 0 (mh1 s.data.toList) 3))) ∧ RdT w' g s 0 (mh2 s.data.toList) ∧ W.grownBy w' (some g)) := fun {g W} h => readBody_t _ 3 W h P1 hb
  have HX3 : Hid (∀ {g : Nat} {W : World}, RdT W g s 0 (mh2 s.data.toList) → Calls Tryd.prog 26 #[.pointer (some ⟨g, 0, none⟩), .string ⟨#[0]⟩, .slice none 0 0] W fun e w' => e = .returned (.string ⟨(exV s.data.toList (mh2 s.data.toList) [0]).toArray⟩) ∧ RdT w' g s 0 (mh3 s.data.toList) ∧ W.grownBy w' (some g)) := fun {g W} h => exp_t ⟨#[0]⟩ (by decide) _ W h P2 hb
  have HX4 : Hid (∀ {g : Nat} {W : World}, RdT W g s 0 (mh3 s.data.toList) → Calls Tryd.prog 28 #[.pointer (some ⟨g, 0, none⟩)] W fun e w' => e = .returned (.int .i64 (rcN s.data.toList (mh3 s.data.toList) : Nat)) ∧ RdT w' g s 0 (mh4 s.data.toList) ∧ W.grownBy w' (some g)) := fun {g W} h => readCount_t _ W h P3 hb
  have HX5 : Hid (∀ {g : Nat} {W : World}, RdT W g s 0 (mh4 s.data.toList) → Calls Tryd.prog 26 #[.pointer (some ⟨g, 0, none⟩), .string ⟨#[0]⟩, .slice none 0 0] W fun e w' => e = .returned (.string ⟨(exV s.data.toList (mh4 s.data.toList) [0]).toArray⟩) ∧ RdT w' g s 0 (mh5 s.data.toList) ∧ W.grownBy w' (some g)) := fun {g W} h => exp_t ⟨#[0]⟩ (by decide) _ W h P4 hb
  have HX6 : Hid (∀ {g : Nat} {W : World}, RdT W g s 0 (mh5 s.data.toList) → Calls Tryd.prog 30 #[.pointer (some ⟨g, 0, none⟩), .int .i64 32] W fun e w' => e = .returned (.string ⟨(tkN s.data.toList 0 (mh5 s.data.toList) 32 false).1.toArray⟩) ∧ RdT w' g s 0 (mh6 s.data.toList) ∧ W.grownBy w' (some g)) := fun {g W} h => bytes_t _ 32 W h P5 hb
  have HX7 : Hid (∀ {g : Nat} {W : World}, RdT W g s 0 (mh6 s.data.toList) → Calls Tryd.prog 31 #[.pointer (some ⟨g, 0, none⟩), .int .i64 2] W fun e w' => e = .returned (.int .i64 (nmV s.data.toList 0 (mh6 s.data.toList) 2 : Nat)) ∧ RdT w' g s 0 (mh7 s.data.toList) ∧ W.grownBy w' (some g)) := fun {g W} h => numK_t _ 2 (by decide) W h P6 hb
  have HX8 : Hid (∀ {g : Nat} {W : World}, RdT W g s 0 (mh7 s.data.toList) → Calls Tryd.prog 30 #[.pointer (some ⟨g, 0, none⟩), .int .i64 16] W fun e w' => e = .returned (.string ⟨(tkN s.data.toList 0 (mh7 s.data.toList) 16 false).1.toArray⟩) ∧ RdT w' g s 0 (mh8 s.data.toList) ∧ W.grownBy w' (some g)) := fun {g W} h => bytes_t _ 16 W h P7 hb
  have HX9 : Hid (∀ {g : Nat} {W : World}, RdT W g s 0 (mh8 s.data.toList) → Calls Tryd.prog 31 #[.pointer (some ⟨g, 0, none⟩), .int .i64 4] W fun e w' => e = .returned (.int .i64 (nmV s.data.toList 0 (mh8 s.data.toList) 4 : Nat)) ∧ RdT w' g s 0 (mh9 s.data.toList) ∧ W.grownBy w' (some g)) := fun {g W} h => numK_t _ 4 (by decide) W h P8 hb
  have HX10 : Hid (∀ {g : Nat} {W : World}, RdT W g s 0 (mh9 s.data.toList) → Calls Tryd.prog 32 #[.pointer (some ⟨g, 0, none⟩)] W fun e w' => e = .returned (.agg (brC (rdB s.data.toList 0 (mh9 s.data.toList)))) ∧ RdT w' g s 0 (mh10 s.data.toList) ∧ W.grownBy w' (some g)) := fun {g W} h => prRead_t _ W h P9 hb
  have HX11 : Hid (∀ {g : Nat} {W : World}, RdT W g s 0 (mh10 s.data.toList) → Calls Tryd.prog 31 #[.pointer (some ⟨g, 0, none⟩), .int .i64 1] W fun e w' => e = .returned (.int .i64 (nmV s.data.toList 0 (mh10 s.data.toList) 1 : Nat)) ∧ RdT w' g s 0 (mh11 s.data.toList) ∧ W.grownBy w' (some g)) := fun {g W} h => numK_t _ 1 (by decide) W h P10 hb
  have HI : Hid (∀ (k : Nat) {g : Nat} {W : World}, RdT W g s 0 (itS s.data.toList (mh11 s.data.toList) k) → Calls Tryd.prog 33 #[.pointer (some ⟨g, 0, none⟩)] W fun e w' => e = .returned (.agg (inC (riV s.data.toList (itS s.data.toList (mh11 s.data.toList) k)))) ∧ RdT w' g s 0 (itS s.data.toList (mh11 s.data.toList) (k + 1)) ∧ W.grownBy w' (some g)) := fun k {g W} h => readInst_t _ W h (HSP k) hb
  have hIs : Hid (∀ k, itV s.data.toList (mh11 s.data.toList) (k + 1) = itV s.data.toList (mh11 s.data.toList) k ++ [riV s.data.toList (itS s.data.toList (mh11 s.data.toList) k)]) := fun k => itV_succ _ _ k
  have hI0 : Hid (itV s.data.toList (mh11 s.data.toList) 0 = []) := rfl
  have hIl : Hid (∀ k, (itV s.data.toList (mh11 s.data.toList) k).length = k) := fun k => itV_len _ _ k
  have hS0 : Hid (itS s.data.toList (mh11 s.data.toList) 0 = mh11 s.data.toList) := rfl
  have hn64 := rcN_le s.data.toList (mh3 s.data.toList)
  have HT := Lib.hid (fun W => Tryd.strings_TrimRight_one ⟨(tkN s.data.toList 0 (mh5 s.data.toList) 32 false).1.toArray⟩ 0 (by decide) W (by
    show (tkN s.data.toList 0 (mh5 s.data.toList) 32 false).1.toArray.size ≤ _
    rw [List.size_toArray]
    rcases tkN_len s.data.toList 0 (mh5 s.data.toList) 32 false with q | q
    · have q' : (tkN s.data.toList 0 (mh5 s.data.toList) 32 false).1 = [] := q
      rw [q']; decide
    · have q' : (tkN s.data.toList 0 (mh5 s.data.toList) 32 false).1.length = 32 := q
      rw [q']; decide))
  have hF : Hid ((itS s.data.toList (mh11 s.data.toList) (rcN s.data.toList (mh3 s.data.toList))).2 = (e0, (x0 : Int))) := hF0
  clear hF0 HSP hls P1 P2 P3 P4 P5 P6 P7 P8 P9 P10 Q1 Q2 Q3 Q4 Q5 Q6 Q7 Q8 Q9 Q10 Q11
  obtain ⟨nmB, hnmB⟩ : ∃ nmB : ByteArray, nmB = ⟨(Lib.trimRightB (tkN s.data.toList 0 (mh5 s.data.toList) 32 false).1 0).toArray⟩ := ⟨_, rfl⟩
  obtain ⟨nm0, hnm0⟩ : ∃ nm0 : ByteArray, nm0 = ⟨(tkN s.data.toList 0 (mh5 s.data.toList) 32 false).1.toArray⟩ := ⟨_, rfl⟩
  obtain ⟨dg, hdg⟩ : ∃ dg : ByteArray, dg = ⟨(tkN s.data.toList 0 (mh7 s.data.toList) 16 false).1.toArray⟩ := ⟨_, rfl⟩
  replace HT : Hid (∀ W, Calls Tryd.prog 29 #[.string nm0, .string ⟨#[0]⟩] W fun e w' => e = .returned (.string nmB) ∧ w' = W) := fun W => by
    rw [hnmB, hnm0]
    exact HT.out W
  rw [← hnm0] at HX6
  rw [← hdg] at HX8
  clear hnmB hnm0 hdg
  generalize rcN s.data.toList (mh3 s.data.toList) = n at *
  generalize rbB s.data.toList 0 (mh1 s.data.toList) 3 = b at *
  generalize nmV s.data.toList 0 (mh6 s.data.toList) 2 = rv at *
  generalize nmV s.data.toList 0 (mh8 s.data.toList) 4 = co at *
  generalize rdB s.data.toList 0 (mh9 s.data.toList) = br at *
  generalize nmV s.data.toList 0 (mh10 s.data.toList) 1 = ho at *
  obtain ⟨XV, hXV⟩ : ∃ XV : Nat → Ins, XV = fun k => riV s.data.toList (itS s.data.toList (mh11 s.data.toList) k) := ⟨_, rfl⟩
  obtain ⟨SS, hSS⟩ : ∃ SS : Nat → RSt, SS = itS s.data.toList (mh11 s.data.toList) := ⟨_, rfl⟩
  obtain ⟨II, hII⟩ : ∃ II : Nat → List Ins, II = itV s.data.toList (mh11 s.data.toList) := ⟨_, rfl⟩
  have eX : ∀ k, riV s.data.toList (itS s.data.toList (mh11 s.data.toList) k) = XV k := fun k => by rw [hXV]
  simp only [eX] at HI hIs
  rw [← hSS] at HI hS0 hF
  rw [← hII] at hIs hI0 hIl
  clear hXV hSS hII eX
  generalize mh11 s.data.toList = t11 at *
  generalize mh10 s.data.toList = t10 at *
  generalize mh9 s.data.toList = t9 at *
  generalize mh8 s.data.toList = t8 at *
  generalize mh7 s.data.toList = t7 at *
  generalize mh6 s.data.toList = t6 at *
  generalize mh5 s.data.toList = t5 at *
  generalize mh4 s.data.toList = t4 at *
  generalize mh3 s.data.toList = t3 at *
  generalize mh2 s.data.toList = t2 at *
  generalize mh1 s.data.toList = t1 at *
  have HA1 := Blk.new w 34 (msC zMs (.slice none 0 0))
  have B1 : Below w.heap.size w (w.alloc (.cells (msC zMs (.slice none 0 0)) 34)) := (Below.refl _ _).alloc (Nat.le_refl _) _
  go_enter Tryd.func6, Tryd.ntmps6
  go_upto_region 1 with (refine alloc_blk 34 (msC zMs (.slice none 0 0)) (by rfl) rfl Tryd.msZero ?_)
  generalize w.alloc (.cells (msC zMs (.slice none 0 0)) 34) = w1 at *
  have hA1 := HA1.lt
  go_wp2_with fail
  refine (new_t s 0 _).mono ?_
  rintro e w2 ⟨rfl, HR2, b2⟩
  have HA2 := HA1.kept b2
  have B2 := B1.trans (b2.mono B1.size)
  have hAg : w.heap.size < w1.heap.size := hA1
  clear HA1 B1 b2
  generalize w1.heap.size = g at *
  clear hA1
  go_wp2_with fail
  refine (HX1.out HR2).mono ?_
  rintro e w3 ⟨rfl, HR3, g3⟩
  have HA3 := HA2.grown g3 (by simp; omega)
  have B3 := grown_belowA B2 g3 B2.size (by omega)
  clear HR2 HA2 B2 g3
  go_wp2_with fail
  refine (HX2.out HR3).mono ?_
  rintro e w4 ⟨rfl, HR4, g4⟩
  have HA4 := HA3.grown g4 (by simp; omega)
  have B4 := grown_belowA B3 g4 B3.size (by omega)
  clear HR3 HA3 B3 g4
  have hgl4 := HR4.lt
  have HA4b := HA4.alloc (.cells (msC zMs (.slice none 0 0)) 34)
  have HR4b := HR4.al (.cells (msC zMs (.slice none 0 0)) 34)
  have B4b := B4.alloc B4.size (.cells (msC zMs (.slice none 0 0)) 34)
  go_upto_region 4 with (first
    | (refine build_blk (t := 34) (msC ⟨b, ⟨#[]⟩, 0, ⟨#[]⟩, 0, ⟨0, 0, z6b⟩, 0⟩ (.slice none 0 0)) (by rfl) rfl (by kernel_rfl) ?_)
    | (refine alloc_blk 34 (msC zMs (.slice none 0 0)) (by rfl) rfl Tryd.msZero ?_)
    | (refine store_blk (k := 0) 34 (.agg (msC ⟨b, ⟨#[]⟩, 0, ⟨#[]⟩, 0, ⟨0, 0, z6b⟩, 0⟩ (.slice none 0 0))) (msC ⟨b, ⟨#[]⟩, 0, ⟨#[]⟩, 0, ⟨0, 0, z6b⟩, 0⟩ (.slice none 0 0)) (by rfl) rfl rfl rfl (Blk.new w4 _ _) (by kernel_rfl) (show (45 : Nat) ≤ 45 from Nat.le_refl 45) (by rfl) (st_whole _ _ rfl) ?_; intro w5 HV5 b5 g5))
  (try simp only [Act.put, List.setIfInBounds_toArray, List.set_cons_zero, List.set_cons_succ])
  have hgV : g < w4.heap.size := hgl4
  have HA5 := HA4b.below b5 (by omega)
  have HR5 := HR4b.other (Blk.new w4 _ _) (by decide) (by decide) g5
  have B5 := B4b.trans (b5.mono (by omega))
  clear HR4 HA4 B4 HA4b HR4b B4b b5 g5 hgl4
  generalize w4.heap.size = V at *
  go_wp2_with fail
  refine (HX3.out HR5).mono ?_
  rintro e w6 ⟨rfl, HR6, g6⟩
  have HA6 := HA5.grown g6 (by simp; omega)
  have B6 := grown_belowA B5 g6 B5.size (by omega)
  have HV6 := HV5.grown g6 (by simp; omega)
  clear HR5 HA5 B5 HV5 g6
  go_wp2_with fail
  refine (HX4.out HR6).mono ?_
  rintro e w7 ⟨rfl, HR7, g7⟩
  have HA7 := HA6.grown g7 (by simp; omega)
  have B7 := grown_belowA B6 g7 B6.size (by omega)
  have HV7 := HV6.grown g7 (by simp; omega)
  clear HR6 HA6 B6 HV6 g7
  go_wp2_with fail
  refine (HX5.out HR7).mono ?_
  rintro e w8 ⟨rfl, HR8, g8⟩
  have HA8 := HA7.grown g8 (by simp; omega)
  have B8 := grown_belowA B7 g8 B7.size (by omega)
  have HV8 := HV7.grown g8 (by simp; omega)
  clear HR7 HA7 B7 HV7 g8
  go_wp2_with fail
  refine (HX6.out HR8).mono ?_
  rintro e w9 ⟨rfl, HR9, g9⟩
  have HA9 := HA8.grown g9 (by simp; omega)
  have B9 := grown_belowA B8 g9 B8.size (by omega)
  have HV9 := HV8.grown g9 (by simp; omega)
  clear HR8 HA8 B8 HV8 g9
  go_wp2_with fail
  refine (HT.out _).mono ?_
  rintro e w10 ⟨rfl, rfl⟩
  have HR10 := HR9
  have HA10 := HA9
  have B10 := B9
  have HV10 := HV9
  clear HR9 HA9 B9 HV9
  go_wp2_with (refine store_blk (k := 31) 9 (.string nmB) (msC ⟨b, nmB, 0, ⟨#[]⟩, 0, ⟨0, 0, z6b⟩, 0⟩ (.slice none 0 0)) (by rfl) rfl rfl rfl HV10 (by kernel_rfl) (show (31 + 1 : Nat) ≤ 45 by decide) (by rfl) rfl ?_; intro w11 HV11 b11 g11; have HA11 := HA10.below b11 (by omega); have HR11 := HR10.other HV10 (by decide) (by decide) g11; have B11 := B10.trans (b11.mono (by omega)))
  clear HR10 HA10 B10 HV10 b11 g11
  refine (HX7.out HR11).mono ?_
  rintro e w12 ⟨rfl, HR12, g12⟩
  have HA12 := HA11.grown g12 (by simp; omega)
  have B12 := grown_belowA B11 g12 B11.size (by omega)
  have HV12 := HV11.grown g12 (by simp; omega)
  clear HR11 HA11 B11 HV11 g12
  go_wp2_with (refine store_blk (k := 32) 3 (.int .i64 ((rv : Nat) : Int)) (msC ⟨b, nmB, ((rv : Nat) : Int), ⟨#[]⟩, 0, ⟨0, 0, z6b⟩, 0⟩ (.slice none 0 0)) (by rfl) rfl rfl rfl HV12 (by kernel_rfl) (show (32 + 1 : Nat) ≤ 45 by decide) (by rfl) rfl ?_; intro w13 HV13 b13 g13; have HA13 := HA12.below b13 (by omega); have HR13 := HR12.other HV12 (by decide) (by decide) g13; have B13 := B12.trans (b13.mono (by omega)))
  clear HR12 HA12 B12 HV12 b13 g13
  refine (HX8.out HR13).mono ?_
  rintro e w14 ⟨rfl, HR14, g14⟩
  have HA14 := HA13.grown g14 (by simp; omega)
  have B14 := grown_belowA B13 g14 B13.size (by omega)
  have HV14 := HV13.grown g14 (by simp; omega)
  clear HR13 HA13 B13 HV13 g14
  go_wp2_with (refine store_blk (k := 33) 9 (.string dg) (msC ⟨b, nmB, ((rv : Nat) : Int), dg, 0, ⟨0, 0, z6b⟩, 0⟩ (.slice none 0 0)) (by rfl) rfl rfl rfl HV14 (by kernel_rfl) (show (33 + 1 : Nat) ≤ 45 by decide) (by rfl) rfl ?_; intro w15 HV15 b15 g15; have HA15 := HA14.below b15 (by omega); have HR15 := HR14.other HV14 (by decide) (by decide) g15; have B15 := B14.trans (b15.mono (by omega)))
  clear HR14 HA14 B14 HV14 b15 g15
  refine (HX9.out HR15).mono ?_
  rintro e w16 ⟨rfl, HR16, g16⟩
  have HA16 := HA15.grown g16 (by simp; omega)
  have B16 := grown_belowA B15 g16 B15.size (by omega)
  have HV16 := HV15.grown g16 (by simp; omega)
  clear HR15 HA15 B15 HV15 g16
  go_wp2_with (refine store_blk (k := 34) 3 (.int .i64 ((co : Nat) : Int)) (msC ⟨b, nmB, ((rv : Nat) : Int), dg, ((co : Nat) : Int), ⟨0, 0, z6b⟩, 0⟩ (.slice none 0 0)) (by rfl) rfl rfl rfl HV16 (by kernel_rfl) (show (34 + 1 : Nat) ≤ 45 by decide) (by rfl) rfl ?_; intro w17 HV17 b17 g17; have HA17 := HA16.below b17 (by omega); have HR17 := HR16.other HV16 (by decide) (by decide) g17; have B17 := B16.trans (b17.mono (by omega)))
  clear HR16 HA16 B16 HV16 b17 g17
  refine (HX10.out HR17).mono ?_
  rintro e w18 ⟨rfl, HR18, g18⟩
  have HA18 := HA17.grown g18 (by simp; omega)
  have B18 := grown_belowA B17 g18 B17.size (by omega)
  have HV18 := HV17.grown g18 (by simp; omega)
  clear HR17 HA17 B17 HV17 g18
  go_wp2_with (refine store_blk (k := 35) 27 (.agg (brC br)) (msC ⟨b, nmB, ((rv : Nat) : Int), dg, ((co : Nat) : Int), br, 0⟩ (.slice none 0 0)) (by rfl) rfl rfl rfl HV18 (by kernel_rfl) (show (35 + 8 : Nat) ≤ 45 by decide) (by rfl) rfl ?_; intro w19 HV19 b19 g19; have HA19 := HA18.below b19 (by omega); have HR19 := HR18.other HV18 (by decide) (by decide) g19; have B19 := B18.trans (b19.mono (by omega)))
  clear HR18 HA18 B18 HV18 b19 g19
  refine (HX11.out HR19).mono ?_
  rintro e w20 ⟨rfl, HR20, g20⟩
  have HA20 := HA19.grown g20 (by simp; omega)
  have B20 := grown_belowA B19 g20 B19.size (by omega)
  have HV20 := HV19.grown g20 (by simp; omega)
  clear HR19 HA19 B19 HV19 g20
  go_wp2_with (refine store_blk (k := 43) 3 (.int .i64 ((ho : Nat) : Int)) (msC ⟨b, nmB, ((rv : Nat) : Int), dg, ((co : Nat) : Int), br, ((ho : Nat) : Int)⟩ (.slice none 0 0)) (by rfl) rfl rfl rfl HV20 (by kernel_rfl) (show (43 + 1 : Nat) ≤ 45 by decide) (by rfl) rfl ?_; intro w21 HV21 b21 g21; have HA21 := HA20.below b21 (by omega); have HR21 := HR20.other HV20 (by decide) (by decide) g21; have B21 := B20.trans (b21.mono (by omega)))
  clear HR20 HA20 B20 HV20 b21 g21
  obtain ⟨MM, hMM⟩ : ∃ MM : Ms, MM = ⟨b, nmB, ((rv : Nat) : Int), dg, ((co : Nat) : Int), br, ((ho : Nat) : Int)⟩ := ⟨_, rfl⟩
  rw [← hMM] at HV21
  clear hMM
  have hgBs := HR21.lt
  have hVBs := HV21.lt
  have hABs := HA21.lt
  rw [← hS0.out] at HR21
  obtain ⟨Bs, hBs⟩ : ∃ Bs, Bs = w21.heap.size := ⟨_, rfl⟩
  rw [← hBs] at hgBs hVBs hABs
  have hB21 : Bs ≤ w21.heap.size := by omega
  have hwBs : w.heap.size ≤ Bs := by omega
  clear hBs
  go_loopw [41] (fun i wr => ∃ (k : Nat) (v : Value), k ≤ n ∧ i = .int .i64 k ∧ RdT wr g s 0 (SS k) ∧ Blk wr V 34 (msC MM v) ∧ Blk wr w.heap.size 34 (msC zMs (.slice none 0 0)) ∧ OwnI wr Bs v (II k) ∧ Below w.heap.size w wr ∧ Bs ≤ wr.heap.size) (fun i _ => n - (intOf i).toNat)
  case atStart => exact ⟨0, _, by omega, rfl, HR21, HV21, HA21, Or.inl ⟨hI0.out, rfl⟩, B21, hB21⟩
  case round =>
    clear HR21 HV21 HA21 B21 hB21
    obtain ⟨k, v, hk, rfl, HRk, HVk, HAk, HOk, Bk, hBk⟩ := hrel
    by_cases hlt : k < n
    · have q1 : (k : Int) < (n : Int) := by omega
      have q2 : decide ((k : Int) < (n : Int)) = true := decide_eq_true q1
      have hIk := hIs.out k
      have hll := hIl.out k
      have HIk := Lib.hid (fun (g : Nat) (W : World) (h : RdT W g s 0 (SS k)) => HI.out k h)
      generalize XV k = xx at *
      have c44 := HVk.cv 44 v rfl
      go_upto_region 15 with (fail)
      refine wp_region_noPanic ?_
      refine wp_region_S (fun w' => w'.cell? ⟨V, 44, none⟩ = some v) (fun j => j == 5) (by kernel_rfl) (c44) (fun hHeld => ?_)
      refine wpAnyS_take0 (i := 0) (v := ?_) rfl (by kernel_rfl) (by kernel_rfl) (by kernel_rfl) (by rfl) (fun _ _ _ h => h) (by rfl) ?_ (by assumption) ?_
      rotate_left
      · intro w; go_simp; (try with_reducible rfl)
      (try simp only [Act.put, List.getElem_toArray, List.getElem_cons_zero, List.getElem_cons_succ, List.setIfInBounds_toArray, List.set_cons_zero, List.set_cons_succ])
      refine wpAnyS_take (i := 1) (v := v) rfl (by kernel_rfl) (by kernel_rfl) (by kernel_rfl) (by rfl) (by kernel_rfl) (fun _ _ _ h => h) (Or.inl ⟨by rfl, fun w hSw => by (try dsimp only at hSw); go_simp⟩) (by assumption) ?_
      (try simp only [Act.put, List.getElem_toArray, List.getElem_cons_zero, List.getElem_cons_succ, List.setIfInBounds_toArray, List.set_cons_zero, List.set_cons_succ])
      refine wpAnyS_take0 (i := 2) (v := ?_) rfl (by kernel_rfl) (by kernel_rfl) (by kernel_rfl) (by rfl) (fun _ _ _ h => h) (by rfl) ?_ (by assumption) ?_
      rotate_left
      · intro w; go_simp; (try with_reducible rfl)
      (try simp only [Act.put, List.getElem_toArray, List.getElem_cons_zero, List.getElem_cons_succ, List.setIfInBounds_toArray, List.set_cons_zero, List.set_cons_succ])
      refine wpAnyS_one (r := 3) (by kernel_rfl) rfl (by rfl) (by rfl) (fun K hK => ?_)
      (try simp only [List.getElem_toArray, List.getElem_cons_zero, List.getElem_cons_succ])
      go_simp
      go_at_call 33; (refine (HIk.out _ _ (show RdT wr.drew g s 0 (SS k) from HRk)).mono ?_); rintro e u1 ⟨rfl, KR1, k1⟩; have KV1 := HVk.drew.grown k1 (by simp; omega); have KA1 := HAk.drew.grown k1 (by simp; omega); have KO1 := (show OwnI wr.drew Bs v (II k) from HOk).grown k1 (fun q hq => by cases hq; exact hgBs); have C1 := grown_belowA Bk.drew k1 Bk.drew.size (by omega); have hC1 : Bs ≤ u1.heap.size := Nat.le_trans (show Bs ≤ wr.drew.heap.size from hBk) k1.size; have d44 := KV1.cv 44 v rfl
      refine hK _ _ ?_ (fun hHeld => ?_)
      · exact d44
      clear hK K
      (try simp only [Act.put, List.getElem_toArray, List.getElem_cons_zero, List.getElem_cons_succ, List.setIfInBounds_toArray, List.set_cons_zero, List.set_cons_succ])
      refine wpAnyS_one (r := 4) (by kernel_rfl) rfl (by rfl) (by rfl) (fun K hK => ?_)
      (try simp only [List.getElem_toArray, List.getElem_cons_zero, List.getElem_cons_succ])
      refine wp_buildSlice 32 93 1 _ rfl (inC xx) i0 (.agg (inC zIns)) Tryd.underlying32 hi hz0 (by rw [hz1]; decide) (by rw [hz1]; decide) (by rw [hz1]; simp only [List.map_toArray, List.map_cons, List.map_nil]; exact fill_in xx) ?_
      have KR2 := KR1.al (.cells (inC xx) 93)
      have KV2 := KV1.alloc (.cells (inC xx) 93)
      have KA2 := KA1.alloc (.cells (inC xx) 93)
      have KO2 := KO1.alloc (.cells (inC xx) 93)
      have KG2 := Blk.new u1 93 (inC xx)
      have C2 := C1.alloc C1.size (.cells (inC xx) 93)
      have hC2 : Bs ≤ (u1.alloc (.cells (inC xx) 93)).heap.size := Nat.le_trans hC1 (by simp)
      have e44 := KV2.cv 44 v rfl
      generalize u1.alloc (.cells (inC xx) 93) = u2 at *
      generalize u1.heap.size = G at *
      refine hK _ _ ?_ (fun hHeld => ?_)
      · exact e44
      clear hK K
      (try simp only [Act.put, List.getElem_toArray, List.getElem_cons_zero, List.getElem_cons_succ, List.setIfInBounds_toArray, List.set_cons_zero, List.set_cons_succ])
      refine wpAnyS_last (r := 5) (by kernel_rfl) rfl (by rfl) (by rfl) (fun K hK => ?_)
      (try simp only [List.getElem_toArray, List.getElem_cons_zero, List.getElem_cons_succ])
      refine own_append xx rfl rfl rfl KO2 KG2 (by rw [hll]; omega) hC2 (fun v3 u3 KO3 b3 R3 => ?_)
      have KR3 := R3 _ _ _ _ KR2
      have KV3 := KV2.below b3 hVBs
      have KA3 := KA2.below b3 hABs
      have C3 := C2.trans (b3.mono hwBs)
      have hC3 := Nat.le_trans hC2 b3.size
      obtain ⟨a3, c3, hv3, -⟩ := KO3.inL
      subst hv3
      refine hK _ _ ?_
      clear hK K
      (try simp only [Act.put, List.getElem_toArray, List.getElem_cons_zero, List.getElem_cons_succ, List.setIfInBounds_toArray, List.set_cons_zero, List.set_cons_succ])
      refine wpAny_take (i := 6) (v := ?_) rfl (by kernel_rfl) (by kernel_rfl) (by kernel_rfl) (fun _ _ _ h => h) (Or.inl ⟨by rfl, ?_⟩) ?_
      rotate_left
      · intro w; go_simp; (try with_reducible rfl)
      (try simp only [Act.put, List.getElem_toArray, List.getElem_cons_zero, List.getElem_cons_succ, List.setIfInBounds_toArray, List.set_cons_zero, List.set_cons_succ])
      refine wpAny_one (r := 7) (by kernel_rfl) rfl (by rfl) (fun K hK => ?_)
      (try simp only [List.getElem_toArray, List.getElem_cons_zero, List.getElem_cons_succ])
      refine wp_store_op (k := 44) 32 (.slice a3 (II k ++ [xx]).length c3) (msC MM (.slice a3 (II k ++ [xx]).length c3)) (by rfl) rfl rfl KV3 (by kernel_rfl) (show (44 + 1 : Nat) ≤ 45 by decide) (by rfl) rfl (fun u4 KV4 b4 g4 => ?_)
      have KR4 := KR3.other KV3 (by decide) (by decide) g4
      have KA4 := KA3.grown g4 (by simp; omega)
      have KO4 := KO3.grown g4 (fun q hq => by cases hq; exact hVBs)
      have C4 := grown_belowA C3 g4 C3.size (by omega)
      have hC4 : Bs ≤ u4.heap.size := Nat.le_trans hC3 g4.size
      refine hK _ _ ?_
      clear hK K
      (try simp only [Act.put, List.getElem_toArray, List.getElem_cons_zero, List.getElem_cons_succ, List.setIfInBounds_toArray, List.set_cons_zero, List.set_cons_succ])
      refine wpAny_done (by kernel_rfl) ?_ _
      refine NoPanic.normal ?_
      rw [← hIk] at KO4 KV4
      go_wp2
      go_roundw
      case rel => exact ⟨k + 1, _, by omega, by go_num, KR4, KV4, KA4, KO4, C4, hC4⟩
      case measure => simp [intOf]; omega
    · obtain rfl : k = n := by omega
      have q2 : decide ((k : Int) < (k : Int)) = false := decide_eq_false (by omega)
      have hn0 : ¬ (SS k).2.1 = 0 := by rw [hF.out]; exact he
      go_wp2_with fail
      refine (err_t (SS k) _ HRk hn0).mono ?_
      rintro e we ⟨rfl, hf, ke⟩
      rw [hF.out] at hf
      have HWR := HAk.kept ke
      have Be := Bk.trans (ke.mono Bk.size)
      have hAw : w.heap.size < wr.heap.size := HAk.lt
      go_wp2_with (first
        | (refine build_blk (t := 34) (msC zMs (.slice none 0 0)) (by rfl) rfl (by kernel_rfl) ?_)
        | (refine store_blk (k := 0) 34 (.agg (msC zMs (.slice none 0 0))) (msC zMs (.slice none 0 0)) (by rfl) rfl rfl rfl HWR (by kernel_rfl) (show (45 : Nat) ≤ 45 from Nat.le_refl 45) (by rfl) (st_whole _ _ rfl) ?_; intro wz HZ bz gz; have hfz := hf.kept gz (by simp; omega); have Bz := grown_belowA Be gz Be.size (by omega)))
      exact bodyPost_ret (results_blk_tmp rfl rfl HZ (by kernel_rfl) (by kernel_rfl)) rfl ⟨_, rfl, Or.inr ⟨he, _, rfl, hfz⟩, Bz⟩

end Go.Proofs.YtkfhcblgfndoaaaDoor

namespace Go.Proofs.YtkfhcblgfndoaaaDoor
open Go.RowKit
set_option linter.unusedVariables false
set_option linter.unusedSimpArgs false

theorem inIn_congr {w : World} {a : Option Addr} {l l' : List Ins} (hl : l.length = l'.length) (h : ∀ j (h1 : j < l.length) (h2 : j < l'.length), inC l[j] = inC l'[j]) (hI : InIn w a l) : InIn w a l' := by
  rcases hI with h0 | ⟨b, o, e1, e2, e3⟩
  · subst h0
    left
    exact List.length_eq_zero_iff.1 (by rw [← hl]; rfl)
  · refine Or.inr ⟨b, o, e1, e2, fun j hj => ?_⟩
    have hj' : j < l.length := by omega
    rw [← h j hj' hj]
    exact e3 j hj'

theorem insAt_get (s : ByteArray) (p n j : Nat) (h : j < (insAt s p n).length) : (insAt s p n)[j] = inAt s (p + 16 * j) := by
  have h' : j < ((List.range n).map fun k => inAt s (p + 16 * k)).length := h
  show ((List.range n).map fun k => inAt s (p + 16 * k))[j]'h' = _
  rw [List.getElem_map, List.getElem_range]

/-- An answer of Read. -/
def RdOk (M : Ms) (I : List Ins) (w : World) (r : Ending) (w' : World) : Prop :=
  (∃ a c, r = .returned (.tuple #[.agg (msC M (.slice a I.length c)), .nilIface]) ∧ InIn w' a I) ∧ Below w.heap.size w w'

theorem rdOk_of {s : ByteArray} (hs : s.size ≤ 100000) (h : allE s = none) (W : World) : Calls Tryd.prog 6 #[.string s] W (RdOk (msAt s) (insAt s 102 (cntAt s)) W) := by
  rcases all_ways s with ⟨e, x, h1, _, _⟩ | ⟨_, _, _, h3, h4, h5⟩
  · rw [h] at h1
    cases h1
  · refine (msRead_ok s W hs (by rw [h3]) (msAt s) (insAt s 102 (cntAt s)) h4 h5).mono ?_
    rintro r w' ⟨⟨v, rfl, hO⟩, hb⟩
    obtain ⟨a, c, rfl, hI⟩ := hO.inL
    exact ⟨⟨a, c, rfl, hI⟩, hb⟩

/-- What is written is read. -/
theorem msRead_back (m : Ms) (l : List Ins) (c : List UInt8) (hok : okMs m l = true) (hx : byBp m.base ∧ byB m.br ∧ ∀ x ∈ l, byIns x) (hsz : (writeM m l ++ c).length ≤ 100000) (W : World) :
    Calls Tryd.prog 6 #[.string ⟨(writeM m l ++ c).toArray⟩] W (RdOk m l W) := by
  obtain ⟨h1, h2, h3, h4⟩ := ms_back m l c ⟨(writeM m l ++ c).toArray⟩ hok hx rfl
  refine (rdOk_of (s := ⟨(writeM m l ++ c).toArray⟩) (by simpa [ByteArray.size] using hsz) h1 W).mono ?_
  rintro r w' ⟨⟨a, c', rfl, hI⟩, hb⟩
  rw [insAt_len, h3, h2]
  refine ⟨⟨a, c', rfl, inIn_congr (by rw [insAt_len, h3]) (fun j q1 q2 => ?_) hI⟩, hb⟩
  rw [← h4 j q2, insAt_get]

theorem msRead_ways (s : ByteArray) (hs : s.size ≤ 100000) :
    (∃ e x, e ≠ 0 ∧ ∀ W, Calls Tryd.prog 6 #[.string s] W (ReadsAs (msC zMs (.slice none 0 0)) e (x : Nat) W)) ∨
    (∃ (M : Ms) (I : List Ins), okMs M I = true ∧ (byBp M.base ∧ byB M.br ∧ ∀ x ∈ I, byIns x) ∧ (writeM M I).length ≤ s.size ∧ ∀ W, Calls Tryd.prog 6 #[.string s] W (RdOk M I W)) := by
  rcases all_ways s with ⟨e, x, h1, h2, h3⟩ | ⟨h1, h2, h3, _⟩
  · exact Or.inl ⟨e, x, h2, fun W => msRead_bad s W hs e x h2 h3⟩
  · obtain ⟨g1, g2, g3, -⟩ := ms_right s h1 h2 h3
    exact Or.inr ⟨_, _, g1, g2, g3, fun W => rdOk_of hs h1 W⟩

theorem okMs_len {m : Ms} {l : List Ins} (h : okMs m l = true) : (writeM m l).length = 102 + 16 * l.length ∧ l.length ≤ 64 := by
  obtain ⟨_, _, hname, _, _, hdig, _, _, _, hlen, _⟩ := okMs_all h
  exact ⟨writeM_len m l hname hdig, hlen⟩

end Go.Proofs.YtkfhcblgfndoaaaDoor

