/- The reference's Reads: its small functions Good and Is, and its closures note and take, at every argument. -/
import Derived.Test.YtiikdmempgmlnaaDoorReadsSpec
import Derived.Test.YtiikdmempgmlnaaDoorSub
namespace Go.Proofs.YtiikdmempgmlnaaDoor
open Go.RowKit

/-- A cell of a row is written. -/
theorem row_set {w : World} {g i : Nat} {C : Array Value} {T : TypeId} {v : Value} (h : w.heap[g]? = some (.cells C T)) : (w.setCell ⟨g, i, none⟩ v).heap[g]? = some (.cells (C.setIfInBounds i v) T) := by
  show (w.heap.modify g _)[g]? = _
  rw [Array.getElem?_modify, if_pos rfl, h]
  rfl

theorem grown_of_below {w w1 w2 : World} {row : Option Nat} (hb : Below w.heap.size w w1) (hg : w1.grownBy w2 row) : w.grownBy w2 row :=
  ⟨hg.os.trans hb.os, hg.tape.trans hb.tape, hg.output.trans hb.output, Nat.le_trans hb.size hg.size, fun k hk hne => (hg.block k (Nat.lt_of_lt_of_le hk hb.size) hne).trans (hb.block k hk)⟩

/-- Block c is a Fault: what was wrong, and where. -/
def Nt (w : World) (c : Nat) (e pl : Int) : Prop := w.heap[c]? = some (.cells #[.int .i64 e, .int .i64 pl] 38)

section
variable {w w' : World} {c : Nat} {e pl : Int}
theorem Nt.lt (h : Nt w c e pl) : c < w.heap.size := (Array.getElem?_eq_some_iff.1 h).1
theorem Nt.c0 (h : Nt w c e pl) : w.cell? ⟨c, 0, none⟩ = some (.int .i64 e) := cell_of_row w c 0 _ _ (0, 0) h
theorem Nt.c1 (h : Nt w c e pl) : w.cell? ⟨c, 1, none⟩ = some (.int .i64 pl) := cell_of_row w c 1 _ _ (0, 0) h
theorem Nt.fz (h : Nt w c e pl) (o : Nat) : w.frozen? ⟨c, o, none⟩ = false := by
  have h' : w.heap[c]? = some (.cells #[.int .i64 e, .int .i64 pl] 38) := h
  simp [World.frozen?, h']
theorem Nt.kept {row : Option Nat} (h : Nt w c e pl) (hg : w.grownBy w' row) (hne : some c ≠ row) : Nt w' c e pl := (hg.block c h.lt hne).trans h
theorem Nt.below (h : Nt w c e pl) (hb : Below w.heap.size w w') : Nt w' c e pl := (hb.block c h.lt).trans h
theorem Nt.set2 (h : Nt w c e pl) (x y : Int) : Nt ((w.setCell ⟨c, 0, none⟩ (.int .i64 x)).setCell ⟨c, 1, none⟩ (.int .i64 y)) c x y := by
  exact row_set (row_set h)
end

theorem is_yes (pl : Int) (w : World) : Calls Tryd.prog 37 #[.agg #[.int .i64 0, .int .i64 pl]] w fun e w' => e = .returned (.bool true) ∧ Below w.heap.size w w' := by
  go_enter Tryd.func37, Tryd.ntmps37
  go_wp2
  go_ret
  exact ⟨rfl, (Below.refl _ _).alloc (Nat.le_refl _) _⟩

theorem is_no (x pl : Int) (w : World) (hx : x ≠ 0) : Calls Tryd.prog 37 #[.agg #[.int .i64 x, .int .i64 pl]] w fun e w' => e = .returned (.bool false) ∧ Below w.heap.size w w' := by
  have h0 : (x == 0) = false := beq_eq_false_iff_ne.2 hx
  go_enter Tryd.func37, Tryd.ntmps37
  go_wp2
  go_ret
  exact ⟨rfl, (Below.refl _ _).alloc (Nat.le_refl _) _⟩

theorem is_any (x pl : Int) (w : World) : Calls Tryd.prog 37 #[.agg #[.int .i64 x, .int .i64 pl]] w fun e w' => e = .returned (.bool (decide (x = 0))) ∧ Below w.heap.size w w' := by
  by_cases h : x = 0
  · subst h; exact is_yes pl w
  · rw [decide_eq_false h]; exact is_no x pl w h

/-- note: the first. -/
theorem note_first {c : Nat} {pl : Int} (x y : Int) (w : World) (h : Nt w c 0 pl) :
    Calls Tryd.prog 36 #[.int .i64 x, .int .i64 y, .pointer (some ⟨c, 0, none⟩)] w fun e w' => e = .returned (.tuple #[]) ∧ Nt w' c x y ∧ w.grownBy w' (some c) := by
  have h0 := h.c0
  have h1 := h.c1
  go_enter Tryd.func36, Tryd.ntmps36
  go_wp2_with fail
  refine (is_yes pl _).mono ?_
  rintro e w1 ⟨rfl, hb⟩
  have n1 := h.below hb
  have k0 := n1.c0
  have k1 := n1.c1
  have z0 := n1.fz 0
  have z1 := n1.fz 1
  go_wp2
  go_end0
  exact ⟨rfl, n1.set2 x y, grown_of_below hb (grownBy_trans (grownBy_setCell _ _ _ _) (grownBy_setCell _ _ _ _))⟩

theorem note_noted {c : Nat} {e0 pl : Int} (x y : Int) (w : World) (h : Nt w c e0 pl) (he : e0 ≠ 0) :
    Calls Tryd.prog 36 #[.int .i64 x, .int .i64 y, .pointer (some ⟨c, 0, none⟩)] w fun e w' => e = .returned (.tuple #[]) ∧ Below w.heap.size w w' := by
  have h0 := h.c0
  have h1 := h.c1
  go_enter Tryd.func36, Tryd.ntmps36
  go_wp2_with fail
  refine (is_no e0 pl _ he).mono ?_
  rintro e w1 ⟨rfl, hb⟩
  go_wp2
  go_end0
  exact ⟨rfl, hb⟩

/-- What the closures of Reads hold: b the text, o where it begins, c what was wrong, a how much is read, d the closure note. -/
structure RS (w : World) (b o c a d : Nat) (s : ByteArray) (off : Int) (st : RSt) : Prop where
  hb : w.heap[b]? = some (.cells #[.string s] 9)
  ho : w.heap[o]? = some (.cells #[.int .i64 off] 3)
  hc : Nt w c st.2.1 st.2.2
  ha : w.heap[a]? = some (.cells #[.int .i64 st.1] 3)
  hd : w.heap[d]? = some (.cells #[.func (.func 36) #[] #[.pointer (some ⟨c, 0, none⟩)]] 51)
  ne : b ≠ c ∧ b ≠ a ∧ o ≠ c ∧ o ≠ a ∧ c ≠ a ∧ d ≠ c ∧ d ≠ a

/-- Only the blocks c and a, and new ones, are written. -/
structure Keep2 (w w' : World) (c a : Nat) : Prop where
  os : w'.os = w.os
  tape : w'.tape = w.tape
  output : w'.output = w.output
  size : w.heap.size ≤ w'.heap.size
  block : ∀ k, k < w.heap.size → k ≠ c → k ≠ a → w'.heap[k]? = w.heap[k]?

theorem lt_of_row {w : World} {g : Nat} {O : Obj} (h : w.heap[g]? = some O) : g < w.heap.size := (Array.getElem?_eq_some_iff.1 h).1

section
variable {w w' : World} {b o c a d : Nat} {s : ByteArray} {off : Int} {st : RSt}
theorem RS.below (h : RS w b o c a d s off st) (hb : Below w.heap.size w w') : RS w' b o c a d s off st :=
  ⟨(hb.block b (lt_of_row h.hb)).trans h.hb, (hb.block o (lt_of_row h.ho)).trans h.ho, h.hc.below hb, (hb.block a (lt_of_row h.ha)).trans h.ha, (hb.block d (lt_of_row h.hd)).trans h.hd, h.ne⟩
theorem RS.grown {row : Option Nat} (h : RS w b o c a d s off st) (hg : w.grownBy w' row) (hne : ∀ g, row = some g → b ≠ g ∧ o ≠ g ∧ c ≠ g ∧ a ≠ g ∧ d ≠ g) : RS w' b o c a d s off st :=
  ⟨(hg.block b (lt_of_row h.hb) (fun e => (hne b e.symm).1 rfl)).trans h.hb, (hg.block o (lt_of_row h.ho) (fun e => (hne o e.symm).2.1 rfl)).trans h.ho, (hg.block c h.hc.lt (fun e => (hne c e.symm).2.2.1 rfl)).trans h.hc,
    (hg.block a (lt_of_row h.ha) (fun e => (hne a e.symm).2.2.2.1 rfl)).trans h.ha, (hg.block d (lt_of_row h.hd) (fun e => (hne d e.symm).2.2.2.2 rfl)).trans h.hd, h.ne⟩
theorem RS.drew (h : RS w b o c a d s off st) : RS w.drew b o c a d s off st := ⟨h.hb, h.ho, h.hc, h.ha, h.hd, h.ne⟩
/-- The Fault is written. -/
theorem RS.note (h : RS w b o c a d s off st) (hg : w.grownBy w' (some c)) {x y : Int} (hn : Nt w' c x y) : RS w' b o c a d s off (st.1, x, y) :=
  ⟨(hg.block b (lt_of_row h.hb) (by intro e; cases e; exact h.ne.1 rfl)).trans h.hb, (hg.block o (lt_of_row h.ho) (by intro e; cases e; exact h.ne.2.2.1 rfl)).trans h.ho, hn,
    (hg.block a (lt_of_row h.ha) (by intro e; cases e; exact h.ne.2.2.2.2.1 rfl)).trans h.ha, (hg.block d (lt_of_row h.hd) (by intro e; cases e; exact h.ne.2.2.2.2.2.1 rfl)).trans h.hd, h.ne⟩
/-- The place is written. -/
theorem RS.move (h : RS w b o c a d s off st) {p : Nat} {v : Value} (hv : v = .int .i64 p) : RS (w.setCell ⟨a, 0, none⟩ v) b o c a d s off (p, st.2) := by
  subst hv
  have hg := grownBy_setCell w a 0 (.int .i64 p)
  exact ⟨(hg.block b (lt_of_row h.hb) (by intro e; cases e; exact h.ne.2.1 rfl)).trans h.hb, (hg.block o (lt_of_row h.ho) (by intro e; cases e; exact h.ne.2.2.2.1 rfl)).trans h.ho,
    (hg.block c h.hc.lt (by intro e; cases e; exact h.ne.2.2.2.2.1 rfl)).trans h.hc, row_set h.ha, (hg.block d (lt_of_row h.hd) (by intro e; cases e; exact h.ne.2.2.2.2.2.2 rfl)).trans h.hd, h.ne⟩
theorem RS.kb (h : RS w b o c a d s off st) : w.cell? ⟨b, 0, none⟩ = some (.string s) := cell_of_row w b 0 _ _ (0, 0) h.hb
theorem RS.ko (h : RS w b o c a d s off st) : w.cell? ⟨o, 0, none⟩ = some (.int .i64 off) := cell_of_row w o 0 _ _ (0, 0) h.ho
theorem RS.ka (h : RS w b o c a d s off st) : w.cell? ⟨a, 0, none⟩ = some (.int .i64 st.1) := cell_of_row w a 0 _ _ (0, 0) h.ha
theorem RS.kd (h : RS w b o c a d s off st) : w.cell? ⟨d, 0, none⟩ = some (.func (.func 36) #[] #[.pointer (some ⟨c, 0, none⟩)]) := cell_of_row w d 0 _ _ (0, 0) h.hd
theorem RS.za (h : RS w b o c a d s off st) : w.frozen? ⟨a, 0, none⟩ = false := by
  have h' := h.ha
  simp [World.frozen?, h']
theorem keep_below (hb : Below w.heap.size w w') : Keep2 w w' c a := ⟨hb.os, hb.tape, hb.output, hb.size, fun k hk _ _ => hb.block k hk⟩
theorem keep_c (hg : w.grownBy w' (some c)) : Keep2 w w' c a := ⟨hg.os, hg.tape, hg.output, hg.size, fun k hk h1 _ => hg.block k hk (by intro e; cases e; exact h1 rfl)⟩
theorem keep_a (v : Value) : Keep2 w (w.setCell ⟨a, 0, none⟩ v) c a := ⟨rfl, rfl, rfl, by simp [World.setCell], fun k _ _ h2 => Below.heap_setCell _ _ _ _ h2⟩
theorem Keep2.trans {w2 : World} (h : Keep2 w w' c a) (k : Keep2 w' w2 c a) : Keep2 w w2 c a :=
  ⟨k.os.trans h.os, k.tape.trans h.tape, k.output.trans h.output, Nat.le_trans h.size k.size, fun i hi h1 h2 => (k.block i (Nat.lt_of_lt_of_le hi h.size) h1 h2).trans (h.block i hi h1 h2)⟩
theorem Keep2.below (h : Keep2 w w' c a) {B : Nat} {w0 : World} (h0 : Below B w0 w) (hB : B ≤ w.heap.size) (hc : B ≤ c) (ha : B ≤ a) : Below B w0 w' :=
  h0.trans ⟨h.os, h.tape, h.output, h.size, fun k hk => h.block k (Nat.lt_of_lt_of_le hk hB) (by omega) (by omega)⟩
end
end Go.Proofs.YtiikdmempgmlnaaDoor
