/- A bridge in memory. -/
import Derived.Test.YtdceggekhhflgaaBrR
import Derived.Test.YtdceggekhhflgaaIvClone
import Derived.Test.YtdceggekhhflgaaLnD
import Derived.Test.YtdceggekhhflgaaLnL
import Derived.Test.YtdceggekhhflgaaSnS
namespace Go.Proofs.Ytdceggekhhflgaa
open Go.RowKit
attribute [local go_sem ↓] Go.wp_at_zero Go.wp_at_succ
set_option linter.unusedSimpArgs false
set_option linter.unusedVariables false
set_option maxRecDepth 100000
set_option linter.unusedSectionVars false
variable [Zone]

/-- A port whose lists' blocks are known, from B on. -/
structure PsKp (w : World) (B : Nat) (h : PsH) : Prop where
  i : IvB w B h.ia h.x.inn
  b : IvB w B h.ba h.x.bare
  ic : h.x.inn.length ≤ h.ic
  bc : h.x.bare.length ≤ h.bc
  im : h.ic ≤ maxLen
  bm : h.bc ≤ maxLen

theorem PsKp.ok {w : World} {B : Nat} {h : PsH} (k : PsKp w B h) : PsOk w h := ⟨k.i.inL, k.b.inL, k.ic, k.bc, k.im, k.bm⟩

theorem PsAt.blk {w w' : World} {g o : Nat} {l : List PsH} (h : PsAt w g o l) (hb : w'.heap[g]? = w.heap[g]?) : PsAt w' g o l := fun j hj k c hc => (World.cell?_of_block (a := ⟨g, _, none⟩) hb).trans (h j hj k c hc)

/-- A bridge at b, its blocks from B on: its ports' row, its table. -/
structure BrgAt (w : World) (B b t c : Nat) (ad : Option Addr) (hs : List PsH) (age last : Int) (E : List Ent) : Prop where
  blk : Blk w b 74 #[.slice ad hs.length c, .pointer (some ⟨t, 0, none⟩)]
  row : hs = [] ∨ ∃ g cur, ad = some ⟨g, 0, none⟩ ∧ B ≤ g ∧ Blk w g 59 cur ∧ PsAt w g 0 hs
  kp : ∀ h ∈ hs, PsKp w B h
  tab : Tab w B t age last E
  lo : B ≤ b
  few : hs.length ≤ 8
  lc : hs.length ≤ c
  cm : c ≤ maxLen
  right : ∀ h ∈ hs, okPs h.x = true

/-- .. plainly. -/
def Brg (w : World) (B b : Nat) (ps : List Ps) (age last : Int) (E : List Ent) : Prop := ∃ t c ad hs, hs.map PsH.x = ps ∧ BrgAt w B b t c ad hs age last E

abbrev BT : List TypeId := [74, 59, 3, 104, 100]

theorem PsKp.keep {w w' : World} {B : Nat} {h : PsH} (k : PsKp w B h) (hk : ∀ g C, Blk w g 3 C → B ≤ g → w'.heap[g]? = w.heap[g]?) : PsKp w' B h := ⟨k.i.keep hk, k.b.keep hk, k.ic, k.bc, k.im, k.bm⟩

theorem BrgAt.keep {w w' : World} {B b t c : Nat} {ad : Option Addr} {hs : List PsH} {age last : Int} {E : List Ent} (h : BrgAt w B b t c ad hs age last E)
    (hk : ∀ g T C, Blk w g T C → B ≤ g → T ∈ BT → w'.heap[g]? = w.heap[g]?) : BrgAt w' B b t c ad hs age last E := by
  obtain ⟨v, hb, hr⟩ := h.tab.row
  refine ⟨(hk b _ _ h.blk h.lo (by simp)).trans h.blk, ?_, fun x hx => (h.kp x hx).keep fun g C q hB => hk g _ C q hB (by simp), ⟨⟨v, (hk t _ _ hb h.tab.lo.1 (by simp)).trans hb, hr.keep fun g C q hB => hk g _ C q hB (by simp)⟩, h.tab.lo, h.tab.ok, h.tab.a0, h.tab.a1, h.tab.l0, h.tab.l1⟩, h.lo, h.few, h.lc, h.cm, h.right⟩
  rcases h.row with q | ⟨g, cur, e1, e2, e3, e4⟩
  · exact Or.inl q
  · exact Or.inr ⟨g, cur, e1, e2, (hk g _ _ e3 e2 (by simp)).trans e3, e4.blk (hk g _ _ e3 e2 (by simp))⟩

theorem BrgAt.kept {w w' : World} {B b t c : Nat} {ad : Option Addr} {hs : List PsH} {age last : Int} {E : List Ent} (h : BrgAt w B b t c ad hs age last E) (hb : Below w.heap.size w w') : BrgAt w' B b t c ad hs age last E :=
  h.keep fun g T C q _ _ => hb.block g q.lt

theorem Brg.kept {w w' : World} {B b : Nat} {ps : List Ps} {age last : Int} {E : List Ent} (h : Brg w B b ps age last E) (hb : Below w.heap.size w w') : Brg w' B b ps age last E := by
  obtain ⟨t, c, ad, hs, e, h⟩ := h
  exact ⟨t, c, ad, hs, e, h.kept hb⟩

/-- The table has changed. -/
theorem BrgAt.tabbed {w w' : World} {B b t c : Nat} {ad : Option Addr} {hs : List PsH} {age last last' : Int} {E E' : List Ent} (h : BrgAt w B b t c ad hs age last E) (hx : Lx B LT w w') (hT : Tab w' B t age last' E') : BrgAt w' B b t c ad hs age last' E' := by
  have hk : ∀ g T C, Blk w g T C → T ∉ LT → w'.heap[g]? = w.heap[g]? := fun g T C q hT => (hx.blk q hT).trans q.symm
  refine ⟨hx.blk h.blk (by decide), ?_, fun x hx => (h.kp x hx).keep fun g C q hB => hk g _ C q (by decide), hT, h.lo, h.few, h.lc, h.cm, h.right⟩
  rcases h.row with q | ⟨g, cur, e1, e2, e3, e4⟩
  · exact Or.inl q
  · exact Or.inr ⟨g, cur, e1, e2, hx.blk e3 (by decide), e4.blk (hk g _ _ e3 (by decide))⟩

/-- The k-th port's cells. -/
theorem BrgAt.at {w : World} {B b t c : Nat} {ad : Option Addr} {hs : List PsH} {age last : Int} {E : List Ent} (h : BrgAt w B b t c ad hs age last E) {k : Nat} (hk : k < hs.length) : ∃ g cur, ad = some ⟨g, 0, none⟩ ∧ B ≤ g ∧ Blk w g 59 cur ∧ CellsAt w g (k * 4) (psC hs[k]) := by
  rcases h.row with rfl | ⟨g, cur, e1, e2, e3, e4⟩
  · simp at hk
  · exact ⟨g, cur, e1, e2, e3, by have := e4 k hk; rwa [Nat.zero_add] at this⟩

end Go.Proofs.Ytdceggekhhflgaa
