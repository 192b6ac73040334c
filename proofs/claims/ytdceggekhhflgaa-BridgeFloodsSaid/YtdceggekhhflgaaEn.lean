/- Entries of a table in memory: cells, rows, what an operation of a table leaves as it was. -/
import Derived.Test.YtdceggekhhflgaaEnM
import Derived.Test.YtdceggekhhflgaaCells
import Derived.Test.YtdceggekhhflgaaStOp
import Derived.Deep.AppendLies
import Derived.Deep.RegionHeld3
import Derived.Deep.RegionLaw
import Derived.Great.BuildSlice
import Derived.ArgAppend
namespace Go.Proofs.Ytdceggekhhflgaa
open Go.RowKit
attribute [local go_sem ↓] Go.wp_at_zero Go.wp_at_succ
set_option linter.unusedSimpArgs false
set_option linter.unusedVariables false
set_option maxRecDepth 100000

def enC (x : Ent) : Array Value := #[.int .i64 x.vid, .int .u8 (x.a 0), .int .u8 (x.a 1), .int .u8 (x.a 2), .int .u8 (x.a 3), .int .u8 (x.a 4), .int .u8 (x.a 5), .int .i64 x.port, .int .i64 x.time]

def EnAt (w : World) (b o : Nat) (l : List Ent) : Prop := ∀ j (hj : j < l.length), CellsAt w b (o + j * 9) (enC l[j])

def EnIn (w : World) (a : Option Addr) (l : List Ent) : Prop := l = [] ∨ ∃ b o, a = some ⟨b, o, none⟩ ∧ b < w.heap.size ∧ EnAt w b o l

theorem EnAt.below {w w' : World} {b o D : Nat} {l : List Ent} (h : EnAt w b o l) (hb : Below D w w') (hB : b < D) : EnAt w' b o l := fun j hj => (h j hj).below hb hB

theorem EnIn.below {w w' : World} {a : Option Addr} {l : List Ent} (h : EnIn w a l) (hb : Below w.heap.size w w') : EnIn w' a l := by
  rcases h with h | ⟨b, o, h1, h2, h3⟩
  · exact Or.inl h
  · exact Or.inr ⟨b, o, h1, Nat.lt_of_lt_of_le h2 hb.size, fun j hj => (h3 j hj).below hb h2⟩

theorem EnIn.drew {w : World} {a : Option Addr} {l : List Ent} (h : EnIn w a l) : EnIn w.drew a l := h

theorem EnIn.at {w : World} {a : Option Addr} {l : List Ent} (h : EnIn w a l) {k : Nat} (hk : k < l.length) : ∃ b o, a = some ⟨b, o, none⟩ ∧ b < w.heap.size ∧ EnAt w b o l := by
  rcases h with rfl | h
  · simp at hk
  · exact h

/-- A list that lay somewhere ahead lies there still. -/
theorem EnIn.late {w0 w w' : World} {a : Option Addr} {l : List Ent} (h : EnIn w a l) (h0 : EnIn w0 a l) (hb : Below w0.heap.size w w') : EnIn w' a l := by
  rcases h with h | ⟨b, o, e1, e2, e3⟩
  · exact Or.inl h
  · rcases h0 with h0 | ⟨b0, o0, f1, f2, f3⟩
    · exact Or.inl h0
    · rw [e1] at f1
      cases f1
      exact Or.inr ⟨b, o, e1, Nat.lt_of_lt_of_le e2 hb.size, e3.below hb f2⟩

/-- The cells of entries, one behind the other. -/
def enR (l : List Ent) : List Value := l.flatMap fun v => (enC v).toList

theorem enR_cons (v : Ent) (l : List Ent) : enR (v :: l) = (enC v).toList ++ enR l := by simp [enR]

theorem enR_append (l m : List Ent) : enR (l ++ m) = enR l ++ enR m := by simp [enR]

theorem enR_one (v : Ent) : enR [v] = (enC v).toList := by simp [enR]

theorem enC_len (v : Ent) : (enC v).toList.length = 9 := rfl

theorem enR_len (l : List Ent) : (enR l).length = l.length * 9 := by
  induction l with
  | nil => rfl
  | cons v l ih => rw [enR_cons, List.length_append, ih, enC_len, List.length_cons]; omega

theorem enR_get : ∀ (l : List Ent) (j : Nat) (hj : j < l.length) (k : Nat), k < 9 → (enR l)[j * 9 + k]? = (enC l[j])[k]?
  | [], j, hj, _, _ => by simp at hj
  | v :: l, 0, _, k, hk => by
    rw [enR_cons, List.getElem?_append_left (by rw [enC_len]; omega)]
    simp
  | v :: l, j + 1, hj, k, hk => by
    have ih := enR_get l j (by simpa using hj) k hk
    rw [enR_cons, List.getElem?_append_right (by rw [enC_len]; omega), enC_len, show (j + 1) * 9 + k - 9 = j * 9 + k by omega, ih]
    rfl

theorem enC_cells (v : Ent) : ∀ u ∈ (enC v).toList, u.oneCell' = true := by
  intro u hu
  simp only [enC, List.mem_cons, List.not_mem_nil, or_false] at hu
  rcases hu with rfl | rfl | rfl | rfl | rfl | rfl | rfl | rfl | rfl <;> rfl

theorem enR_cells (l : List Ent) : ∀ u ∈ enR l, u.oneCell' = true := by
  intro u hu
  unfold enR at hu
  obtain ⟨v, _, hv⟩ := List.mem_flatMap.1 hu
  exact enC_cells v u hv

theorem enAt_news {w : World} {b o : Nat} {l : List Ent} (h : EnAt w b o l) : ∀ (q : Nat) u, (enR l)[q]? = some u → w.cell? ((⟨b, o, none⟩ : Addr).add q) = some u := by
  intro q u hu
  have hq : q < l.length * 9 := by
    rw [← enR_len]
    exact (List.getElem?_eq_some_iff.1 hu).1
  have hj : q / 9 < l.length := by omega
  have e : q = q / 9 * 9 + q % 9 := by omega
  rw [e, enR_get l (q / 9) hj (q % 9) (by omega)] at hu
  have := h (q / 9) hj (q % 9) u hu
  rw [e, Addr.add_lit, ← Nat.add_assoc]
  exact this

/-! ## What is another's -/
/-- Blocks that are another's: none of them is touched. -/
class Zone where
  z : Nat → Prop
  up : Nat → Nat
  ge : ∀ B, B ≤ up B
  lt : ∀ B k, z k → k < up B

instance zone0 : Zone := ⟨fun _ => False, fun B => B, fun _ => Nat.le_refl _, fun _ _ h => h.elim⟩

/-- From U on and below N. -/
abbrev zoneUN (U N : Nat) : Zone := ⟨fun k => U ≤ k ∧ k < N, fun B => max B N, fun B => Nat.le_max_left B N, fun B k h => Nat.lt_of_lt_of_le h.2 (Nat.le_max_right B N)⟩
set_option linter.unusedSectionVars false
variable [Zone]

/-- A block of one's own. -/
def Own (B g : Nat) : Prop := B ≤ g ∧ ¬ Zone.z g

theorem Own.mono {B B' g : Nat} (h : Own B g) (hB : B' ≤ B) : Own B' g := ⟨Nat.le_trans hB h.1, h.2⟩

theorem Own.new {B g : Nat} (h : Zone.up B ≤ g) : Own B g := ⟨Nat.le_trans (Zone.ge B) h, fun q => Nat.lt_irrefl _ (Nat.lt_of_lt_of_le (Zone.lt B g q) h)⟩

/-! ## What is kept -/

/-- From w to w' the blocks below B are as they were, and those of other types than these. -/
structure Lx (B : Nat) (TS : List TypeId) (w w' : World) : Prop where
  os : w'.os = w.os
  tape : w'.tape = w.tape
  output : w'.output = w.output
  size : w.heap.size ≤ w'.heap.size
  block : ∀ k, k < w.heap.size → (k < B ∨ Zone.z k ∨ ∀ T C, T ∈ TS → ¬ Blk w k T C) → w'.heap[k]? = w.heap[k]?

section
variable {B B' : Nat} {TS TS' : List TypeId} {w w' w1 w2 : World} {T : TypeId} {C : Array Value}

theorem Lx.refl (B : Nat) (TS : List TypeId) (w : World) : Lx B TS w w := ⟨rfl, rfl, rfl, Nat.le_refl _, fun _ _ _ => rfl⟩

theorem blk_same {k : Nat} (h : w'.heap[k]? = w.heap[k]?) (hB : Blk w' k T C) : Blk w k T C := h.symm.trans hB

theorem Lx.trans (h : Lx B TS w w1) (k : Lx B TS w1 w2) : Lx B TS w w2 := by
  refine ⟨k.os.trans h.os, k.tape.trans h.tape, k.output.trans h.output, Nat.le_trans h.size k.size, fun i hi hq => ?_⟩
  have e := h.block i hi hq
  refine (k.block i (Nat.lt_of_lt_of_le hi h.size) ?_).trans e
  rcases hq with hq | hq | hq
  · exact Or.inl hq
  · exact Or.inr (Or.inl hq)
  · exact Or.inr (Or.inr fun T C hT hb => hq T C hT (blk_same e hb))

theorem Lx.of (h : Below w.heap.size w w') : Lx B TS w w' := ⟨h.os, h.tape, h.output, h.size, fun k hk _ => h.block k hk⟩

theorem Lx.mono (h : Lx B TS w w') (hB : B' ≤ B) (hT : ∀ T ∈ TS, T ∈ TS') : Lx B' TS' w w' :=
  ⟨h.os, h.tape, h.output, h.size, fun k hk hq => h.block k hk (hq.elim (fun q => Or.inl (Nat.lt_of_lt_of_le q hB)) fun q => Or.inr (q.elim Or.inl fun q => Or.inr fun T C hm => q T C (hT T hm)))⟩

theorem Lx.next (h : Lx B TS w w1) (hb : Below w1.heap.size w1 w2) : Lx B TS w w2 := h.trans (Lx.of hb)

theorem Lx.grown {g : Nat} (h : Lx B TS w w1) (hg : w1.grownBy w2 (some g)) (hB : Own B g) (hT : T ∈ TS) (hb : Blk w1 g T C) : Lx B TS w w2 :=
  h.trans ⟨hg.os, hg.tape, hg.output, hg.size, fun k hk hq => hg.block k hk (by
    intro e
    cases e
    rcases hq with hq | hq | hq
    · have := hB.1; omega
    · exact hB.2 hq
    · exact hq T C hT hb)⟩

theorem Lx.below (h : Lx B TS w w') (hB : B ≤ w.heap.size) : Below B w w' := ⟨h.os, h.tape, h.output, h.size, fun k hk => h.block k (Nat.lt_of_lt_of_le hk hB) (Or.inl hk)⟩

theorem blk_type {k : Nat} {T' : TypeId} {C' : Array Value} (h : Blk w k T C) (h' : Blk w k T' C') : T = T' := by
  have e : some (Obj.cells C T (0, 0)) = some (Obj.cells C' T' (0, 0)) := h.symm.trans h'
  injection e with e
  injection e

theorem Lx.blk {k : Nat} (h : Lx B TS w w') (hb : Blk w k T C) (hT : T ∉ TS) : Blk w' k T C :=
  (h.block k hb.lt (Or.inr <| Or.inr fun T' C' hT' hb' => hT (by rw [blk_type hb hb']; exact hT'))).trans hb
end

/-! ## Rows -/

/-- A row of entries of type T, its block from B on. -/
def RowE (w : World) (B : Nat) (T : TypeId) (v : Value) (l : List Ent) : Prop :=
  (enR l).length = l.length * 9 ∧ ((v = .slice none 0 0 ∧ l.length = 0) ∨
   ∃ g cap cur, v = .slice (some ⟨g, 0, none⟩) l.length cap ∧ Own B g ∧ w.heap[g]? = some (.cells cur T (0, 0)) ∧ l.length ≤ cap ∧ cap ≤ maxLen ∧ cur.size = cap * 9 ∧ cur.toList.take (l.length * 9) = enR l)

theorem RowE.lib {w : World} {B : Nat} {T : TypeId} {v : Value} {l : List Ent} (h : RowE w B T v l) : w.ownsRow B T 9 v l.length (enR l) := by
  rcases h with ⟨h0, h | ⟨g, cap, cur, e, h1, h2⟩⟩
  · exact ⟨h0, Or.inl h⟩
  · exact ⟨h0, Or.inr ⟨g, cap, cur, e, h1.1, h2⟩⟩

theorem RowE.ofLib {w : World} {B g n c : Nat} {T : TypeId} {l : List Ent} (h : w.ownsRow B T 9 (.slice (some ⟨g, 0, none⟩) n c) l.length (enR l)) (hz : ¬ Zone.z g) : RowE w B T (.slice (some ⟨g, 0, none⟩) n c) l := by
  rcases h with ⟨h0, h | ⟨g', cap, cur, e, h1, h2⟩⟩
  · exact ⟨h0, Or.inl h⟩
  · refine ⟨h0, Or.inr ⟨g', cap, cur, e, ⟨h1, ?_⟩, h2⟩⟩
    cases e
    exact hz

theorem RowE.nil (w : World) (B : Nat) (T : TypeId) : RowE w B T (.slice none 0 0) [] := ⟨rfl, Or.inl ⟨rfl, rfl⟩⟩

/-- Entries that can be read, one behind the other; their block from B on. -/
def RowA (w : World) (B : Nat) (T : TypeId) (v : Value) (l : List Ent) : Prop := ∃ ad c, v = .slice ad l.length c ∧ l.length ≤ c ∧ c ≤ maxLen ∧ (l = [] ∨ ∃ g o cur, ad = some ⟨g, o, none⟩ ∧ Own B g ∧ Blk w g T cur ∧ EnAt w g o l)

theorem enAt_own {w : World} {base g cap n : Nat} {T : TypeId} {l : List Ent} (hn : n = l.length) (h : w.ownsRow base T 9 (.slice (some ⟨g, 0, none⟩) n cap) n (enR l)) : EnAt w g 0 l := by
  subst hn
  intro j hj k c hc
  have hk : k < 9 := (Array.getElem?_eq_some_iff.1 hc).1
  have h2 := h.cellAt (j * 9 + k) (by omega)
  rw [enR_get l j hj k hk, hc] at h2
  rw [Nat.zero_add]
  exact h2

theorem RowE.toA {w : World} {B : Nat} {T : TypeId} {v : Value} {l : List Ent} (h : RowE w B T v l) : RowA w B T v l := by
  have h' := h
  rcases h.2 with ⟨e, h0⟩ | ⟨g, cap, cur, e, h1, h2, h3, h4, h5, h6⟩
  · subst e
    have : l = [] := List.length_eq_zero_iff.1 h0
    subst this
    exact ⟨none, 0, rfl, Nat.le_refl _, Nat.zero_le _, Or.inl rfl⟩
  · subst e
    exact ⟨_, cap, rfl, h3, h4, Or.inr ⟨g, 0, cur, rfl, h1, h2, enAt_own rfl h'.lib⟩⟩

theorem EnAt.blk {w w' : World} {g o : Nat} {l : List Ent} (h : EnAt w g o l) (hb : w'.heap[g]? = w.heap[g]?) : EnAt w' g o l := fun j hj k c hc => (World.cell?_of_block (a := ⟨g, _, none⟩) hb).trans (h j hj k c hc)

theorem RowA.keep {w w' : World} {B : Nat} {T : TypeId} {v : Value} {l : List Ent} (h : RowA w B T v l) (hk : ∀ g C, Blk w g T C → B ≤ g → w'.heap[g]? = w.heap[g]?) : RowA w' B T v l := by
  obtain ⟨ad, c, e, h1, h2, h3⟩ := h
  refine ⟨ad, c, e, h1, h2, ?_⟩
  rcases h3 with h3 | ⟨g, o, cur, q1, q2, q3, q4⟩
  · exact Or.inl h3
  · exact Or.inr ⟨g, o, cur, q1, q2, (hk g cur q3 q2.1).trans q3, q4.blk (hk g cur q3 q2.1)⟩

theorem RowE.keep {w w' : World} {B : Nat} {T : TypeId} {v : Value} {l : List Ent} (h : RowE w B T v l) (hk : ∀ g C, Blk w g T C → B ≤ g → w'.heap[g]? = w.heap[g]?) : RowE w' B T v l := by
  rcases h with ⟨h0, h | ⟨g, cap, cur, e, h1, h2, h3⟩⟩
  · exact ⟨h0, Or.inl h⟩
  · exact ⟨h0, Or.inr ⟨g, cap, cur, e, h1, (hk g cur h2 h1.1).trans h2, h3⟩⟩

theorem RowA.lx {w w' : World} {B B' : Nat} {TS : List TypeId} {T : TypeId} {v : Value} {l : List Ent} (h : RowA w B T v l) (hx : Lx B' TS w w') (hT : T ∉ TS) : RowA w' B T v l := h.keep fun g C hb _ => (hx.blk hb hT).trans hb.symm

theorem RowE.lx {w w' : World} {B B' : Nat} {TS : List TypeId} {T : TypeId} {v : Value} {l : List Ent} (h : RowE w B T v l) (hx : Lx B' TS w w') (hT : T ∉ TS) : RowE w' B T v l := h.keep fun g C hb _ => (hx.blk hb hT).trans hb.symm

theorem RowA.kept {w w' : World} {B : Nat} {T : TypeId} {v : Value} {l : List Ent} (h : RowA w B T v l) (hb : Below w.heap.size w w') : RowA w' B T v l := h.keep fun g C hq _ => hb.block g hq.lt

theorem RowE.kept {w w' : World} {B : Nat} {T : TypeId} {v : Value} {l : List Ent} (h : RowE w B T v l) (hb : Below w.heap.size w w') : RowE w' B T v l := h.keep fun g C hq _ => hb.block g hq.lt

theorem RowE.other {w w' : World} {B k : Nat} {T T' : TypeId} {C : Array Value} {v : Value} {l : List Ent} (h : RowE w B T v l) (hg : w.grownBy w' (some k)) (hB : Blk w k T' C) (hT : T ≠ T') : RowE w' B T v l :=
  h.keep fun g C' hb _ => hg.block g hb.lt (by intro e; cases e; exact hT (blk_type hb hB))

theorem RowA.other {w w' : World} {B k : Nat} {T T' : TypeId} {C : Array Value} {v : Value} {l : List Ent} (h : RowA w B T v l) (hg : w.grownBy w' (some k)) (hB : Blk w k T' C) (hT : T ≠ T') : RowA w' B T v l :=
  h.keep fun g C' hb _ => hg.block g hb.lt (by intro e; cases e; exact hT (blk_type hb hB))

/-- A slice's elements, walked over: the k-th one's cells. -/
theorem RowA.at {w : World} {B : Nat} {T : TypeId} {ad : Option Addr} {n c : Nat} {l : List Ent} (h : RowA w B T (.slice ad n c) l) {k : Nat} (hk : k < l.length) : ∃ g o, ad = some ⟨g, o, none⟩ ∧ g < w.heap.size ∧ CellsAt w g (o + k * 9) (enC l[k]) := by
  obtain ⟨ad', c', e, h1, h2, h3⟩ := h
  injection e with e1 e2 e3
  subst e1
  rcases h3 with rfl | ⟨g, o, cur, q1, q2, q3, q4⟩
  · simp at hk
  · exact ⟨g, o, q1, q3.lt, q4 k hk⟩

theorem RowA.mono {w : World} {B B' : Nat} {T : TypeId} {v : Value} {l : List Ent} (h : RowA w B T v l) (hB : B' ≤ B) : RowA w B' T v l := by
  obtain ⟨ad, c, e, h1, h2, h3⟩ := h
  refine ⟨ad, c, e, h1, h2, ?_⟩
  rcases h3 with h3 | ⟨g, o, cur, q1, q2, q3⟩
  · exact Or.inl h3
  · exact Or.inr ⟨g, o, cur, q1, q2.mono hB, q3⟩

theorem RowE.mono {w : World} {B B' : Nat} {T : TypeId} {v : Value} {l : List Ent} (h : RowE w B T v l) (hB : B' ≤ B) : RowE w B' T v l := by
  rcases h with ⟨h0, h | ⟨g, cap, cur, e, h1, h2⟩⟩
  · exact ⟨h0, Or.inl h⟩
  · exact ⟨h0, Or.inr ⟨g, cap, cur, e, h1.mono hB, h2⟩⟩

theorem EnAt.tail {w : World} {g : Nat} {x : Ent} {m : List Ent} (h : EnAt w g 0 (x :: m)) : EnAt w g 9 m := by
  intro j hj k v hv
  have := h (j + 1) (by simpa using hj) k v (by simpa using hv)
  rw [show 9 + j * 9 + k = 0 + (j + 1) * 9 + k by omega]
  exact this

theorem RowA.form {w : World} {B : Nat} {T : TypeId} {v : Value} {l : List Ent} (h : RowA w B T v l) : ∃ ad c, v = .slice ad l.length c := by
  obtain ⟨ad, c, e, _⟩ := h
  exact ⟨ad, c, e⟩

/-- A row of which some entries are dropped at its end. -/
theorem RowE.shorter {w : World} {B g n c : Nat} {T : TypeId} {l m : List Ent} (h : RowE w B T (.slice (some ⟨g, 0, none⟩) n c) (l ++ m)) : RowE w B T (.slice (some ⟨g, 0, none⟩) l.length c) l := by
  rcases h with ⟨h0, ⟨e, _⟩ | ⟨g', cap, cur, e, h1, h2, h3, h4, h5, h6⟩⟩
  · cases e
  · injection e with e1 e2 e3
    cases e1
    subst e3
    refine ⟨enR_len l, Or.inr ⟨g, c, cur, rfl, h1, h2, ?_, h4, h5, ?_⟩⟩
    · rw [List.length_append] at h3; omega
    · rw [enR_append, List.length_append] at h6
      have h7 := congrArg (List.take (l.length * 9)) h6
      rw [List.take_take, List.take_left' (enR_len l), Nat.min_eq_left (Nat.mul_le_mul_right 9 (Nat.le_add_right _ _))] at h7
      exact h7

/-! ## Operations -/
variable {T S : TypeId}

/-- What the type of entries is. -/
structure EnT (T S : TypeId) : Prop where
  info : (Try.prog.info? T).map (fun i => (i.zero, i.size, i.bytes)) = some (some (.agg (enC zEnt)), 9, 32)
  slc : Try.prog.underlying S = some (.slice T)

theorem zero_en (n : Nat) : ∀ u ∈ (Builtin.zeroCells (Value.agg (enC zEnt)).cells n).toList, u.oneCell' = true := by
  intro u hu
  unfold Builtin.zeroCells at hu
  rw [Array.toList_map] at hu
  obtain ⟨i, _, rfl⟩ := List.mem_map.1 hu
  have hs : (Value.agg (enC zEnt)).cells = enC zEnt := by rfl
  have hz : (enC zEnt).size = 9 := by rfl
  rw [hs, hz]
  have hi : i % 9 < 9 := Nat.mod_lt _ (by decide)
  have : i % 9 = 0 ∨ i % 9 = 1 ∨ i % 9 = 2 ∨ i % 9 = 3 ∨ i % 9 = 4 ∨ i % 9 = 5 ∨ i % 9 = 6 ∨ i % 9 = 7 ∨ i % 9 = 8 := by omega
  rcases this with e | e | e | e | e | e | e | e | e <;> rw [e] <;> rfl

theorem zero_len (n : Nat) : (Builtin.zeroCells (Value.agg (enC zEnt)).cells n).toList.length = n * 9 := by
  have hs : (Value.agg (enC zEnt)).cells.size = 9 := by rfl
  unfold Builtin.zeroCells
  simp [hs]

theorem en_zero (hT : EnT T S) (w : World) : (zeroValue T).run Try.prog w = .ok (.agg (enC zEnt)) w := by
  have h := hT.info
  cases hi : Try.prog.info? T with
  | none => rw [hi] at h; cases h
  | some i =>
    rw [hi] at h
    simp only [Option.map_some, Option.some.injEq, Prod.mk.injEq] at h
    simp [zeroValue, typeInfo, hi, h.1]

theorem run_clear_en (hT : EnT T S) (w : World) (ty : TypeId) (g k n c : Nat) (C : Array Value) (hB : Blk w g T C) (hn : 0 < n) (hfit : k + n * 9 ≤ C.size) :
    ∃ C', (Builtin.clear_ #[S] ty #[.slice (some ⟨g, k, none⟩) n c]).run Try.prog w = .ok (.tuple #[]) (w.setRow g C') ∧ C'.size = C.size ∧ C'.toList.take k = C.toList.take k := by
  have h2 := run_storeCells_at (P := Try.prog) g k T (Builtin.zeroCells (Value.agg (enC zEnt)).cells n).toList 0 C w hB (by rw [zero_len]; simpa using hfit) (zero_en n)
  have hz := en_zero hT w
  have hl := zero_len n
  obtain ⟨m, rfl⟩ : ∃ m, n = m + 1 := ⟨n - 1, by omega⟩
  simp only [Nat.add_zero] at h2
  refine ⟨(C.toList.take k ++ (Builtin.zeroCells (Value.agg (enC zEnt)).cells (m + 1)).toList ++ C.toList.drop (k + (Builtin.zeroCells (Value.agg (enC zEnt)).cells (m + 1)).toList.length)).toArray, ?_, ?_, ?_⟩
  · simp [Builtin.clear_, run_underlying hT.slc, hz] at h2 ⊢
    simp [h2]
  · have h3 : C.toList.length = C.size := Array.length_toList
    simp only [List.size_toArray, List.length_append, List.length_take, List.length_drop, hl, h3]
    omega
  · rw [List.append_assoc, List.take_left' (by rw [List.length_take, Array.length_toList]; omega)]

theorem clear_en {ops : Array Oper} {rest : List Oper} {o : Oper} {a : Act} {w : World} {Q : Exit → Act → World → Prop} {x : Operand} {g k n c : Nat} {C : Array Value} (hT : EnT T S) (hg : o.guard = none)
    (ho : o.op = .call { callee := .builtin .clear, args := #[x], argTypes := #[S] }) (hx : a.eval x = .slice (some ⟨g, k, none⟩) n c) (hB : Blk w g T C) (hn : 0 < n) (hfit : k + n * 9 ≤ C.size)
    (h : ∀ w' C', Blk w' g T C' → C'.size = C.size → C'.toList.take k = C.toList.take k → w.grownBy w' (some g) → wpList Try.prog ops Q rest (a.put o.dst (.tuple #[])) w') : wpList Try.prog ops Q (o :: rest) a w :=
  wpList_plain hg fun K hK => by
    obtain ⟨C', hr, h1, h2⟩ := run_clear_en hT w o.type g k n c C hB hn hfit
    have hgr : w.grownBy (w.setRow g C') (some g) := ⟨rfl, rfl, rfl, by simp, fun j _ hj => setRow_other w g j C' (by intro e; subst e; exact hj rfl)⟩
    unfold Oper.wp execOp
    simp only [ho, resolve, invoke, builtin, Sem.run_bind, Sem.run_pure, Result.andThen_ok, List.map_toArray, List.map_cons, List.map_nil, hx, hr]
    exact hK _ _ (h _ _ (hB.setRow C') h1 h2 hgr)

/-- What lies behind is no longer of it. -/
theorem RowE.cut {w : World} {B g n c : Nat} {T : TypeId} {F R : List Ent} (h : RowE w B T (.slice (some ⟨g, 0, none⟩) n c) (F ++ R)) : ∃ C, Blk w g T C ∧ F.length * 9 + R.length * 9 ≤ C.size ∧ Own B g ∧ F.length + R.length ≤ c ∧ c ≤ maxLen ∧
    ∀ w' C', Blk w' g T C' → C'.size = C.size → C'.toList.take (F.length * 9) = C.toList.take (F.length * 9) → RowE w' B T (.slice (some ⟨g, 0, none⟩) F.length c) F := by
  have h' := h.shorter
  rcases h with ⟨h0, ⟨e, _⟩ | ⟨g', cap, cur, e, h1, h2, h3, h4, h5, h6⟩⟩
  · cases e
  · injection e with e1 e2 e3
    cases e1
    subst e3
    rw [List.length_append] at h3
    refine ⟨cur, h2, by omega, h1, h3, h4, fun w' C' hb hs ht => ?_⟩
    rcases h' with ⟨k0, ⟨e, _⟩ | ⟨g', cap', cur', e, k1, k2, k3, k4, k5, k6⟩⟩
    · cases e
    · injection e with e1 e2 e3
      cases e1
      subst e3
      have hc : cur' = cur := by
        have e : some (Obj.cells cur' T (0, 0)) = some (Obj.cells cur T (0, 0)) := k2.symm.trans h2
        injection e with e
        injection e
      subst hc
      exact ⟨k0, Or.inr ⟨_, _, C', rfl, k1, hb, k3, k4, hs.trans k5, ht.trans k6⟩⟩

theorem take_mid {α : Type} {cur p q q' r : List α} {n : Nat} (h : cur.take n = p ++ q ++ r) (hq : q'.length = q.length) (hn : n = p.length + q.length + r.length) (k : Nat) (hk : k = p.length) : (cur.take k ++ q' ++ cur.drop (k + q'.length)).take n = p ++ q' ++ r := by
  subst hk
  obtain ⟨rest, hc⟩ : ∃ rest, cur = (p ++ q ++ r) ++ rest := ⟨cur.drop n, by rw [← h, List.take_append_drop]⟩
  subst hc
  have e1 : ((p ++ q ++ r) ++ rest).take p.length = p := by rw [List.append_assoc, List.append_assoc, List.take_left]
  have e2 : ((p ++ q ++ r) ++ rest).drop (p.length + q'.length) = r ++ rest := by
    rw [hq, ← List.length_append, List.append_assoc, List.drop_left]
  rw [e1, e2, ← List.append_assoc]
  exact List.take_left' (by simp only [List.length_append]; omega)

/-- One of its entries is stored. -/
theorem RowE.store {w : World} {B g n c : Nat} {T : TypeId} {F R : List Ent} {y : Ent} (x : Ent) (h : RowE w B T (.slice (some ⟨g, 0, none⟩) n c) (F ++ y :: R)) : ∃ C, Blk w g T C ∧ F.length * 9 + 9 ≤ C.size ∧ Own B g ∧
    ∀ w', Blk w' g T (C.toList.take (F.length * 9) ++ (enC x).toList ++ C.toList.drop (F.length * 9 + 9)).toArray → RowE w' B T (.slice (some ⟨g, 0, none⟩) n c) (F ++ x :: R) := by
  rcases h with ⟨h0, ⟨e, _⟩ | ⟨g', cap, cur, e, h1, h2, h3, h4, h5, h6⟩⟩
  · cases e
  · injection e with e1 e2 e3
    cases e1
    subst e3
    have hl : (F ++ y :: R).length = (F ++ x :: R).length := by simp
    have hl2 : (F ++ y :: R).length = F.length + 1 + R.length := by simp; omega
    refine ⟨cur, h2, by omega, h1, fun w' hb => ?_⟩
    refine ⟨by rw [← hl]; exact enR_len _ |>.trans (by rw [hl]), Or.inr ⟨_, _, _, by rw [← hl, e2], h1, hb, by rw [← hl]; exact h3, h4, ?_, ?_⟩⟩
    · rw [← h5]
      have h8 : cur.toList.length = cur.size := Array.length_toList
      have h9 := enC_len x
      simp only [List.size_toArray, List.length_append, List.length_take, List.length_drop, h8, h9]
      omega
    · rw [enR_append, enR_cons, ← List.append_assoc] at h6 ⊢
      have h9 := enC_len x
      have h10 := enC_len y
      have h11 := enR_len F
      have h12 := enR_len R
      have := take_mid (q' := (enC x).toList) h6 (by rw [h9, h10]) (by omega) (F.length * 9) h11.symm
      rw [h9] at this
      rw [← hl]
      exact this

theorem step_append_in {ops : Array Oper} {o : Oper} {a : Act} {w : World} {K : Act → World → Prop} {Q : Exit → Act → World → Prop} {E : Prop} (hT : EnT T S)
    (hg : o.guard = none) (s x : Operand) (hop : o.op = Op.call { callee := Callee.builtin Builtin.append, args := #[s, x], argTypes := #[S, S] })
    (g n cap : Nat) (C : Array Value) (hs : a.eval s = .slice (some ⟨g, 0, none⟩) n cap)
    (ad : Addr) (m c : Nat) (news : List Value) (hx : a.eval x = .slice (some ad) m c) (hn : news.length = m * 9) (hc : ∀ j u, news[j]? = some u → w.cell? (ad.add j) = some u) (h1c : ∀ u ∈ news, u.oneCell' = true)
    (hroom : n + m ≤ cap) (hB : Blk w g T C) (hfit : n * 9 + m * 9 ≤ C.size)
    (hK : ∀ w', Blk w' g T (C.toList.take (n * 9) ++ news ++ C.toList.drop (n * 9 + m * 9)).toArray → w.grownBy w' (some g) → K (a.put o.dst (.slice (some ⟨g, 0, none⟩) (n + m) cap)) w') :
    if Region.wanted o (yielded ops a.tmps) = true then Oper.wp Try.prog o a w K Q else E := by
  have hw : Region.wanted o (yielded ops a.tmps) = true := by simp [Region.wanted, hg]
  rw [if_pos hw]
  obtain ⟨i, hi, hz0, hz1, hz2⟩ := info_parts hT.info
  have hrun : (Builtin.append_ #[S, S] o.type #[.slice (some ⟨g, 0, none⟩) n cap, .slice (some ad) m c]).run Try.prog w = .ok (.slice (some ⟨g, 0, none⟩) (n + m) cap) (w.setRow g (C.toList.take (n * 9) ++ news ++ C.toList.drop (n * 9 + m * 9)).toArray) := by
    have hfc := run_firstCells_some (P := Try.prog) w i.size m ad m c news (by rw [hn, hz1]) hc
    have hst := run_storeCells_at (P := Try.prog) g (n * i.size) T news 0 C w hB (by rw [hn, hz1]; simpa using hfit) h1c
    simp only [Nat.add_zero, hn, hz1] at hst hfc
    simp [Builtin.append_, run_underlying hT.slc, sizeOf, typeInfo, hi, Builtin.lenOf, hroom, hz1, hfc, Addr.add_lit, hst]
  have hgr : w.grownBy (w.setRow g (C.toList.take (n * 9) ++ news ++ C.toList.drop (n * 9 + m * 9)).toArray) (some g) := ⟨rfl, rfl, rfl, by simp, fun j _ hj => setRow_other w g j _ (by intro e; subst e; exact hj rfl)⟩
  unfold Oper.wp execOp
  simp only [hop, resolve, invoke, builtin, Sem.run_bind, Sem.run_pure, Result.andThen_ok, List.map_toArray, List.map_cons, List.map_nil, hs, hx, hrun]
  exact hK _ (hB.setRow _) hgr

theorem fill_en (v : Ent) : Instr.fill (fun i => some (i * 9, 9)) ((Array.range (1 * 9)).map ((Value.agg (enC zEnt)).cells[· % (Value.agg (enC zEnt)).cells.size]!)) [(0, .agg (enC v))] = some (enC v) := by kernel_rfl

/-- A slice of one alone. -/
theorem slice_en {o : Oper} {a : Act} {w : World} {K : Act → World → Prop} {Q : Exit → Act → World → Prop} {x : Operand} (hT : EnT T S) (y : Ent) (ho : o.op = .buildSlice S 1 #[(0, x)]) (hx : a.eval x = .agg (enC y))
    (h : ∀ w1, Blk w1 w.heap.size T (enC y) → Below w.heap.size w w1 → w.heap.size < w1.heap.size → K (a.put o.dst (.slice (some ⟨w.heap.size, 0, none⟩) 1 1)) w1) : Oper.wp Try.prog o a w K Q := by
  obtain ⟨i0, hi, hz0, hz1, hz2⟩ := info_parts hT.info
  refine wp_buildSlice S T 1 _ ho (enC y) i0 (.agg (enC zEnt)) hT.slc hi hz0 (by rw [hz1]; decide) (by rw [hz1]; decide) (by rw [hz1]; simp only [List.map_toArray, List.map_cons, List.map_nil, hx]; exact fill_en y) (h _ (Blk.new w _ _) ((Below.refl _ _).alloc (Nat.le_refl _) _) (Blk.new w _ _).lt)

theorem sliceL_en {ops : Array Oper} {rest : List Oper} {o : Oper} {a : Act} {w : World} {Q : Exit → Act → World → Prop} {x : Operand} (hT : EnT T S) (y : Ent) (hg : o.guard = none) (ho : o.op = .buildSlice S 1 #[(0, x)]) (hx : a.eval x = .agg (enC y))
    (h : ∀ w1, Blk w1 w.heap.size T (enC y) → Below w.heap.size w w1 → w.heap.size < w1.heap.size → wpList Try.prog ops Q rest (a.put o.dst (.slice (some ⟨w.heap.size, 0, none⟩) 1 1)) w1) : wpList Try.prog ops Q (o :: rest) a w :=
  wpList_plain hg fun _ hK => slice_en hT y ho hx fun w1 hB hb hs => hK _ _ (h w1 hB hb hs)

theorem RowE.own {w : World} {B : Nat} {v : Value} {l : List Ent} (h : RowE w B T v l) : v.ownBlock = none ∨ ∃ g C, v.ownBlock = some g ∧ Own B g ∧ Blk w g T C := by
  rcases h.2 with ⟨e, _⟩ | ⟨g, cap, cur, e, h1, h2, _⟩
  · subst e; exact Or.inl rfl
  · subst e; exact Or.inr ⟨g, cur, rfl, h1, h2⟩

theorem RowE.grown {w w' : World} {B : Nat} {v : Value} {l : List Ent} (h : RowE w B T v l) (hg : w.grownBy w' v.ownBlock) : Lx B [T] w w' := by
  rcases h.own with e | ⟨g, C, e, h1, h2⟩
  · rw [e] at hg
    exact Lx.of ⟨hg.os, hg.tape, hg.output, hg.size, fun k hk => hg.block k hk (by simp)⟩
  · rw [e] at hg
    exact (Lx.refl B [T] w).grown hg h1 List.mem_cons_self h2

/-- One comes behind. -/
theorem append_en {o : Oper} {a : Act} {w : World} {K : Act → World → Prop} {Q : Exit → Act → World → Prop} {s x : Operand} {B G : Nat} {v : Value} {l : List Ent} (hT : EnT T S) (y : Ent)
    (ho : o.op = .call { callee := .builtin .append, args := #[s, x], argTypes := #[S, S] }) (hs : a.eval s = v) (hx : a.eval x = .slice (some ⟨G, 0, none⟩) 1 1)
    (hO : RowE w B T v l) (hG : Blk w G T (enC y)) (hlen : l.length ≤ 100000) (hbase : Zone.up B ≤ w.heap.size)
    (h : ∀ v' w', RowE w' B T v' (l ++ [y]) → Lx B [T] w w' → K (a.put o.dst v') w') : Oper.wp Try.prog o a w K Q := by
  obtain ⟨i0, hi, hz0, hz1, hz2⟩ := info_parts hT.info
  have hnews : ∀ (j : Nat) u, (enC y).toList[j]? = some u → w.cell? ((⟨G, 0, none⟩ : Addr).add j) = some u := fun j u hu => by
    rw [Addr.add_lit, Nat.zero_add]
    exact hG.cv j u (by simpa using hu)
  have hgr := fun w' hg => hO.grown (w' := w') hg
  refine wp_append_lies w s x _ ho B T i0 (.agg (enC zEnt)) 9 32 hT.slc hi hz0 hz1 hz2 rfl (by decide) v l.length (enR l) hs hO.lib ⟨G, 0, none⟩ 1 1 (enC y).toList hx rfl hnews (enC_cells y) (by decide) (by unfold maxLen; omega) (by omega) (Nat.le_trans (Zone.ge B) hbase) _ rfl ?_
  intro g' cap' w' hown2 hgrow hat hlt
  refine h _ _ (RowE.ofLib ?_ ?_) (hgr w' hgrow)
  · rw [enR_append, enR_one, List.length_append]
    exact hown2
  · rcases hat with q | q
    · rcases hO.own with e | ⟨g1, C1, e, h1, _⟩
      · rw [e] at q; cases q
      · rw [e] at q
        cases q
        exact h1.2
    · rw [q]; exact (Own.new hbase).2

theorem appendL_en {ops : Array Oper} {rest : List Oper} {o : Oper} {a : Act} {w : World} {Q : Exit → Act → World → Prop} {s x : Operand} {B G : Nat} {v : Value} {l : List Ent} (hT : EnT T S) (y : Ent) (hg : o.guard = none)
    (ho : o.op = .call { callee := .builtin .append, args := #[s, x], argTypes := #[S, S] }) (hs : a.eval s = v) (hx : a.eval x = .slice (some ⟨G, 0, none⟩) 1 1)
    (hO : RowE w B T v l) (hG : Blk w G T (enC y)) (hlen : l.length ≤ 100000) (hbase : Zone.up B ≤ w.heap.size)
    (h : ∀ v' w', RowE w' B T v' (l ++ [y]) → Lx B [T] w w' → wpList Try.prog ops Q rest (a.put o.dst v') w') : wpList Try.prog ops Q (o :: rest) a w :=
  wpList_plain hg fun _ hK => append_en hT y ho hs hx hO hG hlen hbase fun v' w' h1 h2 => hK _ _ (h v' w' h1 h2)

/-- One comes behind a slice that need not start where its block starts. -/
theorem appendA_en {ops : Array Oper} {rest : List Oper} {o : Oper} {a : Act} {w : World} {Q : Exit → Act → World → Prop} {s x : Operand} {B G : Nat} {v : Value} {l : List Ent} (hT : EnT T S) (y : Ent) (hg : o.guard = none)
    (ho : o.op = .call { callee := .builtin .append, args := #[s, x], argTypes := #[S, S] }) (hs : a.eval s = v) (hx : a.eval x = .slice (some ⟨G, 0, none⟩) 1 1)
    (g k c : Nat) (C : Array Value) (hv : v = .slice (some ⟨g, k, none⟩) l.length c) (hl : 0 < l.length) (hC : Blk w g T C) (hgB : Own B g) (hfit : k + c * 9 ≤ C.size) (hlc : l.length ≤ c) (hat : EnAt w g k l) (hG : Blk w G T (enC y)) (hlen : l.length ≤ 1000) (hc : c ≤ maxLen) (hbase : Zone.up B ≤ w.heap.size)
    (h : ∀ v' w', RowA w' B T v' (l ++ [y]) → Lx B [T] w w' → wpList Try.prog ops Q rest (a.put o.dst v') w') : wpList Try.prog ops Q (o :: rest) a w := by
  subst hv
  refine wpList_plain hg fun K hK => ?_
  obtain ⟨i, hi, hz0, hz1, hz2⟩ := info_parts hT.info
  have hnews : ∀ (j : Nat) u, (enC y).toList[j]? = some u → w.cell? ((⟨G, 0, none⟩ : Addr).add j) = some u := fun j u hu => by
    rw [Addr.add_lit, Nat.zero_add]
    exact hG.cv j u (by simpa using hu)
  by_cases hroom : l.length + 1 ≤ c
  · have h8 : C.toList.length = C.size := Array.length_toList
    have hrun : (Builtin.append_ #[S, S] o.type #[.slice (some ⟨g, k, none⟩) l.length c, .slice (some ⟨G, 0, none⟩) 1 1]).run Try.prog w = .ok (.slice (some ⟨g, k, none⟩) (l.length + 1) c) (w.setRow g (C.toList.take (k + l.length * 9) ++ (enC y).toList ++ C.toList.drop (k + l.length * 9 + 9)).toArray) := by
      have hfc := run_firstCells_some (P := Try.prog) w i.size 1 ⟨G, 0, none⟩ 1 1 (enC y).toList (by rw [enC_len, hz1]) hnews
      have hst := run_storeCells_at (P := Try.prog) g (k + l.length * i.size) T (enC y).toList 0 C w hC (by rw [enC_len, hz1]; omega) (enC_cells y)
      simp only [Nat.add_zero, enC_len, hz1] at hst hfc
      simp [Builtin.append_, run_underlying hT.slc, sizeOf, typeInfo, hi, Builtin.lenOf, hroom, hz1, hfc, Addr.add_lit]
      simp at hst
      rw [hst]
      rfl
    have hgr : w.grownBy (w.setRow g (C.toList.take (k + l.length * 9) ++ (enC y).toList ++ C.toList.drop (k + l.length * 9 + 9)).toArray) (some g) := ⟨rfl, rfl, rfl, by simp, fun j _ hj => setRow_other w g j _ (by intro e; subst e; exact hj rfl)⟩
    unfold Oper.wp execOp
    simp only [ho, resolve, invoke, builtin, Sem.run_bind, Sem.run_pure, Result.andThen_ok, List.map_toArray, List.map_cons, List.map_nil, hs, hx, hrun]
    refine hK _ _ (h _ _ ?_ ((Lx.refl B [T] w).grown hgr hgB List.mem_cons_self hC))
    have hB2 := hC.setRow (C.toList.take (k + l.length * 9) ++ (enC y).toList ++ C.toList.drop (k + l.length * 9 + 9)).toArray
    refine ⟨some ⟨g, k, none⟩, c, by rw [List.length_append]; rfl, by rw [List.length_append]; exact hroom, hc, Or.inr ⟨g, k, _, rfl, hgB, hB2, ?_⟩⟩
    intro j hj q u hu
    have hq : q < 9 := (Array.getElem?_eq_some_iff.1 hu).1
    have hj2 : j < l.length + 1 := by simpa using hj
    rw [hB2.c]
    simp only [List.getElem?_toArray]
    have hpre : (C.toList.take (k + l.length * 9)).length = k + l.length * 9 := by rw [List.length_take, h8]; omega
    by_cases hjl : j < l.length
    · rw [List.append_assoc, List.getElem?_append_left (by rw [hpre]; omega), List.getElem?_take_of_lt (by omega)]
      have hu2 : (enC l[j])[q]? = some u := by
        rw [List.getElem_append_left hjl] at hu
        exact hu
      have := hat j hjl q u hu2
      rw [hC.c] at this
      simpa using this
    · obtain rfl : j = l.length := by omega
      rw [List.append_assoc, List.getElem?_append_right (by rw [hpre]; omega), hpre, show k + l.length * 9 + q - (k + l.length * 9) = q by omega, List.getElem?_append_left (by rw [enC_len]; omega)]
      have hu2 : (enC y)[q]? = some u := by
        have e : (l ++ [y])[l.length]'hj = y := by simp
        rw [e] at hu
        exact hu
      simpa using hu2
  · have h63 : l.length + 1 ≤ maxLen := by unfold maxLen; omega
    obtain ⟨v', w', hr, hown, hgrow⟩ := run_append_arg_grows (P := Try.prog) w S o.type T i (.agg (enC zEnt)) 9 32 hT.slc hi hz0 hz1 hz2 rfl (by decide) ⟨g, k, none⟩ l.length c (enR l) (enR_len l) (enAt_news hat) ⟨G, 0, none⟩ 1 1 (enC y).toList (by rw [enC_len]) hnews (by omega) h63 (by omega)
    unfold Oper.wp execOp
    simp only [ho, resolve, invoke, builtin, Sem.run_bind, Sem.run_pure, Result.andThen_ok, List.map_toArray, List.map_cons, List.map_nil, hs, hx, hr]
    refine hK _ _ (h _ _ ?_ (Lx.of ⟨hgrow.os, hgrow.tape, hgrow.output, hgrow.size, fun j hj => hgrow.block j hj (by simp)⟩))
    have hR : RowE w' B T v' (l ++ [y]) := by
      have hl : w'.ownsRow w.heap.size T 9 v' (l ++ [y]).length (enR (l ++ [y])) := by
        rw [enR_append, enR_one, List.length_append]
        exact hown
      rcases hl with ⟨h0, q | ⟨g', cap, cur, e, h1, h2⟩⟩
      · exact ⟨h0, Or.inl q⟩
      · exact ⟨h0, Or.inr ⟨g', cap, cur, e, Own.new (Nat.le_trans hbase h1), h2⟩⟩
    exact hR.toA

end Go.Proofs.Ytdceggekhhflgaa
