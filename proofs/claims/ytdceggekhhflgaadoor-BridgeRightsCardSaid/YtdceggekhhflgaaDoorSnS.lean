/- Frames that are sent, as values: cells, rows of one's own. -/
import Derived.Test.YtdceggekhhflgaaDoorFr
import Derived.Test.YtdceggekhhflgaaDoorFrArg
import Derived.Test.YtdceggekhhflgaaDoorCells
import Derived.Test.YtdceggekhhflgaaDoorStOp
import Derived.Deep.AppendLies
import Derived.Deep.RegionHeld3
import Derived.Great.BuildSlice
namespace Go.Proofs.YtdceggekhhflgaaDoor
open Go.RowKit
attribute [local go_sem ↓] Go.wp_at_zero Go.wp_at_succ
set_option linter.unusedSimpArgs false
set_option linter.unusedVariables false
set_option maxRecDepth 100000

/-- A frame that is sent, and its port. -/
structure SnH where
  p : Int
  f : Fr

def zFr : Fr := ⟨fun _ => 0, fun _ => 0, none, [], 0, 0, 0, 0, 0, 0, 0, 0, ⟨#[]⟩⟩

instance : Inhabited SnH := ⟨⟨0, zFr⟩⟩

def zSnH : SnH := ⟨0, zFr⟩

def snC (h : SnH) : Array Value := #[.int .i64 h.p, .int .u8 (h.f.d 0), .int .u8 (h.f.d 1), .int .u8 (h.f.d 2), .int .u8 (h.f.d 3), .int .u8 (h.f.d 4), .int .u8 (h.f.d 5), .int .u8 (h.f.s 0), .int .u8 (h.f.s 1), .int .u8 (h.f.s 2), .int .u8 (h.f.s 3), .int .u8 (h.f.s 4), .int .u8 (h.f.s 5), .slice h.f.ta h.f.tl.length h.f.tc, .int .i64 h.f.k, .int .i64 h.f.t, .int .i64 h.f.da, .int .i64 h.f.sa, .int .i64 h.f.ct, .int .i64 h.f.ou, .int .i64 h.f.pi, .string h.f.bo]

def SnAt (w : World) (b o : Nat) (l : List SnH) : Prop := ∀ j (hj : j < l.length), CellsAt w b (o + j * 22) (snC l[j])

def SnIn (w : World) (a : Option Addr) (l : List SnH) : Prop := l = [] ∨ ∃ b o, a = some ⟨b, o, none⟩ ∧ b < w.heap.size ∧ SnAt w b o l

theorem SnAt.below {w w' : World} {b o D : Nat} {l : List SnH} (h : SnAt w b o l) (hb : Below D w w') (hB : b < D) : SnAt w' b o l := fun j hj => (h j hj).below hb hB

theorem SnIn.below {w w' : World} {a : Option Addr} {l : List SnH} (h : SnIn w a l) (hb : Below w.heap.size w w') : SnIn w' a l := by
  rcases h with h | ⟨b, o, h1, h2, h3⟩
  · exact Or.inl h
  · exact Or.inr ⟨b, o, h1, Nat.lt_of_lt_of_le h2 hb.size, fun j hj => (h3 j hj).below hb h2⟩

theorem SnIn.drew {w : World} {a : Option Addr} {l : List SnH} (h : SnIn w a l) : SnIn w.drew a l := h

theorem SnIn.at {w : World} {a : Option Addr} {l : List SnH} (h : SnIn w a l) {k : Nat} (hk : k < l.length) : ∃ b o, a = some ⟨b, o, none⟩ ∧ b < w.heap.size ∧ SnAt w b o l := by
  rcases h with rfl | h
  · simp at hk
  · exact h

/-- A list that lay somewhere ahead lies there still. -/
theorem SnIn.late {w0 w w' : World} {a : Option Addr} {l : List SnH} (h : SnIn w a l) (h0 : SnIn w0 a l) (hb : Below w0.heap.size w w') : SnIn w' a l := by
  rcases h with h | ⟨b, o, e1, e2, e3⟩
  · exact Or.inl h
  · rcases h0 with h0 | ⟨b0, o0, f1, f2, f3⟩
    · exact Or.inl h0
    · rw [e1] at f1
      cases f1
      exact Or.inr ⟨b, o, e1, Nat.lt_of_lt_of_le e2 hb.size, e3.below hb f2⟩



/-- The cells of frames, one behind the other. -/
def snR (l : List SnH) : List Value := l.flatMap fun v => (snC v).toList

theorem snR_cons (v : SnH) (l : List SnH) : snR (v :: l) = (snC v).toList ++ snR l := by simp [snR]

theorem snR_append (l m : List SnH) : snR (l ++ m) = snR l ++ snR m := by simp [snR]

theorem snR_one (v : SnH) : snR [v] = (snC v).toList := by simp [snR]

theorem snC_len (v : SnH) : (snC v).toList.length = 22 := rfl

theorem snR_len (l : List SnH) : (snR l).length = l.length * 22 := by
  induction l with
  | nil => rfl
  | cons v l ih => rw [snR_cons, List.length_append, ih, snC_len, List.length_cons]; omega

theorem snR_get : ∀ (l : List SnH) (j : Nat) (hj : j < l.length) (k : Nat), k < 22 → (snR l)[j * 22 + k]? = (snC l[j])[k]?
  | [], j, hj, _, _ => by simp at hj
  | v :: l, 0, _, k, hk => by
    rw [snR_cons, List.getElem?_append_left (by rw [snC_len]; omega)]
    simp
  | v :: l, j + 1, hj, k, hk => by
    have ih := snR_get l j (by simpa using hj) k hk
    rw [snR_cons, List.getElem?_append_right (by rw [snC_len]; omega), snC_len, show (j + 1) * 22 + k - 22 = j * 22 + k by omega, ih]
    rfl

theorem snC_cells (v : SnH) : ∀ u ∈ (snC v).toList, u.oneCell' = true := by
  intro u hu
  simp only [snC, List.mem_cons, List.not_mem_nil, or_false] at hu
  rcases hu with rfl | rfl | rfl | rfl | rfl | rfl | rfl | rfl | rfl | rfl | rfl | rfl | rfl | rfl | rfl | rfl | rfl | rfl | rfl | rfl | rfl | rfl <;> rfl

theorem snR_cells (l : List SnH) : ∀ u ∈ snR l, u.oneCell' = true := by
  intro u hu
  unfold snR at hu
  obtain ⟨v, _, hv⟩ := List.mem_flatMap.1 hu
  exact snC_cells v u hv

theorem snAt_news {w : World} {b o : Nat} {l : List SnH} (h : SnAt w b o l) : ∀ (q : Nat) u, (snR l)[q]? = some u → w.cell? ((⟨b, o, none⟩ : Addr).add q) = some u := by
  intro q u hu
  have hq : q < l.length * 22 := by
    rw [← snR_len]
    exact (List.getElem?_eq_some_iff.1 hu).1
  have hj : q / 22 < l.length := by omega
  have e : q = q / 22 * 22 + q % 22 := by omega
  rw [e, snR_get l (q / 22) hj (q % 22) (by omega)] at hu
  have := h (q / 22) hj (q % 22) u hu
  rw [e, Addr.add_lit, ← Nat.add_assoc]
  exact this

theorem sn_own {w : World} {base g cap n : Nat} {T : TypeId} {l : List SnH} (hn : n = l.length) (h : w.ownsRow base T 22 (.slice (some ⟨g, 0, none⟩) n cap) n (snR l)) : SnAt w g 0 l := by
  subst hn
  intro j hj k c hc
  have hk : k < 22 := (Array.getElem?_eq_some_iff.1 hc).1
  have h2 := h.cellAt (j * 22 + k) (by omega)
  rw [snR_get l j hj k hk, hc] at h2
  rw [Nat.zero_add]
  exact h2











theorem snR_snoc (l : List SnH) (x : SnH) : snR (l ++ [x]) = snR l ++ (snC x).toList := by rw [snR_append, snR_one]











theorem fill_sn (v : SnH) : Instr.fill (fun i => some (i * 22, 22)) ((Array.range (1 * 22)).map ((Value.agg (snC zSnH)).cells[· % (Value.agg (snC zSnH)).cells.size]!)) [(0, .agg (snC v))] = some (snC v) := by kernel_rfl









end Go.Proofs.YtdceggekhhflgaaDoor
