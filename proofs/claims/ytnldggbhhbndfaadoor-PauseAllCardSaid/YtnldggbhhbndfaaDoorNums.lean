/- Rows of numbers, and the numbers as bytes, two each. -/
import Derived.Test.YtnldggbhhbndfaaDoorBlk
import Derived.Test.YtnldggbhhbndfaaDoorPa
import Derived.Test.YtnldggbhhbndfaaDoorRefPaRight
import Derived.Test.YtnldggbhhbndfaaDoorPaRight
import Derived.Test.YtnldggbhhbndfaaDoorBy
import Derived.Test.YtnldggbhhbndfaaDoorMust
import Derived.Test.YtnldggbhhbndfaaDoorBe2
import Derived.Deep.AppendLies
import Derived.Test.YtnldggbhhbndfaaDoorBuild
namespace Go.Proofs.YtnldggbhhbndfaaDoor
open Go.RowKit
attribute [local go_sem ↓] Go.wp_at_zero Go.wp_at_succ
set_option linter.unusedSimpArgs false
set_option linter.unusedVariables false
set_option maxRecDepth 100000

/-- Block g begins with these numbers. -/
def IRow (w : World) (g : Nat) (l : List Int) : Prop := g < w.heap.size ∧ ∀ (j : Nat) v, l[j]? = some v → w.cell? ⟨g, j, none⟩ = some (.int .i64 v)
theorem IRow.below {w w' : World} {g : Nat} {l : List Int} (h : IRow w g l) (hb : Below w.heap.size w w') : IRow w' g l := by
  refine ⟨Nat.lt_of_lt_of_le h.1 hb.size, fun j v hv => ?_⟩
  have hc := h.2 j v hv
  have hk : w'.heap[g]? = w.heap[g]? := hb.block g h.1
  unfold World.cell? at hc ⊢
  simp only at hc ⊢
  rw [hk]
  exact hc
theorem IRow.belowAt {w w' : World} {g B : Nat} {l : List Int} (h : IRow w g l) (hb : Below B w w') (hg : g < B) : IRow w' g l := by
  refine ⟨Nat.lt_of_lt_of_le h.1 hb.size, fun j v hv => ?_⟩
  have hc := h.2 j v hv
  have hk : w'.heap[g]? = w.heap[g]? := hb.block g hg
  unfold World.cell? at hc ⊢
  simp only at hc ⊢
  rw [hk]
  exact hc
theorem IRow.new (w : World) (l : List Int) (T : TypeId) (C : Array Value) (hC : ∀ (j : Nat) v, l[j]? = some v → C[j]? = some (.int .i64 v)) : IRow (w.alloc (.cells C T)) w.heap.size l :=
  ⟨by simp, fun j v hv => (Blk.new w T C).cv j _ (hC j v hv)⟩
theorem IRow.own {w : World} {base g cap n : Nat} {T : TypeId} {l : List Int} {xs : List Value} (h : w.ownsRow base T 1 (.slice (some ⟨g, 0, none⟩) n cap) n xs) (hg : g < w.heap.size) (hx : xs = l.map fun v => .int .i64 v) : IRow w g l := by
  refine ⟨hg, fun j v hv => ?_⟩
  have h2 := h.cells (g := g) rfl j (.int .i64 v) (by rw [hx, List.getElem?_map, hv]; rfl)
  rwa [Addr.add_lit, Nat.zero_add] at h2

/-- Each number as two bytes. -/
def bwL (l : List Int) : List UInt8 := l.flatMap fun v => putL v.toNat 2
theorem bwL_len (l : List Int) : (bwL l).length = 2 * l.length := by
  induction l with
  | nil => rfl
  | cons v l ih => unfold bwL at ih ⊢; rw [List.flatMap_cons, List.length_append, ih, putL_length, List.length_cons]; omega
theorem bwL_take (l : List Int) (k : Nat) (v : Int) (h : l[k]? = some v) : bwL (l.take (k + 1)) = bwL (l.take k) ++ putL v.toNat 2 := by
  unfold bwL
  rw [List.take_add_one, h, List.flatMap_append]
  simp

/-- A message's numbers. -/
def paNums (p : Pa) : List Int := if p.pfc then [257, p.en, p.t 0, p.t 1, p.t 2, p.t 3, p.t 4, p.t 5, p.t 6, p.t 7] else [1, p.t 0]
theorem paNums_ok (p : Pa) (h : paRight p = true) : ∀ v ∈ paNums p, 0 ≤ v ∧ v ≤ 65535 := by
  unfold paRight okE at h
  simp only [Bool.and_eq_true, decide_eq_true_eq] at h
  have hT := (okT_iff p).1 h.1
  intro v hv
  unfold paNums at hv
  split at hv
  · simp only [List.mem_cons, List.not_mem_nil, or_false] at hv
    rcases hv with rfl | rfl | rfl | rfl | rfl | rfl | rfl | rfl | rfl | rfl
    · omega
    · omega
    · exact hT 0 (by decide)
    · exact hT 1 (by decide)
    · exact hT 2 (by decide)
    · exact hT 3 (by decide)
    · exact hT 4 (by decide)
    · exact hT 5 (by decide)
    · exact hT 6 (by decide)
    · exact hT 7 (by decide)
  · simp only [List.mem_cons, List.not_mem_nil, or_false] at hv
    rcases hv with rfl | rfl
    · omega
    · exact hT 0 (by decide)
/-- Its bytes. -/
def paL (p : Pa) : List UInt8 := bwL (paNums p)

theorem news_c8 {w : World} {P : Nat} {p : Pa} (h : Blk w P 54 (paC p)) : ∀ (j : Nat) u, (c8 p.t).toList[j]? = some u → w.cell? ((⟨P, 2, none⟩ : Addr).add j) = some u := by
  intro j u hu
  rw [Addr.add_lit, h.c (2 + j)]
  have hj : j < 8 := by
    rcases Nat.lt_or_ge j 8 with q | q
    · exact q
    · rw [List.getElem?_eq_none (by exact q)] at hu; cases hu
  have : j = 0 ∨ j = 1 ∨ j = 2 ∨ j = 3 ∨ j = 4 ∨ j = 5 ∨ j = 6 ∨ j = 7 := by omega
  rcases this with rfl | rfl | rfl | rfl | rfl | rfl | rfl | rfl <;> exact hu
theorem owns_two (w : World) (base : Nat) (T : TypeId) (x y : Value) (hb : base ≤ w.heap.size) : (w.alloc (.cells #[x, y] T)).ownsRow base T 1 (.slice (some ⟨w.heap.size, 0, none⟩) 2 2) 2 [x, y] :=
  ⟨rfl, Or.inr ⟨w.heap.size, 2, #[x, y], rfl, hb, heap_alloc_new w _, Nat.le_refl _, by unfold maxLen; omega, rfl, rfl⟩⟩
theorem Tryd.intParts : (Tryd.prog.info? 3).map (fun i => (i.zero, i.size, i.bytes)) = some (some (.int .i64 0), 1, 8) := by kernel_rfl
theorem must2 (v : Int) (h0 : 0 ≤ v) (h1 : v ≤ 65535) (w : World) : Calls Tryd.prog 32 #[.int .i64 v, .int .i64 2] w fun e w' => e = .returned (.string ⟨(putL v.toNat 2).toArray⟩) ∧ Below w.heap.size w w' := by
  obtain ⟨X, rfl⟩ := Int.eq_ofNat_of_zero_le h0
  exact must_fits X 2 w (by decide) (by decide) (by omega)

end Go.Proofs.YtnldggbhhbndfaaDoor
