/- wire.Fits: rows of numbers. -/
import Derived.Test.YtnlphldkdglofaaFitP
import Derived.Test.YtnlphldkdglofaaBlk
import Derived.Test.YtnlphldkdglofaaBy
import Derived.Test.YtnlphldkdglofaaPut
namespace Go.Proofs.Ytnlphldkdglofaa
open Go.RowKit
attribute [local go_sem ↓] Go.wp_at_zero Go.wp_at_succ
set_option linter.unusedSimpArgs false
set_option linter.unusedVariables false
set_option maxRecDepth 100000

/-- Block g begins with these numbers. -/
def IRow (w : World) (g : Nat) (l : List Int) : Prop := g < w.heap.size ∧ ∀ (j : Nat) v, l[j]? = some v → w.cell? ⟨g, j, none⟩ = some (.int .i64 v)

theorem IRow.belowAt {w w' : World} {g B : Nat} {l : List Int} (h : IRow w g l) (hb : Below B w w') (hg : g < B) : IRow w' g l := by
  refine ⟨Nat.lt_of_lt_of_le h.1 (Nat.le_trans (Nat.le_refl _) hb.size), fun j v hv => ?_⟩
  have hc := h.2 j v hv
  have hk : w'.heap[g]? = w.heap[g]? := hb.block g hg
  unfold World.cell? at hc ⊢
  simp only at hc ⊢
  rw [hk]
  exact hc

theorem IRow.below {w w' : World} {g : Nat} {l : List Int} (h : IRow w g l) (hb : Below w.heap.size w w') : IRow w' g l := h.belowAt hb h.1

theorem IRow.drew {w : World} {g : Nat} {l : List Int} (h : IRow w g l) : IRow w.drew g l := h

theorem IRow.new (w : World) (l : List Int) (T : TypeId) (C : Array Value) (hC : ∀ (j : Nat) v, l[j]? = some v → C[j]? = some (.int .i64 v)) : IRow (w.alloc (.cells C T)) w.heap.size l :=
  ⟨by simp, fun j v hv => (Blk.new w T C).cv j _ (hC j v hv)⟩

theorem IRow.new1 (w : World) (a : Int) (T : TypeId) : IRow (w.alloc (.cells #[.int .i64 a] T)) w.heap.size [a] :=
  IRow.new w _ T _ fun j v hv => by match j, hv with | 0, hv => cases hv; rfl

theorem IRow.new4 (w : World) (a b c d : Int) (T : TypeId) : IRow (w.alloc (.cells #[.int .i64 a, .int .i64 b, .int .i64 c, .int .i64 d] T)) w.heap.size [a, b, c, d] :=
  IRow.new w _ T _ fun j v hv => by match j, hv with | 0, hv | 1, hv | 2, hv | 3, hv => cases hv; rfl

theorem div_ne {v M : Int} (hM : 0 < M) (h : M ≤ v) : ¬ v / M = 0 := by
  intro q
  have h1 := Int.emod_lt_of_pos v hM
  have h2 := Int.mul_ediv_add_emod v M
  rw [q] at h2
  omega

/-- Whether it fits, as Put sees it. -/
theorem fit_put (n : Nat) (hn7 : n ≤ 7) (v : Int) (hb : i64R v) : ∃ X : Nat, IntKind.u64.wrap v = (X : Int) ∧
    ((fitI n v = true ∧ (((X : Int) / 2 ^ (8 * n) != 0) = false) ∧ decide (v < 0) = false) ∨ (fitI n v = false ∧ (((X : Int) / 2 ^ (8 * n) != 0) = true))) := by
  obtain ⟨hb0, hb1⟩ := hb
  have e : (2 : Int) ^ (8 * n) = 256 ^ n := by rw [Int.pow_mul]; rfl
  have hp : (256 : Int) ^ n ≤ 256 ^ 7 := by
    have h1 : 256 ^ n ≤ 256 ^ 7 := Nat.pow_le_pow_right (by decide) hn7
    have h2 : ((256 ^ n : Nat) : Int) = 256 ^ n := by simp
    omega
  have hp0 : (0 : Int) < 256 ^ n := Int.pow_pos (by decide)
  have hfit : fitI n v = (decide (0 ≤ v) && decide (v < 256 ^ n)) := rfl
  rw [e, IntKind.wrap_u64, hfit]
  clear hfit e
  generalize (256 : Int) ^ n = M at *
  by_cases h0 : 0 ≤ v
  · refine ⟨v.toNat, by omega, ?_⟩
    rw [show ((v.toNat : Nat) : Int) = v by omega, decide_eq_true h0]
    by_cases h1 : v < M
    · left
      rw [decide_eq_true h1, Int.ediv_eq_zero_of_lt h0 h1]
      exact ⟨rfl, rfl, decide_eq_false (by omega)⟩
    · right
      rw [decide_eq_false h1]
      refine ⟨rfl, ?_⟩
      rw [bne_iff_ne]
      intro q
      exact div_ne hp0 (by omega) q
  · refine ⟨(v + 18446744073709551616).toNat, by omega, Or.inr ?_⟩
    rw [decide_eq_false h0]
    refine ⟨rfl, ?_⟩
    rw [bne_iff_ne]
    intro q
    exact div_ne hp0 (by omega) q

theorem all_take {l : List Int} {n k : Nat} (h : ∀ v ∈ l.take k, fitI n v = true) {v : Int} (hv : l[k]? = some v) (hf : fitI n v = true) : ∀ v ∈ l.take (k + 1), fitI n v = true := by
  intro u hu
  rw [List.take_add_one, hv] at hu
  rcases List.mem_append.1 hu with q | q
  · exact h u q
  · simp at q
    rw [q]
    exact hf








end Go.Proofs.Ytnlphldkdglofaa
