/- wire.Fits: rows of numbers. -/
import Derived.Test.YtdjljnpbnhampaaDoorFitP
import Derived.Test.YtdjljnpbnhampaaDoorBlk
import Derived.Test.YtdjljnpbnhampaaDoorBy
import Derived.Test.YtdjljnpbnhampaaDoorPut
namespace Go.Proofs.YtdjljnpbnhampaaDoor
open Go.RowKit
attribute [local go_sem ↓] Go.wp_at_zero Go.wp_at_succ
set_option linter.unusedSimpArgs false
set_option linter.unusedVariables false
set_option maxRecDepth 100000

/-- Block g begins with these numbers. -/
def IRow (w : World) (g : Nat) (l : List Int) : Prop := g < w.heap.size ∧ ∀ (j : Nat) v, l[j]? = some v → w.cell? ⟨g, j, none⟩ = some (.int .i64 v)

theorem IRow.belowAt {w w' : World} {g B : Nat} {l : List Int} (h : IRow w g l) (hb : Below B w w') (hg : g < B) : IRow w' g l := by
  refine ⟨Nat.lt_of_lt_of_le h.1 (Nat.le_trans (Nat.le_refl _) hb.size), fun j v hv => ?_⟩
  have hc := h.2 j v hv
  have hk : w'.heap[g]? = w.heap[g]? := hb.block g hg
  unfold World.cell? at hc ⊢
  simp only at hc ⊢
  rw [hk]
  exact hc

theorem IRow.below {w w' : World} {g : Nat} {l : List Int} (h : IRow w g l) (hb : Below w.heap.size w w') : IRow w' g l := h.belowAt hb h.1

theorem IRow.drew {w : World} {g : Nat} {l : List Int} (h : IRow w g l) : IRow w.drew g l := h

theorem IRow.new (w : World) (l : List Int) (T : TypeId) (C : Array Value) (hC : ∀ (j : Nat) v, l[j]? = some v → C[j]? = some (.int .i64 v)) : IRow (w.alloc (.cells C T)) w.heap.size l :=
  ⟨by simp, fun j v hv => (Blk.new w T C).cv j _ (hC j v hv)⟩

theorem IRow.new1 (w : World) (a : Int) (T : TypeId) : IRow (w.alloc (.cells #[.int .i64 a] T)) w.heap.size [a] :=
  IRow.new w _ T _ fun j v hv => by match j, hv with | 0, hv => cases hv; rfl

theorem IRow.new4 (w : World) (a b c d : Int) (T : TypeId) : IRow (w.alloc (.cells #[.int .i64 a, .int .i64 b, .int .i64 c, .int .i64 d] T)) w.heap.size [a, b, c, d] :=
  IRow.new w _ T _ fun j v hv => by match j, hv with | 0, hv | 1, hv | 2, hv | 3, hv => cases hv; rfl

theorem div_ne {v M : Int} (hM : 0 < M) (h : M ≤ v) : ¬ v / M = 0 := by
  intro q
  have h1 := Int.emod_lt_of_pos v hM
  have h2 := Int.mul_ediv_add_emod v M
  rw [q] at h2
  omega

/-- Whether it fits, as Put sees it. -/
theorem fit_put (n : Nat) (hn7 : n ≤ 7) (v : Int) (hb : i64R v) : ∃ X : Nat, IntKind.u64.wrap v = (X : Int) ∧
    ((fitI n v = true ∧ (((X : Int) / 2 ^ (8 * n) != 0) = false) ∧ decide (v < 0) = false) ∨ (fitI n v = false ∧ (((X : Int) / 2 ^ (8 * n) != 0) = true))) := by
  obtain ⟨hb0, hb1⟩ := hb
  have e : (2 : Int) ^ (8 * n) = 256 ^ n := by rw [Int.pow_mul]; rfl
  have hp : (256 : Int) ^ n ≤ 256 ^ 7 := by
    have h1 : 256 ^ n ≤ 256 ^ 7 := Nat.pow_le_pow_right (by decide) hn7
    have h2 : ((256 ^ n : Nat) : Int) = 256 ^ n := by simp
    omega
  have hp0 : (0 : Int) < 256 ^ n := Int.pow_pos (by decide)
  have hfit : fitI n v = (decide (0 ≤ v) && decide (v < 256 ^ n)) := rfl
  rw [e, IntKind.wrap_u64, hfit]
  clear hfit e
  generalize (256 : Int) ^ n = M at *
  by_cases h0 : 0 ≤ v
  · refine ⟨v.toNat, by omega, ?_⟩
    rw [show ((v.toNat : Nat) : Int) = v by omega, decide_eq_true h0]
    by_cases h1 : v < M
    · left
      rw [decide_eq_true h1, Int.ediv_eq_zero_of_lt h0 h1]
      exact ⟨rfl, rfl, decide_eq_false (by omega)⟩
    · right
      rw [decide_eq_false h1]
      refine ⟨rfl, ?_⟩
      rw [bne_iff_ne]
      intro q
      exact div_ne hp0 (by omega) q
  · refine ⟨(v + 18446744073709551616).toNat, by omega, Or.inr ?_⟩
    rw [decide_eq_false h0]
    refine ⟨rfl, ?_⟩
    rw [bne_iff_ne]
    intro q
    exact div_ne hp0 (by omega) q

theorem all_take {l : List Int} {n k : Nat} (h : ∀ v ∈ l.take k, fitI n v = true) {v : Int} (hv : l[k]? = some v) (hf : fitI n v = true) : ∀ v ∈ l.take (k + 1), fitI n v = true := by
  intro u hu
  rw [List.take_add_one, hv] at hu
  rcases List.mem_append.1 hu with q | q
  · exact h u q
  · simp at q
    rw [q]
    exact hf

set_option maxHeartbeats 1600000 in
/-- Fits, of numbers in memory. -/
theorem fits_any (n : Nat) (hn1 : 1 ≤ n) (hn7 : n ≤ 7) (l : List Int) (hl : l.length ≤ 1000) (hr : ∀ v ∈ l, i64R v) (g : Nat) (w : World) (h : IRow w g l) :
    Calls Tryd.prog 102 #[.int .i64 n, .slice (some ⟨g, 0, none⟩) l.length l.length] w fun e w' => e = .returned (.bool (l.all (fitI n))) ∧ Below w.heap.size w w' := by
  have HR := Lib.hid hr
  have HL := Lib.hid hl
  clear hr
  go_enter Tryd.func102, Tryd.ntmps102
  go_wp2_with fail
  go_loopw [6, 7, 8, 11] (fun a b c i wr => ∃ k : Nat, k ≤ l.length ∧ i = .int .i64 k ∧ (∀ v ∈ l.take k, fitI n v = true) ∧ Below w.heap.size w wr) (fun _ _ _ i _ => l.length - (intOf i).toNat)
  case atStart => exact ⟨0, by omega, rfl, by simp, Below.refl _ _⟩
  case round =>
    obtain ⟨k, hk, rfl, hall, hb⟩ := hrel
    by_cases hlt : k < l.length
    · obtain ⟨v, hv⟩ : ∃ v, l[k]? = some v := ⟨l[k], List.getElem?_eq_getElem hlt⟩
      have hc : wr.cell? ⟨g, k, none⟩ = some (.int .i64 v) := (h.below hb).2 k v hv
      obtain ⟨X, hX, hcs⟩ := fit_put n hn7 v (HR.out v (List.mem_of_getElem? hv))
      rcases hcs with ⟨hf, hq, hneg⟩ | ⟨hf, hq⟩
      · have HA := Lib.hid (all_take hall hv hf)
        clear hall hv
        go_wp2_with fail
        refine (put_fits X n _ hn1 (by omega) hq).mono ?_
        rintro e w' ⟨rfl, kb⟩
        go_wp2
        go_roundw
        case rel => exact ⟨k + 1, by omega, by go_num, HA.out, hb.trans (kb.mono hb.size)⟩
        case measure => simp [intOf]; omega
      · have HF : Hid (l.all (fitI n) = false) := by
          show _ = _
          rw [Bool.eq_false_iff]
          intro q
          rw [List.all_eq_true] at q
          have := q v (List.mem_of_getElem? hv)
          rw [hf] at this
          cases this
        clear hall hv
        go_wp2_with fail
        refine (put_full X n _ hn1 (by omega) hq).mono ?_
        rintro e w' ⟨rfl, rfl⟩
        go_wp2
        go_ret
        exact ⟨by rw [HF.out]; rfl, hb⟩
    · obtain rfl : k = l.length := by omega
      have HF : Hid (l.all (fitI n) = true) := by
        show _ = _
        rw [List.all_eq_true]
        rw [List.take_length] at hall
        exact hall
      clear hall
      go_wp2
      go_ret
      exact ⟨by rw [HF.out]; rfl, hb⟩

theorem fitsI1 (n : Nat) (hn1 : 1 ≤ n) (hn7 : n ≤ 7) (a : Int) (hr : i64R a) (g : Nat) (w : World) (h : IRow w g [a]) :
    Calls Tryd.prog 102 #[.int .i64 n, .slice (some ⟨g, 0, none⟩) 1 1] w fun e w' => e = .returned (.bool (fitI n a)) ∧ Below w.heap.size w w' := by
  have q := fits_any n hn1 hn7 [a] (by simp) (by simpa using hr) g w h
  rw [show [a].all (fitI n) = fitI n a by simp] at q
  exact q

theorem fits4 (n : Nat) (hn1 : 1 ≤ n) (hn7 : n ≤ 7) (a b c d : Int) (ha : i64R a) (hb : i64R b) (hc : i64R c) (hd : i64R d) (g : Nat) (w : World) (h : IRow w g [a, b, c, d]) :
    Calls Tryd.prog 102 #[.int .i64 n, .slice (some ⟨g, 0, none⟩) 4 4] w fun e w' => e = .returned (.bool (fitI n a && (fitI n b && (fitI n c && fitI n d)))) ∧ Below w.heap.size w w' := by
  have q := fits_any n hn1 hn7 [a, b, c, d] (by simp) (by intro v hv; simp only [List.mem_cons, List.not_mem_nil, or_false] at hv; rcases hv with rfl | rfl | rfl | rfl <;> assumption) g w h
  rw [show [a, b, c, d].all (fitI n) = (fitI n a && (fitI n b && (fitI n c && fitI n d))) by simp] at q
  exact q


end Go.Proofs.YtdjljnpbnhampaaDoor
