/- slices.Clone of vectors. -/
import Derived.Test.YtceiiolpggolbaaDoorBest
import Derived.Deep.AppendLies
import Derived.Deep.RegionHeld3
namespace Go.Proofs.YtceiiolpggolbaaDoor
open Go.RowKit
attribute [local go_sem ↓] Go.wp_at_zero Go.wp_at_succ
set_option linter.unusedSimpArgs false
set_option linter.unusedVariables false
set_option maxRecDepth 100000

/-- The cells of vectors, one behind the other. -/
def vsL (l : List Ve) : List Value := l.flatMap fun v => (veC v).toList
theorem vsL_cons (v : Ve) (l : List Ve) : vsL (v :: l) = (veC v).toList ++ vsL l := by simp [vsL]
theorem vsL_append (l m : List Ve) : vsL (l ++ m) = vsL l ++ vsL m := by simp [vsL]
theorem vsL_one (v : Ve) : vsL [v] = (veC v).toList := by simp [vsL]
theorem veC_len (v : Ve) : (veC v).toList.length = 21 := rfl
theorem vsL_len (l : List Ve) : (vsL l).length = l.length * 21 := by
  induction l with
  | nil => rfl
  | cons v l ih => rw [vsL_cons, List.length_append, ih, veC_len, List.length_cons]; omega
theorem vsL_get : ∀ (l : List Ve) (j : Nat) (hj : j < l.length) (k : Nat), k < 21 → (vsL l)[j * 21 + k]? = (veC l[j])[k]?
  | [], j, hj, _, _ => by simp at hj
  | v :: l, 0, _, k, hk => by
    rw [vsL_cons, List.getElem?_append_left (by rw [veC_len]; omega)]
    simp
  | v :: l, j + 1, hj, k, hk => by
    have ih := vsL_get l j (by simpa using hj) k hk
    rw [vsL_cons, List.getElem?_append_right (by rw [veC_len]; omega), veC_len, show (j + 1) * 21 + k - 21 = j * 21 + k by omega, ih]
    rfl
theorem vsL_cells (l : List Ve) : ∀ u ∈ vsL l, u.oneCell' = true := by
  intro u hu
  unfold vsL at hu
  obtain ⟨v, _, hv⟩ := List.mem_flatMap.1 hu
  simp only [veC, List.mem_cons, List.not_mem_nil, or_false] at hv
  rcases hv with rfl | rfl | rfl | rfl | rfl | rfl | rfl | rfl | rfl | rfl | rfl | rfl | rfl | rfl | rfl | rfl | rfl | rfl | rfl | rfl | rfl <;> rfl
theorem vesAt_news {w : World} {b o : Nat} {l : List Ve} (h : VesAt w b o l) : ∀ (q : Nat) u, (vsL l)[q]? = some u → w.cell? ((⟨b, o, none⟩ : Addr).add q) = some u := by
  intro q u hu
  have hq : q < l.length * 21 := by
    rw [← vsL_len]
    exact (List.getElem?_eq_some_iff.1 hu).1
  have hj : q / 21 < l.length := by omega
  have e : q = q / 21 * 21 + q % 21 := by omega
  rw [e, vsL_get l (q / 21) hj (q % 21) (by omega)] at hu
  have := h (q / 21) hj (q % 21) u hu
  rw [e, Addr.add_lit, ← Nat.add_assoc]
  exact this
theorem ves_own {w : World} {base g cap n : Nat} {T : TypeId} {l : List Ve} (hn : n = l.length) (h : w.ownsRow base T 21 (.slice (some ⟨g, 0, none⟩) n cap) n (vsL l)) : VesAt w g 0 l := by
  subst hn
  intro j hj k c hc
  have hk : k < 21 := (Array.getElem?_eq_some_iff.1 hc).1
  have h2 := h.cellAt (j * 21 + k) (by omega)
  rw [vsL_get l j hj k hk, hc] at h2
  rw [Nat.zero_add]
  exact h2

theorem Tryd.veParts : (Tryd.prog.info? 62).map (fun i => (i.zero, i.size, i.bytes)) = some (some (.agg (veC zVe)), 21, 88) := by kernel_rfl

set_option maxHeartbeats 3200000 in
theorem clone_any (base b o c : Nat) (l : List Ve) (w : World) (h : VesAt w b o l) (hb : b < w.heap.size) (h0 : 0 < l.length) (h30 : l.length ≤ 30) (hbs : base ≤ w.heap.size) :
    Calls Tryd.prog 36 #[.slice (some ⟨b, o, none⟩) l.length c] w fun e w' => ∃ g cap, e = .returned (.slice (some ⟨g, 0, none⟩) l.length cap) ∧ w'.ownsRow base 62 21 (.slice (some ⟨g, 0, none⟩) l.length cap) l.length (vsL l) ∧ g < w'.heap.size ∧ Below w.heap.size w w' := by
  obtain ⟨i0, hi, hz0, hz1, hz2⟩ := info_parts Tryd.veParts
  have hown := World.ownsRow_made (base := w.heap.size) (e := 62) (size := 21) w #[] 0 (Nat.le_refl _) (by unfold maxLen; omega) rfl
  have hat : VesAt (w.alloc (.cells #[] 62)) b o l := fun j hj => (h j hj).below ((Below.refl w.heap.size w).alloc (Nat.le_refl _) _) hb
  have hlv := vsL_len l
  have hnil : ∀ W, (binOp BinOp.eql 65 (.slice (some ⟨b, o, none⟩) l.length c) (.slice none 0 0)).run Tryd.prog W = .ok (.bool false) W := fun W => by kernel_rfl
  go_enter Tryd.func36, Tryd.ntmps36
  go_wp2_with (at_builtin; refine wpList_append_lies _ rfl _ _ _ rfl w.heap.size 62 i0 (.agg (veC zVe)) 21 88 Tryd.underlying65 hi hz0 hz1 hz2 rfl (by omega) (.slice (some ⟨w.heap.size, 0, none⟩) 0 0) 0 _ rfl hown ⟨b, o, none⟩ l.length c (vsL l) rfl hlv (vesAt_news hat) (vsL_cells l) h0 (by unfold maxLen; omega) (by omega) (by simp) (w.heap.size + 1) (by simp) ?_; intro g cap w5 hown5 hgrow5 hat5 hlt5)
  go_ret
  rw [Nat.zero_add, List.nil_append] at hown5
  have hB : Below w.heap.size w w5 := ((Below.refl w.heap.size w).alloc (Nat.le_refl _) (.cells #[] 62)).grown hgrow5 (by simp) (fun k hk => by simp [Value.ownBlock] at hk; omega)
  refine ⟨g, cap, rfl, ?_, hlt5, hB⟩
  obtain ⟨q0, q1⟩ := hown5
  refine ⟨q0, ?_⟩
  rcases q1 with q1 | ⟨g', cap', cur, e1, e2, e3⟩
  · exact Or.inl q1
  · exact Or.inr ⟨g', cap', cur, e1, Nat.le_trans hbs e2, e3⟩

end Go.Proofs.YtceiiolpggolbaaDoor
