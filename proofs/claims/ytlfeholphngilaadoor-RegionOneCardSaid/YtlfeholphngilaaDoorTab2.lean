/- A package variable that is an array of arrays of integers, as a row lists it. -/
import Derived.Lib.LaidTab
namespace Go.Proofs.YtlfeholphngilaaDoor
open Go.Lib
set_option linter.unusedVariables false

theorem cells_of_tab2 {H : Type} {enc : TypeId × Value → H} {P : Program} {w : World} {base : Nat} {sp : Nat → Bool} {held : Bool} {fuel : Nat} {t e e2 : TypeId} {n m : Nat} {k : IntKind} {cs : List Value} {zss : List (List Int)} {p : List MemPlace}
    (ht : P.underlying t = some (.array n e)) (he : P.underlying e = some (.array m e2)) (he2 : P.underlying e2 = some (.int k)) (hc2 : P.cellsOf e2 = 1) (hce : P.cellsOf e = m) (hct : P.cellsOf t = n * m)
    (h : DataW.trod enc P w base sp held fuel t cs = some (.agg (zss.map (tabData k)), p)) : ∀ (i : Nat) (row : List Int), zss[i]? = some row → (cs.drop (i * m)).take m = row.map fun z => Value.int k z := by
  intro i row hrow
  cases fuel with
  | zero => simp [DataW.trod] at h
  | succ fuel =>
    simp only [DataW.trod, ht, hce, hct] at h
    split at h
    · rename_i hl
      obtain ⟨xs, hm, hx⟩ := Option.map_eq_some_iff.1 h
      have hxs : xs.map (·.1) = zss.map fun z => (tabData k z : DataW H) := by
        have := congrArg Prod.fst hx
        simpa using this
      have hxl : xs.length = n := by simpa using mapM_length hm
      have hzl : zss.length = n := by
        have := congrArg List.length hxs
        simp at this
        omega
      have hi : i < n := by
        have := (List.getElem?_eq_some_iff.1 hrow).1
        omega
      obtain ⟨b, hb, hf⟩ := mapM_at hm i i (by simp [hi])
      have h2 : (xs.map (·.1))[i]? = some (tabData k row : DataW H) := by rw [hxs]; simp [hrow]
      rw [List.getElem?_map, hb] at h2
      have h3 : b.1 = tabData k row := Option.some.inj h2
      obtain ⟨b1, b2⟩ := b
      obtain rfl : b1 = tabData k row := h3
      exact cells_of_tab he he2 hc2 hce hf
    · cases h

/-- The variable's cells. -/
theorem tab2_of_head {P : Program} {W : World} {name : String} {k : IntKind} {zss : List (List Int)} {rest : List (String × DataW Unit)} {g : Nat} {t e e2 : TypeId} {n m : Nat}
    (hg : P.globalNamed name = some g) (hty : (P.globals[g]?).map (·.type) = some t) (ht : P.underlying t = some (.array n e)) (he : P.underlying e = some (.array m e2)) (he2 : P.underlying e2 = some (.int k)) (hc2 : P.cellsOf e2 = 1) (hce : P.cellsOf e = m) (hct : P.cellsOf t = n * m)
    (h : laidMet P ((name, .agg (zss.map (tabData k))) :: rest) W) : ∀ (i j : Nat) (row : List Int) (z : Int), zss[i]? = some row → row[j]? = some z → j < m → W.cell? ⟨g, i * m + j, none⟩ = some (.int k z) := by
  obtain ⟨ps, ⟨g', t', cs, fuel, p, q, hg', ht', hvar, hd, _, _⟩, _⟩ := h
  obtain rfl := Option.some.inj (hg.symm.trans hg')
  obtain rfl := Option.some.inj (hty.symm.trans ht')
  intro i j row z hrow hz hj
  have h1 := cells_of_tab2 ht he he2 hc2 hce hct hd i row hrow
  have h2 := congrArg (fun l => l[j]?) h1
  simp only [List.getElem?_take, if_pos hj, List.getElem?_drop, List.getElem?_map, hz, Option.map_some] at h2
  have h3 := World.var?_cell hg hvar (i * m + j)
  rw [h3]
  simpa using h2

end Go.Proofs.YtlfeholphngilaaDoor
