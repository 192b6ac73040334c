/- 16.3, plainly: the fewest attributes that tell VIDs that rise. -/
import Derived.Test.YtdjljnpbnhampaaDoorMvGoes
import Derived.Test.YtdjljnpbnhampaaDoorMvEach
namespace Go.Proofs.YtdjljnpbnhampaaDoor
set_option linter.unusedVariables false

/-- One more event. -/
def packS (l : List Mv) (p : Pr) : List Mv :=
  match l.getLast? with
  | some a => if goesM a p.vid = true then l.dropLast ++ [⟨a.all, a.first, a.ev ++ [p.ev]⟩] else l ++ [⟨false, p.vid, [p.ev]⟩]
  | none => [⟨false, p.vid, [p.ev]⟩]

def packL (l : List Pr) : List Mv := l.foldl packS []

theorem packS_snoc (l : List Mv) (a : Mv) (p : Pr) : packS (l ++ [a]) p = if goesM a p.vid = true then l ++ [⟨a.all, a.first, a.ev ++ [p.ev]⟩] else l ++ [a] ++ [⟨false, p.vid, [p.ev]⟩] := by
  unfold packS
  rw [List.getLast?_append]
  simp

theorem packS_nil (p : Pr) : packS [] p = [⟨false, p.vid, [p.ev]⟩] := rfl

/-- A run of VIDs one behind the other. -/
def runV (v : Int) : List Int → List Pr
  | [] => []
  | e :: l => ⟨v, e⟩ :: runV (v + 1) l

/-- A run that goes on behind the last attribute. -/
theorem run_go : ∀ (es : List Int) (l : List Mv) (a : Mv) (v : Int), a.first + (a.ev.length : Int) = v → 0 < a.ev.length → a.ev.length ≤ 400 →
    ((runV v es).foldl packS (l ++ [a])).length ≤ l.length + 1 + (a.ev.length + es.length - 1) / 400
  | [], l, a, v, h1, h2, h3 => by
    simp only [runV, List.foldl_nil, List.length_append, List.length_cons, List.length_nil]
    omega
  | e :: es, l, a, v, h1, h2, h3 => by
    simp only [runV, List.foldl_cons]
    rw [packS_snoc]
    have hg : (a.first + (a.ev.length : Int) == v) = true := by rw [beq_iff_eq]; exact h1
    by_cases hc : a.ev.length < 400
    · rw [if_pos (by unfold goesM; rw [hg, decide_eq_true hc]; rfl)]
      have ih := run_go es l ⟨a.all, a.first, a.ev ++ [e]⟩ (v + 1) (by simp only [List.length_append, List.length_cons, List.length_nil]; omega) (by simp) (by simp only [List.length_append, List.length_cons, List.length_nil]; omega)
      simp only [List.length_append, List.length_cons, List.length_nil] at ih ⊢
      omega
    · rw [if_neg (by unfold goesM; rw [decide_eq_false hc, Bool.and_false]; decide)]
      have ih := run_go es (l ++ [a]) ⟨false, v, [e]⟩ (v + 1) (by simp) (by simp) (by simp)
      simp only [List.length_append, List.length_cons, List.length_nil] at ih ⊢
      omega

/-- A run of at most 400 makes at most one more. -/
theorem run_le (es : List Int) (he : es.length ≤ 400) (l : List Mv) (v : Int) (hl : ∀ a ∈ l, 0 < a.ev.length ∧ a.ev.length ≤ 400) : ((runV v es).foldl packS l).length ≤ l.length + 1 := by
  cases es with
  | nil => simp [runV]
  | cons e es =>
    rcases List.eq_nil_or_concat l with rfl | ⟨l0, a, rfl⟩
    · simp only [runV, List.foldl_cons, packS_nil]
      have ih := run_go es [] ⟨false, v, [e]⟩ (v + 1) (by simp) (by simp) (by simp)
      simp only [List.nil_append, List.length_cons, List.length_nil] at ih he ⊢
      omega
    · have ha := hl a (by simp)
      by_cases hg : a.first + (a.ev.length : Int) = v
      · have ih := run_go (e :: es) l0 a v hg ha.1 ha.2
        simp only [List.concat_eq_append, List.length_append, List.length_cons, List.length_nil] at ih he ⊢
        omega
      · simp only [runV, List.foldl_cons, List.concat_eq_append]
        rw [packS_snoc, if_neg (by unfold goesM; rw [beq_eq_false_iff_ne.2 hg, Bool.false_and]; decide)]
        have ih := run_go es (l0 ++ [a]) ⟨false, v, [e]⟩ (v + 1) (by simp) (by simp) (by simp)
        simp only [List.length_append, List.length_cons, List.length_nil] at ih he ⊢
        omega

/-- What is packed has one to 400 events each. -/
theorem packS_ok (l : List Mv) (p : Pr) (hl : ∀ a ∈ l, 0 < a.ev.length ∧ a.ev.length ≤ 400) : ∀ a ∈ packS l p, 0 < a.ev.length ∧ a.ev.length ≤ 400 := by
  rcases List.eq_nil_or_concat l with rfl | ⟨l0, b, rfl⟩
  · rw [packS_nil]
    intro a ha
    rw [List.mem_singleton.1 ha]
    exact ⟨by simp, by simp⟩
  · rw [List.concat_eq_append] at hl ⊢
    rw [packS_snoc]
    have hb := hl b (by simp)
    split
    · rename_i hg
      have hc : b.ev.length < 400 := by
        unfold goesM at hg
        simp only [Bool.and_eq_true, decide_eq_true_eq] at hg
        exact hg.2
      intro a ha
      rcases List.mem_append.1 ha with q | q
      · exact hl a (by simp [q])
      · rw [List.mem_singleton.1 q]
        exact ⟨by simp, by simp only [List.length_append, List.length_cons, List.length_nil]; omega⟩
    · intro a ha
      rcases List.mem_append.1 ha with q | q
      · exact hl a q
      · rw [List.mem_singleton.1 q]
        exact ⟨by simp, by simp⟩

theorem fold_ok : ∀ (ps : List Pr) (l : List Mv), (∀ a ∈ l, 0 < a.ev.length ∧ a.ev.length ≤ 400) → ∀ a ∈ ps.foldl packS l, 0 < a.ev.length ∧ a.ev.length ≤ 400
  | [], l, hl => hl
  | p :: ps, l, hl => fold_ok ps (packS l p) (packS_ok l p hl)

theorem prsF_run (f : Int) : ∀ (es : List Int) (i : Nat), -100000 ≤ f → f + (i : Int) + es.length ≤ 100000 → prsF f i es = runV (f + (i : Int)) es
  | [], i, _, _ => rfl
  | e :: es, i, h1, h2 => by
    have h2' : f + (i : Int) + ((es.length : Int) + 1) ≤ 100000 := by simpa using h2
    rw [prsF, runV, prsF_run f es (i + 1) h1 (by omega)]
    rw [show IntKind.i64.wrap (f + (i : Int)) = f + (i : Int) by rw [IntKind.wrap_i64] <;> omega, show f + ((i + 1 : Nat) : Int) = f + (i : Int) + 1 by omega]

/-- Nobody tells them by fewer. -/
theorem pack_each : ∀ (A : List Mv) (l : List Mv), (∀ x ∈ A, okMv x = true) → (∀ a ∈ l, 0 < a.ev.length ∧ a.ev.length ≤ 400) → ((eachL A).foldl packS l).length ≤ l.length + A.length
  | [], l, _, _ => by simp [eachL]
  | x :: A, l, hA, hl => by
    have hx := hA x (by simp)
    have hf := okMv_first hx
    have hn := okMv_len hx
    rw [show eachL (x :: A) = prsF x.first 0 x.ev ++ eachL A from rfl, List.foldl_append, prsF_run x.first x.ev 0 (by omega) (by omega)]
    have h1 := run_le x.ev hn l (x.first + ((0 : Nat) : Int)) hl
    have h2 := pack_each A ((runV (x.first + ((0 : Nat) : Int)) x.ev).foldl packS l) (fun y hy => hA y (by simp [hy])) (fold_ok _ l hl)
    rw [List.length_cons]
    omega

/-- What is packed tells what it was packed of. -/
theorem eachL_one (x : Mv) : eachL [x] = prsF x.first 0 x.ev := by simp [eachL]

theorem packS_tells (l : List Mv) (p : Pr) (hp : -100000 ≤ p.vid ∧ p.vid ≤ 100000) : eachL (packS l p) = eachL l ++ [p] := by
  have hw : IntKind.i64.wrap p.vid = p.vid := by rw [IntKind.wrap_i64] <;> omega
  have h1 : prsF p.vid 0 [p.ev] = [p] := by
    simp only [prsF]
    rw [show p.vid + ((0 : Nat) : Int) = p.vid by omega, hw]
  rcases List.eq_nil_or_concat l with rfl | ⟨l0, b, rfl⟩
  · rw [packS_nil, eachL_one, h1]
    rfl
  · rw [List.concat_eq_append, packS_snoc]
    split
    · rename_i hg
      have hv : b.first + (b.ev.length : Int) = p.vid := by
        unfold goesM at hg
        simp only [Bool.and_eq_true, beq_iff_eq] at hg
        exact hg.1
      rw [eachL_append, eachL_append, eachL_one, eachL_one]
      simp only
      rw [prsF_snoc, Nat.zero_add, hv, hw, List.append_assoc]
    · rw [eachL_append, eachL_one]
      simp only
      rw [h1]

theorem fold_tells : ∀ (ps : List Pr) (l : List Mv), (∀ p ∈ ps, -100000 ≤ p.vid ∧ p.vid ≤ 100000) → eachL (ps.foldl packS l) = eachL l ++ ps
  | [], l, _ => by simp
  | p :: ps, l, h => by
    rw [List.foldl_cons, fold_tells ps _ (fun q hq => h q (by simp [hq])), packS_tells l p (h p (by simp)), List.append_assoc]
    rfl

/-- What is packed of VIDs and events that may be may be. -/
def okPk (a : Mv) : Prop := a.all = false ∧ 0 < a.ev.length ∧ a.ev.length ≤ 400 ∧ 1 ≤ a.first ∧ a.first + (a.ev.length : Int) ≤ 4095 ∧ ∀ e ∈ a.ev, okE5 e = true

theorem okPk_ok {a : Mv} (h : okPk a) : okMv a = true := by
  obtain ⟨h1, h2, h3, h4, h5, h6⟩ := h
  unfold okMv
  rw [if_neg (by omega), decide_eq_true h3, decide_eq_true h4, decide_eq_true (show a.first ≤ 4095 - (a.ev.length : Int) by omega), List.all_eq_true.2 h6]
  rfl

def okPr (p : Pr) : Prop := 1 ≤ p.vid ∧ p.vid ≤ 4094 ∧ okE5 p.ev = true

theorem okPk_one {p : Pr} (h : okPr p) : okPk ⟨false, p.vid, [p.ev]⟩ := ⟨rfl, by simp, by simp, h.1, by have := h.2.1; simp only [List.length_cons, List.length_nil]; omega, fun e he => by rw [List.mem_singleton.1 he]; exact h.2.2⟩

theorem packS_pk (l : List Mv) (p : Pr) (hp : okPr p) (hl : ∀ a ∈ l, okPk a) : ∀ a ∈ packS l p, okPk a := by
  rcases List.eq_nil_or_concat l with rfl | ⟨l0, b, rfl⟩
  · rw [packS_nil]
    intro a ha
    rw [List.mem_singleton.1 ha]
    exact okPk_one hp
  · rw [List.concat_eq_append] at hl ⊢
    rw [packS_snoc]
    have hb := hl b (by simp)
    split
    · rename_i hg
      unfold goesM at hg
      simp only [Bool.and_eq_true, decide_eq_true_eq, beq_iff_eq] at hg
      intro a ha
      rcases List.mem_append.1 ha with q | q
      · exact hl a (by simp [q])
      · rw [List.mem_singleton.1 q]
        refine ⟨hb.1, by simp, by simp only [List.length_append, List.length_cons, List.length_nil]; omega, hb.2.2.2.1, by have := hp.2.1; simp only [List.length_append, List.length_cons, List.length_nil]; omega, fun e he => ?_⟩
        rcases List.mem_append.1 he with r | r
        · exact hb.2.2.2.2.2 e r
        · rw [List.mem_singleton.1 r]
          exact hp.2.2
    · intro a ha
      rcases List.mem_append.1 ha with q | q
      · exact hl a q
      · rw [List.mem_singleton.1 q]
        exact okPk_one hp

theorem fold_pk : ∀ (ps : List Pr) (l : List Mv), (∀ p ∈ ps, okPr p) → (∀ a ∈ l, okPk a) → ∀ a ∈ ps.foldl packS l, okPk a
  | [], l, _, hl => hl
  | p :: ps, l, h, hl => fold_pk ps (packS l p) (fun q hq => h q (by simp [hq])) (packS_pk l p (h p (by simp)) hl)

end Go.Proofs.YtdjljnpbnhampaaDoor
