/- 16: events plainly: what may be, and how they are written. -/
import Derived.Test.YtnlphldkdglofaaFitP
namespace Go.Proofs.Ytnlphldkdglofaa
set_option linter.unusedVariables false

/-- An attribute. -/
structure Mv where
  all : Bool
  first : Int
  ev : List Int

instance : Inhabited Mv := ⟨⟨false, 0, []⟩⟩

theorem Mv.ext3 {a b : Mv} (h1 : a.all = b.all) (h2 : a.first = b.first) (h3 : a.ev = b.ev) : a = b := by
  obtain ⟨a1, a2, a3⟩ := a
  obtain ⟨b1, b2, b3⟩ := b
  simp only at h1 h2 h3
  rw [h1, h2, h3]

instance : DecidableEq Mv := fun a b => if h : a.all = b.all ∧ a.first = b.first ∧ a.ev = b.ev then isTrue (Mv.ext3 h.1 h.2.1 h.2.2) else isFalse (fun e => h ⟨by rw [e], by rw [e], by rw [e]⟩)

def zMv : Mv := ⟨false, 0, []⟩

theorem Mv.eta (x : Mv) : (⟨x.all, x.first, x.ev⟩ : Mv) = x := rfl

def okE5 (e : Int) : Bool := decide (0 ≤ e) && decide (e ≤ 5)

/-- What may be. -/
def okMv (x : Mv) : Bool :=
  if x.ev.length = 0 then x.all && (decide (0 ≤ x.first) && decide (x.first ≤ 4094))
  else decide (x.ev.length ≤ 400) && (decide (1 ≤ x.first) && (decide (x.first ≤ 4095 - x.ev.length) && x.ev.all okE5))

theorem okMv_nil {x : Mv} (h : okMv x = true) (h0 : x.ev = []) : x.all = true ∧ 0 ≤ x.first ∧ x.first ≤ 4094 := by
  unfold okMv at h
  rw [if_pos (by rw [h0]; rfl)] at h
  simpa using h

theorem okMv_cons {x : Mv} (h : okMv x = true) (h0 : x.ev ≠ []) : x.ev.length ≤ 400 ∧ 1 ≤ x.first ∧ x.first ≤ 4095 - x.ev.length ∧ ∀ e ∈ x.ev, 0 ≤ e ∧ e ≤ 5 := by
  unfold okMv at h
  rw [if_neg (by simpa using h0)] at h
  simpa [okE5] using h

theorem okMv_len {x : Mv} (h : okMv x = true) : x.ev.length ≤ 400 := by
  by_cases h0 : x.ev = []
  · rw [h0]; simp
  · exact (okMv_cons h h0).1

theorem okMv_first {x : Mv} (h : okMv x = true) : 0 ≤ x.first ∧ x.first ≤ 4094 := by
  by_cases h0 : x.ev = []
  · exact (okMv_nil h h0).2
  · have := okMv_cons h h0
    have : 0 < x.ev.length := List.length_pos_iff.2 h0
    omega

theorem okMv_ev {x : Mv} (h : okMv x = true) : ∀ e ∈ x.ev, 0 ≤ e ∧ e ≤ 5 := by
  by_cases h0 : x.ev = []
  · rw [h0]; simp
  · exact (okMv_cons h h0).2.2.2

/-- Three events as one number. -/
def g3 (a b c : Int) : Nat := (6 * (6 * a + b) + c).toNat

/-- Events as bytes. -/
def evL : List Int → List UInt8
  | [] => []
  | [a] => putL (g3 a 0 0) 1
  | [a, b] => putL (g3 a b 0) 1
  | a :: b :: c :: l => putL (g3 a b c) 1 ++ evL l

theorem evL_three (a b c : Int) (l : List Int) : evL (a :: b :: c :: l) = putL (g3 a b c) 1 ++ evL l := rfl

theorem evL_len : ∀ l : List Int, (evL l).length = (l.length + 2) / 3
  | [] => rfl
  | [a] => by simp [evL, putL_length]
  | [a, b] => by simp [evL, putL_length]
  | a :: b :: c :: l => by
    rw [evL_three, List.length_append, putL_length, evL_len l]
    simp only [List.length_cons]
    omega

/-- What is written ahead stays as it is. -/
theorem evL_app : ∀ (l m : List Int), l.length % 3 = 0 → evL (l ++ m) = evL l ++ evL m
  | [], m, _ => rfl
  | [a], m, h => by simp at h
  | [a, b], m, h => by simp at h
  | a :: b :: c :: l, m, h => by
    have h : (l.length + 1 + 1 + 1) % 3 = 0 := h
    show putL (g3 a b c) 1 ++ evL (l ++ m) = putL (g3 a b c) 1 ++ evL l ++ evL m
    rw [evL_app l m (by omega), List.append_assoc]

theorem evL_step (l : List Int) (k : Nat) (h : 3 * k ≤ l.length) : evL (l.take (3 * k + 3)) = evL (l.take (3 * k)) ++ evL ((l.drop (3 * k)).take 3) := by
  rw [List.take_add, evL_app _ _ (by rw [List.length_take]; omega)]

def cntMv (x : Mv) : Nat := x.ev.length + if x.all then 8192 else 0

/-- An attribute as bytes. -/
def attrW (x : Mv) : List UInt8 := putL (cntMv x) 2 ++ (putL x.first.toNat 2 ++ evL x.ev)

theorem attrW_len (x : Mv) : (attrW x).length = 4 + (x.ev.length + 2) / 3 := by
  unfold attrW
  rw [List.length_append, List.length_append, putL_length, putL_length, evL_len]
  omega

def attrsW (l : List Mv) : List UInt8 := l.flatMap attrW

theorem attrsW_nil : attrsW [] = [] := rfl

theorem attrsW_cons (x : Mv) (l : List Mv) : attrsW (x :: l) = attrW x ++ attrsW l := by simp [attrsW]

theorem attrsW_app (l m : List Mv) : attrsW (l ++ m) = attrsW l ++ attrsW m := by simp [attrsW]

theorem attrsW_take (l : List Mv) (k : Nat) (hk : k < l.length) : attrsW (l.take (k + 1)) = attrsW (l.take k) ++ attrW l[k] := by
  rw [List.take_add_one, List.getElem?_eq_getElem hk, attrsW_app]
  simp [attrsW]

theorem attrsW_le (l : List Mv) (h : ∀ x ∈ l, okMv x = true) : (attrsW l).length ≤ 138 * l.length := by
  induction l with
  | nil => simp [attrsW]
  | cons x l ih =>
    have h1 := okMv_len (h x (by simp))
    have h2 := ih (fun y hy => h y (by simp [hy]))
    rw [attrsW_cons, List.length_append, attrW_len, List.length_cons]
    omega

/-- All of them as bytes. -/
def mvW (l : List Mv) : List UInt8 := if l = [] then [0, 0, 0] else [0, 1, 2] ++ (attrsW l ++ [0, 0, 0, 0])

/-- All may be; or the kth may not, and all ahead may. -/
theorem mv_or : ∀ (l : List Mv), (∀ x ∈ l, okMv x = true) ∨ ∃ k, ∃ hk : k < l.length, okMv l[k] = false ∧ ∀ x ∈ l.take k, okMv x = true
  | [] => Or.inl (by simp)
  | x :: l => by
    cases hx : okMv x with
    | false => exact Or.inr ⟨0, by simp, by simpa using hx, by simp⟩
    | true =>
      rcases mv_or l with h | ⟨k, hk, h1, h2⟩
      · exact Or.inl (by simpa [hx] using h)
      · refine Or.inr ⟨k + 1, by simpa using hk, by simpa using h1, ?_⟩
        simpa [hx] using h2

/-- What writing ends in: an error and its place (-1: none), or the bytes. -/
def mvE (l : List Mv) : Int × Int :=
  if 40 < l.length then (4, -1) else match l.findIdx? (fun x => !okMv x) with
    | some k => (1, ((k : Nat) : Int))
    | none => (0, -1)

theorem mvE_long {l : List Mv} (h : 40 < l.length) : mvE l = (4, -1) := by unfold mvE; rw [if_pos h]

theorem mvE_ok {l : List Mv} (h : ¬ 40 < l.length) (ha : ∀ x ∈ l, okMv x = true) : mvE l = (0, -1) := by
  unfold mvE
  rw [if_neg h, List.findIdx?_eq_none_iff.2 (fun x hx => by rw [ha x hx]; rfl)]

theorem mvE_bad {l : List Mv} (h : ¬ 40 < l.length) {k : Nat} (hk : k < l.length) (hb : okMv l[k] = false) (ha : ∀ x ∈ l.take k, okMv x = true) : mvE l = (1, ((k : Nat) : Int)) := by
  have e : l.findIdx? (fun x => !okMv x) = some k := by
    rw [List.findIdx?_eq_some_iff_getElem]
    refine ⟨hk, by rw [hb]; rfl, fun j hj => ?_⟩
    have q := ha l[j] (List.mem_take_iff_getElem.2 ⟨j, by omega, rfl⟩)
    simp [q]
  unfold mvE
  rw [if_neg h, e]

end Go.Proofs.Ytnlphldkdglofaa
