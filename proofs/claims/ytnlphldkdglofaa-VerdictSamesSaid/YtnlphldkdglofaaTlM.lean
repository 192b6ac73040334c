/- 13.1: records plainly: how they are written. -/
import Derived.Test.YtnlphldkdglofaaFitP
namespace Go.Proofs.Ytnlphldkdglofaa
set_option linter.unusedVariables false

structure Tl where
  k : Int
  t : ByteArray

instance : Inhabited Tl := ⟨⟨0, ⟨#[]⟩⟩⟩

def zTl : Tl := ⟨0, ⟨#[]⟩⟩

/-- What may be. -/
def okTl (x : Tl) : Bool := decide (0 < x.k) && (decide (x.k ≤ 127) && decide ((x.t.size : Int) ≤ 511))

theorem okTl_all {x : Tl} (h : okTl x = true) : 0 < x.k ∧ x.k ≤ 127 ∧ x.t.size ≤ 511 := by
  simp only [okTl, Bool.and_eq_true, decide_eq_true_eq] at h
  omega

/-- A record's head. -/
def hdT (x : Tl) : Nat := 512 * x.k.toNat + x.t.size

theorem hdT_lt {x : Tl} (h : okTl x = true) : hdT x < 65536 := by
  have := okTl_all h
  unfold hdT
  omega

def tlW (x : Tl) : List UInt8 := putL (hdT x) 2 ++ x.t.data.toList

theorem tlW_len (x : Tl) : (tlW x).length = 2 + x.t.size := by
  unfold tlW
  rw [List.length_append, putL_length]
  simp

def tlWs (l : List Tl) : List UInt8 := l.flatMap tlW

theorem tlWs_cons (x : Tl) (l : List Tl) : tlWs (x :: l) = tlW x ++ tlWs l := by simp [tlWs]

theorem tlWs_app (l m : List Tl) : tlWs (l ++ m) = tlWs l ++ tlWs m := by simp [tlWs]

theorem tlWs_take (l : List Tl) (k : Nat) (hk : k < l.length) : tlWs (l.take (k + 1)) = tlWs (l.take k) ++ tlW l[k] := by
  rw [List.take_add_one, List.getElem?_eq_getElem hk, tlWs_app]
  simp [tlWs]

theorem tlWs_le (l : List Tl) (h : ∀ x ∈ l, okTl x = true) : (tlWs l).length ≤ 513 * l.length := by
  induction l with
  | nil => simp [tlWs]
  | cons x l ih =>
    have h1 := okTl_all (h x (by simp))
    have h2 := ih (fun y hy => h y (by simp [hy]))
    rw [tlWs_cons, List.length_append, tlW_len, List.length_cons]
    omega

def tlWrite (l : List Tl) : List UInt8 := tlWs l ++ [0, 0]

/-- Where each begins. -/
def offs : Nat → List Tl → List Nat
  | _, [] => []
  | p, x :: l => p :: offs (p + 2 + x.t.size) l

theorem offs_len : ∀ (l : List Tl) (p : Nat), (offs p l).length = l.length
  | [], _ => rfl
  | x :: l, p => by simp [offs, offs_len l]

/-- All may be; or the kth may not, and all ahead may. -/
theorem all_or : ∀ (l : List Tl), (∀ x ∈ l, okTl x = true) ∨ ∃ k, ∃ hk : k < l.length, okTl l[k] = false ∧ ∀ x ∈ l.take k, okTl x = true
  | [] => Or.inl (by simp)
  | x :: l => by
    cases hx : okTl x with
    | false => exact Or.inr ⟨0, by simp, by simpa using hx, by simp⟩
    | true =>
      rcases all_or l with h | ⟨k, hk, h1, h2⟩
      · exact Or.inl (by simpa [hx] using h)
      · refine Or.inr ⟨k + 1, by simpa using hk, by simpa using h1, ?_⟩
        simpa [hx] using h2

end Go.Proofs.Ytnlphldkdglofaa
