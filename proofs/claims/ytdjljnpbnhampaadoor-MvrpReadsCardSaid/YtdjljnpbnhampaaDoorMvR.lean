/- 16.2: events plainly: how they are read. -/
import Derived.Test.YtdjljnpbnhampaaDoorMvM
import Derived.Test.YtdjljnpbnhampaaDoorTlRd
namespace Go.Proofs.YtdjljnpbnhampaaDoor
set_option linter.unusedVariables false

/-- The byte at p, as a number. -/
def by1 (S : List UInt8) (p : Nat) : Nat := beN ((S.drop p).take 1)

theorem by1_lt (S : List UInt8) (p : Nat) : by1 S p < 256 := by
  unfold by1
  have h := beN_lt ((S.drop p).take 1)
  have h2 : ((S.drop p).take 1).length ≤ 1 := by rw [List.length_take]; omega
  have h3 : 256 ^ ((S.drop p).take 1).length ≤ 256 ^ 1 := Nat.pow_le_pow_right (by decide) h2
  omega

/-- The three events of a byte. -/
def trip (x : Nat) : List Int := [((x / 36 : Nat) : Int), ((x / 6 % 6 : Nat) : Int), ((x % 6 : Nat) : Int)]

theorem trip_len (x : Nat) : (trip x).length = 3 := rfl

inductive EvR where
  | bad (e : Int) (p : Nat)
  | ok (l : List Int) (q : Nat)

/-- n events. -/
def rdEv (S : List UInt8) (n : Nat) : Nat → Nat → List Int → EvR
  | 0, p, l => .ok l p
  | f + 1, p, l =>
    if n ≤ l.length then .ok l p
    else if S.length < p + 1 then .bad 7 p
    else if 215 < by1 S p then .bad 2 p
    else if ((trip (by1 S p)).drop (n - l.length)).all (fun x => x == 0) = false then .bad 15 p
    else rdEv S n f (p + 1) (l ++ (trip (by1 S p)).take (n - l.length))
section
variable {S : List UInt8} {n f p : Nat} {l : List Int}

theorem ev_end (h : n ≤ l.length) : rdEv S n f p l = .ok l p := by
  cases f with
  | zero => rfl
  | succ f => rw [rdEv, if_pos h]

theorem ev_miss (h : ¬ n ≤ l.length) (h1 : S.length < p + 1) : rdEv S n (f + 1) p l = .bad 7 p := by rw [rdEv, if_neg h, if_pos h1]

theorem ev_range (h : ¬ n ≤ l.length) (h1 : ¬ S.length < p + 1) (h2 : 215 < by1 S p) : rdEv S n (f + 1) p l = .bad 2 p := by rw [rdEv, if_neg h, if_neg h1, if_pos h2]

theorem ev_spoilt (h : ¬ n ≤ l.length) (h1 : ¬ S.length < p + 1) (h2 : ¬ 215 < by1 S p) (h3 : ((trip (by1 S p)).drop (n - l.length)).all (fun x => x == 0) = false) : rdEv S n (f + 1) p l = .bad 15 p := by
  rw [rdEv, if_neg h, if_neg h1, if_neg h2, if_pos h3]

theorem ev_step (h : ¬ n ≤ l.length) (h1 : ¬ S.length < p + 1) (h2 : ¬ 215 < by1 S p) (h3 : ((trip (by1 S p)).drop (n - l.length)).all (fun x => x == 0) = true) : rdEv S n (f + 1) p l = rdEv S n f (p + 1) (l ++ (trip (by1 S p)).take (n - l.length)) := by
  rw [rdEv, if_neg h, if_neg h1, if_neg h2, if_neg (by rw [h3]; decide)]
end

inductive AtR where
  | bad (e : Int) (p : Nat)
  | fin (q : Nat)
  | got (x : Mv) (q : Nat)

/-- An attribute, or the end of a message. -/
def rdAt (S : List UInt8) (p : Nat) : AtR :=
  if S.length < p + 2 then .bad 7 p
  else if hdN S p = 0 then .fin (p + 2)
  else if 16384 ≤ hdN S p ∨ 400 < hdN S p % 8192 then .bad 2 p
  else if S.length < p + 4 then .bad 7 (p + 2)
  else match rdEv S (hdN S p % 8192) (hdN S p % 8192) (p + 4) [] with
    | .bad e q => .bad e q
    | .ok l q => if okMv ⟨decide (8192 ≤ hdN S p), (hdN S (p + 2) : Nat), l⟩ = true then .got ⟨decide (8192 ≤ hdN S p), (hdN S (p + 2) : Nat), l⟩ q else .bad 2 p

inductive MvR where
  | bad (e : Int) (p : Nat)
  | ok (l : List Mv)

/-- From p on: between messages (none), or within the one that begins at m. -/
def rdMv (S : List UInt8) : Nat → Option Nat → Nat → List Mv → MvR
  | 0, _, p, _ => .bad 7 p
  | f + 1, none, p, l =>
    if S.length < p + 1 then .bad 7 p
    else if S.length < p + 2 then .bad 7 (p + 1)
    else if by1 S p = 0 ∧ by1 S (p + 1) = 0 then
      if p + 2 + lead (S.drop (p + 2)) = S.length then .ok l else .bad 15 (p + 2 + lead (S.drop (p + 2)))
    else if by1 S p ≠ 1 then .bad 5 p
    else if by1 S (p + 1) ≠ 2 then .bad 3 (p + 1)
    else rdMv S f (some p) (p + 2) l
  | f + 1, some m, p, l => match rdAt S p with
    | .bad e q => .bad e q
    | .fin q => rdMv S f none q l
    | .got x q => if 40 < (l ++ [x]).length then .bad 4 m else rdMv S f (some m) q (l ++ [x])

def rdMvs (S : List UInt8) : MvR :=
  if S.length < 1 then .bad 7 0 else if by1 S 0 ≠ 0 then .bad 3 0 else rdMv S (S.length + 1) none 1 []
section
variable {S : List UInt8} {f p m : Nat} {l : List Mv}

theorem mv_miss (h : S.length < p + 1) : rdMv S (f + 1) none p l = .bad 7 p := by rw [rdMv, if_pos h]

theorem mv_miss2 (h : ¬ S.length < p + 1) (h1 : S.length < p + 2) : rdMv S (f + 1) none p l = .bad 7 (p + 1) := by rw [rdMv, if_neg h, if_pos h1]

theorem mv_end (h1 : ¬ S.length < p + 2) (h2 : by1 S p = 0) (h3 : by1 S (p + 1) = 0) (h4 : p + 2 + lead (S.drop (p + 2)) = S.length) : rdMv S (f + 1) none p l = .ok l := by
  rw [rdMv, if_neg (by omega), if_neg h1, if_pos ⟨h2, h3⟩, if_pos h4]

theorem mv_spoilt (h1 : ¬ S.length < p + 2) (h2 : by1 S p = 0) (h3 : by1 S (p + 1) = 0) (h4 : ¬ p + 2 + lead (S.drop (p + 2)) = S.length) : rdMv S (f + 1) none p l = .bad 15 (p + 2 + lead (S.drop (p + 2))) := by
  rw [rdMv, if_neg (by omega), if_neg h1, if_pos ⟨h2, h3⟩, if_neg h4]

theorem mv_name (h1 : ¬ S.length < p + 2) (h2 : ¬ (by1 S p = 0 ∧ by1 S (p + 1) = 0)) (h3 : by1 S p ≠ 1) : rdMv S (f + 1) none p l = .bad 5 p := by
  rw [rdMv, if_neg (by omega), if_neg h1, if_neg h2, if_pos h3]

theorem mv_form (h1 : ¬ S.length < p + 2) (h3 : by1 S p = 1) (h4 : by1 S (p + 1) ≠ 2) : rdMv S (f + 1) none p l = .bad 3 (p + 1) := by
  rw [rdMv, if_neg (by omega), if_neg h1, if_neg (by omega), if_neg (by omega), if_pos h4]

theorem mv_head (h1 : ¬ S.length < p + 2) (h3 : by1 S p = 1) (h4 : by1 S (p + 1) = 2) : rdMv S (f + 1) none p l = rdMv S f (some p) (p + 2) l := by
  rw [rdMv, if_neg (by omega), if_neg h1, if_neg (by omega), if_neg (by omega), if_neg (by omega)]

theorem mv_bad {e : Int} {q : Nat} (h : rdAt S p = .bad e q) : rdMv S (f + 1) (some m) p l = .bad e q := by rw [rdMv, h]

theorem mv_fin {q : Nat} (h : rdAt S p = .fin q) : rdMv S (f + 1) (some m) p l = rdMv S f none q l := by rw [rdMv, h]

theorem mv_many {x : Mv} {q : Nat} (h : rdAt S p = .got x q) (h1 : 40 < (l ++ [x]).length) : rdMv S (f + 1) (some m) p l = .bad 4 m := by
  rw [rdMv, h]
  simp only
  rw [if_pos h1]

theorem mv_got {x : Mv} {q : Nat} (h : rdAt S p = .got x q) (h1 : ¬ 40 < (l ++ [x]).length) : rdMv S (f + 1) (some m) p l = rdMv S f (some m) q (l ++ [x]) := by
  rw [rdMv, h]
  simp only
  rw [if_neg h1]
end

/-- How far reading gets, and what it reads. -/
theorem ev_ok (S : List UInt8) (n : Nat) : ∀ (f p : Nat) (l m : List Int) (q : Nat), rdEv S n f p l = .ok m q → n ≤ l.length + f → p ≤ S.length → l.length ≤ n →
    ∃ r, m = l ++ r ∧ m.length = n ∧ (∀ x ∈ r, 0 ≤ x ∧ x ≤ 5) ∧ q = p + (r.length + 2) / 3 ∧ q ≤ S.length ∧ p ≤ q
  | 0, p, l, m, q, h, hf, hp, hl => by
    cases h
    exact ⟨[], by simp, by omega, by simp, by simp, hp, Nat.le_refl _⟩
  | f + 1, p, l, m, q, h, hf, hp, hl => by
    by_cases h0 : n ≤ l.length
    · rw [ev_end h0] at h
      cases h
      exact ⟨[], by simp, by omega, by simp, by simp, hp, Nat.le_refl _⟩
    by_cases h1 : S.length < p + 1
    · rw [ev_miss h0 h1] at h; cases h
    by_cases h2 : 215 < by1 S p
    · rw [ev_range h0 h1 h2] at h; cases h
    by_cases h3 : ((trip (by1 S p)).drop (n - l.length)).all (fun x => x == 0) = false
    · rw [ev_spoilt h0 h1 h2 h3] at h; cases h
    · rw [ev_step h0 h1 h2 (by simpa using h3)] at h
      have hlen : ((trip (by1 S p)).take (n - l.length)).length = min (n - l.length) 3 := by rw [List.length_take, trip_len]
      obtain ⟨r, e1, e2, e3, e4, e5, e6⟩ := ev_ok S n f _ _ _ _ h (by rw [List.length_append, hlen]; omega) (by omega) (by rw [List.length_append, hlen]; omega)
      refine ⟨(trip (by1 S p)).take (n - l.length) ++ r, by rw [e1, List.append_assoc], e2, ?_, ?_, e5, by omega⟩
      · intro x hx
        rcases List.mem_append.1 hx with hx | hx
        · have hx := List.mem_of_mem_take hx
          simp only [trip, List.mem_cons, List.not_mem_nil, or_false] at hx
          rcases hx with rfl | rfl | rfl <;> omega
        · exact e3 x hx
      · have hm := congrArg List.length e1
        rw [List.length_append, List.length_append, hlen] at hm
        rw [List.length_append, hlen]
        by_cases c : n - l.length ≤ 3
        · have : r.length = 0 := by omega
          omega
        · omega

theorem ev_bad_ne (S : List UInt8) (n : Nat) : ∀ (f p : Nat) (l : List Int) (e : Int) (q : Nat), rdEv S n f p l = .bad e q → e ≠ 0 ∧ p ≤ q
  | 0, p, l, e, q, h => by cases h
  | f + 1, p, l, e, q, h => by
    by_cases h0 : n ≤ l.length
    · rw [ev_end h0] at h; cases h
    by_cases h1 : S.length < p + 1
    · rw [ev_miss h0 h1] at h; cases h; exact ⟨by decide, Nat.le_refl _⟩
    by_cases h2 : 215 < by1 S p
    · rw [ev_range h0 h1 h2] at h; cases h; exact ⟨by decide, Nat.le_refl _⟩
    by_cases h3 : ((trip (by1 S p)).drop (n - l.length)).all (fun x => x == 0) = false
    · rw [ev_spoilt h0 h1 h2 h3] at h; cases h; exact ⟨by decide, Nat.le_refl _⟩
    · rw [ev_step h0 h1 h2 (by simpa using h3)] at h
      have := ev_bad_ne S n f _ _ _ _ h
      exact ⟨this.1, by omega⟩

theorem at_fin {S : List UInt8} {p q : Nat} (h : rdAt S p = .fin q) : ¬ S.length < p + 2 ∧ hdN S p = 0 ∧ q = p + 2 := by
  unfold rdAt at h
  by_cases h0 : S.length < p + 2
  · rw [if_pos h0] at h; cases h
  rw [if_neg h0] at h
  by_cases h1 : hdN S p = 0
  · rw [if_pos h1] at h; cases h; exact ⟨h0, h1, rfl⟩
  rw [if_neg h1] at h
  split at h
  · cases h
  split at h
  · cases h
  split at h
  · cases h
  · split at h <;> cases h

theorem at_got {S : List UInt8} {p q : Nat} {x : Mv} (h : rdAt S p = .got x q) : okMv x = true ∧ q = p + (attrW x).length ∧ q ≤ S.length ∧ p + 4 ≤ q := by
  unfold rdAt at h
  by_cases h0 : S.length < p + 2
  · rw [if_pos h0] at h; cases h
  rw [if_neg h0] at h
  by_cases h1 : hdN S p = 0
  · rw [if_pos h1] at h; cases h
  rw [if_neg h1] at h
  by_cases h2 : 16384 ≤ hdN S p ∨ 400 < hdN S p % 8192
  · rw [if_pos h2] at h; cases h
  rw [if_neg h2] at h
  by_cases h3 : S.length < p + 4
  · rw [if_pos h3] at h; cases h
  rw [if_neg h3] at h
  cases hE : rdEv S (hdN S p % 8192) (hdN S p % 8192) (p + 4) [] with
  | bad e r => rw [hE] at h; cases h
  | ok l r =>
    rw [hE] at h
    simp only at h
    split at h
    · rename_i hk
      cases h
      obtain ⟨r2, e1, e2, e3, e4, e5, e6⟩ := ev_ok _ _ _ _ _ _ _ hE (by simp) (by omega) (by simp)
      rw [List.nil_append] at e1
      subst e1
      refine ⟨hk, ?_, e5, e6⟩
      rw [attrW_len, e4]
      show p + 4 + (l.length + 2) / 3 = p + (4 + (l.length + 2) / 3)
      omega
    · cases h

theorem at_bad_ne {S : List UInt8} {p q : Nat} {e : Int} (h : rdAt S p = .bad e q) : e ≠ 0 := by
  unfold rdAt at h
  split at h
  · cases h; decide
  split at h
  · cases h
  split at h
  · cases h; decide
  split at h
  · cases h; decide
  split at h
  · rename_i e2 q2 hE
    cases h
    exact (ev_bad_ne _ _ _ _ _ _ _ hE).1
  · split at h
    · cases h
    · cases h; decide

theorem mv_bad_ne (S : List UInt8) : ∀ (f : Nat) (m : Option Nat) (p : Nat) (l : List Mv) (e : Int) (q : Nat), rdMv S f m p l = .bad e q → e ≠ 0
  | 0, _, p, l, e, q, h => by cases h; decide
  | f + 1, none, p, l, e, q, h => by
    unfold rdMv at h
    split at h
    · cases h; decide
    split at h
    · cases h; decide
    split at h
    · split at h
      · cases h
      · cases h; decide
    split at h
    · cases h; decide
    split at h
    · cases h; decide
    · exact mv_bad_ne S f _ _ _ _ _ h
  | f + 1, some m, p, l, e, q, h => by
    cases hA : rdAt S p with
    | bad e2 q2 => rw [mv_bad hA] at h; cases h; exact at_bad_ne hA
    | fin q2 => rw [mv_fin hA] at h; exact mv_bad_ne S f _ _ _ _ _ h
    | got x q2 =>
      by_cases h1 : 40 < (l ++ [x]).length
      · rw [mv_many hA h1] at h; cases h; decide
      · rw [mv_got hA h1] at h; exact mv_bad_ne S f _ _ _ _ _ h

theorem mvs_bad_ne {S : List UInt8} {e : Int} {q : Nat} (h : rdMvs S = .bad e q) : e ≠ 0 := by
  unfold rdMvs at h
  split at h
  · cases h; decide
  split at h
  · cases h; decide
  · exact mv_bad_ne S _ _ _ _ _ _ h

end Go.Proofs.YtdjljnpbnhampaaDoor
