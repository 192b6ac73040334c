/- Texts one behind the other. 14.3: what records tell of a station, plainly. 14.3: how a record's text is read, plainly: to its end, just so, or not. 14.2, 14.3: there and back, plainly. -/
import Derived.Test.YtocgnbbnaamjjaaGreatDoorLrK3
import Derived.Test.YtocgnbbnaamjjaaGreatDoorLrK6
import Derived.Test.YtocgnbbnaamjjaaGreatDoorLrK7
namespace Go.Proofs.YtocgnbbnaamjjaaGreatDoor
set_option linter.unusedVariables false
set_option linter.unusedSimpArgs false

abbrev txT (t : Tl) : List UInt8 := t.t.data.toList

def nmOf (S : List UInt8) : Nm := ⟨(beN (S.take 1) : Nat), ⟨(S.drop 1).toArray⟩⟩

def cpOf (S : List UInt8) : Cp := ⟨(beN (S.take 2) : Nat), (beN ((S.drop 2).take 2) : Nat)⟩

def mgM (S : List UInt8) : Nat := max (beN (S.take 1)) 1

def mgO (S : List UInt8) : Nat := beN ((S.drop (mgM S + 6)).take 1)

def mgOf (S : List UInt8) : Mg := ⟨(beN ((S.drop 1).take 1) : Nat), ⟨((S.drop 2).take (mgM S - 1)).toArray⟩, (beN ((S.drop (mgM S + 1)).take 1) : Nat), (beN ((S.drop (mgM S + 2)).take 4) : Nat), ⟨((S.drop (mgM S + 7)).take (mgO S)).toArray⟩⟩

def ogOf (S : List UInt8) : Og := ⟨(beN (S.take 3) : Nat), (beN ((S.drop 3).take 1) : Nat), ⟨(S.drop 4).toArray⟩⟩

/-- Whether a text has just the parts of its kind. -/
def formK (k : Int) (S : List UInt8) : Bool :=
  if k = 1 then decide (1 ≤ S.length) else if k = 2 then decide (1 ≤ S.length) else if k = 3 then decide (S.length = 2) else if k = 4 then true else if k = 5 then true else if k = 6 then true
  else if k = 7 then decide (S.length = 4) else if k = 8 then decide (mgM S + 7 ≤ S.length ∧ S.length = mgM S + 7 + mgO S) else decide (4 ≤ S.length)

/-- Whether they may be. -/
def goodK (k : Int) (S : List UInt8) : Bool :=
  if k = 1 then okNm (nmOf S) else if k = 2 then okNm (nmOf S) else if k = 3 then true else if k = 4 then okSt ⟨S.toArray⟩ else if k = 5 then okSt ⟨S.toArray⟩ else if k = 6 then okSt ⟨S.toArray⟩
  else if k = 7 then okCp (cpOf S) else if k = 8 then okMg (mgOf S) else okOg (ogOf S)

def addLd (x : Ld) (t : Tl) : Ld :=
  if t.k = 1 then { x with ch := nmOf (txT t) } else if t.k = 2 then { x with po := nmOf (txT t) } else if t.k = 3 then { x with tt := (beN (txT t) : Nat) }
  else if t.k = 4 then { x with de := x.de ++ [t.t] } else if t.k = 5 then { x with ho := x.ho ++ [t.t] } else if t.k = 6 then { x with sy := x.sy ++ [t.t] }
  else if t.k = 7 then { x with ca := x.ca ++ [cpOf (txT t)] } else if t.k = 8 then { x with ma := x.ma ++ [mgOf (txT t)] } else { x with og := x.og ++ [ogOf (txT t)] }

/-- What is wrong with a record: before it there were i, c of its kind. -/
def misK (k : Int) (i c : Nat) : Int := if i < 3 ∧ k ≠ i + 1 then 10 else if 8 < k ∧ k ≠ 127 then 5 else if k < 8 ∧ 0 < c then 9 else 0

def vrd (t : Tl) (i c : Nat) : Int :=
  if misK t.k i c ≠ 0 then misK t.k i c else if formK t.k (txT t) = false then 3 else if goodK t.k (txT t) = false then 2 else if 20 ≤ c then 4 else 0

def cntK (k : Int) (l : List Tl) : Nat := l.countP (fun t => t.k == k)

theorem cntK_app (k : Int) (l m : List Tl) : cntK k (l ++ m) = cntK k l + cntK k m := by simp [cntK]

theorem cntK_cons (k : Int) (t : Tl) (l : List Tl) : cntK k (t :: l) = (if t.k = k then 1 else 0) + cntK k l := by
  simp only [cntK, List.countP_cons, beq_iff_eq]
  omega

theorem cntK_nil (k : Int) : cntK k [] = 0 := rfl

inductive LdR where
  | bad (e : Int) (p : Nat)
  | ok (x : Ld)

def LdR.val : LdR → Ld
  | .bad _ _ => zLd
  | .ok x => x

def LdR.er : LdR → Int
  | .bad e _ => e
  | .ok _ => 0

def LdR.pl : LdR → Int
  | .bad _ p => p
  | .ok _ => -1

def ldGo (e : Nat) : List Tl → Ld → List Tl → List Nat → LdR
  | p, x, [], _ => if p.length < 3 then .bad 7 e else .ok x
  | p, x, t :: ts, ps => if vrd t p.length (cntK t.k p) = 0 then ldGo e (p ++ [t]) (addLd x t) ts ps.tail else .bad (vrd t p.length (cntK t.k p)) (ps.headD 0)

def ldOf : TlR → LdR
  | .bad e p => .bad e p
  | .ok l a e => ldGo e [] zLd l a

/-- What any bytes tell. -/
def rdLd (S : List UInt8) : LdR := ldOf (rdAll S)

theorem ldGo_ok (e : Nat) (y : Ld) : ∀ (ts p : List Tl) (x : Ld) (ps : List Nat), ldGo e p x ts ps = .ok y ↔ ((∀ a t b, ts = a ++ t :: b → vrd t (p.length + a.length) (cntK t.k (p ++ a)) = 0) ∧ 3 ≤ p.length + ts.length ∧ y = ts.foldl addLd x)
  | [], p, x, ps => by
    rw [ldGo]
    by_cases h : p.length < 3
    · rw [if_pos h]
      constructor
      · intro q; cases q
      · intro q; have := q.2.1; simp at this; omega
    · rw [if_neg h]
      constructor
      · intro q
        cases q
        exact ⟨fun a t b q => by simp at q, by simp; omega, rfl⟩
      · intro q
        rw [q.2.2]
        rfl
  | t :: ts, p, x, ps => by
    rw [ldGo]
    by_cases h : vrd t p.length (cntK t.k p) = 0
    · rw [if_pos h, ldGo_ok e y ts (p ++ [t]) (addLd x t) ps.tail]
      constructor
      · rintro ⟨q1, q2, q3⟩
        refine ⟨?_, by simp at q2 ⊢; omega, q3⟩
        intro a u b q
        cases a with
        | nil =>
          simp only [List.nil_append, List.cons.injEq] at q
          obtain ⟨rfl, rfl⟩ := q
          simpa using h
        | cons c a =>
          simp only [List.cons_append, List.cons.injEq] at q
          obtain ⟨rfl, rfl⟩ := q
          have := q1 a u b rfl
          rw [List.append_assoc, List.singleton_append, List.length_append, List.length_singleton] at this
          rw [List.length_cons, show p.length + (a.length + 1) = p.length + 1 + a.length by omega]
          exact this
      · rintro ⟨q1, q2, q3⟩
        refine ⟨?_, by simp at q2 ⊢; omega, q3⟩
        intro a u b q
        subst q
        have := q1 (t :: a) u b rfl
        rw [List.append_assoc, List.singleton_append, List.length_append, List.length_singleton]
        rw [List.length_cons, show p.length + (a.length + 1) = p.length + 1 + a.length by omega] at this
        exact this
    · rw [if_neg h]
      constructor
      · intro q; cases q
      · rintro ⟨q1, -, -⟩
        exact absurd (by simpa using q1 [] t ts rfl) h

theorem ldGo_bad (e : Nat) (y : Int) (z : Nat) : ∀ (ts p : List Tl) (x : Ld) (ps : List Nat), ldGo e p x ts ps = .bad y z → y ≠ 0
  | [], p, x, ps, h => by
    rw [ldGo] at h
    split at h
    · cases h; decide
    · cases h
  | t :: ts, p, x, ps, h => by
    rw [ldGo] at h
    split at h
    · exact ldGo_bad e y z ts _ _ _ h
    · cases h; assumption

theorem vrd_zero (t : Tl) (i c : Nat) : vrd t i c = 0 ↔ (i < 3 → t.k = i + 1) ∧ (t.k ≤ 8 ∨ t.k = 127) ∧ (t.k < 8 → c = 0) ∧ formK t.k (txT t) = true ∧ goodK t.k (txT t) = true ∧ c < 20 := by
  unfold vrd misK
  cases formK t.k (txT t) <;> cases goodK t.k (txT t) <;> (repeat' split) <;> simp_all <;> omega

/-- How often a kind is there: as often as it may be ahead of each one. -/
theorem cnt_lt (k : Int) (N : Nat) (ts : List Tl) : (∀ a t b, ts = a ++ t :: b → t.k = k → cntK k a < N) ↔ cntK k ts ≤ N := by
  constructor
  · suffices h : ∀ (n : Nat) (ts : List Tl), ts.length = n → (∀ a t b, ts = a ++ t :: b → t.k = k → cntK k a < N) → cntK k ts ≤ N from h _ ts rfl
    intro n
    induction n with
    | zero =>
      intro ts hn _
      have : ts = [] := List.length_eq_zero_iff.1 hn
      subst this
      simp [cntK]
    | succ n ih =>
      intro ts hn h
      have hne : ts ≠ [] := by intro q; subst q; simp at hn
      obtain ⟨ini, z, rfl⟩ : ∃ ini z, ts = ini ++ [z] := ⟨ts.dropLast, ts.getLast hne, (List.dropLast_concat_getLast hne).symm⟩
      rw [cntK_app, cntK_cons, cntK_nil]
      by_cases hz : z.k = k
      · have := h ini z [] rfl hz
        rw [if_pos hz]
        omega
      · rw [if_neg hz]
        have := ih ini (by simpa using hn) (fun a t b q => h a t (b ++ [z]) (by rw [q]; simp))
        omega
  · intro h a t b q hk
    rw [q, cntK_app, cntK_cons, if_pos hk] at h
    omega

def accept (ts : List Tl) : Prop := (∀ a t b, ts = a ++ t :: b → vrd t a.length (cntK t.k a) = 0) ∧ 3 ≤ ts.length

def ldVal (ts : List Tl) : Ld := ts.foldl addLd zLd

theorem ldGo_acc (e : Nat) (y : Ld) (ts : List Tl) (ps : List Nat) : ldGo e [] zLd ts ps = .ok y ↔ accept ts ∧ y = ldVal ts := by
  rw [ldGo_ok]
  simp [accept, ldVal, and_assoc]

/-- A record behind the first three, as it may be. -/
def okR (t : Tl) : Prop := 4 ≤ t.k ∧ (t.k ≤ 8 ∨ t.k = 127) ∧ formK t.k (txT t) = true ∧ goodK t.k (txT t) = true

structure OkTs (t1 t2 t3 : Tl) (r : List Tl) : Prop where
  k1 : t1.k = 1
  k2 : t2.k = 2
  k3 : t3.k = 3
  f1 : 1 ≤ (txT t1).length
  g1 : okNm (nmOf (txT t1)) = true
  f2 : 1 ≤ (txT t2).length
  g2 : okNm (nmOf (txT t2)) = true
  f3 : (txT t3).length = 2
  hr : ∀ t ∈ r, okR t
  hc : ∀ k, 4 ≤ k → cntK k r ≤ if k < 8 then 1 else 20

theorem formK1 (S : List UInt8) : formK 1 S = decide (1 ≤ S.length) := by simp [formK]

theorem formK2 (S : List UInt8) : formK 2 S = decide (1 ≤ S.length) := by simp [formK]

theorem formK3 (S : List UInt8) : formK 3 S = decide (S.length = 2) := by simp [formK]

theorem goodK1 (S : List UInt8) : goodK 1 S = okNm (nmOf S) := by simp [goodK]

theorem goodK2 (S : List UInt8) : goodK 2 S = okNm (nmOf S) := by simp [goodK]

theorem goodK3 (S : List UInt8) : goodK 3 S = true := by simp [goodK]

theorem accept_to (ts : List Tl) (h0 : ∀ t ∈ ts, 0 < t.k) (h : accept ts) : ∃ t1 t2 t3 r, ts = t1 :: t2 :: t3 :: r ∧ OkTs t1 t2 t3 r := by
  obtain ⟨h1, h2⟩ := h
  match ts, h2 with
  | t1 :: t2 :: t3 :: r, _ =>
    have q1 := (vrd_zero _ _ _).1 (h1 [] t1 (t2 :: t3 :: r) rfl)
    have q2 := (vrd_zero _ _ _).1 (h1 [t1] t2 (t3 :: r) rfl)
    have q3 := (vrd_zero _ _ _).1 (h1 [t1, t2] t3 r rfl)
    have k1 : t1.k = 1 := by have := q1.1 (by simp); simpa using this
    have k2 : t2.k = 2 := by have := q2.1 (by simp); simpa using this
    have k3 : t3.k = 3 := by have := q3.1 (by simp); simpa using this
    rw [k1, formK1, goodK1] at q1
    rw [k2, formK2, goodK2] at q2
    rw [k3, formK3, goodK3] at q3
    refine ⟨t1, t2, t3, r, rfl, k1, k2, k3, by simpa using q1.2.2.2.1, q1.2.2.2.2.1, by simpa using q2.2.2.2.1, q2.2.2.2.2.1, by simpa using q3.2.2.2.1, ?_, ?_⟩
    · intro t ht
      obtain ⟨a, b, rfl⟩ := List.append_of_mem ht
      have q := (vrd_zero _ _ _).1 (h1 (t1 :: t2 :: t3 :: a) t b rfl)
      have hp := h0 t (by simp)
      refine ⟨?_, q.2.1, q.2.2.2.1, q.2.2.2.2.1⟩
      have q4 := q.2.2.1
      rw [cntK_cons, cntK_cons, cntK_cons, k1, k2, k3] at q4
      by_cases h4 : t.k < 4
      · exfalso
        have q5 := q4 (by omega)
        have : t.k = 1 ∨ t.k = 2 ∨ t.k = 3 := by omega
        rcases this with e | e | e <;> rw [e] at q5 <;> simp at q5 <;> omega
      · omega
    · intro k hk
      refine (cnt_lt k _ r).1 ?_
      intro a t b q hkk
      subst q
      have q := (vrd_zero _ _ _).1 (h1 (t1 :: t2 :: t3 :: a) t b rfl)
      have q4 := q.2.2.1
      have q5 := q.2.2.2.2.2
      rw [cntK_cons, cntK_cons, cntK_cons, hkk] at q4 q5
      split
      · have := q4 (by assumption); omega
      · omega

theorem accept_of (t1 t2 t3 : Tl) (r : List Tl) (h : OkTs t1 t2 t3 r) : accept (t1 :: t2 :: t3 :: r) := by
  refine ⟨?_, by simp⟩
  intro a t b q
  match a, q with
  | [], q =>
    simp only [List.nil_append, List.cons.injEq] at q
    obtain ⟨rfl, -⟩ := q
    rw [vrd_zero, h.k1, formK1, goodK1]
    exact ⟨fun _ => rfl, Or.inl (by decide), fun _ => rfl, by simpa using h.f1, h.g1, by decide⟩
  | [c], q =>
    simp only [List.cons_append, List.nil_append, List.cons.injEq] at q
    obtain ⟨rfl, rfl, -⟩ := q
    rw [vrd_zero, h.k2, formK2, goodK2, cntK_cons, h.k1]
    exact ⟨fun _ => rfl, Or.inl (by decide), fun _ => rfl, by simpa using h.f2, h.g2, by decide⟩
  | [c, d], q =>
    simp only [List.cons_append, List.nil_append, List.cons.injEq] at q
    obtain ⟨rfl, rfl, rfl, -⟩ := q
    rw [vrd_zero, h.k3, formK3, goodK3, cntK_cons, cntK_cons, h.k1, h.k2]
    exact ⟨fun _ => rfl, Or.inl (by decide), fun _ => rfl, by simpa using h.f3, rfl, by decide⟩
  | c :: d :: e :: a, q =>
    simp only [List.cons_append, List.cons.injEq] at q
    obtain ⟨rfl, rfl, rfl, rfl⟩ := q
    have ht := h.hr t (by simp)
    have hc := h.hc t.k ht.1
    have hl := (cnt_lt t.k _ _).2 hc a t b rfl rfl
    rw [vrd_zero, cntK_cons, cntK_cons, cntK_cons, h.k1, h.k2, h.k3, if_neg (by have := ht.1; omega), if_neg (by have := ht.1; omega), if_neg (by have := ht.1; omega)]
    refine ⟨fun q => by simp at q; omega, ht.2.1, ?_, ht.2.2.1, ht.2.2.2, ?_⟩
    · intro q
      rw [if_pos q] at hl
      omega
    · split at hl <;> omega

end Go.Proofs.YtocgnbbnaamjjaaGreatDoor

namespace Go.Proofs.YtocgnbbnaamjjaaGreatDoor
set_option linter.unusedVariables false
set_option linter.unusedSimpArgs false

theorem nm_step (S : List UInt8) (p n : Nat) (h1 : 1 ≤ n) (h8 : n ≤ 8) (hp : p ≤ S.length) :
    (p + n ≤ S.length ∧ nmS S 0 (p, 0, -1) n = (p + n, 0, -1) ∧ nmV S 0 (p, 0, -1) n = beN ((S.drop p).take n)) ∨ (¬ p + n ≤ S.length ∧ nmS S 0 (p, 0, -1) n = (p, 7, (p : Int))) := by
  by_cases h : p + n ≤ S.length
  · obtain ⟨a, b⟩ := nm_go S (p, 0, -1) n h1 h8 rfl h
    exact Or.inl ⟨h, a, b⟩
  · exact Or.inr ⟨h, nm_miss S (p, 0, -1) n h1 h8 rfl h hp⟩

theorem tk_step (S : List UInt8) (p n : Nat) (hp : p ≤ S.length) :
    (p + n ≤ S.length ∧ tkN S 0 (p, 0, -1) (n : Nat) false = ((S.drop p).take n, p + n, 0, -1)) ∨ (¬ p + n ≤ S.length ∧ tkN S 0 (p, 0, -1) (n : Nat) false = ([], p, 7, ((0 : Nat) : Int) + (p : Int))) := by
  by_cases h : p + n ≤ S.length
  · exact Or.inl ⟨h, tkN_go S 0 (p, 0, -1) n false rfl h (by intro q; cases q)⟩
  · exact Or.inr ⟨h, tkN_miss S 0 (p, 0, -1) n false rfl h hp (by intro q; cases q)⟩

theorem rs_at (S : List UInt8) (p : Nat) (hp : p ≤ S.length) : rsV S (p, 0, -1) = S.drop p ∧ rsS S (p, 0, -1) = (S.length, 0, -1) := by
  rcases tk_step S p (S.length - p) hp with ⟨a, b⟩ | ⟨a, b⟩
  · unfold rsV rsS
    rw [b]
    refine ⟨?_, ?_⟩
    · show (S.drop p).take (S.length - p) = _
      rw [List.take_of_length_le (by rw [List.length_drop]; omega)]
    · show (p + (S.length - p), (0 : Int), (-1 : Int)) = _
      rw [show p + (S.length - p) = S.length by omega]
  · omega

theorem rs_bad (S : List UInt8) (st : RSt) (h : st.2.1 ≠ 0) : rsS S st = st := by unfold rsS; rw [tkN_bad _ _ _ _ _ h]

theorem tk_bad (S : List UInt8) (st : RSt) (n : Int) (h : st.2.1 ≠ 0) : (tkN S 0 st n false).2 = st := by rw [tkN_bad _ _ _ _ _ h]

/-- Read to the end, just so; or wrong, or not to the end. -/
def Rdn (S : List UInt8) (f : Bool) (st : RSt) : Prop := st.1 ≤ S.length ∧ (f = true → st = (S.length, 0, -1)) ∧ (f = false → st.2.1 ≠ 0 ∨ st.1 < S.length)

theorem Rdn.bad {S : List UInt8} {f : Bool} {p : Nat} {e x : Int} (hf : f = false) (h : p ≤ S.length) (he : e ≠ 0) : Rdn S f (p, e, x) := by
  subst hf
  exact ⟨h, (fun q => by cases q), fun _ => Or.inl he⟩

theorem rn_ways (S : List UInt8) : Rdn S (decide (1 ≤ S.length)) (rnS S (0, 0, -1)) ∧ (1 ≤ S.length → rnV S (0, 0, -1) = nmOf S) := by
  unfold rnS rnV
  rcases nm_step S 0 1 (by omega) (by omega) (Nat.zero_le _) with ⟨a, b, c⟩ | ⟨a, b⟩
  · have a : 1 ≤ S.length := by omega
    obtain ⟨r1, r2⟩ := rs_at S 1 a
    rw [show ((1 : Nat) : Int) = (1 : Int) from rfl] at b c
    rw [b, c, r1, r2]
    refine ⟨⟨Nat.le_refl _, fun _ => rfl, fun q => absurd (of_decide_eq_false q) (by omega)⟩, fun _ => ?_⟩
    unfold nmOf
    rw [List.drop_zero]
  · rw [show ((1 : Nat) : Int) = (1 : Int) from rfl] at b
    rw [b, rs_bad _ _ (by show (7 : Int) ≠ 0; decide)]
    refine ⟨Rdn.bad (decide_eq_false (by omega)) (Nat.zero_le _) (by decide), fun q => by omega⟩

theorem rt_ways (S : List UInt8) : Rdn S (decide (S.length = 2)) (nmS S 0 (0, 0, -1) 2) ∧ (S.length = 2 → nmV S 0 (0, 0, -1) 2 = beN S) := by
  rcases nm_step S 0 2 (by omega) (by omega) (Nat.zero_le _) with ⟨a, b, c⟩ | ⟨a, b⟩
  · rw [show ((2 : Nat) : Int) = (2 : Int) from rfl] at b c
    rw [b, c]
    refine ⟨⟨a, fun q => ?_, fun q => Or.inr ?_⟩, fun q => ?_⟩
    · have q : S.length = 2 := by simpa using q
      rw [q]
    · have q : ¬ S.length = 2 := by simpa using q
      show 0 + 2 < S.length
      omega
    · rw [List.drop_zero, List.take_of_length_le (by omega)]
  · rw [show ((2 : Nat) : Int) = (2 : Int) from rfl] at b
    rw [b]
    exact ⟨Rdn.bad (decide_eq_false (by omega)) (Nat.zero_le _) (by decide), fun q => by omega⟩

theorem rc_ways (S : List UInt8) : Rdn S (decide (S.length = 4)) (rcS S (0, 0, -1)) ∧ (S.length = 4 → rcV S (0, 0, -1) = cpOf S) := by
  unfold rcS rcV
  rcases nm_step S 0 2 (by omega) (by omega) (Nat.zero_le _) with ⟨a, b, c⟩ | ⟨a, b⟩
  · rw [show ((2 : Nat) : Int) = (2 : Int) from rfl] at b c
    rw [b, c]
    rcases nm_step S (0 + 2) 2 (by omega) (by omega) a with ⟨a2, b2, c2⟩ | ⟨a2, b2⟩
    · rw [show ((2 : Nat) : Int) = (2 : Int) from rfl] at b2 c2
      rw [b2, c2]
      refine ⟨⟨a2, fun q => ?_, fun q => Or.inr ?_⟩, fun q => ?_⟩
      · have q : S.length = 4 := by simpa using q
        rw [q]
      · have q : ¬ S.length = 4 := by simpa using q
        show 0 + 2 + 2 < S.length
        omega
      · unfold cpOf
        rw [List.drop_zero]
    · rw [show ((2 : Nat) : Int) = (2 : Int) from rfl] at b2
      rw [b2]
      exact ⟨Rdn.bad (decide_eq_false (by omega)) a (by decide), fun q => by omega⟩
  · rw [show ((2 : Nat) : Int) = (2 : Int) from rfl] at b
    rw [b, nm_bad _ _ _ (by show ¬ (7 : Int) = 0; decide)]
    exact ⟨Rdn.bad (decide_eq_false (by omega)) (Nat.zero_le _) (by decide), fun q => by omega⟩

theorem ro_ways (S : List UInt8) : Rdn S (decide (4 ≤ S.length)) (roS S (0, 0, -1)) ∧ (4 ≤ S.length → roV S (0, 0, -1) = ogOf S) := by
  unfold roS roV
  rcases nm_step S 0 3 (by omega) (by omega) (Nat.zero_le _) with ⟨a, b, c⟩ | ⟨a, b⟩
  · rw [show ((3 : Nat) : Int) = (3 : Int) from rfl] at b c
    rw [b, c]
    rcases nm_step S (0 + 3) 1 (by omega) (by omega) a with ⟨a2, b2, c2⟩ | ⟨a2, b2⟩
    · rw [show ((1 : Nat) : Int) = (1 : Int) from rfl] at b2 c2
      obtain ⟨r1, r2⟩ := rs_at S (0 + 3 + 1) a2
      rw [b2, c2, r1, r2]
      refine ⟨⟨Nat.le_refl _, fun _ => rfl, fun q => absurd (of_decide_eq_false q) (by omega)⟩, fun _ => ?_⟩
      unfold ogOf
      rw [List.drop_zero]
    · rw [show ((1 : Nat) : Int) = (1 : Int) from rfl] at b2
      rw [b2, rs_bad _ _ (by show (7 : Int) ≠ 0; decide)]
      exact ⟨Rdn.bad (decide_eq_false (by omega)) a (by decide), fun q => by omega⟩
  · rw [show ((3 : Nat) : Int) = (3 : Int) from rfl] at b
    rw [b, nm_bad _ _ _ (by show ¬ (7 : Int) = 0; decide), rs_bad _ _ (by show (7 : Int) ≠ 0; decide)]
    exact ⟨Rdn.bad (decide_eq_false (by omega)) (Nat.zero_le _) (by decide), fun q => by omega⟩

theorem rm_ways (S : List UInt8) : Rdn S (decide (mgM S + 7 ≤ S.length ∧ S.length = mgM S + 7 + mgO S)) (rmS S (0, 0, -1)) ∧ (mgM S + 7 ≤ S.length ∧ S.length = mgM S + 7 + mgO S → rmV S (0, 0, -1) = mgOf S) := by
  have hM1 : 1 ≤ mgM S := by unfold mgM; omega
  unfold rmS rmV rm5 rm4 rm3 rm2 rm1 rmM
  have n7 : ¬ (7 : Int) = 0 := by decide
  rcases nm_step S 0 1 (by omega) (by omega) (Nat.zero_le _) with ⟨a, b, c⟩ | ⟨a, b⟩
  · rw [show ((1 : Nat) : Int) = (1 : Int) from rfl] at b c
    rw [b, c, List.drop_zero, show max (beN (S.take 1)) 1 = mgM S from rfl]
    rcases nm_step S (0 + 1) 1 (by omega) (by omega) a with ⟨a2, b2, c2⟩ | ⟨a2, b2⟩
    · rw [show ((1 : Nat) : Int) = (1 : Int) from rfl] at b2 c2
      rw [b2, c2]
      rcases tk_step S (0 + 1 + 1) (mgM S - 1) a2 with ⟨a3, b3⟩ | ⟨a3, b3⟩
      · rw [b3]
        dsimp only
        rcases nm_step S (0 + 1 + 1 + (mgM S - 1)) 1 (by omega) (by omega) a3 with ⟨a4, b4, c4⟩ | ⟨a4, b4⟩
        · rw [show ((1 : Nat) : Int) = (1 : Int) from rfl] at b4 c4
          rw [b4, c4]
          rcases nm_step S (0 + 1 + 1 + (mgM S - 1) + 1) 4 (by omega) (by omega) a4 with ⟨a5, b5, c5⟩ | ⟨a5, b5⟩
          · rw [show ((4 : Nat) : Int) = (4 : Int) from rfl] at b5 c5
            rw [b5, c5]
            rcases nm_step S (0 + 1 + 1 + (mgM S - 1) + 1 + 4) 1 (by omega) (by omega) a5 with ⟨a6, b6, c6⟩ | ⟨a6, b6⟩
            · rw [show ((1 : Nat) : Int) = (1 : Int) from rfl] at b6 c6
              have e6 : 0 + 1 + 1 + (mgM S - 1) + 1 + 4 = mgM S + 6 := by omega
              have e5 : 0 + 1 + 1 + (mgM S - 1) + 1 = mgM S + 2 := by omega
              have e4 : 0 + 1 + 1 + (mgM S - 1) = mgM S + 1 := by omega
              rw [e6] at b6 c6 a6
              rw [e6, b6, c6, show beN ((S.drop (mgM S + 6)).take 1) = mgO S from rfl]
              rcases tk_step S (mgM S + 6 + 1) (mgO S) a6 with ⟨a7, b7⟩ | ⟨a7, b7⟩
              · rw [b7]
                dsimp only
                refine ⟨⟨a7, fun q => ?_, fun q => Or.inr ?_⟩, fun q => ?_⟩
                · simp only [decide_eq_true_eq] at q
                  rw [q.2]
                · simp only [decide_eq_false_iff_not] at q
                  show mgM S + 6 + 1 + mgO S < S.length
                  omega
                · unfold mgOf
                  rw [e5, e4]
              · rw [b7]
                exact ⟨Rdn.bad (decide_eq_false (by omega)) a6 n7, fun q => by omega⟩
            · rw [show ((1 : Nat) : Int) = (1 : Int) from rfl] at b6
              rw [b6, tk_bad _ _ _ n7]
              exact ⟨Rdn.bad (decide_eq_false (by omega)) a5 n7, fun q => by omega⟩
          · rw [show ((4 : Nat) : Int) = (4 : Int) from rfl] at b5
            rw [b5, nm_bad _ _ _ n7, tk_bad _ _ _ n7]
            exact ⟨Rdn.bad (decide_eq_false (by omega)) a4 n7, fun q => by omega⟩
        · rw [show ((1 : Nat) : Int) = (1 : Int) from rfl] at b4
          rw [b4, nm_bad _ _ _ n7, nm_bad _ _ _ n7, tk_bad _ _ _ n7]
          exact ⟨Rdn.bad (decide_eq_false (by omega)) a3 n7, fun q => by omega⟩
      · rw [b3]
        dsimp only
        rw [nm_bad _ _ _ n7, nm_bad _ _ _ n7, nm_bad _ _ _ n7, tk_bad _ _ _ n7]
        exact ⟨Rdn.bad (decide_eq_false (by omega)) a2 n7, fun q => by omega⟩
    · rw [show ((1 : Nat) : Int) = (1 : Int) from rfl] at b2
      rw [b2, tk_bad _ _ _ n7, nm_bad _ _ _ n7, nm_bad _ _ _ n7, nm_bad _ _ _ n7, tk_bad _ _ _ n7]
      exact ⟨Rdn.bad (decide_eq_false (by omega)) a n7, fun q => by omega⟩
  · rw [show ((1 : Nat) : Int) = (1 : Int) from rfl] at b
    rw [b, nm_bad _ _ _ n7, tk_bad _ _ _ n7, nm_bad _ _ _ n7, nm_bad _ _ _ n7, nm_bad _ _ _ n7, tk_bad _ _ _ n7]
    exact ⟨Rdn.bad (decide_eq_false (by omega)) (Nat.zero_le _) n7, fun q => by omega⟩

theorem rest_ways (S : List UInt8) : Rdn S true (rsS S (0, 0, -1)) ∧ rsV S (0, 0, -1) = S := by
  obtain ⟨r1, r2⟩ := rs_at S 0 (Nat.zero_le _)
  rw [r1, r2]
  exact ⟨⟨Nat.le_refl _, fun _ => rfl, fun q => by cases q⟩, rfl⟩

end Go.Proofs.YtocgnbbnaamjjaaGreatDoor

namespace Go.Proofs.YtocgnbbnaamjjaaGreatDoor
set_option linter.unusedVariables false
set_option linter.unusedSimpArgs false

theorem byT (b : ByteArray) : (⟨b.data.toList.toArray⟩ : ByteArray) = b := by cases b; simp

theorem take_l {α : Type} (l m : List α) (n : Nat) (h : n = l.length) : (l ++ m).take n = l := by subst h; simp

theorem drop_l {α : Type} (l m : List α) (n k : Nat) (h : n = l.length + k) : (l ++ m).drop n = m.drop k := by
  subst h
  rw [← List.drop_drop]
  simp

theorem nmOf_W (x : Nm) (h0 : 0 ≤ x.su) (h1 : x.su < 256) : nmOf (nmW x) = x := by
  obtain ⟨su, id⟩ := x
  unfold nmOf nmW
  simp only at h0 h1 ⊢
  rw [take_l _ _ _ (by rw [putL_length]), drop_l _ _ 1 0 (by rw [putL_length]), List.drop_zero, byT, beN_putL_fits _ _ (by omega)]
  congr 1
  omega

theorem cpOf_W (x : Cp) (h : (0 ≤ x.h ∧ x.h < 65536) ∧ (0 ≤ x.o ∧ x.o < 65536)) : cpOf (cpW x) = x := by
  obtain ⟨a, b⟩ := x
  unfold cpOf cpW
  simp only at h ⊢
  rw [take_l _ _ _ (by rw [putL_length]), drop_l _ _ 2 0 (by rw [putL_length]), List.drop_zero, List.take_of_length_le (by rw [putL_length]; omega), beN_putL_fits _ _ (by omega), beN_putL_fits _ _ (by omega)]
  congr 1 <;> omega

theorem ogOf_W (x : Og) (h : (0 ≤ x.ou ∧ x.ou < 16777216) ∧ (0 ≤ x.su ∧ x.su < 256)) : ogOf (ogW x) = x := by
  obtain ⟨a, b, c⟩ := x
  unfold ogOf ogW
  simp only at h ⊢
  rw [List.append_assoc, take_l _ _ _ (by rw [putL_length]), drop_l _ _ 3 0 (by rw [putL_length]), List.drop_zero, take_l _ _ _ (by rw [putL_length]), drop_l _ _ 4 1 (by rw [putL_length]), drop_l _ _ 1 0 (by rw [putL_length]), List.drop_zero, byT, beN_putL_fits _ _ (by omega), beN_putL_fits _ _ (by omega)]
  congr 1 <;> omega

theorem mgM_W (x : Mg) (h : 1 ≤ x.ai.size ∧ x.ai.size ≤ 31) : mgM (mgW x) = 1 + x.ai.size := by
  unfold mgM mgW
  rw [take_l _ _ _ (by rw [putL_length]), beN_putL_fits _ _ (by omega)]
  omega

theorem mgO_W (x : Mg) (h : 1 ≤ x.ai.size ∧ x.ai.size ≤ 31) (h2 : x.oid.size ≤ 128) : mgO (mgW x) = x.oid.size := by
  unfold mgO
  rw [mgM_W x h]
  unfold mgW nmW mgN
  simp only
  have hz : x.ai.data.toList.length = x.ai.size := by simp
  rw [drop_l _ _ _ (6 + x.ai.size) (by rw [putL_length]; omega), drop_l _ _ _ 5 (by rw [List.length_append, putL_length, hz]; omega), drop_l _ _ _ 4 (by rw [putL_length]), drop_l _ _ _ 0 (by rw [putL_length]), List.drop_zero, take_l _ _ _ (by rw [putL_length]), beN_putL_fits _ _ (by omega)]

theorem mgOf_W (x : Mg) (h : (0 ≤ x.asb ∧ x.asb < 256) ∧ (1 ≤ x.ai.size ∧ x.ai.size ≤ 31) ∧ (1 ≤ x.fs ∧ x.fs ≤ 3) ∧ (0 ≤ x.fi ∧ x.fi < 4294967296) ∧ x.oid.size ≤ 128) : mgOf (mgW x) = x := by
  obtain ⟨h1, h2, h3, h4, h5⟩ := h
  unfold mgOf
  rw [mgM_W x h2, mgO_W x h2 h5]
  unfold mgW nmW mgN
  obtain ⟨sb, ai, fs, fi, oid⟩ := x
  simp only at h1 h2 h3 h4 h5 ⊢
  have hz : ai.data.toList.length = ai.size := by simp
  have hy : oid.data.toList.length = oid.size := by simp
  have e1 : ∀ m : List UInt8, (putL (1 + ai.size) 1 ++ ((putL sb.toNat 1 ++ ai.data.toList) ++ m)).drop 1 = putL sb.toNat 1 ++ (ai.data.toList ++ m) := fun m => by
    rw [drop_l _ _ _ 0 (by rw [putL_length]), List.drop_zero, List.append_assoc]
  have e2 : ∀ m : List UInt8, (putL (1 + ai.size) 1 ++ ((putL sb.toNat 1 ++ ai.data.toList) ++ m)).drop 2 = ai.data.toList ++ m := fun m => by
    rw [drop_l _ _ _ 1 (by rw [putL_length]), List.append_assoc, drop_l _ _ _ 0 (by rw [putL_length]), List.drop_zero]
  have e3 : ∀ (m : List UInt8) (k : Nat), (putL (1 + ai.size) 1 ++ ((putL sb.toNat 1 ++ ai.data.toList) ++ m)).drop (1 + ai.size + (1 + k)) = m.drop k := fun m k => by
    rw [drop_l _ _ _ (1 + ai.size + k) (by rw [putL_length]; omega), drop_l _ _ _ k (by rw [List.length_append, putL_length, hz])]
  rw [e1, e2, e3 _ 0, show 1 + ai.size + 2 = 1 + ai.size + (1 + 1) from rfl, e3 _ 1, show 1 + ai.size + 7 = 1 + ai.size + (1 + 6) from rfl, e3 _ 6, List.drop_zero]
  rw [take_l _ _ _ (by rw [putL_length]), take_l _ _ _ (by rw [hz]; omega), take_l _ _ _ (by rw [putL_length])]
  rw [drop_l _ _ 1 0 (by rw [putL_length]), List.drop_zero, take_l _ _ _ (by rw [putL_length])]
  rw [drop_l _ _ 6 5 (by rw [putL_length]), drop_l _ _ 5 1 (by rw [putL_length]), drop_l _ _ 1 0 (by rw [putL_length]), List.drop_zero, List.take_of_length_le (by omega), byT, byT]
  rw [beN_putL_fits _ _ (by omega), beN_putL_fits _ _ (by omega), beN_putL_fits _ _ (by omega)]
  congr 1 <;> omega
section
variable (S : List UInt8)

theorem formK4 : formK 4 S = true := by simp [formK]

theorem formK5 : formK 5 S = true := by simp [formK]

theorem formK6 : formK 6 S = true := by simp [formK]

theorem formK7 : formK 7 S = decide (S.length = 4) := by simp [formK]

theorem formK8 : formK 8 S = decide (mgM S + 7 ≤ S.length ∧ S.length = mgM S + 7 + mgO S) := by simp [formK]

theorem formKo : formK 127 S = decide (4 ≤ S.length) := by simp [formK]

theorem goodK4 : goodK 4 S = okSt ⟨S.toArray⟩ := by simp [goodK]

theorem goodK5 : goodK 5 S = okSt ⟨S.toArray⟩ := by simp [goodK]

theorem goodK6 : goodK 6 S = okSt ⟨S.toArray⟩ := by simp [goodK]

theorem goodK7 : goodK 7 S = okCp (cpOf S) := by simp [goodK]

theorem goodK8 : goodK 8 S = okMg (mgOf S) := by simp [goodK]

theorem goodKo : goodK 127 S = okOg (ogOf S) := by simp [goodK]
end
section
variable (x : Ld) (s : ByteArray)

theorem addLd1 : addLd x ⟨1, s⟩ = { x with ch := nmOf s.data.toList } := by simp [addLd]

theorem addLd2 : addLd x ⟨2, s⟩ = { x with po := nmOf s.data.toList } := by simp [addLd]

theorem addLd3 : addLd x ⟨3, s⟩ = { x with tt := (beN s.data.toList : Nat) } := by simp [addLd]

theorem addLd4 : addLd x ⟨4, s⟩ = { x with de := x.de ++ [s] } := by simp [addLd]

theorem addLd5 : addLd x ⟨5, s⟩ = { x with ho := x.ho ++ [s] } := by simp [addLd]

theorem addLd6 : addLd x ⟨6, s⟩ = { x with sy := x.sy ++ [s] } := by simp [addLd]

theorem addLd7 : addLd x ⟨7, s⟩ = { x with ca := x.ca ++ [cpOf s.data.toList] } := by simp [addLd]

theorem addLd8 : addLd x ⟨8, s⟩ = { x with ma := x.ma ++ [mgOf s.data.toList] } := by simp [addLd]

theorem addLdo : addLd x ⟨127, s⟩ = { x with og := x.og ++ [ogOf s.data.toList] } := by simp [addLd]
end

/-- The records behind the first three. -/
def ldRest (x : Ld) : List Tl := kTl 4 x.de ++ (kTl 5 x.ho ++ (kTl 6 x.sy ++ (x.ca.map cpTl ++ (x.ma.map mgTl ++ x.og.map ogTl))))

def ldT1 (x : Ld) : Tl := ⟨1, ⟨(nmW x.ch).toArray⟩⟩

def ldT2 (x : Ld) : Tl := ⟨2, ⟨(nmW x.po).toArray⟩⟩

def ldT3 (x : Ld) : Tl := ⟨3, ⟨(putL x.tt.toNat 2).toArray⟩⟩

theorem ldTls_rest (x : Ld) : ldTls x = ldT1 x :: ldT2 x :: ldT3 x :: ldRest x := by
  simp [ldTls, ldHead, ldRest, ldT1, ldT2, ldT3, List.append_assoc]

theorem cntK_map {α : Type} (f : α → Tl) (j k : Int) (l : List α) (h : ∀ y, (f y).k = j) : cntK k (l.map f) = if j = k then l.length else 0 := by
  induction l with
  | nil => simp [cntK]
  | cons a l ih =>
    rw [List.map_cons, cntK_cons, ih, h]
    split <;> simp <;> omega

theorem cntK_rest (x : Ld) (k : Int) : cntK k (ldRest x) = (if (4 : Int) = k then x.de.length else 0) + ((if (5 : Int) = k then x.ho.length else 0) + ((if (6 : Int) = k then x.sy.length else 0) + ((if (7 : Int) = k then x.ca.length else 0) + ((if (8 : Int) = k then x.ma.length else 0) + (if (127 : Int) = k then x.og.length else 0))))) := by
  unfold ldRest kTl
  rw [cntK_app, cntK_app, cntK_app, cntK_app, cntK_app, cntK_map _ 4 _ _ (fun _ => rfl), cntK_map _ 5 _ _ (fun _ => rfl), cntK_map _ 6 _ _ (fun _ => rfl), cntK_map _ 7 _ _ (fun _ => rfl), cntK_map _ 8 _ _ (fun _ => rfl), cntK_map _ 127 _ _ (fun _ => rfl)]

theorem okSt_txt (s : ByteArray) : okSt ⟨s.data.toList.toArray⟩ = okSt s := by rw [byT]

theorem ok_rest (x : Ld) (hok : okLd x = true) : OkTs (ldT1 x) (ldT2 x) (ldT3 x) (ldRest x) := by
  obtain ⟨o1, o2, o3, o4, o5, o6, o7, o8, o9⟩ := okLd_all hok
  have n1 := okNm_all o1
  have n2 := okNm_all o2
  refine ⟨rfl, rfl, rfl, ?_, ?_, ?_, ?_, ?_, ?_, ?_⟩
  · show 1 ≤ (nmW x.ch).length; rw [nmW_len]; omega
  · show okNm (nmOf (nmW x.ch)) = true; rw [nmOf_W _ (by omega) (by omega)]; exact o1
  · show 1 ≤ (nmW x.po).length; rw [nmW_len]; omega
  · show okNm (nmOf (nmW x.po)) = true; rw [nmOf_W _ (by omega) (by omega)]; exact o2
  · show (putL x.tt.toNat 2).length = 2; rw [putL_length]
  · intro t ht
    unfold ldRest kTl at ht
    simp only [List.mem_append, List.mem_map] at ht
    rcases ht with ⟨y, hy, rfl⟩ | ⟨y, hy, rfl⟩ | ⟨y, hy, rfl⟩ | ⟨y, hy, rfl⟩ | ⟨y, hy, rfl⟩ | ⟨y, hy, rfl⟩
    · exact ⟨by show (4 : Int) ≤ 4; decide, Or.inl (by show (4 : Int) ≤ 8; decide), formK4 _, by show goodK 4 _ = true; rw [goodK4, okSt_txt]; exact o4.2 y hy⟩
    · exact ⟨by show (4 : Int) ≤ 5; decide, Or.inl (by show (5 : Int) ≤ 8; decide), formK5 _, by show goodK 5 _ = true; rw [goodK5, okSt_txt]; exact o5.2 y hy⟩
    · exact ⟨by show (4 : Int) ≤ 6; decide, Or.inl (by show (6 : Int) ≤ 8; decide), formK6 _, by show goodK 6 _ = true; rw [goodK6, okSt_txt]; exact o6.2 y hy⟩
    · have q := okCp_all (o7.2 y hy)
      exact ⟨by show (4 : Int) ≤ 7; decide, Or.inl (by show (7 : Int) ≤ 8; decide), by show formK 7 (cpW y) = true; rw [formK7, cpW_len]; rfl, by show goodK 7 (cpW y) = true; rw [goodK7, cpOf_W y q]; exact o7.2 y hy⟩
    · have q := okMg_all (o8.2 y hy)
      exact ⟨by show (4 : Int) ≤ 8; decide, Or.inl (by show (8 : Int) ≤ 8; decide), by show formK 8 (mgW y) = true; rw [formK8, mgM_W y q.2.1, mgO_W y q.2.1 q.2.2.2.2, mgW_len]; simp; omega, by show goodK 8 (mgW y) = true; rw [goodK8, mgOf_W y q]; exact o8.2 y hy⟩
    · have q := okOg_all (o9.2 y hy)
      exact ⟨by show (4 : Int) ≤ 127; decide, Or.inr rfl, by show formK 127 (ogW y) = true; rw [formKo, ogW_len]; simp, by show goodK 127 (ogW y) = true; rw [goodKo, ogOf_W y ⟨q.1, q.2.1⟩]; exact o9.2 y hy⟩
  · intro k hk
    rw [cntK_rest]
    have l4 := o4.1
    have l5 := o5.1
    have l6 := o6.1
    have l7 := o7.1
    have l8 := o8.1
    have l9 := o9.1
    clear o1 o2 o3 o4 o5 o6 o7 o8 o9 hok n1 n2
    (repeat' split) <;> omega

theorem fold_de (l : List ByteArray) : ∀ x : Ld, (kTl 4 l).foldl addLd x = { x with de := x.de ++ l } := by
  induction l with
  | nil => intro x; simp [kTl]
  | cons a l ih => intro x; show (kTl 4 l).foldl addLd (addLd x ⟨4, a⟩) = _; rw [ih, addLd4]; simp

theorem fold_ho (l : List ByteArray) : ∀ x : Ld, (kTl 5 l).foldl addLd x = { x with ho := x.ho ++ l } := by
  induction l with
  | nil => intro x; simp [kTl]
  | cons a l ih => intro x; show (kTl 5 l).foldl addLd (addLd x ⟨5, a⟩) = _; rw [ih, addLd5]; simp

theorem fold_sy (l : List ByteArray) : ∀ x : Ld, (kTl 6 l).foldl addLd x = { x with sy := x.sy ++ l } := by
  induction l with
  | nil => intro x; simp [kTl]
  | cons a l ih => intro x; show (kTl 6 l).foldl addLd (addLd x ⟨6, a⟩) = _; rw [ih, addLd6]; simp

theorem fold_ca (l : List Cp) (h : ∀ y ∈ l, okCp y = true) : ∀ x : Ld, (l.map cpTl).foldl addLd x = { x with ca := x.ca ++ l } := by
  induction l with
  | nil => intro x; simp
  | cons a l ih =>
    intro x
    show (l.map cpTl).foldl addLd (addLd x ⟨7, ⟨(cpW a).toArray⟩⟩) = _
    rw [ih (fun y hy => h y (by simp [hy])), addLd7]
    show ({ x with ca := (x.ca ++ [cpOf (cpW a)]) ++ l } : Ld) = _
    rw [cpOf_W a (okCp_all (h a (by simp)))]
    simp

theorem fold_ma (l : List Mg) (h : ∀ y ∈ l, okMg y = true) : ∀ x : Ld, (l.map mgTl).foldl addLd x = { x with ma := x.ma ++ l } := by
  induction l with
  | nil => intro x; simp
  | cons a l ih =>
    intro x
    show (l.map mgTl).foldl addLd (addLd x ⟨8, ⟨(mgW a).toArray⟩⟩) = _
    rw [ih (fun y hy => h y (by simp [hy])), addLd8]
    show ({ x with ma := (x.ma ++ [mgOf (mgW a)]) ++ l } : Ld) = _
    rw [mgOf_W a (okMg_all (h a (by simp)))]
    simp

theorem fold_og (l : List Og) (h : ∀ y ∈ l, okOg y = true) : ∀ x : Ld, (l.map ogTl).foldl addLd x = { x with og := x.og ++ l } := by
  induction l with
  | nil => intro x; simp
  | cons a l ih =>
    intro x
    have q := okOg_all (h a (by simp))
    show (l.map ogTl).foldl addLd (addLd x ⟨127, ⟨(ogW a).toArray⟩⟩) = _
    rw [ih (fun y hy => h y (by simp [hy])), addLdo]
    show ({ x with og := (x.og ++ [ogOf (ogW a)]) ++ l } : Ld) = _
    rw [ogOf_W a ⟨q.1, q.2.1⟩]
    simp

/-- What is told is heard. -/
theorem ldVal_tls (x : Ld) (hok : okLd x = true) : ldVal (ldTls x) = x := by
  obtain ⟨o1, o2, o3, o4, o5, o6, o7, o8, o9⟩ := okLd_all hok
  have n1 := okNm_all o1
  have n2 := okNm_all o2
  rw [ldTls_rest]
  unfold ldVal ldRest
  simp only [List.foldl_cons, List.foldl_append]
  have e1 : addLd (addLd (addLd zLd (ldT1 x)) (ldT2 x)) (ldT3 x) = ⟨x.ch, x.po, x.tt, [], [], [], [], [], []⟩ := by
    unfold ldT1 ldT2 ldT3
    rw [addLd1, addLd2, addLd3]
    show (⟨nmOf (nmW x.ch), nmOf (nmW x.po), (beN (putL x.tt.toNat 2) : Nat), [], [], [], [], [], []⟩ : Ld) = _
    rw [nmOf_W _ (by omega) (by omega), nmOf_W _ (by omega) (by omega), beN_putL_fits _ _ (by omega)]
    congr 1
    omega
  rw [e1, fold_de, fold_ho, fold_sy, fold_ca _ o7.2, fold_ma _ o8.2, fold_og _ o9.2]
  simp

theorem accept_tls (x : Ld) (hok : okLd x = true) : accept (ldTls x) := by
  rw [ldTls_rest]
  exact accept_of _ _ _ _ (ok_rest x hok)

theorem rdLd_W (x : Ld) (hok : okLd x = true) : rdLd (ldW x) = .ok x := by
  unfold rdLd ldW
  rw [rdAll_wrote _ (ldTls_ok x hok)]
  show ldGo _ [] zLd _ _ = _
  rw [ldGo_acc]
  exact ⟨accept_tls x hok, (ldVal_tls x hok).symm⟩

/-- What is told of it in lists may be. -/
def LdOk (x : Ld) : Prop := (∀ y ∈ x.de, okSt y = true) ∧ (∀ y ∈ x.ho, okSt y = true) ∧ (∀ y ∈ x.sy, okSt y = true) ∧ (∀ y ∈ x.ca, okCp y = true) ∧ (∀ y ∈ x.ma, okMg y = true) ∧ (∀ y ∈ x.og, okOg y = true)

def costL (x : Ld) : Nat := (tlWs (ldRest x)).length

theorem kTl_app (k : Int) (l m : List ByteArray) : kTl k (l ++ m) = kTl k l ++ kTl k m := by simp [kTl]

theorem tlWs_one (t : Tl) : (tlWs [t]).length = 2 + t.t.size := by rw [tlWs_cons, List.length_append, tlW_len]; simp [tlWs]

theorem txT_len (t : Tl) : (txT t).length = t.t.size := by simp

theorem add_step (x : Ld) (t : Tl) (h : okR t) : (addLd x t).ch = x.ch ∧ (addLd x t).po = x.po ∧ (addLd x t).tt = x.tt ∧
    (addLd x t).de.length = x.de.length + cntK 4 [t] ∧ (addLd x t).ho.length = x.ho.length + cntK 5 [t] ∧ (addLd x t).sy.length = x.sy.length + cntK 6 [t] ∧ (addLd x t).ca.length = x.ca.length + cntK 7 [t] ∧ (addLd x t).ma.length = x.ma.length + cntK 8 [t] ∧ (addLd x t).og.length = x.og.length + cntK 127 [t] ∧
    (LdOk x → LdOk (addLd x t)) ∧ costL (addLd x t) = costL x + (2 + t.t.size) := by
  obtain ⟨k, s⟩ := t
  obtain ⟨h1, h2, h3, h4⟩ := h
  simp only at h1 h2 h3 h4
  have hk : k = 4 ∨ k = 5 ∨ k = 6 ∨ k = 7 ∨ k = 8 ∨ k = 127 := by omega
  have hs : (txT ⟨k, s⟩).length = s.size := txT_len _
  simp only [txT] at hs h3 h4
  rcases hk with rfl | rfl | rfl | rfl | rfl | rfl
  · rw [goodK4, okSt_txt] at h4
    rw [addLd4]
    refine ⟨rfl, rfl, rfl, by simp [cntK], by simp [cntK], by simp [cntK], by simp [cntK], by simp [cntK], by simp [cntK], ?_, ?_⟩
    · rintro ⟨q1, q2, q3, q4, q5, q6⟩
      refine ⟨fun y hy => ?_, q2, q3, q4, q5, q6⟩
      rcases List.mem_append.1 hy with hy | hy
      · exact q1 y hy
      · rw [List.mem_singleton.1 hy]; exact h4
    · unfold costL ldRest
      simp only [kTl_app, tlWs_app, List.length_append]
      have := tlWs_one ⟨4, s⟩
      show _ + (tlWs [⟨4, s⟩]).length + _ = _
      simp only at this
      omega
  · rw [goodK5, okSt_txt] at h4
    rw [addLd5]
    refine ⟨rfl, rfl, rfl, by simp [cntK], by simp [cntK], by simp [cntK], by simp [cntK], by simp [cntK], by simp [cntK], ?_, ?_⟩
    · rintro ⟨q1, q2, q3, q4, q5, q6⟩
      refine ⟨q1, fun y hy => ?_, q3, q4, q5, q6⟩
      rcases List.mem_append.1 hy with hy | hy
      · exact q2 y hy
      · rw [List.mem_singleton.1 hy]; exact h4
    · unfold costL ldRest
      simp only [kTl_app, tlWs_app, List.length_append]
      have := tlWs_one ⟨5, s⟩
      show _ + (_ + (tlWs [⟨5, s⟩]).length + _) = _
      simp only at this
      omega
  · rw [goodK6, okSt_txt] at h4
    rw [addLd6]
    refine ⟨rfl, rfl, rfl, by simp [cntK], by simp [cntK], by simp [cntK], by simp [cntK], by simp [cntK], by simp [cntK], ?_, ?_⟩
    · rintro ⟨q1, q2, q3, q4, q5, q6⟩
      refine ⟨q1, q2, fun y hy => ?_, q4, q5, q6⟩
      rcases List.mem_append.1 hy with hy | hy
      · exact q3 y hy
      · rw [List.mem_singleton.1 hy]; exact h4
    · unfold costL ldRest
      simp only [kTl_app, tlWs_app, List.length_append]
      have := tlWs_one ⟨6, s⟩
      show _ + (_ + (_ + (tlWs [⟨6, s⟩]).length + _)) = _
      simp only at this
      omega
  · rw [goodK7] at h4
    rw [formK7, decide_eq_true_eq] at h3
    rw [addLd7]
    refine ⟨rfl, rfl, rfl, by simp [cntK], by simp [cntK], by simp [cntK], by simp [cntK], by simp [cntK], by simp [cntK], ?_, ?_⟩
    · rintro ⟨q1, q2, q3, q4, q5, q6⟩
      refine ⟨q1, q2, q3, fun y hy => ?_, q5, q6⟩
      rcases List.mem_append.1 hy with hy | hy
      · exact q4 y hy
      · rw [List.mem_singleton.1 hy]; exact h4
    · unfold costL ldRest
      simp only [List.map_append, List.map_cons, List.map_nil, tlWs_app, List.length_append]
      have := tlWs_one (cpTl (cpOf s.data.toList))
      have e : (cpTl (cpOf s.data.toList)).t.size = 4 := by show (⟨(cpW _).toArray⟩ : ByteArray).size = 4; rw [bysz, cpW_len]
      omega
  · rw [goodK8] at h4
    rw [formK8, decide_eq_true_eq] at h3
    rw [addLd8]
    refine ⟨rfl, rfl, rfl, by simp [cntK], by simp [cntK], by simp [cntK], by simp [cntK], by simp [cntK], by simp [cntK], ?_, ?_⟩
    · rintro ⟨q1, q2, q3, q4, q5, q6⟩
      refine ⟨q1, q2, q3, q4, fun y hy => ?_, q6⟩
      rcases List.mem_append.1 hy with hy | hy
      · exact q5 y hy
      · rw [List.mem_singleton.1 hy]; exact h4
    · unfold costL ldRest
      simp only [List.map_append, List.map_cons, List.map_nil, tlWs_app, List.length_append]
      have := tlWs_one (mgTl (mgOf s.data.toList))
      have hm : 1 ≤ mgM s.data.toList := by unfold mgM; omega
      have e : (mgTl (mgOf s.data.toList)).t.size = s.size := by
        show (⟨(mgW _).toArray⟩ : ByteArray).size = _
        rw [bysz, mgW_len]
        unfold mgOf
        simp only [bysz, List.length_take, List.length_drop]
        omega
      omega
  · rw [goodKo] at h4
    rw [formKo, decide_eq_true_eq] at h3
    rw [addLdo]
    refine ⟨rfl, rfl, rfl, by simp [cntK], by simp [cntK], by simp [cntK], by simp [cntK], by simp [cntK], by simp [cntK], ?_, ?_⟩
    · rintro ⟨q1, q2, q3, q4, q5, q6⟩
      refine ⟨q1, q2, q3, q4, q5, fun y hy => ?_⟩
      rcases List.mem_append.1 hy with hy | hy
      · exact q6 y hy
      · rw [List.mem_singleton.1 hy]; exact h4
    · unfold costL ldRest
      simp only [List.map_append, List.map_cons, List.map_nil, tlWs_app, List.length_append]
      have := tlWs_one (ogTl (ogOf s.data.toList))
      have e : (ogTl (ogOf s.data.toList)).t.size = s.size := by
        show (⟨(ogW _).toArray⟩ : ByteArray).size = _
        rw [bysz, ogW_len]
        unfold ogOf
        simp only [bysz, List.length_drop]
        omega
      omega

theorem add_all : ∀ (r : List Tl) (x : Ld), (∀ t ∈ r, okR t) → (r.foldl addLd x).ch = x.ch ∧ (r.foldl addLd x).po = x.po ∧ (r.foldl addLd x).tt = x.tt ∧
    (r.foldl addLd x).de.length = x.de.length + cntK 4 r ∧ (r.foldl addLd x).ho.length = x.ho.length + cntK 5 r ∧ (r.foldl addLd x).sy.length = x.sy.length + cntK 6 r ∧ (r.foldl addLd x).ca.length = x.ca.length + cntK 7 r ∧ (r.foldl addLd x).ma.length = x.ma.length + cntK 8 r ∧ (r.foldl addLd x).og.length = x.og.length + cntK 127 r ∧
    (LdOk x → LdOk (r.foldl addLd x)) ∧ costL (r.foldl addLd x) = costL x + (tlWs r).length
  | [], x, _ => by simp [cntK, tlWs]
  | t :: r, x, h => by
    obtain ⟨a1, a2, a3, a4, a5, a6, a7, a8, a9, a10, a11⟩ := add_step x t (h t (by simp))
    obtain ⟨b1, b2, b3, b4, b5, b6, b7, b8, b9, b10, b11⟩ := add_all r (addLd x t) (fun u hu => h u (by simp [hu]))
    have e : ∀ k, cntK k (t :: r) = cntK k [t] + cntK k r := fun k => by rw [show t :: r = [t] ++ r from rfl, cntK_app]
    rw [List.foldl_cons, e, e, e, e, e, e, tlWs_cons, List.length_append, tlW_len]
    exact ⟨b1.trans a1, b2.trans a2, b3.trans a3, by omega, by omega, by omega, by omega, by omega, by omega, fun q => b10 (a10 q), by omega⟩

/-- What is heard is right. -/
theorem ldVal_ok (ts : List Tl) (h0 : ∀ t ∈ ts, 0 < t.k) (h : accept ts) : okLd (ldVal ts) = true ∧ (tlWrite (ldTls (ldVal ts))).length = (tlWrite ts).length := by
  obtain ⟨t1, t2, t3, r, rfl, ho⟩ := accept_to ts h0 h
  obtain ⟨k1, s1⟩ := t1
  obtain ⟨k2, s2⟩ := t2
  obtain ⟨k3, s3⟩ := t3
  obtain ⟨rfl, rfl, rfl, f1, g1, f2, g2, f3, hr, hc⟩ := ho
  have e1 : ldVal (⟨1, s1⟩ :: ⟨2, s2⟩ :: ⟨3, s3⟩ :: r) = r.foldl addLd ⟨nmOf s1.data.toList, nmOf s2.data.toList, (beN s3.data.toList : Nat), [], [], [], [], [], []⟩ := by
    unfold ldVal
    rw [List.foldl_cons, List.foldl_cons, List.foldl_cons, addLd1, addLd2, addLd3]
    rfl
  obtain ⟨b1, b2, b3, b4, b5, b6, b7, b8, b9, b10, b11⟩ := add_all r ⟨nmOf s1.data.toList, nmOf s2.data.toList, (beN s3.data.toList : Nat), [], [], [], [], [], []⟩ hr
  rw [e1]
  generalize r.foldl addLd _ = y at *
  obtain ⟨c1, c2, c3, c4, c5, c6⟩ := b10 ⟨by simp, by simp, by simp, by simp, by simp, by simp⟩
  have l4 := hc 4 (by decide)
  have l5 := hc 5 (by decide)
  have l6 := hc 6 (by decide)
  have l7 := hc 7 (by decide)
  have l8 := hc 8 (by decide)
  have l9 := hc 127 (by decide)
  simp at l4 l5 l6 l7 l8 l9 b4 b5 b6 b7 b8 b9
  have ht : fitI 2 y.tt = true := by
    rw [b3]
    have q := beN_lt s3.data.toList
    have f3' : s3.data.toList.length = 2 := f3
    rw [f3'] at q
    unfold fitI
    have e : (256 : Int) ^ 2 = 65536 := by decide
    simp only [e, Bool.and_eq_true, decide_eq_true_eq]
    omega
  constructor
  · unfold okLd few
    simp only [Bool.and_eq_true, decide_eq_true_eq, List.all_eq_true]
    rw [b1, b2]
    exact ⟨g1, g2, ht, ⟨by omega, c1⟩, ⟨by omega, c2⟩, ⟨by omega, c3⟩, ⟨by omega, c4⟩, by omega, c5, by omega, c6⟩
  · unfold tlWrite
    rw [List.length_append, List.length_append, ldTls_rest]
    rw [tlWs_cons, tlWs_cons, tlWs_cons, tlWs_cons, tlWs_cons, tlWs_cons]
    simp only [List.length_append, tlW_len]
    have q1 : (ldT1 y).t.size = s1.size := by
      show (⟨(nmW y.ch).toArray⟩ : ByteArray).size = _
      have f1' : 1 ≤ s1.data.toList.length := f1
      have hs : s1.data.toList.length = s1.size := by simp
      rw [bysz, nmW_len, b1]
      simp only [nmOf, bysz, List.length_drop]
      omega
    have q2 : (ldT2 y).t.size = s2.size := by
      show (⟨(nmW y.po).toArray⟩ : ByteArray).size = _
      have f2' : 1 ≤ s2.data.toList.length := f2
      have hs : s2.data.toList.length = s2.size := by simp
      rw [bysz, nmW_len, b2]
      simp only [nmOf, bysz, List.length_drop]
      omega
    have q3 : (ldT3 y).t.size = s3.size := by
      show (⟨(putL y.tt.toNat 2).toArray⟩ : ByteArray).size = _
      have f3' : s3.data.toList.length = 2 := f3
      have hs : s3.data.toList.length = s3.size := by simp
      rw [bysz, putL_length]
      omega
    have q4 : (tlWs (ldRest y)).length = (tlWs r).length := by
      have := b11
      unfold costL at this
      rw [this]
      simp [ldRest, kTl, tlWs]
    omega

/-- Two neighbours of unlike kinds may change places. -/
theorem add_swap (x : Ld) (u v : Tl) (hu : okR u) (hv : okR v) (h : u.k ≠ v.k) : addLd (addLd x u) v = addLd (addLd x v) u := by
  obtain ⟨k, s⟩ := u
  obtain ⟨j, r⟩ := v
  obtain ⟨h1, h2, -⟩ := hu
  obtain ⟨h3, h4, -⟩ := hv
  simp only at h h1 h2 h3 h4
  have hk : k = 4 ∨ k = 5 ∨ k = 6 ∨ k = 7 ∨ k = 8 ∨ k = 127 := by omega
  have hj : j = 4 ∨ j = 5 ∨ j = 6 ∨ j = 7 ∨ j = 8 ∨ j = 127 := by omega
  clear h1 h2 h3 h4
  rcases hk with rfl | rfl | rfl | rfl | rfl | rfl <;> rcases hj with rfl | rfl | rfl | rfl | rfl | rfl <;> first | exact absurd rfl h | simp only [addLd4, addLd5, addLd6, addLd7, addLd8, addLdo]

theorem swap_ok (x : Ld) (hok : okLd x = true) (a b : List Tl) (u v : Tl) (hs : ldRest x = a ++ u :: v :: b) (h : u.k ≠ v.k) :
    accept (ldT1 x :: ldT2 x :: ldT3 x :: (a ++ v :: u :: b)) ∧ ldVal (ldT1 x :: ldT2 x :: ldT3 x :: (a ++ v :: u :: b)) = x := by
  have ho := ok_rest x hok
  rw [hs] at ho
  have hu := ho.hr u (by simp)
  have hv := ho.hr v (by simp)
  constructor
  · refine accept_of _ _ _ _ ⟨ho.k1, ho.k2, ho.k3, ho.f1, ho.g1, ho.f2, ho.g2, ho.f3, ?_, ?_⟩
    · intro t ht
      refine ho.hr t ?_
      simp only [List.mem_append, List.mem_cons] at ht ⊢
      rcases ht with q | q | q | q
      · exact Or.inl q
      · exact Or.inr (Or.inr (Or.inl q))
      · exact Or.inr (Or.inl q)
      · exact Or.inr (Or.inr (Or.inr q))
    · intro k hk
      have := ho.hc k hk
      rw [cntK_app, cntK_cons, cntK_cons] at this ⊢
      omega
  · have e := ldVal_tls x hok
    rw [ldTls_rest, hs] at e
    unfold ldVal at e ⊢
    rw [List.foldl_cons, List.foldl_cons, List.foldl_cons, List.foldl_append, List.foldl_cons, List.foldl_cons] at e ⊢
    rw [add_swap _ _ _ hv hu (Ne.symm h)]
    exact e

end Go.Proofs.YtocgnbbnaamjjaaGreatDoor

