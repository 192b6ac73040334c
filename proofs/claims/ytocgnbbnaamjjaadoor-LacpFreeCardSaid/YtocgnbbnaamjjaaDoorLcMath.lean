/- 15: what is written is read, plainly; bytes that stand for nothing; both sides exchanged. -/
import Derived.Test.YtocgnbbnaamjjaaDoorLcP
namespace Go.Proofs.YtocgnbbnaamjjaaDoor
open Go.RowKit
set_option linter.unusedVariables false
set_option linter.unusedSimpArgs false

theorem sl_at (a b c : List UInt8) {p n : Nat} (hp : a.length = p) (hn : b.length = n) : sl (a ++ (b ++ c)) p n = b := by
  subst hp hn
  unfold sl
  rw [List.drop_left, List.take_left]

theorem sl_set (l : List UInt8) (k : Nat) (c : UInt8) (p n : Nat) (h : k < p ∨ p + n ≤ k) : sl (l.set k c) p n = sl l p n := by
  unfold sl
  apply List.ext_getElem?
  intro i
  rw [List.getElem?_take, List.getElem?_take]
  split
  · next hi => rw [List.getElem?_drop, List.getElem?_drop, List.getElem?_set_ne (by omega)]
  · rfl

/-- The bytes of six are the six. -/
theorem byX_nb6 (x : Nat → Nat) (hx : ∀ i, x i < 256) (i : Nat) (hi : i < 6) : byX (nb 6 x) i = x i := by
  unfold byX nb
  have h := hx i
  rw [List.getD_eq_getElem?_getD, List.getElem?_map, List.getElem?_range hi]
  show (UInt8.ofNat (x i)).toNat = x i
  rw [UInt8.toNat_ofNat']
  omega

def eqvPy (a b : Py) : Prop := a.sp = b.sp ∧ (∀ i, i < 6 → a.sy i = b.sy i) ∧ a.ke = b.ke ∧ a.pp = b.pp ∧ a.po = b.po ∧ a.st = b.st

def eqvLc (a b : Lc) : Prop := eqvPy a.a b.a ∧ eqvPy a.p b.p ∧ a.de = b.de

def eqvMk (a b : Mk) : Prop := a.re = b.re ∧ a.po = b.po ∧ (∀ i, i < 6 → a.sy i = b.sy i) ∧ a.tx = b.tx

theorem fit_back {n : Nat} {v : Int} (h : fitI n v = true) : ((beN (putL v.toNat n) : Nat) : Int) = v := by
  obtain ⟨h0, h1⟩ := fitI_all h
  have h2 : v.toNat < 256 ^ n := by
    have e : ((256 ^ n : Nat) : Int) = (256 : Int) ^ n := by simp
    omega
  rw [beN_putL_fits _ _ h2]
  omega

theorem okPy_all {p : Py} (h : okPy p = true) : fitI 2 p.sp = true ∧ fitI 2 p.ke = true ∧ fitI 2 p.pp = true ∧ fitI 2 p.po = true ∧ fitI 1 p.st = true := by
  unfold okPy at h
  simp only [Bool.and_eq_true] at h
  exact ⟨h.1.1, h.1.2.1, h.1.2.2.1, h.1.2.2.2, h.2⟩

theorem py_back (a c : List UInt8) (p : Py) (hp : okPy p = true) (hb : byPy p) {k : Nat} (hk : a.length = k) : eqvPy (pyAt (a ++ (pyL p ++ c)) k) p := by
  obtain ⟨h1, h2, h3, h4, h5⟩ := okPy_all hp
  have l2 : ∀ v, (putL v 2).length = 2 := fun v => putL_length v 2
  have l1 : ∀ v, (putL v 1).length = 1 := fun v => putL_length v 1
  have l6 : ∀ v, (nb 6 v).length = 6 := fun v => nb_len 6 v
  have s1 : sl (a ++ (pyL p ++ c)) k 2 = putL p.sp.toNat 2 := by
    have q := sl_at a (putL p.sp.toNat 2) (nb 6 p.sy ++ (putL p.ke.toNat 2 ++ (putL p.pp.toNat 2 ++ (putL p.po.toNat 2 ++ (putL p.st.toNat 1 ++ [0, 0, 0])))) ++ c) hk (l2 _)
    simpa only [pyL, List.append_assoc] using q
  have s2 : sl (a ++ (pyL p ++ c)) (k + 2) 6 = nb 6 p.sy := by
    have q := sl_at (a ++ putL p.sp.toNat 2) (nb 6 p.sy) (putL p.ke.toNat 2 ++ (putL p.pp.toNat 2 ++ (putL p.po.toNat 2 ++ (putL p.st.toNat 1 ++ [0, 0, 0]))) ++ c) (p := k + 2) (by rw [List.length_append, l2, hk]) (l6 _)
    simpa only [pyL, List.append_assoc] using q
  have s3 : sl (a ++ (pyL p ++ c)) (k + 8) 2 = putL p.ke.toNat 2 := by
    have q := sl_at (a ++ (putL p.sp.toNat 2 ++ nb 6 p.sy)) (putL p.ke.toNat 2) (putL p.pp.toNat 2 ++ (putL p.po.toNat 2 ++ (putL p.st.toNat 1 ++ [0, 0, 0])) ++ c) (p := k + 8) (by simp only [List.length_append, l2, l6, hk]) (l2 _)
    simpa only [pyL, List.append_assoc] using q
  have s4 : sl (a ++ (pyL p ++ c)) (k + 10) 2 = putL p.pp.toNat 2 := by
    have q := sl_at (a ++ (putL p.sp.toNat 2 ++ (nb 6 p.sy ++ putL p.ke.toNat 2))) (putL p.pp.toNat 2) (putL p.po.toNat 2 ++ (putL p.st.toNat 1 ++ [0, 0, 0]) ++ c) (p := k + 10) (by simp only [List.length_append, l2, l6, hk]) (l2 _)
    simpa only [pyL, List.append_assoc] using q
  have s5 : sl (a ++ (pyL p ++ c)) (k + 12) 2 = putL p.po.toNat 2 := by
    have q := sl_at (a ++ (putL p.sp.toNat 2 ++ (nb 6 p.sy ++ (putL p.ke.toNat 2 ++ putL p.pp.toNat 2)))) (putL p.po.toNat 2) (putL p.st.toNat 1 ++ [0, 0, 0] ++ c) (p := k + 12) (by simp only [List.length_append, l2, l6, hk]) (l2 _)
    simpa only [pyL, List.append_assoc] using q
  have s6 : sl (a ++ (pyL p ++ c)) (k + 14) 1 = putL p.st.toNat 1 := by
    have q := sl_at (a ++ (putL p.sp.toNat 2 ++ (nb 6 p.sy ++ (putL p.ke.toNat 2 ++ (putL p.pp.toNat 2 ++ putL p.po.toNat 2))))) (putL p.st.toNat 1) ([0, 0, 0] ++ c) (p := k + 14) (by simp only [List.length_append, l2, l6, hk]) (l1 _)
    simpa only [pyL, List.append_assoc] using q
  unfold eqvPy pyAt
  rw [s1, s2, s3, s4, s5, s6]
  exact ⟨fit_back h1, fun i hi => byX_nb6 p.sy hb i hi, fit_back h2, fit_back h3, fit_back h4, fit_back h5⟩

theorem okLc_all {x : Lc} (h : okLc x = true) : okPy x.a = true ∧ okPy x.p = true ∧ fitI 2 x.de = true := by
  unfold okLc at h
  simp only [Bool.and_eq_true] at h
  exact ⟨h.1, h.2.1, h.2.2⟩

theorem lc_want (x : Lc) : sl (lcL x) 0 2 = [1, 1] ∧ sl (lcL x) 2 2 = [1, 20] ∧ sl (lcL x) 22 2 = [2, 20] ∧ sl (lcL x) 42 2 = [3, 16] ∧ sl (lcL x) 44 2 = putL x.de.toNat 2 ∧ sl (lcL x) 58 2 = [0, 0] := by
  have la := pyL_len x.a
  have lp := pyL_len x.p
  have ld := putL_length x.de.toNat 2
  refine ⟨rfl, rfl, ?_, ?_, ?_, ?_⟩
  · have q := sl_at ([1, 1, 1, 20] ++ pyL x.a) [2, 20] (pyL x.p ++ ([3, 16] ++ (putL x.de.toNat 2 ++ List.replicate 64 0))) (p := 22) (n := 2) (by simp only [List.length_append, la]; rfl) rfl
    simpa only [lcL, List.append_assoc] using q
  · have q := sl_at ([1, 1, 1, 20] ++ (pyL x.a ++ ([2, 20] ++ pyL x.p))) [3, 16] (putL x.de.toNat 2 ++ List.replicate 64 0) (p := 42) (n := 2) (by simp only [List.length_append, la, lp]; rfl) rfl
    simpa only [lcL, List.append_assoc] using q
  · have q := sl_at ([1, 1, 1, 20] ++ (pyL x.a ++ ([2, 20] ++ (pyL x.p ++ [3, 16])))) (putL x.de.toNat 2) (List.replicate 64 0) (p := 44) (n := 2) (by simp only [List.length_append, la, lp]; rfl) ld
    simpa only [lcL, List.append_assoc] using q
  · have q := sl_at ([1, 1, 1, 20] ++ (pyL x.a ++ ([2, 20] ++ (pyL x.p ++ ([3, 16] ++ (putL x.de.toNat 2 ++ List.replicate 12 0)))))) [0, 0] (List.replicate 50 0) (p := 58) (n := 2) (by simp only [List.length_append, la, lp, ld, List.length_replicate]; rfl) rfl
    have e : List.replicate 64 (0 : UInt8) = List.replicate 12 0 ++ ([0, 0] ++ List.replicate 50 0) := by rfl
    simpa only [lcL, e, List.append_assoc] using q

theorem runP_wantN {l z : List UInt8} {r : List Stp} {p n : Nat} (hn : z.length = n) (h : p + n ≤ l.length) (hz : sl l p n = z) : runP l (.want z :: r) p = runP l r (p + n) := by
  subst hn
  exact runP_want h hz

theorem runP_altN {l z y : List UInt8} {r : List Stp} {p n : Nat} (hn : z.length = n) (h : p + n ≤ l.length) (hz : sl l p n = z ∨ sl l p n = y) : runP l (.alt z y :: r) p = runP l r (p + n) := by
  subst hn
  exact runP_alt h hz

theorem lc_back (x : Lc) (hx : okLc x = true) (hb : byLc x) : runP (lcL x) lcSt 0 = none ∧ eqvLc (lcAt (lcL x)) x := by
  obtain ⟨w1, w2, w3, w4, w5, w6⟩ := lc_want x
  obtain ⟨h1, h2, h3⟩ := okLc_all hx
  have hl := lcL_len x
  have A := py_back [1, 1, 1, 20] ([2, 20] ++ (pyL x.p ++ ([3, 16] ++ (putL x.de.toNat 2 ++ List.replicate 64 0)))) x.a h1 hb.1 (k := 4) rfl
  have B := py_back ([1, 1, 1, 20] ++ (pyL x.a ++ [2, 20])) ([3, 16] ++ (putL x.de.toNat 2 ++ List.replicate 64 0)) x.p h2 hb.2 (k := 24) (by simp only [List.length_append, pyL_len]; rfl)
  have eB : ([1, 1, 1, 20] ++ (pyL x.a ++ [2, 20])) ++ (pyL x.p ++ ([3, 16] ++ (putL x.de.toNat 2 ++ List.replicate 64 0))) = lcL x := by simp only [lcL, List.append_assoc]
  rw [eB] at B
  refine ⟨?_, A, B, by show ((beN (sl (lcL x) 44 2) : Nat) : Int) = x.de; rw [w5]; exact fit_back h3⟩
  refine (runP_wantN (p := 0) (n := 2) rfl (by omega) w1).trans ?_
  refine (runP_wantN (p := 2) (n := 2) rfl (by omega) w2).trans ?_
  refine (runP_num (p := 4) (n := 2) (by omega)).trans ?_
  refine (runP_eat (p := 6) (n := 6) (by omega)).trans ?_
  refine (runP_num (p := 12) (n := 2) (by omega)).trans ?_
  refine (runP_num (p := 14) (n := 2) (by omega)).trans ?_
  refine (runP_num (p := 16) (n := 2) (by omega)).trans ?_
  refine (runP_num (p := 18) (n := 1) (by omega)).trans ?_
  refine (runP_eat (p := 19) (n := 3) (by omega)).trans ?_
  refine (runP_wantN (p := 22) (n := 2) rfl (by omega) w3).trans ?_
  refine (runP_num (p := 24) (n := 2) (by omega)).trans ?_
  refine (runP_eat (p := 26) (n := 6) (by omega)).trans ?_
  refine (runP_num (p := 32) (n := 2) (by omega)).trans ?_
  refine (runP_num (p := 34) (n := 2) (by omega)).trans ?_
  refine (runP_num (p := 36) (n := 2) (by omega)).trans ?_
  refine (runP_num (p := 38) (n := 1) (by omega)).trans ?_
  refine (runP_eat (p := 39) (n := 3) (by omega)).trans ?_
  refine (runP_wantN (p := 42) (n := 2) rfl (by omega) w4).trans ?_
  refine (runP_num (p := 44) (n := 2) (by omega)).trans ?_
  refine (runP_eat (p := 46) (n := 12) (by omega)).trans ?_
  refine (runP_wantN (p := 58) (n := 2) rfl (by omega) w6).trans ?_
  refine (runP_eat (p := 60) (n := 50) (by omega)).trans ?_
  rfl

theorem all_end {l : List UInt8} {r : List Stp} (h : runP l r 0 = none) (hl : l.length = lenP r) : allP l r = none := by
  rw [allP_none h, ← hl, List.drop_length]
  exact if_pos rfl

theorem mk_back (x : Mk) (hx : okMk x = true) (hb : byMk x) : runP (mkL x) mkSt 0 = none ∧ eqvMk (mkAt (mkL x)) x := by
  have hx' : fitI 2 x.po = true ∧ fitI 4 x.tx = true := by simpa [okMk] using hx
  have hl := mkL_len x
  have l2 := putL_length x.po.toNat 2
  have l4 := putL_length x.tx.toNat 4
  have l6 := nb_len 6 x.sy
  have l1 : ([if x.re then 2 else 1] : List UInt8).length = 1 := rfl
  have w1 : sl (mkL x) 0 2 = [2, 1] := rfl
  have w2 : sl (mkL x) 2 1 = [if x.re then 2 else 1] := rfl
  have w3 : sl (mkL x) 3 1 = [16] := rfl
  have w4 : sl (mkL x) 4 2 = putL x.po.toNat 2 := by
    have q := sl_at ([2, 1] ++ ([if x.re then 2 else 1] ++ [16])) (putL x.po.toNat 2) (nb 6 x.sy ++ (putL x.tx.toNat 4 ++ List.replicate 94 0)) (p := 4) (n := 2) rfl l2
    simpa only [mkL, List.append_assoc] using q
  have w5 : sl (mkL x) 6 6 = nb 6 x.sy := by
    have q := sl_at ([2, 1] ++ ([if x.re then 2 else 1] ++ ([16] ++ putL x.po.toNat 2))) (nb 6 x.sy) (putL x.tx.toNat 4 ++ List.replicate 94 0) (p := 6) (n := 6) (by simp only [List.length_append, l2]; rfl) l6
    simpa only [mkL, List.append_assoc] using q
  have w6 : sl (mkL x) 12 4 = putL x.tx.toNat 4 := by
    have q := sl_at ([2, 1] ++ ([if x.re then 2 else 1] ++ ([16] ++ (putL x.po.toNat 2 ++ nb 6 x.sy)))) (putL x.tx.toNat 4) (List.replicate 94 0) (p := 12) (n := 4) (by simp only [List.length_append, l2, l6]; rfl) l4
    simpa only [mkL, List.append_assoc] using q
  have w7 : sl (mkL x) 18 2 = [0, 0] := by
    have q := sl_at ([2, 1] ++ ([if x.re then 2 else 1] ++ ([16] ++ (putL x.po.toNat 2 ++ (nb 6 x.sy ++ (putL x.tx.toNat 4 ++ [0, 0])))))) [0, 0] (List.replicate 90 0) (p := 18) (n := 2) (by simp only [List.length_append, l2, l6, l4]; rfl) rfl
    have e : List.replicate 94 (0 : UInt8) = [0, 0] ++ ([0, 0] ++ List.replicate 90 0) := by rfl
    simpa only [mkL, e, List.append_assoc] using q
  have c2 : (sl (mkL x) 2 1 = [1] ∨ sl (mkL x) 2 1 = [2]) := by
    rw [w2]
    cases x.re
    · exact Or.inl rfl
    · exact Or.inr rfl
  refine ⟨?_, ?_, by show ((beN (sl (mkL x) 4 2) : Nat) : Int) = x.po; rw [w4]; exact fit_back hx'.1, by intro i hi; show byX (sl (mkL x) 6 6) i = _; rw [w5]; exact byX_nb6 x.sy hb i hi, by show ((beN (sl (mkL x) 12 4) : Nat) : Int) = x.tx; rw [w6]; exact fit_back hx'.2⟩
  · refine (runP_wantN (p := 0) (n := 2) rfl (by omega) w1).trans ?_
    refine (runP_altN (p := 2) (n := 1) rfl (by omega) c2).trans ?_
    refine (runP_wantN (p := 3) (n := 1) rfl (by omega) w3).trans ?_
    refine (runP_num (p := 4) (n := 2) (by omega)).trans ?_
    refine (runP_eat (p := 6) (n := 6) (by omega)).trans ?_
    refine (runP_num (p := 12) (n := 4) (by omega)).trans ?_
    refine (runP_eat (p := 16) (n := 2) (by omega)).trans ?_
    refine (runP_wantN (p := 18) (n := 2) rfl (by omega) w7).trans ?_
    refine (runP_eat (p := 20) (n := 90) (by omega)).trans ?_
    rfl
  · show (sl (mkL x) 2 1 == [2]) = x.re
    rw [w2]
    cases x.re <;> rfl

/-- A byte that no step asks for. -/
def freeP : List Stp → Nat → Nat → Prop
  | [], _, _ => True
  | .want z :: r, p, k => (k < p ∨ p + z.length ≤ k) ∧ freeP r (p + z.length) k
  | .alt z y :: r, p, k => (k < p ∨ p + z.length ≤ k) ∧ freeP r (p + z.length) k
  | .eat n :: r, p, k => freeP r (p + n) k
  | .num n :: r, p, k => freeP r (p + n) k

theorem runP_set (l : List UInt8) (k : Nat) (c : UInt8) (r : List Stp) (p : Nat) (h : freeP r p k) : runP (l.set k c) r p = runP l r p := by
  induction r generalizing p with
  | nil => rfl
  | cons x r ih =>
    cases x with
    | want z =>
      have e : ((l.set k c).drop p).take z.length = (l.drop p).take z.length := sl_set l k c p z.length h.1
      simp only [runP, List.length_set, e, ih _ h.2]
    | alt z y =>
      have e : ((l.set k c).drop p).take z.length = (l.drop p).take z.length := sl_set l k c p z.length h.1
      simp only [runP, List.length_set, e, ih _ h.2]
    | eat n =>
      have h' : freeP r (p + n) k := h
      simp only [runP, List.length_set, ih _ h']
    | num n =>
      have h' : freeP r (p + n) k := h
      simp only [runP, List.length_set, ih _ h']

/-- Bytes that stand for nothing. -/
def freeK (k : Nat) : Prop := (19 ≤ k ∧ k < 22) ∨ (39 ≤ k ∧ k < 42) ∨ (46 ≤ k ∧ k < 58) ∨ (60 ≤ k ∧ k < 110)

theorem free_lc {k : Nat} (h : freeK k) : freeP lcSt 0 k := by
  unfold freeK at h
  simp only [lcSt, pySt, freeP, List.length_cons, List.length_nil, and_true]
  omega

theorem free_at (l : List UInt8) {k : Nat} (c : UInt8) (h : freeK k) : lcAt (l.set k c) = lcAt l := by
  unfold freeK at h
  have e := fun p n h => sl_set l k c p n h
  unfold lcAt pyAt
  rw [e 4 2 (by omega), e (4 + 2) 6 (by omega), e (4 + 8) 2 (by omega), e (4 + 10) 2 (by omega), e (4 + 12) 2 (by omega), e (4 + 14) 1 (by omega)]
  rw [e 24 2 (by omega), e (24 + 2) 6 (by omega), e (24 + 8) 2 (by omega), e (24 + 10) 2 (by omega), e (24 + 12) 2 (by omega), e (24 + 14) 1 (by omega), e 44 2 (by omega)]

theorem lc_free (x : Lc) (hx : okLc x = true) (hb : byLc x) {k : Nat} (c : UInt8) (h : freeK k) : allP ((lcL x).set k c) lcSt = none ∧ eqvLc (lcAt ((lcL x).set k c)) x := by
  obtain ⟨h1, h2⟩ := lc_back x hx hb
  refine ⟨all_end (by rw [runP_set _ _ _ _ _ (free_lc h)]; exact h1) (by rw [List.length_set, lcL_len]; rfl), ?_⟩
  rw [free_at _ _ h]
  exact h2

/-- Both sides exchanged. -/
theorem lc_swap (x : Lc) : lcL ⟨x.p, x.a, x.de⟩ = (lcL x).take 4 ++ (sl (lcL x) 24 18 ++ (sl (lcL x) 22 2 ++ (sl (lcL x) 4 18 ++ (lcL x).drop 42))) := by
  have la := pyL_len x.a
  have lp := pyL_len x.p
  have s1 : sl (lcL x) 24 18 = pyL x.p := by
    have q := sl_at ([1, 1, 1, 20] ++ (pyL x.a ++ [2, 20])) (pyL x.p) ([3, 16] ++ (putL x.de.toNat 2 ++ List.replicate 64 0)) (p := 24) (by simp only [List.length_append, la]; rfl) lp
    simpa only [lcL, List.append_assoc] using q
  have s2 := (lc_want x).2.2.1
  have s3 : sl (lcL x) 4 18 = pyL x.a := sl_at [1, 1, 1, 20] (pyL x.a) _ rfl la
  have s4 : (lcL x).drop 42 = [3, 16] ++ (putL x.de.toNat 2 ++ List.replicate 64 0) := by
    have e : lcL x = ([1, 1, 1, 20] ++ (pyL x.a ++ ([2, 20] ++ pyL x.p))) ++ ([3, 16] ++ (putL x.de.toNat 2 ++ List.replicate 64 0)) := by simp only [lcL, List.append_assoc]
    have hl : ([1, 1, 1, 20] ++ (pyL x.a ++ ([2, 20] ++ pyL x.p))).length = 42 := by simp only [List.length_append, la, lp]; rfl
    rw [e, ← hl, List.drop_left]
  rw [s1, s2, s3, s4]
  rfl

end Go.Proofs.YtocgnbbnaamjjaaDoor
