/- 15: what both sides know, and markers, plainly: what stands where. -/
import Derived.Test.YtocgnbbnaamjjaaDoorExpP
import Derived.Test.YtocgnbbnaamjjaaDoorFitP
import Derived.Test.YtocgnbbnaamjjaaDoorCopyT
namespace Go.Proofs.YtocgnbbnaamjjaaDoor
open Go.RowKit
set_option linter.unusedVariables false
set_option linter.unusedSimpArgs false

structure Py where
  sp : Int
  sy : Nat → Nat
  ke : Int
  pp : Int
  po : Int
  st : Int

structure Lc where
  a : Py
  p : Py
  de : Int

structure Mk where
  re : Bool
  po : Int
  sy : Nat → Nat
  tx : Int

def zPy : Py := ⟨0, z6, 0, 0, 0, 0⟩

def zLc : Lc := ⟨zPy, zPy, 0⟩

def zMk : Mk := ⟨false, 0, z6, 0⟩

def byPy (p : Py) : Prop := ∀ i, p.sy i < 256

def byLc (l : Lc) : Prop := byPy l.a ∧ byPy l.p

def byMk (m : Mk) : Prop := ∀ i, m.sy i < 256

def rgPy (p : Py) : Prop := i64R p.sp ∧ i64R p.ke ∧ i64R p.pp ∧ i64R p.po ∧ i64R p.st

def rgLc (l : Lc) : Prop := rgPy l.a ∧ rgPy l.p ∧ i64R l.de

def rgMk (m : Mk) : Prop := i64R m.po ∧ i64R m.tx

def okPy (p : Py) : Bool := (fitI 2 p.sp && (fitI 2 p.ke && (fitI 2 p.pp && fitI 2 p.po))) && fitI 1 p.st

def okLc (l : Lc) : Bool := okPy l.a && (okPy l.p && fitI 2 l.de)

def okMk (m : Mk) : Bool := fitI 2 m.po && fitI 4 m.tx

/-- Their bytes. -/
def pyL (p : Py) : List UInt8 := putL p.sp.toNat 2 ++ (nb 6 p.sy ++ (putL p.ke.toNat 2 ++ (putL p.pp.toNat 2 ++ (putL p.po.toNat 2 ++ (putL p.st.toNat 1 ++ [0, 0, 0])))))

def lcL (l : Lc) : List UInt8 := [1, 1, 1, 20] ++ (pyL l.a ++ ([2, 20] ++ (pyL l.p ++ ([3, 16] ++ (putL l.de.toNat 2 ++ List.replicate 64 0)))))

def mkL (m : Mk) : List UInt8 := [2, 1] ++ ([if m.re then 2 else 1] ++ ([16] ++ (putL m.po.toNat 2 ++ (nb 6 m.sy ++ (putL m.tx.toNat 4 ++ List.replicate 94 0)))))

theorem pyL_len (p : Py) : (pyL p).length = 18 := by simp [pyL, putL_length, nb_len]

theorem lcL_len (l : Lc) : (lcL l).length = 110 := by simp [lcL, pyL_len, putL_length]

theorem mkL_len (m : Mk) : (mkL m).length = 110 := by simp [mkL, putL_length, nb_len]

/-- What stands there. -/
def sl (l : List UInt8) (p n : Nat) : List UInt8 := (l.drop p).take n

def pyAt (l : List UInt8) (p : Nat) : Py := ⟨beN (sl l p 2), byX (sl l (p + 2) 6), beN (sl l (p + 8) 2), beN (sl l (p + 10) 2), beN (sl l (p + 12) 2), beN (sl l (p + 14) 1)⟩

def lcAt (l : List UInt8) : Lc := ⟨pyAt l 4, pyAt l 24, beN (sl l 44 2)⟩

def mkAt (l : List UInt8) : Mk := ⟨sl l 2 1 == [2], beN (sl l 4 2), byX (sl l 6 6), beN (sl l 12 4)⟩

def pySt (r : List Stp) : List Stp := .num 2 :: .eat 6 :: .num 2 :: .num 2 :: .num 2 :: .num 1 :: .eat 3 :: r

def lcSt : List Stp := .want [1, 1] :: .want [1, 20] :: pySt (.want [2, 20] :: pySt [.want [3, 16], .num 2, .eat 12, .want [0, 0], .eat 50])

def mkSt : List Stp := [.want [2, 1], .alt [1] [2], .want [16], .num 2, .eat 6, .num 4, .eat 2, .want [0, 0], .eat 90]

theorem lcSt_ok : okP lcSt = true := rfl

theorem mkSt_ok : okP mkSt = true := rfl

theorem lcSt_len : lenP lcSt = 110 := rfl

theorem mkSt_len : lenP mkSt = 110 := rfl

/-- A side, as it is read in any state. -/
def py1 (l : List UInt8) (st : RSt) : RSt := nmS l 0 st 2

def py2 (l : List UInt8) (st : RSt) : RSt := (tkN l 0 (py1 l st) 6 false).2

def py3 (l : List UInt8) (st : RSt) : RSt := nmS l 0 (py2 l st) 2

def py4 (l : List UInt8) (st : RSt) : RSt := nmS l 0 (py3 l st) 2

def py5 (l : List UInt8) (st : RSt) : RSt := nmS l 0 (py4 l st) 2

def py6 (l : List UInt8) (st : RSt) : RSt := nmS l 0 (py5 l st) 1

def py7 (l : List UInt8) (st : RSt) : RSt := (tkN l 0 (py6 l st) 3 false).2

def rdPy (l : List UInt8) (st : RSt) : Py := ⟨nmV l 0 st 2, byX (tkN l 0 (py1 l st) 6 false).1, nmV l 0 (py2 l st) 2, nmV l 0 (py3 l st) 2, nmV l 0 (py4 l st) 2, nmV l 0 (py5 l st) 1⟩

theorem py7_le (l : List UInt8) (st : RSt) (h : st.1 ≤ l.length) : (py7 l st).1 ≤ l.length :=
  tkN_le l 0 _ _ false (nmS_le l 0 _ _ (nmS_le l 0 _ _ (nmS_le l 0 _ _ (nmS_le l 0 _ _ (tkN_le l 0 _ _ false (nmS_le l 0 _ _ h))))))

theorem runS_py (l : List UInt8) (r : List Stp) (st : RSt) : runS l (pySt r) st = runS l r (py7 l st) := rfl

theorem py_go (l : List UInt8) (p : Nat) (x : Int) (h : p + 18 ≤ l.length) : py7 l (p, 0, x) = (p + 18, 0, x) ∧ rdPy l (p, 0, x) = pyAt l p := by
  have a1 := nm_go l (p, 0, x) 2 (by decide) (by decide) rfl (show p + 2 ≤ _ by omega)
  have e1 : py1 l (p, 0, x) = (p + 2, 0, x) := a1.1
  have a2 := tkN_go l 0 (p + 2, 0, x) 6 false rfl (show p + 2 + 6 ≤ _ by omega) (by simp)
  have e2 : py2 l (p, 0, x) = (p + 8, 0, x) := by unfold py2; rw [e1]; exact congrArg Prod.snd a2
  have a3 := nm_go l (p + 8, 0, x) 2 (by decide) (by decide) rfl (show p + 8 + 2 ≤ _ by omega)
  have e3 : py3 l (p, 0, x) = (p + 10, 0, x) := by unfold py3; rw [e2]; exact a3.1
  have a4 := nm_go l (p + 10, 0, x) 2 (by decide) (by decide) rfl (show p + 10 + 2 ≤ _ by omega)
  have e4 : py4 l (p, 0, x) = (p + 12, 0, x) := by unfold py4; rw [e3]; exact a4.1
  have a5 := nm_go l (p + 12, 0, x) 2 (by decide) (by decide) rfl (show p + 12 + 2 ≤ _ by omega)
  have e5 : py5 l (p, 0, x) = (p + 14, 0, x) := by unfold py5; rw [e4]; exact a5.1
  have a6 := nm_go l (p + 14, 0, x) 1 (by decide) (by decide) rfl (show p + 14 + 1 ≤ _ by omega)
  have e6 : py6 l (p, 0, x) = (p + 15, 0, x) := by unfold py6; rw [e5]; exact a6.1
  have a7 := tkN_go l 0 (p + 15, 0, x) 3 false rfl (show p + 15 + 3 ≤ _ by omega) (by simp)
  refine ⟨by unfold py7; rw [e6]; exact congrArg Prod.snd a7, ?_⟩
  have v1 : nmV l 0 (p, 0, x) 2 = beN (sl l p 2) := a1.2
  have v2 : (tkN l 0 (p + 2, 0, x) 6 false).1 = sl l (p + 2) 6 := congrArg Prod.fst a2
  have v3 : nmV l 0 (p + 8, 0, x) 2 = beN (sl l (p + 8) 2) := a3.2
  have v4 : nmV l 0 (p + 10, 0, x) 2 = beN (sl l (p + 10) 2) := a4.2
  have v5 : nmV l 0 (p + 12, 0, x) 2 = beN (sl l (p + 12) 2) := a5.2
  have v6 : nmV l 0 (p + 14, 0, x) 1 = beN (sl l (p + 14) 1) := a6.2
  unfold rdPy pyAt
  rw [e1, e2, e3, e4, e5, v1, v2, v3, v4, v5, v6]

/-- The states of a reader of it. -/
def lc1 (l : List UInt8) : RSt := exS l (0, 0, -1) [1, 1]

def lc2 (l : List UInt8) : RSt := exS l (lc1 l) [1, 20]

def lc3 (l : List UInt8) : RSt := py7 l (lc2 l)

def lc4 (l : List UInt8) : RSt := exS l (lc3 l) [2, 20]

def lc5 (l : List UInt8) : RSt := py7 l (lc4 l)

def lc6 (l : List UInt8) : RSt := exS l (lc5 l) [3, 16]

def lc7 (l : List UInt8) : RSt := nmS l 0 (lc6 l) 2

def lc8 (l : List UInt8) : RSt := (tkN l 0 (lc7 l) 12 false).2

def lc9 (l : List UInt8) : RSt := exS l (lc8 l) [0, 0]

def lc10 (l : List UInt8) : RSt := (tkN l 0 (lc9 l) 50 false).2

theorem lc_run (l : List UInt8) : runS l lcSt (0, 0, -1) = lc10 l := rfl

def rdLc (l : List UInt8) : Lc := ⟨rdPy l (lc2 l), rdPy l (lc4 l), nmV l 0 (lc6 l) 2⟩

def mk1 (l : List UInt8) : RSt := exS l (0, 0, -1) [2, 1]

def mk2 (l : List UInt8) : RSt := exS2 l (mk1 l) [1] [2]

def mk3 (l : List UInt8) : RSt := exS l (mk2 l) [16]

def mk4 (l : List UInt8) : RSt := nmS l 0 (mk3 l) 2

def mk5 (l : List UInt8) : RSt := (tkN l 0 (mk4 l) 6 false).2

def mk6 (l : List UInt8) : RSt := nmS l 0 (mk5 l) 4

def mk7 (l : List UInt8) : RSt := (tkN l 0 (mk6 l) 2 false).2

def mk8 (l : List UInt8) : RSt := exS l (mk7 l) [0, 0]

def mk9 (l : List UInt8) : RSt := (tkN l 0 (mk8 l) 90 false).2

theorem mk_run (l : List UInt8) : runS l mkSt (0, 0, -1) = mk9 l := rfl

def rdMk (l : List UInt8) : Mk := ⟨exV2 l (mk1 l) [1] [2] == [2], nmV l 0 (mk3 l) 2, byX (tkN l 0 (mk4 l) 6 false).1, nmV l 0 (mk5 l) 4⟩

/-- Nothing is wrong so far. -/
theorem ex_zero {l : List UInt8} {st : RSt} {z : List UInt8} (hz : z ≠ []) (hp : st.1 ≤ l.length) (h : (exS l st z).2.1 = 0) : st.2.1 = 0 ∧ (l.drop st.1).take z.length = z ∧ st.1 + z.length ≤ l.length ∧ exS l st z = (st.1 + z.length, st.2) := by
  by_cases q : st.2.1 = 0
  · by_cases c : st.1 + z.length ≤ l.length
    · by_cases y : (l.drop st.1).take z.length = z
      · exact ⟨q, y, c, ex_go l st z q c y⟩
      · rw [ex_form l st z q c y] at h
        exact absurd h (show ¬ (3 : Int) = 0 by decide)
    · rw [ex_miss l st z hz q c hp] at h
      exact absurd h (show ¬ (7 : Int) = 0 by decide)
  · rw [ex_bad l st z hz q] at h
    exact absurd h q

theorem lc_vals (l : List UInt8) (h : runS l lcSt (0, 0, -1) = (110, 0, -1)) (hl : 110 ≤ l.length) : rdLc l = lcAt l ∧ runP l lcSt 0 = none := by
  have hr := runS_spec l lcSt lcSt_ok (0, 0, -1) rfl (Nat.zero_le _)
  have hn : runP l lcSt 0 = none := by
    rcases hr with ⟨h1, _⟩ | ⟨e, x, h1, h2, h3⟩
    · exact h1
    · rw [h] at h3
      exact absurd (congrArg Prod.fst h3).symm h2
  refine ⟨?_, hn⟩
  have w1 : (l.drop 0).take [1, 1].length = [1, 1] := by
    by_cases q : (l.drop 0).take ([1, 1] : List UInt8).length = [1, 1]
    · exact q
    · rw [show lcSt = .want [1, 1] :: lcSt.tail from rfl, runP_wantF (by show 0 + 2 ≤ _; omega) q] at hn
      cases hn
  have n1 : runP l lcSt.tail 2 = none := by
    have := runP_want (r := lcSt.tail) (show 0 + ([1, 1] : List UInt8).length ≤ l.length by show 0 + 2 ≤ _; omega) w1
    rw [← show lcSt = .want [1, 1] :: lcSt.tail from rfl, hn] at this
    exact this.symm
  have w2 : (l.drop 2).take ([1, 20] : List UInt8).length = [1, 20] := by
    by_cases q : (l.drop 2).take ([1, 20] : List UInt8).length = [1, 20]
    · exact q
    · rw [show lcSt.tail = .want [1, 20] :: lcSt.tail.tail from rfl, runP_wantF (by show 2 + 2 ≤ _; omega) q] at n1
      cases n1
  have e1 : lc1 l = (2, 0, -1) := ex_go l (0, 0, -1) [1, 1] rfl (by show 0 + 2 ≤ _; omega) w1
  have e2 : lc2 l = (4, 0, -1) := by unfold lc2; rw [e1]; exact ex_go l (2, 0, -1) [1, 20] rfl (by show 2 + 2 ≤ _; omega) w2
  obtain ⟨p1, v1⟩ := py_go l 4 (-1) (by omega)
  have e3 : lc3 l = (22, 0, -1) := by unfold lc3; rw [e2]; exact p1
  have hb : ∀ (r : List Stp) (st : RSt), okP r = true → runS l r st = (110, 0, -1) → st.2.1 = 0 := by
    intro r st hr h
    by_cases q : st.2.1 = 0
    · exact q
    · rw [runS_bad l r hr st q] at h
      rw [h] at q
      exact absurd rfl q
  have h4 : (lc4 l).2.1 = 0 := hb (pySt [.want [3, 16], .num 2, .eat 12, .want [0, 0], .eat 50]) _ rfl h
  have e4 : lc4 l = (24, 0, -1) := by
    unfold lc4 at h4 ⊢
    rw [e3] at h4 ⊢
    exact (ex_zero (by decide) (show 22 ≤ _ by omega) h4).2.2.2
  obtain ⟨p2, v2⟩ := py_go l 24 (-1) (by omega)
  have e5 : lc5 l = (42, 0, -1) := by unfold lc5; rw [e4]; exact p2
  have h6 : (lc6 l).2.1 = 0 := hb [.num 2, .eat 12, .want [0, 0], .eat 50] _ rfl h
  have e6 : lc6 l = (44, 0, -1) := by
    unfold lc6 at h6 ⊢
    rw [e5] at h6 ⊢
    exact (ex_zero (by decide) (show 42 ≤ _ by omega) h6).2.2.2
  have v3 : nmV l 0 (44, 0, -1) 2 = beN (sl l 44 2) := (nm_go l (44, 0, -1) 2 (by decide) (by decide) rfl (show 44 + 2 ≤ _ by omega)).2
  unfold rdLc lcAt
  rw [e2, e4, e6, v1, v2, v3]

theorem mk_vals (l : List UInt8) (h : runS l mkSt (0, 0, -1) = (110, 0, -1)) (hl : 110 ≤ l.length) : rdMk l = mkAt l ∧ runP l mkSt 0 = none := by
  have hr := runS_spec l mkSt mkSt_ok (0, 0, -1) rfl (Nat.zero_le _)
  have hn : runP l mkSt 0 = none := by
    rcases hr with ⟨h1, _⟩ | ⟨e, x, h1, h2, h3⟩
    · exact h1
    · rw [h] at h3
      exact absurd (congrArg Prod.fst h3).symm h2
  refine ⟨?_, hn⟩
  have hb : ∀ (r : List Stp) (st : RSt), okP r = true → runS l r st = (110, 0, -1) → st.2.1 = 0 := by
    intro r st hr h
    by_cases q : st.2.1 = 0
    · exact q
    · rw [runS_bad l r hr st q] at h
      rw [h] at q
      exact absurd rfl q
  have h1 : (mk1 l).2.1 = 0 := hb mkSt.tail _ rfl h
  have e1 : mk1 l = (2, 0, -1) := (ex_zero (by decide) (Nat.zero_le _) h1).2.2.2
  have t1 : tkN l 0 (2, 0, -1) (1 : Nat) false = (sl l 2 1, 3, 0, -1) := tkN_go l 0 (2, 0, -1) 1 false rfl (show 2 + 1 ≤ _ by omega) (by simp)
  have h2 : (mk2 l).2.1 = 0 := hb mkSt.tail.tail _ rfl h
  have c2 : sl l 2 1 = [1] ∨ sl l 2 1 = [2] := by
    by_cases q : sl l 2 1 = [1] ∨ sl l 2 1 = [2]
    · exact q
    · unfold mk2 exS2 at h2
      rw [e1, show ([1] : List UInt8).length = 1 from rfl, t1, if_neg q] at h2
      unfold flR at h2
      rw [if_neg (by simp)] at h2
      exact absurd h2 (show ¬ (3 : Int) = 0 by decide)
  have e2 : mk2 l = (3, 0, -1) := by
    unfold mk2 exS2
    rw [e1, show ([1] : List UInt8).length = 1 from rfl, t1, if_pos c2]
  have ev : exV2 l (mk1 l) [1] [2] = sl l 2 1 := by
    unfold exV2
    rw [e1, show ([1] : List UInt8).length = 1 from rfl, t1, if_pos c2]
  have h3 : (mk3 l).2.1 = 0 := hb mkSt.tail.tail.tail _ rfl h
  have e3 : mk3 l = (4, 0, -1) := by
    unfold mk3 at h3 ⊢
    rw [e2] at h3 ⊢
    exact (ex_zero (by decide) (show 3 ≤ _ by omega) h3).2.2.2
  have a4 := nm_go l (4, 0, -1) 2 (by decide) (by decide) rfl (show 4 + 2 ≤ _ by omega)
  have e4 : mk4 l = (6, 0, -1) := by unfold mk4; rw [e3]; exact a4.1
  have a5 : tkN l 0 (6, 0, -1) (6 : Nat) false = (sl l 6 6, 12, 0, -1) := tkN_go l 0 (6, 0, -1) 6 false rfl (show 6 + 6 ≤ _ by omega) (by simp)
  have e5 : mk5 l = (12, 0, -1) := by unfold mk5; rw [e4]; exact congrArg Prod.snd a5
  have a6 := nm_go l (12, 0, -1) 4 (by decide) (by decide) rfl (show 12 + 4 ≤ _ by omega)
  have v4 : nmV l 0 (4, 0, -1) 2 = beN (sl l 4 2) := a4.2
  have v5 : (tkN l 0 (6, 0, -1) 6 false).1 = sl l 6 6 := congrArg Prod.fst a5
  have v6 : nmV l 0 (12, 0, -1) 4 = beN (sl l 12 4) := a6.2
  unfold rdMk mkAt
  rw [ev, e3, e4, e5, v4, v5, v6]

end Go.Proofs.YtocgnbbnaamjjaaDoor
