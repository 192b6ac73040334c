/- 11.1: as few spans as tell the same, plainly: nothing of the program. -/
import Derived.Test.YtlfeholphngilaaDoorSpanM
namespace Go.Proofs.YtlfeholphngilaaDoor
set_option linter.unusedVariables false

/-- One span more, which stands behind the others. -/
def extL (out : List Sp) (x : Sp) : List Sp :=
  if x.i = 0 then out
  else if out = [] then [x]
  else if (out.getLastD zSp).t = x.f - 1 ∧ (out.getLastD zSp).i = x.i then out.dropLast ++ [⟨(out.getLastD zSp).f, x.t, (out.getLastD zSp).i⟩]
  else out ++ [x]
def leastG (out l : List Sp) : List Sp := l.foldl extL out
def leastL (l : List Sp) : List Sp := leastG [] l
theorem ext_zero (out : List Sp) {x : Sp} (h : x.i = 0) : extL out x = out := by unfold extL; rw [if_pos h]
theorem ext_nil {x : Sp} (h : x.i ≠ 0) : extL [] x = [x] := by unfold extL; rw [if_neg h, if_pos rfl]
theorem ext_meet (o : List Sp) (y : Sp) {x : Sp} (h : x.i ≠ 0) (h1 : y.t = x.f - 1) (h2 : y.i = x.i) : extL (o ++ [y]) x = o ++ [⟨y.f, x.t, y.i⟩] := by
  unfold extL
  have hl : (o ++ [y]).getLastD zSp = y := List.getLastD_concat
  rw [if_neg h, if_neg (by simp), hl, if_pos ⟨h1, h2⟩, List.dropLast_concat]
theorem ext_more (o : List Sp) (y : Sp) {x : Sp} (h : x.i ≠ 0) (h1 : ¬ (y.t = x.f - 1 ∧ y.i = x.i)) : extL (o ++ [y]) x = o ++ [y] ++ [x] := by
  unfold extL
  have hl : (o ++ [y]).getLastD zSp = y := List.getLastD_concat
  rw [if_neg h, if_neg (by simp), hl, if_neg h1]
theorem snoc_or (o : List Sp) : o = [] ∨ ∃ p y, o = p ++ [y] := by
  rcases List.eq_nil_or_concat o with h | ⟨p, y, h⟩
  · exact Or.inl h
  · exact Or.inr ⟨p, y, by simpa using h⟩
/-- What becomes of it: as it was, its last one longer, or one more. -/
theorem ext_ways (out : List Sp) (x : Sp) : (x.i = 0 ∧ extL out x = out) ∨ (x.i ≠ 0 ∧ ((∃ o y, out = o ++ [y] ∧ y.t = x.f - 1 ∧ y.i = x.i ∧ extL out x = o ++ [⟨y.f, x.t, y.i⟩]) ∨
    ((∀ o y, out = o ++ [y] → ¬ (y.t = x.f - 1 ∧ y.i = x.i)) ∧ extL out x = out ++ [x]))) := by
  by_cases h : x.i = 0
  · exact Or.inl ⟨h, ext_zero out h⟩
  · refine Or.inr ⟨h, ?_⟩
    rcases snoc_or out with rfl | ⟨o, y, rfl⟩
    · exact Or.inr ⟨fun o y e => by simp at e, ext_nil h⟩
    · by_cases h1 : y.t = x.f - 1 ∧ y.i = x.i
      · exact Or.inl ⟨o, y, rfl, h1.1, h1.2, ext_meet o y h h1.1 h1.2⟩
      · refine Or.inr ⟨fun o' y' e => ?_, ext_more o y h h1⟩
        obtain ⟨_, e2⟩ := List.append_inj' e rfl
        simp at e2
        rw [← e2]
        exact h1
theorem ext_len (out : List Sp) (x : Sp) : (extL out x).length ≤ out.length + 1 := by
  rcases ext_ways out x with ⟨_, h⟩ | ⟨_, ⟨o, y, h1, _, _, h⟩ | ⟨_, h⟩⟩
  · rw [h]; omega
  · rw [h, h1]; simp
  · rw [h]; simp
theorem leastG_len : ∀ (l out : List Sp), (leastG out l).length ≤ out.length + l.length
  | [], out => by simp [leastG]
  | x :: l, out => by
    have h := leastG_len l (extL out x)
    have h2 := ext_len out x
    show (leastG (extL out x) l).length ≤ _
    rw [List.length_cons]
    omega
theorem leastL_len (l : List Sp) : (leastL l).length ≤ l.length := by
  have h := leastG_len l []
  simpa [leastL] using h

/-- Spans behind each other, seen from their end. -/
def lastT (a : Int) (o : List Sp) : Int := if o = [] then a else (o.getLastD zSp).t
theorem lastT_snoc (a : Int) (o : List Sp) (y : Sp) : lastT a (o ++ [y]) = y.t := by
  unfold lastT
  rw [if_neg (by simp), List.getLastD_concat]
theorem lastT_cons (a : Int) (x : Sp) (o : List Sp) : lastT a (x :: o) = lastT x.t o := by
  rcases snoc_or o with rfl | ⟨p, y, rfl⟩
  · rfl
  · rw [show x :: (p ++ [y]) = (x :: p) ++ [y] from rfl, lastT_snoc, lastT_snoc]
theorem right_snoc : ∀ (o : List Sp) (a : Int) (y : Sp), rightG a (o ++ [y]) = (rightG a o && okSp (lastT a o) y)
  | [], a, y => by simp [rightG, lastT]
  | x :: o, a, y => by
    show (okSp a x && rightG x.t (o ++ [y])) = ((okSp a x && rightG x.t o) && okSp (lastT a (x :: o)) y)
    rw [right_snoc o x.t y, lastT_cons, Bool.and_assoc]
theorem okSp_of {a : Int} {x : Sp} (h : okSp a x = true) : a < x.f ∧ x.f ≤ x.t ∧ x.t ≤ 4094 ∧ 0 ≤ x.i ∧ x.i ≤ 64 := by
  simpa [okSp] using h
theorem okSp_mk {a : Int} {x : Sp} (h : a < x.f ∧ x.f ≤ x.t ∧ x.t ≤ 4094 ∧ 0 ≤ x.i ∧ x.i ≤ 64) : okSp a x = true := by
  simpa [okSp] using h
theorem right_cons {a : Int} {x : Sp} {l : List Sp} (h : rightG a (x :: l) = true) : okSp a x = true ∧ rightG x.t l = true := by
  simpa [rightG] using h

/-- A number ahead of all of them is of none. -/
theorem inst_ahead : ∀ (l : List Sp) (a v : Int), rightG a l = true → v ≤ a → instL l v = 0
  | [], _, _, _, _ => rfl
  | x :: l, a, v, h, hv => by
    obtain ⟨h1, h2⟩ := right_cons h
    have o := okSp_of h1
    unfold instL hasSp
    rw [if_neg (by simp; omega)]
    exact inst_ahead l x.t v h2 (by omega)
theorem inst_behind {a : Int} {x : Sp} {l : List Sp} {v : Int} (h : rightG a (x :: l) = true) (hv : x.t < v) : instL (x :: l) v = instL l v := by
  show (if hasSp x v = true then x.i else instL l v) = instL l v
  rw [if_neg (by simp [hasSp]; omega)]
theorem inst_in {x : Sp} {l : List Sp} {v : Int} (h1 : x.f ≤ v) (h2 : v ≤ x.t) : instL (x :: l) v = x.i := by
  unfold instL hasSp
  rw [if_pos (by simp; omega)]
theorem inst_high : ∀ (l : List Sp) (a v : Int), rightG a l = true → 4094 < v → instL l v = 0
  | [], _, _, _, _ => rfl
  | x :: l, a, v, h, hv => by
    obtain ⟨h1, h2⟩ := right_cons h
    have o := okSp_of h1
    rw [inst_behind h (by omega)]
    exact inst_high l x.t v h2 hv
theorem inst_range : ∀ (l : List Sp) (a v : Int), rightG a l = true → 0 ≤ instL l v ∧ instL l v ≤ 64
  | [], _, _, _ => by simp [instL]
  | x :: l, a, v, h => by
    obtain ⟨h1, h2⟩ := right_cons h
    have o := okSp_of h1
    unfold instL
    split
    · omega
    · exact inst_range l x.t v h2

/-- VID by VID. -/
def runV (g : Int → Int) : Nat → Nat → List Sp → List Sp
  | 0, _, out => out
  | n + 1, k, out => runV g n (k + 1) (extL out ⟨((k + 1 : Nat) : Int), ((k + 1 : Nat) : Int), g ((k + 1 : Nat) : Int)⟩)
theorem runV_add (g : Int → Int) : ∀ (a b k : Nat) (out : List Sp), runV g (a + b) k out = runV g b (k + a) (runV g a k out)
  | 0, b, k, out => by simp [runV]
  | a + 1, b, k, out => by
    rw [show a + 1 + b = (a + b) + 1 by omega]
    show runV g (a + b) (k + 1) _ = runV g b (k + (a + 1)) (runV g a (k + 1) _)
    rw [runV_add g a b (k + 1), show k + 1 + a = k + (a + 1) by omega]
theorem runV_snoc (g : Int → Int) (n k : Nat) (out : List Sp) : runV g (n + 1) k out = extL (runV g n k out) ⟨((k + n + 1 : Nat) : Int), ((k + n + 1 : Nat) : Int), g ((k + n + 1 : Nat) : Int)⟩ := by
  rw [runV_add g n 1 k out]
  rfl
theorem runV_zero (g : Int → Int) : ∀ (n k : Nat) (out : List Sp), (∀ v : Nat, k < v → v ≤ k + n → g v = 0) → runV g n k out = out
  | 0, _, _, _ => rfl
  | n + 1, k, out, h => by
    show runV g n (k + 1) (extL out _) = out
    rw [ext_zero out (h (k + 1) (by omega) (by omega))]
    exact runV_zero g n (k + 1) out fun v h1 h2 => h v (by omega) (by omega)
theorem runV_same (g f : Int → Int) : ∀ (n k : Nat) (out : List Sp), (∀ v : Nat, k < v → v ≤ k + n → g v = f v) → runV g n k out = runV f n k out
  | 0, _, _, _ => rfl
  | n + 1, k, out, h => by
    show runV g n (k + 1) _ = runV f n (k + 1) _
    rw [h (k + 1) (by omega) (by omega)]
    exact runV_same g f n (k + 1) _ fun v h1 h2 => h v (by omega) (by omega)
/-- One span, VID by VID. -/
theorem runV_span (g : Int → Int) (i : Int) (k : Nat) (out : List Sp) : ∀ n : Nat, (∀ v : Nat, k < v → v ≤ k + (n + 1) → g v = i) →
    runV g (n + 1) k out = extL out ⟨((k + 1 : Nat) : Int), ((k + (n + 1) : Nat) : Int), i⟩
  | 0, h => by
    show extL out _ = _
    rw [h (k + 1) (by omega) (by omega)]
  | n + 1, h => by
    rw [runV_snoc, runV_span g i k out n (fun v h1 h2 => h v h1 (by omega)), h (k + (n + 1) + 1) (by omega) (by omega)]
    by_cases hi : i = 0
    · rw [ext_zero out (x := ⟨_, _, i⟩) hi, ext_zero out (x := ⟨_, _, i⟩) hi, ext_zero out (x := ⟨_, _, i⟩) hi]
    · rcases ext_ways out ⟨((k + 1 : Nat) : Int), ((k + (n + 1) : Nat) : Int), i⟩ with ⟨h0, _⟩ | ⟨_, ⟨o, y, rfl, h1, h2, h3⟩ | ⟨h1, h3⟩⟩
      · exact absurd h0 hi
      · have e1 := ext_meet o y (x := ⟨((k + 1 : Nat) : Int), ((k + (n + 1 + 1) : Nat) : Int), i⟩) hi h1 h2
        have e2 := ext_meet o ⟨y.f, ((k + (n + 1) : Nat) : Int), y.i⟩ (x := ⟨((k + (n + 1) + 1 : Nat) : Int), ((k + (n + 1) + 1 : Nat) : Int), i⟩) hi (by show ((k + (n + 1) : Nat) : Int) = _; simp) h2
        rw [h3, e1]
        exact e2
      · have e2 := ext_meet out ⟨((k + 1 : Nat) : Int), ((k + (n + 1) : Nat) : Int), i⟩ (x := ⟨((k + (n + 1) + 1 : Nat) : Int), ((k + (n + 1) + 1 : Nat) : Int), i⟩) hi (by show ((k + (n + 1) : Nat) : Int) = _; simp) rfl
        rw [h3, e2]
        rcases ext_ways out ⟨((k + 1 : Nat) : Int), ((k + (n + 1 + 1) : Nat) : Int), i⟩ with ⟨h0, _⟩ | ⟨_, ⟨o, y, rfl, h4, h5, _⟩ | ⟨_, h4⟩⟩
        · exact absurd h0 hi
        · exact absurd ⟨h4, h5⟩ (h1 o y rfl)
        · rw [h4]
          rfl
/-- The reference's list, VID by VID, is the one span by span. -/
theorem runV_least : ∀ (l : List Sp) (a : Nat) (out : List Sp), rightG a l = true → a ≤ 4094 → runV (instL l) (4094 - a) a out = leastG out l
  | [], a, out, _, _ => runV_zero _ _ _ _ fun v _ _ => rfl
  | x :: l, a, out, h, ha => by
    obtain ⟨h1, h2⟩ := right_cons h
    have o := okSp_of h1
    obtain ⟨f, hf⟩ : ∃ f : Nat, x.f = ((f + 1 : Nat) : Int) := ⟨x.f.toNat - 1, by omega⟩
    obtain ⟨n, hn⟩ : ∃ n : Nat, x.t = ((f + (n + 1) : Nat) : Int) := ⟨x.t.toNat - (f + 1), by omega⟩
    have e : 4094 - a = (f - a) + ((n + 1) + (4094 - (f + (n + 1)))) := by omega
    rw [e, runV_add, runV_add, show a + (f - a) = f by omega]
    rw [runV_zero (instL (x :: l)) (f - a) a out (fun v h3 h4 => by
      unfold instL hasSp
      rw [if_neg (by simp; omega)]
      exact inst_ahead l x.t v h2 (by omega))]
    rw [runV_span (instL (x :: l)) x.i f out n (fun v h3 h4 => inst_in (by omega) (by omega))]
    rw [runV_same (instL (x :: l)) (instL l) _ _ _ (fun v h3 h4 => inst_behind h (by omega))]
    rw [hn] at h2
    rw [runV_least l (f + (n + 1)) _ h2 (by omega)]
    show leastG _ l = leastG (extL out x) l
    rw [← hf, ← hn]
theorem refLeast_eq (l : List Sp) (h : rightL l = true) : runV (instL l) 4094 0 [] = leastL l := runV_least l 0 [] h (by omega)

/-- All of them end by a number. -/
def endB (a : Int) (o : List Sp) : Prop := ∀ y ∈ o, y.t ≤ a
theorem endB_inst : ∀ {o : List Sp} {a v : Int}, endB a o → a < v → instL o v = 0
  | [], _, _, _, _ => rfl
  | y :: o, a, v, h, hv => by
    have := h y (by simp)
    unfold instL hasSp
    rw [if_neg (by simp; omega)]
    exact endB_inst (a := a) (fun z hz => h z (by simp [hz])) hv
theorem inst_snoc : ∀ (o : List Sp) (y : Sp) (v : Int), (∀ z ∈ o, hasSp z v = true → hasSp y v = false) → instL (o ++ [y]) v = if hasSp y v = true then y.i else instL o v
  | [], y, v, _ => by simp [instL]
  | z :: o, y, v, h => by
    have ih := inst_snoc o y v fun q hq => h q (by simp [hq])
    show (if hasSp z v = true then z.i else instL (o ++ [y]) v) = _
    rw [ih]
    by_cases hz : hasSp z v = true
    · rw [if_pos hz, if_neg (by rw [h z (by simp) hz]; simp)]
      show z.i = if hasSp z v = true then z.i else instL o v
      rw [if_pos hz]
    · rw [if_neg hz]
      split
      · rfl
      · show instL o v = if hasSp z v = true then z.i else instL o v
        rw [if_neg hz]
/-- What the spans so far must keep: right, ending by a number, none of instance 0, no two that could be one. -/
def Can : List Sp → Prop
  | [] => True
  | [x] => x.i ≠ 0
  | x :: y :: l => x.i ≠ 0 ∧ ¬ (x.t = y.f - 1 ∧ x.i = y.i) ∧ Can (y :: l)
theorem can_init : ∀ (o : List Sp) (y : Sp), Can (o ++ [y]) → Can o ∧ y.i ≠ 0
  | [], y, h => ⟨trivial, h⟩
  | [x], y, h => ⟨h.1, h.2.2⟩
  | x :: z :: o, y, h => by
    have ih := can_init (z :: o) y h.2.2
    exact ⟨⟨h.1, h.2.1, ih.1⟩, ih.2⟩
theorem can_last : ∀ (o : List Sp) (z y : Sp), Can (o ++ [z] ++ [y]) → ¬ (z.t = y.f - 1 ∧ z.i = y.i)
  | [], z, y, h => h.2.1
  | [x], z, y, h => h.2.2.2.1
  | x :: w :: o, z, y, h => can_last (w :: o) z y h.2.2
theorem can_snoc : ∀ (o : List Sp) (y : Sp), Can o → y.i ≠ 0 → (∀ p z, o = p ++ [z] → ¬ (z.t = y.f - 1 ∧ z.i = y.i)) → Can (o ++ [y])
  | [], y, _, h, _ => h
  | [x], y, hx, h, hm => ⟨hx, hm [] x rfl, h⟩
  | x :: z :: o, y, hx, h, hm => ⟨hx.1, hx.2.1, can_snoc (z :: o) y hx.2.2 h fun p q e => hm (x :: p) q (by rw [e]; rfl)⟩
theorem leastG_snoc (a : List Sp) (o : List Sp) (y : Sp) : leastG a (o ++ [y]) = extL (leastG a o) y := by
  unfold leastG
  rw [List.foldl_append]
  rfl
theorem can_fix : ∀ (n : Nat) (o : List Sp), o.length = n → Can o → leastG [] o = o
  | 0, o, h, _ => by rw [List.length_eq_zero_iff.1 h]; rfl
  | n + 1, o, h, hc => by
    rcases snoc_or o with rfl | ⟨p, y, rfl⟩
    · simp at h
    · obtain ⟨h1, h2⟩ := can_init p y hc
      rw [leastG_snoc, can_fix n p (by simpa using h) h1]
      rcases snoc_or p with rfl | ⟨q, z, rfl⟩
      · exact ext_nil h2
      · exact ext_more q z h2 (can_last q z y hc)
/-- What is kept while spans come. -/
structure Kept (a : Int) (o : List Sp) : Prop where
  right : rightG 0 o = true
  endb : endB a o
  can : Can o
theorem right_end : ∀ (o : List Sp) (a b : Int), rightG a o = true → lastT a o ≤ b → endB b o
  | [], _, _, _, _ => fun y hy => by simp at hy
  | x :: o, a, b, h, hb => by
    obtain ⟨h1, h2⟩ := right_cons h
    rw [lastT_cons] at hb
    have ih := right_end o x.t b h2 hb
    intro y hy
    rcases List.mem_cons.1 hy with rfl | hy
    · cases o with
      | nil => exact hb
      | cons z o =>
        have o2 := okSp_of (right_cons h2).1
        have := ih z (by simp)
        omega
    · exact ih y hy
theorem Kept.ext {a : Int} {o : List Sp} (h : Kept a o) (ha : 0 ≤ a) {x : Sp} (hx : okSp a x = true) : Kept x.t (extL o x) := by
  have k := okSp_of hx
  rcases ext_ways o x with ⟨_, e⟩ | ⟨h0, ⟨p, y, rfl, h1, h2, e⟩ | ⟨h1, e⟩⟩
  · rw [e]
    exact ⟨h.right, fun y hy => by have := h.endb y hy; omega, h.can⟩
  · rw [e]
    have hr := h.right
    rw [right_snoc, Bool.and_eq_true] at hr
    have oy := okSp_of hr.2
    refine ⟨?_, ?_, ?_⟩
    · rw [right_snoc, Bool.and_eq_true]
      exact ⟨hr.1, okSp_mk ⟨oy.1, by show y.f ≤ x.t; omega, k.2.2.1, oy.2.2.2⟩⟩
    · intro z hz
      rcases List.mem_append.1 hz with hz | hz
      · have := h.endb z (by simp [hz]); omega
      · obtain rfl := List.mem_singleton.1 hz; exact Int.le_refl _
    · obtain ⟨c1, c2⟩ := can_init p y h.can
      refine can_snoc p _ c1 c2 fun q z ez => ?_
      subst ez
      exact can_last q z y h.can
  · rw [e]
    refine ⟨?_, ?_, ?_⟩
    · rw [right_snoc, Bool.and_eq_true]
      refine ⟨h.right, okSp_mk ⟨?_, k.2⟩⟩
      rcases snoc_or o with rfl | ⟨p, y, rfl⟩
      · show (0 : Int) < _; omega
      · rw [lastT_snoc]
        have := h.endb y (by simp)
        omega
    · intro z hz
      rcases List.mem_append.1 hz with hz | hz
      · have := h.endb z hz; omega
      · obtain rfl := List.mem_singleton.1 hz; exact Int.le_refl _
    · exact can_snoc o x h.can h0 h1
theorem ext_inst {a : Int} {o : List Sp} (h : Kept a o) {x : Sp} (hx : okSp a x = true) (v : Int) : instL (extL o x) v = if hasSp x v = true then x.i else instL o v := by
  have k := okSp_of hx
  rcases ext_ways o x with ⟨h0, e⟩ | ⟨h0, ⟨p, y, rfl, h1, h2, e⟩ | ⟨h1, e⟩⟩
  · rw [e]
    split
    · rename_i hv
      have hv2 : x.f ≤ v ∧ v ≤ x.t := by simpa [hasSp] using hv
      rw [h0]
      exact endB_inst h.endb (by omega)
    · rfl
  · rw [e]
    have hr := h.right
    rw [right_snoc, Bool.and_eq_true] at hr
    have oy := okSp_of hr.2
    have hp : endB (y.f - 1) p := right_end p 0 (y.f - 1) hr.1 (by omega)
    have sep : ∀ (t : Int), ∀ z ∈ p, hasSp z v = true → hasSp ⟨y.f, t, y.i⟩ v = false := fun t z hz hv => by
      have hv2 : z.f ≤ v ∧ v ≤ z.t := by simpa [hasSp] using hv
      have := hp z hz
      simp [hasSp]
      omega
    rw [inst_snoc p ⟨y.f, x.t, y.i⟩ v (sep x.t), inst_snoc p y v (sep y.t)]
    have ya : y.t ≤ a := h.endb y (by simp)
    by_cases c1 : hasSp x v = true
    · rw [if_pos c1]
      have hv2 : x.f ≤ v ∧ v ≤ x.t := by simpa [hasSp] using c1
      rw [if_pos (by simp [hasSp]; omega), h2]
    · rw [if_neg c1]
      have hv2 : ¬ (x.f ≤ v ∧ v ≤ x.t) := by simpa [hasSp] using c1
      by_cases c2 : y.f ≤ v ∧ v ≤ y.t
      · rw [if_pos (by simp [hasSp]; omega), if_pos (by simp [hasSp]; omega)]
      · rw [if_neg (by simp [hasSp]; omega), if_neg (by simp [hasSp]; omega)]
  · rw [e]
    refine inst_snoc o x v fun z hz hv => ?_
    have hv2 : z.f ≤ v ∧ v ≤ z.t := by simpa [hasSp] using hv
    have := h.endb z hz
    simp [hasSp]
    omega
theorem leastG_kept : ∀ (l : List Sp) (a : Int) (out : List Sp), rightG a l = true → 0 ≤ a → Kept a out →
    (∃ b, Kept b (leastG out l)) ∧ ∀ v, instL (leastG out l) v = if a < v then instL l v else instL out v
  | [], a, out, _, _, h => ⟨⟨a, h⟩, fun v => by
    show instL out v = if a < v then 0 else instL out v
    split
    · rename_i hv; exact endB_inst h.endb hv
    · rfl⟩
  | x :: l, a, out, h, ha, hk => by
    obtain ⟨h1, h2⟩ := right_cons h
    have o := okSp_of h1
    obtain ⟨⟨b, hb⟩, ih⟩ := leastG_kept l x.t (extL out x) h2 (by omega) (hk.ext ha h1)
    refine ⟨⟨b, hb⟩, fun v => ?_⟩
    show instL (leastG (extL out x) l) v = _
    rw [ih v, ext_inst hk h1]
    by_cases c1 : x.t < v
    · rw [if_pos c1, if_pos (by omega), inst_behind h c1]
    · rw [if_neg c1]
      by_cases c2 : x.f ≤ v
      · rw [if_pos (by simp [hasSp]; omega), if_pos (by omega), inst_in c2 (by omega)]
      · rw [if_neg (by simp [hasSp]; omega)]
        by_cases c3 : a < v
        · rw [if_pos c3, endB_inst hk.endb c3]
          unfold instL hasSp
          rw [if_neg (by simp; omega)]
          exact (inst_ahead l x.t v h2 (by omega)).symm
        · rw [if_neg c3]
theorem kept_nil : Kept 0 [] := ⟨rfl, fun y hy => by simp at hy, trivial⟩
/-- As few as tell the same: they are right, tell the same, and cannot be fewer that way. -/
theorem leastL_right (l : List Sp) (h : rightL l = true) : rightL (leastL l) = true := by
  obtain ⟨⟨b, hb⟩, _⟩ := leastG_kept l 0 [] h (Int.le_refl 0) kept_nil
  exact hb.right
theorem leastL_inst (l : List Sp) (h : rightL l = true) (v : Int) : instL (leastL l) v = instL l v := by
  obtain ⟨_, hi⟩ := leastG_kept l 0 [] h (Int.le_refl 0) kept_nil
  show instL (leastG [] l) v = _
  rw [hi v]
  split
  · rfl
  · rename_i hv
    rw [inst_ahead l 0 v h (by omega)]
    rfl
theorem leastL_still (l : List Sp) (h : rightL l = true) : leastL (leastL l) = leastL l := by
  obtain ⟨⟨b, hb⟩, _⟩ := leastG_kept l 0 [] h (Int.le_refl 0) kept_nil
  exact can_fix _ _ rfl hb.can
/-- One span cut in two tells the same. -/
theorem cut_right (x : Sp) (k : Int) (B : List Sp) (h1 : x.f ≤ k) (h2 : k < x.t) : ∀ (A : List Sp) (a : Int), rightG a (A ++ x :: B) = true → rightG a (A ++ ⟨x.f, k, x.i⟩ :: ⟨k + 1, x.t, x.i⟩ :: B) = true
  | [], a, h => by
    obtain ⟨o1, o2⟩ := right_cons h
    have o := okSp_of o1
    show (okSp a ⟨x.f, k, x.i⟩ && (okSp k ⟨k + 1, x.t, x.i⟩ && rightG x.t B)) = true
    rw [okSp_mk (a := a) (x := ⟨x.f, k, x.i⟩) ⟨o.1, h1, by show k ≤ 4094; omega, o.2.2.2⟩, okSp_mk (a := k) (x := ⟨k + 1, x.t, x.i⟩) ⟨by show k < k + 1; omega, by show k + 1 ≤ x.t; omega, o.2.2⟩, o2]
    rfl
  | y :: A, a, h => by
    obtain ⟨o1, o2⟩ := right_cons h
    show (okSp a y && rightG y.t (A ++ _)) = true
    rw [o1, cut_right x k B h1 h2 A y.t o2]
    rfl
theorem cut_inst (x : Sp) (k : Int) (B : List Sp) (h1 : x.f ≤ k) (h2 : k < x.t) (v : Int) : ∀ (A : List Sp), instL (A ++ ⟨x.f, k, x.i⟩ :: ⟨k + 1, x.t, x.i⟩ :: B) v = instL (A ++ x :: B) v
  | [] => by
    show (if hasSp ⟨x.f, k, x.i⟩ v = true then x.i else if hasSp ⟨k + 1, x.t, x.i⟩ v = true then x.i else instL B v) = if hasSp x v = true then x.i else instL B v
    by_cases c : x.f ≤ v ∧ v ≤ x.t
    · rw [if_pos (c := hasSp x v = true) (by simp [hasSp]; omega)]
      by_cases c2 : v ≤ k
      · rw [if_pos (by simp [hasSp]; omega)]
      · rw [if_neg (by simp [hasSp]; omega), if_pos (by simp [hasSp]; omega)]
    · rw [if_neg (by simp [hasSp]; omega), if_neg (by simp [hasSp]; omega), if_neg (by simp [hasSp]; omega)]
  | y :: A => by
    show (if hasSp y v = true then y.i else instL (A ++ _) v) = if hasSp y v = true then y.i else instL (A ++ _) v
    rw [cut_inst x k B h1 h2 v A]

end Go.Proofs.YtlfeholphngilaaDoor
