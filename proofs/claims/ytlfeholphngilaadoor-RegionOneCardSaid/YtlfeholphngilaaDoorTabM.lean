/- 11.1: the table of all VIDs' instances, plainly. -/
import Derived.Test.YtlfeholphngilaaDoorSpanL
import Derived.Test.YtlfeholphngilaaDoorNum
namespace Go.Proofs.YtlfeholphngilaaDoor
set_option linter.unusedVariables false

/-- Each number as n bytes. -/
def bwN (n : Nat) (l : List Int) : List UInt8 := l.flatMap fun v => putL v.toNat n
theorem bwN_len (n : Nat) (l : List Int) : (bwN n l).length = n * l.length := by
  induction l with
  | nil => rfl
  | cons v l ih => unfold bwN at ih ⊢; rw [List.flatMap_cons, List.length_append, ih, putL_length, List.length_cons, Nat.mul_add]; omega
theorem bwN_take (n : Nat) (l : List Int) (k : Nat) (v : Int) (h : l[k]? = some v) : bwN n (l.take (k + 1)) = bwN n (l.take k) ++ putL v.toNat n := by
  unfold bwN
  rw [List.take_add_one, h, List.flatMap_append]
  simp
def tabI (l : List Sp) : List Int := (List.range 4096).map fun (v : Nat) => instL l (v : Int)
theorem tabI_len (l : List Sp) : (tabI l).length = 4096 := by unfold tabI; rw [List.length_map, List.length_range]
theorem tabI_at (l : List Sp) (k : Nat) (h : k < 4096) : (tabI l)[k]? = some (instL l (k : Int)) := by
  unfold tabI
  rw [List.getElem?_map, List.getElem?_range h]
  rfl
def tabB (l : List Sp) : List UInt8 := bwN 2 (tabI l)
theorem tabB_len (l : List Sp) : (tabB l).length = 8192 := by
  unfold tabB
  rw [bwN_len, tabI_len]
theorem tabB_step (l : List Sp) (k : Nat) (h : k < 4096) : bwN 2 ((tabI l).take (k + 1)) = bwN 2 ((tabI l).take k) ++ putL (instL l (k : Int)).toNat 2 := bwN_take 2 _ k _ (tabI_at l k h)
theorem tabI_same {l m : List Sp} (h : ∀ v, instL l v = instL m v) : tabI l = tabI m := List.map_congr_left fun v _ => h v
theorem tabB_same {l m : List Sp} (h : ∀ v, instL l v = instL m v) : tabB l = tabB m := by unfold tabB; rw [tabI_same h]
theorem flat_zero : ∀ l : List Int, (∀ v ∈ l, v = 0) → bwN 2 l = List.replicate (2 * l.length) 0
  | [], _ => rfl
  | v :: l, h => by
    have ih := flat_zero l (fun x hx => h x (List.mem_cons_of_mem _ hx))
    have hv := h v List.mem_cons_self
    subst hv
    unfold bwN at ih ⊢
    rw [List.flatMap_cons, ih, List.length_cons, show 2 * (l.length + 1) = 2 * l.length + 1 + 1 by omega, List.replicate_succ, List.replicate_succ]
    rfl
theorem tabB_nil : tabB [] = List.replicate 8192 0 := by
  unfold tabB
  rw [flat_zero _ (fun v hv => by
    unfold tabI at hv
    obtain ⟨x, -, rfl⟩ := List.mem_map.1 hv
    rfl), tabI_len]
/-- The bytes of one VID. -/
theorem bw_drop (l : List Int) : ∀ k : Nat, (bwN 2 l).drop (2 * k) = bwN 2 (l.drop k)
  | 0 => rfl
  | k + 1 => by
    rw [show 2 * (k + 1) = 2 * k + 2 by omega, ← List.drop_drop, bw_drop l k, ← List.drop_drop]
    cases l.drop k with
    | nil => rfl
    | cons x r => rfl
theorem putL_two (X : Nat) : putL X 2 = [UInt8.ofNat (X / 256 % 256), UInt8.ofNat (X % 256)] := by
  show [UInt8.ofNat (X / 256 ^ 1 % 256), UInt8.ofNat (X / 256 ^ 0 % 256)] = _
  rw [Nat.pow_one, Nat.pow_zero, Nat.div_one]
theorem tabB_at (l : List Sp) (k : Nat) (h : k < 4096) : (tabB l)[2 * k]? = some (UInt8.ofNat ((instL l k).toNat / 256 % 256)) ∧ (tabB l)[2 * k + 1]? = some (UInt8.ofNat ((instL l k).toNat % 256)) := by
  have hd : (tabB l).drop (2 * k) = putL (instL l k).toNat 2 ++ bwN 2 ((tabI l).drop (k + 1)) := by
    unfold tabB
    have hk : k < (tabI l).length := by rw [tabI_len]; exact h
    have hg : (tabI l)[k] = instL l (k : Int) := by
      have := tabI_at l k h
      rw [List.getElem?_eq_getElem hk] at this
      exact Option.some.inj this
    rw [bw_drop, List.drop_eq_getElem_cons hk, hg]
    unfold bwN
    rw [List.flatMap_cons]
  rw [putL_two] at hd
  have a0 := congrArg (fun z => z[0]?) hd
  have a1 := congrArg (fun z => z[1]?) hd
  simp only [List.getElem?_drop] at a0 a1
  exact ⟨a0, a1⟩
theorem right_take : ∀ (l : List Sp) (a : Int) (k : Nat), rightG a l = true → rightG a (l.take k) = true
  | [], _, k, _ => by rw [List.take_nil]; rfl
  | x :: l, a, 0, _ => rfl
  | x :: l, a, k + 1, h => by
    obtain ⟨h1, h2⟩ := right_cons h
    show (okSp a x && rightG x.t (l.take k)) = true
    rw [h1, right_take l x.t k h2]
    rfl
/-- One span more of a list that may be. -/
theorem tab_step (l : List Sp) (h : rightL l = true) (k : Nat) (hk : k < l.length) (v : Int) : instL (l.take (k + 1)) v = if hasSp l[k] v = true then l[k].i else instL (l.take k) v := by
  have h1 := right_take l 0 (k + 1) h
  have e : l.take (k + 1) = l.take k ++ [l[k]] := by rw [List.take_add_one, List.getElem?_eq_getElem hk]; rfl
  rw [e] at h1 ⊢
  rw [right_snoc, Bool.and_eq_true] at h1
  have hb := right_end (l.take k) 0 (lastT 0 (l.take k)) h1.1 (Int.le_refl _)
  obtain ⟨q, -⟩ := okSp_of h1.2
  refine inst_snoc (l.take k) l[k] v (fun z hz hv => ?_)
  have hzt := hb z hz
  unfold hasSp at hv ⊢
  simp only [Bool.and_eq_true, decide_eq_true_eq] at hv
  simp only [Bool.and_eq_false_iff, decide_eq_false_iff_not]
  omega
theorem last_pos (p : List Sp) (y : Sp) (a : Int) (ha : 0 ≤ a) (h : rightG a (p ++ [y]) = true) : 0 ≤ y.t := by
  revert a
  induction p with
  | nil =>
    intro a ha h
    obtain ⟨h1, -⟩ := right_cons (l := []) h
    obtain ⟨q1, q2, -⟩ := okSp_of h1
    omega
  | cons x p ih =>
    intro a ha h
    obtain ⟨h1, h2⟩ := right_cons h
    obtain ⟨q1, q2, -⟩ := okSp_of h1
    exact ih x.t (by omega) h2
/-- What is known of one of them. -/
theorem right_at (l : List Sp) (h : rightL l = true) (k : Nat) (hk : k < l.length) : 1 ≤ l[k].f ∧ l[k].f ≤ l[k].t ∧ l[k].t ≤ 4094 ∧ 0 ≤ l[k].i ∧ l[k].i ≤ 64 := by
  have h1 := right_take l 0 (k + 1) h
  have e : l.take (k + 1) = l.take k ++ [l[k]] := by rw [List.take_add_one, List.getElem?_eq_getElem hk]; rfl
  rw [e, right_snoc, Bool.and_eq_true] at h1
  obtain ⟨q1, q2, q3, q4, q5⟩ := okSp_of h1.2
  have hl : 0 ≤ lastT 0 (l.take k) := by
    rcases snoc_or (l.take k) with hn | ⟨p, y, hp⟩
    · rw [hn]; exact Int.le_refl _
    · rw [hp, lastT_snoc]
      have h2 := h1.1
      rw [hp] at h2
      exact last_pos p y 0 (Int.le_refl _) h2
  exact ⟨by omega, q2, q3, q4, q5⟩
/-- A row of n numbers as cells. -/
def rowF (n : Nat) (f : Nat → Int) : Array Go.Value := ((List.range n).map fun v => Go.Value.int .i64 (f v)).toArray
theorem rowF_size (n : Nat) (f : Nat → Int) : (rowF n f).size = n := by simp [rowF]
theorem rowF_at (n : Nat) (f : Nat → Int) (j : Nat) (h : j < n) : (rowF n f)[j]? = some (.int .i64 (f j)) := by simp [rowF, h]
theorem rowF_set (n : Nat) (f : Nat → Int) (j : Nat) (h : j < n) (x : Int) : (rowF n f).setIfInBounds j (.int .i64 x) = rowF n (fun v => if v = j then x else f v) := by
  apply Array.ext_getElem?
  intro i
  by_cases hi : i < n
  · rw [rowF_at n (fun v => if v = j then x else f v) i hi, Array.getElem?_setIfInBounds]
    by_cases c : j = i
    · rw [if_pos c, if_pos (by rw [rowF_size]; omega), if_pos c.symm]
    · rw [if_neg c, rowF_at n f i hi, if_neg (fun q => c q.symm)]
  · rw [Array.getElem?_eq_none (by rw [Array.size_setIfInBounds, rowF_size]; omega), Array.getElem?_eq_none (by rw [rowF_size]; omega)]
theorem rowF_zero (n : Nat) : rowF n (fun _ => 0) = Array.replicate n (.int .i64 0) := by
  apply Array.ext_getElem?
  intro i
  by_cases hi : i < n
  · rw [rowF_at n _ i hi, Array.getElem?_replicate, if_pos hi]
  · rw [Array.getElem?_eq_none (by rw [rowF_size]; omega), Array.getElem?_eq_none (by rw [Array.size_replicate]; omega)]

end Go.Proofs.YtlfeholphngilaaDoor
