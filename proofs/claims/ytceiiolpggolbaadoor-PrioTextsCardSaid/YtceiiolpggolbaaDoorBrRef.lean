/- What the reference guesses from a text: plain lists, nothing of the program. -/
import Derived.Test.YtceiiolpggolbaaDoorBrSpec
import Derived.Lib.Strings
namespace Go.Proofs.YtceiiolpggolbaaDoor
set_option linter.unusedVariables false

/-- The digits among some bytes, as a number. -/
def extF (acc : Nat) : List UInt8 → Nat
  | [] => acc
  | c :: l => extF (if 48 ≤ c.toNat ∧ c.toNat ≤ 57 then acc * 10 + (c.toNat - 48) else acc) l
theorem extF_append : ∀ (l m : List UInt8) (acc : Nat), extF acc (l ++ m) = extF (extF acc l) m
  | [], _, _ => rfl
  | c :: l, m, acc => by rw [List.cons_append, extF, extF, extF_append l m]
theorem extF_dec : ∀ (l : List UInt8) (acc n : Nat), Lib.decFrom acc l = some n → extF acc l = n
  | [], acc, n, h => by simp [Lib.decFrom] at h; exact h
  | c :: l, acc, n, h => by
    rw [Lib.decFrom, Lib.digitVal] at h
    rw [extF]
    by_cases hc : 48 ≤ c.toNat ∧ c.toNat ≤ 57
    · rw [if_pos hc] at h ⊢
      exact extF_dec l _ n h
    · rw [if_neg hc] at h; cases h
theorem extF_itoa (v : Int) (h0 : 0 ≤ v) : extF 0 (Lib.itoa v ++ [47]) = v.toNat := by
  obtain ⟨u, rfl⟩ := Int.eq_ofNat_of_zero_le h0
  rw [extF_append, itoa_nat, extF_dec _ 0 u (decFrom_digits u)]
  rfl
theorem extF_lt : ∀ (l : List UInt8) (acc m : Nat), acc < 10 ^ m → extF acc l < 10 ^ (m + l.length)
  | [], acc, m, h => by simpa [extF] using h
  | c :: l, acc, m, h => by
    have hs : 10 ^ m * 10 = 10 ^ (m + 1) := (Nat.pow_succ ..).symm
    have h1 : (if 48 ≤ c.toNat ∧ c.toNat ≤ 57 then acc * 10 + (c.toNat - 48) else acc) < 10 ^ (m + 1) := by
      split <;> omega
    have h2 := extF_lt l _ (m + 1) h1
    rw [extF]
    rw [show m + (c :: l).length = m + 1 + l.length by simp; omega]
    exact h2
theorem extF_take (l : List UInt8) (k : Nat) (c : UInt8) (h : l[k]? = some c) : extF 0 (l.take (k + 1)) = if 48 ≤ c.toNat ∧ c.toNat ≤ 57 then extF 0 (l.take k) * 10 + (c.toNat - 48) else extF 0 (l.take k) := by
  rw [List.take_add_one, h, extF_append]
  rfl
theorem extF_bound (l : List UInt8) (k : Nat) (hk : k ≤ 9) : extF 0 (l.take k) < 1000000000 := by
  have h1 := extF_lt (l.take k) 0 0 (by decide)
  have h2 : (l.take k).length ≤ k := List.length_take_le k l
  have h3 : 10 ^ (0 + (l.take k).length) ≤ 10 ^ 9 := Nat.pow_le_pow_right (by decide) (by omega)
  omega

theorem hexc_dot : ∀ n, n < 16 → hexc n ≠ 46 := by decide
theorem addrL_dot {x : Nat → Nat} (hx : ∀ i, x i < 256) : ∀ c ∈ addrL x, c ≠ 46 := by
  have h : addrL x = [hexc (x 0 / 16), hexc (x 0 % 16), 58, hexc (x 1 / 16), hexc (x 1 % 16), 58, hexc (x 2 / 16), hexc (x 2 % 16), 58, hexc (x 3 / 16), hexc (x 3 % 16), 58, hexc (x 4 / 16), hexc (x 4 % 16), 58, hexc (x 5 / 16), hexc (x 5 % 16)] := by
    rw [addrL_txt]; rfl
  intro c hc
  rw [h] at hc
  have h0 := hx 0
  have h1 := hx 1
  have h2 := hx 2
  have h3 := hx 3
  have h4 := hx 4
  have h5 := hx 5
  simp only [List.mem_cons, List.not_mem_nil, or_false] at hc
  rcases hc with rfl | rfl | rfl | rfl | rfl | rfl | rfl | rfl | rfl | rfl | rfl | rfl | rfl | rfl | rfl | rfl | rfl
  all_goals first | decide | exact hexc_dot _ (by omega)

/-- What stands before the address. -/
def fore (l : List UInt8) : Nat := l.length - 17
/-- The head of a number. -/
def headP (p : Int) : List UInt8 := Lib.itoa p ++ [46]
theorem headP_len (p : Int) (h0 : 0 ≤ p) (h1 : p ≤ 61440) : (headP p).length ≤ 6 ∧ 2 ≤ (headP p).length := by
  have := itoa_len5 p h0 (by omega)
  simp [headP]; omega

theorem head_fits {l : List UInt8} {p : Int} {a : Nat → Nat} (ha : ∀ i, a i < 256) (hl : addrL a = l.drop (fore l)) (h17 : 17 ≤ l.length) (hp : Lib.hasPrefix l (headP p) = true) : (headP p).length ≤ fore l := by
  rcases Nat.lt_or_ge (fore l) (headP p).length with q | q
  · exfalso
    obtain ⟨r, hr⟩ := List.isPrefixOf_iff_prefix.1 (show (headP p).isPrefixOf l = true from hp)
    have hi : l[(Lib.itoa p).length]? = some 46 := by
      rw [← hr]
      unfold headP
      rw [List.append_assoc, List.getElem?_append_right (Nat.le_refl _)]
      simp
    have hlen : (headP p).length = (Lib.itoa p).length + 1 := by simp [headP]
    have hd : (l.drop (fore l))[(Lib.itoa p).length - fore l]? = some 46 := by
      rw [List.getElem?_drop, show fore l + ((Lib.itoa p).length - fore l) = (Lib.itoa p).length by omega]
      exact hi
    rw [← hl] at hd
    exact addrL_dot ha 46 (List.mem_of_getElem? hd) rfl
  · exact q

/-- What stands between. -/
def midP (l : List UInt8) (p : Int) : List UInt8 := (l.drop (headP p).length).take (fore l - (headP p).length)
/-- The name that the reference guesses. -/
def guessP (l : List UInt8) (p : Int) (a : Nat → Nat) : Br := ⟨p, (extF 0 (midP l p) : Int), a⟩

theorem textB_split {b : Br} (h : okB b = true) : textB b = headP b.p ++ ((Lib.itoa b.e ++ [47]) ++ addrL b.a) := by
  unfold textB headP; simp

theorem textB_fore {b : Br} (h : okB b = true) : fore (textB b) = (headP b.p).length + (Lib.itoa b.e ++ [47]).length := by
  unfold fore
  rw [textB_split h]
  simp only [List.length_append, addrL_length]
  omega

theorem textB_drop {b : Br} (h : okB b = true) : (textB b).drop (fore (textB b)) = addrL b.a := by
  rw [textB_fore h]
  conv => lhs; arg 2; rw [textB_split h]
  rw [← List.append_assoc, ← List.length_append, List.drop_left]

theorem textB_mid {b : Br} (h : okB b = true) : midP (textB b) b.p = Lib.itoa b.e ++ [47] := by
  unfold midP
  rw [textB_fore h, Nat.add_sub_cancel_left]
  conv => lhs; arg 2; rw [textB_split h]
  rw [List.drop_left, List.take_left]

theorem textB_pre {b : Br} (h : okB b = true) : Lib.hasPrefix (textB b) (headP b.p) = true := by
  show (headP b.p).isPrefixOf _ = true
  rw [List.isPrefixOf_iff_prefix]
  exact ⟨_, (textB_split h).symm⟩

/-- None with a smaller number has this text. -/
def NoneB (l : List UInt8) (q : Int) : Prop := ∀ b : Br, okB b = true → byB b → b.p < q → textB b ≠ l

theorem NoneB.zero (l : List UInt8) : NoneB l 0 := fun b hb _ hq => by
  have := (okB_all hb).1
  omega
theorem NoneB.all {l : List UInt8} {q : Int} (h : NoneB l q) (hq : 61440 < q) : ∀ b : Br, okB b = true → byB b → textB b ≠ l := fun b hb xb => h b hb xb (by have := (okB_all hb).2.1; omega)
theorem NoneB.skip {l : List UInt8} {k : Nat} (h : NoneB l (4096 * k)) (hp : Lib.hasPrefix l (headP (4096 * k)) = false) : NoneB l (4096 * k + 4096) := by
  intro b hb xb hq ht
  by_cases c : b.p < 4096 * k
  · exact h b hb xb c ht
  · have := (okB_all hb).2.2.1
    have e : b.p = 4096 * k := by omega
    have h1 := textB_pre hb
    rw [ht, e, hp] at h1
    cases h1
theorem NoneB.miss {l : List UInt8} {k : Nat} {a : Nat → Nat} (h : NoneB l (4096 * k)) (ha : addrL a = l.drop (fore l)) (hx : ¬ (okB (guessP l (4096 * k) a) = true ∧ textB (guessP l (4096 * k) a) = l)) : NoneB l (4096 * k + 4096) := by
  intro b hb xb hq ht
  by_cases c : b.p < 4096 * k
  · exact h b hb xb c ht
  · obtain ⟨_, _, hm, he, _⟩ := okB_all hb
    have e : b.p = 4096 * k := by omega
    apply hx
    have h1 := textB_mid hb
    have h2 := textB_drop hb
    rw [ht] at h1 h2
    rw [e] at h1
    have h3 : (extF 0 (midP l (4096 * k)) : Int) = b.e := by rw [h1, extF_itoa b.e he]; omega
    have hp : (guessP l (4096 * k) a).p = b.p := e.symm
    have hq : (guessP l (4096 * k) a).e = b.e := h3
    refine ⟨?_, ?_⟩
    · unfold okB at hb ⊢
      rw [hp, hq]
      exact hb
    · have q : textB (guessP l (4096 * k) a) = textB b := by
        unfold textB
        rw [hp, hq]
        show _ ++ 46 :: (_ ++ 47 :: addrL a) = _
        rw [ha, h2]
      rw [q, ht]
theorem none_short {l : List UInt8} (h : ¬ (21 ≤ l.length ∧ l.length ≤ 28)) : ∀ b : Br, okB b = true → byB b → textB b ≠ l := by
  rintro b hb _ rfl
  exact h (textB_len b hb)
theorem none_addr {l : List UInt8} (h : ∀ a : Nat → Nat, (∀ i, a i < 256) → addrL a ≠ l.drop (fore l)) : ∀ b : Br, okB b = true → byB b → textB b ≠ l := by
  rintro b hb xb rfl
  exact h b.a xb (textB_drop hb).symm

end Go.Proofs.YtceiiolpggolbaaDoor
