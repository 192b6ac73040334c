/- bpdu.Read of what is written, of its beginnings, and of anything. -/
import Derived.Test.YtjoepmfineinfaaDoorBpMath
import Derived.Test.YtjoepmfineinfaaDoorBpRead
namespace Go.Proofs.YtjoepmfineinfaaDoor
open Go.RowKit
set_option linter.unusedVariables false
set_option linter.unusedSimpArgs false

theorem bdE_none (n : Nat) (h : 35 ≤ n) : bdE n 4 false = none := by
  unfold bdE
  rw [if_neg (by omega), if_neg (by omega), if_neg (by omega), if_neg (by omega), if_neg (by omega), if_neg (by omega), if_neg (by omega), if_neg (by simp), if_neg (by omega), if_neg (by omega), if_neg (by omega), if_neg (by omega)]

theorem bdE_seven (n : Nat) (z : Bool) (h : n < 35) (hz : 27 ≤ n → z = false) : ∃ x, bdE n 4 z = some (7, x) := by
  unfold bdE
  by_cases q0 : n < 4 + 1
  · rw [if_pos q0]; exact ⟨_, rfl⟩
  rw [if_neg q0]
  by_cases q1 : n < 4 + 3
  · rw [if_pos q1]; exact ⟨_, rfl⟩
  rw [if_neg q1]
  by_cases q2 : n < 4 + 9
  · rw [if_pos q2]; exact ⟨_, rfl⟩
  rw [if_neg q2]
  by_cases q3 : n < 4 + 13
  · rw [if_pos q3]; exact ⟨_, rfl⟩
  rw [if_neg q3]
  by_cases q4 : n < 4 + 15
  · rw [if_pos q4]; exact ⟨_, rfl⟩
  rw [if_neg q4]
  by_cases q5 : n < 4 + 21
  · rw [if_pos q5]; exact ⟨_, rfl⟩
  rw [if_neg q5]
  by_cases q6 : n < 4 + 23
  · rw [if_pos q6]; exact ⟨_, rfl⟩
  rw [if_neg q6]
  have hz2 : ¬ z = true := by rw [hz (by omega)]; simp
  rw [if_neg hz2]
  by_cases q8 : n < 4 + 25
  · rw [if_pos q8]; exact ⟨_, rfl⟩
  rw [if_neg q8]
  by_cases q9 : n < 4 + 27
  · rw [if_pos q9]; exact ⟨_, rfl⟩
  rw [if_neg q9]
  by_cases q10 : n < 4 + 29
  · rw [if_pos q10]; exact ⟨_, rfl⟩
  rw [if_neg q10]
  by_cases q11 : n < 4 + 31
  · rw [if_pos q11]; exact ⟨_, rfl⟩
  rw [if_neg q11]
  omega

theorem some_ne7 {a : Int} {b : Nat} {e : Int} {x : Nat} (ha : a ≠ 0) (h : some (a, b) = some (e, x)) : e ≠ 0 := by
  cases h
  exact ha

theorem bdE_not0 {n p : Nat} {z : Bool} {e : Int} {x : Nat} (h : bdE n p z = some (e, x)) : e ≠ 0 := by
  unfold bdE at h
  by_cases q0 : n < p + 1
  · rw [if_pos q0] at h
    exact some_ne7 (by decide) h
  rw [if_neg q0] at h
  by_cases q1 : n < p + 3
  · rw [if_pos q1] at h
    exact some_ne7 (by decide) h
  rw [if_neg q1] at h
  by_cases q2 : n < p + 9
  · rw [if_pos q2] at h
    exact some_ne7 (by decide) h
  rw [if_neg q2] at h
  by_cases q3 : n < p + 13
  · rw [if_pos q3] at h
    exact some_ne7 (by decide) h
  rw [if_neg q3] at h
  by_cases q4 : n < p + 15
  · rw [if_pos q4] at h
    exact some_ne7 (by decide) h
  rw [if_neg q4] at h
  by_cases q5 : n < p + 21
  · rw [if_pos q5] at h
    exact some_ne7 (by decide) h
  rw [if_neg q5] at h
  by_cases q6 : n < p + 23
  · rw [if_pos q6] at h
    exact some_ne7 (by decide) h
  rw [if_neg q6] at h
  by_cases q7 : z = true
  · rw [if_pos q7] at h
    exact some_ne7 (by decide) h
  rw [if_neg q7] at h
  by_cases q8 : n < p + 25
  · rw [if_pos q8] at h
    exact some_ne7 (by decide) h
  rw [if_neg q8] at h
  by_cases q9 : n < p + 27
  · rw [if_pos q9] at h
    exact some_ne7 (by decide) h
  rw [if_neg q9] at h
  by_cases q10 : n < p + 29
  · rw [if_pos q10] at h
    exact some_ne7 (by decide) h
  rw [if_neg q10] at h
  by_cases q11 : n < p + 31
  · rw [if_pos q11] at h
    exact some_ne7 (by decide) h
  rw [if_neg q11] at h
  cases h

theorem bdE_full {n p : Nat} {z : Bool} (h : bdE n p z = none) : p + 31 ≤ n ∧ z = false := by
  unfold bdE at h
  by_cases q0 : n < p + 1
  · rw [if_pos q0] at h
    cases h
  rw [if_neg q0] at h
  by_cases q1 : n < p + 3
  · rw [if_pos q1] at h
    cases h
  rw [if_neg q1] at h
  by_cases q2 : n < p + 9
  · rw [if_pos q2] at h
    cases h
  rw [if_neg q2] at h
  by_cases q3 : n < p + 13
  · rw [if_pos q3] at h
    cases h
  rw [if_neg q3] at h
  by_cases q4 : n < p + 15
  · rw [if_pos q4] at h
    cases h
  rw [if_neg q4] at h
  by_cases q5 : n < p + 21
  · rw [if_pos q5] at h
    cases h
  rw [if_neg q5] at h
  by_cases q6 : n < p + 23
  · rw [if_pos q6] at h
    cases h
  rw [if_neg q6] at h
  by_cases q7 : z = true
  · rw [if_pos q7] at h
    cases h
  rw [if_neg q7] at h
  by_cases q8 : n < p + 25
  · rw [if_pos q8] at h
    cases h
  rw [if_neg q8] at h
  by_cases q9 : n < p + 27
  · rw [if_pos q9] at h
    cases h
  rw [if_neg q9] at h
  by_cases q10 : n < p + 29
  · rw [if_pos q10] at h
    cases h
  rw [if_neg q10] at h
  by_cases q11 : n < p + 31
  · rw [if_pos q11] at h
    cases h
  rw [if_neg q11] at h
  exact ⟨by omega, by cases z <;> simp_all⟩

theorem eqBp_cells {a b : Bp} (h : eqBp a b = true) : bpC a = bpC b := by
  simp only [eqBp, Bool.and_eq_true, beq_iff_eq, eqP] at h
  obtain ⟨h0, h1, h2, h3, h4, ⟨h5, h6⟩, h7, h8, h9, h10⟩ := h
  rw [eqB_iff, decide_eq_true_iff] at h2 h4
  exact bpC_congr a b h0 ((eqFl_iff _ _).1 h1) (brC_nums h2) h3 (brC_nums h4) h5 h6 h7 h8 h9 h10

theorem bpC_cf {a b : Bp} (h : bpC a = bpC b) : bpC (cfB a) = bpC (cfB b) := by
  have h' := h
  obtain ⟨k, ⟨x0, x1, x2, x3, x4, x5, x6⟩, r, c, t, pp, pn, t1, t2, t3, t4⟩ := a
  obtain ⟨k', ⟨y0, y1, y2, y3, y4, y5, y6⟩, r', c', t', pp', pn', t1', t2', t3', t4'⟩ := b
  simp only [bpC, Array.mk.injEq, List.cons.injEq, Value.int.injEq, Value.bool.injEq, true_and, and_true] at h
  obtain ⟨rfl, rfl, rfl, rfl, rfl, rfl, rfl, rfl, g0, g1, g2, g3, g4, g5, g6, g7, rfl, f0, f1, f2, f3, f4, f5, f6, f7, rfl, rfl, rfl, rfl, rfl, rfl⟩ := h
  unfold cfB
  simp only
  split
  · simp only [bpC, g0, g1, g2, g3, g4, g5, g6, g7, f0, f1, f2, f3, f4, f5, f6, f7]
  · exact h'

theorem cfB_same (b : Bp) (h : eqFl b.f (cfF b.f) = true) : cfB b = b := by
  have q := (eqFl_iff _ _).1 h
  unfold cfB
  split
  · rw [← q]
  · rfl

theorem hd_of {s : ByteArray} {H C : List UInt8} (h : s.data.toList = H ++ C) (hH : H.length = 4) : hdAt s = H := seg (A := []) (X := H) (C := C) (by simpa using h) rfl hH

theorem len_of {s : ByteArray} {l : List UInt8} (h : s.data.toList = l) : s.size = l.length := by
  rw [← h]
  simp

/-- What is written is read. -/
theorem read_back (b : Bp) (hok : okBp b = true) (hx : byBp b) (s : ByteArray) (m : List UInt8) (hs : s.data.toList = writeL b ++ m) (hsz : s.size ≤ 300) (W : World) :
    Calls Tryd.prog 17 #[.string s] W (ReadsAs (bpC b) 0 (-1) W) := by
  have hlen := len_of hs
  by_cases k1 : b.k = 1
  · obtain ⟨hf, hb⟩ := okBp_body hok (Or.inl k1)
    have hw : writeL b = [0, 0, 0, 0] ++ bodyL b := by unfold writeL; rw [if_pos k1]
    rw [hw, List.append_assoc] at hs
    rw [hw, List.length_append, List.length_append, bodyL_len] at hlen
    simp only [List.length_cons, List.length_nil] at hlen
    obtain ⟨e1, e2⟩ := inL_back (inL_of hs rfl) hx hf hb 1 k1
    have hcf : eqFl b.f (cfF b.f) = true := by
      unfold okBp at hok
      rw [if_pos k1, Bool.and_eq_true] at hok
      exact hok.1
    have e3 : bpC (cfB (bpAt s 4 1)) = bpC b := by rw [bpC_cf e1, cfB_same b hcf]
    rw [← e3]
    exact bpRead_config_ok s W hsz (by omega) (hd_of hs rfl) (by rw [e2]; exact bdE_none _ (by omega))
  by_cases k3 : b.k = 3
  · obtain ⟨hf, hb⟩ := okBp_body hok (Or.inr k3)
    have hw : writeL b = [0, 0, 2, 2] ++ (bodyL b ++ [0]) := by unfold writeL; rw [if_neg k1, if_pos k3]
    rw [hw] at hs
    rw [hw, List.length_append, List.length_append, List.length_append, bodyL_len] at hlen
    simp only [List.length_cons, List.length_nil] at hlen
    have hs2 : s.data.toList = [0, 0, 2, 2] ++ (bodyL b ++ ([0] ++ m)) := by rw [hs]; simp only [List.append_assoc]
    obtain ⟨e1, e2⟩ := inL_back (inL_of hs2 rfl) hx hf hb 3 k3
    rw [← e1]
    refine bpRead_rapid_ok s W hsz (by omega) (hd_of hs2 rfl) (by rw [e2]; exact bdE_none _ (by omega)) (by omega) (by omega) ?_
    exact seg (A := [0, 0, 2, 2] ++ bodyL b) (X := [0]) (C := m) (by rw [hs2]; simp only [List.append_assoc]) (by rw [List.length_append, bodyL_len]; rfl) rfl
  · have k2 : b.k = 2 := by
      unfold okBp at hok
      rw [if_neg k1] at hok
      by_cases k2 : b.k = 2
      · exact k2
      · rw [if_neg k2, if_neg k3] at hok; cases hok
    have hw : writeL b = [0, 0, 0, 128] := by unfold writeL; rw [if_neg k1, if_neg k3]
    have hn : eqBp b nBp = true := by
      unfold okBp at hok
      rw [if_neg k1, if_pos k2] at hok
      exact hok
    rw [hw] at hs
    rw [hw, List.length_append] at hlen
    simp only [List.length_cons, List.length_nil] at hlen
    rw [eqBp_cells hn]
    exact bpRead_notice s W hsz (by omega) (hd_of hs rfl)

theorem seg_cut {l : List UInt8} (j n k : Nat) (h : n + k ≤ j) : ((l.take j).drop n).take k = (l.drop n).take k := by
  rw [List.drop_take, List.take_take, Nat.min_eq_left (by omega)]

theorem writeL_len (b : Bp) : (writeL b).length = if b.k = 1 then 35 else if b.k = 3 then 36 else 4 := by
  unfold writeL
  split
  · simp [bodyL_len]
  · split
    · simp [bodyL_len]
    · rfl

/-- A beginning is not enough. -/
theorem read_cut (b : Bp) (hok : okBp b = true) (hx : byBp b) (s : ByteArray) (j : Nat) (hj : j < (writeL b).length) (hs : s.data.toList = (writeL b).take j) :
    ∃ pl, ∀ W, Calls Tryd.prog 17 #[.string s] W (ReadsAs (bpC zBp) 7 pl W) := by
  have hlen := len_of hs
  rw [List.length_take, Nat.min_eq_left (by omega)] at hlen
  have hwl := writeL_len b
  by_cases h4 : s.size < 4
  · exact ⟨0, fun W => bpRead_short s W (by omega) h4⟩
  have body : ∀ (H C : List UInt8), H.length = 4 → writeL b = H ++ (bodyL b ++ C) → okBd b = true → hdAt s = H ∧ (27 ≤ s.size → pzAt s (4 + 21) = false) := fun H C hH hw hb => by
    obtain ⟨hroot, hsnd, hport, hcost, hage, hmx, hhel, hwai⟩ := okBd_all hb
    obtain ⟨u0, u1, um, v0, v1⟩ := okPt_all hport
    refine ⟨?_, fun h27 => ?_⟩
    · unfold hdAt
      rw [hs, seg_cut j 0 4 (by omega)]
      exact seg (A := []) (X := H) (C := bodyL b ++ C) (by simpa using hw) rfl hH
    · have hz : (beAt s (4 + 21) : Int) = 256 * b.pp + b.pn := by
        unfold beAt
        rw [hs, seg_cut j (4 + 21) 2 (by omega), (inL_of hw hH).f6, beN_putL_fits _ _ (by omega)]
        omega
      unfold pzAt
      rw [beq_eq_false_iff_ne]
      omega
  by_cases k1 : b.k = 1
  · obtain ⟨hf, hb⟩ := okBp_body hok (Or.inl k1)
    rw [if_pos k1] at hwl
    obtain ⟨e1, e2⟩ := body [0, 0, 0, 0] [] rfl (by unfold writeL; rw [if_pos k1, List.append_nil]) hb
    obtain ⟨x, he⟩ := bdE_seven s.size (pzAt s (4 + 21)) (by omega) e2
    exact ⟨x, fun W => bpRead_config_bad s W (by omega) h4 e1 7 x he⟩
  by_cases k3 : b.k = 3
  · obtain ⟨hf, hb⟩ := okBp_body hok (Or.inr k3)
    rw [if_neg k1, if_pos k3] at hwl
    obtain ⟨e1, e2⟩ := body [0, 0, 2, 2] [0] rfl (by unfold writeL; rw [if_neg k1, if_pos k3]) hb
    by_cases h35 : s.size < 35
    · obtain ⟨x, he⟩ := bdE_seven s.size (pzAt s (4 + 21)) h35 e2
      exact ⟨x, fun W => bpRead_rapid_bad s W (by omega) h4 e1 7 x he⟩
    · exact ⟨35, fun W => bpRead_rapid_cut s W (by omega) h4 e1 (by rw [e2 (by omega)]; exact bdE_none _ (by omega)) (by omega) (by omega)⟩
  · rw [if_neg k1, if_neg k3] at hwl
    omega

theorem okB_at (s : ByteArray) (p : Nat) : okB (brAt s p) = true := by
  have h := beAt_lt s p
  unfold okB prB brAt
  simp only [Bool.and_eq_true, decide_eq_true_eq]
  omega

theorem fit_at (s : ByteArray) (p n : Nat) : fitI n ((numAt s p n : Nat) : Int) = true := by
  have h := beN_lt ((s.data.toList.drop p).take n)
  have hl : ((s.data.toList.drop p).take n).length ≤ n := List.length_take_le n _
  have h3 : 256 ^ ((s.data.toList.drop p).take n).length ≤ 256 ^ n := Nat.pow_le_pow_right (by decide) hl
  have h4 : numAt s p n < 256 ^ n := Nat.lt_of_lt_of_le h h3
  have e : ((256 ^ n : Nat) : Int) = 256 ^ n := by simp
  unfold fitI
  rw [decide_eq_true (Int.natCast_nonneg _), decide_eq_true (show ((numAt s p n : Nat) : Int) < 256 ^ n by omega)]
  rfl

theorem okBd_at (s : ByteArray) (p : Nat) (k : Int) (hz : pzAt s (p + 21) = false) : okBd (bpAt s p k) = true := by
  have h := beAt_lt s (p + 21)
  have hp : okPt ((beAt s (p + 21) : Int) / 4096 * 16) ((beAt s (p + 21) : Int) % 4096) = true := by
    unfold pzAt at hz
    rw [beq_eq_false_iff_ne] at hz
    unfold okPt prB
    simp only [Bool.and_eq_true, decide_eq_true_eq]
    omega
  unfold okBd okTm
  show (okB (brAt s (p + 1)) && (okB (brAt s (p + 13)) && (okPt ((beAt s (p + 21) : Int) / 4096 * 16) ((beAt s (p + 21) : Int) % 4096) && (fitI 4 (numAt s (p + 9) 4 : Nat) && (fitI 2 (numAt s (p + 23) 2 : Nat) && (fitI 2 (numAt s (p + 25) 2 : Nat) && (fitI 2 (numAt s (p + 27) 2 : Nat) && fitI 2 (numAt s (p + 29) 2 : Nat)))))))) = true
  rw [okB_at, okB_at, hp, fit_at, fit_at, fit_at, fit_at, fit_at]
  rfl

theorem by_at (s : ByteArray) (p : Nat) (k : Int) : byBp (bpAt s p k) := ⟨fun i => byX_lt _ i, fun i => byX_lt _ i⟩

theorem i64_fit {n : Nat} {v : Int} (hn : n ≤ 7) (h : fitI n v = true) : i64R v := by
  obtain ⟨h0, h1⟩ := fitI_all h
  have e : ((256 ^ n : Nat) : Int) = 256 ^ n := by simp
  have h3 : 256 ^ n ≤ 256 ^ 7 := Nat.pow_le_pow_right (by decide) hn
  exact ⟨by omega, by omega⟩

theorem rg_of {b : Bp} (h : okBd b = true) : rgBp b := by
  obtain ⟨_, _, _, hcost, hage, hmx, hhel, hwai⟩ := okBd_all h
  exact ⟨i64_fit (by decide) hcost, i64_fit (by decide) hage, i64_fit (by decide) hmx, i64_fit (by decide) hhel, i64_fit (by decide) hwai⟩

/-- Whatever is read: an error and nothing, or what may be. -/
theorem read_ways (s : ByteArray) (hs : s.size ≤ 300) :
    (∃ e pl, e ≠ 0 ∧ ∀ W, Calls Tryd.prog 17 #[.string s] W (ReadsAs (bpC zBp) e pl W)) ∨
    (∃ X : Bp, okBp X = true ∧ byBp X ∧ rgBp X ∧ (writeL X).length ≤ s.size ∧ ∀ W, Calls Tryd.prog 17 #[.string s] W (ReadsAs (bpC X) 0 (-1) W)) := by
  by_cases h : s.size < 4
  · exact Or.inl ⟨7, 0, by decide, fun W => bpRead_short s W hs h⟩
  by_cases h0 : hdAt s = [0, 0, 0, 0]
  · cases he : bdE s.size 4 (pzAt s (4 + 21)) with
    | some q =>
      obtain ⟨e, x⟩ := q
      exact Or.inl ⟨e, x, bdE_not0 he, fun W => bpRead_config_bad s W hs h h0 e x he⟩
    | none =>
      obtain ⟨h35, hz⟩ := bdE_full he
      have hb := okBd_at s 4 1 hz
      have hc : cfB (bpAt s 4 1) = ⟨1, cfF (bpAt s 4 1).f, (bpAt s 4 1).root, (bpAt s 4 1).cost, (bpAt s 4 1).snd, (bpAt s 4 1).pp, (bpAt s 4 1).pn, (bpAt s 4 1).age, (bpAt s 4 1).mx, (bpAt s 4 1).hel, (bpAt s 4 1).wai⟩ := by unfold cfB; rw [if_pos (show (bpAt s 4 1).k = 1 from rfl)]; rfl
      refine Or.inr ⟨cfB (bpAt s 4 1), ?_, ?_, ?_, ?_, fun W => bpRead_config_ok s W hs h h0 he⟩
      · rw [hc]
        unfold okBp
        rw [if_pos rfl]
        show (eqFl (cfF (bpAt s 4 1).f) (cfF (cfF (bpAt s 4 1).f)) && okBd (bpAt s 4 1)) = true
        rw [hb, Bool.and_true]
        exact eqFl_self _
      · rw [hc]
        exact by_at s 4 1
      · rw [hc]
        exact rg_of hb
      · rw [writeL_len, hc, if_pos rfl]
        omega
  by_cases h1 : hdAt s = [0, 0, 0, 128]
  · exact Or.inr ⟨nBp, rfl, ⟨fun i => (by decide : (0 : Nat) < 256), fun i => (by decide : (0 : Nat) < 256)⟩, ⟨⟨by decide, by decide⟩, ⟨by decide, by decide⟩, ⟨by decide, by decide⟩, ⟨by decide, by decide⟩, ⟨by decide, by decide⟩⟩, by rw [writeL_len, if_neg (by decide), if_neg (by decide)]; omega, fun W => bpRead_notice s W hs h h1⟩
  by_cases h2 : hdAt s = [0, 0, 2, 2]
  · cases he : bdE s.size 4 (pzAt s (4 + 21)) with
    | some q =>
      obtain ⟨e, x⟩ := q
      exact Or.inl ⟨e, x, bdE_not0 he, fun W => bpRead_rapid_bad s W hs h h2 e x he⟩
    | none =>
      obtain ⟨h35, hz⟩ := bdE_full he
      by_cases h36 : 36 ≤ s.size
      · by_cases ht : tlAt s = [0]
        · have hb := okBd_at s 4 3 hz
          refine Or.inr ⟨bpAt s 4 3, ?_, by_at s 4 3, rg_of hb, ?_, fun W => bpRead_rapid_ok s W hs h h2 he h35 h36 ht⟩
          · unfold okBp
            rw [if_neg (show ¬ (bpAt s 4 3).k = 1 from (by decide : ¬ (3 : Int) = 1)), if_neg (show ¬ (bpAt s 4 3).k = 2 from (by decide : ¬ (3 : Int) = 2)), if_pos (show (bpAt s 4 3).k = 3 from rfl), hb, Bool.and_true]
            exact okF_of _
          · rw [writeL_len, if_neg (show ¬ (bpAt s 4 3).k = 1 from (by decide : ¬ (3 : Int) = 1)), if_pos (show (bpAt s 4 3).k = 3 from rfl)]
            exact h36
        · exact Or.inl ⟨3, 35, by decide, fun W => bpRead_rapid_form s W hs h h2 he h35 h36 ht⟩
      · exact Or.inl ⟨7, 35, by decide, fun W => bpRead_rapid_cut s W hs h h2 he h35 h36⟩
  · exact Or.inl ⟨3, 0, by decide, fun W => bpRead_other s W hs h h0 h1 h2⟩

end Go.Proofs.YtjoepmfineinfaaDoor
