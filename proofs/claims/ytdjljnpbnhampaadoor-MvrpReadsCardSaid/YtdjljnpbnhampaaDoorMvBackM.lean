/- 16: there and back, plainly; what is cut off. -/
import Derived.Test.YtdjljnpbnhampaaDoorMvR
namespace Go.Proofs.YtdjljnpbnhampaaDoor
set_option linter.unusedVariables false

theorem by1_of {S : List UInt8} {p : Nat} {b : UInt8} {R : List UInt8} (h : S.drop p = b :: R) : by1 S p = b.toNat := by
  unfold by1
  rw [h]
  simp [beN]

theorem drop_len {S R : List UInt8} {p : Nat} (h : S.drop p = R) (hp : p ≤ S.length) : S.length = p + R.length := by
  have := congrArg List.length h
  rw [List.length_drop] at this
  omega

theorem drop_more {S A R : List UInt8} {p : Nat} (h : S.drop p = A ++ R) : S.drop (p + A.length) = R := by
  rw [← List.drop_drop, h, List.drop_append_of_le_length (Nat.le_refl _), List.drop_length, List.nil_append]

theorem putL_one (X : Nat) (h : X < 256) : ∃ b : UInt8, putL X 1 = [b] ∧ b.toNat = X := by
  refine ⟨UInt8.ofNat (X / 256 ^ 0 % 256), rfl, ?_⟩
  rw [UInt8.toNat_ofNat']
  simp
  omega

theorem g3_lt {a b c : Int} (ha : 0 ≤ a ∧ a ≤ 5) (hb : 0 ≤ b ∧ b ≤ 5) (hc : 0 ≤ c ∧ c ≤ 5) : g3 a b c ≤ 215 ∧ trip (g3 a b c) = [a, b, c] := by
  have e : ((g3 a b c : Nat) : Int) = 36 * a + 6 * b + c := by unfold g3; omega
  refine ⟨by omega, ?_⟩
  unfold trip
  have e1 : ((g3 a b c / 36 : Nat) : Int) = a := by omega
  have e2 : ((g3 a b c / 6 % 6 : Nat) : Int) = b := by omega
  have e3 : ((g3 a b c % 6 : Nat) : Int) = c := by omega
  rw [e1, e2, e3]

theorem zero5 : (0 : Int) ≤ 0 ∧ (0 : Int) ≤ 5 := by decide

/-- One byte of events is read, or the text ends ahead of it. -/
theorem ev_one {S : List UInt8} {n f p : Nat} {l ev : List Int} {a b c : Int} {R : List UInt8} (ha : 0 ≤ a ∧ a ≤ 5) (hb : 0 ≤ b ∧ b ≤ 5) (hc : 0 ≤ c ∧ c ≤ 5)
    (h : S.drop p = putL (g3 a b c) 1 ++ R) (hp : p ≤ S.length) (hn : l.length < n) (hz : ([a, b, c].drop (n - l.length)).all (fun x => x == 0) = true) :
    rdEv S n (f + 1) p l = rdEv S n f (p + 1) (l ++ [a, b, c].take (n - l.length)) := by
  obtain ⟨hg, ht⟩ := g3_lt ha hb hc
  obtain ⟨y, hy, hy2⟩ := putL_one (g3 a b c) (by omega)
  rw [hy] at h
  have hl := drop_len h hp
  rw [List.length_append, List.length_singleton] at hl
  have hby : by1 S p = g3 a b c := by rw [by1_of h, hy2]
  rw [ev_step (by omega) (by omega) (by rw [hby]; omega) (by rw [hby, ht]; exact hz), hby, ht]

theorem evL_cut1 {a b c : Int} {m : List UInt8} {k : Nat} (h : 0 < k) : ∃ j, (putL (g3 a b c) 1 ++ m).take k = putL (g3 a b c) 1 ++ m.take j ∧ k = 1 + j := by
  refine ⟨k - 1, ?_, by omega⟩
  rw [List.take_append, List.take_of_length_le (by rw [putL_length]; omega), putL_length]

theorem ev_wrote (S : List UInt8) (n : Nat) (R : List UInt8) : ∀ (ev l : List Int) (p f : Nat), S.drop p = evL ev ++ R → n = l.length + ev.length → ev.length ≤ f → (∀ x ∈ ev, 0 ≤ x ∧ x ≤ 5) → p ≤ S.length →
    rdEv S n f p l = .ok (l ++ ev) (p + (evL ev).length)
  | [], l, p, f, h, hn, hf, ho, hp => by
    have hn : n = l.length + 0 := hn
    rw [ev_end (by omega)]
    simp [evL]
  | [a], l, p, f + 1, h, hn, hf, ho, hp => by
    have hn : n = l.length + 1 := hn
    have e : n - l.length = 1 := by omega
    rw [ev_one (ev := []) (ho a (by simp)) zero5 zero5 (by exact h) hp (by omega) (by rw [e]; rfl), e]
    rw [ev_end (by rw [List.length_append]; show n ≤ l.length + 1; omega)]
    rfl
  | [a, b], l, p, f + 1, h, hn, hf, ho, hp => by
    have hn : n = l.length + 2 := hn
    have e : n - l.length = 2 := by omega
    rw [ev_one (ev := []) (ho a (by simp)) (ho b (by simp)) zero5 (by exact h) hp (by omega) (by rw [e]; rfl), e]
    rw [ev_end (by rw [List.length_append]; show n ≤ l.length + 2; omega)]
    rfl
  | a :: b :: c :: ev, l, p, f + 1, h, hn, hf, ho, hp => by
    have hn : n = l.length + (ev.length + 1 + 1 + 1) := hn
    have hf : ev.length + 1 + 1 + 1 ≤ f + 1 := hf
    rw [evL_three, List.append_assoc] at h
    have e3 : [a, b, c].take (n - l.length) = [a, b, c] := List.take_of_length_le (by show 3 ≤ n - l.length; omega)
    have e4 : [a, b, c].drop (n - l.length) = [] := List.drop_eq_nil_of_le (by show 3 ≤ n - l.length; omega)
    have hl := drop_len h hp
    rw [List.length_append, putL_length] at hl
    rw [ev_one (ev := []) (ho a (by simp)) (ho b (by simp)) (ho c (by simp)) h hp (by omega) (by rw [e4]; rfl), e3]
    have h2 := drop_more h
    rw [putL_length] at h2
    rw [ev_wrote S n R ev (l ++ [a, b, c]) (p + 1) f h2 (by rw [List.length_append]; show n = l.length + 3 + ev.length; omega) (by omega) (fun x hx => ho x (by simp [hx])) (by omega)]
    rw [evL_three, List.length_append, putL_length, List.append_assoc, Nat.add_assoc]
    rfl

theorem ev_cut (S : List UInt8) (n : Nat) : ∀ (ev l : List Int) (p f k : Nat), S.drop p = (evL ev).take k → k < (evL ev).length → n = l.length + ev.length → ev.length ≤ f → (∀ x ∈ ev, 0 ≤ x ∧ x ≤ 5) → p ≤ S.length →
    ∃ q, rdEv S n f p l = .bad 7 q
  | [], l, p, f, k, h, hk, hn, hf, ho, hp => by simp [evL] at hk
  | [a], l, p, f + 1, k, h, hk, hn, hf, ho, hp => by
    have hn : n = l.length + 1 := hn
    have hk : k < 1 := hk
    obtain rfl : k = 0 := by omega
    have hl := drop_len h hp
    rw [List.take_zero, List.length_nil] at hl
    exact ⟨p, ev_miss (by omega) (by omega)⟩
  | [a, b], l, p, f + 1, k, h, hk, hn, hf, ho, hp => by
    have hn : n = l.length + 2 := hn
    have hk : k < 1 := hk
    obtain rfl : k = 0 := by omega
    have hl := drop_len h hp
    rw [List.take_zero, List.length_nil] at hl
    exact ⟨p, ev_miss (by omega) (by omega)⟩
  | a :: b :: c :: ev, l, p, f + 1, k, h, hk, hn, hf, ho, hp => by
    have hn : n = l.length + (ev.length + 1 + 1 + 1) := hn
    have hf : ev.length + 1 + 1 + 1 ≤ f + 1 := hf
    rw [evL_three] at h hk
    rw [List.length_append, putL_length] at hk
    by_cases hk0 : k = 0
    · subst hk0
      have hl := drop_len h hp
      rw [List.take_zero, List.length_nil] at hl
      exact ⟨p, ev_miss (by omega) (by omega)⟩
    · obtain ⟨j, e, hj⟩ := evL_cut1 (a := a) (b := b) (c := c) (m := evL ev) (k := k) (by omega)
      rw [e] at h
      have e3 : [a, b, c].take (n - l.length) = [a, b, c] := List.take_of_length_le (by show 3 ≤ n - l.length; omega)
      have e4 : [a, b, c].drop (n - l.length) = [] := List.drop_eq_nil_of_le (by show 3 ≤ n - l.length; omega)
      have hl := drop_len h hp
      rw [List.length_append, putL_length] at hl
      rw [ev_one (ev := []) (ho a (by simp)) (ho b (by simp)) (ho c (by simp)) h hp (by omega) (by rw [e4]; rfl), e3]
      have h2 := drop_more h
      rw [putL_length] at h2
      exact ev_cut S n ev (l ++ [a, b, c]) (p + 1) f j h2 (by omega) (by rw [List.length_append]; show n = l.length + 3 + ev.length; omega) (by omega) (fun x hx => ho x (by simp [hx])) (by omega)

theorem hdN_of {S R : List UInt8} {p X : Nat} (h : S.drop p = putL X 2 ++ R) (hX : X < 65536) : hdN S p = X := by
  unfold hdN
  rw [h, List.take_append_of_le_length (by rw [putL_length]; omega), List.take_of_length_le (by rw [putL_length]; omega), beN_putL_fits _ _ (by omega)]

theorem cnt_ok {x : Mv} (h : okMv x = true) : cntMv x ≠ 0 ∧ cntMv x < 16384 ∧ cntMv x % 8192 = x.ev.length ∧ decide (8192 ≤ cntMv x) = x.all := by
  have hl := okMv_len h
  obtain ⟨al, fi, ev⟩ := x
  unfold cntMv
  simp only at *
  cases al with
  | true =>
    simp only [if_true]
    refine ⟨by omega, by omega, by omega, by simp⟩
  | false =>
    have h0 : ev ≠ [] := fun e => by
      have := (okMv_nil h e).1
      simp at this
    have := List.length_pos_iff.2 h0
    simp only [Bool.false_eq_true, if_false, Nat.add_zero]
    refine ⟨by omega, by omega, by omega, decide_eq_false (by omega)⟩

theorem at_wrote {S R : List UInt8} {p : Nat} {x : Mv} (h : S.drop p = attrW x ++ R) (hx : okMv x = true) (hp : p ≤ S.length) : rdAt S p = .got x (p + (attrW x).length) := by
  obtain ⟨c1, c2, c3, c4⟩ := cnt_ok hx
  obtain ⟨f1, f2⟩ := okMv_first hx
  have hll := okMv_len hx
  have hl := drop_len h hp
  have haw := attrW_len x
  rw [List.length_append] at hl
  have hal : attrW x ++ R = putL (cntMv x) 2 ++ (putL x.first.toNat 2 ++ (evL x.ev ++ R)) := by unfold attrW; simp only [List.append_assoc]
  rw [hal] at h
  have h2 := drop_more h
  rw [putL_length] at h2
  have h3 := drop_more h2
  rw [putL_length, Nat.add_assoc] at h3
  have e1 := hdN_of h (by omega)
  have e2 := hdN_of h2 (by omega)
  have hE := ev_wrote S x.ev.length R x.ev [] (p + 4) x.ev.length h3 (by simp) (Nat.le_refl _) (okMv_ev hx) (by omega)
  rw [List.nil_append] at hE
  have ex : (⟨decide (8192 ≤ cntMv x), ((x.first.toNat : Nat) : Int), x.ev⟩ : Mv) = x := by
    rw [c4, Int.toNat_of_nonneg f1]
  unfold rdAt
  rw [if_neg (by omega), if_neg (by rw [e1]; exact c1), if_neg (by rw [e1]; omega), if_neg (by omega), e1, e2, c3, hE]
  simp only
  rw [ex, if_pos hx, haw, evL_len]
  congr 1
  omega

theorem at_cut {S : List UInt8} {p k : Nat} {x : Mv} (h : S.drop p = (attrW x).take k) (hk : k < (attrW x).length) (hx : okMv x = true) (hp : p ≤ S.length) : ∃ q, rdAt S p = .bad 7 q := by
  obtain ⟨c1, c2, c3, c4⟩ := cnt_ok hx
  obtain ⟨f1, f2⟩ := okMv_first hx
  have hll := okMv_len hx
  have hl := drop_len h hp
  have haw := attrW_len x
  rw [List.length_take] at hl
  have hkl : min k (attrW x).length = k := by omega
  rw [hkl] at hl
  by_cases k2 : k < 2
  · refine ⟨p, ?_⟩
    unfold rdAt
    rw [if_pos (by omega)]
  have t1 : (attrW x).take k = putL (cntMv x) 2 ++ ((putL x.first.toNat 2 ++ evL x.ev).take (k - 2)) := by
    unfold attrW
    rw [List.take_append, List.take_of_length_le (by rw [putL_length]; omega), putL_length]
  rw [t1] at h
  have e1 := hdN_of h (by omega)
  by_cases k4 : k < 4
  · refine ⟨p + 2, ?_⟩
    unfold rdAt
    rw [if_neg (by omega), if_neg (by rw [e1]; exact c1), if_neg (by rw [e1]; omega), if_pos (by omega)]
  have h2 := drop_more h
  rw [putL_length] at h2
  have t2 : (putL x.first.toNat 2 ++ evL x.ev).take (k - 2) = putL x.first.toNat 2 ++ (evL x.ev).take (k - 4) := by
    rw [List.take_append, List.take_of_length_le (by rw [putL_length]; omega), putL_length, show k - 2 - 2 = k - 4 by omega]
  rw [t2] at h2
  have h3 := drop_more h2
  rw [putL_length, Nat.add_assoc] at h3
  obtain ⟨q, hE⟩ := ev_cut S x.ev.length x.ev [] (p + 4) x.ev.length (k - 4) h3 (by rw [evL_len]; omega) (by simp) (Nat.le_refl _) (okMv_ev hx) (by omega)
  refine ⟨q, ?_⟩
  unfold rdAt
  rw [if_neg (by omega), if_neg (by rw [e1]; exact c1), if_neg (by rw [e1]; omega), if_neg (by omega), e1, c3, hE]

theorem mv_wrote (S : List UInt8) (m : Nat) : ∀ (n l : List Mv) (p f : Nat), S.drop p = attrsW n ++ [0, 0, 0, 0] → (∀ x ∈ n, okMv x = true) → l.length + n.length ≤ 40 → n.length + 2 ≤ f → p ≤ S.length →
    rdMv S f (some m) p l = .ok (l ++ n)
  | [], l, p, f + 2, h, ho, hc, hf, hp => by
    have h : S.drop p = [0, 0, 0, 0] := h
    have hl := drop_len h hp
    simp only [List.length_cons, List.length_nil] at hl
    have hA : rdAt S p = .fin (p + 2) := by
      have : hdN S p = 0 := by unfold hdN; rw [h]; rfl
      unfold rdAt
      rw [if_neg (by omega), if_pos this]
    have h2 : S.drop (p + 2) = [0, 0] := by rw [← List.drop_drop, h]; rfl
    have h3 : S.drop (p + 2 + 1) = [0] := by rw [← List.drop_drop, h2]; rfl
    have h4 : S.drop (p + 2 + 2) = [] := by rw [← List.drop_drop, h2]; rfl
    rw [mv_fin hA, mv_end (by omega) (by rw [by1_of h2]; rfl) (by rw [by1_of h3]; rfl) (by rw [h4]; show p + 2 + 2 + 0 = S.length; omega)]
    simp
  | x :: n, l, p, f + 1, h, ho, hc, hf, hp => by
    rw [attrsW_cons, List.append_assoc] at h
    have hA := at_wrote h (ho x (by simp)) hp
    have hl := drop_len h hp
    rw [List.length_append] at hl
    have hc : l.length + (n.length + 1) ≤ 40 := hc
    have hf : n.length + 1 + 2 ≤ f + 1 := hf
    rw [mv_got hA (by rw [List.length_append]; show ¬ 40 < l.length + 1; omega)]
    rw [mv_wrote S m n (l ++ [x]) _ f (drop_more h) (fun y hy => ho y (by simp [hy])) (by rw [List.length_append]; show l.length + 1 + n.length ≤ 40; omega) (by omega) (by omega)]
    simp
  | [], l, p, 0, h, ho, hc, hf, hp => by simp at hf
  | [], l, p, 1, h, ho, hc, hf, hp => by simp at hf

theorem attrs_long (n : List Mv) : n.length ≤ (attrsW n).length := by
  induction n with
  | nil => simp [attrsW]
  | cons x n ih => rw [attrsW_cons, List.length_append, attrW_len, List.length_cons]; omega

/-- What is written is read. -/
theorem mvs_wrote (l : List Mv) (ho : ∀ x ∈ l, okMv x = true) (hc : l.length ≤ 40) : rdMvs (mvW l) = .ok l := by
  unfold mvW
  by_cases h0 : l = []
  · subst h0
    rw [if_pos rfl]
    rfl
  · rw [if_neg h0]
    have h2 := attrs_long l
    obtain ⟨f, hf⟩ : ∃ f, ([0, 1, 2] ++ (attrsW l ++ [0, 0, 0, 0]) : List UInt8).length = f := ⟨_, rfl⟩
    have hf2 : 3 + ((attrsW l).length + 4) = f := by
      rw [← hf, List.length_append, List.length_append]
      rfl
    unfold rdMvs
    rw [hf, if_neg (by omega), if_neg (by show ¬ (0 : Nat) ≠ 0; decide)]
    rw [mv_head (by rw [hf]; omega) (by rfl) (by rfl)]
    rw [mv_wrote _ 1 l [] 3 f rfl ho (by simpa using hc) (by omega) (by rw [hf]; omega)]
    rfl

theorem mv_was (S : List UInt8) : ∀ (f : Nat) (m : Option Nat) (p : Nat) (l L : List Mv), rdMv S f m p l = .ok L → p ≤ S.length →
    ∃ n, L = l ++ n ∧ (∀ x ∈ n, okMv x = true) ∧ (l.length ≤ 40 → L.length ≤ 40) ∧ (m = none → n = [] → p + 2 ≤ S.length) ∧ (m = none → n ≠ [] → p + 6 + (attrsW n).length ≤ S.length) ∧ (m ≠ none → p + 4 + (attrsW n).length ≤ S.length)
  | 0, m, p, l, L, h, hp => by cases h
  | f + 1, none, p, l, L, h, hp => by
    by_cases h0 : S.length < p + 1
    · rw [mv_miss h0] at h; cases h
    by_cases h1 : S.length < p + 2
    · rw [mv_miss2 h0 h1] at h; cases h
    by_cases h2 : by1 S p = 0 ∧ by1 S (p + 1) = 0
    · by_cases h3 : p + 2 + lead (S.drop (p + 2)) = S.length
      · rw [mv_end h1 h2.1 h2.2 h3] at h
        cases h
        exact ⟨[], by simp, by simp, fun h => h, fun _ _ => by omega, fun _ q => absurd rfl q, fun q => absurd rfl q⟩
      · rw [mv_spoilt h1 h2.1 h2.2 h3] at h; cases h
    by_cases h3 : by1 S p = 1
    · by_cases h4 : by1 S (p + 1) = 2
      · rw [mv_head h1 h3 h4] at h
        obtain ⟨n, e1, e2, e3, e4, e5, e6⟩ := mv_was S f _ _ _ _ h (by omega)
        have e6 := e6 (by simp)
        exact ⟨n, e1, e2, e3, fun _ _ => by omega, fun _ _ => by omega, fun q => absurd rfl q⟩
      · rw [mv_form h1 h3 h4] at h; cases h
    · rw [mv_name h1 h2 h3] at h; cases h
  | f + 1, some m, p, l, L, h, hp => by
    cases hA : rdAt S p with
    | bad e q => rw [mv_bad hA] at h; cases h
    | fin q =>
      rw [mv_fin hA] at h
      obtain ⟨a1, a2, rfl⟩ := at_fin hA
      obtain ⟨n, e1, e2, e3, e4, e5, e6⟩ := mv_was S f _ _ _ _ h (by omega)
      refine ⟨n, e1, e2, e3, fun q => (by cases q), fun q => (by cases q), fun _ => ?_⟩
      by_cases hn : n = []
      · have := e4 rfl hn
        subst hn
        simp only [attrsW_nil, List.length_nil]
        omega
      · have := e5 rfl hn
        omega
    | got x q =>
      by_cases h1 : 40 < (l ++ [x]).length
      · rw [mv_many hA h1] at h; cases h
      · rw [mv_got hA h1] at h
        obtain ⟨a1, a2, a3, a4⟩ := at_got hA
        obtain ⟨n, e1, e2, e3, e4, e5, e6⟩ := mv_was S f _ _ _ _ h (by omega)
        have e6 := e6 (by simp)
        refine ⟨x :: n, by rw [e1]; simp, ?_, fun _ => e3 (by omega), fun q => (by cases q), fun q => (by cases q), fun _ => ?_⟩
        · intro y hy
          rcases List.mem_cons.1 hy with rfl | hy
          · exact a1
          · exact e2 y hy
        · rw [attrsW_cons, List.length_append]
          omega

/-- What is read may be, and is written no longer. -/
theorem mvs_was {S : List UInt8} {l : List Mv} (h : rdMvs S = .ok l) : (∀ x ∈ l, okMv x = true) ∧ l.length ≤ 40 ∧ (mvW l).length ≤ S.length := by
  unfold rdMvs at h
  by_cases h0 : S.length < 1
  · rw [if_pos h0] at h; cases h
  rw [if_neg h0] at h
  by_cases h1 : by1 S 0 ≠ 0
  · rw [if_pos h1] at h; cases h
  rw [if_neg h1] at h
  obtain ⟨n, e1, e2, e3, e4, e5, e6⟩ := mv_was S _ _ _ _ _ h (by omega)
  rw [List.nil_append] at e1
  subst e1
  refine ⟨e2, e3 (by simp), ?_⟩
  unfold mvW
  by_cases hn : l = []
  · have := e4 rfl hn
    rw [if_pos hn]
    show 3 ≤ S.length
    omega
  · have := e5 rfl hn
    rw [if_neg hn, List.length_append, List.length_append]
    show 3 + ((attrsW l).length + 4) ≤ S.length
    omega

theorem mv_cut (S : List UInt8) (m : Nat) : ∀ (n l : List Mv) (p f k : Nat), S.drop p = (attrsW n ++ [0, 0, 0, 0]).take k → k < (attrsW n).length + 4 → (∀ x ∈ n, okMv x = true) → l.length + n.length ≤ 40 → S.length + 1 ≤ p + f → p ≤ S.length →
    ∃ q, rdMv S f (some m) p l = .bad 7 q
  | _, l, p, 0, k, h, hk, ho, hc, hf, hp => by omega
  | [], l, p, f + 1, k, h, hk, ho, hc, hf, hp => by
    have h : S.drop p = ([0, 0, 0, 0] : List UInt8).take k := h
    have hk : k < 0 + 4 := hk
    have hl := drop_len h hp
    rw [List.length_take] at hl
    have hl : S.length = p + min k 4 := hl
    by_cases k2 : k < 2
    · have hA : rdAt S p = .bad 7 p := by unfold rdAt; rw [if_pos (by omega)]
      exact ⟨p, mv_bad hA⟩
    · have h5 : ∃ r, S.drop p = 0 :: 0 :: r := by
        have hk3 : k = 2 ∨ k = 3 := by omega
        rcases hk3 with rfl | rfl
        · exact ⟨_, h⟩
        · exact ⟨_, h⟩
      obtain ⟨r, h5⟩ := h5
      obtain ⟨f, rfl⟩ : ∃ f', f = f' + 1 := ⟨f - 1, by omega⟩
      have hA : rdAt S p = .fin (p + 2) := by
        have : hdN S p = 0 := by unfold hdN; rw [h5]; rfl
        unfold rdAt
        rw [if_neg (by omega), if_pos this]
      rw [mv_fin hA]
      by_cases k3 : k = 2
      · exact ⟨p + 2, mv_miss (by omega)⟩
      · exact ⟨p + 2 + 1, mv_miss2 (by omega) (by omega)⟩
  | x :: n, l, p, f + 1, k, h, hk, ho, hc, hf, hp => by
    have hc : l.length + (n.length + 1) ≤ 40 := hc
    rw [attrsW_cons, List.append_assoc] at h
    rw [attrsW_cons, List.length_append] at hk
    have hx := ho x (by simp)
    by_cases hk1 : k < (attrW x).length
    · rw [List.take_append_of_le_length (by omega)] at h
      obtain ⟨q, hA⟩ := at_cut h hk1 hx hp
      exact ⟨q, mv_bad hA⟩
    · rw [List.take_append, List.take_of_length_le (by omega)] at h
      have hA := at_wrote h hx hp
      have hl := drop_len h hp
      have haw := attrW_len x
      rw [List.length_append] at hl
      rw [mv_got hA (by rw [List.length_append]; show ¬ 40 < l.length + 1; omega)]
      exact mv_cut S m n (l ++ [x]) _ f (k - (attrW x).length) (drop_more h) (by omega) (fun y hy => ho y (by simp [hy])) (by rw [List.length_append]; show l.length + 1 + n.length ≤ 40; omega) (by omega) (by omega)

/-- What is cut off is missed. -/
theorem mvs_cut (l : List Mv) (ho : ∀ x ∈ l, okMv x = true) (hc : l.length ≤ 40) (k : Nat) (hk : k < (mvW l).length) : ∃ q, rdMvs ((mvW l).take k) = .bad 7 q := by
  unfold mvW at *
  by_cases h0 : l = []
  · subst h0
    have hk : k < 3 := hk
    have hk3 : k = 0 ∨ k = 1 ∨ k = 2 := by omega
    rcases hk3 with rfl | rfl | rfl
    · exact ⟨0, rfl⟩
    · exact ⟨1, rfl⟩
    · exact ⟨2, rfl⟩
  · rw [if_neg h0] at hk ⊢
    rw [List.length_append, List.length_append] at hk
    have hk : k < 3 + ((attrsW l).length + 4) := hk
    by_cases hk3 : k < 3
    · have e : ([0, 1, 2] ++ (attrsW l ++ [0, 0, 0, 0])).take k = ([0, 1, 2] : List UInt8).take k := List.take_append_of_le_length (by show k ≤ 3; omega)
      rw [e]
      have hk3 : k = 0 ∨ k = 1 ∨ k = 2 := by omega
      rcases hk3 with rfl | rfl | rfl
      · exact ⟨0, rfl⟩
      · exact ⟨1, rfl⟩
      · exact ⟨2, rfl⟩
    · have h2 := attrs_long l
      have e : ([0, 1, 2] ++ (attrsW l ++ [0, 0, 0, 0])).take k = ([0, 1, 2] : List UInt8) ++ (attrsW l ++ [0, 0, 0, 0]).take (k - 3) := by
        rw [List.take_append, List.take_of_length_le (by show 3 ≤ k; omega)]
        rfl
      rw [e]
      obtain ⟨f, hf⟩ : ∃ f, ([0, 1, 2] ++ (attrsW l ++ [0, 0, 0, 0]).take (k - 3) : List UInt8).length = f := ⟨_, rfl⟩
      have hf2 : 3 + (k - 3) = f := by
        rw [← hf, List.length_append, List.length_take, List.length_append]
        show 3 + (k - 3) = 3 + min (k - 3) ((attrsW l).length + 4)
        omega
      unfold rdMvs
      rw [hf, if_neg (by omega), if_neg (by show ¬ (0 : Nat) ≠ 0; decide)]
      obtain ⟨f, rfl⟩ : ∃ f', f = f' + 3 := ⟨f - 3, by omega⟩
      rw [mv_head (by rw [hf]; omega) (by rfl) (by rfl)]
      exact mv_cut _ 1 l [] 3 (f + 3) (k - 3) rfl (by omega) ho (by simpa using hc) (by rw [hf]; omega) (by rw [hf]; omega)

end Go.Proofs.YtdjljnpbnhampaaDoor
