/- switchyardlaw.BpduReads: every text, read by the program and by the document: true, and what was there is as it was. -/
import Derived.Test.YtgikembnkbpjpaaDoorBpRead
namespace Go.Proofs.YtgikembnkbpjpaaDoor.bpduReads
open Go.RowKit
attribute [local go_sem ↓] Go.wp_at_zero Go.wp_at_succ
set_option linter.unusedSimpArgs false
set_option linter.unusedVariables false
set_option maxRecDepth 100000

theorem some_ne {a : Int} {b : Nat} {e : Int} {x : Nat} (ha : a ≠ 0) (h : some (a, b) = some (e, x)) : e ≠ 0 := by
  cases h
  exact ha
theorem bdE_ne {n p : Nat} {z : Bool} {e : Int} {x : Nat} (h : bdE n p z = some (e, x)) : e ≠ 0 := by
  unfold bdE at h
  by_cases q0 : n < p + 1
  · rw [if_pos q0] at h
    exact some_ne (by decide) h
  rw [if_neg q0] at h
  by_cases q1 : n < p + 3
  · rw [if_pos q1] at h
    exact some_ne (by decide) h
  rw [if_neg q1] at h
  by_cases q2 : n < p + 9
  · rw [if_pos q2] at h
    exact some_ne (by decide) h
  rw [if_neg q2] at h
  by_cases q3 : n < p + 13
  · rw [if_pos q3] at h
    exact some_ne (by decide) h
  rw [if_neg q3] at h
  by_cases q4 : n < p + 15
  · rw [if_pos q4] at h
    exact some_ne (by decide) h
  rw [if_neg q4] at h
  by_cases q5 : n < p + 21
  · rw [if_pos q5] at h
    exact some_ne (by decide) h
  rw [if_neg q5] at h
  by_cases q6 : n < p + 23
  · rw [if_pos q6] at h
    exact some_ne (by decide) h
  rw [if_neg q6] at h
  by_cases q7 : z = true
  · rw [if_pos q7] at h
    exact some_ne (by decide) h
  rw [if_neg q7] at h
  by_cases q8 : n < p + 25
  · rw [if_pos q8] at h
    exact some_ne (by decide) h
  rw [if_neg q8] at h
  by_cases q9 : n < p + 27
  · rw [if_pos q9] at h
    exact some_ne (by decide) h
  rw [if_neg q9] at h
  by_cases q10 : n < p + 29
  · rw [if_pos q10] at h
    exact some_ne (by decide) h
  rw [if_neg q10] at h
  by_cases q11 : n < p + 31
  · rw [if_pos q11] at h
    exact some_ne (by decide) h
  rw [if_neg q11] at h
  cases h
theorem bdE_size {n p : Nat} {z : Bool} (h : bdE n p z = none) : p + 31 ≤ n := by
  unfold bdE at h
  by_cases q0 : n < p + 1
  · rw [if_pos q0] at h
    cases h
  rw [if_neg q0] at h
  by_cases q1 : n < p + 3
  · rw [if_pos q1] at h
    cases h
  rw [if_neg q1] at h
  by_cases q2 : n < p + 9
  · rw [if_pos q2] at h
    cases h
  rw [if_neg q2] at h
  by_cases q3 : n < p + 13
  · rw [if_pos q3] at h
    cases h
  rw [if_neg q3] at h
  by_cases q4 : n < p + 15
  · rw [if_pos q4] at h
    cases h
  rw [if_neg q4] at h
  by_cases q5 : n < p + 21
  · rw [if_pos q5] at h
    cases h
  rw [if_neg q5] at h
  by_cases q6 : n < p + 23
  · rw [if_pos q6] at h
    cases h
  rw [if_neg q6] at h
  by_cases q7 : z = true
  · rw [if_pos q7] at h
    cases h
  rw [if_neg q7] at h
  by_cases q8 : n < p + 25
  · rw [if_pos q8] at h
    cases h
  rw [if_neg q8] at h
  by_cases q9 : n < p + 27
  · rw [if_pos q9] at h
    cases h
  rw [if_neg q9] at h
  by_cases q10 : n < p + 29
  · rw [if_pos q10] at h
    cases h
  rw [if_neg q10] at h
  by_cases q11 : n < p + 31
  · rw [if_pos q11] at h
    cases h
  rw [if_neg q11] at h
  omega

/-- Both read the same. -/
theorem both (s : ByteArray) (hs : s.size ≤ 300) : ∃ (X : Bp) (e pl : Int),
    (∀ W, Calls Tryd.prog 12 #[.string s] W fun r w' => r = .returned (.tuple #[.agg (bpC X), .agg (ftC e pl)]) ∧ Below W.heap.size W w') ∧
    (∀ W, Calls Tryd.prog 13 #[.string s] W (ReadsAs (bpC X) e pl W)) := by
  by_cases h : s.size < 4
  · exact ⟨_, _, _, fun W => refBpRead_short s W hs h, fun W => bpRead_short s W hs h⟩
  by_cases h0 : hdAt s = [0, 0, 0, 0]
  · cases he : bdE s.size 4 (pzAt s (4 + 21)) with
    | some q =>
      obtain ⟨e, x⟩ := q
      exact ⟨_, _, _, fun W => refBpRead_config_bad s W hs h h0 e x he (bdE_ne he), fun W => bpRead_config_bad s W hs h h0 e x he⟩
    | none => exact ⟨_, _, _, fun W => refBpRead_config_ok s W hs h h0 he, fun W => bpRead_config_ok s W hs h h0 he⟩
  by_cases h1 : hdAt s = [0, 0, 0, 128]
  · exact ⟨_, _, _, fun W => refBpRead_notice s W hs h h1, fun W => bpRead_notice s W hs h h1⟩
  by_cases h2 : hdAt s = [0, 0, 2, 2]
  · cases he : bdE s.size 4 (pzAt s (4 + 21)) with
    | some q =>
      obtain ⟨e, x⟩ := q
      exact ⟨_, _, _, fun W => refBpRead_rapid_bad s W hs h h2 e x he (bdE_ne he), fun W => bpRead_rapid_bad s W hs h h2 e x he⟩
    | none =>
      have h35 : 35 ≤ s.size := bdE_size he
      by_cases h36 : 36 ≤ s.size
      · by_cases ht : tlAt s = [0]
        · exact ⟨_, _, _, fun W => refBpRead_rapid_ok s W hs h h2 he h35 h36 ht, fun W => bpRead_rapid_ok s W hs h h2 he h35 h36 ht⟩
        · exact ⟨_, _, _, fun W => refBpRead_rapid_form s W hs h h2 he h35 h36 ht, fun W => bpRead_rapid_form s W hs h h2 he h35 h36 ht⟩
      · exact ⟨_, _, _, fun W => refBpRead_rapid_cut s W hs h h2 he h35 h36, fun W => bpRead_rapid_cut s W hs h h2 he h35 h36⟩
  · exact ⟨_, _, _, fun W => refBpRead_other s W hs h h0 h1 h2, fun W => bpRead_other s W hs h h0 h1 h2⟩

set_option maxHeartbeats 1600000 in
theorem walk_some (s : ByteArray) (w : World) (hE : HasErr w) (hs : s.size ≤ 300) (X : Bp) (x y : Int)
    (HV : Hid (∀ W, Calls Tryd.prog 12 #[.string s] W fun r w' => r = .returned (.tuple #[.agg (bpC X), .agg (ftC x y)]) ∧ Below W.heap.size W w'))
    (HW : Hid (∀ W, Calls Tryd.prog 13 #[.string s] W (ReadsAs (bpC X) x y W))) :
    Calls Tryd.prog 4 #[.string s] w fun e w' => e = .returned (.bool true) ∧ Below w.heap.size w w' := by
  have h3 : decide ((300 : Int) < (s.size : Int)) = false := decide_eq_false (by omega)
  go_enter Tryd.func4, Tryd.ntmps4
  go_wp2_with fail
  refine (HV.out _).mono ?_
  rintro e w2 ⟨rfl, b2⟩
  have HA3 := (Blk.new w2 31 (bpC zBp)).alloc (.cells (ftC 0 0) 42)
  have HF3 := Blk.new (w2.alloc (.cells (bpC zBp) 31)) 42 (ftC 0 0)
  have hsz : (w2.alloc (.cells (bpC zBp) 31)).heap.size = w2.heap.size + 1 := by simp
  have B3 : Below w.heap.size w ((w2.alloc (.cells (bpC zBp) 31)).alloc (.cells (ftC 0 0) 42)) := (b2.alloc b2.size _).alloc (by have := b2.size; simp; omega) _
  have hs2 := b2.size
  clear b2 HV
  go_upto_region 4 with (first | (refine alloc_blk 31 (bpC zBp) (by rfl) rfl Tryd.bpZero ?_) | (refine alloc_blk 42 (ftC 0 0) (by rfl) rfl Tryd.ftZero ?_) | ((refine store_blk (k := 0) 31 (.agg (bpC X)) (bpC X) (by rfl) rfl rfl rfl HA3 (by kernel_rfl) (by exact Nat.le_refl 31) rfl rfl (fun w4 HA4 b4 g4 => ?_)); have HF4 := HF3.grown g4 (by rw [hsz]; simp)) | (refine store_blk (k := 0) 42 (.agg (ftC x y)) (ftC x y) (by rfl) rfl rfl rfl HF4 (by kernel_rfl) (by exact Nat.le_refl 2) rfl rfl (fun w5 HF5 b5 g5 => ?_)))
  rw [hsz] at HF5 g5 b5
  clear hsz
  have HA5 := HA4.grown g5 (by simp)
  have B5 : Below w.heap.size w w5 := (B3.trans (b4.mono hs2)).trans (b5.mono (by omega))
  clear HA3 HF3 HA4 B3 b4 g4 b5 g5
  go_wp2_with fail
  refine (HW.out _).mono ?_
  rintro e w6 ⟨er, rfl, hp6, b6⟩
  have hlt := HF5.lt
  have HA6 := (HA5.kept b6).alloc (.cells (bpC zBp) 31)
  have HF6 := (HF5.kept b6).alloc (.cells (bpC zBp) 31)
  have B6a := B5.trans (b6.mono B5.size)
  have B6 := B6a.alloc B6a.size (.cells (bpC zBp) 31)
  have hp7 := hp6.below ((Below.refl _ _).alloc (Nat.le_refl _) (.cells (bpC zBp) 31))
  have HV6 := Blk.new w6 31 (bpC zBp)
  have hs6 := B6a.size
  have hlt6 : w2.heap.size + 1 < w6.heap.size := Nat.lt_of_lt_of_le hlt b6.size
  clear HA5 HF5 B5 b6 HW hp6 B6a
  go_upto_region 5 with (first | (refine alloc_blk 31 (bpC zBp) (by rfl) rfl Tryd.bpZero ?_) | (refine store_blk (k := 0) 31 (.agg (bpC X)) (bpC X) (by rfl) rfl rfl rfl HV6 (by kernel_rfl) (by exact Nat.le_refl 31) rfl rfl (fun w7 HV7 b7 g7 => ?_)))
  have HA7 := HA6.grown g7 (by simp; omega)
  have HF7 := HF6.grown g7 (by simp; omega)
  have B7 : Below w.heap.size w w7 := B6.trans (b7.mono hs6)
  have hp8 : ErrAs w7 er x y := by
    rcases hp7 with h | ⟨he, q, hq, hf⟩
    · exact Or.inl h
    · refine Or.inr ⟨he, q, hq, hf.kept g7 ?_⟩
      intro e0
      have e0 : q = w6.heap.size := by simpa using e0
      subst e0
      have h1 : (w6.alloc (.cells (bpC zBp) 31)).heap[w6.heap.size]? = some (.cells #[.int .i64 x, .int .i64 y] 92) := hf
      have h2 : (w6.alloc (.cells (bpC zBp) 31)).heap[w6.heap.size]? = some (.cells (bpC zBp) 31 (0, 0)) := HV6
      have h3 := h1.symm.trans h2
      injection h3 with h3
      injection h3 with h3 h4
      exact absurd h4 (by decide)
  have hE7 : HasErr w7 := hE.below B7
  clear HA6 HF6 HV6 B6 g7 b7 hp7
  go_wp2_with (refine load_blk (k := 0) 42 (ftC x y) (by rfl) rfl rfl HF7 (by kernel_rfl) (by kernel_rfl) rfl ?_)
  refine (placed_any er x y _ hE7 hp8).mono ?_
  rintro e w8 ⟨rfl, b8⟩
  have HA8 := HA7.kept b8
  have HV8 := HV7.kept b8
  have B8 := B7.trans (b8.mono B7.size)
  have q : ∀ W, (Op.equalIn 10000 31 (.agg (bpC X)) (.agg (bpC X))).run Tryd.prog W = .ok true W := fun W => by have h := run_eql_bp 9996 X X W; rw [eqBp_self] at h; exact h
  clear HA7 HF7 HV7 B7 b8 hE7 hp8
  go_wp2_with (first | (refine load_blk (k := 0) 31 (bpC X) (by rfl) rfl rfl HA8 (by kernel_rfl) (by kernel_rfl) rfl ?_) | (refine load_blk (k := 0) 31 (bpC X) (by rfl) rfl rfl HV8 (by kernel_rfl) (by kernel_rfl) rfl ?_) | (refine eq_blk .eql 31 (bpC X) (bpC X) true (by rfl) rfl (by first | exact Or.inl rfl | exact Or.inr rfl) rfl rfl (by kernel_rfl) (q _) ?_))
  go_ret
  exact ⟨rfl, B8⟩

theorem walk (s : ByteArray) (w : World) (hE : HasErr w) :
    Calls Tryd.prog 4 #[.string s] w fun e w' => e = .returned (.bool true) ∧ Below w.heap.size w w' := by
  by_cases hs : s.size ≤ 300
  · obtain ⟨X, e, pl, h1, h2⟩ := both s hs
    exact walk_some s w hE hs X e pl (Lib.hid h1) (Lib.hid h2)
  · have h3 : decide ((300 : Int) < (s.size : Int)) = true := decide_eq_true (by omega)
    go_enter Tryd.func4, Tryd.ntmps4
    go_wp2
    go_ret
    exact ⟨rfl, Below.refl _ _⟩

end Go.Proofs.YtgikembnkbpjpaaDoor.bpduReads
