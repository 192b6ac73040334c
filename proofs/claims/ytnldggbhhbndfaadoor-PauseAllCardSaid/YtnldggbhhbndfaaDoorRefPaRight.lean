/- The reference's within, PauseRight. -/
import Derived.Test.YtnldggbhhbndfaaDoorBlk
import Derived.Test.YtnldggbhhbndfaaDoorPa
namespace Go.Proofs.YtnldggbhhbndfaaDoor
open Go.RowKit
attribute [local go_sem ↓] Go.wp_at_zero Go.wp_at_succ
set_option linter.unusedSimpArgs false
set_option linter.unusedVariables false
set_option maxRecDepth 100000

theorem within_yes (n lo hi : Int) (w : World) (h1 : lo ≤ n) (h2 : n ≤ hi) :
    Calls Tryd.prog 63 #[.int .i64 n, .int .i64 lo, .int .i64 hi] w fun e w' => e = .returned (.bool true) ∧ w = w' := by
  have d1 : decide (lo ≤ n) = true := decide_eq_true h1
  have d2 : decide (n ≤ hi) = true := decide_eq_true h2
  go_enter Tryd.func63, Tryd.ntmps63
  go_wp2
  go_ret
  exact ⟨rfl, rfl⟩
theorem within_no (n lo hi : Int) (w : World) (h : n < lo ∨ hi < n) :
    Calls Tryd.prog 63 #[.int .i64 n, .int .i64 lo, .int .i64 hi] w fun e w' => e = .returned (.bool false) ∧ w = w' := by
  by_cases h1 : lo ≤ n
  · have d1 : decide (lo ≤ n) = true := decide_eq_true h1
    have d2 : decide (n ≤ hi) = false := decide_eq_false (by omega)
    go_enter Tryd.func63, Tryd.ntmps63
    go_wp2
    go_ret
    exact ⟨rfl, rfl⟩
  · have d1 : decide (lo ≤ n) = false := decide_eq_false h1
    go_enter Tryd.func63, Tryd.ntmps63
    go_wp2
    go_ret
    exact ⟨rfl, rfl⟩

/-- One time of a message that may be. -/
def goodT (p : Pa) (i : Nat) : Prop := (0 ≤ p.t i ∧ p.t i ≤ 65535) ∧ (p.pfc = true ∨ i = 0 ∨ p.t i = 0)
theorem paRight_all (p : Pa) (h : ∀ i, i < 8 → goodT p i) : paRight p = (okE p && (p.pfc || (p.en == 0))) := by
  have h1 : okT p = true := (okT_iff p).2 fun i hi => (h i hi).1
  unfold paRight okP
  rw [h1, Bool.true_and]
  cases hp : p.pfc with
  | true => simp
  | false =>
    have h2 : ((List.range 7).all fun i => p.t (i + 1) == 0) = true := by
      simp only [List.all_eq_true, List.mem_range, beq_iff_eq]
      intro i hi
      rcases (h (i + 1) (by omega)).2 with q | q | q
      · rw [hp] at q; cases q
      · omega
      · exact q
    rw [h2]
    simp [Bool.and_comm]
theorem paRight_not (p : Pa) (i : Nat) (hi : i < 8) (h : ¬ goodT p i) : paRight p = false := by
  cases q : paRight p with
  | false => rfl
  | true =>
    unfold paRight okP at q
    simp only [Bool.and_eq_true, Bool.or_eq_true] at q
    obtain ⟨q1, q2, _⟩ := q
    have h1 := (okT_iff p).1 q1 i hi
    refine absurd ⟨h1, ?_⟩ h
    rcases q2 with q2 | ⟨_, q2⟩
    · exact Or.inl q2
    · rcases Nat.eq_zero_or_pos i with h0 | h0
      · exact Or.inr (Or.inl h0)
      · refine Or.inr (Or.inr ?_)
        simp only [List.all_eq_true, List.mem_range, beq_iff_eq] at q2
        have := q2 (i - 1) (by omega)
        rwa [show i - 1 + 1 = i by omega] at this

set_option maxHeartbeats 1600000 in
theorem refPaRight_true (p : Pa) (w : World) (hp : p.pfc = true) : Calls Tryd.prog 27 #[.agg (paC p)] w fun e w' => e = .returned (.bool (paRight p)) ∧ Below w.heap.size w w' := by
  have HA := Blk.new w 54 (paC p)
  have B2 : Below w.heap.size w (w.alloc (.cells (paC p) 54)) := (Below.refl _ _).alloc (Nat.le_refl _) _
  go_enter Tryd.func27, Tryd.ntmps27
  go_upto_region 1 with (fail)
  generalize w.alloc (.cells (paC p) 54) = w1 at *
  have c0 : w1.cell? ⟨w.heap.size, 0, none⟩ = some (.bool true) := by rw [← hp]; exact HA.cv 0 (.bool p.pfc) rfl
  have c1 := HA.cv 1 (.int .i64 p.en) rfl
  have HP := Lib.hid hp
  clear hp
  go_wp2_with (refine load_blk (k := 2) 52 (c8 p.t) (by rfl) rfl rfl HA (by kernel_rfl) (by kernel_rfl) rfl ?_)
  go_loop [7] (fun i => ∃ k : Nat, k ≤ 8 ∧ i = .int .i64 k ∧ ∀ j, j < k → goodT p j) (fun i => 8 - (intOf i).toNat)
  case atStart => exact ⟨0, by omega, rfl, fun j hj => by omega⟩
  case round =>
    obtain ⟨k, hk, rfl, hall⟩ := hrel
    have HALL := Lib.hid hall
    clear hall
    by_cases hlt : k < 8
    · have hki : decide ((k : Int) < 8) = true := decide_eq_true (by omega)
      by_cases hg : goodT p k
      · have HN : Hid (∀ j, j < k + 1 → goodT p j) := fun j hj => by
          rcases Nat.lt_succ_iff_lt_or_eq.1 hj with h | rfl
          · exact HALL.out j h
          · exact hg
        obtain ⟨⟨h1, h2⟩, h3⟩ := hg
        clear h3
        by_cases hk0 : k = 0
        · have dk : decide (0 < k) = false := decide_eq_false (by omega)
          clear hk0
          go_wp2_with (refine index_c8 p.t k hlt (by rfl) rfl rfl rfl ?_)
          refine (within_yes (p.t k) 0 65535 _ (by omega) (by omega)).mono ?_
          rintro e w3 ⟨rfl, rfl⟩
          go_wp2
          go_round
          case rel => exact ⟨k + 1, by omega, by go_num, HN.out⟩
          case measure => simp [intOf]; omega
        · have dk : decide (0 < k) = true := decide_eq_true (by omega)
          by_cases hx : p.t k = 0
          · have dx : (p.t k != 0) = false := by simp [hx]
            clear hx
            go_wp2_with (refine index_c8 p.t k hlt (by rfl) rfl rfl rfl ?_)
            refine (within_yes (p.t k) 0 65535 _ (by omega) (by omega)).mono ?_
            rintro e w3 ⟨rfl, rfl⟩
            go_wp2
            go_round
            case rel => exact ⟨k + 1, by omega, by go_num, HN.out⟩
            case measure => simp [intOf]; omega
          · have dx : (p.t k != 0) = true := by simp [hx]
            clear hx
            go_wp2_with (refine index_c8 p.t k hlt (by rfl) rfl rfl rfl ?_)
            refine (within_yes (p.t k) 0 65535 _ (by omega) (by omega)).mono ?_
            rintro e w3 ⟨rfl, rfl⟩
            go_wp2
            go_round
            case rel => exact ⟨k + 1, by omega, by go_num, HN.out⟩
            case measure => simp [intOf]; omega
      · have HB := Lib.hid (paRight_not p k hlt hg)
        by_cases hr : 0 ≤ p.t k ∧ p.t k ≤ 65535
        · exact absurd ⟨hr, Or.inl HP.out⟩ hg
        · clear hg
          go_wp2_with (refine index_c8 p.t k hlt (by rfl) rfl rfl rfl ?_)
          refine (within_no (p.t k) 0 65535 _ (by omega)).mono ?_
          rintro e w3 ⟨rfl, rfl⟩
          go_wp2
          go_ret
          exact ⟨by rw [HB.out]; rfl, B2⟩
    · obtain rfl : k = 8 := by omega
      have HR : Hid (paRight p = (okE p && (p.pfc || (p.en == 0)))) := paRight_all p HALL.out
      clear HALL
      by_cases h1 : 0 ≤ p.en ∧ p.en ≤ 255
      · obtain ⟨h2, h3⟩ := h1
        have HE : Hid (okE p = true) := by show _ = _; unfold okE; rw [decide_eq_true h2, decide_eq_true h3]; rfl
        by_cases h0 : p.en = 0
        · have d0 : (p.en == 0) = true := by simp [h0]
          have HD := Lib.hid d0
          clear h0
          go_wp2_with fail
          refine (within_yes p.en 0 255 _ h2 h3).mono ?_
          rintro e w3 ⟨rfl, rfl⟩
          go_wp2
          go_ret
          exact ⟨by rw [HR.out, HE.out, HP.out, HD.out]; rfl, B2⟩
        · have d0 : (p.en == 0) = false := by simp [h0]
          have HD := Lib.hid d0
          clear h0
          go_wp2_with fail
          refine (within_yes p.en 0 255 _ h2 h3).mono ?_
          rintro e w3 ⟨rfl, rfl⟩
          go_wp2
          go_ret
          exact ⟨by rw [HR.out, HE.out, HP.out, HD.out]; rfl, B2⟩
      · have HE : Hid (okE p = false) := by
          show _ = _
          unfold okE
          by_cases q : 0 ≤ p.en
          · rw [decide_eq_true q, decide_eq_false (by omega)]; rfl
          · rw [decide_eq_false q]; rfl
        go_wp2_with fail
        refine (within_no p.en 0 255 _ (by omega)).mono ?_
        rintro e w3 ⟨rfl, rfl⟩
        go_wp2
        go_ret
        exact ⟨by rw [HR.out, HE.out]; rfl, B2⟩

set_option maxHeartbeats 1600000 in
theorem refPaRight_false (p : Pa) (w : World) (hp : p.pfc = false) : Calls Tryd.prog 27 #[.agg (paC p)] w fun e w' => e = .returned (.bool (paRight p)) ∧ Below w.heap.size w w' := by
  have HA := Blk.new w 54 (paC p)
  have B2 : Below w.heap.size w (w.alloc (.cells (paC p) 54)) := (Below.refl _ _).alloc (Nat.le_refl _) _
  go_enter Tryd.func27, Tryd.ntmps27
  go_upto_region 1 with (fail)
  generalize w.alloc (.cells (paC p) 54) = w1 at *
  have c0 : w1.cell? ⟨w.heap.size, 0, none⟩ = some (.bool false) := by rw [← hp]; exact HA.cv 0 (.bool p.pfc) rfl
  have c1 := HA.cv 1 (.int .i64 p.en) rfl
  have HP := Lib.hid hp
  clear hp
  go_wp2_with (refine load_blk (k := 2) 52 (c8 p.t) (by rfl) rfl rfl HA (by kernel_rfl) (by kernel_rfl) rfl ?_)
  go_loop [7] (fun i => ∃ k : Nat, k ≤ 8 ∧ i = .int .i64 k ∧ ∀ j, j < k → goodT p j) (fun i => 8 - (intOf i).toNat)
  case atStart => exact ⟨0, by omega, rfl, fun j hj => by omega⟩
  case round =>
    obtain ⟨k, hk, rfl, hall⟩ := hrel
    have HALL := Lib.hid hall
    clear hall
    by_cases hlt : k < 8
    · have hki : decide ((k : Int) < 8) = true := decide_eq_true (by omega)
      by_cases hg : goodT p k
      · have HN : Hid (∀ j, j < k + 1 → goodT p j) := fun j hj => by
          rcases Nat.lt_succ_iff_lt_or_eq.1 hj with h | rfl
          · exact HALL.out j h
          · exact hg
        obtain ⟨⟨h1, h2⟩, h3⟩ := hg
        by_cases hk0 : k = 0
        · clear h3
          have dk : decide (0 < k) = false := decide_eq_false (by omega)
          clear hk0
          go_wp2_with (refine index_c8 p.t k hlt (by rfl) rfl rfl rfl ?_)
          refine (within_yes (p.t k) 0 65535 _ (by omega) (by omega)).mono ?_
          rintro e w3 ⟨rfl, rfl⟩
          go_wp2
          go_round
          case rel => exact ⟨k + 1, by omega, by go_num, HN.out⟩
          case measure => simp [intOf]; omega
        · have dk : decide (0 < k) = true := decide_eq_true (by omega)
          have dx : (p.t k != 0) = false := by
            rcases h3 with q | q | q
            · rw [HP.out] at q; cases q
            · exact absurd q hk0
            · simp [q]
          clear h3
          go_wp2_with (refine index_c8 p.t k hlt (by rfl) rfl rfl rfl ?_)
          refine (within_yes (p.t k) 0 65535 _ (by omega) (by omega)).mono ?_
          rintro e w3 ⟨rfl, rfl⟩
          go_wp2
          go_round
          case rel => exact ⟨k + 1, by omega, by go_num, HN.out⟩
          case measure => simp [intOf]; omega
      · have HB := Lib.hid (paRight_not p k hlt hg)
        by_cases hr : 0 ≤ p.t k ∧ p.t k ≤ 65535
        · obtain ⟨h1, h2⟩ := hr
          have hk0 : 0 < k := by
            rcases Nat.eq_zero_or_pos k with q | q
            · exact absurd ⟨⟨h1, h2⟩, Or.inr (Or.inl q)⟩ hg
            · exact q
          have dk : decide (0 < k) = true := decide_eq_true (by omega)
          have dx : (p.t k != 0) = true := by
            apply bne_iff_ne.2
            intro q
            exact hg ⟨⟨h1, h2⟩, Or.inr (Or.inr q)⟩
          clear hg
          go_wp2_with (refine index_c8 p.t k hlt (by rfl) rfl rfl rfl ?_)
          refine (within_yes (p.t k) 0 65535 _ (by omega) (by omega)).mono ?_
          rintro e w3 ⟨rfl, rfl⟩
          go_wp2
          go_ret
          exact ⟨by rw [HB.out]; rfl, B2⟩
        · clear hg
          go_wp2_with (refine index_c8 p.t k hlt (by rfl) rfl rfl rfl ?_)
          refine (within_no (p.t k) 0 65535 _ (by omega)).mono ?_
          rintro e w3 ⟨rfl, rfl⟩
          go_wp2
          go_ret
          exact ⟨by rw [HB.out]; rfl, B2⟩
    · obtain rfl : k = 8 := by omega
      have HR : Hid (paRight p = (okE p && (p.pfc || (p.en == 0)))) := paRight_all p HALL.out
      clear HALL
      by_cases h1 : 0 ≤ p.en ∧ p.en ≤ 255
      · obtain ⟨h2, h3⟩ := h1
        have HE : Hid (okE p = true) := by show _ = _; unfold okE; rw [decide_eq_true h2, decide_eq_true h3]; rfl
        by_cases h0 : p.en = 0
        · have d0 : (p.en == 0) = true := by simp [h0]
          have HD := Lib.hid d0
          clear h0
          go_wp2_with fail
          refine (within_yes p.en 0 255 _ h2 h3).mono ?_
          rintro e w3 ⟨rfl, rfl⟩
          go_wp2
          go_ret
          exact ⟨by rw [HR.out, HE.out, HP.out, HD.out]; rfl, B2⟩
        · have d0 : (p.en == 0) = false := by simp [h0]
          have HD := Lib.hid d0
          clear h0
          go_wp2_with fail
          refine (within_yes p.en 0 255 _ h2 h3).mono ?_
          rintro e w3 ⟨rfl, rfl⟩
          go_wp2
          go_ret
          exact ⟨by rw [HR.out, HE.out, HP.out, HD.out]; rfl, B2⟩
      · have HE : Hid (okE p = false) := by
          show _ = _
          unfold okE
          by_cases q : 0 ≤ p.en
          · rw [decide_eq_true q, decide_eq_false (by omega)]; rfl
          · rw [decide_eq_false q]; rfl
        go_wp2_with fail
        refine (within_no p.en 0 255 _ (by omega)).mono ?_
        rintro e w3 ⟨rfl, rfl⟩
        go_wp2
        go_ret
        exact ⟨by rw [HR.out, HE.out]; rfl, B2⟩

theorem refPaRight_any (p : Pa) (w : World) : Calls Tryd.prog 27 #[.agg (paC p)] w fun e w' => e = .returned (.bool (paRight p)) ∧ Below w.heap.size w w' := by
  cases hp : p.pfc with
  | true => exact refPaRight_true p w hp
  | false => exact refPaRight_false p w hp

end Go.Proofs.YtnldggbhhbndfaaDoor
