/- pause.forAll, pause.Right. -/
import Derived.Test.YtnldggbhhbndfaaDoorBlk
import Derived.Test.YtnldggbhhbndfaaDoorPa
namespace Go.Proofs.YtnldggbhhbndfaaDoor
open Go.RowKit
attribute [local go_sem ↓] Go.wp_at_zero Go.wp_at_succ
set_option linter.unusedSimpArgs false
set_option linter.unusedVariables false
set_option maxRecDepth 100000

def paAll (x : Int) : Pa := ⟨false, 0, fun i => if i = 0 then x else 0⟩

theorem forAll_any (x : Int) (w : World) : Calls Tryd.prog 62 #[.int .i64 x] w fun e w' => e = .returned (.agg (paC (paAll x))) ∧ Below w.heap.size w w' := by
  have HZ := Blk.new w 54 (paC zPa)
  have B0 : Below w.heap.size w (w.alloc (.cells (paC zPa) 54)) := (Below.refl _ _).alloc (Nat.le_refl _) _
  go_enter Tryd.func62, Tryd.ntmps62
  go_wp2_with (first | (refine alloc_blk 54 (paC zPa) (by rfl) rfl Tryd.paZero ?_) | (refine build_blk (t := 52) (c8 (paAll x).t) (by rfl) rfl (by kernel_rfl) ?_) | (refine build_blk (t := 54) (paC (paAll x)) (by rfl) rfl (by kernel_rfl) ?_) | (refine store_blk (k := 0) 54 (.agg (paC (paAll x))) (paC (paAll x)) (by rfl) rfl rfl rfl HZ (by kernel_rfl) (by exact Nat.le_refl 10) rfl rfl (fun w2 H2 b2 g2 => ?_)))
  exact bodyPost_ret (results_blk rfl rfl H2 (by kernel_rfl) (by kernel_rfl)) rfl ⟨rfl, B0.trans b2⟩


set_option maxHeartbeats 1600000 in
theorem paRight_p (p : Pa) (w : World) (hp : p.pfc = true) : Calls Tryd.prog 26 #[.agg (paC p)] w fun e w' => e = .returned (.bool (paRight p)) ∧ Below w.heap.size w w' := by
  have HA := Blk.new w 54 (paC p)
  have B0 : Below w.heap.size w (w.alloc (.cells (paC p) 54)) := (Below.refl _ _).alloc (Nat.le_refl _) _
  have HOK : Hid (okP p = true) := by show _ = _; unfold okP; rw [hp]; rfl
  go_enter Tryd.func26, Tryd.ntmps26
  go_upto_region 1 with (fail)
  generalize w.alloc (.cells (paC p) 54) = w1 at *
  have c0 : w1.cell? ⟨w.heap.size, 0, none⟩ = some (.bool true) := by rw [← hp]; exact HA.cv 0 (.bool p.pfc) rfl
  have c1 := HA.cv 1 (.int .i64 p.en) rfl
  clear hp
  refine wp_region_noPanic ?_
  refine wp_region_held_drew (S := (fun w' => w'.cell? ⟨w.heap.size, 0, none⟩ = some (.bool true))) (by kernel_rfl) ?_ (fun hHeld => ?_)
  · exact c0
  refine wpAnyH_take (i := 0) (v := ?_) rfl (by kernel_rfl) (by kernel_rfl) (by kernel_rfl) (fun _ _ _ h => h) (Or.inl ⟨by rfl, ?_⟩) (by assumption) ?_
  rotate_left
  · (intro w hSw; (try dsimp only at hSw); go_simp; (try with_reducible rfl))
  (try simp only [Act.put, List.getElem_toArray, List.getElem_cons_zero, List.getElem_cons_succ, List.setIfInBounds_toArray, List.set_cons_zero, List.set_cons_succ])
  refine wpAnyH_take (i := 1) (v := ?_) rfl (by kernel_rfl) (by kernel_rfl) (by kernel_rfl) (fun _ _ _ h => h) (Or.inl ⟨by rfl, ?_⟩) (by assumption) ?_
  rotate_left
  · (intro w hSw; (try dsimp only at hSw); go_simp; (try with_reducible rfl))
  (try simp only [Act.put, List.getElem_toArray, List.getElem_cons_zero, List.getElem_cons_succ, List.setIfInBounds_toArray, List.set_cons_zero, List.set_cons_succ])
  refine wpAnyH_take (i := 2) (v := ?_) rfl (by kernel_rfl) (by kernel_rfl) (by kernel_rfl) (fun _ _ _ h => h) (Or.inl ⟨by rfl, ?_⟩) (by assumption) ?_
  rotate_left
  · (intro w hSw; (try dsimp only at hSw); go_simp; (try with_reducible rfl))
  (try simp only [Act.put, List.getElem_toArray, List.getElem_cons_zero, List.getElem_cons_succ, List.setIfInBounds_toArray, List.set_cons_zero, List.set_cons_succ])
  refine wpAnyH_take (i := 3) (v := ?_) rfl (by kernel_rfl) (by kernel_rfl) (by kernel_rfl) (fun _ _ _ h => h) (Or.inl ⟨by rfl, ?_⟩) (by assumption) ?_
  rotate_left
  · (intro w hSw; (try dsimp only at hSw); go_simp; (try with_reducible rfl))
  (try simp only [Act.put, List.getElem_toArray, List.getElem_cons_zero, List.getElem_cons_succ, List.setIfInBounds_toArray, List.set_cons_zero, List.set_cons_succ])
  refine wpAnyH_take (i := 4) (v := undef) rfl (by kernel_rfl) (by kernel_rfl) (by kernel_rfl) (fun _ _ _ h => h) (Or.inr ⟨by rfl, rfl⟩) (by assumption) ?_
  (try simp only [Act.put, List.getElem_toArray, List.getElem_cons_zero, List.getElem_cons_succ, List.setIfInBounds_toArray, List.set_cons_zero, List.set_cons_succ])
  refine wpAnyH_take (i := 5) (v := undef) rfl (by kernel_rfl) (by kernel_rfl) (by kernel_rfl) (fun _ _ _ h => h) (Or.inr ⟨by rfl, rfl⟩) (by assumption) ?_
  (try simp only [Act.put, List.getElem_toArray, List.getElem_cons_zero, List.getElem_cons_succ, List.setIfInBounds_toArray, List.set_cons_zero, List.set_cons_succ])
  refine wpAnyH_take (i := 6) (v := undef) rfl (by kernel_rfl) (by kernel_rfl) (by kernel_rfl) (fun _ _ _ h => h) (Or.inr ⟨by rfl, rfl⟩) (by assumption) ?_
  (try simp only [Act.put, List.getElem_toArray, List.getElem_cons_zero, List.getElem_cons_succ, List.setIfInBounds_toArray, List.set_cons_zero, List.set_cons_succ])
  refine wpAnyH_take (i := 7) (v := undef) rfl (by kernel_rfl) (by kernel_rfl) (by kernel_rfl) (fun _ _ _ h => h) (Or.inr ⟨by rfl, rfl⟩) (by assumption) ?_
  (try simp only [Act.put, List.getElem_toArray, List.getElem_cons_zero, List.getElem_cons_succ, List.setIfInBounds_toArray, List.set_cons_zero, List.set_cons_succ])
  refine wpAnyH_take (i := 8) (v := undef) rfl (by kernel_rfl) (by kernel_rfl) (by kernel_rfl) (fun _ _ _ h => h) (Or.inr ⟨by rfl, rfl⟩) (by assumption) ?_
  (try simp only [Act.put, List.getElem_toArray, List.getElem_cons_zero, List.getElem_cons_succ, List.setIfInBounds_toArray, List.set_cons_zero, List.set_cons_succ])
  refine wpAnyH_take (i := 9) (v := undef) rfl (by kernel_rfl) (by kernel_rfl) (by kernel_rfl) (fun _ _ _ h => h) (Or.inr ⟨by rfl, rfl⟩) (by assumption) ?_
  (try simp only [Act.put, List.getElem_toArray, List.getElem_cons_zero, List.getElem_cons_succ, List.setIfInBounds_toArray, List.set_cons_zero, List.set_cons_succ])
  refine wpAnyH_take (i := 10) (v := ?_) rfl (by kernel_rfl) (by kernel_rfl) (by kernel_rfl) (fun _ _ _ h => h) (Or.inl ⟨by rfl, ?_⟩) (by assumption) ?_
  rotate_left
  · (intro w hSw; (try dsimp only at hSw); go_simp; (try with_reducible rfl))
  (try simp only [Act.put, List.getElem_toArray, List.getElem_cons_zero, List.getElem_cons_succ, List.setIfInBounds_toArray, List.set_cons_zero, List.set_cons_succ])
  refine wpAnyH_done (by kernel_rfl) ?_ _
  refine NoPanic.normal ?_
  have HA2 : Blk w1.drew w.heap.size 54 (paC p) := HA
  have c12 : w1.drew.cell? ⟨w.heap.size, 1, none⟩ = some (.int .i64 p.en) := c1
  have B2 := B0.drew
  generalize w1.drew = w2 at *
  clear HA c0 c1 B0
  go_wp2_with (refine load_blk (k := 2) 52 (c8 p.t) (by rfl) rfl rfl HA2 (by kernel_rfl) (by kernel_rfl) rfl ?_)
  go_loop [18] (fun i => ∃ k : Nat, k ≤ 8 ∧ i = .int .i64 k ∧ ∀ j, j < k → 0 ≤ p.t j ∧ p.t j ≤ 65535) (fun i => 8 - (intOf i).toNat)
  case atStart => exact ⟨0, by omega, rfl, fun j hj => by omega⟩
  case round =>
    obtain ⟨k, hk, rfl, hall⟩ := hrel
    have HALL := Lib.hid hall
    clear hall
    by_cases hlt : k < 8
    · have hki : decide ((k : Int) < 8) = true := decide_eq_true (by omega)
      have HB := Lib.hid (paRight_bad p k hlt)
      have HN : Hid (0 ≤ p.t k → p.t k ≤ 65535 → ∀ j, j < k + 1 → 0 ≤ p.t j ∧ p.t j ≤ 65535) := fun h1 h2 j hj => by
        rcases Nat.lt_succ_iff_lt_or_eq.1 hj with h | rfl
        · exact HALL.out j h
        · exact ⟨h1, h2⟩
      by_cases h1 : p.t k < 0
      · have d1 : decide (p.t k < 0) = true := decide_eq_true h1
        go_wp2_with (refine index_c8 p.t k hlt (by rfl) rfl rfl rfl ?_)
        go_ret
        exact ⟨by rw [HB.out (by omega)]; rfl, B2⟩
      · have d1 : decide (p.t k < 0) = false := decide_eq_false h1
        by_cases h2 : 65535 < p.t k
        · have d2 : decide (65535 < p.t k) = true := decide_eq_true h2
          go_wp2_with (refine index_c8 p.t k hlt (by rfl) rfl rfl rfl ?_)
          go_ret
          exact ⟨by rw [HB.out (by omega)]; rfl, B2⟩
        · have d2 : decide (65535 < p.t k) = false := decide_eq_false h2
          have HK := Lib.hid (HN.out (by omega) (by omega))
          go_wp2_with (refine index_c8 p.t k hlt (by rfl) rfl rfl rfl ?_)
          go_round
          case rel => exact ⟨k + 1, by omega, by go_num, HK.out⟩
          case measure => simp [intOf]; omega
    · obtain rfl : k = 8 := by omega
      have HR : Hid (paRight p = (decide (0 ≤ p.en) && decide (p.en ≤ 255))) := by
        show _ = _
        unfold paRight okE
        rw [(okT_iff p).2 HALL.out, HOK.out]
        simp
      by_cases h1 : 0 ≤ p.en
      · by_cases h2 : p.en ≤ 255
        · have d2 : decide (p.en ≤ 255) = true := decide_eq_true h2
          go_wp2
          go_ret
          exact ⟨by rw [HR.out, decide_eq_true (by omega), decide_eq_true (by omega)]; rfl, B2⟩
        · have d2 : decide (p.en ≤ 255) = false := decide_eq_false h2
          go_wp2
          go_ret
          exact ⟨by rw [HR.out, decide_eq_true (by omega), decide_eq_false (by omega)]; rfl, B2⟩
      · have d1 : decide (0 ≤ p.en) = false := decide_eq_false h1
        go_wp2
        go_ret
        exact ⟨by rw [HR.out, decide_eq_false (by omega)]; rfl, B2⟩

theorem paAll_eq (p : Pa) (hp : p.pfc = false) : eqPa p (paAll (p.t 0)) = okP p := by
  unfold eqPa okP paAll eq8
  rw [hp]
  simp [List.range_succ]

set_option maxHeartbeats 1600000 in
theorem paRight_y (p : Pa) (w : World) (hp : p.pfc = false) (ho : okP p = true) : Calls Tryd.prog 26 #[.agg (paC p)] w fun e w' => e = .returned (.bool (paRight p)) ∧ Below w.heap.size w w' := by
  have HA := Blk.new w 54 (paC p)
  have B0 : Below w.heap.size w (w.alloc (.cells (paC p) 54)) := (Below.refl _ _).alloc (Nat.le_refl _) _
  have HOK := Lib.hid ho
  have HQ : Hid (∀ W, (Op.equalIn 10000 54 (.agg (paC p)) (.agg (paC (paAll (p.t 0))))).run Tryd.prog W = .ok true W) := fun W => by
    have h := run_eql_pa p (paAll (p.t 0)) W
    rw [paAll_eq p hp, ho] at h
    exact h
  clear ho
  go_enter Tryd.func26, Tryd.ntmps26
  go_upto_region 1 with (fail)
  generalize w.alloc (.cells (paC p) 54) = w1 at *
  have c0 : w1.cell? ⟨w.heap.size, 0, none⟩ = some (.bool false) := by rw [← hp]; exact HA.cv 0 (.bool p.pfc) rfl
  have c2 := HA.cv 2 (.int .i64 (p.t 0)) rfl
  clear hp
  refine wp_region_noPanic ?_
  refine wp_region_held_drew (S := (fun w' => Blk w' w.heap.size 54 (paC p) ∧ w'.cell? ⟨w.heap.size, 0, none⟩ = some (.bool false) ∧ w'.cell? ⟨w.heap.size, 2, none⟩ = some (.int .i64 (p.t 0)))) (by kernel_rfl) ?_ (fun hHeld => ?_)
  · exact ⟨HA, c0, c2⟩
  refine wpAnyH_take (i := 0) (v := ?_) rfl (by kernel_rfl) (by kernel_rfl) (by kernel_rfl) (fun _ _ _ h => h) (Or.inl ⟨by rfl, ?_⟩) (by assumption) ?_
  rotate_left
  · (intro w hSw; (try dsimp only at hSw); go_simp; (try with_reducible rfl))
  (try simp only [Act.put, List.getElem_toArray, List.getElem_cons_zero, List.getElem_cons_succ, List.setIfInBounds_toArray, List.set_cons_zero, List.set_cons_succ])
  refine wpAnyH_take (i := 1) (v := ?_) rfl (by kernel_rfl) (by kernel_rfl) (by kernel_rfl) (fun _ _ _ h => h) (Or.inl ⟨by rfl, ?_⟩) (by assumption) ?_
  rotate_left
  · (intro w hSw; (try dsimp only at hSw); go_simp; (try with_reducible rfl))
  (try simp only [Act.put, List.getElem_toArray, List.getElem_cons_zero, List.getElem_cons_succ, List.setIfInBounds_toArray, List.set_cons_zero, List.set_cons_succ])
  refine wpAnyH_take (i := 2) (v := ?_) rfl (by kernel_rfl) (by kernel_rfl) (by kernel_rfl) (fun _ _ _ h => h) (Or.inl ⟨by rfl, ?_⟩) (by assumption) ?_
  rotate_left
  · (intro w hSw; (try dsimp only at hSw); go_simp; (try with_reducible rfl))
  (try simp only [Act.put, List.getElem_toArray, List.getElem_cons_zero, List.getElem_cons_succ, List.setIfInBounds_toArray, List.set_cons_zero, List.set_cons_succ])
  refine wpAnyH_take (i := 3) (v := ?_) rfl (by kernel_rfl) (by kernel_rfl) (by kernel_rfl) (fun _ _ _ h => h) (Or.inl ⟨by rfl, ?_⟩) (by assumption) ?_
  rotate_left
  · (intro w hSw; (try dsimp only at hSw); go_simp; (try with_reducible rfl))
  (try simp only [Act.put, List.getElem_toArray, List.getElem_cons_zero, List.getElem_cons_succ, List.setIfInBounds_toArray, List.set_cons_zero, List.set_cons_succ])
  refine wpAnyH_take (i := 4) (v := (.agg (paC p))) rfl (by kernel_rfl) (by kernel_rfl) (by kernel_rfl) (fun _ _ _ h => h) (Or.inl ⟨by rfl, fun w hSw => exec_load_blk 54 (paC p) rfl rfl hSw.1 (by kernel_rfl) (by kernel_rfl) rfl⟩) (by assumption) ?_
  (try simp only [Act.put, List.getElem_toArray, List.getElem_cons_zero, List.getElem_cons_succ, List.setIfInBounds_toArray, List.set_cons_zero, List.set_cons_succ])
  refine wpAnyH_take (i := 5) (v := ?_) rfl (by kernel_rfl) (by kernel_rfl) (by kernel_rfl) (fun _ _ _ h => h) (Or.inl ⟨by rfl, ?_⟩) (by assumption) ?_
  rotate_left
  · (intro w hSw; (try dsimp only at hSw); go_simp; (try with_reducible rfl))
  (try simp only [Act.put, List.getElem_toArray, List.getElem_cons_zero, List.getElem_cons_succ, List.setIfInBounds_toArray, List.set_cons_zero, List.set_cons_succ])
  refine wpAnyH_take (i := 6) (v := ?_) rfl (by kernel_rfl) (by kernel_rfl) (by kernel_rfl) (fun _ _ _ h => h) (Or.inl ⟨by rfl, ?_⟩) (by assumption) ?_
  rotate_left
  · (intro w hSw; (try dsimp only at hSw); go_simp; (try with_reducible rfl))
  (try simp only [Act.put, List.getElem_toArray, List.getElem_cons_zero, List.getElem_cons_succ, List.setIfInBounds_toArray, List.set_cons_zero, List.set_cons_succ])
  refine wpAnyH_take (i := 7) (v := ?_) rfl (by kernel_rfl) (by kernel_rfl) (by kernel_rfl) (fun _ _ _ h => h) (Or.inl ⟨by rfl, ?_⟩) (by assumption) ?_
  rotate_left
  · (intro w hSw; (try dsimp only at hSw); go_simp; (try with_reducible rfl))
  (try simp only [Act.put, List.getElem_toArray, List.getElem_cons_zero, List.getElem_cons_succ, List.setIfInBounds_toArray, List.set_cons_zero, List.set_cons_succ])
  refine wpAnyH_ready (rs := [8]) (by kernel_rfl) (by simp) ?_
  refine AllReadyH.cons rfl (fun K hK => ?_) AllReadyH.nil
  simp only [List.getElem_toArray, List.getElem_cons_zero, List.getElem_cons_succ]
  go_simp
  go_at_call 62; (refine (forAll_any (p.t 0) _).mono ?_); rintro e w3 ⟨rfl, b3⟩; have HA3 := HA.drew.kept b3; have c3 : w3.cell? ⟨w.heap.size, 0, none⟩ = some (.bool false) := (b3.cell (p := ⟨w.heap.size, 0, none⟩) HA.lt).trans c0; have c4 := HA3.cv 2 (.int .i64 (p.t 0)) rfl
  refine hK.out _ _ ?_ (fun hHeld => ?_)
  · exact ⟨HA3, c3, c4⟩
  clear hK K
  (try simp only [Act.put, List.getElem_toArray, List.getElem_cons_zero, List.getElem_cons_succ, List.setIfInBounds_toArray, List.set_cons_zero, List.set_cons_succ])
  refine wpAnyH_take (i := 9) (v := (.bool false)) rfl (by kernel_rfl) (by kernel_rfl) (by kernel_rfl) (fun _ _ _ h => h) (Or.inl ⟨by rfl, fun w hSw => exec_eq_agg .neq 54 (paC p) (paC (paAll (p.t 0))) true rfl (Or.inr rfl) rfl rfl Tryd.paGuard (HQ.out _)⟩) (by assumption) ?_
  (try simp only [Act.put, List.getElem_toArray, List.getElem_cons_zero, List.getElem_cons_succ, List.setIfInBounds_toArray, List.set_cons_zero, List.set_cons_succ])
  refine wpAnyH_take (i := 10) (v := ?_) rfl (by kernel_rfl) (by kernel_rfl) (by kernel_rfl) (fun _ _ _ h => h) (Or.inl ⟨by rfl, ?_⟩) (by assumption) ?_
  rotate_left
  · (intro w hSw; (try dsimp only at hSw); go_simp; (try with_reducible rfl))
  (try simp only [Act.put, List.getElem_toArray, List.getElem_cons_zero, List.getElem_cons_succ, List.setIfInBounds_toArray, List.set_cons_zero, List.set_cons_succ])
  refine wpAnyH_done (by kernel_rfl) ?_ _
  refine NoPanic.normal ?_
  have HA2 := HA3
  have c12 : w3.cell? ⟨w.heap.size, 1, none⟩ = some (.int .i64 p.en) := HA2.cv 1 (.int .i64 p.en) rfl
  have B2 := B0.drew.trans (b3.mono B0.size)
  generalize w3 = w2 at *
  clear HA c0 c2 B0 b3 HA3 c3 c4 HQ
  go_wp2_with (refine load_blk (k := 2) 52 (c8 p.t) (by rfl) rfl rfl HA2 (by kernel_rfl) (by kernel_rfl) rfl ?_)
  go_loop [18] (fun i => ∃ k : Nat, k ≤ 8 ∧ i = .int .i64 k ∧ ∀ j, j < k → 0 ≤ p.t j ∧ p.t j ≤ 65535) (fun i => 8 - (intOf i).toNat)
  case atStart => exact ⟨0, by omega, rfl, fun j hj => by omega⟩
  case round =>
    obtain ⟨k, hk, rfl, hall⟩ := hrel
    have HALL := Lib.hid hall
    clear hall
    by_cases hlt : k < 8
    · have hki : decide ((k : Int) < 8) = true := decide_eq_true (by omega)
      have HB := Lib.hid (paRight_bad p k hlt)
      have HN : Hid (0 ≤ p.t k → p.t k ≤ 65535 → ∀ j, j < k + 1 → 0 ≤ p.t j ∧ p.t j ≤ 65535) := fun h1 h2 j hj => by
        rcases Nat.lt_succ_iff_lt_or_eq.1 hj with h | rfl
        · exact HALL.out j h
        · exact ⟨h1, h2⟩
      by_cases h1 : p.t k < 0
      · have d1 : decide (p.t k < 0) = true := decide_eq_true h1
        go_wp2_with (refine index_c8 p.t k hlt (by rfl) rfl rfl rfl ?_)
        go_ret
        exact ⟨by rw [HB.out (by omega)]; rfl, B2⟩
      · have d1 : decide (p.t k < 0) = false := decide_eq_false h1
        by_cases h2 : 65535 < p.t k
        · have d2 : decide (65535 < p.t k) = true := decide_eq_true h2
          go_wp2_with (refine index_c8 p.t k hlt (by rfl) rfl rfl rfl ?_)
          go_ret
          exact ⟨by rw [HB.out (by omega)]; rfl, B2⟩
        · have d2 : decide (65535 < p.t k) = false := decide_eq_false h2
          have HK := Lib.hid (HN.out (by omega) (by omega))
          go_wp2_with (refine index_c8 p.t k hlt (by rfl) rfl rfl rfl ?_)
          go_round
          case rel => exact ⟨k + 1, by omega, by go_num, HK.out⟩
          case measure => simp [intOf]; omega
    · obtain rfl : k = 8 := by omega
      have HR : Hid (paRight p = (decide (0 ≤ p.en) && decide (p.en ≤ 255))) := by
        show _ = _
        unfold paRight okE
        rw [(okT_iff p).2 HALL.out, HOK.out]
        simp
      by_cases h1 : 0 ≤ p.en
      · by_cases h2 : p.en ≤ 255
        · have d2 : decide (p.en ≤ 255) = true := decide_eq_true h2
          go_wp2
          go_ret
          exact ⟨by rw [HR.out, decide_eq_true (by omega), decide_eq_true (by omega)]; rfl, B2⟩
        · have d2 : decide (p.en ≤ 255) = false := decide_eq_false h2
          go_wp2
          go_ret
          exact ⟨by rw [HR.out, decide_eq_true (by omega), decide_eq_false (by omega)]; rfl, B2⟩
      · have d1 : decide (0 ≤ p.en) = false := decide_eq_false h1
        go_wp2
        go_ret
        exact ⟨by rw [HR.out, decide_eq_false (by omega)]; rfl, B2⟩

set_option maxHeartbeats 1600000 in
theorem paRight_n (p : Pa) (w : World) (hp : p.pfc = false) (ho : okP p = false) : Calls Tryd.prog 26 #[.agg (paC p)] w fun e w' => e = .returned (.bool (paRight p)) ∧ Below w.heap.size w w' := by
  have HA := Blk.new w 54 (paC p)
  have B0 : Below w.heap.size w (w.alloc (.cells (paC p) 54)) := (Below.refl _ _).alloc (Nat.le_refl _) _
  have HOK := Lib.hid ho
  have HQ : Hid (∀ W, (Op.equalIn 10000 54 (.agg (paC p)) (.agg (paC (paAll (p.t 0))))).run Tryd.prog W = .ok false W) := fun W => by
    have h := run_eql_pa p (paAll (p.t 0)) W
    rw [paAll_eq p hp, ho] at h
    exact h
  clear ho
  go_enter Tryd.func26, Tryd.ntmps26
  go_upto_region 1 with (fail)
  generalize w.alloc (.cells (paC p) 54) = w1 at *
  have c0 : w1.cell? ⟨w.heap.size, 0, none⟩ = some (.bool false) := by rw [← hp]; exact HA.cv 0 (.bool p.pfc) rfl
  have c2 := HA.cv 2 (.int .i64 (p.t 0)) rfl
  clear hp
  refine wp_region_noPanic ?_
  refine wp_region_held_drew (S := (fun w' => Blk w' w.heap.size 54 (paC p) ∧ w'.cell? ⟨w.heap.size, 0, none⟩ = some (.bool false) ∧ w'.cell? ⟨w.heap.size, 2, none⟩ = some (.int .i64 (p.t 0)))) (by kernel_rfl) ?_ (fun hHeld => ?_)
  · exact ⟨HA, c0, c2⟩
  refine wpAnyH_take (i := 0) (v := ?_) rfl (by kernel_rfl) (by kernel_rfl) (by kernel_rfl) (fun _ _ _ h => h) (Or.inl ⟨by rfl, ?_⟩) (by assumption) ?_
  rotate_left
  · (intro w hSw; (try dsimp only at hSw); go_simp; (try with_reducible rfl))
  (try simp only [Act.put, List.getElem_toArray, List.getElem_cons_zero, List.getElem_cons_succ, List.setIfInBounds_toArray, List.set_cons_zero, List.set_cons_succ])
  refine wpAnyH_take (i := 1) (v := ?_) rfl (by kernel_rfl) (by kernel_rfl) (by kernel_rfl) (fun _ _ _ h => h) (Or.inl ⟨by rfl, ?_⟩) (by assumption) ?_
  rotate_left
  · (intro w hSw; (try dsimp only at hSw); go_simp; (try with_reducible rfl))
  (try simp only [Act.put, List.getElem_toArray, List.getElem_cons_zero, List.getElem_cons_succ, List.setIfInBounds_toArray, List.set_cons_zero, List.set_cons_succ])
  refine wpAnyH_take (i := 2) (v := ?_) rfl (by kernel_rfl) (by kernel_rfl) (by kernel_rfl) (fun _ _ _ h => h) (Or.inl ⟨by rfl, ?_⟩) (by assumption) ?_
  rotate_left
  · (intro w hSw; (try dsimp only at hSw); go_simp; (try with_reducible rfl))
  (try simp only [Act.put, List.getElem_toArray, List.getElem_cons_zero, List.getElem_cons_succ, List.setIfInBounds_toArray, List.set_cons_zero, List.set_cons_succ])
  refine wpAnyH_take (i := 3) (v := ?_) rfl (by kernel_rfl) (by kernel_rfl) (by kernel_rfl) (fun _ _ _ h => h) (Or.inl ⟨by rfl, ?_⟩) (by assumption) ?_
  rotate_left
  · (intro w hSw; (try dsimp only at hSw); go_simp; (try with_reducible rfl))
  (try simp only [Act.put, List.getElem_toArray, List.getElem_cons_zero, List.getElem_cons_succ, List.setIfInBounds_toArray, List.set_cons_zero, List.set_cons_succ])
  refine wpAnyH_take (i := 4) (v := (.agg (paC p))) rfl (by kernel_rfl) (by kernel_rfl) (by kernel_rfl) (fun _ _ _ h => h) (Or.inl ⟨by rfl, fun w hSw => exec_load_blk 54 (paC p) rfl rfl hSw.1 (by kernel_rfl) (by kernel_rfl) rfl⟩) (by assumption) ?_
  (try simp only [Act.put, List.getElem_toArray, List.getElem_cons_zero, List.getElem_cons_succ, List.setIfInBounds_toArray, List.set_cons_zero, List.set_cons_succ])
  refine wpAnyH_take (i := 5) (v := ?_) rfl (by kernel_rfl) (by kernel_rfl) (by kernel_rfl) (fun _ _ _ h => h) (Or.inl ⟨by rfl, ?_⟩) (by assumption) ?_
  rotate_left
  · (intro w hSw; (try dsimp only at hSw); go_simp; (try with_reducible rfl))
  (try simp only [Act.put, List.getElem_toArray, List.getElem_cons_zero, List.getElem_cons_succ, List.setIfInBounds_toArray, List.set_cons_zero, List.set_cons_succ])
  refine wpAnyH_take (i := 6) (v := ?_) rfl (by kernel_rfl) (by kernel_rfl) (by kernel_rfl) (fun _ _ _ h => h) (Or.inl ⟨by rfl, ?_⟩) (by assumption) ?_
  rotate_left
  · (intro w hSw; (try dsimp only at hSw); go_simp; (try with_reducible rfl))
  (try simp only [Act.put, List.getElem_toArray, List.getElem_cons_zero, List.getElem_cons_succ, List.setIfInBounds_toArray, List.set_cons_zero, List.set_cons_succ])
  refine wpAnyH_take (i := 7) (v := ?_) rfl (by kernel_rfl) (by kernel_rfl) (by kernel_rfl) (fun _ _ _ h => h) (Or.inl ⟨by rfl, ?_⟩) (by assumption) ?_
  rotate_left
  · (intro w hSw; (try dsimp only at hSw); go_simp; (try with_reducible rfl))
  (try simp only [Act.put, List.getElem_toArray, List.getElem_cons_zero, List.getElem_cons_succ, List.setIfInBounds_toArray, List.set_cons_zero, List.set_cons_succ])
  refine wpAnyH_ready (rs := [8]) (by kernel_rfl) (by simp) ?_
  refine AllReadyH.cons rfl (fun K hK => ?_) AllReadyH.nil
  simp only [List.getElem_toArray, List.getElem_cons_zero, List.getElem_cons_succ]
  go_simp
  go_at_call 62; (refine (forAll_any (p.t 0) _).mono ?_); rintro e w3 ⟨rfl, b3⟩; have HA3 := HA.drew.kept b3; have c3 : w3.cell? ⟨w.heap.size, 0, none⟩ = some (.bool false) := (b3.cell (p := ⟨w.heap.size, 0, none⟩) HA.lt).trans c0; have c4 := HA3.cv 2 (.int .i64 (p.t 0)) rfl
  refine hK.out _ _ ?_ (fun hHeld => ?_)
  · exact ⟨HA3, c3, c4⟩
  clear hK K
  (try simp only [Act.put, List.getElem_toArray, List.getElem_cons_zero, List.getElem_cons_succ, List.setIfInBounds_toArray, List.set_cons_zero, List.set_cons_succ])
  refine wpAnyH_take (i := 9) (v := (.bool true)) rfl (by kernel_rfl) (by kernel_rfl) (by kernel_rfl) (fun _ _ _ h => h) (Or.inl ⟨by rfl, fun w hSw => exec_eq_agg .neq 54 (paC p) (paC (paAll (p.t 0))) false rfl (Or.inr rfl) rfl rfl Tryd.paGuard (HQ.out _)⟩) (by assumption) ?_
  (try simp only [Act.put, List.getElem_toArray, List.getElem_cons_zero, List.getElem_cons_succ, List.setIfInBounds_toArray, List.set_cons_zero, List.set_cons_succ])
  refine wpAnyH_take (i := 10) (v := ?_) rfl (by kernel_rfl) (by kernel_rfl) (by kernel_rfl) (fun _ _ _ h => h) (Or.inl ⟨by rfl, ?_⟩) (by assumption) ?_
  rotate_left
  · (intro w hSw; (try dsimp only at hSw); go_simp; (try with_reducible rfl))
  (try simp only [Act.put, List.getElem_toArray, List.getElem_cons_zero, List.getElem_cons_succ, List.setIfInBounds_toArray, List.set_cons_zero, List.set_cons_succ])
  refine wpAnyH_done (by kernel_rfl) ?_ _
  refine NoPanic.normal ?_
  have HA2 := HA3
  have c12 : w3.cell? ⟨w.heap.size, 1, none⟩ = some (.int .i64 p.en) := HA2.cv 1 (.int .i64 p.en) rfl
  have B2 := B0.drew.trans (b3.mono B0.size)
  generalize w3 = w2 at *
  clear HA c0 c2 B0 b3 HA3 c3 c4 HQ
  go_wp2
  go_ret
  exact ⟨by unfold paRight; rw [HOK.out]; simp, B2⟩

theorem paRight_any (p : Pa) (w : World) : Calls Tryd.prog 26 #[.agg (paC p)] w fun e w' => e = .returned (.bool (paRight p)) ∧ Below w.heap.size w w' := by
  cases hp : p.pfc with
  | true => exact paRight_p p w hp
  | false =>
    cases ho : okP p with
    | true => exact paRight_y p w hp ho
    | false => exact paRight_n p w hp ho

end Go.Proofs.YtnldggbhhbndfaaDoor
