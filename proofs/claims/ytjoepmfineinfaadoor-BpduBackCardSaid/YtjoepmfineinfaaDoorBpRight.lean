/- bpdu.Right at every BPDU. -/
import Derived.Test.YtjoepmfineinfaaDoorBpBody
import Derived.Test.YtjoepmfineinfaaDoorBpOf
namespace Go.Proofs.YtjoepmfineinfaaDoor
open Go.RowKit
attribute [local go_sem ↓] Go.wp_at_zero Go.wp_at_succ
set_option linter.unusedSimpArgs false
set_option linter.unusedVariables false
set_option maxRecDepth 100000

set_option maxHeartbeats 3200000 in
theorem bpRight_any (b : Bp) (hr : rgBp b) (w : World) :
    Calls Tryd.prog 20 #[.agg (bpC b)] w fun e w' => e = .returned (.bool (okBp b)) ∧ Below w.heap.size w w' := by
  have HA := Blk.new w 52 (bpC b)
  have B0 : Below w.heap.size w (w.alloc (.cells (bpC b) 52)) := (Below.refl _ _).alloc (Nat.le_refl _) _
  have HB := Lib.hid (fun W => hasBody_any b hr W)
  have HF := Lib.hid (fun W => flags_any b.f W)
  have HC := Lib.hid (fun W => ofConfig_any b.f W)
  have HE : Hid (∀ W, (Op.equalIn 10000 46 (.agg (flC b.f)) (.agg (flC (cfF b.f)))).run Tryd.prog W = .ok (eqFl b.f (cfF b.f)) W) := fun W => run_eql_fl 9997 b.f (cfF b.f) W
  have HN : Hid (∀ W, (Op.equalIn 10000 52 (.agg (bpC b)) (.agg (bpC nBp))).run Tryd.prog W = .ok (eqBp b nBp) W) := fun W => run_eql_bp 9996 b nBp W
  have c0 := HA.cv 0 (.int .i64 b.k) rfl
  unfold okBp
  generalize okBd b = y at *
  generalize okF b.f = x at *
  generalize eqFl b.f (cfF b.f) = z at *
  generalize eqBp b nBp = u at *
  clear hr
  by_cases k1 : b.k = 1
  · have d1 : (b.k == 1) = true := by simpa using k1
    rw [if_pos k1]
    clear k1
    cases z with
    | true =>
      rw [Bool.true_and]
      go_enter Tryd.func20, Tryd.ntmps20
      go_upto_region 1 with (fail)
      generalize (w.alloc (.cells (bpC b) 52)) = w1 at *
      go_upto_region 3 with (fail)
      refine wp_region_noPanic ?_
      refine wp_region_held_drew (S := (fun w' => Blk w' w.heap.size 52 (bpC b))) (by kernel_rfl) ?_ (fun hHeld => ?_)
      · exact HA
      refine wpAnyH_take (i := 0) (v := ?_) rfl (by kernel_rfl) (by kernel_rfl) (by kernel_rfl) (fun _ _ _ h => h) (Or.inl ⟨by rfl, ?_⟩) (by assumption) ?_
      rotate_left
      · (intro w hSw; (try dsimp only at hSw); go_simp; (try with_reducible rfl))
      (try simp only [Act.put, List.getElem_toArray, List.getElem_cons_zero, List.getElem_cons_succ, List.setIfInBounds_toArray, List.set_cons_zero, List.set_cons_succ])
      refine wpAnyH_take (i := 1) (v := .agg (flC b.f)) rfl (by kernel_rfl) (by kernel_rfl) (by kernel_rfl) (fun _ _ _ h => h) (Or.inl ⟨by rfl, fun w hSw => exec_load_blk (k := 1) 46 (flC b.f) rfl rfl hSw (by kernel_rfl) (by kernel_rfl) rfl⟩) (by assumption) ?_
      (try simp only [Act.put, List.getElem_toArray, List.getElem_cons_zero, List.getElem_cons_succ, List.setIfInBounds_toArray, List.set_cons_zero, List.set_cons_succ])
      refine wpAnyH_take (i := 2) (v := ?_) rfl (by kernel_rfl) (by kernel_rfl) (by kernel_rfl) (fun _ _ _ h => h) (Or.inl ⟨by rfl, ?_⟩) (by assumption) ?_
      rotate_left
      · (intro w hSw; (try dsimp only at hSw); go_simp; (try with_reducible rfl))
      (try simp only [Act.put, List.getElem_toArray, List.getElem_cons_zero, List.getElem_cons_succ, List.setIfInBounds_toArray, List.set_cons_zero, List.set_cons_succ])
      refine wpAnyH_take (i := 3) (v := .agg (flC b.f)) rfl (by kernel_rfl) (by kernel_rfl) (by kernel_rfl) (fun _ _ _ h => h) (Or.inl ⟨by rfl, fun w hSw => exec_load_blk (k := 1) 46 (flC b.f) rfl rfl hSw (by kernel_rfl) (by kernel_rfl) rfl⟩) (by assumption) ?_
      (try simp only [Act.put, List.getElem_toArray, List.getElem_cons_zero, List.getElem_cons_succ, List.setIfInBounds_toArray, List.set_cons_zero, List.set_cons_succ])
      refine wpAnyH_ready (rs := [4]) (by kernel_rfl) (by simp) ?_
      refine AllReadyH.cons rfl (fun K hK => ?_) AllReadyH.nil
      simp only [List.getElem_toArray, List.getElem_cons_zero, List.getElem_cons_succ]
      go_simp
      with_reducible refine (HC.out _).mono ?_
      rintro e w2 ⟨rfl, k2⟩
      have HA2 := HA.drew.kept k2
      have B2 := B0.drew.trans (k2.mono B0.size)
      refine hK.out _ _ ?_ (fun hHeld => ?_)
      · exact HA2
      clear hK K
      (try simp only [Act.put, List.getElem_toArray, List.getElem_cons_zero, List.getElem_cons_succ, List.setIfInBounds_toArray, List.set_cons_zero, List.set_cons_succ])
      refine wpAnyH_take (i := 5) (v := .bool true) rfl (by kernel_rfl) (by kernel_rfl) (by kernel_rfl) (fun _ _ _ h => h) (Or.inl ⟨by rfl, fun w hSw => exec_eq_agg .eql 46 (flC b.f) (flC (cfF b.f)) true rfl (Or.inl rfl) rfl rfl (by kernel_rfl) (HE.out w)⟩) (by assumption) ?_
      (try simp only [Act.put, List.getElem_toArray, List.getElem_cons_zero, List.getElem_cons_succ, List.setIfInBounds_toArray, List.set_cons_zero, List.set_cons_succ])
      refine wpAnyH_take (i := 6) (v := ?_) rfl (by kernel_rfl) (by kernel_rfl) (by kernel_rfl) (fun _ _ _ h => h) (Or.inl ⟨by rfl, ?_⟩) (by assumption) ?_
      rotate_left
      · (intro w hSw; (try dsimp only at hSw); go_simp; (try with_reducible rfl))
      (try simp only [Act.put, List.getElem_toArray, List.getElem_cons_zero, List.getElem_cons_succ, List.setIfInBounds_toArray, List.set_cons_zero, List.set_cons_succ])
      refine wpAnyH_take (i := 7) (v := .agg (bpC b)) rfl (by kernel_rfl) (by kernel_rfl) (by kernel_rfl) (fun _ _ _ h => h) (Or.inl ⟨by rfl, fun w hSw => exec_load_blk (k := 0) 52 (bpC b) rfl rfl hSw (by kernel_rfl) (by kernel_rfl) rfl⟩) (by assumption) ?_
      (try simp only [Act.put, List.getElem_toArray, List.getElem_cons_zero, List.getElem_cons_succ, List.setIfInBounds_toArray, List.set_cons_zero, List.set_cons_succ])
      refine wpAnyH_ready (rs := [8]) (by kernel_rfl) (by simp) ?_
      refine AllReadyH.cons rfl (fun K hK => ?_) AllReadyH.nil
      simp only [List.getElem_toArray, List.getElem_cons_zero, List.getElem_cons_succ]
      go_simp
      with_reducible refine (HB.out _).mono ?_
      rintro e w3 ⟨rfl, k3⟩
      have HA3 := HA2.kept k3
      have B3 := B2.trans (k3.mono B2.size)
      refine hK.out _ _ ?_ (fun hHeld => ?_)
      · exact HA3
      clear hK K
      (try simp only [Act.put, List.getElem_toArray, List.getElem_cons_zero, List.getElem_cons_succ, List.setIfInBounds_toArray, List.set_cons_zero, List.set_cons_succ])
      refine wpAnyH_take (i := 9) (v := ?_) rfl (by kernel_rfl) (by kernel_rfl) (by kernel_rfl) (fun _ _ _ h => h) (Or.inl ⟨by rfl, ?_⟩) (by assumption) ?_
      rotate_left
      · (intro w hSw; (try dsimp only at hSw); go_simp; (try with_reducible rfl))
      (try simp only [Act.put, List.getElem_toArray, List.getElem_cons_zero, List.getElem_cons_succ, List.setIfInBounds_toArray, List.set_cons_zero, List.set_cons_succ])
      refine wpAnyH_take (i := 10) (v := ?_) rfl (by kernel_rfl) (by kernel_rfl) (by kernel_rfl) (fun _ _ _ h => h) (Or.inl ⟨by rfl, ?_⟩) (by assumption) ?_
      rotate_left
      · (intro w hSw; (try dsimp only at hSw); go_simp; (try with_reducible rfl))
      (try simp only [Act.put, List.getElem_toArray, List.getElem_cons_zero, List.getElem_cons_succ, List.setIfInBounds_toArray, List.set_cons_zero, List.set_cons_succ])
      refine wpAnyH_done (by kernel_rfl) ?_ _
      refine NoPanic.normal ?_
      go_wp2
      go_ret
      exact ⟨rfl, B3⟩
    | false =>
      rw [Bool.false_and]
      go_enter Tryd.func20, Tryd.ntmps20
      go_upto_region 1 with (fail)
      generalize (w.alloc (.cells (bpC b) 52)) = w1 at *
      go_upto_region 3 with (fail)
      refine wp_region_noPanic ?_
      refine wp_region_held_drew (S := (fun w' => Blk w' w.heap.size 52 (bpC b))) (by kernel_rfl) ?_ (fun hHeld => ?_)
      · exact HA
      refine wpAnyH_take (i := 0) (v := ?_) rfl (by kernel_rfl) (by kernel_rfl) (by kernel_rfl) (fun _ _ _ h => h) (Or.inl ⟨by rfl, ?_⟩) (by assumption) ?_
      rotate_left
      · (intro w hSw; (try dsimp only at hSw); go_simp; (try with_reducible rfl))
      (try simp only [Act.put, List.getElem_toArray, List.getElem_cons_zero, List.getElem_cons_succ, List.setIfInBounds_toArray, List.set_cons_zero, List.set_cons_succ])
      refine wpAnyH_take (i := 1) (v := .agg (flC b.f)) rfl (by kernel_rfl) (by kernel_rfl) (by kernel_rfl) (fun _ _ _ h => h) (Or.inl ⟨by rfl, fun w hSw => exec_load_blk (k := 1) 46 (flC b.f) rfl rfl hSw (by kernel_rfl) (by kernel_rfl) rfl⟩) (by assumption) ?_
      (try simp only [Act.put, List.getElem_toArray, List.getElem_cons_zero, List.getElem_cons_succ, List.setIfInBounds_toArray, List.set_cons_zero, List.set_cons_succ])
      refine wpAnyH_take (i := 2) (v := ?_) rfl (by kernel_rfl) (by kernel_rfl) (by kernel_rfl) (fun _ _ _ h => h) (Or.inl ⟨by rfl, ?_⟩) (by assumption) ?_
      rotate_left
      · (intro w hSw; (try dsimp only at hSw); go_simp; (try with_reducible rfl))
      (try simp only [Act.put, List.getElem_toArray, List.getElem_cons_zero, List.getElem_cons_succ, List.setIfInBounds_toArray, List.set_cons_zero, List.set_cons_succ])
      refine wpAnyH_take (i := 3) (v := .agg (flC b.f)) rfl (by kernel_rfl) (by kernel_rfl) (by kernel_rfl) (fun _ _ _ h => h) (Or.inl ⟨by rfl, fun w hSw => exec_load_blk (k := 1) 46 (flC b.f) rfl rfl hSw (by kernel_rfl) (by kernel_rfl) rfl⟩) (by assumption) ?_
      (try simp only [Act.put, List.getElem_toArray, List.getElem_cons_zero, List.getElem_cons_succ, List.setIfInBounds_toArray, List.set_cons_zero, List.set_cons_succ])
      refine wpAnyH_ready (rs := [4]) (by kernel_rfl) (by simp) ?_
      refine AllReadyH.cons rfl (fun K hK => ?_) AllReadyH.nil
      simp only [List.getElem_toArray, List.getElem_cons_zero, List.getElem_cons_succ]
      go_simp
      with_reducible refine (HC.out _).mono ?_
      rintro e w2 ⟨rfl, k2⟩
      have HA2 := HA.drew.kept k2
      have B2 := B0.drew.trans (k2.mono B0.size)
      refine hK.out _ _ ?_ (fun hHeld => ?_)
      · exact HA2
      clear hK K
      (try simp only [Act.put, List.getElem_toArray, List.getElem_cons_zero, List.getElem_cons_succ, List.setIfInBounds_toArray, List.set_cons_zero, List.set_cons_succ])
      refine wpAnyH_take (i := 5) (v := .bool false) rfl (by kernel_rfl) (by kernel_rfl) (by kernel_rfl) (fun _ _ _ h => h) (Or.inl ⟨by rfl, fun w hSw => exec_eq_agg .eql 46 (flC b.f) (flC (cfF b.f)) false rfl (Or.inl rfl) rfl rfl (by kernel_rfl) (HE.out w)⟩) (by assumption) ?_
      (try simp only [Act.put, List.getElem_toArray, List.getElem_cons_zero, List.getElem_cons_succ, List.setIfInBounds_toArray, List.set_cons_zero, List.set_cons_succ])
      refine wpAnyH_take (i := 6) (v := ?_) rfl (by kernel_rfl) (by kernel_rfl) (by kernel_rfl) (fun _ _ _ h => h) (Or.inl ⟨by rfl, ?_⟩) (by assumption) ?_
      rotate_left
      · (intro w hSw; (try dsimp only at hSw); go_simp; (try with_reducible rfl))
      (try simp only [Act.put, List.getElem_toArray, List.getElem_cons_zero, List.getElem_cons_succ, List.setIfInBounds_toArray, List.set_cons_zero, List.set_cons_succ])
      refine wpAnyH_take (i := 7) (v := undef) rfl (by kernel_rfl) (by kernel_rfl) (by kernel_rfl) (fun _ _ _ h => h) (Or.inr ⟨by rfl, rfl⟩) (by assumption) ?_
      (try simp only [Act.put, List.getElem_toArray, List.getElem_cons_zero, List.getElem_cons_succ, List.setIfInBounds_toArray, List.set_cons_zero, List.set_cons_succ])
      refine wpAnyH_take (i := 8) (v := undef) rfl (by kernel_rfl) (by kernel_rfl) (by kernel_rfl) (fun _ _ _ h => h) (Or.inr ⟨by rfl, rfl⟩) (by assumption) ?_
      (try simp only [Act.put, List.getElem_toArray, List.getElem_cons_zero, List.getElem_cons_succ, List.setIfInBounds_toArray, List.set_cons_zero, List.set_cons_succ])
      refine wpAnyH_take (i := 9) (v := ?_) rfl (by kernel_rfl) (by kernel_rfl) (by kernel_rfl) (fun _ _ _ h => h) (Or.inl ⟨by rfl, ?_⟩) (by assumption) ?_
      rotate_left
      · (intro w hSw; (try dsimp only at hSw); go_simp; (try with_reducible rfl))
      (try simp only [Act.put, List.getElem_toArray, List.getElem_cons_zero, List.getElem_cons_succ, List.setIfInBounds_toArray, List.set_cons_zero, List.set_cons_succ])
      refine wpAnyH_take (i := 10) (v := ?_) rfl (by kernel_rfl) (by kernel_rfl) (by kernel_rfl) (fun _ _ _ h => h) (Or.inl ⟨by rfl, ?_⟩) (by assumption) ?_
      rotate_left
      · (intro w hSw; (try dsimp only at hSw); go_simp; (try with_reducible rfl))
      (try simp only [Act.put, List.getElem_toArray, List.getElem_cons_zero, List.getElem_cons_succ, List.setIfInBounds_toArray, List.set_cons_zero, List.set_cons_succ])
      refine wpAnyH_done (by kernel_rfl) ?_ _
      refine NoPanic.normal ?_
      go_wp2
      go_ret
      exact ⟨rfl, B2⟩
  · have d1 : (b.k == 1) = false := by simpa using k1
    rw [if_neg k1]
    by_cases k2 : b.k = 2
    · have d2 : (b.k == 2) = true := by simpa using k2
      rw [if_pos k2]
      clear k1 k2
      go_enter Tryd.func20, Tryd.ntmps20
      go_upto_region 1 with (fail)
      generalize (w.alloc (.cells (bpC b) 52)) = w1 at *
      go_wp2_with (first | (refine load_blk (k := 0) 52 (bpC b) (by rfl) rfl rfl HA (by kernel_rfl) (by kernel_rfl) rfl ?_) | (refine build_blk (t := 52) (bpC nBp) (by rfl) rfl (by kernel_rfl) ?_) | (refine eq_blk .eql 52 (bpC b) (bpC nBp) u (by rfl) rfl (Or.inl rfl) rfl rfl (by kernel_rfl) (HN.out _) ?_))
      go_ret
      exact ⟨rfl, B0⟩
    · have d2 : (b.k == 2) = false := by simpa using k2
      rw [if_neg k2]
      by_cases k3 : b.k = 3
      · have d3 : (b.k == 3) = true := by simpa using k3
        rw [if_pos k3]
        clear k1 k2 k3
        cases x with
        | true =>
          rw [Bool.true_and]
          go_enter Tryd.func20, Tryd.ntmps20
          go_upto_region 1 with (fail)
          generalize (w.alloc (.cells (bpC b) 52)) = w1 at *
          go_wp2_with (refine load_blk (k := 1) 46 (flC b.f) (by rfl) rfl rfl HA (by kernel_rfl) (by kernel_rfl) rfl ?_)
          refine (HF.out _).mono ?_
          rintro e w2 ⟨rfl, k2⟩
          have HA2 := HA.kept k2
          have B2 := B0.trans (k2.mono B0.size)
          go_wp2_with (refine load_blk (k := 0) 52 (bpC b) (by rfl) rfl rfl HA2 (by kernel_rfl) (by kernel_rfl) rfl ?_)
          refine (HB.out _).mono ?_
          rintro e w3 ⟨rfl, k3⟩
          have B3 := B2.trans (k3.mono B2.size)
          go_wp2
          go_ret
          exact ⟨rfl, B3⟩
        | false =>
          rw [Bool.false_and]
          go_enter Tryd.func20, Tryd.ntmps20
          go_upto_region 1 with (fail)
          generalize (w.alloc (.cells (bpC b) 52)) = w1 at *
          go_wp2_with (refine load_blk (k := 1) 46 (flC b.f) (by rfl) rfl rfl HA (by kernel_rfl) (by kernel_rfl) rfl ?_)
          refine (HF.out _).mono ?_
          rintro e w2 ⟨rfl, k2⟩
          have B2 := B0.trans (k2.mono B0.size)
          go_wp2
          go_ret
          exact ⟨rfl, B2⟩
      · have d3 : (b.k == 3) = false := by simpa using k3
        rw [if_neg k3]
        clear k1 k2 k3
        go_enter Tryd.func20, Tryd.ntmps20
        go_upto_region 1 with (fail)
        generalize (w.alloc (.cells (bpC b) 52)) = w1 at *
        go_wp2
        go_ret
        exact ⟨rfl, B0⟩

end Go.Proofs.YtjoepmfineinfaaDoor
