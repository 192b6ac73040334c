/- switchyardkeep.PrioLine returns true at every three vectors, and changes nothing that was there. -/
import Derived.Test.YtceiiolpggolbaaDoorNamed
namespace Go.Proofs.YtceiiolpggolbaaDoor.prioLine
open Go.RowKit
attribute [local go_sem ↓] Go.wp_at_zero Go.wp_at_succ
set_option linter.unusedSimpArgs false
set_option linter.unusedVariables false
set_option maxRecDepth 100000

/-- The arguments' own variables. -/
def Three (w : World) (k : Nat) (a b c : Ve) : Prop := Blk w k 62 (veC a) ∧ Blk w (k + 1) 62 (veC b) ∧ Blk w (k + 2) 62 (veC c)
theorem Three.kept {w w' : World} {k : Nat} {a b c : Ve} (h : Three w k a b c) (hb : Below w.heap.size w w') : Three w' k a b c := ⟨h.1.kept hb, h.2.1.kept hb, h.2.2.kept hb⟩
theorem Three.drew {w : World} {k : Nat} {a b c : Ve} (h : Three w k a b c) : Three w.drew k a b c := h

set_option maxHeartbeats 6400000 in
theorem walk (a : Ve) (xa : byV a) (b : Ve) (xb : byV b) (c : Ve) (xc : byV c) (w : World) (hL : HasLib w) :
    Calls Tryd.prog 8 #[.agg (veC a), .agg (veC b), .agg (veC c)] w fun e w' => e = .returned (.bool true) ∧ Below w.heap.size w w' := by
  have F0 : Three (((w.alloc (.cells (veC a) 62)).alloc (.cells (veC b) 62)).alloc (.cells (veC c) 62)) w.heap.size a b c := by
    obtain ⟨HA0, HB0, B0⟩ := two_blks w 62 62 (veC a) (veC b)
    have HC0 := Blk.new ((w.alloc (.cells (veC a) 62)).alloc (.cells (veC b) 62)) 62 (veC c)
    rw [show ((w.alloc (.cells (veC a) 62)).alloc (.cells (veC b) 62)).heap.size = w.heap.size + 2 by simp] at HC0
    exact ⟨HA0.alloc _, HB0.alloc _, HC0⟩
  have B0 : Below w.heap.size w (((w.alloc (.cells (veC a) 62)).alloc (.cells (veC b) 62)).alloc (.cells (veC c) 62)) :=
    (((Below.refl _ _).alloc (Nat.le_refl _) _).alloc (by simp) _).alloc (by simp; omega) _
  have HN := Lib.hid (fun W (h : HasLib W) => named_any W h)
  have P1 := Lib.hid (fun W => better_any a b xa xb W)
  have P2 := Lib.hid (fun W => better_any b a xb xa W)
  have P3 := Lib.hid (fun W => better_any b c xb xc W)
  have P4 := Lib.hid (fun W => better_any a c xa xc W)
  have r1 := fun W => run_eql_ve 9996 a b W
  have hcase : (bettV a b = true ∧ bettV b a = false ∧ eqV a b = false) ∨ (bettV a b = false ∧ bettV b a = true ∧ eqV a b = false) ∨ (bettV a b = false ∧ bettV b a = false ∧ eqV a b = true) := by
    rw [eqV_iff]
    by_cases e : lineV a = lineV b
    · refine Or.inr (Or.inr ⟨?_, ?_, decide_eq_true e⟩)
      · unfold bettV; rw [e, cmpL_self]; rfl
      · unfold bettV; rw [e, cmpL_self]; rfl
    · rcases bettV_tot e with q | q
      · exact Or.inl ⟨q, bettV_asym q, decide_eq_false e⟩
      · exact Or.inr (Or.inl ⟨bettV_asym q, q, decide_eq_false e⟩)
  have htr : bettV a b = true → bettV b c = true → bettV a c = true := fun h h' => bettV_trans h h'
  generalize bettV a b = x at *
  generalize bettV b a = y at *
  generalize bettV b c = z at *
  generalize bettV a c = t at *
  generalize eqV a b = q at *
  rcases hcase with ⟨rfl, rfl, rfl⟩ | ⟨rfl, rfl, rfl⟩ | ⟨rfl, rfl, rfl⟩
  · cases z with
    | false =>
      go_enter Tryd.func8, Tryd.ntmps8
      go_upto_region 1 with (fail)
      generalize ((w.alloc (.cells (veC a) 62)).alloc (.cells (veC b) 62)).alloc (.cells (veC c) 62) = w0 at *
      go_wp2_with fail
      refine (HN.out _ (hL.below B0)).mono ?_
      rintro e w1 ⟨rfl, k1⟩
      have F1 := F0.kept k1
      have B1 := B0.trans (k1.mono B0.size)
      clear F0 B0 k1
      go_upto_region 3 with (fail)
      refine wp_region_noPanic ?_
      refine wp_region_held_drew (S := (fun w' => Three w' w.heap.size a b c)) (by kernel_rfl) ?_ (fun hHeld => ?_)
      · exact F1
      refine wpAnyH_take (i := 0) (v := .agg (veC a)) rfl (by kernel_rfl) (by kernel_rfl) (by kernel_rfl) (fun _ _ _ h => h) (Or.inl ⟨by rfl, fun w hSw => exec_load_blk (k := 0) 62 (veC a) rfl rfl hSw.1 (by kernel_rfl) (by kernel_rfl) rfl⟩) (by assumption) ?_
      (try simp only [Act.put, List.getElem_toArray, List.getElem_cons_zero, List.getElem_cons_succ, List.setIfInBounds_toArray, List.set_cons_zero, List.set_cons_succ])
      refine wpAnyH_take (i := 1) (v := .agg (veC b)) rfl (by kernel_rfl) (by kernel_rfl) (by kernel_rfl) (fun _ _ _ h => h) (Or.inl ⟨by rfl, fun w hSw => exec_load_blk (k := 0) 62 (veC b) rfl rfl hSw.2.1 (by kernel_rfl) (by kernel_rfl) rfl⟩) (by assumption) ?_
      (try simp only [Act.put, List.getElem_toArray, List.getElem_cons_zero, List.getElem_cons_succ, List.setIfInBounds_toArray, List.set_cons_zero, List.set_cons_succ])
      refine wpAnyH_take (i := 3) (v := .agg (veC b)) rfl (by kernel_rfl) (by kernel_rfl) (by kernel_rfl) (fun _ _ _ h => h) (Or.inl ⟨by rfl, fun w hSw => exec_load_blk (k := 0) 62 (veC b) rfl rfl hSw.2.1 (by kernel_rfl) (by kernel_rfl) rfl⟩) (by assumption) ?_
      (try simp only [Act.put, List.getElem_toArray, List.getElem_cons_zero, List.getElem_cons_succ, List.setIfInBounds_toArray, List.set_cons_zero, List.set_cons_succ])
      refine wpAnyH_take (i := 4) (v := .agg (veC a)) rfl (by kernel_rfl) (by kernel_rfl) (by kernel_rfl) (fun _ _ _ h => h) (Or.inl ⟨by rfl, fun w hSw => exec_load_blk (k := 0) 62 (veC a) rfl rfl hSw.1 (by kernel_rfl) (by kernel_rfl) rfl⟩) (by assumption) ?_
      (try simp only [Act.put, List.getElem_toArray, List.getElem_cons_zero, List.getElem_cons_succ, List.setIfInBounds_toArray, List.set_cons_zero, List.set_cons_succ])
      refine wpAnyH_ready (rs := [2]) (by kernel_rfl) (by simp) ?_
      refine AllReadyH.cons rfl (fun K hK => ?_) AllReadyH.nil
      simp only [List.getElem_toArray, List.getElem_cons_zero, List.getElem_cons_succ]
      go_simp
      with_reducible refine (P1.out _).mono ?_
      rintro e w2 ⟨rfl, k2⟩
      have F2 := F1.drew.kept k2
      have B2 := B1.drew.trans (k2.mono B1.size)
      refine hK.out _ _ ?_ (fun hHeld => ?_)
      · exact F2
      clear hK K
      (try simp only [Act.put, List.getElem_toArray, List.getElem_cons_zero, List.getElem_cons_succ, List.setIfInBounds_toArray, List.set_cons_zero, List.set_cons_succ])
      refine wpAnyH_ready (rs := [5]) (by kernel_rfl) (by simp) ?_
      refine AllReadyH.cons rfl (fun K hK => ?_) AllReadyH.nil
      simp only [List.getElem_toArray, List.getElem_cons_zero, List.getElem_cons_succ]
      go_simp
      with_reducible refine (P2.out _).mono ?_
      rintro e w3 ⟨rfl, k3⟩
      have F3 := F2.kept k3
      have B3 := B2.trans (k3.mono B2.size)
      refine hK.out _ _ ?_ (fun hHeld => ?_)
      · exact F3
      clear hK K
      (try simp only [Act.put, List.getElem_toArray, List.getElem_cons_zero, List.getElem_cons_succ, List.setIfInBounds_toArray, List.set_cons_zero, List.set_cons_succ])
      refine wpAnyH_take (i := 6) (v := ?_) rfl (by kernel_rfl) (by kernel_rfl) (by kernel_rfl) (fun _ _ _ h => h) (Or.inl ⟨by rfl, ?_⟩) (by assumption) ?_
      rotate_left
      · (intro w hSw; (try dsimp only at hSw); go_simp; (try with_reducible rfl))
      (try simp only [Act.put, List.getElem_toArray, List.getElem_cons_zero, List.getElem_cons_succ, List.setIfInBounds_toArray, List.set_cons_zero, List.set_cons_succ])
      refine wpAnyH_take (i := 7) (v := ?_) rfl (by kernel_rfl) (by kernel_rfl) (by kernel_rfl) (fun _ _ _ h => h) (Or.inl ⟨by rfl, ?_⟩) (by assumption) ?_
      rotate_left
      · (intro w hSw; (try dsimp only at hSw); go_simp; (try with_reducible rfl))
      (try simp only [Act.put, List.getElem_toArray, List.getElem_cons_zero, List.getElem_cons_succ, List.setIfInBounds_toArray, List.set_cons_zero, List.set_cons_succ])
      refine wpAnyH_done (by kernel_rfl) ?_ _
      refine NoPanic.normal ?_
      go_wp2_with (first
        | (refine load_blk (k := 0) 62 (veC a) (by rfl) rfl rfl F3.1 (by kernel_rfl) (by kernel_rfl) rfl ?_)
        | (refine load_blk (k := 0) 62 (veC b) (by rfl) rfl rfl F3.2.1 (by kernel_rfl) (by kernel_rfl) rfl ?_)
        | (refine load_blk (k := 0) 62 (veC c) (by rfl) rfl rfl F3.2.2 (by kernel_rfl) (by kernel_rfl) rfl ?_)
        | (refine eq_blk .neq 62 (veC a) (veC b) false (by rfl) rfl (Or.inr rfl) rfl rfl (by kernel_rfl) (r1 _) ?_))
      refine (P3.out _).mono ?_
      rintro e w4 ⟨rfl, k4⟩
      have F4 := F3.kept k4
      have B4 := B3.trans (k4.mono B3.size)
      go_wp2_with (first
        | (refine load_blk (k := 0) 62 (veC a) (by rfl) rfl rfl F4.1 (by kernel_rfl) (by kernel_rfl) rfl ?_)
        | (refine load_blk (k := 0) 62 (veC b) (by rfl) rfl rfl F4.2.1 (by kernel_rfl) (by kernel_rfl) rfl ?_)
        | (refine load_blk (k := 0) 62 (veC c) (by rfl) rfl rfl F4.2.2 (by kernel_rfl) (by kernel_rfl) rfl ?_)
        | (refine eq_blk .neq 62 (veC a) (veC b) false (by rfl) rfl (Or.inr rfl) rfl rfl (by kernel_rfl) (r1 _) ?_))
      go_ret
      exact ⟨rfl, B4⟩
    | true =>
      obtain rfl := htr rfl rfl
      go_enter Tryd.func8, Tryd.ntmps8
      go_upto_region 1 with (fail)
      generalize ((w.alloc (.cells (veC a) 62)).alloc (.cells (veC b) 62)).alloc (.cells (veC c) 62) = w0 at *
      go_wp2_with fail
      refine (HN.out _ (hL.below B0)).mono ?_
      rintro e w1 ⟨rfl, k1⟩
      have F1 := F0.kept k1
      have B1 := B0.trans (k1.mono B0.size)
      clear F0 B0 k1
      go_upto_region 3 with (fail)
      refine wp_region_noPanic ?_
      refine wp_region_held_drew (S := (fun w' => Three w' w.heap.size a b c)) (by kernel_rfl) ?_ (fun hHeld => ?_)
      · exact F1
      refine wpAnyH_take (i := 0) (v := .agg (veC a)) rfl (by kernel_rfl) (by kernel_rfl) (by kernel_rfl) (fun _ _ _ h => h) (Or.inl ⟨by rfl, fun w hSw => exec_load_blk (k := 0) 62 (veC a) rfl rfl hSw.1 (by kernel_rfl) (by kernel_rfl) rfl⟩) (by assumption) ?_
      (try simp only [Act.put, List.getElem_toArray, List.getElem_cons_zero, List.getElem_cons_succ, List.setIfInBounds_toArray, List.set_cons_zero, List.set_cons_succ])
      refine wpAnyH_take (i := 1) (v := .agg (veC b)) rfl (by kernel_rfl) (by kernel_rfl) (by kernel_rfl) (fun _ _ _ h => h) (Or.inl ⟨by rfl, fun w hSw => exec_load_blk (k := 0) 62 (veC b) rfl rfl hSw.2.1 (by kernel_rfl) (by kernel_rfl) rfl⟩) (by assumption) ?_
      (try simp only [Act.put, List.getElem_toArray, List.getElem_cons_zero, List.getElem_cons_succ, List.setIfInBounds_toArray, List.set_cons_zero, List.set_cons_succ])
      refine wpAnyH_take (i := 3) (v := .agg (veC b)) rfl (by kernel_rfl) (by kernel_rfl) (by kernel_rfl) (fun _ _ _ h => h) (Or.inl ⟨by rfl, fun w hSw => exec_load_blk (k := 0) 62 (veC b) rfl rfl hSw.2.1 (by kernel_rfl) (by kernel_rfl) rfl⟩) (by assumption) ?_
      (try simp only [Act.put, List.getElem_toArray, List.getElem_cons_zero, List.getElem_cons_succ, List.setIfInBounds_toArray, List.set_cons_zero, List.set_cons_succ])
      refine wpAnyH_take (i := 4) (v := .agg (veC a)) rfl (by kernel_rfl) (by kernel_rfl) (by kernel_rfl) (fun _ _ _ h => h) (Or.inl ⟨by rfl, fun w hSw => exec_load_blk (k := 0) 62 (veC a) rfl rfl hSw.1 (by kernel_rfl) (by kernel_rfl) rfl⟩) (by assumption) ?_
      (try simp only [Act.put, List.getElem_toArray, List.getElem_cons_zero, List.getElem_cons_succ, List.setIfInBounds_toArray, List.set_cons_zero, List.set_cons_succ])
      refine wpAnyH_ready (rs := [2]) (by kernel_rfl) (by simp) ?_
      refine AllReadyH.cons rfl (fun K hK => ?_) AllReadyH.nil
      simp only [List.getElem_toArray, List.getElem_cons_zero, List.getElem_cons_succ]
      go_simp
      with_reducible refine (P1.out _).mono ?_
      rintro e w2 ⟨rfl, k2⟩
      have F2 := F1.drew.kept k2
      have B2 := B1.drew.trans (k2.mono B1.size)
      refine hK.out _ _ ?_ (fun hHeld => ?_)
      · exact F2
      clear hK K
      (try simp only [Act.put, List.getElem_toArray, List.getElem_cons_zero, List.getElem_cons_succ, List.setIfInBounds_toArray, List.set_cons_zero, List.set_cons_succ])
      refine wpAnyH_ready (rs := [5]) (by kernel_rfl) (by simp) ?_
      refine AllReadyH.cons rfl (fun K hK => ?_) AllReadyH.nil
      simp only [List.getElem_toArray, List.getElem_cons_zero, List.getElem_cons_succ]
      go_simp
      with_reducible refine (P2.out _).mono ?_
      rintro e w3 ⟨rfl, k3⟩
      have F3 := F2.kept k3
      have B3 := B2.trans (k3.mono B2.size)
      refine hK.out _ _ ?_ (fun hHeld => ?_)
      · exact F3
      clear hK K
      (try simp only [Act.put, List.getElem_toArray, List.getElem_cons_zero, List.getElem_cons_succ, List.setIfInBounds_toArray, List.set_cons_zero, List.set_cons_succ])
      refine wpAnyH_take (i := 6) (v := ?_) rfl (by kernel_rfl) (by kernel_rfl) (by kernel_rfl) (fun _ _ _ h => h) (Or.inl ⟨by rfl, ?_⟩) (by assumption) ?_
      rotate_left
      · (intro w hSw; (try dsimp only at hSw); go_simp; (try with_reducible rfl))
      (try simp only [Act.put, List.getElem_toArray, List.getElem_cons_zero, List.getElem_cons_succ, List.setIfInBounds_toArray, List.set_cons_zero, List.set_cons_succ])
      refine wpAnyH_take (i := 7) (v := ?_) rfl (by kernel_rfl) (by kernel_rfl) (by kernel_rfl) (fun _ _ _ h => h) (Or.inl ⟨by rfl, ?_⟩) (by assumption) ?_
      rotate_left
      · (intro w hSw; (try dsimp only at hSw); go_simp; (try with_reducible rfl))
      (try simp only [Act.put, List.getElem_toArray, List.getElem_cons_zero, List.getElem_cons_succ, List.setIfInBounds_toArray, List.set_cons_zero, List.set_cons_succ])
      refine wpAnyH_done (by kernel_rfl) ?_ _
      refine NoPanic.normal ?_
      go_wp2_with (first
        | (refine load_blk (k := 0) 62 (veC a) (by rfl) rfl rfl F3.1 (by kernel_rfl) (by kernel_rfl) rfl ?_)
        | (refine load_blk (k := 0) 62 (veC b) (by rfl) rfl rfl F3.2.1 (by kernel_rfl) (by kernel_rfl) rfl ?_)
        | (refine load_blk (k := 0) 62 (veC c) (by rfl) rfl rfl F3.2.2 (by kernel_rfl) (by kernel_rfl) rfl ?_)
        | (refine eq_blk .neq 62 (veC a) (veC b) false (by rfl) rfl (Or.inr rfl) rfl rfl (by kernel_rfl) (r1 _) ?_))
      refine (P3.out _).mono ?_
      rintro e w4 ⟨rfl, k4⟩
      have F4 := F3.kept k4
      have B4 := B3.trans (k4.mono B3.size)
      go_wp2_with (first
        | (refine load_blk (k := 0) 62 (veC a) (by rfl) rfl rfl F4.1 (by kernel_rfl) (by kernel_rfl) rfl ?_)
        | (refine load_blk (k := 0) 62 (veC b) (by rfl) rfl rfl F4.2.1 (by kernel_rfl) (by kernel_rfl) rfl ?_)
        | (refine load_blk (k := 0) 62 (veC c) (by rfl) rfl rfl F4.2.2 (by kernel_rfl) (by kernel_rfl) rfl ?_)
        | (refine eq_blk .neq 62 (veC a) (veC b) false (by rfl) rfl (Or.inr rfl) rfl rfl (by kernel_rfl) (r1 _) ?_))
      refine (P4.out _).mono ?_
      rintro e w5 ⟨rfl, k5⟩
      have F5 := F4.kept k5
      have B5 := B4.trans (k5.mono B4.size)
      go_wp2
      go_ret
      exact ⟨rfl, B5⟩
  · go_enter Tryd.func8, Tryd.ntmps8
    go_upto_region 1 with (fail)
    generalize ((w.alloc (.cells (veC a) 62)).alloc (.cells (veC b) 62)).alloc (.cells (veC c) 62) = w0 at *
    go_wp2_with fail
    refine (HN.out _ (hL.below B0)).mono ?_
    rintro e w1 ⟨rfl, k1⟩
    have F1 := F0.kept k1
    have B1 := B0.trans (k1.mono B0.size)
    clear F0 B0 k1
    go_upto_region 3 with (fail)
    refine wp_region_noPanic ?_
    refine wp_region_held_drew (S := (fun w' => Three w' w.heap.size a b c)) (by kernel_rfl) ?_ (fun hHeld => ?_)
    · exact F1
    refine wpAnyH_take (i := 0) (v := .agg (veC a)) rfl (by kernel_rfl) (by kernel_rfl) (by kernel_rfl) (fun _ _ _ h => h) (Or.inl ⟨by rfl, fun w hSw => exec_load_blk (k := 0) 62 (veC a) rfl rfl hSw.1 (by kernel_rfl) (by kernel_rfl) rfl⟩) (by assumption) ?_
    (try simp only [Act.put, List.getElem_toArray, List.getElem_cons_zero, List.getElem_cons_succ, List.setIfInBounds_toArray, List.set_cons_zero, List.set_cons_succ])
    refine wpAnyH_take (i := 1) (v := .agg (veC b)) rfl (by kernel_rfl) (by kernel_rfl) (by kernel_rfl) (fun _ _ _ h => h) (Or.inl ⟨by rfl, fun w hSw => exec_load_blk (k := 0) 62 (veC b) rfl rfl hSw.2.1 (by kernel_rfl) (by kernel_rfl) rfl⟩) (by assumption) ?_
    (try simp only [Act.put, List.getElem_toArray, List.getElem_cons_zero, List.getElem_cons_succ, List.setIfInBounds_toArray, List.set_cons_zero, List.set_cons_succ])
    refine wpAnyH_take (i := 3) (v := .agg (veC b)) rfl (by kernel_rfl) (by kernel_rfl) (by kernel_rfl) (fun _ _ _ h => h) (Or.inl ⟨by rfl, fun w hSw => exec_load_blk (k := 0) 62 (veC b) rfl rfl hSw.2.1 (by kernel_rfl) (by kernel_rfl) rfl⟩) (by assumption) ?_
    (try simp only [Act.put, List.getElem_toArray, List.getElem_cons_zero, List.getElem_cons_succ, List.setIfInBounds_toArray, List.set_cons_zero, List.set_cons_succ])
    refine wpAnyH_take (i := 4) (v := .agg (veC a)) rfl (by kernel_rfl) (by kernel_rfl) (by kernel_rfl) (fun _ _ _ h => h) (Or.inl ⟨by rfl, fun w hSw => exec_load_blk (k := 0) 62 (veC a) rfl rfl hSw.1 (by kernel_rfl) (by kernel_rfl) rfl⟩) (by assumption) ?_
    (try simp only [Act.put, List.getElem_toArray, List.getElem_cons_zero, List.getElem_cons_succ, List.setIfInBounds_toArray, List.set_cons_zero, List.set_cons_succ])
    refine wpAnyH_ready (rs := [2]) (by kernel_rfl) (by simp) ?_
    refine AllReadyH.cons rfl (fun K hK => ?_) AllReadyH.nil
    simp only [List.getElem_toArray, List.getElem_cons_zero, List.getElem_cons_succ]
    go_simp
    with_reducible refine (P1.out _).mono ?_
    rintro e w2 ⟨rfl, k2⟩
    have F2 := F1.drew.kept k2
    have B2 := B1.drew.trans (k2.mono B1.size)
    refine hK.out _ _ ?_ (fun hHeld => ?_)
    · exact F2
    clear hK K
    (try simp only [Act.put, List.getElem_toArray, List.getElem_cons_zero, List.getElem_cons_succ, List.setIfInBounds_toArray, List.set_cons_zero, List.set_cons_succ])
    refine wpAnyH_ready (rs := [5]) (by kernel_rfl) (by simp) ?_
    refine AllReadyH.cons rfl (fun K hK => ?_) AllReadyH.nil
    simp only [List.getElem_toArray, List.getElem_cons_zero, List.getElem_cons_succ]
    go_simp
    with_reducible refine (P2.out _).mono ?_
    rintro e w3 ⟨rfl, k3⟩
    have F3 := F2.kept k3
    have B3 := B2.trans (k3.mono B2.size)
    refine hK.out _ _ ?_ (fun hHeld => ?_)
    · exact F3
    clear hK K
    (try simp only [Act.put, List.getElem_toArray, List.getElem_cons_zero, List.getElem_cons_succ, List.setIfInBounds_toArray, List.set_cons_zero, List.set_cons_succ])
    refine wpAnyH_take (i := 6) (v := ?_) rfl (by kernel_rfl) (by kernel_rfl) (by kernel_rfl) (fun _ _ _ h => h) (Or.inl ⟨by rfl, ?_⟩) (by assumption) ?_
    rotate_left
    · (intro w hSw; (try dsimp only at hSw); go_simp; (try with_reducible rfl))
    (try simp only [Act.put, List.getElem_toArray, List.getElem_cons_zero, List.getElem_cons_succ, List.setIfInBounds_toArray, List.set_cons_zero, List.set_cons_succ])
    refine wpAnyH_take (i := 7) (v := ?_) rfl (by kernel_rfl) (by kernel_rfl) (by kernel_rfl) (fun _ _ _ h => h) (Or.inl ⟨by rfl, ?_⟩) (by assumption) ?_
    rotate_left
    · (intro w hSw; (try dsimp only at hSw); go_simp; (try with_reducible rfl))
    (try simp only [Act.put, List.getElem_toArray, List.getElem_cons_zero, List.getElem_cons_succ, List.setIfInBounds_toArray, List.set_cons_zero, List.set_cons_succ])
    refine wpAnyH_done (by kernel_rfl) ?_ _
    refine NoPanic.normal ?_
    go_wp2_with (first
      | (refine load_blk (k := 0) 62 (veC a) (by rfl) rfl rfl F3.1 (by kernel_rfl) (by kernel_rfl) rfl ?_)
      | (refine load_blk (k := 0) 62 (veC b) (by rfl) rfl rfl F3.2.1 (by kernel_rfl) (by kernel_rfl) rfl ?_)
      | (refine load_blk (k := 0) 62 (veC c) (by rfl) rfl rfl F3.2.2 (by kernel_rfl) (by kernel_rfl) rfl ?_)
      | (refine eq_blk .neq 62 (veC a) (veC b) false (by rfl) rfl (Or.inr rfl) rfl rfl (by kernel_rfl) (r1 _) ?_))
    go_ret
    exact ⟨rfl, B3⟩
  · go_enter Tryd.func8, Tryd.ntmps8
    go_upto_region 1 with (fail)
    generalize ((w.alloc (.cells (veC a) 62)).alloc (.cells (veC b) 62)).alloc (.cells (veC c) 62) = w0 at *
    go_wp2_with fail
    refine (HN.out _ (hL.below B0)).mono ?_
    rintro e w1 ⟨rfl, k1⟩
    have F1 := F0.kept k1
    have B1 := B0.trans (k1.mono B0.size)
    clear F0 B0 k1
    go_upto_region 3 with (fail)
    refine wp_region_noPanic ?_
    refine wp_region_held_drew (S := (fun w' => Three w' w.heap.size a b c)) (by kernel_rfl) ?_ (fun hHeld => ?_)
    · exact F1
    refine wpAnyH_take (i := 0) (v := .agg (veC a)) rfl (by kernel_rfl) (by kernel_rfl) (by kernel_rfl) (fun _ _ _ h => h) (Or.inl ⟨by rfl, fun w hSw => exec_load_blk (k := 0) 62 (veC a) rfl rfl hSw.1 (by kernel_rfl) (by kernel_rfl) rfl⟩) (by assumption) ?_
    (try simp only [Act.put, List.getElem_toArray, List.getElem_cons_zero, List.getElem_cons_succ, List.setIfInBounds_toArray, List.set_cons_zero, List.set_cons_succ])
    refine wpAnyH_take (i := 1) (v := .agg (veC b)) rfl (by kernel_rfl) (by kernel_rfl) (by kernel_rfl) (fun _ _ _ h => h) (Or.inl ⟨by rfl, fun w hSw => exec_load_blk (k := 0) 62 (veC b) rfl rfl hSw.2.1 (by kernel_rfl) (by kernel_rfl) rfl⟩) (by assumption) ?_
    (try simp only [Act.put, List.getElem_toArray, List.getElem_cons_zero, List.getElem_cons_succ, List.setIfInBounds_toArray, List.set_cons_zero, List.set_cons_succ])
    refine wpAnyH_take (i := 3) (v := .agg (veC b)) rfl (by kernel_rfl) (by kernel_rfl) (by kernel_rfl) (fun _ _ _ h => h) (Or.inl ⟨by rfl, fun w hSw => exec_load_blk (k := 0) 62 (veC b) rfl rfl hSw.2.1 (by kernel_rfl) (by kernel_rfl) rfl⟩) (by assumption) ?_
    (try simp only [Act.put, List.getElem_toArray, List.getElem_cons_zero, List.getElem_cons_succ, List.setIfInBounds_toArray, List.set_cons_zero, List.set_cons_succ])
    refine wpAnyH_take (i := 4) (v := .agg (veC a)) rfl (by kernel_rfl) (by kernel_rfl) (by kernel_rfl) (fun _ _ _ h => h) (Or.inl ⟨by rfl, fun w hSw => exec_load_blk (k := 0) 62 (veC a) rfl rfl hSw.1 (by kernel_rfl) (by kernel_rfl) rfl⟩) (by assumption) ?_
    (try simp only [Act.put, List.getElem_toArray, List.getElem_cons_zero, List.getElem_cons_succ, List.setIfInBounds_toArray, List.set_cons_zero, List.set_cons_succ])
    refine wpAnyH_ready (rs := [2]) (by kernel_rfl) (by simp) ?_
    refine AllReadyH.cons rfl (fun K hK => ?_) AllReadyH.nil
    simp only [List.getElem_toArray, List.getElem_cons_zero, List.getElem_cons_succ]
    go_simp
    with_reducible refine (P1.out _).mono ?_
    rintro e w2 ⟨rfl, k2⟩
    have F2 := F1.drew.kept k2
    have B2 := B1.drew.trans (k2.mono B1.size)
    refine hK.out _ _ ?_ (fun hHeld => ?_)
    · exact F2
    clear hK K
    (try simp only [Act.put, List.getElem_toArray, List.getElem_cons_zero, List.getElem_cons_succ, List.setIfInBounds_toArray, List.set_cons_zero, List.set_cons_succ])
    refine wpAnyH_ready (rs := [5]) (by kernel_rfl) (by simp) ?_
    refine AllReadyH.cons rfl (fun K hK => ?_) AllReadyH.nil
    simp only [List.getElem_toArray, List.getElem_cons_zero, List.getElem_cons_succ]
    go_simp
    with_reducible refine (P2.out _).mono ?_
    rintro e w3 ⟨rfl, k3⟩
    have F3 := F2.kept k3
    have B3 := B2.trans (k3.mono B2.size)
    refine hK.out _ _ ?_ (fun hHeld => ?_)
    · exact F3
    clear hK K
    (try simp only [Act.put, List.getElem_toArray, List.getElem_cons_zero, List.getElem_cons_succ, List.setIfInBounds_toArray, List.set_cons_zero, List.set_cons_succ])
    refine wpAnyH_take (i := 6) (v := ?_) rfl (by kernel_rfl) (by kernel_rfl) (by kernel_rfl) (fun _ _ _ h => h) (Or.inl ⟨by rfl, ?_⟩) (by assumption) ?_
    rotate_left
    · (intro w hSw; (try dsimp only at hSw); go_simp; (try with_reducible rfl))
    (try simp only [Act.put, List.getElem_toArray, List.getElem_cons_zero, List.getElem_cons_succ, List.setIfInBounds_toArray, List.set_cons_zero, List.set_cons_succ])
    refine wpAnyH_take (i := 7) (v := ?_) rfl (by kernel_rfl) (by kernel_rfl) (by kernel_rfl) (fun _ _ _ h => h) (Or.inl ⟨by rfl, ?_⟩) (by assumption) ?_
    rotate_left
    · (intro w hSw; (try dsimp only at hSw); go_simp; (try with_reducible rfl))
    (try simp only [Act.put, List.getElem_toArray, List.getElem_cons_zero, List.getElem_cons_succ, List.setIfInBounds_toArray, List.set_cons_zero, List.set_cons_succ])
    refine wpAnyH_done (by kernel_rfl) ?_ _
    refine NoPanic.normal ?_
    go_wp2_with (first
      | (refine load_blk (k := 0) 62 (veC a) (by rfl) rfl rfl F3.1 (by kernel_rfl) (by kernel_rfl) rfl ?_)
      | (refine load_blk (k := 0) 62 (veC b) (by rfl) rfl rfl F3.2.1 (by kernel_rfl) (by kernel_rfl) rfl ?_)
      | (refine load_blk (k := 0) 62 (veC c) (by rfl) rfl rfl F3.2.2 (by kernel_rfl) (by kernel_rfl) rfl ?_)
      | (refine eq_blk .neq 62 (veC a) (veC b) true (by rfl) rfl (Or.inr rfl) rfl rfl (by kernel_rfl) (r1 _) ?_))
    go_ret
    exact ⟨rfl, B3⟩

end Go.Proofs.YtceiiolpggolbaaDoor.prioLine
