/- switchyardlaw.PrioOrders returns true at every two names and vectors, and changes nothing that was there. -/
import Derived.Test.YtceiiolpggolbaaRefBet
namespace Go.Proofs.Ytceiiolpggolbaa.prioOrders
open Go.RowKit
attribute [local go_sem ↓] Go.wp_at_zero Go.wp_at_succ
set_option linter.unusedSimpArgs false
set_option linter.unusedVariables false
set_option maxRecDepth 100000

/-- The four arguments' own variables. -/
def Four (w : World) (n : Nat) (a b : Br) (v u : Ve) : Prop := Blk w n 25 (brC a) ∧ Blk w (n + 1) 25 (brC b) ∧ Blk w (n + 2) 29 (veC v) ∧ Blk w (n + 3) 29 (veC u)
theorem Four.kept {w w' : World} {n : Nat} {a b : Br} {v u : Ve} (h : Four w n a b v u) (hb : Below w.heap.size w w') : Four w' n a b v u := ⟨h.1.kept hb, h.2.1.kept hb, h.2.2.1.kept hb, h.2.2.2.kept hb⟩
theorem Four.drew {w : World} {n : Nat} {a b : Br} {v u : Ve} (h : Four w n a b v u) : Four w.drew n a b v u := h

set_option maxHeartbeats 3200000 in
theorem walk (a : Br) (ha : ∀ i, a.a i < 256) (b : Br) (hb : ∀ i, b.a i < 256) (v : Ve) (hv : byV v) (u : Ve) (hu : byV u) (w : World) :
    Calls Try.prog 3 #[.agg (brC a), .agg (brC b), .agg (veC v), .agg (veC u)] w fun e w' => e = .returned (.bool true) ∧ Below w.heap.size w w' := by
  have F1 : Four ((((w.alloc (.cells (brC a) 25)).alloc (.cells (brC b) 25)).alloc (.cells (veC v) 29)).alloc (.cells (veC u) 29)) w.heap.size a b v u := by
    obtain ⟨HA0, HB0, B0⟩ := two_blks w 25 25 (brC a) (brC b)
    obtain ⟨HC0, HD0, B1⟩ := two_blks ((w.alloc (.cells (brC a) 25)).alloc (.cells (brC b) 25)) 29 29 (veC v) (veC u)
    have hs : ((w.alloc (.cells (brC a) 25)).alloc (.cells (brC b) 25)).heap.size = w.heap.size + 2 := by simp
    rw [hs] at HC0 HD0
    exact ⟨(HA0.alloc _).alloc _, (HB0.alloc _).alloc _, HC0, HD0⟩
  have B1 : Below w.heap.size w ((((w.alloc (.cells (brC a) 25)).alloc (.cells (brC b) 25)).alloc (.cells (veC v) 29)).alloc (.cells (veC u) 29)) :=
    ((((Below.refl _ _).alloc (Nat.le_refl _) _).alloc (by simp) _).alloc (by simp; omega) _).alloc (by simp; omega) _
  have H1 := Lib.hid (fun W => prioLess_any a b ha hb W)
  have H2 := Lib.hid (fun W => refLess_any a b ha hb W)
  have H3 := Lib.hid (fun W => better_any v u hv hu W)
  have H4 := Lib.hid (fun W => refBetter_any v u hv hu W)
  generalize lessB a b = x at *
  generalize bettV v u = y at *
  have hx : (x == x) = true := by simp
  have hy : (y == y) = true := by simp
  go_enter Try.func3, Try.ntmps3
  go_upto_region 1 with (fail)
  generalize ((((w.alloc (.cells (brC a) 25)).alloc (.cells (brC b) 25)).alloc (.cells (veC v) 29)).alloc (.cells (veC u) 29)) = w1 at *
  refine wp_region_noPanic ?_
  refine wp_region_held_drew (S := (fun w' => Four w' w.heap.size a b v u)) (by kernel_rfl) ?_ (fun hHeld => ?_)
  · exact F1
  refine wpAnyH_take (i := 0) (v := .agg (brC a)) rfl (by kernel_rfl) (by kernel_rfl) (by kernel_rfl) (fun _ _ _ h => h) (Or.inl ⟨by rfl, fun w hSw => exec_load_blk (k := 0) 25 (brC a) rfl rfl hSw.1 (by kernel_rfl) (by kernel_rfl) rfl⟩) (by assumption) ?_
  (try simp only [Act.put, List.getElem_toArray, List.getElem_cons_zero, List.getElem_cons_succ, List.setIfInBounds_toArray, List.set_cons_zero, List.set_cons_succ])
  refine wpAnyH_take (i := 1) (v := .agg (brC b)) rfl (by kernel_rfl) (by kernel_rfl) (by kernel_rfl) (fun _ _ _ h => h) (Or.inl ⟨by rfl, fun w hSw => exec_load_blk (k := 0) 25 (brC b) rfl rfl hSw.2.1 (by kernel_rfl) (by kernel_rfl) rfl⟩) (by assumption) ?_
  (try simp only [Act.put, List.getElem_toArray, List.getElem_cons_zero, List.getElem_cons_succ, List.setIfInBounds_toArray, List.set_cons_zero, List.set_cons_succ])
  refine wpAnyH_take (i := 3) (v := .agg (brC a)) rfl (by kernel_rfl) (by kernel_rfl) (by kernel_rfl) (fun _ _ _ h => h) (Or.inl ⟨by rfl, fun w hSw => exec_load_blk (k := 0) 25 (brC a) rfl rfl hSw.1 (by kernel_rfl) (by kernel_rfl) rfl⟩) (by assumption) ?_
  (try simp only [Act.put, List.getElem_toArray, List.getElem_cons_zero, List.getElem_cons_succ, List.setIfInBounds_toArray, List.set_cons_zero, List.set_cons_succ])
  refine wpAnyH_take (i := 4) (v := .agg (brC b)) rfl (by kernel_rfl) (by kernel_rfl) (by kernel_rfl) (fun _ _ _ h => h) (Or.inl ⟨by rfl, fun w hSw => exec_load_blk (k := 0) 25 (brC b) rfl rfl hSw.2.1 (by kernel_rfl) (by kernel_rfl) rfl⟩) (by assumption) ?_
  (try simp only [Act.put, List.getElem_toArray, List.getElem_cons_zero, List.getElem_cons_succ, List.setIfInBounds_toArray, List.set_cons_zero, List.set_cons_succ])
  refine wpAnyH_ready (rs := [2]) (by kernel_rfl) (by simp) ?_
  refine AllReadyH.cons rfl (fun K hK => ?_) AllReadyH.nil
  simp only [List.getElem_toArray, List.getElem_cons_zero, List.getElem_cons_succ]
  go_simp
  refine (H1.out _).mono ?_
  rintro e w2 ⟨rfl, k2⟩
  have F2 := F1.drew.kept k2
  have B2 := B1.drew.trans (k2.mono B1.drew.size)
  refine hK.out _ _ ?_ (fun hHeld => ?_)
  · exact F2
  clear hK K
  (try simp only [Act.put, List.getElem_toArray, List.getElem_cons_zero, List.getElem_cons_succ, List.setIfInBounds_toArray, List.set_cons_zero, List.set_cons_succ])
  refine wpAnyH_ready (rs := [5]) (by kernel_rfl) (by simp) ?_
  refine AllReadyH.cons rfl (fun K hK => ?_) AllReadyH.nil
  simp only [List.getElem_toArray, List.getElem_cons_zero, List.getElem_cons_succ]
  go_simp
  refine (H2.out _).mono ?_
  rintro e w3 ⟨rfl, k3⟩
  have F3 := F2.kept k3
  have B3 := B2.trans (k3.mono B2.size)
  refine hK.out _ _ ?_ (fun hHeld => ?_)
  · exact F3
  clear hK K
  (try simp only [Act.put, List.getElem_toArray, List.getElem_cons_zero, List.getElem_cons_succ, List.setIfInBounds_toArray, List.set_cons_zero, List.set_cons_succ])
  refine wpAnyH_take (i := 6) (v := ?_) rfl (by kernel_rfl) (by kernel_rfl) (by kernel_rfl) (fun _ _ _ h => h) (Or.inl ⟨by rfl, ?_⟩) (by assumption) ?_
  rotate_left
  · (intro w hSw; (try dsimp only at hSw); go_simp; (try with_reducible rfl))
  (try simp only [Act.put, List.getElem_toArray, List.getElem_cons_zero, List.getElem_cons_succ, List.setIfInBounds_toArray, List.set_cons_zero, List.set_cons_succ])
  refine wpAnyH_take (i := 7) (v := ?_) rfl (by kernel_rfl) (by kernel_rfl) (by kernel_rfl) (fun _ _ _ h => h) (Or.inl ⟨by rfl, ?_⟩) (by assumption) ?_
  rotate_left
  · (intro w hSw; (try dsimp only at hSw); go_simp; (try with_reducible rfl))
  (try simp only [Act.put, List.getElem_toArray, List.getElem_cons_zero, List.getElem_cons_succ, List.setIfInBounds_toArray, List.set_cons_zero, List.set_cons_succ])
  refine wpAnyH_take (i := 8) (v := .agg (veC v)) rfl (by kernel_rfl) (by kernel_rfl) (by kernel_rfl) (fun _ _ _ h => h) (Or.inl ⟨by rfl, fun w hSw => exec_load_blk (k := 0) 29 (veC v) rfl rfl hSw.2.2.1 (by kernel_rfl) (by kernel_rfl) rfl⟩) (by assumption) ?_
  (try simp only [Act.put, List.getElem_toArray, List.getElem_cons_zero, List.getElem_cons_succ, List.setIfInBounds_toArray, List.set_cons_zero, List.set_cons_succ])
  refine wpAnyH_take (i := 9) (v := .agg (veC u)) rfl (by kernel_rfl) (by kernel_rfl) (by kernel_rfl) (fun _ _ _ h => h) (Or.inl ⟨by rfl, fun w hSw => exec_load_blk (k := 0) 29 (veC u) rfl rfl hSw.2.2.2 (by kernel_rfl) (by kernel_rfl) rfl⟩) (by assumption) ?_
  (try simp only [Act.put, List.getElem_toArray, List.getElem_cons_zero, List.getElem_cons_succ, List.setIfInBounds_toArray, List.set_cons_zero, List.set_cons_succ])
  refine wpAnyH_take (i := 11) (v := .agg (veC v)) rfl (by kernel_rfl) (by kernel_rfl) (by kernel_rfl) (fun _ _ _ h => h) (Or.inl ⟨by rfl, fun w hSw => exec_load_blk (k := 0) 29 (veC v) rfl rfl hSw.2.2.1 (by kernel_rfl) (by kernel_rfl) rfl⟩) (by assumption) ?_
  (try simp only [Act.put, List.getElem_toArray, List.getElem_cons_zero, List.getElem_cons_succ, List.setIfInBounds_toArray, List.set_cons_zero, List.set_cons_succ])
  refine wpAnyH_take (i := 12) (v := .agg (veC u)) rfl (by kernel_rfl) (by kernel_rfl) (by kernel_rfl) (fun _ _ _ h => h) (Or.inl ⟨by rfl, fun w hSw => exec_load_blk (k := 0) 29 (veC u) rfl rfl hSw.2.2.2 (by kernel_rfl) (by kernel_rfl) rfl⟩) (by assumption) ?_
  (try simp only [Act.put, List.getElem_toArray, List.getElem_cons_zero, List.getElem_cons_succ, List.setIfInBounds_toArray, List.set_cons_zero, List.set_cons_succ])
  refine wpAnyH_ready (rs := [10]) (by kernel_rfl) (by simp) ?_
  refine AllReadyH.cons rfl (fun K hK => ?_) AllReadyH.nil
  simp only [List.getElem_toArray, List.getElem_cons_zero, List.getElem_cons_succ]
  go_simp
  refine (H3.out _).mono ?_
  rintro e w4 ⟨rfl, k4⟩
  have F4 := F3.kept k4
  have B4 := B3.trans (k4.mono B3.size)
  refine hK.out _ _ ?_ (fun hHeld => ?_)
  · exact F4
  clear hK K
  (try simp only [Act.put, List.getElem_toArray, List.getElem_cons_zero, List.getElem_cons_succ, List.setIfInBounds_toArray, List.set_cons_zero, List.set_cons_succ])
  refine wpAnyH_ready (rs := [13]) (by kernel_rfl) (by simp) ?_
  refine AllReadyH.cons rfl (fun K hK => ?_) AllReadyH.nil
  simp only [List.getElem_toArray, List.getElem_cons_zero, List.getElem_cons_succ]
  go_simp
  refine (H4.out _).mono ?_
  rintro e w5 ⟨rfl, k5⟩
  have F5 := F4.kept k5
  have B5 := B4.trans (k5.mono B4.size)
  refine hK.out _ _ ?_ (fun hHeld => ?_)
  · exact F5
  clear hK K
  (try simp only [Act.put, List.getElem_toArray, List.getElem_cons_zero, List.getElem_cons_succ, List.setIfInBounds_toArray, List.set_cons_zero, List.set_cons_succ])
  refine wpAnyH_take (i := 14) (v := ?_) rfl (by kernel_rfl) (by kernel_rfl) (by kernel_rfl) (fun _ _ _ h => h) (Or.inl ⟨by rfl, ?_⟩) (by assumption) ?_
  rotate_left
  · (intro w hSw; (try dsimp only at hSw); go_simp; (try with_reducible rfl))
  (try simp only [Act.put, List.getElem_toArray, List.getElem_cons_zero, List.getElem_cons_succ, List.setIfInBounds_toArray, List.set_cons_zero, List.set_cons_succ])
  refine wpAnyH_take (i := 15) (v := ?_) rfl (by kernel_rfl) (by kernel_rfl) (by kernel_rfl) (fun _ _ _ h => h) (Or.inl ⟨by rfl, ?_⟩) (by assumption) ?_
  rotate_left
  · (intro w hSw; (try dsimp only at hSw); go_simp; (try with_reducible rfl))
  (try simp only [Act.put, List.getElem_toArray, List.getElem_cons_zero, List.getElem_cons_succ, List.setIfInBounds_toArray, List.set_cons_zero, List.set_cons_succ])
  refine wpAnyH_take (i := 16) (v := ?_) rfl (by kernel_rfl) (by kernel_rfl) (by kernel_rfl) (fun _ _ _ h => h) (Or.inl ⟨by rfl, ?_⟩) (by assumption) ?_
  rotate_left
  · (intro w hSw; (try dsimp only at hSw); go_simp; (try with_reducible rfl))
  (try simp only [Act.put, List.getElem_toArray, List.getElem_cons_zero, List.getElem_cons_succ, List.setIfInBounds_toArray, List.set_cons_zero, List.set_cons_succ])
  refine wpAnyH_done (by kernel_rfl) ?_ _
  refine NoPanic.normal ?_
  go_wp2
  go_ret
  exact ⟨rfl, B5⟩

end Go.Proofs.Ytceiiolpggolbaa.prioOrders
