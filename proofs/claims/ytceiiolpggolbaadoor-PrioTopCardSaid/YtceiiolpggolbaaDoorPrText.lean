/- prio.Text, the reference's BridgeText at every name. -/
import Derived.Test.YtceiiolpggolbaaDoorPrRight
import Derived.Test.YtceiiolpggolbaaDoorTab
import Derived.Test.YtceiiolpggolbaaDoorMacText
import Derived.Test.YtceiiolpggolbaaDoorAddrText
import Derived.Laws.Concat
namespace Go.Proofs.YtceiiolpggolbaaDoor
open Go.RowKit
attribute [local go_sem ↓] Go.wp_at_zero Go.wp_at_succ
set_option linter.unusedSimpArgs false
set_option linter.unusedVariables false
set_option maxRecDepth 100000

theorem prText_no (b : Br) (h : okB b = false) (w : World) :
    Calls Tryd.prog 28 #[.agg (brC b)] w fun e w' => e = .returned (.tuple #[.string ⟨#[]⟩, .iface 28 (.int .i64 1)]) ∧ Below w.heap.size w w' := by
  have HA := Blk.new w 25 (brC b)
  have B0 : Below w.heap.size w (w.alloc (.cells (brC b) 25)) := (Below.refl _ _).alloc (Nat.le_refl _) _
  have HR := Lib.hid (fun W => right_any b W)
  rw [h] at HR
  go_enter Tryd.func28, Tryd.ntmps28
  go_upto_region 1 with (fail)
  generalize (w.alloc (.cells (brC b) 25)) = w1 at *
  go_wp2_with (refine load_blk (k := 0) 25 (brC b) (by rfl) rfl rfl HA (by kernel_rfl) (by kernel_rfl) rfl ?_)
  refine (HR.out _).mono ?_
  rintro e w2 ⟨rfl, k2⟩
  go_wp2
  go_ret2
  exact ⟨rfl, B0.trans (k2.mono B0.size)⟩

set_option maxHeartbeats 3200000 in
theorem prText_yes (b : Br) (h : okB b = true) (hb : byB b) (w : World) (hT : HasTab w) :
    Calls Tryd.prog 28 #[.agg (brC b)] w fun e w' => e = .returned (.tuple #[.string ⟨(textB b).toArray⟩, .nilIface]) ∧ Below w.heap.size w w' := by
  have HA := Blk.new w 25 (brC b)
  have B0 : Below w.heap.size w (w.alloc (.cells (brC b) 25)) := (Below.refl _ _).alloc (Nat.le_refl _) _
  have HR := Lib.hid (fun W => right_any b W)
  rw [h] at HR
  obtain ⟨p0, p1, _, e0, e1⟩ := okB_all h
  have L1 := (itoa_len5 b.p p0 (by omega)).1
  have L2 := (itoa_len5 b.e e0 (by omega)).1
  have L3 := addrL_length b.a
  have H1 := Lib.hid (fun W (h : HasTab W) => itoa_any b.p W h (by omega) (by omega))
  have H2 := Lib.hid (fun W (h : HasTab W) => itoa_any b.e W h (by omega) (by omega))
  have H3 : Hid (∀ W, Calls Tryd.prog 52 #[.agg (c6 b.a)] W fun e w' => e = .returned (.string ⟨(addrL b.a).toArray⟩) ∧ Below W.heap.size W w') := fun W  => text_any b.a hb W
  have HT : Hid (((((Lib.itoa b.p ++ [46]) ++ Lib.itoa b.e) ++ [47]) ++ addrL b.a) = textB b) := by show _ = _; unfold textB; simp
  rw [← HT.out]
  generalize Lib.itoa b.p = y1 at *
  generalize Lib.itoa b.e = y2 at *
  generalize addrL b.a = y3 at *
  have a1 : ∀ W, (Op.stringOp .add ⟨y1.toArray⟩ ⟨#[46]⟩).run Tryd.prog W = .ok (.string ⟨(y1 ++ [46]).toArray⟩) W := fun W => run_string_add_lists W y1 [46] (by omega) (by decide)
  have l1 : (y1 ++ [46]).length ≤ 6 := by simp; omega
  generalize y1 ++ [46] = z1 at *
  have a2 : ∀ W, (Op.stringOp .add ⟨z1.toArray⟩ ⟨y2.toArray⟩).run Tryd.prog W = .ok (.string ⟨(z1 ++ y2).toArray⟩) W := fun W => run_string_add_lists W z1 y2 (by omega) (by omega)
  have l2 : (z1 ++ y2).length ≤ 11 := by simp; omega
  generalize z1 ++ y2 = z2 at *
  have a3 : ∀ W, (Op.stringOp .add ⟨z2.toArray⟩ ⟨#[47]⟩).run Tryd.prog W = .ok (.string ⟨(z2 ++ [47]).toArray⟩) W := fun W => run_string_add_lists W z2 [47] (by omega) (by decide)
  have l3 : (z2 ++ [47]).length ≤ 12 := by simp; omega
  generalize z2 ++ [47] = z3 at *
  have a4 : ∀ W, (Op.stringOp .add ⟨z3.toArray⟩ ⟨y3.toArray⟩).run Tryd.prog W = .ok (.string ⟨(z3 ++ y3).toArray⟩) W := fun W => run_string_add_lists W z3 y3 (by omega) (by omega)
  generalize z3 ++ y3 = z4 at *
  clear HT
  go_enter Tryd.func28, Tryd.ntmps28
  go_upto_region 1 with (fail)
  generalize (w.alloc (.cells (brC b) 25)) = w1 at *
  go_wp2_with (refine load_blk (k := 0) 25 (brC b) (by rfl) rfl rfl HA (by kernel_rfl) (by kernel_rfl) rfl ?_)
  refine (HR.out _).mono ?_
  rintro e w2 ⟨rfl, k2⟩
  have HA2 := HA.kept k2
  have B2 := B0.trans (k2.mono B0.size)
  obtain ⟨c0, c1, _⟩ := br_cells HA2
  go_upto_region 3 with (fail)
  refine wp_region_noPanic ?_
  refine wp_region_held_drew (S := (fun w' => (w'.cell? ⟨w.heap.size, 0, none⟩ = some (.int .i64 b.p) ∧ w'.cell? ⟨w.heap.size, 1, none⟩ = some (.int .i64 b.e)) ∧ Blk w' w.heap.size 25 (brC b))) (by kernel_rfl) ?_ (fun hHeld => ?_)
  · exact ⟨⟨c0, c1⟩, HA2⟩
  refine wpAnyH_take (i := 0) (v := ?_) rfl (by kernel_rfl) (by kernel_rfl) (by kernel_rfl) (fun _ _ _ h => h) (Or.inl ⟨by rfl, ?_⟩) (by assumption) ?_
  rotate_left
  · (intro w hSw; (try dsimp only at hSw); go_simp; (try with_reducible rfl))
  (try simp only [Act.put, List.getElem_toArray, List.getElem_cons_zero, List.getElem_cons_succ, List.setIfInBounds_toArray, List.set_cons_zero, List.set_cons_succ])
  refine wpAnyH_take (i := 1) (v := ?_) rfl (by kernel_rfl) (by kernel_rfl) (by kernel_rfl) (fun _ _ _ h => h) (Or.inl ⟨by rfl, ?_⟩) (by assumption) ?_
  rotate_left
  · (intro w hSw; (try dsimp only at hSw); go_simp; (try with_reducible rfl))
  (try simp only [Act.put, List.getElem_toArray, List.getElem_cons_zero, List.getElem_cons_succ, List.setIfInBounds_toArray, List.set_cons_zero, List.set_cons_succ])
  refine wpAnyH_take (i := 4) (v := ?_) rfl (by kernel_rfl) (by kernel_rfl) (by kernel_rfl) (fun _ _ _ h => h) (Or.inl ⟨by rfl, ?_⟩) (by assumption) ?_
  rotate_left
  · (intro w hSw; (try dsimp only at hSw); go_simp; (try with_reducible rfl))
  (try simp only [Act.put, List.getElem_toArray, List.getElem_cons_zero, List.getElem_cons_succ, List.setIfInBounds_toArray, List.set_cons_zero, List.set_cons_succ])
  refine wpAnyH_take (i := 5) (v := ?_) rfl (by kernel_rfl) (by kernel_rfl) (by kernel_rfl) (fun _ _ _ h => h) (Or.inl ⟨by rfl, ?_⟩) (by assumption) ?_
  rotate_left
  · (intro w hSw; (try dsimp only at hSw); go_simp; (try with_reducible rfl))
  (try simp only [Act.put, List.getElem_toArray, List.getElem_cons_zero, List.getElem_cons_succ, List.setIfInBounds_toArray, List.set_cons_zero, List.set_cons_succ])
  refine wpAnyH_take (i := 9) (v := ?_) rfl (by kernel_rfl) (by kernel_rfl) (by kernel_rfl) (fun _ _ _ h => h) (Or.inl ⟨by rfl, ?_⟩) (by assumption) ?_
  rotate_left
  · (intro w hSw; (try dsimp only at hSw); go_simp; (try with_reducible rfl))
  (try simp only [Act.put, List.getElem_toArray, List.getElem_cons_zero, List.getElem_cons_succ, List.setIfInBounds_toArray, List.set_cons_zero, List.set_cons_succ])
  refine wpAnyH_take (i := 10) (v := .agg (c6 b.a)) rfl (by kernel_rfl) (by kernel_rfl) (by kernel_rfl) (fun _ _ _ h => h) (Or.inl ⟨by rfl, fun w hSw => exec_load_blk (k := 2) 23 (c6 b.a) rfl rfl hSw.2 (by kernel_rfl) (by kernel_rfl) rfl⟩) (by assumption) ?_
  (try simp only [Act.put, List.getElem_toArray, List.getElem_cons_zero, List.getElem_cons_succ, List.setIfInBounds_toArray, List.set_cons_zero, List.set_cons_succ])
  refine wpAnyH_ready (rs := [2]) (by kernel_rfl) (by simp) ?_
  refine AllReadyH.cons rfl (fun K hK => ?_) AllReadyH.nil
  simp only [List.getElem_toArray, List.getElem_cons_zero, List.getElem_cons_succ]
  go_simp
  with_reducible refine (H1.out _ (hT.below B2.drew)).mono ?_
  rintro e w3 ⟨rfl, k3⟩
  have HA3 := HA2.drew.kept k3
  have B3 := B2.drew.trans (k3.mono B2.size)
  obtain ⟨c03, c13, _⟩ := br_cells HA3
  refine hK.out _ _ ?_ (fun hHeld => ?_)
  · exact ⟨⟨c03, c13⟩, HA3⟩
  clear hK K
  (try simp only [Act.put, List.getElem_toArray, List.getElem_cons_zero, List.getElem_cons_succ, List.setIfInBounds_toArray, List.set_cons_zero, List.set_cons_succ])
  refine wpAnyH_take (i := 3) (v := ?_) rfl (by kernel_rfl) (by kernel_rfl) (by kernel_rfl) (fun _ _ _ h => h) (Or.inl ⟨by rfl, ?_⟩) (by assumption) ?_
  rotate_left
  · (intro w hSw; (try dsimp only at hSw); go_simp; (try with_reducible rfl))
  (try simp only [Act.put, List.getElem_toArray, List.getElem_cons_zero, List.getElem_cons_succ, List.setIfInBounds_toArray, List.set_cons_zero, List.set_cons_succ])
  refine wpAnyH_ready (rs := [6]) (by kernel_rfl) (by simp) ?_
  refine AllReadyH.cons rfl (fun K hK => ?_) AllReadyH.nil
  simp only [List.getElem_toArray, List.getElem_cons_zero, List.getElem_cons_succ]
  go_simp
  with_reducible refine (H2.out _ (hT.below B3)).mono ?_
  rintro e w4 ⟨rfl, k4⟩
  have HA4 := HA3.kept k4
  have B4 := B3.trans (k4.mono B3.size)
  obtain ⟨c04, c14, _⟩ := br_cells HA4
  refine hK.out _ _ ?_ (fun hHeld => ?_)
  · exact ⟨⟨c04, c14⟩, HA4⟩
  clear hK K
  (try simp only [Act.put, List.getElem_toArray, List.getElem_cons_zero, List.getElem_cons_succ, List.setIfInBounds_toArray, List.set_cons_zero, List.set_cons_succ])
  refine wpAnyH_take (i := 7) (v := ?_) rfl (by kernel_rfl) (by kernel_rfl) (by kernel_rfl) (fun _ _ _ h => h) (Or.inl ⟨by rfl, ?_⟩) (by assumption) ?_
  rotate_left
  · (intro w hSw; (try dsimp only at hSw); go_simp; (try with_reducible rfl))
  (try simp only [Act.put, List.getElem_toArray, List.getElem_cons_zero, List.getElem_cons_succ, List.setIfInBounds_toArray, List.set_cons_zero, List.set_cons_succ])
  refine wpAnyH_take (i := 8) (v := ?_) rfl (by kernel_rfl) (by kernel_rfl) (by kernel_rfl) (fun _ _ _ h => h) (Or.inl ⟨by rfl, ?_⟩) (by assumption) ?_
  rotate_left
  · (intro w hSw; (try dsimp only at hSw); go_simp; (try with_reducible rfl))
  (try simp only [Act.put, List.getElem_toArray, List.getElem_cons_zero, List.getElem_cons_succ, List.setIfInBounds_toArray, List.set_cons_zero, List.set_cons_succ])
  refine wpAnyH_ready (rs := [11]) (by kernel_rfl) (by simp) ?_
  refine AllReadyH.cons rfl (fun K hK => ?_) AllReadyH.nil
  simp only [List.getElem_toArray, List.getElem_cons_zero, List.getElem_cons_succ]
  go_simp
  with_reducible refine (H3.out _).mono ?_
  rintro e w5 ⟨rfl, k5⟩
  have HA5 := HA4.kept k5
  have B5 := B4.trans (k5.mono B4.size)
  obtain ⟨c05, c15, _⟩ := br_cells HA5
  refine hK.out _ _ ?_ (fun hHeld => ?_)
  · exact ⟨⟨c05, c15⟩, HA5⟩
  clear hK K
  (try simp only [Act.put, List.getElem_toArray, List.getElem_cons_zero, List.getElem_cons_succ, List.setIfInBounds_toArray, List.set_cons_zero, List.set_cons_succ])
  refine wpAnyH_take (i := 12) (v := ?_) rfl (by kernel_rfl) (by kernel_rfl) (by kernel_rfl) (fun _ _ _ h => h) (Or.inl ⟨by rfl, ?_⟩) (by assumption) ?_
  rotate_left
  · (intro w hSw; (try dsimp only at hSw); go_simp; (try with_reducible rfl))
  (try simp only [Act.put, List.getElem_toArray, List.getElem_cons_zero, List.getElem_cons_succ, List.setIfInBounds_toArray, List.set_cons_zero, List.set_cons_succ])
  refine wpAnyH_take (i := 13) (v := ?_) rfl (by kernel_rfl) (by kernel_rfl) (by kernel_rfl) (fun _ _ _ h => h) (Or.inl ⟨by rfl, ?_⟩) (by assumption) ?_
  rotate_left
  · (intro w hSw; (try dsimp only at hSw); go_simp; (try with_reducible rfl))
  (try simp only [Act.put, List.getElem_toArray, List.getElem_cons_zero, List.getElem_cons_succ, List.setIfInBounds_toArray, List.set_cons_zero, List.set_cons_succ])
  refine wpAnyH_take (i := 14) (v := ?_) rfl (by kernel_rfl) (by kernel_rfl) (by kernel_rfl) (fun _ _ _ h => h) (Or.inl ⟨by rfl, ?_⟩) (by assumption) ?_
  rotate_left
  · (intro w hSw; (try dsimp only at hSw); go_simp; (try with_reducible rfl))
  (try simp only [Act.put, List.getElem_toArray, List.getElem_cons_zero, List.getElem_cons_succ, List.setIfInBounds_toArray, List.set_cons_zero, List.set_cons_succ])
  refine wpAnyH_done (by kernel_rfl) ?_ _
  refine NoPanic.normal ?_
  go_wp2
  go_ret2
  exact ⟨rfl, B5⟩

theorem refPrText_no (b : Br) (h : okB b = false) (w : World) :
    Calls Tryd.prog 27 #[.agg (brC b)] w fun e w' => e = .returned (.tuple #[.string ⟨#[]⟩, .int .i64 1]) ∧ Below w.heap.size w w' := by
  have HA := Blk.new w 25 (brC b)
  have B0 : Below w.heap.size w (w.alloc (.cells (brC b) 25)) := (Below.refl _ _).alloc (Nat.le_refl _) _
  have HR := Lib.hid (fun W => refRight_any b W)
  rw [h] at HR
  go_enter Tryd.func27, Tryd.ntmps27
  go_upto_region 1 with (fail)
  generalize (w.alloc (.cells (brC b) 25)) = w1 at *
  go_wp2_with (refine load_blk (k := 0) 25 (brC b) (by rfl) rfl rfl HA (by kernel_rfl) (by kernel_rfl) rfl ?_)
  refine (HR.out _).mono ?_
  rintro e w2 ⟨rfl, k2⟩
  go_wp2
  go_ret2
  exact ⟨rfl, B0.trans (k2.mono B0.size)⟩

set_option maxHeartbeats 3200000 in
theorem refPrText_yes (b : Br) (h : okB b = true) (hb : byB b) (w : World) (hT : HasTab w) (hz : HasTz w) :
    Calls Tryd.prog 27 #[.agg (brC b)] w fun e w' => e = .returned (.tuple #[.string ⟨(textB b).toArray⟩, .int .i64 0]) ∧ Below w.heap.size w w' := by
  have HA := Blk.new w 25 (brC b)
  have B0 : Below w.heap.size w (w.alloc (.cells (brC b) 25)) := (Below.refl _ _).alloc (Nat.le_refl _) _
  have HR := Lib.hid (fun W => refRight_any b W)
  rw [h] at HR
  obtain ⟨p0, p1, _, e0, e1⟩ := okB_all h
  have L1 := (itoa_len5 b.p p0 (by omega)).1
  have L2 := (itoa_len5 b.e e0 (by omega)).1
  have L3 := addrL_length b.a
  have H1 := Lib.hid (fun W (h : HasTab W) => itoa_any b.p W h (by omega) (by omega))
  have H2 := Lib.hid (fun W (h : HasTab W) => itoa_any b.e W h (by omega) (by omega))
  have H3 : Hid (∀ W (h : HasTz W), Calls Tryd.prog 51 #[.agg (c6 b.a)] W fun e w' => e = .returned (.string ⟨(addrL b.a).toArray⟩) ∧ Below W.heap.size W w') := fun W h => refText_any b.a hb W h
  have HT : Hid (((((Lib.itoa b.p ++ [46]) ++ Lib.itoa b.e) ++ [47]) ++ addrL b.a) = textB b) := by show _ = _; unfold textB; simp
  rw [← HT.out]
  generalize Lib.itoa b.p = y1 at *
  generalize Lib.itoa b.e = y2 at *
  generalize addrL b.a = y3 at *
  have a1 : ∀ W, (Op.stringOp .add ⟨y1.toArray⟩ ⟨#[46]⟩).run Tryd.prog W = .ok (.string ⟨(y1 ++ [46]).toArray⟩) W := fun W => run_string_add_lists W y1 [46] (by omega) (by decide)
  have l1 : (y1 ++ [46]).length ≤ 6 := by simp; omega
  generalize y1 ++ [46] = z1 at *
  have a2 : ∀ W, (Op.stringOp .add ⟨z1.toArray⟩ ⟨y2.toArray⟩).run Tryd.prog W = .ok (.string ⟨(z1 ++ y2).toArray⟩) W := fun W => run_string_add_lists W z1 y2 (by omega) (by omega)
  have l2 : (z1 ++ y2).length ≤ 11 := by simp; omega
  generalize z1 ++ y2 = z2 at *
  have a3 : ∀ W, (Op.stringOp .add ⟨z2.toArray⟩ ⟨#[47]⟩).run Tryd.prog W = .ok (.string ⟨(z2 ++ [47]).toArray⟩) W := fun W => run_string_add_lists W z2 [47] (by omega) (by decide)
  have l3 : (z2 ++ [47]).length ≤ 12 := by simp; omega
  generalize z2 ++ [47] = z3 at *
  have a4 : ∀ W, (Op.stringOp .add ⟨z3.toArray⟩ ⟨y3.toArray⟩).run Tryd.prog W = .ok (.string ⟨(z3 ++ y3).toArray⟩) W := fun W => run_string_add_lists W z3 y3 (by omega) (by omega)
  generalize z3 ++ y3 = z4 at *
  clear HT
  go_enter Tryd.func27, Tryd.ntmps27
  go_upto_region 1 with (fail)
  generalize (w.alloc (.cells (brC b) 25)) = w1 at *
  go_wp2_with (refine load_blk (k := 0) 25 (brC b) (by rfl) rfl rfl HA (by kernel_rfl) (by kernel_rfl) rfl ?_)
  refine (HR.out _).mono ?_
  rintro e w2 ⟨rfl, k2⟩
  have HA2 := HA.kept k2
  have B2 := B0.trans (k2.mono B0.size)
  obtain ⟨c0, c1, _⟩ := br_cells HA2
  go_upto_region 3 with (fail)
  refine wp_region_noPanic ?_
  refine wp_region_held_drew (S := (fun w' => (w'.cell? ⟨w.heap.size, 0, none⟩ = some (.int .i64 b.p) ∧ w'.cell? ⟨w.heap.size, 1, none⟩ = some (.int .i64 b.e)) ∧ Blk w' w.heap.size 25 (brC b))) (by kernel_rfl) ?_ (fun hHeld => ?_)
  · exact ⟨⟨c0, c1⟩, HA2⟩
  refine wpAnyH_take (i := 0) (v := ?_) rfl (by kernel_rfl) (by kernel_rfl) (by kernel_rfl) (fun _ _ _ h => h) (Or.inl ⟨by rfl, ?_⟩) (by assumption) ?_
  rotate_left
  · (intro w hSw; (try dsimp only at hSw); go_simp; (try with_reducible rfl))
  (try simp only [Act.put, List.getElem_toArray, List.getElem_cons_zero, List.getElem_cons_succ, List.setIfInBounds_toArray, List.set_cons_zero, List.set_cons_succ])
  refine wpAnyH_take (i := 1) (v := ?_) rfl (by kernel_rfl) (by kernel_rfl) (by kernel_rfl) (fun _ _ _ h => h) (Or.inl ⟨by rfl, ?_⟩) (by assumption) ?_
  rotate_left
  · (intro w hSw; (try dsimp only at hSw); go_simp; (try with_reducible rfl))
  (try simp only [Act.put, List.getElem_toArray, List.getElem_cons_zero, List.getElem_cons_succ, List.setIfInBounds_toArray, List.set_cons_zero, List.set_cons_succ])
  refine wpAnyH_take (i := 4) (v := ?_) rfl (by kernel_rfl) (by kernel_rfl) (by kernel_rfl) (fun _ _ _ h => h) (Or.inl ⟨by rfl, ?_⟩) (by assumption) ?_
  rotate_left
  · (intro w hSw; (try dsimp only at hSw); go_simp; (try with_reducible rfl))
  (try simp only [Act.put, List.getElem_toArray, List.getElem_cons_zero, List.getElem_cons_succ, List.setIfInBounds_toArray, List.set_cons_zero, List.set_cons_succ])
  refine wpAnyH_take (i := 5) (v := ?_) rfl (by kernel_rfl) (by kernel_rfl) (by kernel_rfl) (fun _ _ _ h => h) (Or.inl ⟨by rfl, ?_⟩) (by assumption) ?_
  rotate_left
  · (intro w hSw; (try dsimp only at hSw); go_simp; (try with_reducible rfl))
  (try simp only [Act.put, List.getElem_toArray, List.getElem_cons_zero, List.getElem_cons_succ, List.setIfInBounds_toArray, List.set_cons_zero, List.set_cons_succ])
  refine wpAnyH_take (i := 9) (v := ?_) rfl (by kernel_rfl) (by kernel_rfl) (by kernel_rfl) (fun _ _ _ h => h) (Or.inl ⟨by rfl, ?_⟩) (by assumption) ?_
  rotate_left
  · (intro w hSw; (try dsimp only at hSw); go_simp; (try with_reducible rfl))
  (try simp only [Act.put, List.getElem_toArray, List.getElem_cons_zero, List.getElem_cons_succ, List.setIfInBounds_toArray, List.set_cons_zero, List.set_cons_succ])
  refine wpAnyH_take (i := 10) (v := .agg (c6 b.a)) rfl (by kernel_rfl) (by kernel_rfl) (by kernel_rfl) (fun _ _ _ h => h) (Or.inl ⟨by rfl, fun w hSw => exec_load_blk (k := 2) 23 (c6 b.a) rfl rfl hSw.2 (by kernel_rfl) (by kernel_rfl) rfl⟩) (by assumption) ?_
  (try simp only [Act.put, List.getElem_toArray, List.getElem_cons_zero, List.getElem_cons_succ, List.setIfInBounds_toArray, List.set_cons_zero, List.set_cons_succ])
  refine wpAnyH_ready (rs := [2]) (by kernel_rfl) (by simp) ?_
  refine AllReadyH.cons rfl (fun K hK => ?_) AllReadyH.nil
  simp only [List.getElem_toArray, List.getElem_cons_zero, List.getElem_cons_succ]
  go_simp
  with_reducible refine (H1.out _ (hT.below B2.drew)).mono ?_
  rintro e w3 ⟨rfl, k3⟩
  have HA3 := HA2.drew.kept k3
  have B3 := B2.drew.trans (k3.mono B2.size)
  obtain ⟨c03, c13, _⟩ := br_cells HA3
  refine hK.out _ _ ?_ (fun hHeld => ?_)
  · exact ⟨⟨c03, c13⟩, HA3⟩
  clear hK K
  (try simp only [Act.put, List.getElem_toArray, List.getElem_cons_zero, List.getElem_cons_succ, List.setIfInBounds_toArray, List.set_cons_zero, List.set_cons_succ])
  refine wpAnyH_take (i := 3) (v := ?_) rfl (by kernel_rfl) (by kernel_rfl) (by kernel_rfl) (fun _ _ _ h => h) (Or.inl ⟨by rfl, ?_⟩) (by assumption) ?_
  rotate_left
  · (intro w hSw; (try dsimp only at hSw); go_simp; (try with_reducible rfl))
  (try simp only [Act.put, List.getElem_toArray, List.getElem_cons_zero, List.getElem_cons_succ, List.setIfInBounds_toArray, List.set_cons_zero, List.set_cons_succ])
  refine wpAnyH_ready (rs := [6]) (by kernel_rfl) (by simp) ?_
  refine AllReadyH.cons rfl (fun K hK => ?_) AllReadyH.nil
  simp only [List.getElem_toArray, List.getElem_cons_zero, List.getElem_cons_succ]
  go_simp
  with_reducible refine (H2.out _ (hT.below B3)).mono ?_
  rintro e w4 ⟨rfl, k4⟩
  have HA4 := HA3.kept k4
  have B4 := B3.trans (k4.mono B3.size)
  obtain ⟨c04, c14, _⟩ := br_cells HA4
  refine hK.out _ _ ?_ (fun hHeld => ?_)
  · exact ⟨⟨c04, c14⟩, HA4⟩
  clear hK K
  (try simp only [Act.put, List.getElem_toArray, List.getElem_cons_zero, List.getElem_cons_succ, List.setIfInBounds_toArray, List.set_cons_zero, List.set_cons_succ])
  refine wpAnyH_take (i := 7) (v := ?_) rfl (by kernel_rfl) (by kernel_rfl) (by kernel_rfl) (fun _ _ _ h => h) (Or.inl ⟨by rfl, ?_⟩) (by assumption) ?_
  rotate_left
  · (intro w hSw; (try dsimp only at hSw); go_simp; (try with_reducible rfl))
  (try simp only [Act.put, List.getElem_toArray, List.getElem_cons_zero, List.getElem_cons_succ, List.setIfInBounds_toArray, List.set_cons_zero, List.set_cons_succ])
  refine wpAnyH_take (i := 8) (v := ?_) rfl (by kernel_rfl) (by kernel_rfl) (by kernel_rfl) (fun _ _ _ h => h) (Or.inl ⟨by rfl, ?_⟩) (by assumption) ?_
  rotate_left
  · (intro w hSw; (try dsimp only at hSw); go_simp; (try with_reducible rfl))
  (try simp only [Act.put, List.getElem_toArray, List.getElem_cons_zero, List.getElem_cons_succ, List.setIfInBounds_toArray, List.set_cons_zero, List.set_cons_succ])
  refine wpAnyH_ready (rs := [11]) (by kernel_rfl) (by simp) ?_
  refine AllReadyH.cons rfl (fun K hK => ?_) AllReadyH.nil
  simp only [List.getElem_toArray, List.getElem_cons_zero, List.getElem_cons_succ]
  go_simp
  with_reducible refine (H3.out _ (hz.below B4)).mono ?_
  rintro e w5 ⟨rfl, k5⟩
  have HA5 := HA4.kept k5
  have B5 := B4.trans (k5.mono B4.size)
  obtain ⟨c05, c15, _⟩ := br_cells HA5
  refine hK.out _ _ ?_ (fun hHeld => ?_)
  · exact ⟨⟨c05, c15⟩, HA5⟩
  clear hK K
  (try simp only [Act.put, List.getElem_toArray, List.getElem_cons_zero, List.getElem_cons_succ, List.setIfInBounds_toArray, List.set_cons_zero, List.set_cons_succ])
  refine wpAnyH_take (i := 12) (v := ?_) rfl (by kernel_rfl) (by kernel_rfl) (by kernel_rfl) (fun _ _ _ h => h) (Or.inl ⟨by rfl, ?_⟩) (by assumption) ?_
  rotate_left
  · (intro w hSw; (try dsimp only at hSw); go_simp; (try with_reducible rfl))
  (try simp only [Act.put, List.getElem_toArray, List.getElem_cons_zero, List.getElem_cons_succ, List.setIfInBounds_toArray, List.set_cons_zero, List.set_cons_succ])
  refine wpAnyH_take (i := 13) (v := ?_) rfl (by kernel_rfl) (by kernel_rfl) (by kernel_rfl) (fun _ _ _ h => h) (Or.inl ⟨by rfl, ?_⟩) (by assumption) ?_
  rotate_left
  · (intro w hSw; (try dsimp only at hSw); go_simp; (try with_reducible rfl))
  (try simp only [Act.put, List.getElem_toArray, List.getElem_cons_zero, List.getElem_cons_succ, List.setIfInBounds_toArray, List.set_cons_zero, List.set_cons_succ])
  refine wpAnyH_take (i := 14) (v := ?_) rfl (by kernel_rfl) (by kernel_rfl) (by kernel_rfl) (fun _ _ _ h => h) (Or.inl ⟨by rfl, ?_⟩) (by assumption) ?_
  rotate_left
  · (intro w hSw; (try dsimp only at hSw); go_simp; (try with_reducible rfl))
  (try simp only [Act.put, List.getElem_toArray, List.getElem_cons_zero, List.getElem_cons_succ, List.setIfInBounds_toArray, List.set_cons_zero, List.set_cons_succ])
  refine wpAnyH_done (by kernel_rfl) ?_ _
  refine NoPanic.normal ?_
  go_wp2
  go_ret2
  exact ⟨rfl, B5⟩

end Go.Proofs.YtceiiolpggolbaaDoor
