/- prio.Pack, PackPort, the reference's BridgePack, PortPack. -/
import Derived.Test.YtajbkoggmhgjfaaDoorPrRight
import Derived.Test.YtajbkoggmhgjfaaDoorVecPack
import Derived.Test.YtajbkoggmhgjfaaDoorMust
import Derived.Test.YtajbkoggmhgjfaaDoorBe2
import Derived.Laws.Concat
namespace Go.Proofs.YtajbkoggmhgjfaaDoor
open Go.RowKit
attribute [local go_sem ↓] Go.wp_at_zero Go.wp_at_succ
set_option linter.unusedSimpArgs false
set_option linter.unusedVariables false
set_option maxRecDepth 100000

theorem packL_nb (b : Br) : packL b = putL (b.p + b.e).toNat 2 ++ nb 6 b.a := rfl
/-- The two bytes of a port's name. -/
def ppL (p n : Int) : List UInt8 := putL (256 * p + n).toNat 2

theorem pack_no (b : Br) (h : okB b = false) (w : World) :
    Calls Tryd.prog 25 #[.agg (brC b)] w fun e w' => e = .returned (.tuple #[.string ⟨#[]⟩, .iface 35 (.int .i64 1)]) ∧ Below w.heap.size w w' := by
  have HA := Blk.new w 27 (brC b)
  have B0 : Below w.heap.size w (w.alloc (.cells (brC b) 27)) := (Below.refl _ _).alloc (Nat.le_refl _) _
  have HR := Lib.hid (fun W => right_any b W)
  rw [h] at HR
  go_enter Tryd.func25, Tryd.ntmps25
  go_upto_region 1 with (fail)
  generalize (w.alloc (.cells (brC b) 27)) = w1 at *
  go_wp2_with (refine load_blk (k := 0) 27 (brC b) (by rfl) rfl rfl HA (by kernel_rfl) (by kernel_rfl) rfl ?_)
  refine (HR.out _).mono ?_
  rintro e w2 ⟨rfl, k2⟩
  go_wp2
  go_ret2
  exact ⟨rfl, B0.trans (k2.mono B0.size)⟩

theorem refPack_no (b : Br) (h : okB b = false) (w : World) :
    Calls Tryd.prog 17 #[.agg (brC b)] w fun e w' => e = .returned (.tuple #[.string ⟨#[]⟩, .int .i64 1]) ∧ Below w.heap.size w w' := by
  have HA := Blk.new w 27 (brC b)
  have B0 : Below w.heap.size w (w.alloc (.cells (brC b) 27)) := (Below.refl _ _).alloc (Nat.le_refl _) _
  have HR := Lib.hid (fun W => refRight_any b W)
  rw [h] at HR
  go_enter Tryd.func17, Tryd.ntmps17
  go_upto_region 1 with (fail)
  generalize (w.alloc (.cells (brC b) 27)) = w1 at *
  go_wp2_with (refine load_blk (k := 0) 27 (brC b) (by rfl) rfl rfl HA (by kernel_rfl) (by kernel_rfl) rfl ?_)
  refine (HR.out _).mono ?_
  rintro e w2 ⟨rfl, k2⟩
  go_wp2
  go_ret2
  exact ⟨rfl, B0.trans (k2.mono B0.size)⟩

theorem packPort_no (p n : Int) (h : okPt p n = false) (w : World) :
    Calls Tryd.prog 73 #[.agg (ptC p n)] w fun e w' => e = .returned (.tuple #[.string ⟨#[]⟩, .iface 35 (.int .i64 1)]) ∧ Below w.heap.size w w' := by
  have HA := Blk.new w 29 (ptC p n)
  have B0 : Below w.heap.size w (w.alloc (.cells (ptC p n) 29)) := (Below.refl _ _).alloc (Nat.le_refl _) _
  have HR := Lib.hid (fun W => port_any p n W)
  rw [h] at HR
  go_enter Tryd.func73, Tryd.ntmps73
  go_upto_region 1 with (fail)
  generalize (w.alloc (.cells (ptC p n) 29)) = w1 at *
  go_wp2_with (refine load_blk (k := 0) 29 (ptC p n) (by rfl) rfl rfl HA (by kernel_rfl) (by kernel_rfl) rfl ?_)
  refine (HR.out _).mono ?_
  rintro e w2 ⟨rfl, k2⟩
  go_wp2
  go_ret2
  exact ⟨rfl, B0.trans (k2.mono B0.size)⟩

theorem refPackPort_no (p n : Int) (h : okPt p n = false) (w : World) :
    Calls Tryd.prog 69 #[.agg (ptC p n)] w fun e w' => e = .returned (.tuple #[.string ⟨#[]⟩, .int .i64 1]) ∧ Below w.heap.size w w' := by
  have HA := Blk.new w 29 (ptC p n)
  have B0 : Below w.heap.size w (w.alloc (.cells (ptC p n) 29)) := (Below.refl _ _).alloc (Nat.le_refl _) _
  have HR := Lib.hid (fun W => refPort_any p n W)
  rw [h] at HR
  go_enter Tryd.func69, Tryd.ntmps69
  go_upto_region 1 with (fail)
  generalize (w.alloc (.cells (ptC p n) 29)) = w1 at *
  go_wp2_with (refine load_blk (k := 0) 29 (ptC p n) (by rfl) rfl rfl HA (by kernel_rfl) (by kernel_rfl) rfl ?_)
  refine (HR.out _).mono ?_
  rintro e w2 ⟨rfl, k2⟩
  go_wp2
  go_ret2
  exact ⟨rfl, B0.trans (k2.mono B0.size)⟩

set_option maxHeartbeats 3200000 in
theorem pack_yes (b : Br) (h : okB b = true) (hb : byB b) (w : World) :
    Calls Tryd.prog 25 #[.agg (brC b)] w fun e w' => e = .returned (.tuple #[.string ⟨(packL b).toArray⟩, .nilIface]) ∧ Below w.heap.size w w' := by
  have HA := Blk.new w 27 (brC b)
  have B0 : Below w.heap.size w (w.alloc (.cells (brC b) 27)) := (Below.refl _ _).alloc (Nat.le_refl _) _
  have HR := Lib.hid (fun W => right_any b W)
  rw [h] at HR
  obtain ⟨p0, p1, _, e0, e1⟩ := okB_all h
  obtain ⟨X, hX⟩ := Int.eq_ofNat_of_zero_le (show 0 ≤ b.p + b.e by omega)
  have HP : Hid (packL b = putL X 2 ++ nb 6 b.a) := by show _ = _; rw [packL_nb, hX, Int.toNat_natCast]
  have hX2 : X < 65536 := by omega
  rw [HP.out]
  have HM : Hid (∀ W, Calls Tryd.prog 23 #[.int .i64 X, .int .i64 2] W fun e w' => e = .returned (.string ⟨(putL X 2).toArray⟩) ∧ Below W.heap.size W w') := by
    intro W
    exact must_fits X 2 W (by decide) (by decide) (by omega)
  have hW : IntKind.i64.wrap (X : Int) = (X : Int) := by rw [IntKind.wrap_i64]; omega
  have hl1 := putL_length X 2
  have hl2 := nb_len 6 b.a
  generalize putL X 2 = y at *
  have hadd : ∀ W, (Op.stringOp .add ⟨y.toArray⟩ ⟨(nb 6 b.a).toArray⟩).run Tryd.prog W = .ok (.string ⟨(y ++ nb 6 b.a).toArray⟩) W := fun W => run_string_add_lists W _ _ (by omega) (by omega)
  go_enter Tryd.func25, Tryd.ntmps25
  go_upto_region 1 with (fail)
  generalize (w.alloc (.cells (brC b) 27)) = w1 at *
  go_wp2_with (refine load_blk (k := 0) 27 (brC b) (by rfl) rfl rfl HA (by kernel_rfl) (by kernel_rfl) rfl ?_)
  refine (HR.out _).mono ?_
  rintro e w2 ⟨rfl, k2⟩
  have HA2 := HA.kept k2
  have B2 := B0.trans (k2.mono B0.size)
  obtain ⟨c0, c1, c2, c3, c4, c5, c6', c7⟩ := br_cells HA2
  go_upto_region 3 with (fail)
  refine wp_region_noPanic ?_
  refine wp_region_held_drew (S := (fun w' => (w'.cell? ⟨w.heap.size, 0, none⟩ = some (.int .i64 b.p) ∧ w'.cell? ⟨w.heap.size, 1, none⟩ = some (.int .i64 b.e)) ∧ Blk w' w.heap.size 27 (brC b))) (by kernel_rfl) ?_ (fun hHeld => ?_)
  · exact ⟨⟨c0, c1⟩, HA2⟩
  refine wpAnyH_take (i := 0) (v := ?_) rfl (by kernel_rfl) (by kernel_rfl) (by kernel_rfl) (fun _ _ _ h => h) (Or.inl ⟨by rfl, ?_⟩) (by assumption) ?_
  rotate_left
  · (intro w hSw; (try dsimp only at hSw); go_simp; (try with_reducible rfl))
  (try simp only [Act.put, List.getElem_toArray, List.getElem_cons_zero, List.getElem_cons_succ, List.setIfInBounds_toArray, List.set_cons_zero, List.set_cons_succ])
  refine wpAnyH_take (i := 1) (v := ?_) rfl (by kernel_rfl) (by kernel_rfl) (by kernel_rfl) (fun _ _ _ h => h) (Or.inl ⟨by rfl, ?_⟩) (by assumption) ?_
  rotate_left
  · (intro w hSw; (try dsimp only at hSw); go_simp; (try with_reducible rfl))
  (try simp only [Act.put, List.getElem_toArray, List.getElem_cons_zero, List.getElem_cons_succ, List.setIfInBounds_toArray, List.set_cons_zero, List.set_cons_succ])
  refine wpAnyH_take (i := 2) (v := ?_) rfl (by kernel_rfl) (by kernel_rfl) (by kernel_rfl) (fun _ _ _ h => h) (Or.inl ⟨by rfl, ?_⟩) (by assumption) ?_
  rotate_left
  · (intro w hSw; (try dsimp only at hSw); go_simp; (try with_reducible rfl))
  (try simp only [Act.put, List.getElem_toArray, List.getElem_cons_zero, List.getElem_cons_succ, List.setIfInBounds_toArray, List.set_cons_zero, List.set_cons_succ])
  refine wpAnyH_take (i := 3) (v := ?_) rfl (by kernel_rfl) (by kernel_rfl) (by kernel_rfl) (fun _ _ _ h => h) (Or.inl ⟨by rfl, ?_⟩) (by assumption) ?_
  rotate_left
  · (intro w hSw; (try dsimp only at hSw); go_simp; (try with_reducible rfl))
  (try simp only [Act.put, List.getElem_toArray, List.getElem_cons_zero, List.getElem_cons_succ, List.setIfInBounds_toArray, List.set_cons_zero, List.set_cons_succ])
  refine wpAnyH_take (i := 4) (v := ?_) rfl (by kernel_rfl) (by kernel_rfl) (by kernel_rfl) (fun _ _ _ h => h) (Or.inl ⟨by rfl, ?_⟩) (by assumption) ?_
  rotate_left
  · (intro w hSw; (try dsimp only at hSw); go_simp; (try with_reducible rfl))
  (try simp only [Act.put, List.getElem_toArray, List.getElem_cons_zero, List.getElem_cons_succ, List.setIfInBounds_toArray, List.set_cons_zero, List.set_cons_succ])
  refine wpAnyH_take (i := 6) (v := ?_) rfl (by kernel_rfl) (by kernel_rfl) (by kernel_rfl) (fun _ _ _ h => h) (Or.inl ⟨by rfl, ?_⟩) (by assumption) ?_
  rotate_left
  · (intro w hSw; (try dsimp only at hSw); go_simp; (try with_reducible rfl))
  (try simp only [Act.put, List.getElem_toArray, List.getElem_cons_zero, List.getElem_cons_succ, List.setIfInBounds_toArray, List.set_cons_zero, List.set_cons_succ])
  refine wpAnyH_take (i := 7) (v := ?_) rfl (by kernel_rfl) (by kernel_rfl) (by kernel_rfl) (fun _ _ _ h => h) (Or.inl ⟨by rfl, ?_⟩) (by assumption) ?_
  rotate_left
  · (intro w hSw; (try dsimp only at hSw); go_simp; (try with_reducible rfl))
  (try simp only [Act.put, List.getElem_toArray, List.getElem_cons_zero, List.getElem_cons_succ, List.setIfInBounds_toArray, List.set_cons_zero, List.set_cons_succ])
  refine wpAnyH_take (i := 8) (v := .string ⟨(nb 6 b.a).toArray⟩) rfl (by kernel_rfl) (by kernel_rfl) (by kernel_rfl) (fun _ _ _ h => h) (Or.inl ⟨by rfl, fun w hSw => exec_text (k := 2) (n := 6) b.a rfl rfl hb (fun j hj => six_of (k := 2) hSw.2 rfl j hj)⟩) (by assumption) ?_
  (try simp only [Act.put, List.getElem_toArray, List.getElem_cons_zero, List.getElem_cons_succ, List.setIfInBounds_toArray, List.set_cons_zero, List.set_cons_succ])
  refine wpAnyH_ready (rs := [5]) (by kernel_rfl) (by simp) ?_
  refine AllReadyH.cons rfl (fun K hK => ?_) AllReadyH.nil
  simp only [List.getElem_toArray, List.getElem_cons_zero, List.getElem_cons_succ]
  go_simp
  with_reducible refine (HM.out _).mono ?_
  rintro e w3 ⟨rfl, k3⟩
  have HA3 := HA2.drew.kept k3
  have B3 := B2.drew.trans (k3.mono B2.size)
  obtain ⟨d0, d1, _⟩ := br_cells HA3
  refine hK.out _ _ ?_ (fun hHeld => ?_)
  · exact ⟨⟨d0, d1⟩, HA3⟩
  clear hK K
  (try simp only [Act.put, List.getElem_toArray, List.getElem_cons_zero, List.getElem_cons_succ, List.setIfInBounds_toArray, List.set_cons_zero, List.set_cons_succ])
  refine wpAnyH_take (i := 9) (v := ?_) rfl (by kernel_rfl) (by kernel_rfl) (by kernel_rfl) (fun _ _ _ h => h) (Or.inl ⟨by rfl, ?_⟩) (by assumption) ?_
  rotate_left
  · (intro w hSw; (try dsimp only at hSw); go_simp; (try with_reducible rfl))
  (try simp only [Act.put, List.getElem_toArray, List.getElem_cons_zero, List.getElem_cons_succ, List.setIfInBounds_toArray, List.set_cons_zero, List.set_cons_succ])
  refine wpAnyH_take (i := 10) (v := ?_) rfl (by kernel_rfl) (by kernel_rfl) (by kernel_rfl) (fun _ _ _ h => h) (Or.inl ⟨by rfl, ?_⟩) (by assumption) ?_
  rotate_left
  · (intro w hSw; (try dsimp only at hSw); go_simp; (try with_reducible rfl))
  (try simp only [Act.put, List.getElem_toArray, List.getElem_cons_zero, List.getElem_cons_succ, List.setIfInBounds_toArray, List.set_cons_zero, List.set_cons_succ])
  refine wpAnyH_take (i := 11) (v := ?_) rfl (by kernel_rfl) (by kernel_rfl) (by kernel_rfl) (fun _ _ _ h => h) (Or.inl ⟨by rfl, ?_⟩) (by assumption) ?_
  rotate_left
  · (intro w hSw; (try dsimp only at hSw); go_simp; (try with_reducible rfl))
  (try simp only [Act.put, List.getElem_toArray, List.getElem_cons_zero, List.getElem_cons_succ, List.setIfInBounds_toArray, List.set_cons_zero, List.set_cons_succ])
  refine wpAnyH_done (by kernel_rfl) ?_ _
  refine NoPanic.normal ?_
  go_wp2
  go_ret2
  exact ⟨rfl, B3⟩

set_option maxHeartbeats 3200000 in
theorem refPack_yes (b : Br) (h : okB b = true) (hb : byB b) (w : World) :
    Calls Tryd.prog 17 #[.agg (brC b)] w fun e w' => e = .returned (.tuple #[.string ⟨(packL b).toArray⟩, .int .i64 0]) ∧ Below w.heap.size w w' := by
  have HA := Blk.new w 27 (brC b)
  have B0 : Below w.heap.size w (w.alloc (.cells (brC b) 27)) := (Below.refl _ _).alloc (Nat.le_refl _) _
  have HR := Lib.hid (fun W => refRight_any b W)
  rw [h] at HR
  obtain ⟨p0, p1, _, e0, e1⟩ := okB_all h
  obtain ⟨X, hX⟩ := Int.eq_ofNat_of_zero_le (show 0 ≤ b.p + b.e by omega)
  have HP : Hid (packL b = putL X 2 ++ nb 6 b.a) := by show _ = _; rw [packL_nb, hX, Int.toNat_natCast]
  have hX2 : X < 65536 := by omega
  rw [HP.out]
  have HM : Hid (∀ W, Calls Tryd.prog 19 #[.int .i64 X, .int .i64 2] W fun e w' => e = .returned (.string ⟨(putL X 2).toArray⟩) ∧ Below W.heap.size W w') := by
    intro W
    have q := be_any X 2 W (by omega) (by omega) (by decide)
    rw [Int.toNat_natCast] at q
    exact q
  have hW : IntKind.i64.wrap (X : Int) = (X : Int) := by rw [IntKind.wrap_i64]; omega
  have hl1 := putL_length X 2
  have hl2 := nb_len 6 b.a
  generalize putL X 2 = y at *
  have hadd : ∀ W, (Op.stringOp .add ⟨y.toArray⟩ ⟨(nb 6 b.a).toArray⟩).run Tryd.prog W = .ok (.string ⟨(y ++ nb 6 b.a).toArray⟩) W := fun W => run_string_add_lists W _ _ (by omega) (by omega)
  go_enter Tryd.func17, Tryd.ntmps17
  go_upto_region 1 with (fail)
  generalize (w.alloc (.cells (brC b) 27)) = w1 at *
  go_wp2_with (refine load_blk (k := 0) 27 (brC b) (by rfl) rfl rfl HA (by kernel_rfl) (by kernel_rfl) rfl ?_)
  refine (HR.out _).mono ?_
  rintro e w2 ⟨rfl, k2⟩
  have HA2 := HA.kept k2
  have B2 := B0.trans (k2.mono B0.size)
  obtain ⟨c0, c1, c2, c3, c4, c5, c6', c7⟩ := br_cells HA2
  go_upto_region 3 with (fail)
  refine wp_region_noPanic ?_
  refine wp_region_held_drew (S := (fun w' => (w'.cell? ⟨w.heap.size, 0, none⟩ = some (.int .i64 b.p) ∧ w'.cell? ⟨w.heap.size, 1, none⟩ = some (.int .i64 b.e)) ∧ Blk w' w.heap.size 27 (brC b))) (by kernel_rfl) ?_ (fun hHeld => ?_)
  · exact ⟨⟨c0, c1⟩, HA2⟩
  refine wpAnyH_take (i := 0) (v := ?_) rfl (by kernel_rfl) (by kernel_rfl) (by kernel_rfl) (fun _ _ _ h => h) (Or.inl ⟨by rfl, ?_⟩) (by assumption) ?_
  rotate_left
  · (intro w hSw; (try dsimp only at hSw); go_simp; (try with_reducible rfl))
  (try simp only [Act.put, List.getElem_toArray, List.getElem_cons_zero, List.getElem_cons_succ, List.setIfInBounds_toArray, List.set_cons_zero, List.set_cons_succ])
  refine wpAnyH_take (i := 1) (v := ?_) rfl (by kernel_rfl) (by kernel_rfl) (by kernel_rfl) (fun _ _ _ h => h) (Or.inl ⟨by rfl, ?_⟩) (by assumption) ?_
  rotate_left
  · (intro w hSw; (try dsimp only at hSw); go_simp; (try with_reducible rfl))
  (try simp only [Act.put, List.getElem_toArray, List.getElem_cons_zero, List.getElem_cons_succ, List.setIfInBounds_toArray, List.set_cons_zero, List.set_cons_succ])
  refine wpAnyH_take (i := 2) (v := ?_) rfl (by kernel_rfl) (by kernel_rfl) (by kernel_rfl) (fun _ _ _ h => h) (Or.inl ⟨by rfl, ?_⟩) (by assumption) ?_
  rotate_left
  · (intro w hSw; (try dsimp only at hSw); go_simp; (try with_reducible rfl))
  (try simp only [Act.put, List.getElem_toArray, List.getElem_cons_zero, List.getElem_cons_succ, List.setIfInBounds_toArray, List.set_cons_zero, List.set_cons_succ])
  refine wpAnyH_take (i := 3) (v := ?_) rfl (by kernel_rfl) (by kernel_rfl) (by kernel_rfl) (fun _ _ _ h => h) (Or.inl ⟨by rfl, ?_⟩) (by assumption) ?_
  rotate_left
  · (intro w hSw; (try dsimp only at hSw); go_simp; (try with_reducible rfl))
  (try simp only [Act.put, List.getElem_toArray, List.getElem_cons_zero, List.getElem_cons_succ, List.setIfInBounds_toArray, List.set_cons_zero, List.set_cons_succ])
  refine wpAnyH_take (i := 4) (v := ?_) rfl (by kernel_rfl) (by kernel_rfl) (by kernel_rfl) (fun _ _ _ h => h) (Or.inl ⟨by rfl, ?_⟩) (by assumption) ?_
  rotate_left
  · (intro w hSw; (try dsimp only at hSw); go_simp; (try with_reducible rfl))
  (try simp only [Act.put, List.getElem_toArray, List.getElem_cons_zero, List.getElem_cons_succ, List.setIfInBounds_toArray, List.set_cons_zero, List.set_cons_succ])
  refine wpAnyH_take (i := 6) (v := ?_) rfl (by kernel_rfl) (by kernel_rfl) (by kernel_rfl) (fun _ _ _ h => h) (Or.inl ⟨by rfl, ?_⟩) (by assumption) ?_
  rotate_left
  · (intro w hSw; (try dsimp only at hSw); go_simp; (try with_reducible rfl))
  (try simp only [Act.put, List.getElem_toArray, List.getElem_cons_zero, List.getElem_cons_succ, List.setIfInBounds_toArray, List.set_cons_zero, List.set_cons_succ])
  refine wpAnyH_take (i := 7) (v := ?_) rfl (by kernel_rfl) (by kernel_rfl) (by kernel_rfl) (fun _ _ _ h => h) (Or.inl ⟨by rfl, ?_⟩) (by assumption) ?_
  rotate_left
  · (intro w hSw; (try dsimp only at hSw); go_simp; (try with_reducible rfl))
  (try simp only [Act.put, List.getElem_toArray, List.getElem_cons_zero, List.getElem_cons_succ, List.setIfInBounds_toArray, List.set_cons_zero, List.set_cons_succ])
  refine wpAnyH_take (i := 8) (v := .string ⟨(nb 6 b.a).toArray⟩) rfl (by kernel_rfl) (by kernel_rfl) (by kernel_rfl) (fun _ _ _ h => h) (Or.inl ⟨by rfl, fun w hSw => exec_text (k := 2) (n := 6) b.a rfl rfl hb (fun j hj => six_of (k := 2) hSw.2 rfl j hj)⟩) (by assumption) ?_
  (try simp only [Act.put, List.getElem_toArray, List.getElem_cons_zero, List.getElem_cons_succ, List.setIfInBounds_toArray, List.set_cons_zero, List.set_cons_succ])
  refine wpAnyH_ready (rs := [5]) (by kernel_rfl) (by simp) ?_
  refine AllReadyH.cons rfl (fun K hK => ?_) AllReadyH.nil
  simp only [List.getElem_toArray, List.getElem_cons_zero, List.getElem_cons_succ]
  go_simp
  with_reducible refine (HM.out _).mono ?_
  rintro e w3 ⟨rfl, k3⟩
  have HA3 := HA2.drew.kept k3
  have B3 := B2.drew.trans (k3.mono B2.size)
  obtain ⟨d0, d1, _⟩ := br_cells HA3
  refine hK.out _ _ ?_ (fun hHeld => ?_)
  · exact ⟨⟨d0, d1⟩, HA3⟩
  clear hK K
  (try simp only [Act.put, List.getElem_toArray, List.getElem_cons_zero, List.getElem_cons_succ, List.setIfInBounds_toArray, List.set_cons_zero, List.set_cons_succ])
  refine wpAnyH_take (i := 9) (v := ?_) rfl (by kernel_rfl) (by kernel_rfl) (by kernel_rfl) (fun _ _ _ h => h) (Or.inl ⟨by rfl, ?_⟩) (by assumption) ?_
  rotate_left
  · (intro w hSw; (try dsimp only at hSw); go_simp; (try with_reducible rfl))
  (try simp only [Act.put, List.getElem_toArray, List.getElem_cons_zero, List.getElem_cons_succ, List.setIfInBounds_toArray, List.set_cons_zero, List.set_cons_succ])
  refine wpAnyH_take (i := 10) (v := ?_) rfl (by kernel_rfl) (by kernel_rfl) (by kernel_rfl) (fun _ _ _ h => h) (Or.inl ⟨by rfl, ?_⟩) (by assumption) ?_
  rotate_left
  · (intro w hSw; (try dsimp only at hSw); go_simp; (try with_reducible rfl))
  (try simp only [Act.put, List.getElem_toArray, List.getElem_cons_zero, List.getElem_cons_succ, List.setIfInBounds_toArray, List.set_cons_zero, List.set_cons_succ])
  refine wpAnyH_take (i := 11) (v := ?_) rfl (by kernel_rfl) (by kernel_rfl) (by kernel_rfl) (fun _ _ _ h => h) (Or.inl ⟨by rfl, ?_⟩) (by assumption) ?_
  rotate_left
  · (intro w hSw; (try dsimp only at hSw); go_simp; (try with_reducible rfl))
  (try simp only [Act.put, List.getElem_toArray, List.getElem_cons_zero, List.getElem_cons_succ, List.setIfInBounds_toArray, List.set_cons_zero, List.set_cons_succ])
  refine wpAnyH_done (by kernel_rfl) ?_ _
  refine NoPanic.normal ?_
  go_wp2
  go_ret2
  exact ⟨rfl, B3⟩

set_option maxHeartbeats 3200000 in
theorem packPort_yes (p n : Int) (h : okPt p n = true) (w : World) :
    Calls Tryd.prog 73 #[.agg (ptC p n)] w fun e w' => e = .returned (.tuple #[.string ⟨(ppL p n).toArray⟩, .nilIface]) ∧ Below w.heap.size w w' := by
  have HA := Blk.new w 29 (ptC p n)
  have B0 : Below w.heap.size w (w.alloc (.cells (ptC p n) 29)) := (Below.refl _ _).alloc (Nat.le_refl _) _
  have HR := Lib.hid (fun W => port_any p n W)
  rw [h] at HR
  obtain ⟨p0, p1, _, e0, e1⟩ := okPt_all h
  obtain ⟨X, hX⟩ := Int.eq_ofNat_of_zero_le (show 0 ≤ 256 * p + n by omega)
  have HP : Hid (ppL p n = putL X 2) := by show _ = _; unfold ppL; rw [hX, Int.toNat_natCast]
  have hX2 : X < 65536 := by omega
  rw [HP.out]
  have HM : Hid (∀ W, Calls Tryd.prog 23 #[.int .i64 X, .int .i64 2] W fun e w' => e = .returned (.string ⟨(putL X 2).toArray⟩) ∧ Below W.heap.size W w') := by
    intro W
    exact must_fits X 2 W (by decide) (by decide) (by omega)
  have hW0 : IntKind.i64.wrap (256 * p) = 256 * p := by rw [IntKind.wrap_i64]; omega
  have hW : IntKind.i64.wrap (X : Int) = (X : Int) := by rw [IntKind.wrap_i64]; omega
  generalize putL X 2 = y at *
  go_enter Tryd.func73, Tryd.ntmps73
  go_upto_region 1 with (fail)
  generalize (w.alloc (.cells (ptC p n) 29)) = w1 at *
  go_wp2_with (refine load_blk (k := 0) 29 (ptC p n) (by rfl) rfl rfl HA (by kernel_rfl) (by kernel_rfl) rfl ?_)
  refine (HR.out _).mono ?_
  rintro e w2 ⟨rfl, k2⟩
  have HA2 := HA.kept k2
  have B2 := B0.trans (k2.mono B0.size)
  have c0 := HA2.cv 0 (.int .i64 p) rfl
  have c1 := HA2.cv 1 (.int .i64 n) rfl
  go_wp2_with fail
  with_reducible refine (HM.out _).mono ?_
  rintro e w3 ⟨rfl, k3⟩
  go_wp2
  go_ret2
  exact ⟨rfl, B2.trans (k3.mono B2.size)⟩

set_option maxHeartbeats 3200000 in
theorem refPackPort_yes (p n : Int) (h : okPt p n = true) (w : World) :
    Calls Tryd.prog 69 #[.agg (ptC p n)] w fun e w' => e = .returned (.tuple #[.string ⟨(ppL p n).toArray⟩, .int .i64 0]) ∧ Below w.heap.size w w' := by
  have HA := Blk.new w 29 (ptC p n)
  have B0 : Below w.heap.size w (w.alloc (.cells (ptC p n) 29)) := (Below.refl _ _).alloc (Nat.le_refl _) _
  have HR := Lib.hid (fun W => refPort_any p n W)
  rw [h] at HR
  obtain ⟨p0, p1, _, e0, e1⟩ := okPt_all h
  obtain ⟨X, hX⟩ := Int.eq_ofNat_of_zero_le (show 0 ≤ 256 * p + n by omega)
  have HP : Hid (ppL p n = putL X 2) := by show _ = _; unfold ppL; rw [hX, Int.toNat_natCast]
  have hX2 : X < 65536 := by omega
  rw [HP.out]
  have HM : Hid (∀ W, Calls Tryd.prog 19 #[.int .i64 X, .int .i64 2] W fun e w' => e = .returned (.string ⟨(putL X 2).toArray⟩) ∧ Below W.heap.size W w') := by
    intro W
    have q := be_any X 2 W (by omega) (by omega) (by decide)
    rw [Int.toNat_natCast] at q
    exact q
  have hW0 : IntKind.i64.wrap (p * 256) = p * 256 := by rw [IntKind.wrap_i64]; omega
  have hX3 : p * 256 + n = (X : Int) := by omega
  have hW : IntKind.i64.wrap (X : Int) = (X : Int) := by rw [IntKind.wrap_i64]; omega
  generalize putL X 2 = y at *
  go_enter Tryd.func69, Tryd.ntmps69
  go_upto_region 1 with (fail)
  generalize (w.alloc (.cells (ptC p n) 29)) = w1 at *
  go_wp2_with (refine load_blk (k := 0) 29 (ptC p n) (by rfl) rfl rfl HA (by kernel_rfl) (by kernel_rfl) rfl ?_)
  refine (HR.out _).mono ?_
  rintro e w2 ⟨rfl, k2⟩
  have HA2 := HA.kept k2
  have B2 := B0.trans (k2.mono B0.size)
  have c0 := HA2.cv 0 (.int .i64 p) rfl
  have c1 := HA2.cv 1 (.int .i64 n) rfl
  go_wp2_with fail
  with_reducible refine (HM.out _).mono ?_
  rintro e w3 ⟨rfl, k3⟩
  go_wp2
  go_ret2
  exact ⟨rfl, B2.trans (k3.mono B2.size)⟩

end Go.Proofs.YtajbkoggmhgjfaaDoor
