/- lacp.WriteMark at every marker; lacp.Answer. -/
import Derived.Test.YtocgnbbnaamjjaaDoorLcText
namespace Go.Proofs.YtocgnbbnaamjjaaDoor
open Go.RowKit
attribute [local go_sem ↓] Go.wp_at_zero Go.wp_at_succ
set_option linter.unusedSimpArgs false
set_option linter.unusedVariables false
set_option maxRecDepth 100000

theorem mkWrite_no (m : Mk) (h : okMk m = false) (hr : rgMk m) (w : World) :
    Calls Tryd.prog 15 #[.agg (mkC m)] w fun e w' => e = .returned (.tuple #[.string ⟨#[]⟩, .iface 28 (.int .i64 1)]) ∧ Below w.heap.size w w' := by
  have HA := Blk.new w 38 (mkC m)
  have B0 : Below w.heap.size w (w.alloc (.cells (mkC m) 38)) := (Below.refl _ _).alloc (Nat.le_refl _) _
  have HR := Lib.hid (fun W => mkRight_any m hr W)
  rw [h] at HR
  go_enter Tryd.func15, Tryd.ntmps15
  go_upto_region 1 with (fail)
  generalize (w.alloc (.cells (mkC m) 38)) = w1 at *
  go_wp2_with (refine load_blk (k := 0) 38 (mkC m) (by rfl) rfl rfl HA (by kernel_rfl) (by kernel_rfl) rfl ?_)
  refine (HR.out _).mono ?_
  rintro e w2 ⟨rfl, k2⟩
  go_wp2
  go_ret2
  exact ⟨rfl, B0.trans (k2.mono B0.size)⟩

set_option maxHeartbeats 6400000 in
theorem mkWrite_q (m : Mk) (hre : m.re = false) (h : okMk m = true) (hb : byMk m) (hr : rgMk m) (w : World) :
    Calls Tryd.prog 15 #[.agg (mkC m)] w fun e w' => e = .returned (.tuple #[.string ⟨(mkL m).toArray⟩, .nilIface]) ∧ Below w.heap.size w w' := by
  have hx' : fitI 2 m.po = true ∧ fitI 4 m.tx = true := by simpa [okMk] using h
  obtain ⟨f0, f1⟩ := hx'
  have HA := Blk.new w 38 (mkC m)
  have B0 : Below w.heap.size w (w.alloc (.cells (mkC m) 38)) := (Below.refl _ _).alloc (Nat.le_refl _) _
  have HR := Lib.hid (fun W => mkRight_any m hr W)
  rw [h] at HR
  have HM0 : Hid (∀ W, Calls Tryd.prog 26 #[.int .i64 m.po, .int .i64 2] W fun e w' => e = .returned (.string ⟨(putL m.po.toNat 2).toArray⟩) ∧ Below W.heap.size W w') := fun W => must_fitI m.po 2 (by decide) (by decide) f0 W
  have HM1 : Hid (∀ W, Calls Tryd.prog 26 #[.int .i64 m.tx, .int .i64 4] W fun e w' => e = .returned (.string ⟨(putL m.tx.toNat 4).toArray⟩) ∧ Below W.heap.size W w') := fun W => must_fitI m.tx 4 (by decide) (by decide) f1 W
  have HZ1 : Hid (∀ W, Calls Tryd.prog 27 #[.int .i64 2] W fun e w' => e = .returned (.string ⟨(List.replicate 2 (0 : UInt8)).toArray⟩) ∧ Below W.heap.size W w') := fun W => zeros_lc 2 (by decide) W
  have HZ2 : Hid (∀ W, Calls Tryd.prog 27 #[.int .i64 90] W fun e w' => e = .returned (.string ⟨(List.replicate 90 (0 : UInt8)).toArray⟩) ∧ Below W.heap.size W w') := fun W => zeros_lc 90 (by decide) W
  have l0 := putL_length m.po.toNat 2
  have l1 := nb_len 6 m.sy
  have l2 := putL_length m.tx.toNat 4
  have l3 : (List.replicate 2 (0 : UInt8)).length = 2 := rfl
  have l4 : (List.replicate 90 (0 : UInt8)).length = 90 := rfl
  have HL : Hid (mkL m = (((((((([2, 1] ++ [1]) ++ [16]) ++ putL m.po.toNat 2) ++ nb 6 m.sy) ++ putL m.tx.toNat 4) ++ List.replicate 2 0) ++ [0, 0]) ++ List.replicate 90 0)) := by
    show _ = _
    have e : List.replicate 94 (0 : UInt8) = List.replicate 2 0 ++ ([0, 0] ++ List.replicate 90 0) := by rfl
    (simp only [mkL, e, hre, List.append_assoc]) <;> rfl
  generalize putL m.po.toNat 2 = LP at *
  generalize putL m.tx.toNat 4 = LT at *
  generalize List.replicate 2 (0 : UInt8) = Z2 at *
  generalize List.replicate 90 (0 : UInt8) = Z90 at *
  obtain ⟨LA, hLA⟩ : ∃ LA : List UInt8, LA = nb 6 m.sy := ⟨_, rfl⟩
  rw [← hLA] at HL l1
  obtain ⟨y1, hy1⟩ : ∃ z : List UInt8, z = [2, 1] ++ [1] := ⟨_, rfl⟩
  have ly1 : y1.length = 3 := by rw [hy1, List.length_append] <;> (try simp only [List.length_cons, List.length_nil]) <;> omega
  have py1 : ∀ W, (Op.stringOp .add ⟨#[2, 1]⟩ ⟨#[1]⟩).run Tryd.prog W = .ok (.string ⟨y1.toArray⟩) W := fun W => by rw [hy1]; exact run_string_add_lists W [2, 1] [1] (by (try simp only [List.length_cons, List.length_nil]) <;> omega) (by (try simp only [List.length_cons, List.length_nil]) <;> omega)
  obtain ⟨y2, hy2⟩ : ∃ z : List UInt8, z = y1 ++ [16] := ⟨_, rfl⟩
  have ly2 : y2.length = 4 := by rw [hy2, List.length_append] <;> (try simp only [List.length_cons, List.length_nil]) <;> omega
  have py2 : ∀ W, (Op.stringOp .add ⟨y1.toArray⟩ ⟨#[16]⟩).run Tryd.prog W = .ok (.string ⟨y2.toArray⟩) W := fun W => by rw [hy2]; exact run_string_add_lists W y1 [16] (by (try simp only [List.length_cons, List.length_nil]) <;> omega) (by (try simp only [List.length_cons, List.length_nil]) <;> omega)
  obtain ⟨y3, hy3⟩ : ∃ z : List UInt8, z = y2 ++ LP := ⟨_, rfl⟩
  have ly3 : y3.length = 6 := by rw [hy3, List.length_append] <;> (try simp only [List.length_cons, List.length_nil]) <;> omega
  have py3 : ∀ W, (Op.stringOp .add ⟨y2.toArray⟩ ⟨LP.toArray⟩).run Tryd.prog W = .ok (.string ⟨y3.toArray⟩) W := fun W => by rw [hy3]; exact run_string_add_lists W y2 LP (by (try simp only [List.length_cons, List.length_nil]) <;> omega) (by (try simp only [List.length_cons, List.length_nil]) <;> omega)
  obtain ⟨y4, hy4⟩ : ∃ z : List UInt8, z = y3 ++ LA := ⟨_, rfl⟩
  have ly4 : y4.length = 12 := by rw [hy4, List.length_append] <;> (try simp only [List.length_cons, List.length_nil]) <;> omega
  have py4 : ∀ W, (Op.stringOp .add ⟨y3.toArray⟩ ⟨LA.toArray⟩).run Tryd.prog W = .ok (.string ⟨y4.toArray⟩) W := fun W => by rw [hy4]; exact run_string_add_lists W y3 LA (by (try simp only [List.length_cons, List.length_nil]) <;> omega) (by (try simp only [List.length_cons, List.length_nil]) <;> omega)
  obtain ⟨y5, hy5⟩ : ∃ z : List UInt8, z = y4 ++ LT := ⟨_, rfl⟩
  have ly5 : y5.length = 16 := by rw [hy5, List.length_append] <;> (try simp only [List.length_cons, List.length_nil]) <;> omega
  have py5 : ∀ W, (Op.stringOp .add ⟨y4.toArray⟩ ⟨LT.toArray⟩).run Tryd.prog W = .ok (.string ⟨y5.toArray⟩) W := fun W => by rw [hy5]; exact run_string_add_lists W y4 LT (by (try simp only [List.length_cons, List.length_nil]) <;> omega) (by (try simp only [List.length_cons, List.length_nil]) <;> omega)
  obtain ⟨y6, hy6⟩ : ∃ z : List UInt8, z = y5 ++ Z2 := ⟨_, rfl⟩
  have ly6 : y6.length = 18 := by rw [hy6, List.length_append] <;> (try simp only [List.length_cons, List.length_nil]) <;> omega
  have py6 : ∀ W, (Op.stringOp .add ⟨y5.toArray⟩ ⟨Z2.toArray⟩).run Tryd.prog W = .ok (.string ⟨y6.toArray⟩) W := fun W => by rw [hy6]; exact run_string_add_lists W y5 Z2 (by (try simp only [List.length_cons, List.length_nil]) <;> omega) (by (try simp only [List.length_cons, List.length_nil]) <;> omega)
  obtain ⟨y7, hy7⟩ : ∃ z : List UInt8, z = y6 ++ [0, 0] := ⟨_, rfl⟩
  have ly7 : y7.length = 20 := by rw [hy7, List.length_append] <;> (try simp only [List.length_cons, List.length_nil]) <;> omega
  have py7 : ∀ W, (Op.stringOp .add ⟨y6.toArray⟩ ⟨#[0, 0]⟩).run Tryd.prog W = .ok (.string ⟨y7.toArray⟩) W := fun W => by rw [hy7]; exact run_string_add_lists W y6 [0, 0] (by (try simp only [List.length_cons, List.length_nil]) <;> omega) (by (try simp only [List.length_cons, List.length_nil]) <;> omega)
  obtain ⟨y8, hy8⟩ : ∃ z : List UInt8, z = y7 ++ Z90 := ⟨_, rfl⟩
  have ly8 : y8.length = 110 := by rw [hy8, List.length_append] <;> (try simp only [List.length_cons, List.length_nil]) <;> omega
  have py8 : ∀ W, (Op.stringOp .add ⟨y7.toArray⟩ ⟨Z90.toArray⟩).run Tryd.prog W = .ok (.string ⟨y8.toArray⟩) W := fun W => by rw [hy8]; exact run_string_add_lists W y7 Z90 (by (try simp only [List.length_cons, List.length_nil]) <;> omega) (by (try simp only [List.length_cons, List.length_nil]) <;> omega)
  replace HL : Hid (mkL m = y8) := by show _ = _; rw [HL.out, hy8, hy7, hy6, hy5, hy4, hy3, hy2, hy1]
  have HLA := Lib.hid hLA
  clear hLA l0 l1 l2 l3 l4 f0 f1 h hr hy1 ly1 hy2 ly2 hy3 ly3 hy4 ly4 hy5 ly5 hy6 ly6 hy7 ly7 hy8 ly8
  have K0 : Hid (∀ W : World, Blk W w.heap.size 38 (mkC m) → (fun w' => Blk w' w.heap.size 38 (mkC m) ∧ w'.cell? ⟨w.heap.size, 1, none⟩ = some (.int .i64 m.po) ∧ w'.cell? ⟨w.heap.size, 8, none⟩ = some (.int .i64 m.tx)) W) := fun W h => ⟨h, h.c 1, h.c 8⟩
  have HRE : Hid (∀ W : World, Blk W w.heap.size 38 (mkC m) → W.cell? ⟨w.heap.size, 0, none⟩ = some (.bool false)) := fun W h => by rw [← hre]; exact h.c 0
  clear hre
  go_enter Tryd.func15, Tryd.ntmps15
  go_upto_region 1 with (fail)
  generalize (w.alloc (.cells (mkC m) 38)) = w1 at *
  go_wp2_with (refine load_blk (k := 0) 38 (mkC m) (by rfl) rfl rfl HA (by kernel_rfl) (by kernel_rfl) rfl ?_)
  refine (HR.out _).mono ?_
  rintro e w2 ⟨rfl, k2⟩
  have HA2 := HA.kept k2
  have B2 := B0.trans (k2.mono B0.size)
  have c0 := HRE.out _ HA2
  clear HA B0 k2
  go_wp2_with fail
  refine wp_region_noPanic ?_
  refine wp_region_held_drew (S := fun w' => Blk w' w.heap.size 38 (mkC m) ∧ w'.cell? ⟨w.heap.size, 1, none⟩ = some (.int .i64 m.po) ∧ w'.cell? ⟨w.heap.size, 8, none⟩ = some (.int .i64 m.tx)) (by kernel_rfl) ?_ (fun hHeld => ?_)
  · exact K0.out _ HA2
  refine wpAnyH_take (i := 0) (v := ?_) rfl (by kernel_rfl) (by kernel_rfl) (by kernel_rfl) (fun _ _ _ h => h) (Or.inl ⟨by rfl, ?_⟩) (by assumption) ?_
  rotate_left
  · (intro w hSw; (try dsimp only at hSw); go_simp; (try with_reducible rfl))
  (try simp only [Act.put, List.getElem_toArray, List.getElem_cons_zero, List.getElem_cons_succ, List.setIfInBounds_toArray, List.set_cons_zero, List.set_cons_succ])
  refine wpAnyH_take (i := 1) (v := ?_) rfl (by kernel_rfl) (by kernel_rfl) (by kernel_rfl) (fun _ _ _ h => h) (Or.inl ⟨by rfl, ?_⟩) (by assumption) ?_
  rotate_left
  · (intro w hSw; (try dsimp only at hSw); go_simp; (try with_reducible rfl))
  (try simp only [Act.put, List.getElem_toArray, List.getElem_cons_zero, List.getElem_cons_succ, List.setIfInBounds_toArray, List.set_cons_zero, List.set_cons_succ])
  refine wpAnyH_take (i := 2) (v := ?_) rfl (by kernel_rfl) (by kernel_rfl) (by kernel_rfl) (fun _ _ _ h => h) (Or.inl ⟨by rfl, ?_⟩) (by assumption) ?_
  rotate_left
  · (intro w hSw; (try dsimp only at hSw); go_simp; (try with_reducible rfl))
  (try simp only [Act.put, List.getElem_toArray, List.getElem_cons_zero, List.getElem_cons_succ, List.setIfInBounds_toArray, List.set_cons_zero, List.set_cons_succ])
  refine wpAnyH_take (i := 3) (v := ?_) rfl (by kernel_rfl) (by kernel_rfl) (by kernel_rfl) (fun _ _ _ h => h) (Or.inl ⟨by rfl, ?_⟩) (by assumption) ?_
  rotate_left
  · (intro w hSw; (try dsimp only at hSw); go_simp; (try with_reducible rfl))
  (try simp only [Act.put, List.getElem_toArray, List.getElem_cons_zero, List.getElem_cons_succ, List.setIfInBounds_toArray, List.set_cons_zero, List.set_cons_succ])
  refine wpAnyH_take (i := 4) (v := ?_) rfl (by kernel_rfl) (by kernel_rfl) (by kernel_rfl) (fun _ _ _ h => h) (Or.inl ⟨by rfl, ?_⟩) (by assumption) ?_
  rotate_left
  · (intro w hSw; (try dsimp only at hSw); go_simp; (try with_reducible rfl))
  (try simp only [Act.put, List.getElem_toArray, List.getElem_cons_zero, List.getElem_cons_succ, List.setIfInBounds_toArray, List.set_cons_zero, List.set_cons_succ])
  refine wpAnyH_take (i := 7) (v := ?_) rfl (by kernel_rfl) (by kernel_rfl) (by kernel_rfl) (fun _ _ _ h => h) (Or.inl ⟨by rfl, ?_⟩) (by assumption) ?_
  rotate_left
  · (intro w hSw; (try dsimp only at hSw); go_simp; (try with_reducible rfl))
  (try simp only [Act.put, List.getElem_toArray, List.getElem_cons_zero, List.getElem_cons_succ, List.setIfInBounds_toArray, List.set_cons_zero, List.set_cons_succ])
  refine wpAnyH_take (i := 8) (v := ?_) rfl (by kernel_rfl) (by kernel_rfl) (by kernel_rfl) (fun _ _ _ h => h) (Or.inl ⟨by rfl, ?_⟩) (by assumption) ?_
  rotate_left
  · (intro w hSw; (try dsimp only at hSw); go_simp; (try with_reducible rfl))
  (try simp only [Act.put, List.getElem_toArray, List.getElem_cons_zero, List.getElem_cons_succ, List.setIfInBounds_toArray, List.set_cons_zero, List.set_cons_succ])
  refine wpAnyH_take (i := 9) (v := .string ⟨LA.toArray⟩) rfl (by kernel_rfl) (by kernel_rfl) (by kernel_rfl) (fun _ _ _ h => h) (Or.inl ⟨by rfl, fun w hSw => by rw [HLA.out]; exact exec_text m.sy rfl rfl hb (six_of hSw.1 (k := 2) rfl)⟩) (by assumption) ?_
  (try simp only [Act.put, List.getElem_toArray, List.getElem_cons_zero, List.getElem_cons_succ, List.setIfInBounds_toArray, List.set_cons_zero, List.set_cons_succ])
  refine wpAnyH_take (i := 11) (v := ?_) rfl (by kernel_rfl) (by kernel_rfl) (by kernel_rfl) (fun _ _ _ h => h) (Or.inl ⟨by rfl, ?_⟩) (by assumption) ?_
  rotate_left
  · (intro w hSw; (try dsimp only at hSw); go_simp; (try with_reducible rfl))
  (try simp only [Act.put, List.getElem_toArray, List.getElem_cons_zero, List.getElem_cons_succ, List.setIfInBounds_toArray, List.set_cons_zero, List.set_cons_succ])
  refine wpAnyH_take (i := 12) (v := ?_) rfl (by kernel_rfl) (by kernel_rfl) (by kernel_rfl) (fun _ _ _ h => h) (Or.inl ⟨by rfl, ?_⟩) (by assumption) ?_
  rotate_left
  · (intro w hSw; (try dsimp only at hSw); go_simp; (try with_reducible rfl))
  (try simp only [Act.put, List.getElem_toArray, List.getElem_cons_zero, List.getElem_cons_succ, List.setIfInBounds_toArray, List.set_cons_zero, List.set_cons_succ])
  refine wpAnyH_ready (rs := [5]) (by kernel_rfl) (by simp) ?_
  refine AllReadyH.cons rfl (fun K hK => ?_) AllReadyH.nil
  simp only [List.getElem_toArray, List.getElem_cons_zero, List.getElem_cons_succ]
  go_simp
  go_at_call 26; (with_reducible refine (HM0.out _).mono ?_); rintro e w3 ⟨rfl, b3⟩; have HA3 := HA2.drew.kept b3; have B3 := B2.drew.trans (b3.mono B2.drew.size)
  refine hK.out _ _ ?_ (fun hHeld => ?_)
  · exact K0.out _ HA3
  clear hK K
  (try simp only [Act.put, List.getElem_toArray, List.getElem_cons_zero, List.getElem_cons_succ, List.setIfInBounds_toArray, List.set_cons_zero, List.set_cons_succ])
  refine wpAnyH_take (i := 6) (v := ?_) rfl (by kernel_rfl) (by kernel_rfl) (by kernel_rfl) (fun _ _ _ h => h) (Or.inl ⟨by rfl, ?_⟩) (by assumption) ?_
  rotate_left
  · (intro w hSw; (try dsimp only at hSw); go_simp; (try with_reducible rfl))
  (try simp only [Act.put, List.getElem_toArray, List.getElem_cons_zero, List.getElem_cons_succ, List.setIfInBounds_toArray, List.set_cons_zero, List.set_cons_succ])
  refine wpAnyH_take (i := 10) (v := ?_) rfl (by kernel_rfl) (by kernel_rfl) (by kernel_rfl) (fun _ _ _ h => h) (Or.inl ⟨by rfl, ?_⟩) (by assumption) ?_
  rotate_left
  · (intro w hSw; (try dsimp only at hSw); go_simp; (try with_reducible rfl))
  (try simp only [Act.put, List.getElem_toArray, List.getElem_cons_zero, List.getElem_cons_succ, List.setIfInBounds_toArray, List.set_cons_zero, List.set_cons_succ])
  refine wpAnyH_ready (rs := [13]) (by kernel_rfl) (by simp) ?_
  refine AllReadyH.cons rfl (fun K hK => ?_) AllReadyH.nil
  simp only [List.getElem_toArray, List.getElem_cons_zero, List.getElem_cons_succ]
  go_simp
  go_at_call 26; (with_reducible refine (HM1.out _).mono ?_); rintro e w4 ⟨rfl, b4⟩; have HA4 := HA3.kept b4; have B4 := B3.trans (b4.mono B3.size)
  refine hK.out _ _ ?_ (fun hHeld => ?_)
  · exact K0.out _ HA4
  clear hK K
  (try simp only [Act.put, List.getElem_toArray, List.getElem_cons_zero, List.getElem_cons_succ, List.setIfInBounds_toArray, List.set_cons_zero, List.set_cons_succ])
  refine wpAnyH_take (i := 14) (v := ?_) rfl (by kernel_rfl) (by kernel_rfl) (by kernel_rfl) (fun _ _ _ h => h) (Or.inl ⟨by rfl, ?_⟩) (by assumption) ?_
  rotate_left
  · (intro w hSw; (try dsimp only at hSw); go_simp; (try with_reducible rfl))
  (try simp only [Act.put, List.getElem_toArray, List.getElem_cons_zero, List.getElem_cons_succ, List.setIfInBounds_toArray, List.set_cons_zero, List.set_cons_succ])
  refine wpAnyH_ready (rs := [15]) (by kernel_rfl) (by simp) ?_
  refine AllReadyH.cons rfl (fun K hK => ?_) AllReadyH.nil
  simp only [List.getElem_toArray, List.getElem_cons_zero, List.getElem_cons_succ]
  go_simp
  go_at_call 27; (with_reducible refine (HZ1.out _).mono ?_); rintro e w5 ⟨rfl, b5⟩; have HA5 := HA4.kept b5; have B5 := B4.trans (b5.mono B4.size)
  refine hK.out _ _ ?_ (fun hHeld => ?_)
  · exact K0.out _ HA5
  clear hK K
  (try simp only [Act.put, List.getElem_toArray, List.getElem_cons_zero, List.getElem_cons_succ, List.setIfInBounds_toArray, List.set_cons_zero, List.set_cons_succ])
  refine wpAnyH_take (i := 16) (v := ?_) rfl (by kernel_rfl) (by kernel_rfl) (by kernel_rfl) (fun _ _ _ h => h) (Or.inl ⟨by rfl, ?_⟩) (by assumption) ?_
  rotate_left
  · (intro w hSw; (try dsimp only at hSw); go_simp; (try with_reducible rfl))
  (try simp only [Act.put, List.getElem_toArray, List.getElem_cons_zero, List.getElem_cons_succ, List.setIfInBounds_toArray, List.set_cons_zero, List.set_cons_succ])
  refine wpAnyH_take (i := 17) (v := ?_) rfl (by kernel_rfl) (by kernel_rfl) (by kernel_rfl) (fun _ _ _ h => h) (Or.inl ⟨by rfl, ?_⟩) (by assumption) ?_
  rotate_left
  · (intro w hSw; (try dsimp only at hSw); go_simp; (try with_reducible rfl))
  (try simp only [Act.put, List.getElem_toArray, List.getElem_cons_zero, List.getElem_cons_succ, List.setIfInBounds_toArray, List.set_cons_zero, List.set_cons_succ])
  refine wpAnyH_ready (rs := [18]) (by kernel_rfl) (by simp) ?_
  refine AllReadyH.cons rfl (fun K hK => ?_) AllReadyH.nil
  simp only [List.getElem_toArray, List.getElem_cons_zero, List.getElem_cons_succ]
  go_simp
  go_at_call 27; (with_reducible refine (HZ2.out _).mono ?_); rintro e w6 ⟨rfl, b6⟩; have HA6 := HA5.kept b6; have B6 := B5.trans (b6.mono B5.size)
  refine hK.out _ _ ?_ (fun hHeld => ?_)
  · exact K0.out _ HA6
  clear hK K
  (try simp only [Act.put, List.getElem_toArray, List.getElem_cons_zero, List.getElem_cons_succ, List.setIfInBounds_toArray, List.set_cons_zero, List.set_cons_succ])
  refine wpAnyH_take (i := 19) (v := ?_) rfl (by kernel_rfl) (by kernel_rfl) (by kernel_rfl) (fun _ _ _ h => h) (Or.inl ⟨by rfl, ?_⟩) (by assumption) ?_
  rotate_left
  · (intro w hSw; (try dsimp only at hSw); go_simp; (try with_reducible rfl))
  (try simp only [Act.put, List.getElem_toArray, List.getElem_cons_zero, List.getElem_cons_succ, List.setIfInBounds_toArray, List.set_cons_zero, List.set_cons_succ])
  refine wpAnyH_take (i := 20) (v := ?_) rfl (by kernel_rfl) (by kernel_rfl) (by kernel_rfl) (fun _ _ _ h => h) (Or.inl ⟨by rfl, ?_⟩) (by assumption) ?_
  rotate_left
  · (intro w hSw; (try dsimp only at hSw); go_simp; (try with_reducible rfl))
  (try simp only [Act.put, List.getElem_toArray, List.getElem_cons_zero, List.getElem_cons_succ, List.setIfInBounds_toArray, List.set_cons_zero, List.set_cons_succ])
  refine wpAnyH_take (i := 21) (v := ?_) rfl (by kernel_rfl) (by kernel_rfl) (by kernel_rfl) (fun _ _ _ h => h) (Or.inl ⟨by rfl, ?_⟩) (by assumption) ?_
  rotate_left
  · (intro w hSw; (try dsimp only at hSw); go_simp; (try with_reducible rfl))
  (try simp only [Act.put, List.getElem_toArray, List.getElem_cons_zero, List.getElem_cons_succ, List.setIfInBounds_toArray, List.set_cons_zero, List.set_cons_succ])
  refine wpAnyH_done (by kernel_rfl) ?_ _
  refine NoPanic.normal ?_
  go_wp2
  go_ret2
  exact ⟨by rw [HL.out]; rfl, B6⟩

set_option maxHeartbeats 6400000 in
theorem mkWrite_r (m : Mk) (hre : m.re = true) (h : okMk m = true) (hb : byMk m) (hr : rgMk m) (w : World) :
    Calls Tryd.prog 15 #[.agg (mkC m)] w fun e w' => e = .returned (.tuple #[.string ⟨(mkL m).toArray⟩, .nilIface]) ∧ Below w.heap.size w w' := by
  have hx' : fitI 2 m.po = true ∧ fitI 4 m.tx = true := by simpa [okMk] using h
  obtain ⟨f0, f1⟩ := hx'
  have HA := Blk.new w 38 (mkC m)
  have B0 : Below w.heap.size w (w.alloc (.cells (mkC m) 38)) := (Below.refl _ _).alloc (Nat.le_refl _) _
  have HR := Lib.hid (fun W => mkRight_any m hr W)
  rw [h] at HR
  have HM0 : Hid (∀ W, Calls Tryd.prog 26 #[.int .i64 m.po, .int .i64 2] W fun e w' => e = .returned (.string ⟨(putL m.po.toNat 2).toArray⟩) ∧ Below W.heap.size W w') := fun W => must_fitI m.po 2 (by decide) (by decide) f0 W
  have HM1 : Hid (∀ W, Calls Tryd.prog 26 #[.int .i64 m.tx, .int .i64 4] W fun e w' => e = .returned (.string ⟨(putL m.tx.toNat 4).toArray⟩) ∧ Below W.heap.size W w') := fun W => must_fitI m.tx 4 (by decide) (by decide) f1 W
  have HZ1 : Hid (∀ W, Calls Tryd.prog 27 #[.int .i64 2] W fun e w' => e = .returned (.string ⟨(List.replicate 2 (0 : UInt8)).toArray⟩) ∧ Below W.heap.size W w') := fun W => zeros_lc 2 (by decide) W
  have HZ2 : Hid (∀ W, Calls Tryd.prog 27 #[.int .i64 90] W fun e w' => e = .returned (.string ⟨(List.replicate 90 (0 : UInt8)).toArray⟩) ∧ Below W.heap.size W w') := fun W => zeros_lc 90 (by decide) W
  have l0 := putL_length m.po.toNat 2
  have l1 := nb_len 6 m.sy
  have l2 := putL_length m.tx.toNat 4
  have l3 : (List.replicate 2 (0 : UInt8)).length = 2 := rfl
  have l4 : (List.replicate 90 (0 : UInt8)).length = 90 := rfl
  have HL : Hid (mkL m = (((((((([2, 1] ++ [2]) ++ [16]) ++ putL m.po.toNat 2) ++ nb 6 m.sy) ++ putL m.tx.toNat 4) ++ List.replicate 2 0) ++ [0, 0]) ++ List.replicate 90 0)) := by
    show _ = _
    have e : List.replicate 94 (0 : UInt8) = List.replicate 2 0 ++ ([0, 0] ++ List.replicate 90 0) := by rfl
    (simp only [mkL, e, hre, List.append_assoc]) <;> rfl
  generalize putL m.po.toNat 2 = LP at *
  generalize putL m.tx.toNat 4 = LT at *
  generalize List.replicate 2 (0 : UInt8) = Z2 at *
  generalize List.replicate 90 (0 : UInt8) = Z90 at *
  obtain ⟨LA, hLA⟩ : ∃ LA : List UInt8, LA = nb 6 m.sy := ⟨_, rfl⟩
  rw [← hLA] at HL l1
  obtain ⟨y1, hy1⟩ : ∃ z : List UInt8, z = [2, 1] ++ [2] := ⟨_, rfl⟩
  have ly1 : y1.length = 3 := by rw [hy1, List.length_append] <;> (try simp only [List.length_cons, List.length_nil]) <;> omega
  have py1 : ∀ W, (Op.stringOp .add ⟨#[2, 1]⟩ ⟨#[2]⟩).run Tryd.prog W = .ok (.string ⟨y1.toArray⟩) W := fun W => by rw [hy1]; exact run_string_add_lists W [2, 1] [2] (by (try simp only [List.length_cons, List.length_nil]) <;> omega) (by (try simp only [List.length_cons, List.length_nil]) <;> omega)
  obtain ⟨y2, hy2⟩ : ∃ z : List UInt8, z = y1 ++ [16] := ⟨_, rfl⟩
  have ly2 : y2.length = 4 := by rw [hy2, List.length_append] <;> (try simp only [List.length_cons, List.length_nil]) <;> omega
  have py2 : ∀ W, (Op.stringOp .add ⟨y1.toArray⟩ ⟨#[16]⟩).run Tryd.prog W = .ok (.string ⟨y2.toArray⟩) W := fun W => by rw [hy2]; exact run_string_add_lists W y1 [16] (by (try simp only [List.length_cons, List.length_nil]) <;> omega) (by (try simp only [List.length_cons, List.length_nil]) <;> omega)
  obtain ⟨y3, hy3⟩ : ∃ z : List UInt8, z = y2 ++ LP := ⟨_, rfl⟩
  have ly3 : y3.length = 6 := by rw [hy3, List.length_append] <;> (try simp only [List.length_cons, List.length_nil]) <;> omega
  have py3 : ∀ W, (Op.stringOp .add ⟨y2.toArray⟩ ⟨LP.toArray⟩).run Tryd.prog W = .ok (.string ⟨y3.toArray⟩) W := fun W => by rw [hy3]; exact run_string_add_lists W y2 LP (by (try simp only [List.length_cons, List.length_nil]) <;> omega) (by (try simp only [List.length_cons, List.length_nil]) <;> omega)
  obtain ⟨y4, hy4⟩ : ∃ z : List UInt8, z = y3 ++ LA := ⟨_, rfl⟩
  have ly4 : y4.length = 12 := by rw [hy4, List.length_append] <;> (try simp only [List.length_cons, List.length_nil]) <;> omega
  have py4 : ∀ W, (Op.stringOp .add ⟨y3.toArray⟩ ⟨LA.toArray⟩).run Tryd.prog W = .ok (.string ⟨y4.toArray⟩) W := fun W => by rw [hy4]; exact run_string_add_lists W y3 LA (by (try simp only [List.length_cons, List.length_nil]) <;> omega) (by (try simp only [List.length_cons, List.length_nil]) <;> omega)
  obtain ⟨y5, hy5⟩ : ∃ z : List UInt8, z = y4 ++ LT := ⟨_, rfl⟩
  have ly5 : y5.length = 16 := by rw [hy5, List.length_append] <;> (try simp only [List.length_cons, List.length_nil]) <;> omega
  have py5 : ∀ W, (Op.stringOp .add ⟨y4.toArray⟩ ⟨LT.toArray⟩).run Tryd.prog W = .ok (.string ⟨y5.toArray⟩) W := fun W => by rw [hy5]; exact run_string_add_lists W y4 LT (by (try simp only [List.length_cons, List.length_nil]) <;> omega) (by (try simp only [List.length_cons, List.length_nil]) <;> omega)
  obtain ⟨y6, hy6⟩ : ∃ z : List UInt8, z = y5 ++ Z2 := ⟨_, rfl⟩
  have ly6 : y6.length = 18 := by rw [hy6, List.length_append] <;> (try simp only [List.length_cons, List.length_nil]) <;> omega
  have py6 : ∀ W, (Op.stringOp .add ⟨y5.toArray⟩ ⟨Z2.toArray⟩).run Tryd.prog W = .ok (.string ⟨y6.toArray⟩) W := fun W => by rw [hy6]; exact run_string_add_lists W y5 Z2 (by (try simp only [List.length_cons, List.length_nil]) <;> omega) (by (try simp only [List.length_cons, List.length_nil]) <;> omega)
  obtain ⟨y7, hy7⟩ : ∃ z : List UInt8, z = y6 ++ [0, 0] := ⟨_, rfl⟩
  have ly7 : y7.length = 20 := by rw [hy7, List.length_append] <;> (try simp only [List.length_cons, List.length_nil]) <;> omega
  have py7 : ∀ W, (Op.stringOp .add ⟨y6.toArray⟩ ⟨#[0, 0]⟩).run Tryd.prog W = .ok (.string ⟨y7.toArray⟩) W := fun W => by rw [hy7]; exact run_string_add_lists W y6 [0, 0] (by (try simp only [List.length_cons, List.length_nil]) <;> omega) (by (try simp only [List.length_cons, List.length_nil]) <;> omega)
  obtain ⟨y8, hy8⟩ : ∃ z : List UInt8, z = y7 ++ Z90 := ⟨_, rfl⟩
  have ly8 : y8.length = 110 := by rw [hy8, List.length_append] <;> (try simp only [List.length_cons, List.length_nil]) <;> omega
  have py8 : ∀ W, (Op.stringOp .add ⟨y7.toArray⟩ ⟨Z90.toArray⟩).run Tryd.prog W = .ok (.string ⟨y8.toArray⟩) W := fun W => by rw [hy8]; exact run_string_add_lists W y7 Z90 (by (try simp only [List.length_cons, List.length_nil]) <;> omega) (by (try simp only [List.length_cons, List.length_nil]) <;> omega)
  replace HL : Hid (mkL m = y8) := by show _ = _; rw [HL.out, hy8, hy7, hy6, hy5, hy4, hy3, hy2, hy1]
  have HLA := Lib.hid hLA
  clear hLA l0 l1 l2 l3 l4 f0 f1 h hr hy1 ly1 hy2 ly2 hy3 ly3 hy4 ly4 hy5 ly5 hy6 ly6 hy7 ly7 hy8 ly8
  have K0 : Hid (∀ W : World, Blk W w.heap.size 38 (mkC m) → (fun w' => Blk w' w.heap.size 38 (mkC m) ∧ w'.cell? ⟨w.heap.size, 1, none⟩ = some (.int .i64 m.po) ∧ w'.cell? ⟨w.heap.size, 8, none⟩ = some (.int .i64 m.tx)) W) := fun W h => ⟨h, h.c 1, h.c 8⟩
  have HRE : Hid (∀ W : World, Blk W w.heap.size 38 (mkC m) → W.cell? ⟨w.heap.size, 0, none⟩ = some (.bool true)) := fun W h => by rw [← hre]; exact h.c 0
  clear hre
  go_enter Tryd.func15, Tryd.ntmps15
  go_upto_region 1 with (fail)
  generalize (w.alloc (.cells (mkC m) 38)) = w1 at *
  go_wp2_with (refine load_blk (k := 0) 38 (mkC m) (by rfl) rfl rfl HA (by kernel_rfl) (by kernel_rfl) rfl ?_)
  refine (HR.out _).mono ?_
  rintro e w2 ⟨rfl, k2⟩
  have HA2 := HA.kept k2
  have B2 := B0.trans (k2.mono B0.size)
  have c0 := HRE.out _ HA2
  clear HA B0 k2
  go_wp2_with fail
  refine wp_region_noPanic ?_
  refine wp_region_held_drew (S := fun w' => Blk w' w.heap.size 38 (mkC m) ∧ w'.cell? ⟨w.heap.size, 1, none⟩ = some (.int .i64 m.po) ∧ w'.cell? ⟨w.heap.size, 8, none⟩ = some (.int .i64 m.tx)) (by kernel_rfl) ?_ (fun hHeld => ?_)
  · exact K0.out _ HA2
  refine wpAnyH_take (i := 0) (v := ?_) rfl (by kernel_rfl) (by kernel_rfl) (by kernel_rfl) (fun _ _ _ h => h) (Or.inl ⟨by rfl, ?_⟩) (by assumption) ?_
  rotate_left
  · (intro w hSw; (try dsimp only at hSw); go_simp; (try with_reducible rfl))
  (try simp only [Act.put, List.getElem_toArray, List.getElem_cons_zero, List.getElem_cons_succ, List.setIfInBounds_toArray, List.set_cons_zero, List.set_cons_succ])
  refine wpAnyH_take (i := 1) (v := ?_) rfl (by kernel_rfl) (by kernel_rfl) (by kernel_rfl) (fun _ _ _ h => h) (Or.inl ⟨by rfl, ?_⟩) (by assumption) ?_
  rotate_left
  · (intro w hSw; (try dsimp only at hSw); go_simp; (try with_reducible rfl))
  (try simp only [Act.put, List.getElem_toArray, List.getElem_cons_zero, List.getElem_cons_succ, List.setIfInBounds_toArray, List.set_cons_zero, List.set_cons_succ])
  refine wpAnyH_take (i := 2) (v := ?_) rfl (by kernel_rfl) (by kernel_rfl) (by kernel_rfl) (fun _ _ _ h => h) (Or.inl ⟨by rfl, ?_⟩) (by assumption) ?_
  rotate_left
  · (intro w hSw; (try dsimp only at hSw); go_simp; (try with_reducible rfl))
  (try simp only [Act.put, List.getElem_toArray, List.getElem_cons_zero, List.getElem_cons_succ, List.setIfInBounds_toArray, List.set_cons_zero, List.set_cons_succ])
  refine wpAnyH_take (i := 3) (v := ?_) rfl (by kernel_rfl) (by kernel_rfl) (by kernel_rfl) (fun _ _ _ h => h) (Or.inl ⟨by rfl, ?_⟩) (by assumption) ?_
  rotate_left
  · (intro w hSw; (try dsimp only at hSw); go_simp; (try with_reducible rfl))
  (try simp only [Act.put, List.getElem_toArray, List.getElem_cons_zero, List.getElem_cons_succ, List.setIfInBounds_toArray, List.set_cons_zero, List.set_cons_succ])
  refine wpAnyH_take (i := 4) (v := ?_) rfl (by kernel_rfl) (by kernel_rfl) (by kernel_rfl) (fun _ _ _ h => h) (Or.inl ⟨by rfl, ?_⟩) (by assumption) ?_
  rotate_left
  · (intro w hSw; (try dsimp only at hSw); go_simp; (try with_reducible rfl))
  (try simp only [Act.put, List.getElem_toArray, List.getElem_cons_zero, List.getElem_cons_succ, List.setIfInBounds_toArray, List.set_cons_zero, List.set_cons_succ])
  refine wpAnyH_take (i := 7) (v := ?_) rfl (by kernel_rfl) (by kernel_rfl) (by kernel_rfl) (fun _ _ _ h => h) (Or.inl ⟨by rfl, ?_⟩) (by assumption) ?_
  rotate_left
  · (intro w hSw; (try dsimp only at hSw); go_simp; (try with_reducible rfl))
  (try simp only [Act.put, List.getElem_toArray, List.getElem_cons_zero, List.getElem_cons_succ, List.setIfInBounds_toArray, List.set_cons_zero, List.set_cons_succ])
  refine wpAnyH_take (i := 8) (v := ?_) rfl (by kernel_rfl) (by kernel_rfl) (by kernel_rfl) (fun _ _ _ h => h) (Or.inl ⟨by rfl, ?_⟩) (by assumption) ?_
  rotate_left
  · (intro w hSw; (try dsimp only at hSw); go_simp; (try with_reducible rfl))
  (try simp only [Act.put, List.getElem_toArray, List.getElem_cons_zero, List.getElem_cons_succ, List.setIfInBounds_toArray, List.set_cons_zero, List.set_cons_succ])
  refine wpAnyH_take (i := 9) (v := .string ⟨LA.toArray⟩) rfl (by kernel_rfl) (by kernel_rfl) (by kernel_rfl) (fun _ _ _ h => h) (Or.inl ⟨by rfl, fun w hSw => by rw [HLA.out]; exact exec_text m.sy rfl rfl hb (six_of hSw.1 (k := 2) rfl)⟩) (by assumption) ?_
  (try simp only [Act.put, List.getElem_toArray, List.getElem_cons_zero, List.getElem_cons_succ, List.setIfInBounds_toArray, List.set_cons_zero, List.set_cons_succ])
  refine wpAnyH_take (i := 11) (v := ?_) rfl (by kernel_rfl) (by kernel_rfl) (by kernel_rfl) (fun _ _ _ h => h) (Or.inl ⟨by rfl, ?_⟩) (by assumption) ?_
  rotate_left
  · (intro w hSw; (try dsimp only at hSw); go_simp; (try with_reducible rfl))
  (try simp only [Act.put, List.getElem_toArray, List.getElem_cons_zero, List.getElem_cons_succ, List.setIfInBounds_toArray, List.set_cons_zero, List.set_cons_succ])
  refine wpAnyH_take (i := 12) (v := ?_) rfl (by kernel_rfl) (by kernel_rfl) (by kernel_rfl) (fun _ _ _ h => h) (Or.inl ⟨by rfl, ?_⟩) (by assumption) ?_
  rotate_left
  · (intro w hSw; (try dsimp only at hSw); go_simp; (try with_reducible rfl))
  (try simp only [Act.put, List.getElem_toArray, List.getElem_cons_zero, List.getElem_cons_succ, List.setIfInBounds_toArray, List.set_cons_zero, List.set_cons_succ])
  refine wpAnyH_ready (rs := [5]) (by kernel_rfl) (by simp) ?_
  refine AllReadyH.cons rfl (fun K hK => ?_) AllReadyH.nil
  simp only [List.getElem_toArray, List.getElem_cons_zero, List.getElem_cons_succ]
  go_simp
  go_at_call 26; (with_reducible refine (HM0.out _).mono ?_); rintro e w3 ⟨rfl, b3⟩; have HA3 := HA2.drew.kept b3; have B3 := B2.drew.trans (b3.mono B2.drew.size)
  refine hK.out _ _ ?_ (fun hHeld => ?_)
  · exact K0.out _ HA3
  clear hK K
  (try simp only [Act.put, List.getElem_toArray, List.getElem_cons_zero, List.getElem_cons_succ, List.setIfInBounds_toArray, List.set_cons_zero, List.set_cons_succ])
  refine wpAnyH_take (i := 6) (v := ?_) rfl (by kernel_rfl) (by kernel_rfl) (by kernel_rfl) (fun _ _ _ h => h) (Or.inl ⟨by rfl, ?_⟩) (by assumption) ?_
  rotate_left
  · (intro w hSw; (try dsimp only at hSw); go_simp; (try with_reducible rfl))
  (try simp only [Act.put, List.getElem_toArray, List.getElem_cons_zero, List.getElem_cons_succ, List.setIfInBounds_toArray, List.set_cons_zero, List.set_cons_succ])
  refine wpAnyH_take (i := 10) (v := ?_) rfl (by kernel_rfl) (by kernel_rfl) (by kernel_rfl) (fun _ _ _ h => h) (Or.inl ⟨by rfl, ?_⟩) (by assumption) ?_
  rotate_left
  · (intro w hSw; (try dsimp only at hSw); go_simp; (try with_reducible rfl))
  (try simp only [Act.put, List.getElem_toArray, List.getElem_cons_zero, List.getElem_cons_succ, List.setIfInBounds_toArray, List.set_cons_zero, List.set_cons_succ])
  refine wpAnyH_ready (rs := [13]) (by kernel_rfl) (by simp) ?_
  refine AllReadyH.cons rfl (fun K hK => ?_) AllReadyH.nil
  simp only [List.getElem_toArray, List.getElem_cons_zero, List.getElem_cons_succ]
  go_simp
  go_at_call 26; (with_reducible refine (HM1.out _).mono ?_); rintro e w4 ⟨rfl, b4⟩; have HA4 := HA3.kept b4; have B4 := B3.trans (b4.mono B3.size)
  refine hK.out _ _ ?_ (fun hHeld => ?_)
  · exact K0.out _ HA4
  clear hK K
  (try simp only [Act.put, List.getElem_toArray, List.getElem_cons_zero, List.getElem_cons_succ, List.setIfInBounds_toArray, List.set_cons_zero, List.set_cons_succ])
  refine wpAnyH_take (i := 14) (v := ?_) rfl (by kernel_rfl) (by kernel_rfl) (by kernel_rfl) (fun _ _ _ h => h) (Or.inl ⟨by rfl, ?_⟩) (by assumption) ?_
  rotate_left
  · (intro w hSw; (try dsimp only at hSw); go_simp; (try with_reducible rfl))
  (try simp only [Act.put, List.getElem_toArray, List.getElem_cons_zero, List.getElem_cons_succ, List.setIfInBounds_toArray, List.set_cons_zero, List.set_cons_succ])
  refine wpAnyH_ready (rs := [15]) (by kernel_rfl) (by simp) ?_
  refine AllReadyH.cons rfl (fun K hK => ?_) AllReadyH.nil
  simp only [List.getElem_toArray, List.getElem_cons_zero, List.getElem_cons_succ]
  go_simp
  go_at_call 27; (with_reducible refine (HZ1.out _).mono ?_); rintro e w5 ⟨rfl, b5⟩; have HA5 := HA4.kept b5; have B5 := B4.trans (b5.mono B4.size)
  refine hK.out _ _ ?_ (fun hHeld => ?_)
  · exact K0.out _ HA5
  clear hK K
  (try simp only [Act.put, List.getElem_toArray, List.getElem_cons_zero, List.getElem_cons_succ, List.setIfInBounds_toArray, List.set_cons_zero, List.set_cons_succ])
  refine wpAnyH_take (i := 16) (v := ?_) rfl (by kernel_rfl) (by kernel_rfl) (by kernel_rfl) (fun _ _ _ h => h) (Or.inl ⟨by rfl, ?_⟩) (by assumption) ?_
  rotate_left
  · (intro w hSw; (try dsimp only at hSw); go_simp; (try with_reducible rfl))
  (try simp only [Act.put, List.getElem_toArray, List.getElem_cons_zero, List.getElem_cons_succ, List.setIfInBounds_toArray, List.set_cons_zero, List.set_cons_succ])
  refine wpAnyH_take (i := 17) (v := ?_) rfl (by kernel_rfl) (by kernel_rfl) (by kernel_rfl) (fun _ _ _ h => h) (Or.inl ⟨by rfl, ?_⟩) (by assumption) ?_
  rotate_left
  · (intro w hSw; (try dsimp only at hSw); go_simp; (try with_reducible rfl))
  (try simp only [Act.put, List.getElem_toArray, List.getElem_cons_zero, List.getElem_cons_succ, List.setIfInBounds_toArray, List.set_cons_zero, List.set_cons_succ])
  refine wpAnyH_ready (rs := [18]) (by kernel_rfl) (by simp) ?_
  refine AllReadyH.cons rfl (fun K hK => ?_) AllReadyH.nil
  simp only [List.getElem_toArray, List.getElem_cons_zero, List.getElem_cons_succ]
  go_simp
  go_at_call 27; (with_reducible refine (HZ2.out _).mono ?_); rintro e w6 ⟨rfl, b6⟩; have HA6 := HA5.kept b6; have B6 := B5.trans (b6.mono B5.size)
  refine hK.out _ _ ?_ (fun hHeld => ?_)
  · exact K0.out _ HA6
  clear hK K
  (try simp only [Act.put, List.getElem_toArray, List.getElem_cons_zero, List.getElem_cons_succ, List.setIfInBounds_toArray, List.set_cons_zero, List.set_cons_succ])
  refine wpAnyH_take (i := 19) (v := ?_) rfl (by kernel_rfl) (by kernel_rfl) (by kernel_rfl) (fun _ _ _ h => h) (Or.inl ⟨by rfl, ?_⟩) (by assumption) ?_
  rotate_left
  · (intro w hSw; (try dsimp only at hSw); go_simp; (try with_reducible rfl))
  (try simp only [Act.put, List.getElem_toArray, List.getElem_cons_zero, List.getElem_cons_succ, List.setIfInBounds_toArray, List.set_cons_zero, List.set_cons_succ])
  refine wpAnyH_take (i := 20) (v := ?_) rfl (by kernel_rfl) (by kernel_rfl) (by kernel_rfl) (fun _ _ _ h => h) (Or.inl ⟨by rfl, ?_⟩) (by assumption) ?_
  rotate_left
  · (intro w hSw; (try dsimp only at hSw); go_simp; (try with_reducible rfl))
  (try simp only [Act.put, List.getElem_toArray, List.getElem_cons_zero, List.getElem_cons_succ, List.setIfInBounds_toArray, List.set_cons_zero, List.set_cons_succ])
  refine wpAnyH_take (i := 21) (v := ?_) rfl (by kernel_rfl) (by kernel_rfl) (by kernel_rfl) (fun _ _ _ h => h) (Or.inl ⟨by rfl, ?_⟩) (by assumption) ?_
  rotate_left
  · (intro w hSw; (try dsimp only at hSw); go_simp; (try with_reducible rfl))
  (try simp only [Act.put, List.getElem_toArray, List.getElem_cons_zero, List.getElem_cons_succ, List.setIfInBounds_toArray, List.set_cons_zero, List.set_cons_succ])
  refine wpAnyH_done (by kernel_rfl) ?_ _
  refine NoPanic.normal ?_
  go_wp2
  go_ret2
  exact ⟨by rw [HL.out]; rfl, B6⟩

theorem mkWrite_yes (m : Mk) (h : okMk m = true) (hb : byMk m) (hr : rgMk m) (w : World) :
    Calls Tryd.prog 15 #[.agg (mkC m)] w fun e w' => e = .returned (.tuple #[.string ⟨(mkL m).toArray⟩, .nilIface]) ∧ Below w.heap.size w w' := by
  cases c : m.re with
  | false => exact mkWrite_q m c h hb hr w
  | true => exact mkWrite_r m c h hb hr w

theorem answer_no (m : Mk) (h : m.re = true) (w : World) :
    Calls Tryd.prog 16 #[.agg (mkC m)] w fun e w' => e = .returned (.tuple #[.agg (mkC zMk), .iface 28 (.int .i64 6)]) ∧ Below w.heap.size w w' := by
  have HA := (Blk.new w 38 (mkC m)).alloc (.cells (mkC zMk) 38)
  have hz : (w.alloc (.cells (mkC m) 38)).heap.size = w.heap.size + 1 := by simp
  have HV := Blk.new (w.alloc (.cells (mkC m) 38)) 38 (mkC zMk)
  have B0 : Below w.heap.size w ((w.alloc (.cells (mkC m) 38)).alloc (.cells (mkC zMk) 38)) := ((Below.refl _ _).alloc (Nat.le_refl _) _).alloc (by simp) _
  have c0 : ((w.alloc (.cells (mkC m) 38)).alloc (.cells (mkC zMk) 38)).cell? ⟨w.heap.size, 0, none⟩ = some (.bool true) := by rw [← h]; exact HA.c 0
  rw [hz] at HV
  clear h
  go_enter Tryd.func16, Tryd.ntmps16
  go_upto_region 1 with (refine alloc_blk 38 (mkC zMk) (by rfl) rfl Tryd.mkZero ?_)
  (try rw [hz])
  generalize (w.alloc (.cells (mkC m) 38)).alloc (.cells (mkC zMk) 38) = w1 at *
  clear hz
  go_wp2_with (first
    | (refine build_blk (t := 38) (mkC zMk) (by rfl) rfl (by kernel_rfl) ?_)
    | (refine store_blk (k := 0) 38 (.agg (mkC zMk)) (mkC zMk) (by rfl) rfl rfl rfl HV (by kernel_rfl) (show (9 : Nat) ≤ 9 from Nat.le_refl 9) (by rfl) rfl ?_; intro w2 HV2 b2 g2; have B2 := B0.trans (b2.mono (by omega))))
  exact bodyPost_ret (results_blk_tmp rfl rfl HV2 (by kernel_rfl) (by kernel_rfl)) rfl ⟨rfl, B2⟩

theorem answer_yes (m : Mk) (h : m.re = false) (w : World) :
    Calls Tryd.prog 16 #[.agg (mkC m)] w fun e w' => e = .returned (.tuple #[.agg (mkC ⟨true, m.po, m.sy, m.tx⟩), .nilIface]) ∧ Below w.heap.size w w' := by
  have HA := (Blk.new w 38 (mkC m)).alloc (.cells (mkC zMk) 38)
  have hz : (w.alloc (.cells (mkC m) 38)).heap.size = w.heap.size + 1 := by simp
  have HV := Blk.new (w.alloc (.cells (mkC m) 38)) 38 (mkC zMk)
  have B0 : Below w.heap.size w ((w.alloc (.cells (mkC m) 38)).alloc (.cells (mkC zMk) 38)) := ((Below.refl _ _).alloc (Nat.le_refl _) _).alloc (by simp) _
  have c0 : ((w.alloc (.cells (mkC m) 38)).alloc (.cells (mkC zMk) 38)).cell? ⟨w.heap.size, 0, none⟩ = some (.bool false) := by rw [← h]; exact HA.c 0
  rw [hz] at HV
  clear h
  go_enter Tryd.func16, Tryd.ntmps16
  go_upto_region 1 with (refine alloc_blk 38 (mkC zMk) (by rfl) rfl Tryd.mkZero ?_)
  (try rw [hz])
  generalize (w.alloc (.cells (mkC m) 38)).alloc (.cells (mkC zMk) 38) = w1 at *
  clear hz
  go_upto_region 4 with (refine store_blk (k := 0) 4 (.bool true) (mkC ⟨true, m.po, m.sy, m.tx⟩) (by rfl) rfl rfl rfl HA (by kernel_rfl) (show (0 + 1 : Nat) ≤ 9 by decide) (by rfl) rfl ?_; intro w2 HA2 b2 g2; have HV2 := HV.grown g2 (by simp); have B2 := B0.trans (b2.mono (by omega)))
  (try simp only [Act.put, List.setIfInBounds_toArray, List.set_cons_zero, List.set_cons_succ])
  go_wp2_with (first
    | (refine load_blk (k := 0) 38 (mkC ⟨true, m.po, m.sy, m.tx⟩) (by rfl) rfl rfl HA2 (by kernel_rfl) (by kernel_rfl) rfl ?_)
    | (refine store_blk (k := 0) 38 (.agg (mkC ⟨true, m.po, m.sy, m.tx⟩)) (mkC ⟨true, m.po, m.sy, m.tx⟩) (by rfl) rfl rfl rfl HV2 (by kernel_rfl) (show (9 : Nat) ≤ 9 from Nat.le_refl 9) (by rfl) rfl ?_; intro w3 HV3 b3 g3; have B3 := B2.trans (b3.mono (by omega))))
  exact bodyPost_ret (results_blk_tmp rfl rfl HV3 (by kernel_rfl) (by kernel_rfl)) rfl ⟨rfl, B3⟩

end Go.Proofs.YtocgnbbnaamjjaaDoor
