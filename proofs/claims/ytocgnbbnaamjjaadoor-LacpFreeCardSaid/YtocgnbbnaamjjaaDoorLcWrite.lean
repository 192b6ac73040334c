/- lacp.Write at everything that both sides know. -/
import Derived.Test.YtocgnbbnaamjjaaDoorLcText
namespace Go.Proofs.YtocgnbbnaamjjaaDoor
open Go.RowKit
attribute [local go_sem ↓] Go.wp_at_zero Go.wp_at_succ
set_option linter.unusedSimpArgs false
set_option linter.unusedVariables false
set_option maxRecDepth 100000

theorem lcWrite_no (l : Lc) (h : okLc l = false) (hr : rgLc l) (w : World) :
    Calls Tryd.prog 10 #[.agg (lcC l)] w fun e w' => e = .returned (.tuple #[.string ⟨#[]⟩, .iface 28 (.int .i64 1)]) ∧ Below w.heap.size w w' := by
  have HA := Blk.new w 27 (lcC l)
  have B0 : Below w.heap.size w (w.alloc (.cells (lcC l) 27)) := (Below.refl _ _).alloc (Nat.le_refl _) _
  have HR := Lib.hid (fun W => lcRight_any l hr W)
  rw [h] at HR
  go_enter Tryd.func10, Tryd.ntmps10
  go_upto_region 1 with (fail)
  generalize (w.alloc (.cells (lcC l) 27)) = w1 at *
  go_wp2_with (refine load_blk (k := 0) 27 (lcC l) (by rfl) rfl rfl HA (by kernel_rfl) (by kernel_rfl) rfl ?_)
  refine (HR.out _).mono ?_
  rintro e w2 ⟨rfl, k2⟩
  go_wp2
  go_ret2
  exact ⟨rfl, B0.trans (k2.mono B0.size)⟩

set_option maxHeartbeats 6400000 in
theorem lcWrite_yes (l : Lc) (h : okLc l = true) (hb : byLc l) (hr : rgLc l) (w : World) :
    Calls Tryd.prog 10 #[.agg (lcC l)] w fun e w' => e = .returned (.tuple #[.string ⟨(lcL l).toArray⟩, .nilIface]) ∧ Below w.heap.size w w' := by
  obtain ⟨f0, f1, f2⟩ := okLc_all h
  have HA := Blk.new w 27 (lcC l)
  have B0 : Below w.heap.size w (w.alloc (.cells (lcC l) 27)) := (Below.refl _ _).alloc (Nat.le_refl _) _
  have HR := Lib.hid (fun W => lcRight_any l hr W)
  rw [h] at HR
  have HP1 := Lib.hid (fun W => partyText_any l.a f0 hb.1 W)
  have HP2 := Lib.hid (fun W => partyText_any l.p f1 hb.2 W)
  have HM : Hid (∀ W, Calls Tryd.prog 26 #[.int .i64 l.de, .int .i64 2] W fun e w' => e = .returned (.string ⟨(putL l.de.toNat 2).toArray⟩) ∧ Below W.heap.size W w') := fun W => must_fitI l.de 2 (by decide) (by decide) f2 W
  have HZ1 : Hid (∀ W, Calls Tryd.prog 27 #[.int .i64 12] W fun e w' => e = .returned (.string ⟨(List.replicate 12 (0 : UInt8)).toArray⟩) ∧ Below W.heap.size W w') := fun W => zeros_lc 12 (by decide) W
  have HZ2 : Hid (∀ W, Calls Tryd.prog 27 #[.int .i64 50] W fun e w' => e = .returned (.string ⟨(List.replicate 50 (0 : UInt8)).toArray⟩) ∧ Below W.heap.size W w') := fun W => zeros_lc 50 (by decide) W
  have l0 := pyL_len l.a
  have l1 := pyL_len l.p
  have l2 := putL_length l.de.toNat 2
  have l3 : (List.replicate 12 (0 : UInt8)).length = 12 := rfl
  have l4 : (List.replicate 50 (0 : UInt8)).length = 50 := rfl
  have HL : Hid (lcL l = (((((((([1, 1, 1, 20] ++ pyL l.a) ++ [2, 20]) ++ pyL l.p) ++ [3, 16]) ++ putL l.de.toNat 2) ++ List.replicate 12 0) ++ [0, 0]) ++ List.replicate 50 0)) := by
    show _ = _
    have e : List.replicate 64 (0 : UInt8) = List.replicate 12 0 ++ ([0, 0] ++ List.replicate 50 0) := by rfl
    simp only [lcL, e, List.append_assoc]
  generalize pyL l.a = LA at *
  generalize pyL l.p = LP at *
  generalize putL l.de.toNat 2 = LD at *
  generalize List.replicate 12 (0 : UInt8) = Z12 at *
  generalize List.replicate 50 (0 : UInt8) = Z50 at *
  obtain ⟨y1, hy1⟩ : ∃ z : List UInt8, z = [1, 1, 1, 20] ++ LA := ⟨_, rfl⟩
  have ly1 : y1.length = 22 := by rw [hy1, List.length_append] <;> (try simp only [List.length_cons, List.length_nil]) <;> omega
  have py1 : ∀ W, (Op.stringOp .add ⟨#[1, 1, 1, 20]⟩ ⟨LA.toArray⟩).run Tryd.prog W = .ok (.string ⟨y1.toArray⟩) W := fun W => by rw [hy1]; exact run_string_add_lists W [1, 1, 1, 20] LA (by (try simp only [List.length_cons, List.length_nil]) <;> omega) (by (try simp only [List.length_cons, List.length_nil]) <;> omega)
  obtain ⟨y2, hy2⟩ : ∃ z : List UInt8, z = y1 ++ [2, 20] := ⟨_, rfl⟩
  have ly2 : y2.length = 24 := by rw [hy2, List.length_append] <;> (try simp only [List.length_cons, List.length_nil]) <;> omega
  have py2 : ∀ W, (Op.stringOp .add ⟨y1.toArray⟩ ⟨#[2, 20]⟩).run Tryd.prog W = .ok (.string ⟨y2.toArray⟩) W := fun W => by rw [hy2]; exact run_string_add_lists W y1 [2, 20] (by (try simp only [List.length_cons, List.length_nil]) <;> omega) (by (try simp only [List.length_cons, List.length_nil]) <;> omega)
  obtain ⟨y3, hy3⟩ : ∃ z : List UInt8, z = y2 ++ LP := ⟨_, rfl⟩
  have ly3 : y3.length = 42 := by rw [hy3, List.length_append] <;> (try simp only [List.length_cons, List.length_nil]) <;> omega
  have py3 : ∀ W, (Op.stringOp .add ⟨y2.toArray⟩ ⟨LP.toArray⟩).run Tryd.prog W = .ok (.string ⟨y3.toArray⟩) W := fun W => by rw [hy3]; exact run_string_add_lists W y2 LP (by (try simp only [List.length_cons, List.length_nil]) <;> omega) (by (try simp only [List.length_cons, List.length_nil]) <;> omega)
  obtain ⟨y4, hy4⟩ : ∃ z : List UInt8, z = y3 ++ [3, 16] := ⟨_, rfl⟩
  have ly4 : y4.length = 44 := by rw [hy4, List.length_append] <;> (try simp only [List.length_cons, List.length_nil]) <;> omega
  have py4 : ∀ W, (Op.stringOp .add ⟨y3.toArray⟩ ⟨#[3, 16]⟩).run Tryd.prog W = .ok (.string ⟨y4.toArray⟩) W := fun W => by rw [hy4]; exact run_string_add_lists W y3 [3, 16] (by (try simp only [List.length_cons, List.length_nil]) <;> omega) (by (try simp only [List.length_cons, List.length_nil]) <;> omega)
  obtain ⟨y5, hy5⟩ : ∃ z : List UInt8, z = y4 ++ LD := ⟨_, rfl⟩
  have ly5 : y5.length = 46 := by rw [hy5, List.length_append] <;> (try simp only [List.length_cons, List.length_nil]) <;> omega
  have py5 : ∀ W, (Op.stringOp .add ⟨y4.toArray⟩ ⟨LD.toArray⟩).run Tryd.prog W = .ok (.string ⟨y5.toArray⟩) W := fun W => by rw [hy5]; exact run_string_add_lists W y4 LD (by (try simp only [List.length_cons, List.length_nil]) <;> omega) (by (try simp only [List.length_cons, List.length_nil]) <;> omega)
  obtain ⟨y6, hy6⟩ : ∃ z : List UInt8, z = y5 ++ Z12 := ⟨_, rfl⟩
  have ly6 : y6.length = 58 := by rw [hy6, List.length_append] <;> (try simp only [List.length_cons, List.length_nil]) <;> omega
  have py6 : ∀ W, (Op.stringOp .add ⟨y5.toArray⟩ ⟨Z12.toArray⟩).run Tryd.prog W = .ok (.string ⟨y6.toArray⟩) W := fun W => by rw [hy6]; exact run_string_add_lists W y5 Z12 (by (try simp only [List.length_cons, List.length_nil]) <;> omega) (by (try simp only [List.length_cons, List.length_nil]) <;> omega)
  obtain ⟨y7, hy7⟩ : ∃ z : List UInt8, z = y6 ++ [0, 0] := ⟨_, rfl⟩
  have ly7 : y7.length = 60 := by rw [hy7, List.length_append] <;> (try simp only [List.length_cons, List.length_nil]) <;> omega
  have py7 : ∀ W, (Op.stringOp .add ⟨y6.toArray⟩ ⟨#[0, 0]⟩).run Tryd.prog W = .ok (.string ⟨y7.toArray⟩) W := fun W => by rw [hy7]; exact run_string_add_lists W y6 [0, 0] (by (try simp only [List.length_cons, List.length_nil]) <;> omega) (by (try simp only [List.length_cons, List.length_nil]) <;> omega)
  obtain ⟨y8, hy8⟩ : ∃ z : List UInt8, z = y7 ++ Z50 := ⟨_, rfl⟩
  have ly8 : y8.length = 110 := by rw [hy8, List.length_append] <;> (try simp only [List.length_cons, List.length_nil]) <;> omega
  have py8 : ∀ W, (Op.stringOp .add ⟨y7.toArray⟩ ⟨Z50.toArray⟩).run Tryd.prog W = .ok (.string ⟨y8.toArray⟩) W := fun W => by rw [hy8]; exact run_string_add_lists W y7 Z50 (by (try simp only [List.length_cons, List.length_nil]) <;> omega) (by (try simp only [List.length_cons, List.length_nil]) <;> omega)
  replace HL : Hid (lcL l = y8) := by show _ = _; rw [HL.out, hy8, hy7, hy6, hy5, hy4, hy3, hy2, hy1]
  clear l0 l1 l2 l3 l4 f0 f1 f2 h hb hr hy1 ly1 hy2 ly2 hy3 ly3 hy4 ly4 hy5 ly5 hy6 ly6 hy7 ly7 hy8 ly8
  have K0 : Hid (∀ W : World, Blk W w.heap.size 27 (lcC l) → (fun w' => Blk w' w.heap.size 27 (lcC l) ∧ w'.cell? ⟨w.heap.size, 22, none⟩ = some (.int .i64 l.de)) W) := fun W h => ⟨h, h.c 22⟩
  go_enter Tryd.func10, Tryd.ntmps10
  go_upto_region 1 with (fail)
  generalize (w.alloc (.cells (lcC l) 27)) = w1 at *
  go_wp2_with (refine load_blk (k := 0) 27 (lcC l) (by rfl) rfl rfl HA (by kernel_rfl) (by kernel_rfl) rfl ?_)
  refine (HR.out _).mono ?_
  rintro e w2 ⟨rfl, k2⟩
  have HA2 := HA.kept k2
  have B2 := B0.trans (k2.mono B0.size)
  clear HA B0 k2
  go_wp2_with fail
  refine wp_region_noPanic ?_
  refine wp_region_held_drew (S := fun w' => Blk w' w.heap.size 27 (lcC l) ∧ w'.cell? ⟨w.heap.size, 22, none⟩ = some (.int .i64 l.de)) (by kernel_rfl) ?_ (fun hHeld => ?_)
  · exact K0.out _ HA2
  refine wpAnyH_take (i := 0) (v := ?_) rfl (by kernel_rfl) (by kernel_rfl) (by kernel_rfl) (fun _ _ _ h => h) (Or.inl ⟨by rfl, ?_⟩) (by assumption) ?_
  rotate_left
  · (intro w hSw; (try dsimp only at hSw); go_simp; (try with_reducible rfl))
  (try simp only [Act.put, List.getElem_toArray, List.getElem_cons_zero, List.getElem_cons_succ, List.setIfInBounds_toArray, List.set_cons_zero, List.set_cons_succ])
  refine wpAnyH_take (i := 1) (v := .agg (pyC l.a)) rfl (by kernel_rfl) (by kernel_rfl) (by kernel_rfl) (fun _ _ _ h => h) (Or.inl ⟨by rfl, fun w hSw => exec_load_blk (k := 0) 25 (pyC l.a) rfl rfl hSw.1 (by kernel_rfl) (by kernel_rfl) rfl⟩) (by assumption) ?_
  (try simp only [Act.put, List.getElem_toArray, List.getElem_cons_zero, List.getElem_cons_succ, List.setIfInBounds_toArray, List.set_cons_zero, List.set_cons_succ])
  refine wpAnyH_take (i := 5) (v := ?_) rfl (by kernel_rfl) (by kernel_rfl) (by kernel_rfl) (fun _ _ _ h => h) (Or.inl ⟨by rfl, ?_⟩) (by assumption) ?_
  rotate_left
  · (intro w hSw; (try dsimp only at hSw); go_simp; (try with_reducible rfl))
  (try simp only [Act.put, List.getElem_toArray, List.getElem_cons_zero, List.getElem_cons_succ, List.setIfInBounds_toArray, List.set_cons_zero, List.set_cons_succ])
  refine wpAnyH_take (i := 6) (v := .agg (pyC l.p)) rfl (by kernel_rfl) (by kernel_rfl) (by kernel_rfl) (fun _ _ _ h => h) (Or.inl ⟨by rfl, fun w hSw => exec_load_blk (k := 11) 25 (pyC l.p) rfl rfl hSw.1 (by kernel_rfl) (by kernel_rfl) rfl⟩) (by assumption) ?_
  (try simp only [Act.put, List.getElem_toArray, List.getElem_cons_zero, List.getElem_cons_succ, List.setIfInBounds_toArray, List.set_cons_zero, List.set_cons_succ])
  refine wpAnyH_take (i := 10) (v := ?_) rfl (by kernel_rfl) (by kernel_rfl) (by kernel_rfl) (fun _ _ _ h => h) (Or.inl ⟨by rfl, ?_⟩) (by assumption) ?_
  rotate_left
  · (intro w hSw; (try dsimp only at hSw); go_simp; (try with_reducible rfl))
  (try simp only [Act.put, List.getElem_toArray, List.getElem_cons_zero, List.getElem_cons_succ, List.setIfInBounds_toArray, List.set_cons_zero, List.set_cons_succ])
  refine wpAnyH_take (i := 11) (v := ?_) rfl (by kernel_rfl) (by kernel_rfl) (by kernel_rfl) (fun _ _ _ h => h) (Or.inl ⟨by rfl, ?_⟩) (by assumption) ?_
  rotate_left
  · (intro w hSw; (try dsimp only at hSw); go_simp; (try with_reducible rfl))
  (try simp only [Act.put, List.getElem_toArray, List.getElem_cons_zero, List.getElem_cons_succ, List.setIfInBounds_toArray, List.set_cons_zero, List.set_cons_succ])
  refine wpAnyH_ready (rs := [2]) (by kernel_rfl) (by simp) ?_
  refine AllReadyH.cons rfl (fun K hK => ?_) AllReadyH.nil
  simp only [List.getElem_toArray, List.getElem_cons_zero, List.getElem_cons_succ]
  go_simp
  go_at_call 25; (with_reducible refine (HP1.out _).mono ?_); rintro e w3 ⟨rfl, b3⟩; have HA3 := HA2.drew.kept b3; have B3 := B2.drew.trans (b3.mono B2.drew.size)
  refine hK.out _ _ ?_ (fun hHeld => ?_)
  · exact K0.out _ HA3
  clear hK K
  (try simp only [Act.put, List.getElem_toArray, List.getElem_cons_zero, List.getElem_cons_succ, List.setIfInBounds_toArray, List.set_cons_zero, List.set_cons_succ])
  refine wpAnyH_take (i := 3) (v := ?_) rfl (by kernel_rfl) (by kernel_rfl) (by kernel_rfl) (fun _ _ _ h => h) (Or.inl ⟨by rfl, ?_⟩) (by assumption) ?_
  rotate_left
  · (intro w hSw; (try dsimp only at hSw); go_simp; (try with_reducible rfl))
  (try simp only [Act.put, List.getElem_toArray, List.getElem_cons_zero, List.getElem_cons_succ, List.setIfInBounds_toArray, List.set_cons_zero, List.set_cons_succ])
  refine wpAnyH_take (i := 4) (v := ?_) rfl (by kernel_rfl) (by kernel_rfl) (by kernel_rfl) (fun _ _ _ h => h) (Or.inl ⟨by rfl, ?_⟩) (by assumption) ?_
  rotate_left
  · (intro w hSw; (try dsimp only at hSw); go_simp; (try with_reducible rfl))
  (try simp only [Act.put, List.getElem_toArray, List.getElem_cons_zero, List.getElem_cons_succ, List.setIfInBounds_toArray, List.set_cons_zero, List.set_cons_succ])
  refine wpAnyH_ready (rs := [7]) (by kernel_rfl) (by simp) ?_
  refine AllReadyH.cons rfl (fun K hK => ?_) AllReadyH.nil
  simp only [List.getElem_toArray, List.getElem_cons_zero, List.getElem_cons_succ]
  go_simp
  go_at_call 25; (with_reducible refine (HP2.out _).mono ?_); rintro e w4 ⟨rfl, b4⟩; have HA4 := HA3.kept b4; have B4 := B3.trans (b4.mono B3.size)
  refine hK.out _ _ ?_ (fun hHeld => ?_)
  · exact K0.out _ HA4
  clear hK K
  (try simp only [Act.put, List.getElem_toArray, List.getElem_cons_zero, List.getElem_cons_succ, List.setIfInBounds_toArray, List.set_cons_zero, List.set_cons_succ])
  refine wpAnyH_take (i := 8) (v := ?_) rfl (by kernel_rfl) (by kernel_rfl) (by kernel_rfl) (fun _ _ _ h => h) (Or.inl ⟨by rfl, ?_⟩) (by assumption) ?_
  rotate_left
  · (intro w hSw; (try dsimp only at hSw); go_simp; (try with_reducible rfl))
  (try simp only [Act.put, List.getElem_toArray, List.getElem_cons_zero, List.getElem_cons_succ, List.setIfInBounds_toArray, List.set_cons_zero, List.set_cons_succ])
  refine wpAnyH_take (i := 9) (v := ?_) rfl (by kernel_rfl) (by kernel_rfl) (by kernel_rfl) (fun _ _ _ h => h) (Or.inl ⟨by rfl, ?_⟩) (by assumption) ?_
  rotate_left
  · (intro w hSw; (try dsimp only at hSw); go_simp; (try with_reducible rfl))
  (try simp only [Act.put, List.getElem_toArray, List.getElem_cons_zero, List.getElem_cons_succ, List.setIfInBounds_toArray, List.set_cons_zero, List.set_cons_succ])
  refine wpAnyH_ready (rs := [12]) (by kernel_rfl) (by simp) ?_
  refine AllReadyH.cons rfl (fun K hK => ?_) AllReadyH.nil
  simp only [List.getElem_toArray, List.getElem_cons_zero, List.getElem_cons_succ]
  go_simp
  go_at_call 26; (with_reducible refine (HM.out _).mono ?_); rintro e w5 ⟨rfl, b5⟩; have HA5 := HA4.kept b5; have B5 := B4.trans (b5.mono B4.size)
  refine hK.out _ _ ?_ (fun hHeld => ?_)
  · exact K0.out _ HA5
  clear hK K
  (try simp only [Act.put, List.getElem_toArray, List.getElem_cons_zero, List.getElem_cons_succ, List.setIfInBounds_toArray, List.set_cons_zero, List.set_cons_succ])
  refine wpAnyH_take (i := 13) (v := ?_) rfl (by kernel_rfl) (by kernel_rfl) (by kernel_rfl) (fun _ _ _ h => h) (Or.inl ⟨by rfl, ?_⟩) (by assumption) ?_
  rotate_left
  · (intro w hSw; (try dsimp only at hSw); go_simp; (try with_reducible rfl))
  (try simp only [Act.put, List.getElem_toArray, List.getElem_cons_zero, List.getElem_cons_succ, List.setIfInBounds_toArray, List.set_cons_zero, List.set_cons_succ])
  refine wpAnyH_ready (rs := [14]) (by kernel_rfl) (by simp) ?_
  refine AllReadyH.cons rfl (fun K hK => ?_) AllReadyH.nil
  simp only [List.getElem_toArray, List.getElem_cons_zero, List.getElem_cons_succ]
  go_simp
  go_at_call 27; (with_reducible refine (HZ1.out _).mono ?_); rintro e w6 ⟨rfl, b6⟩; have HA6 := HA5.kept b6; have B6 := B5.trans (b6.mono B5.size)
  refine hK.out _ _ ?_ (fun hHeld => ?_)
  · exact K0.out _ HA6
  clear hK K
  (try simp only [Act.put, List.getElem_toArray, List.getElem_cons_zero, List.getElem_cons_succ, List.setIfInBounds_toArray, List.set_cons_zero, List.set_cons_succ])
  refine wpAnyH_take (i := 15) (v := ?_) rfl (by kernel_rfl) (by kernel_rfl) (by kernel_rfl) (fun _ _ _ h => h) (Or.inl ⟨by rfl, ?_⟩) (by assumption) ?_
  rotate_left
  · (intro w hSw; (try dsimp only at hSw); go_simp; (try with_reducible rfl))
  (try simp only [Act.put, List.getElem_toArray, List.getElem_cons_zero, List.getElem_cons_succ, List.setIfInBounds_toArray, List.set_cons_zero, List.set_cons_succ])
  refine wpAnyH_take (i := 16) (v := ?_) rfl (by kernel_rfl) (by kernel_rfl) (by kernel_rfl) (fun _ _ _ h => h) (Or.inl ⟨by rfl, ?_⟩) (by assumption) ?_
  rotate_left
  · (intro w hSw; (try dsimp only at hSw); go_simp; (try with_reducible rfl))
  (try simp only [Act.put, List.getElem_toArray, List.getElem_cons_zero, List.getElem_cons_succ, List.setIfInBounds_toArray, List.set_cons_zero, List.set_cons_succ])
  refine wpAnyH_ready (rs := [17]) (by kernel_rfl) (by simp) ?_
  refine AllReadyH.cons rfl (fun K hK => ?_) AllReadyH.nil
  simp only [List.getElem_toArray, List.getElem_cons_zero, List.getElem_cons_succ]
  go_simp
  go_at_call 27; (with_reducible refine (HZ2.out _).mono ?_); rintro e w7 ⟨rfl, b7⟩; have HA7 := HA6.kept b7; have B7 := B6.trans (b7.mono B6.size)
  refine hK.out _ _ ?_ (fun hHeld => ?_)
  · exact K0.out _ HA7
  clear hK K
  (try simp only [Act.put, List.getElem_toArray, List.getElem_cons_zero, List.getElem_cons_succ, List.setIfInBounds_toArray, List.set_cons_zero, List.set_cons_succ])
  refine wpAnyH_take (i := 18) (v := ?_) rfl (by kernel_rfl) (by kernel_rfl) (by kernel_rfl) (fun _ _ _ h => h) (Or.inl ⟨by rfl, ?_⟩) (by assumption) ?_
  rotate_left
  · (intro w hSw; (try dsimp only at hSw); go_simp; (try with_reducible rfl))
  (try simp only [Act.put, List.getElem_toArray, List.getElem_cons_zero, List.getElem_cons_succ, List.setIfInBounds_toArray, List.set_cons_zero, List.set_cons_succ])
  refine wpAnyH_take (i := 19) (v := ?_) rfl (by kernel_rfl) (by kernel_rfl) (by kernel_rfl) (fun _ _ _ h => h) (Or.inl ⟨by rfl, ?_⟩) (by assumption) ?_
  rotate_left
  · (intro w hSw; (try dsimp only at hSw); go_simp; (try with_reducible rfl))
  (try simp only [Act.put, List.getElem_toArray, List.getElem_cons_zero, List.getElem_cons_succ, List.setIfInBounds_toArray, List.set_cons_zero, List.set_cons_succ])
  refine wpAnyH_take (i := 20) (v := ?_) rfl (by kernel_rfl) (by kernel_rfl) (by kernel_rfl) (fun _ _ _ h => h) (Or.inl ⟨by rfl, ?_⟩) (by assumption) ?_
  rotate_left
  · (intro w hSw; (try dsimp only at hSw); go_simp; (try with_reducible rfl))
  (try simp only [Act.put, List.getElem_toArray, List.getElem_cons_zero, List.getElem_cons_succ, List.setIfInBounds_toArray, List.set_cons_zero, List.set_cons_succ])
  refine wpAnyH_done (by kernel_rfl) ?_ _
  refine NoPanic.normal ?_
  go_wp2
  go_ret2
  exact ⟨by rw [HL.out]; rfl, B7⟩

end Go.Proofs.YtocgnbbnaamjjaaDoor
