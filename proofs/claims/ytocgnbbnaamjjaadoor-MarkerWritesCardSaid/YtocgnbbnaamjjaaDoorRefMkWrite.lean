/- The reference writes a marker. -/
import Derived.Test.YtocgnbbnaamjjaaDoorRefLcWrite
import Derived.Test.YtocgnbbnaamjjaaDoorMapTwoM
namespace Go.Proofs.YtocgnbbnaamjjaaDoor
open Go.RowKit
attribute [local go_sem ↓] Go.wp_at_zero Go.wp_at_succ
set_option linter.unusedSimpArgs false
set_option linter.unusedVariables false
set_option maxRecDepth 100000

theorem refMkWrite_no (m : Mk) (h : okMk m = false) (w : World) :
    Calls Tryd.prog 14 #[.agg (mkC m)] w fun e w' => e = .returned (.tuple #[.string ⟨#[]⟩, .int .i64 1]) ∧ Below w.heap.size w w' := by
  have HA := Blk.new w 38 (mkC m)
  have B0 : Below w.heap.size w (w.alloc (.cells (mkC m) 38)) := (Below.refl _ _).alloc (Nat.le_refl _) _
  have HR := Lib.hid (fun W => refMkRight_any m W)
  rw [h] at HR
  go_enter Tryd.func14, Tryd.ntmps14
  go_upto_region 1 with (fail)
  generalize (w.alloc (.cells (mkC m) 38)) = w1 at *
  go_wp2_with (refine load_blk (k := 0) 38 (mkC m) (by rfl) rfl rfl HA (by kernel_rfl) (by kernel_rfl) rfl ?_)
  refine (HR.out _).mono ?_
  rintro e w2 ⟨rfl, k2⟩
  go_wp2
  go_ret2
  exact ⟨rfl, B0.trans (k2.mono B0.size)⟩

set_option maxHeartbeats 12800000 in
theorem refMkWrite_yes (m : Mk) (h : okMk m = true) (hb : byMk m) (w : World) :
    Calls Tryd.prog 14 #[.agg (mkC m)] w fun e w' => e = .returned (.tuple #[.string ⟨(mkL m).toArray⟩, .int .i64 0]) ∧ Below w.heap.size w w' := by
  have hx' : fitI 2 m.po = true ∧ fitI 4 m.tx = true := by simpa [okMk] using h
  obtain ⟨f0, f1⟩ := hx'
  have hmm := @run_makeMap Tryd.prog
  have HA := Blk.new w 38 (mkC m)
  have B0 : Below w.heap.size w (w.alloc (.cells (mkC m) 38)) := (Below.refl _ _).alloc (Nat.le_refl _) _
  have HR := Lib.hid (fun W => refMkRight_any m W)
  rw [h] at HR
  have HBP : Hid (∀ W, Calls Tryd.prog 24 #[.int .i64 m.po, .int .i64 2] W fun e w' => e = .returned (.string ⟨(putL m.po.toNat 2).toArray⟩) ∧ Below W.heap.size W w') := fun W => be_fit m.po 2 (by decide) f0 W
  have HBT : Hid (∀ W, Calls Tryd.prog 24 #[.int .i64 m.tx, .int .i64 4] W fun e w' => e = .returned (.string ⟨(putL m.tx.toNat 4).toArray⟩) ∧ Below W.heap.size W w') := fun W => be_fit m.tx 4 (by decide) f1 W
  have l0 := putL_length m.po.toNat 2
  have l1 := nb_len 6 m.sy
  have l2 := putL_length m.tx.toNat 4
  obtain ⟨re, hre⟩ : ∃ re : Bool, re = m.re := ⟨_, rfl⟩
  obtain ⟨LR, hLR⟩ : ∃ LR : List UInt8, LR = [if re then 2 else 1] := ⟨_, rfl⟩
  have lR : LR.length = 1 := by rw [hLR]; rfl
  have HL : Hid (mkL m = ((((([2, 1] ++ LR) ++ [16]) ++ putL m.po.toNat 2) ++ nb 6 m.sy) ++ putL m.tx.toNat 4) ++ List.replicate 94 0) := by
    show _ = _
    rw [hLR, hre]
    simp only [mkL, List.append_assoc]
  generalize putL m.po.toNat 2 = LP at *
  generalize putL m.tx.toNat 4 = LT at *
  obtain ⟨LA, hLA⟩ : ∃ LA : List UInt8, LA = nb 6 m.sy := ⟨_, rfl⟩
  rw [← hLA] at HL l1
  obtain ⟨y1, hy1⟩ : ∃ z : List UInt8, z = [2, 1] ++ LR := ⟨_, rfl⟩
  have ly1 : y1.length = 3 := by rw [hy1, List.length_append] <;> (try simp only [List.length_cons, List.length_nil]) <;> omega
  have py1 : ∀ W, (Op.stringOp .add ⟨#[2, 1]⟩ ⟨LR.toArray⟩).run Tryd.prog W = .ok (.string ⟨y1.toArray⟩) W := fun W => by rw [hy1]; exact run_string_add_lists W [2, 1] LR (by (try simp only [List.length_cons, List.length_nil]) <;> omega) (by (try simp only [List.length_cons, List.length_nil]) <;> omega)
  obtain ⟨y2, hy2⟩ : ∃ z : List UInt8, z = y1 ++ [16] := ⟨_, rfl⟩
  have ly2 : y2.length = 4 := by rw [hy2, List.length_append] <;> (try simp only [List.length_cons, List.length_nil]) <;> omega
  have py2 : ∀ W, (Op.stringOp .add ⟨y1.toArray⟩ ⟨#[16]⟩).run Tryd.prog W = .ok (.string ⟨y2.toArray⟩) W := fun W => by rw [hy2]; exact run_string_add_lists W y1 [16] (by (try simp only [List.length_cons, List.length_nil]) <;> omega) (by (try simp only [List.length_cons, List.length_nil]) <;> omega)
  obtain ⟨y3, hy3⟩ : ∃ z : List UInt8, z = y2 ++ LP := ⟨_, rfl⟩
  have ly3 : y3.length = 6 := by rw [hy3, List.length_append] <;> (try simp only [List.length_cons, List.length_nil]) <;> omega
  have py3 : ∀ W, (Op.stringOp .add ⟨y2.toArray⟩ ⟨LP.toArray⟩).run Tryd.prog W = .ok (.string ⟨y3.toArray⟩) W := fun W => by rw [hy3]; exact run_string_add_lists W y2 LP (by (try simp only [List.length_cons, List.length_nil]) <;> omega) (by (try simp only [List.length_cons, List.length_nil]) <;> omega)
  obtain ⟨y4, hy4⟩ : ∃ z : List UInt8, z = y3 ++ LA := ⟨_, rfl⟩
  have ly4 : y4.length = 12 := by rw [hy4, List.length_append] <;> (try simp only [List.length_cons, List.length_nil]) <;> omega
  have py4 : ∀ W, (Op.stringOp .add ⟨y3.toArray⟩ ⟨LA.toArray⟩).run Tryd.prog W = .ok (.string ⟨y4.toArray⟩) W := fun W => by rw [hy4]; exact run_string_add_lists W y3 LA (by (try simp only [List.length_cons, List.length_nil]) <;> omega) (by (try simp only [List.length_cons, List.length_nil]) <;> omega)
  obtain ⟨y5, hy5⟩ : ∃ z : List UInt8, z = y4 ++ LT := ⟨_, rfl⟩
  have ly5 : y5.length = 16 := by rw [hy5, List.length_append] <;> (try simp only [List.length_cons, List.length_nil]) <;> omega
  have py5 : ∀ W, (Op.stringOp .add ⟨y4.toArray⟩ ⟨LT.toArray⟩).run Tryd.prog W = .ok (.string ⟨y5.toArray⟩) W := fun W => by rw [hy5]; exact run_string_add_lists W y4 LT (by (try simp only [List.length_cons, List.length_nil]) <;> omega) (by (try simp only [List.length_cons, List.length_nil]) <;> omega)
  replace HL : Hid (mkL m = y5 ++ List.replicate 94 0) := by show _ = _; rw [HL.out, hy5, hy4, hy3, hy2, hy1]
  have HLS := Lib.hid ly5
  have HP := Lib.hid (fun j (hj : j ≤ 100) => pad_list y5 j (Or.inr ly5) hj)
  have HLA := Lib.hid hLA
  have HLR := Lib.hid hLR
  have HRE : Hid (∀ W : World, Blk W w.heap.size 38 (mkC m) → W.cell? ⟨w.heap.size, 0, none⟩ = some (.bool re)) := fun W h => by rw [hre]; exact h.c 0
  clear hLA hLR hre l0 l1 l2 lR f0 f1 h hy1 ly1 hy2 ly2 hy3 ly3 hy4 ly4 hy5 ly5
  have K0 : Hid (∀ W : World, Blk W w.heap.size 38 (mkC m) → (fun w' => Blk w' w.heap.size 38 (mkC m) ∧ w'.cell? ⟨w.heap.size, 0, none⟩ = some (.bool re) ∧ w'.cell? ⟨w.heap.size, 1, none⟩ = some (.int .i64 m.po) ∧ w'.cell? ⟨w.heap.size, 8, none⟩ = some (.int .i64 m.tx)) W) := fun W h => ⟨h, HRE.out W h, h.c 1, h.c 8⟩
  go_enter Tryd.func14, Tryd.ntmps14
  go_upto_region 1 with (fail)
  generalize (w.alloc (.cells (mkC m) 38)) = w1 at *
  go_wp2_with (refine load_blk (k := 0) 38 (mkC m) (by rfl) rfl rfl HA (by kernel_rfl) (by kernel_rfl) rfl ?_)
  refine (HR.out _).mono ?_
  rintro e w2 ⟨rfl, k2⟩
  have HA2 := HA.kept k2
  have B2 := B0.trans (k2.mono B0.size)
  clear HA B0 k2
  go_wp2_with fail
  refine Code.wp_mono (Q := fun e a w' => e = .normal ∧ (∃ u8 u9 u10 u11 u12 u13 u14 u15 u16 u17 u18 u19 u20 u21 u22 u23 u24 u25 u26, a = { tmps := #[.agg (mkC m), .pointer (some { block := w.heap.size, off := 0 }), .string ⟨#[]⟩, .int .i64 0, .string ⟨y5.toArray⟩, .agg (mkC m), .bool true, .bool false, u8, u9, u10, u11, u12, u13, u14, u15, u16, u17, u18, u19, u20, u21, u22, u23, u24, u25, u26, undef, undef, undef, undef, undef, undef], defers := [] }) ∧ Below w2.heap.size w2 w') ?_ ?_
  rotate_left
  ·
    have k0 : Below w2.heap.size w2 w2.drew := (Below.refl _ _).drew
    refine wp_region_noPanic ?_
    refine wp_region_held_drew (S := fun w' => Blk w' w.heap.size 38 (mkC m) ∧ w'.cell? ⟨w.heap.size, 0, none⟩ = some (.bool re) ∧ w'.cell? ⟨w.heap.size, 1, none⟩ = some (.int .i64 m.po) ∧ w'.cell? ⟨w.heap.size, 8, none⟩ = some (.int .i64 m.tx)) (by kernel_rfl) ?_ (fun hHeld => ?_)
    · exact K0.out _ (Blk.kept HA2 k0)
    generalize w2.drew = V1 at *
    refine wpAnyH_take (i := 4) (v := ?_) rfl (by kernel_rfl) (by kernel_rfl) (by kernel_rfl) (fun _ _ _ h => h) (Or.inl ⟨by rfl, ?_⟩) (by assumption) ?_
    rotate_left
    · (intro w hSw; (try dsimp only at hSw); go_simp; (try with_reducible rfl))
    (try simp only [Act.put, List.getElem_toArray, List.getElem_cons_zero, List.getElem_cons_succ, List.setIfInBounds_toArray, List.set_cons_zero, List.set_cons_succ])
    refine wpAnyH_take (i := 5) (v := ?_) rfl (by kernel_rfl) (by kernel_rfl) (by kernel_rfl) (fun _ _ _ h => h) (Or.inl ⟨by rfl, ?_⟩) (by assumption) ?_
    rotate_left
    · (intro w hSw; (try dsimp only at hSw); go_simp; (try with_reducible rfl))
    (try simp only [Act.put, List.getElem_toArray, List.getElem_cons_zero, List.getElem_cons_succ, List.setIfInBounds_toArray, List.set_cons_zero, List.set_cons_succ])
    refine wpAnyH_take (i := 9) (v := ?_) rfl (by kernel_rfl) (by kernel_rfl) (by kernel_rfl) (fun _ _ _ h => h) (Or.inl ⟨by rfl, ?_⟩) (by assumption) ?_
    rotate_left
    · (intro w hSw; (try dsimp only at hSw); go_simp; (try with_reducible rfl))
    (try simp only [Act.put, List.getElem_toArray, List.getElem_cons_zero, List.getElem_cons_succ, List.setIfInBounds_toArray, List.set_cons_zero, List.set_cons_succ])
    refine wpAnyH_take (i := 10) (v := ?_) rfl (by kernel_rfl) (by kernel_rfl) (by kernel_rfl) (fun _ _ _ h => h) (Or.inl ⟨by rfl, ?_⟩) (by assumption) ?_
    rotate_left
    · (intro w hSw; (try dsimp only at hSw); go_simp; (try with_reducible rfl))
    (try simp only [Act.put, List.getElem_toArray, List.getElem_cons_zero, List.getElem_cons_succ, List.setIfInBounds_toArray, List.set_cons_zero, List.set_cons_succ])
    refine wpAnyH_take (i := 13) (v := ?_) rfl (by kernel_rfl) (by kernel_rfl) (by kernel_rfl) (fun _ _ _ h => h) (Or.inl ⟨by rfl, ?_⟩) (by assumption) ?_
    rotate_left
    · (intro w hSw; (try dsimp only at hSw); go_simp; (try with_reducible rfl))
    (try simp only [Act.put, List.getElem_toArray, List.getElem_cons_zero, List.getElem_cons_succ, List.setIfInBounds_toArray, List.set_cons_zero, List.set_cons_succ])
    refine wpAnyH_take (i := 14) (v := ?_) rfl (by kernel_rfl) (by kernel_rfl) (by kernel_rfl) (fun _ _ _ h => h) (Or.inl ⟨by rfl, ?_⟩) (by assumption) ?_
    rotate_left
    · (intro w hSw; (try dsimp only at hSw); go_simp; (try with_reducible rfl))
    (try simp only [Act.put, List.getElem_toArray, List.getElem_cons_zero, List.getElem_cons_succ, List.setIfInBounds_toArray, List.set_cons_zero, List.set_cons_succ])
    refine wpAnyH_take (i := 15) (v := (.string ⟨LA.toArray⟩)) rfl (by kernel_rfl) (by kernel_rfl) (by kernel_rfl) (fun _ _ _ h => h) (Or.inl ⟨by rfl, fun w hSw => by rw [HLA.out]; exact exec_text m.sy rfl rfl hb (six_of hSw.1 (k := 2) rfl)⟩) (by assumption) ?_
    (try simp only [Act.put, List.getElem_toArray, List.getElem_cons_zero, List.getElem_cons_succ, List.setIfInBounds_toArray, List.set_cons_zero, List.set_cons_succ])
    refine wpAnyH_take (i := 17) (v := ?_) rfl (by kernel_rfl) (by kernel_rfl) (by kernel_rfl) (fun _ _ _ h => h) (Or.inl ⟨by rfl, ?_⟩) (by assumption) ?_
    rotate_left
    · (intro w hSw; (try dsimp only at hSw); go_simp; (try with_reducible rfl))
    (try simp only [Act.put, List.getElem_toArray, List.getElem_cons_zero, List.getElem_cons_succ, List.setIfInBounds_toArray, List.set_cons_zero, List.set_cons_succ])
    refine wpAnyH_take (i := 18) (v := ?_) rfl (by kernel_rfl) (by kernel_rfl) (by kernel_rfl) (fun _ _ _ h => h) (Or.inl ⟨by rfl, ?_⟩) (by assumption) ?_
    rotate_left
    · (intro w hSw; (try dsimp only at hSw); go_simp; (try with_reducible rfl))
    (try simp only [Act.put, List.getElem_toArray, List.getElem_cons_zero, List.getElem_cons_succ, List.setIfInBounds_toArray, List.set_cons_zero, List.set_cons_succ])
    refine wpAnyH_ready (rs := [0, 11]) (by kernel_rfl) (by simp) ?_
    refine (AllReadyH.cons rfl (fun K hK => ?_) (AllReadyH.cons rfl (fun K hK => ?_) AllReadyH.nil))
    ·
      simp only [List.getElem_toArray, List.getElem_cons_zero, List.getElem_cons_succ]
      have k1 : Below w2.heap.size w2 (V1.alloc (.map #[] 0)) := Below.alloc k0 k0.size _
      have m1 : (V1.alloc (.map #[] 0)).heap[V1.heap.size]? = some (.map #[] 0) := heap_alloc_new _ _
      have b1 : w2.heap.size ≤ V1.heap.size := Below.size k0
      go_simp
      refine hK.out _ _ ?_ (fun hHeld => ?_)
      · exact K0.out _ (Blk.kept HA2 k1)
      clear hK K
      (try simp only [Act.put, List.getElem_toArray, List.getElem_cons_zero, List.getElem_cons_succ, List.setIfInBounds_toArray, List.set_cons_zero, List.set_cons_succ])
      generalize V1.alloc (.map #[] 0) = W1 at *
      refine wpAnyH_ready (rs := [1, 2, 11]) (by kernel_rfl) (by simp) ?_
      refine (AllReadyH.cons rfl (fun K hK => ?_) (AllReadyH.cons rfl (fun K hK => ?_) (AllReadyH.cons rfl (fun K hK => ?_) AllReadyH.nil)))
      ·
        simp only [List.getElem_toArray, List.getElem_cons_zero, List.getElem_cons_succ]
        have e2 : (Instr.mapUpdate 63 (.map (some V1.heap.size)) (.bool true) (.string ⟨#[2]⟩)).run Tryd.prog W1 = .ok () (putB W1 V1.heap.size (.map #[⟨.bool true, .string ⟨#[2]⟩, 0⟩] 1)) := ins0 true _ m1
        have k2 : Below w2.heap.size w2 (putB W1 V1.heap.size (.map #[⟨.bool true, .string ⟨#[2]⟩, 0⟩] 1)) := putB_below _ k1 b1
        have m2 : (putB W1 V1.heap.size (.map #[⟨.bool true, .string ⟨#[2]⟩, 0⟩] 1)).heap[V1.heap.size]? = some (.map #[⟨.bool true, .string ⟨#[2]⟩, 0⟩] 1) := putB_at _ (lt_of_block m1)
        go_simp
        clear e2
        refine hK.out _ _ ?_ (fun hHeld => ?_)
        · exact K0.out _ (Blk.kept HA2 k2)
        clear hK K
        (try simp only [Act.put, List.getElem_toArray, List.getElem_cons_zero, List.getElem_cons_succ, List.setIfInBounds_toArray, List.set_cons_zero, List.set_cons_succ])
        generalize putB W1 V1.heap.size (.map #[⟨.bool true, .string ⟨#[2]⟩, 0⟩] 1) = W2 at *
        refine wpAnyH_ready (rs := [2, 11]) (by kernel_rfl) (by simp) ?_
        refine (AllReadyH.cons rfl (fun K hK => ?_) (AllReadyH.cons rfl (fun K hK => ?_) AllReadyH.nil))
        ·
          simp only [List.getElem_toArray, List.getElem_cons_zero, List.getElem_cons_succ]
          have e3 : (Instr.mapUpdate 63 (.map (some V1.heap.size)) (.bool false) (.string ⟨#[1]⟩)).run Tryd.prog W2 = .ok () (putB W2 V1.heap.size (.map #[⟨.bool true, .string ⟨#[2]⟩, 0⟩, ⟨.bool false, .string ⟨#[1]⟩, 1⟩] 2)) := ins1 true _ _ m2
          have k3 : Below w2.heap.size w2 (putB W2 V1.heap.size (.map #[⟨.bool true, .string ⟨#[2]⟩, 0⟩, ⟨.bool false, .string ⟨#[1]⟩, 1⟩] 2)) := putB_below _ k2 b1
          have m3 : (putB W2 V1.heap.size (.map #[⟨.bool true, .string ⟨#[2]⟩, 0⟩, ⟨.bool false, .string ⟨#[1]⟩, 1⟩] 2)).heap[V1.heap.size]? = some (.map #[⟨.bool true, .string ⟨#[2]⟩, 0⟩, ⟨.bool false, .string ⟨#[1]⟩, 1⟩] 2) := putB_at _ (lt_of_block m2)
          go_simp
          clear e3
          refine hK.out _ _ ?_ (fun hHeld => ?_)
          · exact K0.out _ (Blk.kept HA2 k3)
          clear hK K
          (try simp only [Act.put, List.getElem_toArray, List.getElem_cons_zero, List.getElem_cons_succ, List.setIfInBounds_toArray, List.set_cons_zero, List.set_cons_succ])
          generalize putB W2 V1.heap.size (.map #[⟨.bool true, .string ⟨#[2]⟩, 0⟩, ⟨.bool false, .string ⟨#[1]⟩, 1⟩] 2) = W3 at *
          refine wpAnyH_take (i := 3) (v := ?_) rfl (by kernel_rfl) (by kernel_rfl) (by kernel_rfl) (fun _ _ _ h => h) (Or.inl ⟨by rfl, ?_⟩) (by assumption) ?_
          rotate_left
          · (intro w hSw; (try dsimp only at hSw); go_simp; (try with_reducible rfl))
          (try simp only [Act.put, List.getElem_toArray, List.getElem_cons_zero, List.getElem_cons_succ, List.setIfInBounds_toArray, List.set_cons_zero, List.set_cons_succ])
          refine wpAnyH_ready (rs := [6, 11]) (by kernel_rfl) (by simp) ?_
          refine (AllReadyH.cons rfl (fun K hK => ?_) (AllReadyH.cons rfl (fun K hK => ?_) AllReadyH.nil))
          ·
            simp only [List.getElem_toArray, List.getElem_cons_zero, List.getElem_cons_succ]
            have e4 : (Instr.lookup 63 (.map (some V1.heap.size)) (.bool re) false).run Tryd.prog W3 = .ok (.string ⟨LR.toArray⟩) W3 := by rw [look2 _ _ _ _ m3]; rw [HLR.out]; cases re <;> rfl
            go_simp
            clear e4
            refine hK.out _ _ ?_ (fun hHeld => ?_)
            · exact K0.out _ (Blk.kept HA2 k3)
            clear hK K
            (try simp only [Act.put, List.getElem_toArray, List.getElem_cons_zero, List.getElem_cons_succ, List.setIfInBounds_toArray, List.set_cons_zero, List.set_cons_succ])
            refine wpAnyH_take (i := 7) (v := ?_) rfl (by kernel_rfl) (by kernel_rfl) (by kernel_rfl) (fun _ _ _ h => h) (Or.inl ⟨by rfl, ?_⟩) (by assumption) ?_
            rotate_left
            · (intro w hSw; (try dsimp only at hSw); go_simp; (try with_reducible rfl))
            (try simp only [Act.put, List.getElem_toArray, List.getElem_cons_zero, List.getElem_cons_succ, List.setIfInBounds_toArray, List.set_cons_zero, List.set_cons_succ])
            refine wpAnyH_take (i := 8) (v := ?_) rfl (by kernel_rfl) (by kernel_rfl) (by kernel_rfl) (fun _ _ _ h => h) (Or.inl ⟨by rfl, ?_⟩) (by assumption) ?_
            rotate_left
            · (intro w hSw; (try dsimp only at hSw); go_simp; (try with_reducible rfl))
            (try simp only [Act.put, List.getElem_toArray, List.getElem_cons_zero, List.getElem_cons_succ, List.setIfInBounds_toArray, List.set_cons_zero, List.set_cons_succ])
            refine wpAnyH_ready (rs := [11]) (by kernel_rfl) (by simp) ?_
            refine (AllReadyH.cons rfl (fun K hK => ?_) AllReadyH.nil)
            simp only [List.getElem_toArray, List.getElem_cons_zero, List.getElem_cons_succ]
            go_simp
            go_at_call 24
            with_reducible refine (HBP.out _).mono ?_
            rintro e W5 ⟨rfl, q5⟩
            have k5 : Below w2.heap.size w2 W5 := Below.trans k3 (Below.mono q5 (Below.size k3))
            have m5 := (Below.block q5 _ (lt_of_block m3)).trans m3
            refine hK.out _ _ ?_ (fun hHeld => ?_)
            · exact K0.out _ (Blk.kept HA2 k5)
            clear hK K
            (try simp only [Act.put, List.getElem_toArray, List.getElem_cons_zero, List.getElem_cons_succ, List.setIfInBounds_toArray, List.set_cons_zero, List.set_cons_succ])
            refine wpAnyH_take (i := 12) (v := ?_) rfl (by kernel_rfl) (by kernel_rfl) (by kernel_rfl) (fun _ _ _ h => h) (Or.inl ⟨by rfl, ?_⟩) (by assumption) ?_
            rotate_left
            · (intro w hSw; (try dsimp only at hSw); go_simp; (try with_reducible rfl))
            (try simp only [Act.put, List.getElem_toArray, List.getElem_cons_zero, List.getElem_cons_succ, List.setIfInBounds_toArray, List.set_cons_zero, List.set_cons_succ])
            refine wpAnyH_take (i := 16) (v := ?_) rfl (by kernel_rfl) (by kernel_rfl) (by kernel_rfl) (fun _ _ _ h => h) (Or.inl ⟨by rfl, ?_⟩) (by assumption) ?_
            rotate_left
            · (intro w hSw; (try dsimp only at hSw); go_simp; (try with_reducible rfl))
            (try simp only [Act.put, List.getElem_toArray, List.getElem_cons_zero, List.getElem_cons_succ, List.setIfInBounds_toArray, List.set_cons_zero, List.set_cons_succ])
            refine wpAnyH_ready (rs := [19]) (by kernel_rfl) (by simp) ?_
            refine (AllReadyH.cons rfl (fun K hK => ?_) AllReadyH.nil)
            simp only [List.getElem_toArray, List.getElem_cons_zero, List.getElem_cons_succ]
            go_simp
            go_at_call 24
            with_reducible refine (HBT.out _).mono ?_
            rintro e W6 ⟨rfl, q6⟩
            have k6 : Below w2.heap.size w2 W6 := Below.trans k5 (Below.mono q6 (Below.size k5))
            have m6 := (Below.block q6 _ (lt_of_block m5)).trans m5
            refine hK.out _ _ ?_ (fun hHeld => ?_)
            · exact K0.out _ (Blk.kept HA2 k6)
            clear hK K
            (try simp only [Act.put, List.getElem_toArray, List.getElem_cons_zero, List.getElem_cons_succ, List.setIfInBounds_toArray, List.set_cons_zero, List.set_cons_succ])
            refine wpAnyH_take (i := 20) (v := ?_) rfl (by kernel_rfl) (by kernel_rfl) (by kernel_rfl) (fun _ _ _ h => h) (Or.inl ⟨by rfl, ?_⟩) (by assumption) ?_
            rotate_left
            · (intro w hSw; (try dsimp only at hSw); go_simp; (try with_reducible rfl))
            (try simp only [Act.put, List.getElem_toArray, List.getElem_cons_zero, List.getElem_cons_succ, List.setIfInBounds_toArray, List.set_cons_zero, List.set_cons_succ])
            refine wpAnyH_take (i := 21) (v := ?_) rfl (by kernel_rfl) (by kernel_rfl) (by kernel_rfl) (fun _ _ _ h => h) (Or.inl ⟨by rfl, ?_⟩) (by assumption) ?_
            rotate_left
            · (intro w hSw; (try dsimp only at hSw); go_simp; (try with_reducible rfl))
            (try simp only [Act.put, List.getElem_toArray, List.getElem_cons_zero, List.getElem_cons_succ, List.setIfInBounds_toArray, List.set_cons_zero, List.set_cons_succ])
            refine wpAnyH_done (by kernel_rfl) ?_ _
            refine NoPanic.normal ?_
            exact ⟨rfl, ⟨_, _, _, _, _, _, _, _, _, _, _, _, _, _, _, _, _, _, _, rfl⟩, k6⟩
          ·
            simp only [List.getElem_toArray, List.getElem_cons_zero, List.getElem_cons_succ]
            go_simp
            go_at_call 24
            with_reducible refine (HBP.out _).mono ?_
            rintro e W7 ⟨rfl, q7⟩
            have k7 : Below w2.heap.size w2 W7 := Below.trans k3 (Below.mono q7 (Below.size k3))
            have m7 := (Below.block q7 _ (lt_of_block m3)).trans m3
            refine hK.out _ _ ?_ (fun hHeld => ?_)
            · exact K0.out _ (Blk.kept HA2 k7)
            clear hK K
            (try simp only [Act.put, List.getElem_toArray, List.getElem_cons_zero, List.getElem_cons_succ, List.setIfInBounds_toArray, List.set_cons_zero, List.set_cons_succ])
            refine wpAnyH_ready (rs := [6, 19]) (by kernel_rfl) (by simp) ?_
            refine (AllReadyH.cons rfl (fun K hK => ?_) (AllReadyH.cons rfl (fun K hK => ?_) AllReadyH.nil))
            ·
              simp only [List.getElem_toArray, List.getElem_cons_zero, List.getElem_cons_succ]
              have e8 : (Instr.lookup 63 (.map (some V1.heap.size)) (.bool re) false).run Tryd.prog W7 = .ok (.string ⟨LR.toArray⟩) W7 := by rw [look2 _ _ _ _ m7]; rw [HLR.out]; cases re <;> rfl
              go_simp
              clear e8
              refine hK.out _ _ ?_ (fun hHeld => ?_)
              · exact K0.out _ (Blk.kept HA2 k7)
              clear hK K
              (try simp only [Act.put, List.getElem_toArray, List.getElem_cons_zero, List.getElem_cons_succ, List.setIfInBounds_toArray, List.set_cons_zero, List.set_cons_succ])
              refine wpAnyH_take (i := 7) (v := ?_) rfl (by kernel_rfl) (by kernel_rfl) (by kernel_rfl) (fun _ _ _ h => h) (Or.inl ⟨by rfl, ?_⟩) (by assumption) ?_
              rotate_left
              · (intro w hSw; (try dsimp only at hSw); go_simp; (try with_reducible rfl))
              (try simp only [Act.put, List.getElem_toArray, List.getElem_cons_zero, List.getElem_cons_succ, List.setIfInBounds_toArray, List.set_cons_zero, List.set_cons_succ])
              refine wpAnyH_take (i := 8) (v := ?_) rfl (by kernel_rfl) (by kernel_rfl) (by kernel_rfl) (fun _ _ _ h => h) (Or.inl ⟨by rfl, ?_⟩) (by assumption) ?_
              rotate_left
              · (intro w hSw; (try dsimp only at hSw); go_simp; (try with_reducible rfl))
              (try simp only [Act.put, List.getElem_toArray, List.getElem_cons_zero, List.getElem_cons_succ, List.setIfInBounds_toArray, List.set_cons_zero, List.set_cons_succ])
              refine wpAnyH_take (i := 12) (v := ?_) rfl (by kernel_rfl) (by kernel_rfl) (by kernel_rfl) (fun _ _ _ h => h) (Or.inl ⟨by rfl, ?_⟩) (by assumption) ?_
              rotate_left
              · (intro w hSw; (try dsimp only at hSw); go_simp; (try with_reducible rfl))
              (try simp only [Act.put, List.getElem_toArray, List.getElem_cons_zero, List.getElem_cons_succ, List.setIfInBounds_toArray, List.set_cons_zero, List.set_cons_succ])
              refine wpAnyH_take (i := 16) (v := ?_) rfl (by kernel_rfl) (by kernel_rfl) (by kernel_rfl) (fun _ _ _ h => h) (Or.inl ⟨by rfl, ?_⟩) (by assumption) ?_
              rotate_left
              · (intro w hSw; (try dsimp only at hSw); go_simp; (try with_reducible rfl))
              (try simp only [Act.put, List.getElem_toArray, List.getElem_cons_zero, List.getElem_cons_succ, List.setIfInBounds_toArray, List.set_cons_zero, List.set_cons_succ])
              refine wpAnyH_ready (rs := [19]) (by kernel_rfl) (by simp) ?_
              refine (AllReadyH.cons rfl (fun K hK => ?_) AllReadyH.nil)
              simp only [List.getElem_toArray, List.getElem_cons_zero, List.getElem_cons_succ]
              go_simp
              go_at_call 24
              with_reducible refine (HBT.out _).mono ?_
              rintro e W9 ⟨rfl, q9⟩
              have k9 : Below w2.heap.size w2 W9 := Below.trans k7 (Below.mono q9 (Below.size k7))
              have m9 := (Below.block q9 _ (lt_of_block m7)).trans m7
              refine hK.out _ _ ?_ (fun hHeld => ?_)
              · exact K0.out _ (Blk.kept HA2 k9)
              clear hK K
              (try simp only [Act.put, List.getElem_toArray, List.getElem_cons_zero, List.getElem_cons_succ, List.setIfInBounds_toArray, List.set_cons_zero, List.set_cons_succ])
              refine wpAnyH_take (i := 20) (v := ?_) rfl (by kernel_rfl) (by kernel_rfl) (by kernel_rfl) (fun _ _ _ h => h) (Or.inl ⟨by rfl, ?_⟩) (by assumption) ?_
              rotate_left
              · (intro w hSw; (try dsimp only at hSw); go_simp; (try with_reducible rfl))
              (try simp only [Act.put, List.getElem_toArray, List.getElem_cons_zero, List.getElem_cons_succ, List.setIfInBounds_toArray, List.set_cons_zero, List.set_cons_succ])
              refine wpAnyH_take (i := 21) (v := ?_) rfl (by kernel_rfl) (by kernel_rfl) (by kernel_rfl) (fun _ _ _ h => h) (Or.inl ⟨by rfl, ?_⟩) (by assumption) ?_
              rotate_left
              · (intro w hSw; (try dsimp only at hSw); go_simp; (try with_reducible rfl))
              (try simp only [Act.put, List.getElem_toArray, List.getElem_cons_zero, List.getElem_cons_succ, List.setIfInBounds_toArray, List.set_cons_zero, List.set_cons_succ])
              refine wpAnyH_done (by kernel_rfl) ?_ _
              refine NoPanic.normal ?_
              exact ⟨rfl, ⟨_, _, _, _, _, _, _, _, _, _, _, _, _, _, _, _, _, _, _, rfl⟩, k9⟩
            ·
              simp only [List.getElem_toArray, List.getElem_cons_zero, List.getElem_cons_succ]
              go_simp
              go_at_call 24
              with_reducible refine (HBT.out _).mono ?_
              rintro e W10 ⟨rfl, q10⟩
              have k10 : Below w2.heap.size w2 W10 := Below.trans k7 (Below.mono q10 (Below.size k7))
              have m10 := (Below.block q10 _ (lt_of_block m7)).trans m7
              refine hK.out _ _ ?_ (fun hHeld => ?_)
              · exact K0.out _ (Blk.kept HA2 k10)
              clear hK K
              (try simp only [Act.put, List.getElem_toArray, List.getElem_cons_zero, List.getElem_cons_succ, List.setIfInBounds_toArray, List.set_cons_zero, List.set_cons_succ])
              refine wpAnyH_ready (rs := [6]) (by kernel_rfl) (by simp) ?_
              refine (AllReadyH.cons rfl (fun K hK => ?_) AllReadyH.nil)
              simp only [List.getElem_toArray, List.getElem_cons_zero, List.getElem_cons_succ]
              have e11 : (Instr.lookup 63 (.map (some V1.heap.size)) (.bool re) false).run Tryd.prog W10 = .ok (.string ⟨LR.toArray⟩) W10 := by rw [look2 _ _ _ _ m10]; rw [HLR.out]; cases re <;> rfl
              go_simp
              clear e11
              refine hK.out _ _ ?_ (fun hHeld => ?_)
              · exact K0.out _ (Blk.kept HA2 k10)
              clear hK K
              (try simp only [Act.put, List.getElem_toArray, List.getElem_cons_zero, List.getElem_cons_succ, List.setIfInBounds_toArray, List.set_cons_zero, List.set_cons_succ])
              refine wpAnyH_take (i := 7) (v := ?_) rfl (by kernel_rfl) (by kernel_rfl) (by kernel_rfl) (fun _ _ _ h => h) (Or.inl ⟨by rfl, ?_⟩) (by assumption) ?_
              rotate_left
              · (intro w hSw; (try dsimp only at hSw); go_simp; (try with_reducible rfl))
              (try simp only [Act.put, List.getElem_toArray, List.getElem_cons_zero, List.getElem_cons_succ, List.setIfInBounds_toArray, List.set_cons_zero, List.set_cons_succ])
              refine wpAnyH_take (i := 8) (v := ?_) rfl (by kernel_rfl) (by kernel_rfl) (by kernel_rfl) (fun _ _ _ h => h) (Or.inl ⟨by rfl, ?_⟩) (by assumption) ?_
              rotate_left
              · (intro w hSw; (try dsimp only at hSw); go_simp; (try with_reducible rfl))
              (try simp only [Act.put, List.getElem_toArray, List.getElem_cons_zero, List.getElem_cons_succ, List.setIfInBounds_toArray, List.set_cons_zero, List.set_cons_succ])
              refine wpAnyH_take (i := 12) (v := ?_) rfl (by kernel_rfl) (by kernel_rfl) (by kernel_rfl) (fun _ _ _ h => h) (Or.inl ⟨by rfl, ?_⟩) (by assumption) ?_
              rotate_left
              · (intro w hSw; (try dsimp only at hSw); go_simp; (try with_reducible rfl))
              (try simp only [Act.put, List.getElem_toArray, List.getElem_cons_zero, List.getElem_cons_succ, List.setIfInBounds_toArray, List.set_cons_zero, List.set_cons_succ])
              refine wpAnyH_take (i := 16) (v := ?_) rfl (by kernel_rfl) (by kernel_rfl) (by kernel_rfl) (fun _ _ _ h => h) (Or.inl ⟨by rfl, ?_⟩) (by assumption) ?_
              rotate_left
              · (intro w hSw; (try dsimp only at hSw); go_simp; (try with_reducible rfl))
              (try simp only [Act.put, List.getElem_toArray, List.getElem_cons_zero, List.getElem_cons_succ, List.setIfInBounds_toArray, List.set_cons_zero, List.set_cons_succ])
              refine wpAnyH_take (i := 20) (v := ?_) rfl (by kernel_rfl) (by kernel_rfl) (by kernel_rfl) (fun _ _ _ h => h) (Or.inl ⟨by rfl, ?_⟩) (by assumption) ?_
              rotate_left
              · (intro w hSw; (try dsimp only at hSw); go_simp; (try with_reducible rfl))
              (try simp only [Act.put, List.getElem_toArray, List.getElem_cons_zero, List.getElem_cons_succ, List.setIfInBounds_toArray, List.set_cons_zero, List.set_cons_succ])
              refine wpAnyH_take (i := 21) (v := ?_) rfl (by kernel_rfl) (by kernel_rfl) (by kernel_rfl) (fun _ _ _ h => h) (Or.inl ⟨by rfl, ?_⟩) (by assumption) ?_
              rotate_left
              · (intro w hSw; (try dsimp only at hSw); go_simp; (try with_reducible rfl))
              (try simp only [Act.put, List.getElem_toArray, List.getElem_cons_zero, List.getElem_cons_succ, List.setIfInBounds_toArray, List.set_cons_zero, List.set_cons_succ])
              refine wpAnyH_done (by kernel_rfl) ?_ _
              refine NoPanic.normal ?_
              exact ⟨rfl, ⟨_, _, _, _, _, _, _, _, _, _, _, _, _, _, _, _, _, _, _, rfl⟩, k10⟩
        ·
          simp only [List.getElem_toArray, List.getElem_cons_zero, List.getElem_cons_succ]
          go_simp
          go_at_call 24
          with_reducible refine (HBP.out _).mono ?_
          rintro e W12 ⟨rfl, q12⟩
          have k12 : Below w2.heap.size w2 W12 := Below.trans k2 (Below.mono q12 (Below.size k2))
          have m12 := (Below.block q12 _ (lt_of_block m2)).trans m2
          refine hK.out _ _ ?_ (fun hHeld => ?_)
          · exact K0.out _ (Blk.kept HA2 k12)
          clear hK K
          (try simp only [Act.put, List.getElem_toArray, List.getElem_cons_zero, List.getElem_cons_succ, List.setIfInBounds_toArray, List.set_cons_zero, List.set_cons_succ])
          refine wpAnyH_ready (rs := [2, 19]) (by kernel_rfl) (by simp) ?_
          refine (AllReadyH.cons rfl (fun K hK => ?_) (AllReadyH.cons rfl (fun K hK => ?_) AllReadyH.nil))
          ·
            simp only [List.getElem_toArray, List.getElem_cons_zero, List.getElem_cons_succ]
            have e13 : (Instr.mapUpdate 63 (.map (some V1.heap.size)) (.bool false) (.string ⟨#[1]⟩)).run Tryd.prog W12 = .ok () (putB W12 V1.heap.size (.map #[⟨.bool true, .string ⟨#[2]⟩, 0⟩, ⟨.bool false, .string ⟨#[1]⟩, 1⟩] 2)) := ins1 true _ _ m12
            have k13 : Below w2.heap.size w2 (putB W12 V1.heap.size (.map #[⟨.bool true, .string ⟨#[2]⟩, 0⟩, ⟨.bool false, .string ⟨#[1]⟩, 1⟩] 2)) := putB_below _ k12 b1
            have m13 : (putB W12 V1.heap.size (.map #[⟨.bool true, .string ⟨#[2]⟩, 0⟩, ⟨.bool false, .string ⟨#[1]⟩, 1⟩] 2)).heap[V1.heap.size]? = some (.map #[⟨.bool true, .string ⟨#[2]⟩, 0⟩, ⟨.bool false, .string ⟨#[1]⟩, 1⟩] 2) := putB_at _ (lt_of_block m12)
            go_simp
            clear e13
            refine hK.out _ _ ?_ (fun hHeld => ?_)
            · exact K0.out _ (Blk.kept HA2 k13)
            clear hK K
            (try simp only [Act.put, List.getElem_toArray, List.getElem_cons_zero, List.getElem_cons_succ, List.setIfInBounds_toArray, List.set_cons_zero, List.set_cons_succ])
            generalize putB W12 V1.heap.size (.map #[⟨.bool true, .string ⟨#[2]⟩, 0⟩, ⟨.bool false, .string ⟨#[1]⟩, 1⟩] 2) = W13 at *
            refine wpAnyH_take (i := 3) (v := ?_) rfl (by kernel_rfl) (by kernel_rfl) (by kernel_rfl) (fun _ _ _ h => h) (Or.inl ⟨by rfl, ?_⟩) (by assumption) ?_
            rotate_left
            · (intro w hSw; (try dsimp only at hSw); go_simp; (try with_reducible rfl))
            (try simp only [Act.put, List.getElem_toArray, List.getElem_cons_zero, List.getElem_cons_succ, List.setIfInBounds_toArray, List.set_cons_zero, List.set_cons_succ])
            refine wpAnyH_ready (rs := [6, 19]) (by kernel_rfl) (by simp) ?_
            refine (AllReadyH.cons rfl (fun K hK => ?_) (AllReadyH.cons rfl (fun K hK => ?_) AllReadyH.nil))
            ·
              simp only [List.getElem_toArray, List.getElem_cons_zero, List.getElem_cons_succ]
              have e14 : (Instr.lookup 63 (.map (some V1.heap.size)) (.bool re) false).run Tryd.prog W13 = .ok (.string ⟨LR.toArray⟩) W13 := by rw [look2 _ _ _ _ m13]; rw [HLR.out]; cases re <;> rfl
              go_simp
              clear e14
              refine hK.out _ _ ?_ (fun hHeld => ?_)
              · exact K0.out _ (Blk.kept HA2 k13)
              clear hK K
              (try simp only [Act.put, List.getElem_toArray, List.getElem_cons_zero, List.getElem_cons_succ, List.setIfInBounds_toArray, List.set_cons_zero, List.set_cons_succ])
              refine wpAnyH_take (i := 7) (v := ?_) rfl (by kernel_rfl) (by kernel_rfl) (by kernel_rfl) (fun _ _ _ h => h) (Or.inl ⟨by rfl, ?_⟩) (by assumption) ?_
              rotate_left
              · (intro w hSw; (try dsimp only at hSw); go_simp; (try with_reducible rfl))
              (try simp only [Act.put, List.getElem_toArray, List.getElem_cons_zero, List.getElem_cons_succ, List.setIfInBounds_toArray, List.set_cons_zero, List.set_cons_succ])
              refine wpAnyH_take (i := 8) (v := ?_) rfl (by kernel_rfl) (by kernel_rfl) (by kernel_rfl) (fun _ _ _ h => h) (Or.inl ⟨by rfl, ?_⟩) (by assumption) ?_
              rotate_left
              · (intro w hSw; (try dsimp only at hSw); go_simp; (try with_reducible rfl))
              (try simp only [Act.put, List.getElem_toArray, List.getElem_cons_zero, List.getElem_cons_succ, List.setIfInBounds_toArray, List.set_cons_zero, List.set_cons_succ])
              refine wpAnyH_take (i := 12) (v := ?_) rfl (by kernel_rfl) (by kernel_rfl) (by kernel_rfl) (fun _ _ _ h => h) (Or.inl ⟨by rfl, ?_⟩) (by assumption) ?_
              rotate_left
              · (intro w hSw; (try dsimp only at hSw); go_simp; (try with_reducible rfl))
              (try simp only [Act.put, List.getElem_toArray, List.getElem_cons_zero, List.getElem_cons_succ, List.setIfInBounds_toArray, List.set_cons_zero, List.set_cons_succ])
              refine wpAnyH_take (i := 16) (v := ?_) rfl (by kernel_rfl) (by kernel_rfl) (by kernel_rfl) (fun _ _ _ h => h) (Or.inl ⟨by rfl, ?_⟩) (by assumption) ?_
              rotate_left
              · (intro w hSw; (try dsimp only at hSw); go_simp; (try with_reducible rfl))
              (try simp only [Act.put, List.getElem_toArray, List.getElem_cons_zero, List.getElem_cons_succ, List.setIfInBounds_toArray, List.set_cons_zero, List.set_cons_succ])
              refine wpAnyH_ready (rs := [19]) (by kernel_rfl) (by simp) ?_
              refine (AllReadyH.cons rfl (fun K hK => ?_) AllReadyH.nil)
              simp only [List.getElem_toArray, List.getElem_cons_zero, List.getElem_cons_succ]
              go_simp
              go_at_call 24
              with_reducible refine (HBT.out _).mono ?_
              rintro e W15 ⟨rfl, q15⟩
              have k15 : Below w2.heap.size w2 W15 := Below.trans k13 (Below.mono q15 (Below.size k13))
              have m15 := (Below.block q15 _ (lt_of_block m13)).trans m13
              refine hK.out _ _ ?_ (fun hHeld => ?_)
              · exact K0.out _ (Blk.kept HA2 k15)
              clear hK K
              (try simp only [Act.put, List.getElem_toArray, List.getElem_cons_zero, List.getElem_cons_succ, List.setIfInBounds_toArray, List.set_cons_zero, List.set_cons_succ])
              refine wpAnyH_take (i := 20) (v := ?_) rfl (by kernel_rfl) (by kernel_rfl) (by kernel_rfl) (fun _ _ _ h => h) (Or.inl ⟨by rfl, ?_⟩) (by assumption) ?_
              rotate_left
              · (intro w hSw; (try dsimp only at hSw); go_simp; (try with_reducible rfl))
              (try simp only [Act.put, List.getElem_toArray, List.getElem_cons_zero, List.getElem_cons_succ, List.setIfInBounds_toArray, List.set_cons_zero, List.set_cons_succ])
              refine wpAnyH_take (i := 21) (v := ?_) rfl (by kernel_rfl) (by kernel_rfl) (by kernel_rfl) (fun _ _ _ h => h) (Or.inl ⟨by rfl, ?_⟩) (by assumption) ?_
              rotate_left
              · (intro w hSw; (try dsimp only at hSw); go_simp; (try with_reducible rfl))
              (try simp only [Act.put, List.getElem_toArray, List.getElem_cons_zero, List.getElem_cons_succ, List.setIfInBounds_toArray, List.set_cons_zero, List.set_cons_succ])
              refine wpAnyH_done (by kernel_rfl) ?_ _
              refine NoPanic.normal ?_
              exact ⟨rfl, ⟨_, _, _, _, _, _, _, _, _, _, _, _, _, _, _, _, _, _, _, rfl⟩, k15⟩
            ·
              simp only [List.getElem_toArray, List.getElem_cons_zero, List.getElem_cons_succ]
              go_simp
              go_at_call 24
              with_reducible refine (HBT.out _).mono ?_
              rintro e W16 ⟨rfl, q16⟩
              have k16 : Below w2.heap.size w2 W16 := Below.trans k13 (Below.mono q16 (Below.size k13))
              have m16 := (Below.block q16 _ (lt_of_block m13)).trans m13
              refine hK.out _ _ ?_ (fun hHeld => ?_)
              · exact K0.out _ (Blk.kept HA2 k16)
              clear hK K
              (try simp only [Act.put, List.getElem_toArray, List.getElem_cons_zero, List.getElem_cons_succ, List.setIfInBounds_toArray, List.set_cons_zero, List.set_cons_succ])
              refine wpAnyH_ready (rs := [6]) (by kernel_rfl) (by simp) ?_
              refine (AllReadyH.cons rfl (fun K hK => ?_) AllReadyH.nil)
              simp only [List.getElem_toArray, List.getElem_cons_zero, List.getElem_cons_succ]
              have e17 : (Instr.lookup 63 (.map (some V1.heap.size)) (.bool re) false).run Tryd.prog W16 = .ok (.string ⟨LR.toArray⟩) W16 := by rw [look2 _ _ _ _ m16]; rw [HLR.out]; cases re <;> rfl
              go_simp
              clear e17
              refine hK.out _ _ ?_ (fun hHeld => ?_)
              · exact K0.out _ (Blk.kept HA2 k16)
              clear hK K
              (try simp only [Act.put, List.getElem_toArray, List.getElem_cons_zero, List.getElem_cons_succ, List.setIfInBounds_toArray, List.set_cons_zero, List.set_cons_succ])
              refine wpAnyH_take (i := 7) (v := ?_) rfl (by kernel_rfl) (by kernel_rfl) (by kernel_rfl) (fun _ _ _ h => h) (Or.inl ⟨by rfl, ?_⟩) (by assumption) ?_
              rotate_left
              · (intro w hSw; (try dsimp only at hSw); go_simp; (try with_reducible rfl))
              (try simp only [Act.put, List.getElem_toArray, List.getElem_cons_zero, List.getElem_cons_succ, List.setIfInBounds_toArray, List.set_cons_zero, List.set_cons_succ])
              refine wpAnyH_take (i := 8) (v := ?_) rfl (by kernel_rfl) (by kernel_rfl) (by kernel_rfl) (fun _ _ _ h => h) (Or.inl ⟨by rfl, ?_⟩) (by assumption) ?_
              rotate_left
              · (intro w hSw; (try dsimp only at hSw); go_simp; (try with_reducible rfl))
              (try simp only [Act.put, List.getElem_toArray, List.getElem_cons_zero, List.getElem_cons_succ, List.setIfInBounds_toArray, List.set_cons_zero, List.set_cons_succ])
              refine wpAnyH_take (i := 12) (v := ?_) rfl (by kernel_rfl) (by kernel_rfl) (by kernel_rfl) (fun _ _ _ h => h) (Or.inl ⟨by rfl, ?_⟩) (by assumption) ?_
              rotate_left
              · (intro w hSw; (try dsimp only at hSw); go_simp; (try with_reducible rfl))
              (try simp only [Act.put, List.getElem_toArray, List.getElem_cons_zero, List.getElem_cons_succ, List.setIfInBounds_toArray, List.set_cons_zero, List.set_cons_succ])
              refine wpAnyH_take (i := 16) (v := ?_) rfl (by kernel_rfl) (by kernel_rfl) (by kernel_rfl) (fun _ _ _ h => h) (Or.inl ⟨by rfl, ?_⟩) (by assumption) ?_
              rotate_left
              · (intro w hSw; (try dsimp only at hSw); go_simp; (try with_reducible rfl))
              (try simp only [Act.put, List.getElem_toArray, List.getElem_cons_zero, List.getElem_cons_succ, List.setIfInBounds_toArray, List.set_cons_zero, List.set_cons_succ])
              refine wpAnyH_take (i := 20) (v := ?_) rfl (by kernel_rfl) (by kernel_rfl) (by kernel_rfl) (fun _ _ _ h => h) (Or.inl ⟨by rfl, ?_⟩) (by assumption) ?_
              rotate_left
              · (intro w hSw; (try dsimp only at hSw); go_simp; (try with_reducible rfl))
              (try simp only [Act.put, List.getElem_toArray, List.getElem_cons_zero, List.getElem_cons_succ, List.setIfInBounds_toArray, List.set_cons_zero, List.set_cons_succ])
              refine wpAnyH_take (i := 21) (v := ?_) rfl (by kernel_rfl) (by kernel_rfl) (by kernel_rfl) (fun _ _ _ h => h) (Or.inl ⟨by rfl, ?_⟩) (by assumption) ?_
              rotate_left
              · (intro w hSw; (try dsimp only at hSw); go_simp; (try with_reducible rfl))
              (try simp only [Act.put, List.getElem_toArray, List.getElem_cons_zero, List.getElem_cons_succ, List.setIfInBounds_toArray, List.set_cons_zero, List.set_cons_succ])
              refine wpAnyH_done (by kernel_rfl) ?_ _
              refine NoPanic.normal ?_
              exact ⟨rfl, ⟨_, _, _, _, _, _, _, _, _, _, _, _, _, _, _, _, _, _, _, rfl⟩, k16⟩
          ·
            simp only [List.getElem_toArray, List.getElem_cons_zero, List.getElem_cons_succ]
            go_simp
            go_at_call 24
            with_reducible refine (HBT.out _).mono ?_
            rintro e W18 ⟨rfl, q18⟩
            have k18 : Below w2.heap.size w2 W18 := Below.trans k12 (Below.mono q18 (Below.size k12))
            have m18 := (Below.block q18 _ (lt_of_block m12)).trans m12
            refine hK.out _ _ ?_ (fun hHeld => ?_)
            · exact K0.out _ (Blk.kept HA2 k18)
            clear hK K
            (try simp only [Act.put, List.getElem_toArray, List.getElem_cons_zero, List.getElem_cons_succ, List.setIfInBounds_toArray, List.set_cons_zero, List.set_cons_succ])
            refine wpAnyH_ready (rs := [2]) (by kernel_rfl) (by simp) ?_
            refine (AllReadyH.cons rfl (fun K hK => ?_) AllReadyH.nil)
            simp only [List.getElem_toArray, List.getElem_cons_zero, List.getElem_cons_succ]
            have e19 : (Instr.mapUpdate 63 (.map (some V1.heap.size)) (.bool false) (.string ⟨#[1]⟩)).run Tryd.prog W18 = .ok () (putB W18 V1.heap.size (.map #[⟨.bool true, .string ⟨#[2]⟩, 0⟩, ⟨.bool false, .string ⟨#[1]⟩, 1⟩] 2)) := ins1 true _ _ m18
            have k19 : Below w2.heap.size w2 (putB W18 V1.heap.size (.map #[⟨.bool true, .string ⟨#[2]⟩, 0⟩, ⟨.bool false, .string ⟨#[1]⟩, 1⟩] 2)) := putB_below _ k18 b1
            have m19 : (putB W18 V1.heap.size (.map #[⟨.bool true, .string ⟨#[2]⟩, 0⟩, ⟨.bool false, .string ⟨#[1]⟩, 1⟩] 2)).heap[V1.heap.size]? = some (.map #[⟨.bool true, .string ⟨#[2]⟩, 0⟩, ⟨.bool false, .string ⟨#[1]⟩, 1⟩] 2) := putB_at _ (lt_of_block m18)
            go_simp
            clear e19
            refine hK.out _ _ ?_ (fun hHeld => ?_)
            · exact K0.out _ (Blk.kept HA2 k19)
            clear hK K
            (try simp only [Act.put, List.getElem_toArray, List.getElem_cons_zero, List.getElem_cons_succ, List.setIfInBounds_toArray, List.set_cons_zero, List.set_cons_succ])
            generalize putB W18 V1.heap.size (.map #[⟨.bool true, .string ⟨#[2]⟩, 0⟩, ⟨.bool false, .string ⟨#[1]⟩, 1⟩] 2) = W19 at *
            refine wpAnyH_take (i := 3) (v := ?_) rfl (by kernel_rfl) (by kernel_rfl) (by kernel_rfl) (fun _ _ _ h => h) (Or.inl ⟨by rfl, ?_⟩) (by assumption) ?_
            rotate_left
            · (intro w hSw; (try dsimp only at hSw); go_simp; (try with_reducible rfl))
            (try simp only [Act.put, List.getElem_toArray, List.getElem_cons_zero, List.getElem_cons_succ, List.setIfInBounds_toArray, List.set_cons_zero, List.set_cons_succ])
            refine wpAnyH_ready (rs := [6]) (by kernel_rfl) (by simp) ?_
            refine (AllReadyH.cons rfl (fun K hK => ?_) AllReadyH.nil)
            simp only [List.getElem_toArray, List.getElem_cons_zero, List.getElem_cons_succ]
            have e20 : (Instr.lookup 63 (.map (some V1.heap.size)) (.bool re) false).run Tryd.prog W19 = .ok (.string ⟨LR.toArray⟩) W19 := by rw [look2 _ _ _ _ m19]; rw [HLR.out]; cases re <;> rfl
            go_simp
            clear e20
            refine hK.out _ _ ?_ (fun hHeld => ?_)
            · exact K0.out _ (Blk.kept HA2 k19)
            clear hK K
            (try simp only [Act.put, List.getElem_toArray, List.getElem_cons_zero, List.getElem_cons_succ, List.setIfInBounds_toArray, List.set_cons_zero, List.set_cons_succ])
            refine wpAnyH_take (i := 7) (v := ?_) rfl (by kernel_rfl) (by kernel_rfl) (by kernel_rfl) (fun _ _ _ h => h) (Or.inl ⟨by rfl, ?_⟩) (by assumption) ?_
            rotate_left
            · (intro w hSw; (try dsimp only at hSw); go_simp; (try with_reducible rfl))
            (try simp only [Act.put, List.getElem_toArray, List.getElem_cons_zero, List.getElem_cons_succ, List.setIfInBounds_toArray, List.set_cons_zero, List.set_cons_succ])
            refine wpAnyH_take (i := 8) (v := ?_) rfl (by kernel_rfl) (by kernel_rfl) (by kernel_rfl) (fun _ _ _ h => h) (Or.inl ⟨by rfl, ?_⟩) (by assumption) ?_
            rotate_left
            · (intro w hSw; (try dsimp only at hSw); go_simp; (try with_reducible rfl))
            (try simp only [Act.put, List.getElem_toArray, List.getElem_cons_zero, List.getElem_cons_succ, List.setIfInBounds_toArray, List.set_cons_zero, List.set_cons_succ])
            refine wpAnyH_take (i := 12) (v := ?_) rfl (by kernel_rfl) (by kernel_rfl) (by kernel_rfl) (fun _ _ _ h => h) (Or.inl ⟨by rfl, ?_⟩) (by assumption) ?_
            rotate_left
            · (intro w hSw; (try dsimp only at hSw); go_simp; (try with_reducible rfl))
            (try simp only [Act.put, List.getElem_toArray, List.getElem_cons_zero, List.getElem_cons_succ, List.setIfInBounds_toArray, List.set_cons_zero, List.set_cons_succ])
            refine wpAnyH_take (i := 16) (v := ?_) rfl (by kernel_rfl) (by kernel_rfl) (by kernel_rfl) (fun _ _ _ h => h) (Or.inl ⟨by rfl, ?_⟩) (by assumption) ?_
            rotate_left
            · (intro w hSw; (try dsimp only at hSw); go_simp; (try with_reducible rfl))
            (try simp only [Act.put, List.getElem_toArray, List.getElem_cons_zero, List.getElem_cons_succ, List.setIfInBounds_toArray, List.set_cons_zero, List.set_cons_succ])
            refine wpAnyH_take (i := 20) (v := ?_) rfl (by kernel_rfl) (by kernel_rfl) (by kernel_rfl) (fun _ _ _ h => h) (Or.inl ⟨by rfl, ?_⟩) (by assumption) ?_
            rotate_left
            · (intro w hSw; (try dsimp only at hSw); go_simp; (try with_reducible rfl))
            (try simp only [Act.put, List.getElem_toArray, List.getElem_cons_zero, List.getElem_cons_succ, List.setIfInBounds_toArray, List.set_cons_zero, List.set_cons_succ])
            refine wpAnyH_take (i := 21) (v := ?_) rfl (by kernel_rfl) (by kernel_rfl) (by kernel_rfl) (fun _ _ _ h => h) (Or.inl ⟨by rfl, ?_⟩) (by assumption) ?_
            rotate_left
            · (intro w hSw; (try dsimp only at hSw); go_simp; (try with_reducible rfl))
            (try simp only [Act.put, List.getElem_toArray, List.getElem_cons_zero, List.getElem_cons_succ, List.setIfInBounds_toArray, List.set_cons_zero, List.set_cons_succ])
            refine wpAnyH_done (by kernel_rfl) ?_ _
            refine NoPanic.normal ?_
            exact ⟨rfl, ⟨_, _, _, _, _, _, _, _, _, _, _, _, _, _, _, _, _, _, _, rfl⟩, k19⟩
      ·
        simp only [List.getElem_toArray, List.getElem_cons_zero, List.getElem_cons_succ]
        have e21 : (Instr.mapUpdate 63 (.map (some V1.heap.size)) (.bool false) (.string ⟨#[1]⟩)).run Tryd.prog W1 = .ok () (putB W1 V1.heap.size (.map #[⟨.bool false, .string ⟨#[1]⟩, 0⟩] 1)) := ins0 false _ m1
        have k21 : Below w2.heap.size w2 (putB W1 V1.heap.size (.map #[⟨.bool false, .string ⟨#[1]⟩, 0⟩] 1)) := putB_below _ k1 b1
        have m21 : (putB W1 V1.heap.size (.map #[⟨.bool false, .string ⟨#[1]⟩, 0⟩] 1)).heap[V1.heap.size]? = some (.map #[⟨.bool false, .string ⟨#[1]⟩, 0⟩] 1) := putB_at _ (lt_of_block m1)
        go_simp
        clear e21
        refine hK.out _ _ ?_ (fun hHeld => ?_)
        · exact K0.out _ (Blk.kept HA2 k21)
        clear hK K
        (try simp only [Act.put, List.getElem_toArray, List.getElem_cons_zero, List.getElem_cons_succ, List.setIfInBounds_toArray, List.set_cons_zero, List.set_cons_succ])
        generalize putB W1 V1.heap.size (.map #[⟨.bool false, .string ⟨#[1]⟩, 0⟩] 1) = W21 at *
        refine wpAnyH_ready (rs := [1, 11]) (by kernel_rfl) (by simp) ?_
        refine (AllReadyH.cons rfl (fun K hK => ?_) (AllReadyH.cons rfl (fun K hK => ?_) AllReadyH.nil))
        ·
          simp only [List.getElem_toArray, List.getElem_cons_zero, List.getElem_cons_succ]
          have e22 : (Instr.mapUpdate 63 (.map (some V1.heap.size)) (.bool true) (.string ⟨#[2]⟩)).run Tryd.prog W21 = .ok () (putB W21 V1.heap.size (.map #[⟨.bool false, .string ⟨#[1]⟩, 0⟩, ⟨.bool true, .string ⟨#[2]⟩, 1⟩] 2)) := ins1 false _ _ m21
          have k22 : Below w2.heap.size w2 (putB W21 V1.heap.size (.map #[⟨.bool false, .string ⟨#[1]⟩, 0⟩, ⟨.bool true, .string ⟨#[2]⟩, 1⟩] 2)) := putB_below _ k21 b1
          have m22 : (putB W21 V1.heap.size (.map #[⟨.bool false, .string ⟨#[1]⟩, 0⟩, ⟨.bool true, .string ⟨#[2]⟩, 1⟩] 2)).heap[V1.heap.size]? = some (.map #[⟨.bool false, .string ⟨#[1]⟩, 0⟩, ⟨.bool true, .string ⟨#[2]⟩, 1⟩] 2) := putB_at _ (lt_of_block m21)
          go_simp
          clear e22
          refine hK.out _ _ ?_ (fun hHeld => ?_)
          · exact K0.out _ (Blk.kept HA2 k22)
          clear hK K
          (try simp only [Act.put, List.getElem_toArray, List.getElem_cons_zero, List.getElem_cons_succ, List.setIfInBounds_toArray, List.set_cons_zero, List.set_cons_succ])
          generalize putB W21 V1.heap.size (.map #[⟨.bool false, .string ⟨#[1]⟩, 0⟩, ⟨.bool true, .string ⟨#[2]⟩, 1⟩] 2) = W22 at *
          refine wpAnyH_take (i := 3) (v := ?_) rfl (by kernel_rfl) (by kernel_rfl) (by kernel_rfl) (fun _ _ _ h => h) (Or.inl ⟨by rfl, ?_⟩) (by assumption) ?_
          rotate_left
          · (intro w hSw; (try dsimp only at hSw); go_simp; (try with_reducible rfl))
          (try simp only [Act.put, List.getElem_toArray, List.getElem_cons_zero, List.getElem_cons_succ, List.setIfInBounds_toArray, List.set_cons_zero, List.set_cons_succ])
          refine wpAnyH_ready (rs := [6, 11]) (by kernel_rfl) (by simp) ?_
          refine (AllReadyH.cons rfl (fun K hK => ?_) (AllReadyH.cons rfl (fun K hK => ?_) AllReadyH.nil))
          ·
            simp only [List.getElem_toArray, List.getElem_cons_zero, List.getElem_cons_succ]
            have e23 : (Instr.lookup 63 (.map (some V1.heap.size)) (.bool re) false).run Tryd.prog W22 = .ok (.string ⟨LR.toArray⟩) W22 := by rw [look2 _ _ _ _ m22]; rw [HLR.out]; cases re <;> rfl
            go_simp
            clear e23
            refine hK.out _ _ ?_ (fun hHeld => ?_)
            · exact K0.out _ (Blk.kept HA2 k22)
            clear hK K
            (try simp only [Act.put, List.getElem_toArray, List.getElem_cons_zero, List.getElem_cons_succ, List.setIfInBounds_toArray, List.set_cons_zero, List.set_cons_succ])
            refine wpAnyH_take (i := 7) (v := ?_) rfl (by kernel_rfl) (by kernel_rfl) (by kernel_rfl) (fun _ _ _ h => h) (Or.inl ⟨by rfl, ?_⟩) (by assumption) ?_
            rotate_left
            · (intro w hSw; (try dsimp only at hSw); go_simp; (try with_reducible rfl))
            (try simp only [Act.put, List.getElem_toArray, List.getElem_cons_zero, List.getElem_cons_succ, List.setIfInBounds_toArray, List.set_cons_zero, List.set_cons_succ])
            refine wpAnyH_take (i := 8) (v := ?_) rfl (by kernel_rfl) (by kernel_rfl) (by kernel_rfl) (fun _ _ _ h => h) (Or.inl ⟨by rfl, ?_⟩) (by assumption) ?_
            rotate_left
            · (intro w hSw; (try dsimp only at hSw); go_simp; (try with_reducible rfl))
            (try simp only [Act.put, List.getElem_toArray, List.getElem_cons_zero, List.getElem_cons_succ, List.setIfInBounds_toArray, List.set_cons_zero, List.set_cons_succ])
            refine wpAnyH_ready (rs := [11]) (by kernel_rfl) (by simp) ?_
            refine (AllReadyH.cons rfl (fun K hK => ?_) AllReadyH.nil)
            simp only [List.getElem_toArray, List.getElem_cons_zero, List.getElem_cons_succ]
            go_simp
            go_at_call 24
            with_reducible refine (HBP.out _).mono ?_
            rintro e W24 ⟨rfl, q24⟩
            have k24 : Below w2.heap.size w2 W24 := Below.trans k22 (Below.mono q24 (Below.size k22))
            have m24 := (Below.block q24 _ (lt_of_block m22)).trans m22
            refine hK.out _ _ ?_ (fun hHeld => ?_)
            · exact K0.out _ (Blk.kept HA2 k24)
            clear hK K
            (try simp only [Act.put, List.getElem_toArray, List.getElem_cons_zero, List.getElem_cons_succ, List.setIfInBounds_toArray, List.set_cons_zero, List.set_cons_succ])
            refine wpAnyH_take (i := 12) (v := ?_) rfl (by kernel_rfl) (by kernel_rfl) (by kernel_rfl) (fun _ _ _ h => h) (Or.inl ⟨by rfl, ?_⟩) (by assumption) ?_
            rotate_left
            · (intro w hSw; (try dsimp only at hSw); go_simp; (try with_reducible rfl))
            (try simp only [Act.put, List.getElem_toArray, List.getElem_cons_zero, List.getElem_cons_succ, List.setIfInBounds_toArray, List.set_cons_zero, List.set_cons_succ])
            refine wpAnyH_take (i := 16) (v := ?_) rfl (by kernel_rfl) (by kernel_rfl) (by kernel_rfl) (fun _ _ _ h => h) (Or.inl ⟨by rfl, ?_⟩) (by assumption) ?_
            rotate_left
            · (intro w hSw; (try dsimp only at hSw); go_simp; (try with_reducible rfl))
            (try simp only [Act.put, List.getElem_toArray, List.getElem_cons_zero, List.getElem_cons_succ, List.setIfInBounds_toArray, List.set_cons_zero, List.set_cons_succ])
            refine wpAnyH_ready (rs := [19]) (by kernel_rfl) (by simp) ?_
            refine (AllReadyH.cons rfl (fun K hK => ?_) AllReadyH.nil)
            simp only [List.getElem_toArray, List.getElem_cons_zero, List.getElem_cons_succ]
            go_simp
            go_at_call 24
            with_reducible refine (HBT.out _).mono ?_
            rintro e W25 ⟨rfl, q25⟩
            have k25 : Below w2.heap.size w2 W25 := Below.trans k24 (Below.mono q25 (Below.size k24))
            have m25 := (Below.block q25 _ (lt_of_block m24)).trans m24
            refine hK.out _ _ ?_ (fun hHeld => ?_)
            · exact K0.out _ (Blk.kept HA2 k25)
            clear hK K
            (try simp only [Act.put, List.getElem_toArray, List.getElem_cons_zero, List.getElem_cons_succ, List.setIfInBounds_toArray, List.set_cons_zero, List.set_cons_succ])
            refine wpAnyH_take (i := 20) (v := ?_) rfl (by kernel_rfl) (by kernel_rfl) (by kernel_rfl) (fun _ _ _ h => h) (Or.inl ⟨by rfl, ?_⟩) (by assumption) ?_
            rotate_left
            · (intro w hSw; (try dsimp only at hSw); go_simp; (try with_reducible rfl))
            (try simp only [Act.put, List.getElem_toArray, List.getElem_cons_zero, List.getElem_cons_succ, List.setIfInBounds_toArray, List.set_cons_zero, List.set_cons_succ])
            refine wpAnyH_take (i := 21) (v := ?_) rfl (by kernel_rfl) (by kernel_rfl) (by kernel_rfl) (fun _ _ _ h => h) (Or.inl ⟨by rfl, ?_⟩) (by assumption) ?_
            rotate_left
            · (intro w hSw; (try dsimp only at hSw); go_simp; (try with_reducible rfl))
            (try simp only [Act.put, List.getElem_toArray, List.getElem_cons_zero, List.getElem_cons_succ, List.setIfInBounds_toArray, List.set_cons_zero, List.set_cons_succ])
            refine wpAnyH_done (by kernel_rfl) ?_ _
            refine NoPanic.normal ?_
            exact ⟨rfl, ⟨_, _, _, _, _, _, _, _, _, _, _, _, _, _, _, _, _, _, _, rfl⟩, k25⟩
          ·
            simp only [List.getElem_toArray, List.getElem_cons_zero, List.getElem_cons_succ]
            go_simp
            go_at_call 24
            with_reducible refine (HBP.out _).mono ?_
            rintro e W26 ⟨rfl, q26⟩
            have k26 : Below w2.heap.size w2 W26 := Below.trans k22 (Below.mono q26 (Below.size k22))
            have m26 := (Below.block q26 _ (lt_of_block m22)).trans m22
            refine hK.out _ _ ?_ (fun hHeld => ?_)
            · exact K0.out _ (Blk.kept HA2 k26)
            clear hK K
            (try simp only [Act.put, List.getElem_toArray, List.getElem_cons_zero, List.getElem_cons_succ, List.setIfInBounds_toArray, List.set_cons_zero, List.set_cons_succ])
            refine wpAnyH_ready (rs := [6, 19]) (by kernel_rfl) (by simp) ?_
            refine (AllReadyH.cons rfl (fun K hK => ?_) (AllReadyH.cons rfl (fun K hK => ?_) AllReadyH.nil))
            ·
              simp only [List.getElem_toArray, List.getElem_cons_zero, List.getElem_cons_succ]
              have e27 : (Instr.lookup 63 (.map (some V1.heap.size)) (.bool re) false).run Tryd.prog W26 = .ok (.string ⟨LR.toArray⟩) W26 := by rw [look2 _ _ _ _ m26]; rw [HLR.out]; cases re <;> rfl
              go_simp
              clear e27
              refine hK.out _ _ ?_ (fun hHeld => ?_)
              · exact K0.out _ (Blk.kept HA2 k26)
              clear hK K
              (try simp only [Act.put, List.getElem_toArray, List.getElem_cons_zero, List.getElem_cons_succ, List.setIfInBounds_toArray, List.set_cons_zero, List.set_cons_succ])
              refine wpAnyH_take (i := 7) (v := ?_) rfl (by kernel_rfl) (by kernel_rfl) (by kernel_rfl) (fun _ _ _ h => h) (Or.inl ⟨by rfl, ?_⟩) (by assumption) ?_
              rotate_left
              · (intro w hSw; (try dsimp only at hSw); go_simp; (try with_reducible rfl))
              (try simp only [Act.put, List.getElem_toArray, List.getElem_cons_zero, List.getElem_cons_succ, List.setIfInBounds_toArray, List.set_cons_zero, List.set_cons_succ])
              refine wpAnyH_take (i := 8) (v := ?_) rfl (by kernel_rfl) (by kernel_rfl) (by kernel_rfl) (fun _ _ _ h => h) (Or.inl ⟨by rfl, ?_⟩) (by assumption) ?_
              rotate_left
              · (intro w hSw; (try dsimp only at hSw); go_simp; (try with_reducible rfl))
              (try simp only [Act.put, List.getElem_toArray, List.getElem_cons_zero, List.getElem_cons_succ, List.setIfInBounds_toArray, List.set_cons_zero, List.set_cons_succ])
              refine wpAnyH_take (i := 12) (v := ?_) rfl (by kernel_rfl) (by kernel_rfl) (by kernel_rfl) (fun _ _ _ h => h) (Or.inl ⟨by rfl, ?_⟩) (by assumption) ?_
              rotate_left
              · (intro w hSw; (try dsimp only at hSw); go_simp; (try with_reducible rfl))
              (try simp only [Act.put, List.getElem_toArray, List.getElem_cons_zero, List.getElem_cons_succ, List.setIfInBounds_toArray, List.set_cons_zero, List.set_cons_succ])
              refine wpAnyH_take (i := 16) (v := ?_) rfl (by kernel_rfl) (by kernel_rfl) (by kernel_rfl) (fun _ _ _ h => h) (Or.inl ⟨by rfl, ?_⟩) (by assumption) ?_
              rotate_left
              · (intro w hSw; (try dsimp only at hSw); go_simp; (try with_reducible rfl))
              (try simp only [Act.put, List.getElem_toArray, List.getElem_cons_zero, List.getElem_cons_succ, List.setIfInBounds_toArray, List.set_cons_zero, List.set_cons_succ])
              refine wpAnyH_ready (rs := [19]) (by kernel_rfl) (by simp) ?_
              refine (AllReadyH.cons rfl (fun K hK => ?_) AllReadyH.nil)
              simp only [List.getElem_toArray, List.getElem_cons_zero, List.getElem_cons_succ]
              go_simp
              go_at_call 24
              with_reducible refine (HBT.out _).mono ?_
              rintro e W28 ⟨rfl, q28⟩
              have k28 : Below w2.heap.size w2 W28 := Below.trans k26 (Below.mono q28 (Below.size k26))
              have m28 := (Below.block q28 _ (lt_of_block m26)).trans m26
              refine hK.out _ _ ?_ (fun hHeld => ?_)
              · exact K0.out _ (Blk.kept HA2 k28)
              clear hK K
              (try simp only [Act.put, List.getElem_toArray, List.getElem_cons_zero, List.getElem_cons_succ, List.setIfInBounds_toArray, List.set_cons_zero, List.set_cons_succ])
              refine wpAnyH_take (i := 20) (v := ?_) rfl (by kernel_rfl) (by kernel_rfl) (by kernel_rfl) (fun _ _ _ h => h) (Or.inl ⟨by rfl, ?_⟩) (by assumption) ?_
              rotate_left
              · (intro w hSw; (try dsimp only at hSw); go_simp; (try with_reducible rfl))
              (try simp only [Act.put, List.getElem_toArray, List.getElem_cons_zero, List.getElem_cons_succ, List.setIfInBounds_toArray, List.set_cons_zero, List.set_cons_succ])
              refine wpAnyH_take (i := 21) (v := ?_) rfl (by kernel_rfl) (by kernel_rfl) (by kernel_rfl) (fun _ _ _ h => h) (Or.inl ⟨by rfl, ?_⟩) (by assumption) ?_
              rotate_left
              · (intro w hSw; (try dsimp only at hSw); go_simp; (try with_reducible rfl))
              (try simp only [Act.put, List.getElem_toArray, List.getElem_cons_zero, List.getElem_cons_succ, List.setIfInBounds_toArray, List.set_cons_zero, List.set_cons_succ])
              refine wpAnyH_done (by kernel_rfl) ?_ _
              refine NoPanic.normal ?_
              exact ⟨rfl, ⟨_, _, _, _, _, _, _, _, _, _, _, _, _, _, _, _, _, _, _, rfl⟩, k28⟩
            ·
              simp only [List.getElem_toArray, List.getElem_cons_zero, List.getElem_cons_succ]
              go_simp
              go_at_call 24
              with_reducible refine (HBT.out _).mono ?_
              rintro e W29 ⟨rfl, q29⟩
              have k29 : Below w2.heap.size w2 W29 := Below.trans k26 (Below.mono q29 (Below.size k26))
              have m29 := (Below.block q29 _ (lt_of_block m26)).trans m26
              refine hK.out _ _ ?_ (fun hHeld => ?_)
              · exact K0.out _ (Blk.kept HA2 k29)
              clear hK K
              (try simp only [Act.put, List.getElem_toArray, List.getElem_cons_zero, List.getElem_cons_succ, List.setIfInBounds_toArray, List.set_cons_zero, List.set_cons_succ])
              refine wpAnyH_ready (rs := [6]) (by kernel_rfl) (by simp) ?_
              refine (AllReadyH.cons rfl (fun K hK => ?_) AllReadyH.nil)
              simp only [List.getElem_toArray, List.getElem_cons_zero, List.getElem_cons_succ]
              have e30 : (Instr.lookup 63 (.map (some V1.heap.size)) (.bool re) false).run Tryd.prog W29 = .ok (.string ⟨LR.toArray⟩) W29 := by rw [look2 _ _ _ _ m29]; rw [HLR.out]; cases re <;> rfl
              go_simp
              clear e30
              refine hK.out _ _ ?_ (fun hHeld => ?_)
              · exact K0.out _ (Blk.kept HA2 k29)
              clear hK K
              (try simp only [Act.put, List.getElem_toArray, List.getElem_cons_zero, List.getElem_cons_succ, List.setIfInBounds_toArray, List.set_cons_zero, List.set_cons_succ])
              refine wpAnyH_take (i := 7) (v := ?_) rfl (by kernel_rfl) (by kernel_rfl) (by kernel_rfl) (fun _ _ _ h => h) (Or.inl ⟨by rfl, ?_⟩) (by assumption) ?_
              rotate_left
              · (intro w hSw; (try dsimp only at hSw); go_simp; (try with_reducible rfl))
              (try simp only [Act.put, List.getElem_toArray, List.getElem_cons_zero, List.getElem_cons_succ, List.setIfInBounds_toArray, List.set_cons_zero, List.set_cons_succ])
              refine wpAnyH_take (i := 8) (v := ?_) rfl (by kernel_rfl) (by kernel_rfl) (by kernel_rfl) (fun _ _ _ h => h) (Or.inl ⟨by rfl, ?_⟩) (by assumption) ?_
              rotate_left
              · (intro w hSw; (try dsimp only at hSw); go_simp; (try with_reducible rfl))
              (try simp only [Act.put, List.getElem_toArray, List.getElem_cons_zero, List.getElem_cons_succ, List.setIfInBounds_toArray, List.set_cons_zero, List.set_cons_succ])
              refine wpAnyH_take (i := 12) (v := ?_) rfl (by kernel_rfl) (by kernel_rfl) (by kernel_rfl) (fun _ _ _ h => h) (Or.inl ⟨by rfl, ?_⟩) (by assumption) ?_
              rotate_left
              · (intro w hSw; (try dsimp only at hSw); go_simp; (try with_reducible rfl))
              (try simp only [Act.put, List.getElem_toArray, List.getElem_cons_zero, List.getElem_cons_succ, List.setIfInBounds_toArray, List.set_cons_zero, List.set_cons_succ])
              refine wpAnyH_take (i := 16) (v := ?_) rfl (by kernel_rfl) (by kernel_rfl) (by kernel_rfl) (fun _ _ _ h => h) (Or.inl ⟨by rfl, ?_⟩) (by assumption) ?_
              rotate_left
              · (intro w hSw; (try dsimp only at hSw); go_simp; (try with_reducible rfl))
              (try simp only [Act.put, List.getElem_toArray, List.getElem_cons_zero, List.getElem_cons_succ, List.setIfInBounds_toArray, List.set_cons_zero, List.set_cons_succ])
              refine wpAnyH_take (i := 20) (v := ?_) rfl (by kernel_rfl) (by kernel_rfl) (by kernel_rfl) (fun _ _ _ h => h) (Or.inl ⟨by rfl, ?_⟩) (by assumption) ?_
              rotate_left
              · (intro w hSw; (try dsimp only at hSw); go_simp; (try with_reducible rfl))
              (try simp only [Act.put, List.getElem_toArray, List.getElem_cons_zero, List.getElem_cons_succ, List.setIfInBounds_toArray, List.set_cons_zero, List.set_cons_succ])
              refine wpAnyH_take (i := 21) (v := ?_) rfl (by kernel_rfl) (by kernel_rfl) (by kernel_rfl) (fun _ _ _ h => h) (Or.inl ⟨by rfl, ?_⟩) (by assumption) ?_
              rotate_left
              · (intro w hSw; (try dsimp only at hSw); go_simp; (try with_reducible rfl))
              (try simp only [Act.put, List.getElem_toArray, List.getElem_cons_zero, List.getElem_cons_succ, List.setIfInBounds_toArray, List.set_cons_zero, List.set_cons_succ])
              refine wpAnyH_done (by kernel_rfl) ?_ _
              refine NoPanic.normal ?_
              exact ⟨rfl, ⟨_, _, _, _, _, _, _, _, _, _, _, _, _, _, _, _, _, _, _, rfl⟩, k29⟩
        ·
          simp only [List.getElem_toArray, List.getElem_cons_zero, List.getElem_cons_succ]
          go_simp
          go_at_call 24
          with_reducible refine (HBP.out _).mono ?_
          rintro e W31 ⟨rfl, q31⟩
          have k31 : Below w2.heap.size w2 W31 := Below.trans k21 (Below.mono q31 (Below.size k21))
          have m31 := (Below.block q31 _ (lt_of_block m21)).trans m21
          refine hK.out _ _ ?_ (fun hHeld => ?_)
          · exact K0.out _ (Blk.kept HA2 k31)
          clear hK K
          (try simp only [Act.put, List.getElem_toArray, List.getElem_cons_zero, List.getElem_cons_succ, List.setIfInBounds_toArray, List.set_cons_zero, List.set_cons_succ])
          refine wpAnyH_ready (rs := [1, 19]) (by kernel_rfl) (by simp) ?_
          refine (AllReadyH.cons rfl (fun K hK => ?_) (AllReadyH.cons rfl (fun K hK => ?_) AllReadyH.nil))
          ·
            simp only [List.getElem_toArray, List.getElem_cons_zero, List.getElem_cons_succ]
            have e32 : (Instr.mapUpdate 63 (.map (some V1.heap.size)) (.bool true) (.string ⟨#[2]⟩)).run Tryd.prog W31 = .ok () (putB W31 V1.heap.size (.map #[⟨.bool false, .string ⟨#[1]⟩, 0⟩, ⟨.bool true, .string ⟨#[2]⟩, 1⟩] 2)) := ins1 false _ _ m31
            have k32 : Below w2.heap.size w2 (putB W31 V1.heap.size (.map #[⟨.bool false, .string ⟨#[1]⟩, 0⟩, ⟨.bool true, .string ⟨#[2]⟩, 1⟩] 2)) := putB_below _ k31 b1
            have m32 : (putB W31 V1.heap.size (.map #[⟨.bool false, .string ⟨#[1]⟩, 0⟩, ⟨.bool true, .string ⟨#[2]⟩, 1⟩] 2)).heap[V1.heap.size]? = some (.map #[⟨.bool false, .string ⟨#[1]⟩, 0⟩, ⟨.bool true, .string ⟨#[2]⟩, 1⟩] 2) := putB_at _ (lt_of_block m31)
            go_simp
            clear e32
            refine hK.out _ _ ?_ (fun hHeld => ?_)
            · exact K0.out _ (Blk.kept HA2 k32)
            clear hK K
            (try simp only [Act.put, List.getElem_toArray, List.getElem_cons_zero, List.getElem_cons_succ, List.setIfInBounds_toArray, List.set_cons_zero, List.set_cons_succ])
            generalize putB W31 V1.heap.size (.map #[⟨.bool false, .string ⟨#[1]⟩, 0⟩, ⟨.bool true, .string ⟨#[2]⟩, 1⟩] 2) = W32 at *
            refine wpAnyH_take (i := 3) (v := ?_) rfl (by kernel_rfl) (by kernel_rfl) (by kernel_rfl) (fun _ _ _ h => h) (Or.inl ⟨by rfl, ?_⟩) (by assumption) ?_
            rotate_left
            · (intro w hSw; (try dsimp only at hSw); go_simp; (try with_reducible rfl))
            (try simp only [Act.put, List.getElem_toArray, List.getElem_cons_zero, List.getElem_cons_succ, List.setIfInBounds_toArray, List.set_cons_zero, List.set_cons_succ])
            refine wpAnyH_ready (rs := [6, 19]) (by kernel_rfl) (by simp) ?_
            refine (AllReadyH.cons rfl (fun K hK => ?_) (AllReadyH.cons rfl (fun K hK => ?_) AllReadyH.nil))
            ·
              simp only [List.getElem_toArray, List.getElem_cons_zero, List.getElem_cons_succ]
              have e33 : (Instr.lookup 63 (.map (some V1.heap.size)) (.bool re) false).run Tryd.prog W32 = .ok (.string ⟨LR.toArray⟩) W32 := by rw [look2 _ _ _ _ m32]; rw [HLR.out]; cases re <;> rfl
              go_simp
              clear e33
              refine hK.out _ _ ?_ (fun hHeld => ?_)
              · exact K0.out _ (Blk.kept HA2 k32)
              clear hK K
              (try simp only [Act.put, List.getElem_toArray, List.getElem_cons_zero, List.getElem_cons_succ, List.setIfInBounds_toArray, List.set_cons_zero, List.set_cons_succ])
              refine wpAnyH_take (i := 7) (v := ?_) rfl (by kernel_rfl) (by kernel_rfl) (by kernel_rfl) (fun _ _ _ h => h) (Or.inl ⟨by rfl, ?_⟩) (by assumption) ?_
              rotate_left
              · (intro w hSw; (try dsimp only at hSw); go_simp; (try with_reducible rfl))
              (try simp only [Act.put, List.getElem_toArray, List.getElem_cons_zero, List.getElem_cons_succ, List.setIfInBounds_toArray, List.set_cons_zero, List.set_cons_succ])
              refine wpAnyH_take (i := 8) (v := ?_) rfl (by kernel_rfl) (by kernel_rfl) (by kernel_rfl) (fun _ _ _ h => h) (Or.inl ⟨by rfl, ?_⟩) (by assumption) ?_
              rotate_left
              · (intro w hSw; (try dsimp only at hSw); go_simp; (try with_reducible rfl))
              (try simp only [Act.put, List.getElem_toArray, List.getElem_cons_zero, List.getElem_cons_succ, List.setIfInBounds_toArray, List.set_cons_zero, List.set_cons_succ])
              refine wpAnyH_take (i := 12) (v := ?_) rfl (by kernel_rfl) (by kernel_rfl) (by kernel_rfl) (fun _ _ _ h => h) (Or.inl ⟨by rfl, ?_⟩) (by assumption) ?_
              rotate_left
              · (intro w hSw; (try dsimp only at hSw); go_simp; (try with_reducible rfl))
              (try simp only [Act.put, List.getElem_toArray, List.getElem_cons_zero, List.getElem_cons_succ, List.setIfInBounds_toArray, List.set_cons_zero, List.set_cons_succ])
              refine wpAnyH_take (i := 16) (v := ?_) rfl (by kernel_rfl) (by kernel_rfl) (by kernel_rfl) (fun _ _ _ h => h) (Or.inl ⟨by rfl, ?_⟩) (by assumption) ?_
              rotate_left
              · (intro w hSw; (try dsimp only at hSw); go_simp; (try with_reducible rfl))
              (try simp only [Act.put, List.getElem_toArray, List.getElem_cons_zero, List.getElem_cons_succ, List.setIfInBounds_toArray, List.set_cons_zero, List.set_cons_succ])
              refine wpAnyH_ready (rs := [19]) (by kernel_rfl) (by simp) ?_
              refine (AllReadyH.cons rfl (fun K hK => ?_) AllReadyH.nil)
              simp only [List.getElem_toArray, List.getElem_cons_zero, List.getElem_cons_succ]
              go_simp
              go_at_call 24
              with_reducible refine (HBT.out _).mono ?_
              rintro e W34 ⟨rfl, q34⟩
              have k34 : Below w2.heap.size w2 W34 := Below.trans k32 (Below.mono q34 (Below.size k32))
              have m34 := (Below.block q34 _ (lt_of_block m32)).trans m32
              refine hK.out _ _ ?_ (fun hHeld => ?_)
              · exact K0.out _ (Blk.kept HA2 k34)
              clear hK K
              (try simp only [Act.put, List.getElem_toArray, List.getElem_cons_zero, List.getElem_cons_succ, List.setIfInBounds_toArray, List.set_cons_zero, List.set_cons_succ])
              refine wpAnyH_take (i := 20) (v := ?_) rfl (by kernel_rfl) (by kernel_rfl) (by kernel_rfl) (fun _ _ _ h => h) (Or.inl ⟨by rfl, ?_⟩) (by assumption) ?_
              rotate_left
              · (intro w hSw; (try dsimp only at hSw); go_simp; (try with_reducible rfl))
              (try simp only [Act.put, List.getElem_toArray, List.getElem_cons_zero, List.getElem_cons_succ, List.setIfInBounds_toArray, List.set_cons_zero, List.set_cons_succ])
              refine wpAnyH_take (i := 21) (v := ?_) rfl (by kernel_rfl) (by kernel_rfl) (by kernel_rfl) (fun _ _ _ h => h) (Or.inl ⟨by rfl, ?_⟩) (by assumption) ?_
              rotate_left
              · (intro w hSw; (try dsimp only at hSw); go_simp; (try with_reducible rfl))
              (try simp only [Act.put, List.getElem_toArray, List.getElem_cons_zero, List.getElem_cons_succ, List.setIfInBounds_toArray, List.set_cons_zero, List.set_cons_succ])
              refine wpAnyH_done (by kernel_rfl) ?_ _
              refine NoPanic.normal ?_
              exact ⟨rfl, ⟨_, _, _, _, _, _, _, _, _, _, _, _, _, _, _, _, _, _, _, rfl⟩, k34⟩
            ·
              simp only [List.getElem_toArray, List.getElem_cons_zero, List.getElem_cons_succ]
              go_simp
              go_at_call 24
              with_reducible refine (HBT.out _).mono ?_
              rintro e W35 ⟨rfl, q35⟩
              have k35 : Below w2.heap.size w2 W35 := Below.trans k32 (Below.mono q35 (Below.size k32))
              have m35 := (Below.block q35 _ (lt_of_block m32)).trans m32
              refine hK.out _ _ ?_ (fun hHeld => ?_)
              · exact K0.out _ (Blk.kept HA2 k35)
              clear hK K
              (try simp only [Act.put, List.getElem_toArray, List.getElem_cons_zero, List.getElem_cons_succ, List.setIfInBounds_toArray, List.set_cons_zero, List.set_cons_succ])
              refine wpAnyH_ready (rs := [6]) (by kernel_rfl) (by simp) ?_
              refine (AllReadyH.cons rfl (fun K hK => ?_) AllReadyH.nil)
              simp only [List.getElem_toArray, List.getElem_cons_zero, List.getElem_cons_succ]
              have e36 : (Instr.lookup 63 (.map (some V1.heap.size)) (.bool re) false).run Tryd.prog W35 = .ok (.string ⟨LR.toArray⟩) W35 := by rw [look2 _ _ _ _ m35]; rw [HLR.out]; cases re <;> rfl
              go_simp
              clear e36
              refine hK.out _ _ ?_ (fun hHeld => ?_)
              · exact K0.out _ (Blk.kept HA2 k35)
              clear hK K
              (try simp only [Act.put, List.getElem_toArray, List.getElem_cons_zero, List.getElem_cons_succ, List.setIfInBounds_toArray, List.set_cons_zero, List.set_cons_succ])
              refine wpAnyH_take (i := 7) (v := ?_) rfl (by kernel_rfl) (by kernel_rfl) (by kernel_rfl) (fun _ _ _ h => h) (Or.inl ⟨by rfl, ?_⟩) (by assumption) ?_
              rotate_left
              · (intro w hSw; (try dsimp only at hSw); go_simp; (try with_reducible rfl))
              (try simp only [Act.put, List.getElem_toArray, List.getElem_cons_zero, List.getElem_cons_succ, List.setIfInBounds_toArray, List.set_cons_zero, List.set_cons_succ])
              refine wpAnyH_take (i := 8) (v := ?_) rfl (by kernel_rfl) (by kernel_rfl) (by kernel_rfl) (fun _ _ _ h => h) (Or.inl ⟨by rfl, ?_⟩) (by assumption) ?_
              rotate_left
              · (intro w hSw; (try dsimp only at hSw); go_simp; (try with_reducible rfl))
              (try simp only [Act.put, List.getElem_toArray, List.getElem_cons_zero, List.getElem_cons_succ, List.setIfInBounds_toArray, List.set_cons_zero, List.set_cons_succ])
              refine wpAnyH_take (i := 12) (v := ?_) rfl (by kernel_rfl) (by kernel_rfl) (by kernel_rfl) (fun _ _ _ h => h) (Or.inl ⟨by rfl, ?_⟩) (by assumption) ?_
              rotate_left
              · (intro w hSw; (try dsimp only at hSw); go_simp; (try with_reducible rfl))
              (try simp only [Act.put, List.getElem_toArray, List.getElem_cons_zero, List.getElem_cons_succ, List.setIfInBounds_toArray, List.set_cons_zero, List.set_cons_succ])
              refine wpAnyH_take (i := 16) (v := ?_) rfl (by kernel_rfl) (by kernel_rfl) (by kernel_rfl) (fun _ _ _ h => h) (Or.inl ⟨by rfl, ?_⟩) (by assumption) ?_
              rotate_left
              · (intro w hSw; (try dsimp only at hSw); go_simp; (try with_reducible rfl))
              (try simp only [Act.put, List.getElem_toArray, List.getElem_cons_zero, List.getElem_cons_succ, List.setIfInBounds_toArray, List.set_cons_zero, List.set_cons_succ])
              refine wpAnyH_take (i := 20) (v := ?_) rfl (by kernel_rfl) (by kernel_rfl) (by kernel_rfl) (fun _ _ _ h => h) (Or.inl ⟨by rfl, ?_⟩) (by assumption) ?_
              rotate_left
              · (intro w hSw; (try dsimp only at hSw); go_simp; (try with_reducible rfl))
              (try simp only [Act.put, List.getElem_toArray, List.getElem_cons_zero, List.getElem_cons_succ, List.setIfInBounds_toArray, List.set_cons_zero, List.set_cons_succ])
              refine wpAnyH_take (i := 21) (v := ?_) rfl (by kernel_rfl) (by kernel_rfl) (by kernel_rfl) (fun _ _ _ h => h) (Or.inl ⟨by rfl, ?_⟩) (by assumption) ?_
              rotate_left
              · (intro w hSw; (try dsimp only at hSw); go_simp; (try with_reducible rfl))
              (try simp only [Act.put, List.getElem_toArray, List.getElem_cons_zero, List.getElem_cons_succ, List.setIfInBounds_toArray, List.set_cons_zero, List.set_cons_succ])
              refine wpAnyH_done (by kernel_rfl) ?_ _
              refine NoPanic.normal ?_
              exact ⟨rfl, ⟨_, _, _, _, _, _, _, _, _, _, _, _, _, _, _, _, _, _, _, rfl⟩, k35⟩
          ·
            simp only [List.getElem_toArray, List.getElem_cons_zero, List.getElem_cons_succ]
            go_simp
            go_at_call 24
            with_reducible refine (HBT.out _).mono ?_
            rintro e W37 ⟨rfl, q37⟩
            have k37 : Below w2.heap.size w2 W37 := Below.trans k31 (Below.mono q37 (Below.size k31))
            have m37 := (Below.block q37 _ (lt_of_block m31)).trans m31
            refine hK.out _ _ ?_ (fun hHeld => ?_)
            · exact K0.out _ (Blk.kept HA2 k37)
            clear hK K
            (try simp only [Act.put, List.getElem_toArray, List.getElem_cons_zero, List.getElem_cons_succ, List.setIfInBounds_toArray, List.set_cons_zero, List.set_cons_succ])
            refine wpAnyH_ready (rs := [1]) (by kernel_rfl) (by simp) ?_
            refine (AllReadyH.cons rfl (fun K hK => ?_) AllReadyH.nil)
            simp only [List.getElem_toArray, List.getElem_cons_zero, List.getElem_cons_succ]
            have e38 : (Instr.mapUpdate 63 (.map (some V1.heap.size)) (.bool true) (.string ⟨#[2]⟩)).run Tryd.prog W37 = .ok () (putB W37 V1.heap.size (.map #[⟨.bool false, .string ⟨#[1]⟩, 0⟩, ⟨.bool true, .string ⟨#[2]⟩, 1⟩] 2)) := ins1 false _ _ m37
            have k38 : Below w2.heap.size w2 (putB W37 V1.heap.size (.map #[⟨.bool false, .string ⟨#[1]⟩, 0⟩, ⟨.bool true, .string ⟨#[2]⟩, 1⟩] 2)) := putB_below _ k37 b1
            have m38 : (putB W37 V1.heap.size (.map #[⟨.bool false, .string ⟨#[1]⟩, 0⟩, ⟨.bool true, .string ⟨#[2]⟩, 1⟩] 2)).heap[V1.heap.size]? = some (.map #[⟨.bool false, .string ⟨#[1]⟩, 0⟩, ⟨.bool true, .string ⟨#[2]⟩, 1⟩] 2) := putB_at _ (lt_of_block m37)
            go_simp
            clear e38
            refine hK.out _ _ ?_ (fun hHeld => ?_)
            · exact K0.out _ (Blk.kept HA2 k38)
            clear hK K
            (try simp only [Act.put, List.getElem_toArray, List.getElem_cons_zero, List.getElem_cons_succ, List.setIfInBounds_toArray, List.set_cons_zero, List.set_cons_succ])
            generalize putB W37 V1.heap.size (.map #[⟨.bool false, .string ⟨#[1]⟩, 0⟩, ⟨.bool true, .string ⟨#[2]⟩, 1⟩] 2) = W38 at *
            refine wpAnyH_take (i := 3) (v := ?_) rfl (by kernel_rfl) (by kernel_rfl) (by kernel_rfl) (fun _ _ _ h => h) (Or.inl ⟨by rfl, ?_⟩) (by assumption) ?_
            rotate_left
            · (intro w hSw; (try dsimp only at hSw); go_simp; (try with_reducible rfl))
            (try simp only [Act.put, List.getElem_toArray, List.getElem_cons_zero, List.getElem_cons_succ, List.setIfInBounds_toArray, List.set_cons_zero, List.set_cons_succ])
            refine wpAnyH_ready (rs := [6]) (by kernel_rfl) (by simp) ?_
            refine (AllReadyH.cons rfl (fun K hK => ?_) AllReadyH.nil)
            simp only [List.getElem_toArray, List.getElem_cons_zero, List.getElem_cons_succ]
            have e39 : (Instr.lookup 63 (.map (some V1.heap.size)) (.bool re) false).run Tryd.prog W38 = .ok (.string ⟨LR.toArray⟩) W38 := by rw [look2 _ _ _ _ m38]; rw [HLR.out]; cases re <;> rfl
            go_simp
            clear e39
            refine hK.out _ _ ?_ (fun hHeld => ?_)
            · exact K0.out _ (Blk.kept HA2 k38)
            clear hK K
            (try simp only [Act.put, List.getElem_toArray, List.getElem_cons_zero, List.getElem_cons_succ, List.setIfInBounds_toArray, List.set_cons_zero, List.set_cons_succ])
            refine wpAnyH_take (i := 7) (v := ?_) rfl (by kernel_rfl) (by kernel_rfl) (by kernel_rfl) (fun _ _ _ h => h) (Or.inl ⟨by rfl, ?_⟩) (by assumption) ?_
            rotate_left
            · (intro w hSw; (try dsimp only at hSw); go_simp; (try with_reducible rfl))
            (try simp only [Act.put, List.getElem_toArray, List.getElem_cons_zero, List.getElem_cons_succ, List.setIfInBounds_toArray, List.set_cons_zero, List.set_cons_succ])
            refine wpAnyH_take (i := 8) (v := ?_) rfl (by kernel_rfl) (by kernel_rfl) (by kernel_rfl) (fun _ _ _ h => h) (Or.inl ⟨by rfl, ?_⟩) (by assumption) ?_
            rotate_left
            · (intro w hSw; (try dsimp only at hSw); go_simp; (try with_reducible rfl))
            (try simp only [Act.put, List.getElem_toArray, List.getElem_cons_zero, List.getElem_cons_succ, List.setIfInBounds_toArray, List.set_cons_zero, List.set_cons_succ])
            refine wpAnyH_take (i := 12) (v := ?_) rfl (by kernel_rfl) (by kernel_rfl) (by kernel_rfl) (fun _ _ _ h => h) (Or.inl ⟨by rfl, ?_⟩) (by assumption) ?_
            rotate_left
            · (intro w hSw; (try dsimp only at hSw); go_simp; (try with_reducible rfl))
            (try simp only [Act.put, List.getElem_toArray, List.getElem_cons_zero, List.getElem_cons_succ, List.setIfInBounds_toArray, List.set_cons_zero, List.set_cons_succ])
            refine wpAnyH_take (i := 16) (v := ?_) rfl (by kernel_rfl) (by kernel_rfl) (by kernel_rfl) (fun _ _ _ h => h) (Or.inl ⟨by rfl, ?_⟩) (by assumption) ?_
            rotate_left
            · (intro w hSw; (try dsimp only at hSw); go_simp; (try with_reducible rfl))
            (try simp only [Act.put, List.getElem_toArray, List.getElem_cons_zero, List.getElem_cons_succ, List.setIfInBounds_toArray, List.set_cons_zero, List.set_cons_succ])
            refine wpAnyH_take (i := 20) (v := ?_) rfl (by kernel_rfl) (by kernel_rfl) (by kernel_rfl) (fun _ _ _ h => h) (Or.inl ⟨by rfl, ?_⟩) (by assumption) ?_
            rotate_left
            · (intro w hSw; (try dsimp only at hSw); go_simp; (try with_reducible rfl))
            (try simp only [Act.put, List.getElem_toArray, List.getElem_cons_zero, List.getElem_cons_succ, List.setIfInBounds_toArray, List.set_cons_zero, List.set_cons_succ])
            refine wpAnyH_take (i := 21) (v := ?_) rfl (by kernel_rfl) (by kernel_rfl) (by kernel_rfl) (fun _ _ _ h => h) (Or.inl ⟨by rfl, ?_⟩) (by assumption) ?_
            rotate_left
            · (intro w hSw; (try dsimp only at hSw); go_simp; (try with_reducible rfl))
            (try simp only [Act.put, List.getElem_toArray, List.getElem_cons_zero, List.getElem_cons_succ, List.setIfInBounds_toArray, List.set_cons_zero, List.set_cons_succ])
            refine wpAnyH_done (by kernel_rfl) ?_ _
            refine NoPanic.normal ?_
            exact ⟨rfl, ⟨_, _, _, _, _, _, _, _, _, _, _, _, _, _, _, _, _, _, _, rfl⟩, k38⟩
      ·
        simp only [List.getElem_toArray, List.getElem_cons_zero, List.getElem_cons_succ]
        go_simp
        go_at_call 24
        with_reducible refine (HBP.out _).mono ?_
        rintro e W40 ⟨rfl, q40⟩
        have k40 : Below w2.heap.size w2 W40 := Below.trans k1 (Below.mono q40 (Below.size k1))
        have m40 := (Below.block q40 _ (lt_of_block m1)).trans m1
        refine hK.out _ _ ?_ (fun hHeld => ?_)
        · exact K0.out _ (Blk.kept HA2 k40)
        clear hK K
        (try simp only [Act.put, List.getElem_toArray, List.getElem_cons_zero, List.getElem_cons_succ, List.setIfInBounds_toArray, List.set_cons_zero, List.set_cons_succ])
        refine wpAnyH_ready (rs := [1, 2, 19]) (by kernel_rfl) (by simp) ?_
        refine (AllReadyH.cons rfl (fun K hK => ?_) (AllReadyH.cons rfl (fun K hK => ?_) (AllReadyH.cons rfl (fun K hK => ?_) AllReadyH.nil)))
        ·
          simp only [List.getElem_toArray, List.getElem_cons_zero, List.getElem_cons_succ]
          have e41 : (Instr.mapUpdate 63 (.map (some V1.heap.size)) (.bool true) (.string ⟨#[2]⟩)).run Tryd.prog W40 = .ok () (putB W40 V1.heap.size (.map #[⟨.bool true, .string ⟨#[2]⟩, 0⟩] 1)) := ins0 true _ m40
          have k41 : Below w2.heap.size w2 (putB W40 V1.heap.size (.map #[⟨.bool true, .string ⟨#[2]⟩, 0⟩] 1)) := putB_below _ k40 b1
          have m41 : (putB W40 V1.heap.size (.map #[⟨.bool true, .string ⟨#[2]⟩, 0⟩] 1)).heap[V1.heap.size]? = some (.map #[⟨.bool true, .string ⟨#[2]⟩, 0⟩] 1) := putB_at _ (lt_of_block m40)
          go_simp
          clear e41
          refine hK.out _ _ ?_ (fun hHeld => ?_)
          · exact K0.out _ (Blk.kept HA2 k41)
          clear hK K
          (try simp only [Act.put, List.getElem_toArray, List.getElem_cons_zero, List.getElem_cons_succ, List.setIfInBounds_toArray, List.set_cons_zero, List.set_cons_succ])
          generalize putB W40 V1.heap.size (.map #[⟨.bool true, .string ⟨#[2]⟩, 0⟩] 1) = W41 at *
          refine wpAnyH_ready (rs := [2, 19]) (by kernel_rfl) (by simp) ?_
          refine (AllReadyH.cons rfl (fun K hK => ?_) (AllReadyH.cons rfl (fun K hK => ?_) AllReadyH.nil))
          ·
            simp only [List.getElem_toArray, List.getElem_cons_zero, List.getElem_cons_succ]
            have e42 : (Instr.mapUpdate 63 (.map (some V1.heap.size)) (.bool false) (.string ⟨#[1]⟩)).run Tryd.prog W41 = .ok () (putB W41 V1.heap.size (.map #[⟨.bool true, .string ⟨#[2]⟩, 0⟩, ⟨.bool false, .string ⟨#[1]⟩, 1⟩] 2)) := ins1 true _ _ m41
            have k42 : Below w2.heap.size w2 (putB W41 V1.heap.size (.map #[⟨.bool true, .string ⟨#[2]⟩, 0⟩, ⟨.bool false, .string ⟨#[1]⟩, 1⟩] 2)) := putB_below _ k41 b1
            have m42 : (putB W41 V1.heap.size (.map #[⟨.bool true, .string ⟨#[2]⟩, 0⟩, ⟨.bool false, .string ⟨#[1]⟩, 1⟩] 2)).heap[V1.heap.size]? = some (.map #[⟨.bool true, .string ⟨#[2]⟩, 0⟩, ⟨.bool false, .string ⟨#[1]⟩, 1⟩] 2) := putB_at _ (lt_of_block m41)
            go_simp
            clear e42
            refine hK.out _ _ ?_ (fun hHeld => ?_)
            · exact K0.out _ (Blk.kept HA2 k42)
            clear hK K
            (try simp only [Act.put, List.getElem_toArray, List.getElem_cons_zero, List.getElem_cons_succ, List.setIfInBounds_toArray, List.set_cons_zero, List.set_cons_succ])
            generalize putB W41 V1.heap.size (.map #[⟨.bool true, .string ⟨#[2]⟩, 0⟩, ⟨.bool false, .string ⟨#[1]⟩, 1⟩] 2) = W42 at *
            refine wpAnyH_take (i := 3) (v := ?_) rfl (by kernel_rfl) (by kernel_rfl) (by kernel_rfl) (fun _ _ _ h => h) (Or.inl ⟨by rfl, ?_⟩) (by assumption) ?_
            rotate_left
            · (intro w hSw; (try dsimp only at hSw); go_simp; (try with_reducible rfl))
            (try simp only [Act.put, List.getElem_toArray, List.getElem_cons_zero, List.getElem_cons_succ, List.setIfInBounds_toArray, List.set_cons_zero, List.set_cons_succ])
            refine wpAnyH_ready (rs := [6, 19]) (by kernel_rfl) (by simp) ?_
            refine (AllReadyH.cons rfl (fun K hK => ?_) (AllReadyH.cons rfl (fun K hK => ?_) AllReadyH.nil))
            ·
              simp only [List.getElem_toArray, List.getElem_cons_zero, List.getElem_cons_succ]
              have e43 : (Instr.lookup 63 (.map (some V1.heap.size)) (.bool re) false).run Tryd.prog W42 = .ok (.string ⟨LR.toArray⟩) W42 := by rw [look2 _ _ _ _ m42]; rw [HLR.out]; cases re <;> rfl
              go_simp
              clear e43
              refine hK.out _ _ ?_ (fun hHeld => ?_)
              · exact K0.out _ (Blk.kept HA2 k42)
              clear hK K
              (try simp only [Act.put, List.getElem_toArray, List.getElem_cons_zero, List.getElem_cons_succ, List.setIfInBounds_toArray, List.set_cons_zero, List.set_cons_succ])
              refine wpAnyH_take (i := 7) (v := ?_) rfl (by kernel_rfl) (by kernel_rfl) (by kernel_rfl) (fun _ _ _ h => h) (Or.inl ⟨by rfl, ?_⟩) (by assumption) ?_
              rotate_left
              · (intro w hSw; (try dsimp only at hSw); go_simp; (try with_reducible rfl))
              (try simp only [Act.put, List.getElem_toArray, List.getElem_cons_zero, List.getElem_cons_succ, List.setIfInBounds_toArray, List.set_cons_zero, List.set_cons_succ])
              refine wpAnyH_take (i := 8) (v := ?_) rfl (by kernel_rfl) (by kernel_rfl) (by kernel_rfl) (fun _ _ _ h => h) (Or.inl ⟨by rfl, ?_⟩) (by assumption) ?_
              rotate_left
              · (intro w hSw; (try dsimp only at hSw); go_simp; (try with_reducible rfl))
              (try simp only [Act.put, List.getElem_toArray, List.getElem_cons_zero, List.getElem_cons_succ, List.setIfInBounds_toArray, List.set_cons_zero, List.set_cons_succ])
              refine wpAnyH_take (i := 12) (v := ?_) rfl (by kernel_rfl) (by kernel_rfl) (by kernel_rfl) (fun _ _ _ h => h) (Or.inl ⟨by rfl, ?_⟩) (by assumption) ?_
              rotate_left
              · (intro w hSw; (try dsimp only at hSw); go_simp; (try with_reducible rfl))
              (try simp only [Act.put, List.getElem_toArray, List.getElem_cons_zero, List.getElem_cons_succ, List.setIfInBounds_toArray, List.set_cons_zero, List.set_cons_succ])
              refine wpAnyH_take (i := 16) (v := ?_) rfl (by kernel_rfl) (by kernel_rfl) (by kernel_rfl) (fun _ _ _ h => h) (Or.inl ⟨by rfl, ?_⟩) (by assumption) ?_
              rotate_left
              · (intro w hSw; (try dsimp only at hSw); go_simp; (try with_reducible rfl))
              (try simp only [Act.put, List.getElem_toArray, List.getElem_cons_zero, List.getElem_cons_succ, List.setIfInBounds_toArray, List.set_cons_zero, List.set_cons_succ])
              refine wpAnyH_ready (rs := [19]) (by kernel_rfl) (by simp) ?_
              refine (AllReadyH.cons rfl (fun K hK => ?_) AllReadyH.nil)
              simp only [List.getElem_toArray, List.getElem_cons_zero, List.getElem_cons_succ]
              go_simp
              go_at_call 24
              with_reducible refine (HBT.out _).mono ?_
              rintro e W44 ⟨rfl, q44⟩
              have k44 : Below w2.heap.size w2 W44 := Below.trans k42 (Below.mono q44 (Below.size k42))
              have m44 := (Below.block q44 _ (lt_of_block m42)).trans m42
              refine hK.out _ _ ?_ (fun hHeld => ?_)
              · exact K0.out _ (Blk.kept HA2 k44)
              clear hK K
              (try simp only [Act.put, List.getElem_toArray, List.getElem_cons_zero, List.getElem_cons_succ, List.setIfInBounds_toArray, List.set_cons_zero, List.set_cons_succ])
              refine wpAnyH_take (i := 20) (v := ?_) rfl (by kernel_rfl) (by kernel_rfl) (by kernel_rfl) (fun _ _ _ h => h) (Or.inl ⟨by rfl, ?_⟩) (by assumption) ?_
              rotate_left
              · (intro w hSw; (try dsimp only at hSw); go_simp; (try with_reducible rfl))
              (try simp only [Act.put, List.getElem_toArray, List.getElem_cons_zero, List.getElem_cons_succ, List.setIfInBounds_toArray, List.set_cons_zero, List.set_cons_succ])
              refine wpAnyH_take (i := 21) (v := ?_) rfl (by kernel_rfl) (by kernel_rfl) (by kernel_rfl) (fun _ _ _ h => h) (Or.inl ⟨by rfl, ?_⟩) (by assumption) ?_
              rotate_left
              · (intro w hSw; (try dsimp only at hSw); go_simp; (try with_reducible rfl))
              (try simp only [Act.put, List.getElem_toArray, List.getElem_cons_zero, List.getElem_cons_succ, List.setIfInBounds_toArray, List.set_cons_zero, List.set_cons_succ])
              refine wpAnyH_done (by kernel_rfl) ?_ _
              refine NoPanic.normal ?_
              exact ⟨rfl, ⟨_, _, _, _, _, _, _, _, _, _, _, _, _, _, _, _, _, _, _, rfl⟩, k44⟩
            ·
              simp only [List.getElem_toArray, List.getElem_cons_zero, List.getElem_cons_succ]
              go_simp
              go_at_call 24
              with_reducible refine (HBT.out _).mono ?_
              rintro e W45 ⟨rfl, q45⟩
              have k45 : Below w2.heap.size w2 W45 := Below.trans k42 (Below.mono q45 (Below.size k42))
              have m45 := (Below.block q45 _ (lt_of_block m42)).trans m42
              refine hK.out _ _ ?_ (fun hHeld => ?_)
              · exact K0.out _ (Blk.kept HA2 k45)
              clear hK K
              (try simp only [Act.put, List.getElem_toArray, List.getElem_cons_zero, List.getElem_cons_succ, List.setIfInBounds_toArray, List.set_cons_zero, List.set_cons_succ])
              refine wpAnyH_ready (rs := [6]) (by kernel_rfl) (by simp) ?_
              refine (AllReadyH.cons rfl (fun K hK => ?_) AllReadyH.nil)
              simp only [List.getElem_toArray, List.getElem_cons_zero, List.getElem_cons_succ]
              have e46 : (Instr.lookup 63 (.map (some V1.heap.size)) (.bool re) false).run Tryd.prog W45 = .ok (.string ⟨LR.toArray⟩) W45 := by rw [look2 _ _ _ _ m45]; rw [HLR.out]; cases re <;> rfl
              go_simp
              clear e46
              refine hK.out _ _ ?_ (fun hHeld => ?_)
              · exact K0.out _ (Blk.kept HA2 k45)
              clear hK K
              (try simp only [Act.put, List.getElem_toArray, List.getElem_cons_zero, List.getElem_cons_succ, List.setIfInBounds_toArray, List.set_cons_zero, List.set_cons_succ])
              refine wpAnyH_take (i := 7) (v := ?_) rfl (by kernel_rfl) (by kernel_rfl) (by kernel_rfl) (fun _ _ _ h => h) (Or.inl ⟨by rfl, ?_⟩) (by assumption) ?_
              rotate_left
              · (intro w hSw; (try dsimp only at hSw); go_simp; (try with_reducible rfl))
              (try simp only [Act.put, List.getElem_toArray, List.getElem_cons_zero, List.getElem_cons_succ, List.setIfInBounds_toArray, List.set_cons_zero, List.set_cons_succ])
              refine wpAnyH_take (i := 8) (v := ?_) rfl (by kernel_rfl) (by kernel_rfl) (by kernel_rfl) (fun _ _ _ h => h) (Or.inl ⟨by rfl, ?_⟩) (by assumption) ?_
              rotate_left
              · (intro w hSw; (try dsimp only at hSw); go_simp; (try with_reducible rfl))
              (try simp only [Act.put, List.getElem_toArray, List.getElem_cons_zero, List.getElem_cons_succ, List.setIfInBounds_toArray, List.set_cons_zero, List.set_cons_succ])
              refine wpAnyH_take (i := 12) (v := ?_) rfl (by kernel_rfl) (by kernel_rfl) (by kernel_rfl) (fun _ _ _ h => h) (Or.inl ⟨by rfl, ?_⟩) (by assumption) ?_
              rotate_left
              · (intro w hSw; (try dsimp only at hSw); go_simp; (try with_reducible rfl))
              (try simp only [Act.put, List.getElem_toArray, List.getElem_cons_zero, List.getElem_cons_succ, List.setIfInBounds_toArray, List.set_cons_zero, List.set_cons_succ])
              refine wpAnyH_take (i := 16) (v := ?_) rfl (by kernel_rfl) (by kernel_rfl) (by kernel_rfl) (fun _ _ _ h => h) (Or.inl ⟨by rfl, ?_⟩) (by assumption) ?_
              rotate_left
              · (intro w hSw; (try dsimp only at hSw); go_simp; (try with_reducible rfl))
              (try simp only [Act.put, List.getElem_toArray, List.getElem_cons_zero, List.getElem_cons_succ, List.setIfInBounds_toArray, List.set_cons_zero, List.set_cons_succ])
              refine wpAnyH_take (i := 20) (v := ?_) rfl (by kernel_rfl) (by kernel_rfl) (by kernel_rfl) (fun _ _ _ h => h) (Or.inl ⟨by rfl, ?_⟩) (by assumption) ?_
              rotate_left
              · (intro w hSw; (try dsimp only at hSw); go_simp; (try with_reducible rfl))
              (try simp only [Act.put, List.getElem_toArray, List.getElem_cons_zero, List.getElem_cons_succ, List.setIfInBounds_toArray, List.set_cons_zero, List.set_cons_succ])
              refine wpAnyH_take (i := 21) (v := ?_) rfl (by kernel_rfl) (by kernel_rfl) (by kernel_rfl) (fun _ _ _ h => h) (Or.inl ⟨by rfl, ?_⟩) (by assumption) ?_
              rotate_left
              · (intro w hSw; (try dsimp only at hSw); go_simp; (try with_reducible rfl))
              (try simp only [Act.put, List.getElem_toArray, List.getElem_cons_zero, List.getElem_cons_succ, List.setIfInBounds_toArray, List.set_cons_zero, List.set_cons_succ])
              refine wpAnyH_done (by kernel_rfl) ?_ _
              refine NoPanic.normal ?_
              exact ⟨rfl, ⟨_, _, _, _, _, _, _, _, _, _, _, _, _, _, _, _, _, _, _, rfl⟩, k45⟩
          ·
            simp only [List.getElem_toArray, List.getElem_cons_zero, List.getElem_cons_succ]
            go_simp
            go_at_call 24
            with_reducible refine (HBT.out _).mono ?_
            rintro e W47 ⟨rfl, q47⟩
            have k47 : Below w2.heap.size w2 W47 := Below.trans k41 (Below.mono q47 (Below.size k41))
            have m47 := (Below.block q47 _ (lt_of_block m41)).trans m41
            refine hK.out _ _ ?_ (fun hHeld => ?_)
            · exact K0.out _ (Blk.kept HA2 k47)
            clear hK K
            (try simp only [Act.put, List.getElem_toArray, List.getElem_cons_zero, List.getElem_cons_succ, List.setIfInBounds_toArray, List.set_cons_zero, List.set_cons_succ])
            refine wpAnyH_ready (rs := [2]) (by kernel_rfl) (by simp) ?_
            refine (AllReadyH.cons rfl (fun K hK => ?_) AllReadyH.nil)
            simp only [List.getElem_toArray, List.getElem_cons_zero, List.getElem_cons_succ]
            have e48 : (Instr.mapUpdate 63 (.map (some V1.heap.size)) (.bool false) (.string ⟨#[1]⟩)).run Tryd.prog W47 = .ok () (putB W47 V1.heap.size (.map #[⟨.bool true, .string ⟨#[2]⟩, 0⟩, ⟨.bool false, .string ⟨#[1]⟩, 1⟩] 2)) := ins1 true _ _ m47
            have k48 : Below w2.heap.size w2 (putB W47 V1.heap.size (.map #[⟨.bool true, .string ⟨#[2]⟩, 0⟩, ⟨.bool false, .string ⟨#[1]⟩, 1⟩] 2)) := putB_below _ k47 b1
            have m48 : (putB W47 V1.heap.size (.map #[⟨.bool true, .string ⟨#[2]⟩, 0⟩, ⟨.bool false, .string ⟨#[1]⟩, 1⟩] 2)).heap[V1.heap.size]? = some (.map #[⟨.bool true, .string ⟨#[2]⟩, 0⟩, ⟨.bool false, .string ⟨#[1]⟩, 1⟩] 2) := putB_at _ (lt_of_block m47)
            go_simp
            clear e48
            refine hK.out _ _ ?_ (fun hHeld => ?_)
            · exact K0.out _ (Blk.kept HA2 k48)
            clear hK K
            (try simp only [Act.put, List.getElem_toArray, List.getElem_cons_zero, List.getElem_cons_succ, List.setIfInBounds_toArray, List.set_cons_zero, List.set_cons_succ])
            generalize putB W47 V1.heap.size (.map #[⟨.bool true, .string ⟨#[2]⟩, 0⟩, ⟨.bool false, .string ⟨#[1]⟩, 1⟩] 2) = W48 at *
            refine wpAnyH_take (i := 3) (v := ?_) rfl (by kernel_rfl) (by kernel_rfl) (by kernel_rfl) (fun _ _ _ h => h) (Or.inl ⟨by rfl, ?_⟩) (by assumption) ?_
            rotate_left
            · (intro w hSw; (try dsimp only at hSw); go_simp; (try with_reducible rfl))
            (try simp only [Act.put, List.getElem_toArray, List.getElem_cons_zero, List.getElem_cons_succ, List.setIfInBounds_toArray, List.set_cons_zero, List.set_cons_succ])
            refine wpAnyH_ready (rs := [6]) (by kernel_rfl) (by simp) ?_
            refine (AllReadyH.cons rfl (fun K hK => ?_) AllReadyH.nil)
            simp only [List.getElem_toArray, List.getElem_cons_zero, List.getElem_cons_succ]
            have e49 : (Instr.lookup 63 (.map (some V1.heap.size)) (.bool re) false).run Tryd.prog W48 = .ok (.string ⟨LR.toArray⟩) W48 := by rw [look2 _ _ _ _ m48]; rw [HLR.out]; cases re <;> rfl
            go_simp
            clear e49
            refine hK.out _ _ ?_ (fun hHeld => ?_)
            · exact K0.out _ (Blk.kept HA2 k48)
            clear hK K
            (try simp only [Act.put, List.getElem_toArray, List.getElem_cons_zero, List.getElem_cons_succ, List.setIfInBounds_toArray, List.set_cons_zero, List.set_cons_succ])
            refine wpAnyH_take (i := 7) (v := ?_) rfl (by kernel_rfl) (by kernel_rfl) (by kernel_rfl) (fun _ _ _ h => h) (Or.inl ⟨by rfl, ?_⟩) (by assumption) ?_
            rotate_left
            · (intro w hSw; (try dsimp only at hSw); go_simp; (try with_reducible rfl))
            (try simp only [Act.put, List.getElem_toArray, List.getElem_cons_zero, List.getElem_cons_succ, List.setIfInBounds_toArray, List.set_cons_zero, List.set_cons_succ])
            refine wpAnyH_take (i := 8) (v := ?_) rfl (by kernel_rfl) (by kernel_rfl) (by kernel_rfl) (fun _ _ _ h => h) (Or.inl ⟨by rfl, ?_⟩) (by assumption) ?_
            rotate_left
            · (intro w hSw; (try dsimp only at hSw); go_simp; (try with_reducible rfl))
            (try simp only [Act.put, List.getElem_toArray, List.getElem_cons_zero, List.getElem_cons_succ, List.setIfInBounds_toArray, List.set_cons_zero, List.set_cons_succ])
            refine wpAnyH_take (i := 12) (v := ?_) rfl (by kernel_rfl) (by kernel_rfl) (by kernel_rfl) (fun _ _ _ h => h) (Or.inl ⟨by rfl, ?_⟩) (by assumption) ?_
            rotate_left
            · (intro w hSw; (try dsimp only at hSw); go_simp; (try with_reducible rfl))
            (try simp only [Act.put, List.getElem_toArray, List.getElem_cons_zero, List.getElem_cons_succ, List.setIfInBounds_toArray, List.set_cons_zero, List.set_cons_succ])
            refine wpAnyH_take (i := 16) (v := ?_) rfl (by kernel_rfl) (by kernel_rfl) (by kernel_rfl) (fun _ _ _ h => h) (Or.inl ⟨by rfl, ?_⟩) (by assumption) ?_
            rotate_left
            · (intro w hSw; (try dsimp only at hSw); go_simp; (try with_reducible rfl))
            (try simp only [Act.put, List.getElem_toArray, List.getElem_cons_zero, List.getElem_cons_succ, List.setIfInBounds_toArray, List.set_cons_zero, List.set_cons_succ])
            refine wpAnyH_take (i := 20) (v := ?_) rfl (by kernel_rfl) (by kernel_rfl) (by kernel_rfl) (fun _ _ _ h => h) (Or.inl ⟨by rfl, ?_⟩) (by assumption) ?_
            rotate_left
            · (intro w hSw; (try dsimp only at hSw); go_simp; (try with_reducible rfl))
            (try simp only [Act.put, List.getElem_toArray, List.getElem_cons_zero, List.getElem_cons_succ, List.setIfInBounds_toArray, List.set_cons_zero, List.set_cons_succ])
            refine wpAnyH_take (i := 21) (v := ?_) rfl (by kernel_rfl) (by kernel_rfl) (by kernel_rfl) (fun _ _ _ h => h) (Or.inl ⟨by rfl, ?_⟩) (by assumption) ?_
            rotate_left
            · (intro w hSw; (try dsimp only at hSw); go_simp; (try with_reducible rfl))
            (try simp only [Act.put, List.getElem_toArray, List.getElem_cons_zero, List.getElem_cons_succ, List.setIfInBounds_toArray, List.set_cons_zero, List.set_cons_succ])
            refine wpAnyH_done (by kernel_rfl) ?_ _
            refine NoPanic.normal ?_
            exact ⟨rfl, ⟨_, _, _, _, _, _, _, _, _, _, _, _, _, _, _, _, _, _, _, rfl⟩, k48⟩
        ·
          simp only [List.getElem_toArray, List.getElem_cons_zero, List.getElem_cons_succ]
          have e50 : (Instr.mapUpdate 63 (.map (some V1.heap.size)) (.bool false) (.string ⟨#[1]⟩)).run Tryd.prog W40 = .ok () (putB W40 V1.heap.size (.map #[⟨.bool false, .string ⟨#[1]⟩, 0⟩] 1)) := ins0 false _ m40
          have k50 : Below w2.heap.size w2 (putB W40 V1.heap.size (.map #[⟨.bool false, .string ⟨#[1]⟩, 0⟩] 1)) := putB_below _ k40 b1
          have m50 : (putB W40 V1.heap.size (.map #[⟨.bool false, .string ⟨#[1]⟩, 0⟩] 1)).heap[V1.heap.size]? = some (.map #[⟨.bool false, .string ⟨#[1]⟩, 0⟩] 1) := putB_at _ (lt_of_block m40)
          go_simp
          clear e50
          refine hK.out _ _ ?_ (fun hHeld => ?_)
          · exact K0.out _ (Blk.kept HA2 k50)
          clear hK K
          (try simp only [Act.put, List.getElem_toArray, List.getElem_cons_zero, List.getElem_cons_succ, List.setIfInBounds_toArray, List.set_cons_zero, List.set_cons_succ])
          generalize putB W40 V1.heap.size (.map #[⟨.bool false, .string ⟨#[1]⟩, 0⟩] 1) = W50 at *
          refine wpAnyH_ready (rs := [1, 19]) (by kernel_rfl) (by simp) ?_
          refine (AllReadyH.cons rfl (fun K hK => ?_) (AllReadyH.cons rfl (fun K hK => ?_) AllReadyH.nil))
          ·
            simp only [List.getElem_toArray, List.getElem_cons_zero, List.getElem_cons_succ]
            have e51 : (Instr.mapUpdate 63 (.map (some V1.heap.size)) (.bool true) (.string ⟨#[2]⟩)).run Tryd.prog W50 = .ok () (putB W50 V1.heap.size (.map #[⟨.bool false, .string ⟨#[1]⟩, 0⟩, ⟨.bool true, .string ⟨#[2]⟩, 1⟩] 2)) := ins1 false _ _ m50
            have k51 : Below w2.heap.size w2 (putB W50 V1.heap.size (.map #[⟨.bool false, .string ⟨#[1]⟩, 0⟩, ⟨.bool true, .string ⟨#[2]⟩, 1⟩] 2)) := putB_below _ k50 b1
            have m51 : (putB W50 V1.heap.size (.map #[⟨.bool false, .string ⟨#[1]⟩, 0⟩, ⟨.bool true, .string ⟨#[2]⟩, 1⟩] 2)).heap[V1.heap.size]? = some (.map #[⟨.bool false, .string ⟨#[1]⟩, 0⟩, ⟨.bool true, .string ⟨#[2]⟩, 1⟩] 2) := putB_at _ (lt_of_block m50)
            go_simp
            clear e51
            refine hK.out _ _ ?_ (fun hHeld => ?_)
            · exact K0.out _ (Blk.kept HA2 k51)
            clear hK K
            (try simp only [Act.put, List.getElem_toArray, List.getElem_cons_zero, List.getElem_cons_succ, List.setIfInBounds_toArray, List.set_cons_zero, List.set_cons_succ])
            generalize putB W50 V1.heap.size (.map #[⟨.bool false, .string ⟨#[1]⟩, 0⟩, ⟨.bool true, .string ⟨#[2]⟩, 1⟩] 2) = W51 at *
            refine wpAnyH_take (i := 3) (v := ?_) rfl (by kernel_rfl) (by kernel_rfl) (by kernel_rfl) (fun _ _ _ h => h) (Or.inl ⟨by rfl, ?_⟩) (by assumption) ?_
            rotate_left
            · (intro w hSw; (try dsimp only at hSw); go_simp; (try with_reducible rfl))
            (try simp only [Act.put, List.getElem_toArray, List.getElem_cons_zero, List.getElem_cons_succ, List.setIfInBounds_toArray, List.set_cons_zero, List.set_cons_succ])
            refine wpAnyH_ready (rs := [6, 19]) (by kernel_rfl) (by simp) ?_
            refine (AllReadyH.cons rfl (fun K hK => ?_) (AllReadyH.cons rfl (fun K hK => ?_) AllReadyH.nil))
            ·
              simp only [List.getElem_toArray, List.getElem_cons_zero, List.getElem_cons_succ]
              have e52 : (Instr.lookup 63 (.map (some V1.heap.size)) (.bool re) false).run Tryd.prog W51 = .ok (.string ⟨LR.toArray⟩) W51 := by rw [look2 _ _ _ _ m51]; rw [HLR.out]; cases re <;> rfl
              go_simp
              clear e52
              refine hK.out _ _ ?_ (fun hHeld => ?_)
              · exact K0.out _ (Blk.kept HA2 k51)
              clear hK K
              (try simp only [Act.put, List.getElem_toArray, List.getElem_cons_zero, List.getElem_cons_succ, List.setIfInBounds_toArray, List.set_cons_zero, List.set_cons_succ])
              refine wpAnyH_take (i := 7) (v := ?_) rfl (by kernel_rfl) (by kernel_rfl) (by kernel_rfl) (fun _ _ _ h => h) (Or.inl ⟨by rfl, ?_⟩) (by assumption) ?_
              rotate_left
              · (intro w hSw; (try dsimp only at hSw); go_simp; (try with_reducible rfl))
              (try simp only [Act.put, List.getElem_toArray, List.getElem_cons_zero, List.getElem_cons_succ, List.setIfInBounds_toArray, List.set_cons_zero, List.set_cons_succ])
              refine wpAnyH_take (i := 8) (v := ?_) rfl (by kernel_rfl) (by kernel_rfl) (by kernel_rfl) (fun _ _ _ h => h) (Or.inl ⟨by rfl, ?_⟩) (by assumption) ?_
              rotate_left
              · (intro w hSw; (try dsimp only at hSw); go_simp; (try with_reducible rfl))
              (try simp only [Act.put, List.getElem_toArray, List.getElem_cons_zero, List.getElem_cons_succ, List.setIfInBounds_toArray, List.set_cons_zero, List.set_cons_succ])
              refine wpAnyH_take (i := 12) (v := ?_) rfl (by kernel_rfl) (by kernel_rfl) (by kernel_rfl) (fun _ _ _ h => h) (Or.inl ⟨by rfl, ?_⟩) (by assumption) ?_
              rotate_left
              · (intro w hSw; (try dsimp only at hSw); go_simp; (try with_reducible rfl))
              (try simp only [Act.put, List.getElem_toArray, List.getElem_cons_zero, List.getElem_cons_succ, List.setIfInBounds_toArray, List.set_cons_zero, List.set_cons_succ])
              refine wpAnyH_take (i := 16) (v := ?_) rfl (by kernel_rfl) (by kernel_rfl) (by kernel_rfl) (fun _ _ _ h => h) (Or.inl ⟨by rfl, ?_⟩) (by assumption) ?_
              rotate_left
              · (intro w hSw; (try dsimp only at hSw); go_simp; (try with_reducible rfl))
              (try simp only [Act.put, List.getElem_toArray, List.getElem_cons_zero, List.getElem_cons_succ, List.setIfInBounds_toArray, List.set_cons_zero, List.set_cons_succ])
              refine wpAnyH_ready (rs := [19]) (by kernel_rfl) (by simp) ?_
              refine (AllReadyH.cons rfl (fun K hK => ?_) AllReadyH.nil)
              simp only [List.getElem_toArray, List.getElem_cons_zero, List.getElem_cons_succ]
              go_simp
              go_at_call 24
              with_reducible refine (HBT.out _).mono ?_
              rintro e W53 ⟨rfl, q53⟩
              have k53 : Below w2.heap.size w2 W53 := Below.trans k51 (Below.mono q53 (Below.size k51))
              have m53 := (Below.block q53 _ (lt_of_block m51)).trans m51
              refine hK.out _ _ ?_ (fun hHeld => ?_)
              · exact K0.out _ (Blk.kept HA2 k53)
              clear hK K
              (try simp only [Act.put, List.getElem_toArray, List.getElem_cons_zero, List.getElem_cons_succ, List.setIfInBounds_toArray, List.set_cons_zero, List.set_cons_succ])
              refine wpAnyH_take (i := 20) (v := ?_) rfl (by kernel_rfl) (by kernel_rfl) (by kernel_rfl) (fun _ _ _ h => h) (Or.inl ⟨by rfl, ?_⟩) (by assumption) ?_
              rotate_left
              · (intro w hSw; (try dsimp only at hSw); go_simp; (try with_reducible rfl))
              (try simp only [Act.put, List.getElem_toArray, List.getElem_cons_zero, List.getElem_cons_succ, List.setIfInBounds_toArray, List.set_cons_zero, List.set_cons_succ])
              refine wpAnyH_take (i := 21) (v := ?_) rfl (by kernel_rfl) (by kernel_rfl) (by kernel_rfl) (fun _ _ _ h => h) (Or.inl ⟨by rfl, ?_⟩) (by assumption) ?_
              rotate_left
              · (intro w hSw; (try dsimp only at hSw); go_simp; (try with_reducible rfl))
              (try simp only [Act.put, List.getElem_toArray, List.getElem_cons_zero, List.getElem_cons_succ, List.setIfInBounds_toArray, List.set_cons_zero, List.set_cons_succ])
              refine wpAnyH_done (by kernel_rfl) ?_ _
              refine NoPanic.normal ?_
              exact ⟨rfl, ⟨_, _, _, _, _, _, _, _, _, _, _, _, _, _, _, _, _, _, _, rfl⟩, k53⟩
            ·
              simp only [List.getElem_toArray, List.getElem_cons_zero, List.getElem_cons_succ]
              go_simp
              go_at_call 24
              with_reducible refine (HBT.out _).mono ?_
              rintro e W54 ⟨rfl, q54⟩
              have k54 : Below w2.heap.size w2 W54 := Below.trans k51 (Below.mono q54 (Below.size k51))
              have m54 := (Below.block q54 _ (lt_of_block m51)).trans m51
              refine hK.out _ _ ?_ (fun hHeld => ?_)
              · exact K0.out _ (Blk.kept HA2 k54)
              clear hK K
              (try simp only [Act.put, List.getElem_toArray, List.getElem_cons_zero, List.getElem_cons_succ, List.setIfInBounds_toArray, List.set_cons_zero, List.set_cons_succ])
              refine wpAnyH_ready (rs := [6]) (by kernel_rfl) (by simp) ?_
              refine (AllReadyH.cons rfl (fun K hK => ?_) AllReadyH.nil)
              simp only [List.getElem_toArray, List.getElem_cons_zero, List.getElem_cons_succ]
              have e55 : (Instr.lookup 63 (.map (some V1.heap.size)) (.bool re) false).run Tryd.prog W54 = .ok (.string ⟨LR.toArray⟩) W54 := by rw [look2 _ _ _ _ m54]; rw [HLR.out]; cases re <;> rfl
              go_simp
              clear e55
              refine hK.out _ _ ?_ (fun hHeld => ?_)
              · exact K0.out _ (Blk.kept HA2 k54)
              clear hK K
              (try simp only [Act.put, List.getElem_toArray, List.getElem_cons_zero, List.getElem_cons_succ, List.setIfInBounds_toArray, List.set_cons_zero, List.set_cons_succ])
              refine wpAnyH_take (i := 7) (v := ?_) rfl (by kernel_rfl) (by kernel_rfl) (by kernel_rfl) (fun _ _ _ h => h) (Or.inl ⟨by rfl, ?_⟩) (by assumption) ?_
              rotate_left
              · (intro w hSw; (try dsimp only at hSw); go_simp; (try with_reducible rfl))
              (try simp only [Act.put, List.getElem_toArray, List.getElem_cons_zero, List.getElem_cons_succ, List.setIfInBounds_toArray, List.set_cons_zero, List.set_cons_succ])
              refine wpAnyH_take (i := 8) (v := ?_) rfl (by kernel_rfl) (by kernel_rfl) (by kernel_rfl) (fun _ _ _ h => h) (Or.inl ⟨by rfl, ?_⟩) (by assumption) ?_
              rotate_left
              · (intro w hSw; (try dsimp only at hSw); go_simp; (try with_reducible rfl))
              (try simp only [Act.put, List.getElem_toArray, List.getElem_cons_zero, List.getElem_cons_succ, List.setIfInBounds_toArray, List.set_cons_zero, List.set_cons_succ])
              refine wpAnyH_take (i := 12) (v := ?_) rfl (by kernel_rfl) (by kernel_rfl) (by kernel_rfl) (fun _ _ _ h => h) (Or.inl ⟨by rfl, ?_⟩) (by assumption) ?_
              rotate_left
              · (intro w hSw; (try dsimp only at hSw); go_simp; (try with_reducible rfl))
              (try simp only [Act.put, List.getElem_toArray, List.getElem_cons_zero, List.getElem_cons_succ, List.setIfInBounds_toArray, List.set_cons_zero, List.set_cons_succ])
              refine wpAnyH_take (i := 16) (v := ?_) rfl (by kernel_rfl) (by kernel_rfl) (by kernel_rfl) (fun _ _ _ h => h) (Or.inl ⟨by rfl, ?_⟩) (by assumption) ?_
              rotate_left
              · (intro w hSw; (try dsimp only at hSw); go_simp; (try with_reducible rfl))
              (try simp only [Act.put, List.getElem_toArray, List.getElem_cons_zero, List.getElem_cons_succ, List.setIfInBounds_toArray, List.set_cons_zero, List.set_cons_succ])
              refine wpAnyH_take (i := 20) (v := ?_) rfl (by kernel_rfl) (by kernel_rfl) (by kernel_rfl) (fun _ _ _ h => h) (Or.inl ⟨by rfl, ?_⟩) (by assumption) ?_
              rotate_left
              · (intro w hSw; (try dsimp only at hSw); go_simp; (try with_reducible rfl))
              (try simp only [Act.put, List.getElem_toArray, List.getElem_cons_zero, List.getElem_cons_succ, List.setIfInBounds_toArray, List.set_cons_zero, List.set_cons_succ])
              refine wpAnyH_take (i := 21) (v := ?_) rfl (by kernel_rfl) (by kernel_rfl) (by kernel_rfl) (fun _ _ _ h => h) (Or.inl ⟨by rfl, ?_⟩) (by assumption) ?_
              rotate_left
              · (intro w hSw; (try dsimp only at hSw); go_simp; (try with_reducible rfl))
              (try simp only [Act.put, List.getElem_toArray, List.getElem_cons_zero, List.getElem_cons_succ, List.setIfInBounds_toArray, List.set_cons_zero, List.set_cons_succ])
              refine wpAnyH_done (by kernel_rfl) ?_ _
              refine NoPanic.normal ?_
              exact ⟨rfl, ⟨_, _, _, _, _, _, _, _, _, _, _, _, _, _, _, _, _, _, _, rfl⟩, k54⟩
          ·
            simp only [List.getElem_toArray, List.getElem_cons_zero, List.getElem_cons_succ]
            go_simp
            go_at_call 24
            with_reducible refine (HBT.out _).mono ?_
            rintro e W56 ⟨rfl, q56⟩
            have k56 : Below w2.heap.size w2 W56 := Below.trans k50 (Below.mono q56 (Below.size k50))
            have m56 := (Below.block q56 _ (lt_of_block m50)).trans m50
            refine hK.out _ _ ?_ (fun hHeld => ?_)
            · exact K0.out _ (Blk.kept HA2 k56)
            clear hK K
            (try simp only [Act.put, List.getElem_toArray, List.getElem_cons_zero, List.getElem_cons_succ, List.setIfInBounds_toArray, List.set_cons_zero, List.set_cons_succ])
            refine wpAnyH_ready (rs := [1]) (by kernel_rfl) (by simp) ?_
            refine (AllReadyH.cons rfl (fun K hK => ?_) AllReadyH.nil)
            simp only [List.getElem_toArray, List.getElem_cons_zero, List.getElem_cons_succ]
            have e57 : (Instr.mapUpdate 63 (.map (some V1.heap.size)) (.bool true) (.string ⟨#[2]⟩)).run Tryd.prog W56 = .ok () (putB W56 V1.heap.size (.map #[⟨.bool false, .string ⟨#[1]⟩, 0⟩, ⟨.bool true, .string ⟨#[2]⟩, 1⟩] 2)) := ins1 false _ _ m56
            have k57 : Below w2.heap.size w2 (putB W56 V1.heap.size (.map #[⟨.bool false, .string ⟨#[1]⟩, 0⟩, ⟨.bool true, .string ⟨#[2]⟩, 1⟩] 2)) := putB_below _ k56 b1
            have m57 : (putB W56 V1.heap.size (.map #[⟨.bool false, .string ⟨#[1]⟩, 0⟩, ⟨.bool true, .string ⟨#[2]⟩, 1⟩] 2)).heap[V1.heap.size]? = some (.map #[⟨.bool false, .string ⟨#[1]⟩, 0⟩, ⟨.bool true, .string ⟨#[2]⟩, 1⟩] 2) := putB_at _ (lt_of_block m56)
            go_simp
            clear e57
            refine hK.out _ _ ?_ (fun hHeld => ?_)
            · exact K0.out _ (Blk.kept HA2 k57)
            clear hK K
            (try simp only [Act.put, List.getElem_toArray, List.getElem_cons_zero, List.getElem_cons_succ, List.setIfInBounds_toArray, List.set_cons_zero, List.set_cons_succ])
            generalize putB W56 V1.heap.size (.map #[⟨.bool false, .string ⟨#[1]⟩, 0⟩, ⟨.bool true, .string ⟨#[2]⟩, 1⟩] 2) = W57 at *
            refine wpAnyH_take (i := 3) (v := ?_) rfl (by kernel_rfl) (by kernel_rfl) (by kernel_rfl) (fun _ _ _ h => h) (Or.inl ⟨by rfl, ?_⟩) (by assumption) ?_
            rotate_left
            · (intro w hSw; (try dsimp only at hSw); go_simp; (try with_reducible rfl))
            (try simp only [Act.put, List.getElem_toArray, List.getElem_cons_zero, List.getElem_cons_succ, List.setIfInBounds_toArray, List.set_cons_zero, List.set_cons_succ])
            refine wpAnyH_ready (rs := [6]) (by kernel_rfl) (by simp) ?_
            refine (AllReadyH.cons rfl (fun K hK => ?_) AllReadyH.nil)
            simp only [List.getElem_toArray, List.getElem_cons_zero, List.getElem_cons_succ]
            have e58 : (Instr.lookup 63 (.map (some V1.heap.size)) (.bool re) false).run Tryd.prog W57 = .ok (.string ⟨LR.toArray⟩) W57 := by rw [look2 _ _ _ _ m57]; rw [HLR.out]; cases re <;> rfl
            go_simp
            clear e58
            refine hK.out _ _ ?_ (fun hHeld => ?_)
            · exact K0.out _ (Blk.kept HA2 k57)
            clear hK K
            (try simp only [Act.put, List.getElem_toArray, List.getElem_cons_zero, List.getElem_cons_succ, List.setIfInBounds_toArray, List.set_cons_zero, List.set_cons_succ])
            refine wpAnyH_take (i := 7) (v := ?_) rfl (by kernel_rfl) (by kernel_rfl) (by kernel_rfl) (fun _ _ _ h => h) (Or.inl ⟨by rfl, ?_⟩) (by assumption) ?_
            rotate_left
            · (intro w hSw; (try dsimp only at hSw); go_simp; (try with_reducible rfl))
            (try simp only [Act.put, List.getElem_toArray, List.getElem_cons_zero, List.getElem_cons_succ, List.setIfInBounds_toArray, List.set_cons_zero, List.set_cons_succ])
            refine wpAnyH_take (i := 8) (v := ?_) rfl (by kernel_rfl) (by kernel_rfl) (by kernel_rfl) (fun _ _ _ h => h) (Or.inl ⟨by rfl, ?_⟩) (by assumption) ?_
            rotate_left
            · (intro w hSw; (try dsimp only at hSw); go_simp; (try with_reducible rfl))
            (try simp only [Act.put, List.getElem_toArray, List.getElem_cons_zero, List.getElem_cons_succ, List.setIfInBounds_toArray, List.set_cons_zero, List.set_cons_succ])
            refine wpAnyH_take (i := 12) (v := ?_) rfl (by kernel_rfl) (by kernel_rfl) (by kernel_rfl) (fun _ _ _ h => h) (Or.inl ⟨by rfl, ?_⟩) (by assumption) ?_
            rotate_left
            · (intro w hSw; (try dsimp only at hSw); go_simp; (try with_reducible rfl))
            (try simp only [Act.put, List.getElem_toArray, List.getElem_cons_zero, List.getElem_cons_succ, List.setIfInBounds_toArray, List.set_cons_zero, List.set_cons_succ])
            refine wpAnyH_take (i := 16) (v := ?_) rfl (by kernel_rfl) (by kernel_rfl) (by kernel_rfl) (fun _ _ _ h => h) (Or.inl ⟨by rfl, ?_⟩) (by assumption) ?_
            rotate_left
            · (intro w hSw; (try dsimp only at hSw); go_simp; (try with_reducible rfl))
            (try simp only [Act.put, List.getElem_toArray, List.getElem_cons_zero, List.getElem_cons_succ, List.setIfInBounds_toArray, List.set_cons_zero, List.set_cons_succ])
            refine wpAnyH_take (i := 20) (v := ?_) rfl (by kernel_rfl) (by kernel_rfl) (by kernel_rfl) (fun _ _ _ h => h) (Or.inl ⟨by rfl, ?_⟩) (by assumption) ?_
            rotate_left
            · (intro w hSw; (try dsimp only at hSw); go_simp; (try with_reducible rfl))
            (try simp only [Act.put, List.getElem_toArray, List.getElem_cons_zero, List.getElem_cons_succ, List.setIfInBounds_toArray, List.set_cons_zero, List.set_cons_succ])
            refine wpAnyH_take (i := 21) (v := ?_) rfl (by kernel_rfl) (by kernel_rfl) (by kernel_rfl) (fun _ _ _ h => h) (Or.inl ⟨by rfl, ?_⟩) (by assumption) ?_
            rotate_left
            · (intro w hSw; (try dsimp only at hSw); go_simp; (try with_reducible rfl))
            (try simp only [Act.put, List.getElem_toArray, List.getElem_cons_zero, List.getElem_cons_succ, List.setIfInBounds_toArray, List.set_cons_zero, List.set_cons_succ])
            refine wpAnyH_done (by kernel_rfl) ?_ _
            refine NoPanic.normal ?_
            exact ⟨rfl, ⟨_, _, _, _, _, _, _, _, _, _, _, _, _, _, _, _, _, _, _, rfl⟩, k57⟩
        ·
          simp only [List.getElem_toArray, List.getElem_cons_zero, List.getElem_cons_succ]
          go_simp
          go_at_call 24
          with_reducible refine (HBT.out _).mono ?_
          rintro e W59 ⟨rfl, q59⟩
          have k59 : Below w2.heap.size w2 W59 := Below.trans k40 (Below.mono q59 (Below.size k40))
          have m59 := (Below.block q59 _ (lt_of_block m40)).trans m40
          refine hK.out _ _ ?_ (fun hHeld => ?_)
          · exact K0.out _ (Blk.kept HA2 k59)
          clear hK K
          (try simp only [Act.put, List.getElem_toArray, List.getElem_cons_zero, List.getElem_cons_succ, List.setIfInBounds_toArray, List.set_cons_zero, List.set_cons_succ])
          refine wpAnyH_ready (rs := [1, 2]) (by kernel_rfl) (by simp) ?_
          refine (AllReadyH.cons rfl (fun K hK => ?_) (AllReadyH.cons rfl (fun K hK => ?_) AllReadyH.nil))
          ·
            simp only [List.getElem_toArray, List.getElem_cons_zero, List.getElem_cons_succ]
            have e60 : (Instr.mapUpdate 63 (.map (some V1.heap.size)) (.bool true) (.string ⟨#[2]⟩)).run Tryd.prog W59 = .ok () (putB W59 V1.heap.size (.map #[⟨.bool true, .string ⟨#[2]⟩, 0⟩] 1)) := ins0 true _ m59
            have k60 : Below w2.heap.size w2 (putB W59 V1.heap.size (.map #[⟨.bool true, .string ⟨#[2]⟩, 0⟩] 1)) := putB_below _ k59 b1
            have m60 : (putB W59 V1.heap.size (.map #[⟨.bool true, .string ⟨#[2]⟩, 0⟩] 1)).heap[V1.heap.size]? = some (.map #[⟨.bool true, .string ⟨#[2]⟩, 0⟩] 1) := putB_at _ (lt_of_block m59)
            go_simp
            clear e60
            refine hK.out _ _ ?_ (fun hHeld => ?_)
            · exact K0.out _ (Blk.kept HA2 k60)
            clear hK K
            (try simp only [Act.put, List.getElem_toArray, List.getElem_cons_zero, List.getElem_cons_succ, List.setIfInBounds_toArray, List.set_cons_zero, List.set_cons_succ])
            generalize putB W59 V1.heap.size (.map #[⟨.bool true, .string ⟨#[2]⟩, 0⟩] 1) = W60 at *
            refine wpAnyH_ready (rs := [2]) (by kernel_rfl) (by simp) ?_
            refine (AllReadyH.cons rfl (fun K hK => ?_) AllReadyH.nil)
            simp only [List.getElem_toArray, List.getElem_cons_zero, List.getElem_cons_succ]
            have e61 : (Instr.mapUpdate 63 (.map (some V1.heap.size)) (.bool false) (.string ⟨#[1]⟩)).run Tryd.prog W60 = .ok () (putB W60 V1.heap.size (.map #[⟨.bool true, .string ⟨#[2]⟩, 0⟩, ⟨.bool false, .string ⟨#[1]⟩, 1⟩] 2)) := ins1 true _ _ m60
            have k61 : Below w2.heap.size w2 (putB W60 V1.heap.size (.map #[⟨.bool true, .string ⟨#[2]⟩, 0⟩, ⟨.bool false, .string ⟨#[1]⟩, 1⟩] 2)) := putB_below _ k60 b1
            have m61 : (putB W60 V1.heap.size (.map #[⟨.bool true, .string ⟨#[2]⟩, 0⟩, ⟨.bool false, .string ⟨#[1]⟩, 1⟩] 2)).heap[V1.heap.size]? = some (.map #[⟨.bool true, .string ⟨#[2]⟩, 0⟩, ⟨.bool false, .string ⟨#[1]⟩, 1⟩] 2) := putB_at _ (lt_of_block m60)
            go_simp
            clear e61
            refine hK.out _ _ ?_ (fun hHeld => ?_)
            · exact K0.out _ (Blk.kept HA2 k61)
            clear hK K
            (try simp only [Act.put, List.getElem_toArray, List.getElem_cons_zero, List.getElem_cons_succ, List.setIfInBounds_toArray, List.set_cons_zero, List.set_cons_succ])
            generalize putB W60 V1.heap.size (.map #[⟨.bool true, .string ⟨#[2]⟩, 0⟩, ⟨.bool false, .string ⟨#[1]⟩, 1⟩] 2) = W61 at *
            refine wpAnyH_take (i := 3) (v := ?_) rfl (by kernel_rfl) (by kernel_rfl) (by kernel_rfl) (fun _ _ _ h => h) (Or.inl ⟨by rfl, ?_⟩) (by assumption) ?_
            rotate_left
            · (intro w hSw; (try dsimp only at hSw); go_simp; (try with_reducible rfl))
            (try simp only [Act.put, List.getElem_toArray, List.getElem_cons_zero, List.getElem_cons_succ, List.setIfInBounds_toArray, List.set_cons_zero, List.set_cons_succ])
            refine wpAnyH_ready (rs := [6]) (by kernel_rfl) (by simp) ?_
            refine (AllReadyH.cons rfl (fun K hK => ?_) AllReadyH.nil)
            simp only [List.getElem_toArray, List.getElem_cons_zero, List.getElem_cons_succ]
            have e62 : (Instr.lookup 63 (.map (some V1.heap.size)) (.bool re) false).run Tryd.prog W61 = .ok (.string ⟨LR.toArray⟩) W61 := by rw [look2 _ _ _ _ m61]; rw [HLR.out]; cases re <;> rfl
            go_simp
            clear e62
            refine hK.out _ _ ?_ (fun hHeld => ?_)
            · exact K0.out _ (Blk.kept HA2 k61)
            clear hK K
            (try simp only [Act.put, List.getElem_toArray, List.getElem_cons_zero, List.getElem_cons_succ, List.setIfInBounds_toArray, List.set_cons_zero, List.set_cons_succ])
            refine wpAnyH_take (i := 7) (v := ?_) rfl (by kernel_rfl) (by kernel_rfl) (by kernel_rfl) (fun _ _ _ h => h) (Or.inl ⟨by rfl, ?_⟩) (by assumption) ?_
            rotate_left
            · (intro w hSw; (try dsimp only at hSw); go_simp; (try with_reducible rfl))
            (try simp only [Act.put, List.getElem_toArray, List.getElem_cons_zero, List.getElem_cons_succ, List.setIfInBounds_toArray, List.set_cons_zero, List.set_cons_succ])
            refine wpAnyH_take (i := 8) (v := ?_) rfl (by kernel_rfl) (by kernel_rfl) (by kernel_rfl) (fun _ _ _ h => h) (Or.inl ⟨by rfl, ?_⟩) (by assumption) ?_
            rotate_left
            · (intro w hSw; (try dsimp only at hSw); go_simp; (try with_reducible rfl))
            (try simp only [Act.put, List.getElem_toArray, List.getElem_cons_zero, List.getElem_cons_succ, List.setIfInBounds_toArray, List.set_cons_zero, List.set_cons_succ])
            refine wpAnyH_take (i := 12) (v := ?_) rfl (by kernel_rfl) (by kernel_rfl) (by kernel_rfl) (fun _ _ _ h => h) (Or.inl ⟨by rfl, ?_⟩) (by assumption) ?_
            rotate_left
            · (intro w hSw; (try dsimp only at hSw); go_simp; (try with_reducible rfl))
            (try simp only [Act.put, List.getElem_toArray, List.getElem_cons_zero, List.getElem_cons_succ, List.setIfInBounds_toArray, List.set_cons_zero, List.set_cons_succ])
            refine wpAnyH_take (i := 16) (v := ?_) rfl (by kernel_rfl) (by kernel_rfl) (by kernel_rfl) (fun _ _ _ h => h) (Or.inl ⟨by rfl, ?_⟩) (by assumption) ?_
            rotate_left
            · (intro w hSw; (try dsimp only at hSw); go_simp; (try with_reducible rfl))
            (try simp only [Act.put, List.getElem_toArray, List.getElem_cons_zero, List.getElem_cons_succ, List.setIfInBounds_toArray, List.set_cons_zero, List.set_cons_succ])
            refine wpAnyH_take (i := 20) (v := ?_) rfl (by kernel_rfl) (by kernel_rfl) (by kernel_rfl) (fun _ _ _ h => h) (Or.inl ⟨by rfl, ?_⟩) (by assumption) ?_
            rotate_left
            · (intro w hSw; (try dsimp only at hSw); go_simp; (try with_reducible rfl))
            (try simp only [Act.put, List.getElem_toArray, List.getElem_cons_zero, List.getElem_cons_succ, List.setIfInBounds_toArray, List.set_cons_zero, List.set_cons_succ])
            refine wpAnyH_take (i := 21) (v := ?_) rfl (by kernel_rfl) (by kernel_rfl) (by kernel_rfl) (fun _ _ _ h => h) (Or.inl ⟨by rfl, ?_⟩) (by assumption) ?_
            rotate_left
            · (intro w hSw; (try dsimp only at hSw); go_simp; (try with_reducible rfl))
            (try simp only [Act.put, List.getElem_toArray, List.getElem_cons_zero, List.getElem_cons_succ, List.setIfInBounds_toArray, List.set_cons_zero, List.set_cons_succ])
            refine wpAnyH_done (by kernel_rfl) ?_ _
            refine NoPanic.normal ?_
            exact ⟨rfl, ⟨_, _, _, _, _, _, _, _, _, _, _, _, _, _, _, _, _, _, _, rfl⟩, k61⟩
          ·
            simp only [List.getElem_toArray, List.getElem_cons_zero, List.getElem_cons_succ]
            have e63 : (Instr.mapUpdate 63 (.map (some V1.heap.size)) (.bool false) (.string ⟨#[1]⟩)).run Tryd.prog W59 = .ok () (putB W59 V1.heap.size (.map #[⟨.bool false, .string ⟨#[1]⟩, 0⟩] 1)) := ins0 false _ m59
            have k63 : Below w2.heap.size w2 (putB W59 V1.heap.size (.map #[⟨.bool false, .string ⟨#[1]⟩, 0⟩] 1)) := putB_below _ k59 b1
            have m63 : (putB W59 V1.heap.size (.map #[⟨.bool false, .string ⟨#[1]⟩, 0⟩] 1)).heap[V1.heap.size]? = some (.map #[⟨.bool false, .string ⟨#[1]⟩, 0⟩] 1) := putB_at _ (lt_of_block m59)
            go_simp
            clear e63
            refine hK.out _ _ ?_ (fun hHeld => ?_)
            · exact K0.out _ (Blk.kept HA2 k63)
            clear hK K
            (try simp only [Act.put, List.getElem_toArray, List.getElem_cons_zero, List.getElem_cons_succ, List.setIfInBounds_toArray, List.set_cons_zero, List.set_cons_succ])
            generalize putB W59 V1.heap.size (.map #[⟨.bool false, .string ⟨#[1]⟩, 0⟩] 1) = W63 at *
            refine wpAnyH_ready (rs := [1]) (by kernel_rfl) (by simp) ?_
            refine (AllReadyH.cons rfl (fun K hK => ?_) AllReadyH.nil)
            simp only [List.getElem_toArray, List.getElem_cons_zero, List.getElem_cons_succ]
            have e64 : (Instr.mapUpdate 63 (.map (some V1.heap.size)) (.bool true) (.string ⟨#[2]⟩)).run Tryd.prog W63 = .ok () (putB W63 V1.heap.size (.map #[⟨.bool false, .string ⟨#[1]⟩, 0⟩, ⟨.bool true, .string ⟨#[2]⟩, 1⟩] 2)) := ins1 false _ _ m63
            have k64 : Below w2.heap.size w2 (putB W63 V1.heap.size (.map #[⟨.bool false, .string ⟨#[1]⟩, 0⟩, ⟨.bool true, .string ⟨#[2]⟩, 1⟩] 2)) := putB_below _ k63 b1
            have m64 : (putB W63 V1.heap.size (.map #[⟨.bool false, .string ⟨#[1]⟩, 0⟩, ⟨.bool true, .string ⟨#[2]⟩, 1⟩] 2)).heap[V1.heap.size]? = some (.map #[⟨.bool false, .string ⟨#[1]⟩, 0⟩, ⟨.bool true, .string ⟨#[2]⟩, 1⟩] 2) := putB_at _ (lt_of_block m63)
            go_simp
            clear e64
            refine hK.out _ _ ?_ (fun hHeld => ?_)
            · exact K0.out _ (Blk.kept HA2 k64)
            clear hK K
            (try simp only [Act.put, List.getElem_toArray, List.getElem_cons_zero, List.getElem_cons_succ, List.setIfInBounds_toArray, List.set_cons_zero, List.set_cons_succ])
            generalize putB W63 V1.heap.size (.map #[⟨.bool false, .string ⟨#[1]⟩, 0⟩, ⟨.bool true, .string ⟨#[2]⟩, 1⟩] 2) = W64 at *
            refine wpAnyH_take (i := 3) (v := ?_) rfl (by kernel_rfl) (by kernel_rfl) (by kernel_rfl) (fun _ _ _ h => h) (Or.inl ⟨by rfl, ?_⟩) (by assumption) ?_
            rotate_left
            · (intro w hSw; (try dsimp only at hSw); go_simp; (try with_reducible rfl))
            (try simp only [Act.put, List.getElem_toArray, List.getElem_cons_zero, List.getElem_cons_succ, List.setIfInBounds_toArray, List.set_cons_zero, List.set_cons_succ])
            refine wpAnyH_ready (rs := [6]) (by kernel_rfl) (by simp) ?_
            refine (AllReadyH.cons rfl (fun K hK => ?_) AllReadyH.nil)
            simp only [List.getElem_toArray, List.getElem_cons_zero, List.getElem_cons_succ]
            have e65 : (Instr.lookup 63 (.map (some V1.heap.size)) (.bool re) false).run Tryd.prog W64 = .ok (.string ⟨LR.toArray⟩) W64 := by rw [look2 _ _ _ _ m64]; rw [HLR.out]; cases re <;> rfl
            go_simp
            clear e65
            refine hK.out _ _ ?_ (fun hHeld => ?_)
            · exact K0.out _ (Blk.kept HA2 k64)
            clear hK K
            (try simp only [Act.put, List.getElem_toArray, List.getElem_cons_zero, List.getElem_cons_succ, List.setIfInBounds_toArray, List.set_cons_zero, List.set_cons_succ])
            refine wpAnyH_take (i := 7) (v := ?_) rfl (by kernel_rfl) (by kernel_rfl) (by kernel_rfl) (fun _ _ _ h => h) (Or.inl ⟨by rfl, ?_⟩) (by assumption) ?_
            rotate_left
            · (intro w hSw; (try dsimp only at hSw); go_simp; (try with_reducible rfl))
            (try simp only [Act.put, List.getElem_toArray, List.getElem_cons_zero, List.getElem_cons_succ, List.setIfInBounds_toArray, List.set_cons_zero, List.set_cons_succ])
            refine wpAnyH_take (i := 8) (v := ?_) rfl (by kernel_rfl) (by kernel_rfl) (by kernel_rfl) (fun _ _ _ h => h) (Or.inl ⟨by rfl, ?_⟩) (by assumption) ?_
            rotate_left
            · (intro w hSw; (try dsimp only at hSw); go_simp; (try with_reducible rfl))
            (try simp only [Act.put, List.getElem_toArray, List.getElem_cons_zero, List.getElem_cons_succ, List.setIfInBounds_toArray, List.set_cons_zero, List.set_cons_succ])
            refine wpAnyH_take (i := 12) (v := ?_) rfl (by kernel_rfl) (by kernel_rfl) (by kernel_rfl) (fun _ _ _ h => h) (Or.inl ⟨by rfl, ?_⟩) (by assumption) ?_
            rotate_left
            · (intro w hSw; (try dsimp only at hSw); go_simp; (try with_reducible rfl))
            (try simp only [Act.put, List.getElem_toArray, List.getElem_cons_zero, List.getElem_cons_succ, List.setIfInBounds_toArray, List.set_cons_zero, List.set_cons_succ])
            refine wpAnyH_take (i := 16) (v := ?_) rfl (by kernel_rfl) (by kernel_rfl) (by kernel_rfl) (fun _ _ _ h => h) (Or.inl ⟨by rfl, ?_⟩) (by assumption) ?_
            rotate_left
            · (intro w hSw; (try dsimp only at hSw); go_simp; (try with_reducible rfl))
            (try simp only [Act.put, List.getElem_toArray, List.getElem_cons_zero, List.getElem_cons_succ, List.setIfInBounds_toArray, List.set_cons_zero, List.set_cons_succ])
            refine wpAnyH_take (i := 20) (v := ?_) rfl (by kernel_rfl) (by kernel_rfl) (by kernel_rfl) (fun _ _ _ h => h) (Or.inl ⟨by rfl, ?_⟩) (by assumption) ?_
            rotate_left
            · (intro w hSw; (try dsimp only at hSw); go_simp; (try with_reducible rfl))
            (try simp only [Act.put, List.getElem_toArray, List.getElem_cons_zero, List.getElem_cons_succ, List.setIfInBounds_toArray, List.set_cons_zero, List.set_cons_succ])
            refine wpAnyH_take (i := 21) (v := ?_) rfl (by kernel_rfl) (by kernel_rfl) (by kernel_rfl) (fun _ _ _ h => h) (Or.inl ⟨by rfl, ?_⟩) (by assumption) ?_
            rotate_left
            · (intro w hSw; (try dsimp only at hSw); go_simp; (try with_reducible rfl))
            (try simp only [Act.put, List.getElem_toArray, List.getElem_cons_zero, List.getElem_cons_succ, List.setIfInBounds_toArray, List.set_cons_zero, List.set_cons_succ])
            refine wpAnyH_done (by kernel_rfl) ?_ _
            refine NoPanic.normal ?_
            exact ⟨rfl, ⟨_, _, _, _, _, _, _, _, _, _, _, _, _, _, _, _, _, _, _, rfl⟩, k64⟩
    ·
      simp only [List.getElem_toArray, List.getElem_cons_zero, List.getElem_cons_succ]
      go_simp
      go_at_call 24
      with_reducible refine (HBP.out _).mono ?_
      rintro e W66 ⟨rfl, q66⟩
      have k66 : Below w2.heap.size w2 W66 := Below.trans k0 (Below.mono q66 (Below.size k0))
      refine hK.out _ _ ?_ (fun hHeld => ?_)
      · exact K0.out _ (Blk.kept HA2 k66)
      clear hK K
      (try simp only [Act.put, List.getElem_toArray, List.getElem_cons_zero, List.getElem_cons_succ, List.setIfInBounds_toArray, List.set_cons_zero, List.set_cons_succ])
      refine wpAnyH_ready (rs := [0, 19]) (by kernel_rfl) (by simp) ?_
      refine (AllReadyH.cons rfl (fun K hK => ?_) (AllReadyH.cons rfl (fun K hK => ?_) AllReadyH.nil))
      ·
        simp only [List.getElem_toArray, List.getElem_cons_zero, List.getElem_cons_succ]
        have k67 : Below w2.heap.size w2 (W66.alloc (.map #[] 0)) := Below.alloc k66 k66.size _
        have m67 : (W66.alloc (.map #[] 0)).heap[W66.heap.size]? = some (.map #[] 0) := heap_alloc_new _ _
        have b67 : w2.heap.size ≤ W66.heap.size := Below.size k66
        go_simp
        refine hK.out _ _ ?_ (fun hHeld => ?_)
        · exact K0.out _ (Blk.kept HA2 k67)
        clear hK K
        (try simp only [Act.put, List.getElem_toArray, List.getElem_cons_zero, List.getElem_cons_succ, List.setIfInBounds_toArray, List.set_cons_zero, List.set_cons_succ])
        generalize W66.alloc (.map #[] 0) = W67 at *
        refine wpAnyH_ready (rs := [1, 2, 19]) (by kernel_rfl) (by simp) ?_
        refine (AllReadyH.cons rfl (fun K hK => ?_) (AllReadyH.cons rfl (fun K hK => ?_) (AllReadyH.cons rfl (fun K hK => ?_) AllReadyH.nil)))
        ·
          simp only [List.getElem_toArray, List.getElem_cons_zero, List.getElem_cons_succ]
          have e68 : (Instr.mapUpdate 63 (.map (some W66.heap.size)) (.bool true) (.string ⟨#[2]⟩)).run Tryd.prog W67 = .ok () (putB W67 W66.heap.size (.map #[⟨.bool true, .string ⟨#[2]⟩, 0⟩] 1)) := ins0 true _ m67
          have k68 : Below w2.heap.size w2 (putB W67 W66.heap.size (.map #[⟨.bool true, .string ⟨#[2]⟩, 0⟩] 1)) := putB_below _ k67 b67
          have m68 : (putB W67 W66.heap.size (.map #[⟨.bool true, .string ⟨#[2]⟩, 0⟩] 1)).heap[W66.heap.size]? = some (.map #[⟨.bool true, .string ⟨#[2]⟩, 0⟩] 1) := putB_at _ (lt_of_block m67)
          go_simp
          clear e68
          refine hK.out _ _ ?_ (fun hHeld => ?_)
          · exact K0.out _ (Blk.kept HA2 k68)
          clear hK K
          (try simp only [Act.put, List.getElem_toArray, List.getElem_cons_zero, List.getElem_cons_succ, List.setIfInBounds_toArray, List.set_cons_zero, List.set_cons_succ])
          generalize putB W67 W66.heap.size (.map #[⟨.bool true, .string ⟨#[2]⟩, 0⟩] 1) = W68 at *
          refine wpAnyH_ready (rs := [2, 19]) (by kernel_rfl) (by simp) ?_
          refine (AllReadyH.cons rfl (fun K hK => ?_) (AllReadyH.cons rfl (fun K hK => ?_) AllReadyH.nil))
          ·
            simp only [List.getElem_toArray, List.getElem_cons_zero, List.getElem_cons_succ]
            have e69 : (Instr.mapUpdate 63 (.map (some W66.heap.size)) (.bool false) (.string ⟨#[1]⟩)).run Tryd.prog W68 = .ok () (putB W68 W66.heap.size (.map #[⟨.bool true, .string ⟨#[2]⟩, 0⟩, ⟨.bool false, .string ⟨#[1]⟩, 1⟩] 2)) := ins1 true _ _ m68
            have k69 : Below w2.heap.size w2 (putB W68 W66.heap.size (.map #[⟨.bool true, .string ⟨#[2]⟩, 0⟩, ⟨.bool false, .string ⟨#[1]⟩, 1⟩] 2)) := putB_below _ k68 b67
            have m69 : (putB W68 W66.heap.size (.map #[⟨.bool true, .string ⟨#[2]⟩, 0⟩, ⟨.bool false, .string ⟨#[1]⟩, 1⟩] 2)).heap[W66.heap.size]? = some (.map #[⟨.bool true, .string ⟨#[2]⟩, 0⟩, ⟨.bool false, .string ⟨#[1]⟩, 1⟩] 2) := putB_at _ (lt_of_block m68)
            go_simp
            clear e69
            refine hK.out _ _ ?_ (fun hHeld => ?_)
            · exact K0.out _ (Blk.kept HA2 k69)
            clear hK K
            (try simp only [Act.put, List.getElem_toArray, List.getElem_cons_zero, List.getElem_cons_succ, List.setIfInBounds_toArray, List.set_cons_zero, List.set_cons_succ])
            generalize putB W68 W66.heap.size (.map #[⟨.bool true, .string ⟨#[2]⟩, 0⟩, ⟨.bool false, .string ⟨#[1]⟩, 1⟩] 2) = W69 at *
            refine wpAnyH_take (i := 3) (v := ?_) rfl (by kernel_rfl) (by kernel_rfl) (by kernel_rfl) (fun _ _ _ h => h) (Or.inl ⟨by rfl, ?_⟩) (by assumption) ?_
            rotate_left
            · (intro w hSw; (try dsimp only at hSw); go_simp; (try with_reducible rfl))
            (try simp only [Act.put, List.getElem_toArray, List.getElem_cons_zero, List.getElem_cons_succ, List.setIfInBounds_toArray, List.set_cons_zero, List.set_cons_succ])
            refine wpAnyH_ready (rs := [6, 19]) (by kernel_rfl) (by simp) ?_
            refine (AllReadyH.cons rfl (fun K hK => ?_) (AllReadyH.cons rfl (fun K hK => ?_) AllReadyH.nil))
            ·
              simp only [List.getElem_toArray, List.getElem_cons_zero, List.getElem_cons_succ]
              have e70 : (Instr.lookup 63 (.map (some W66.heap.size)) (.bool re) false).run Tryd.prog W69 = .ok (.string ⟨LR.toArray⟩) W69 := by rw [look2 _ _ _ _ m69]; rw [HLR.out]; cases re <;> rfl
              go_simp
              clear e70
              refine hK.out _ _ ?_ (fun hHeld => ?_)
              · exact K0.out _ (Blk.kept HA2 k69)
              clear hK K
              (try simp only [Act.put, List.getElem_toArray, List.getElem_cons_zero, List.getElem_cons_succ, List.setIfInBounds_toArray, List.set_cons_zero, List.set_cons_succ])
              refine wpAnyH_take (i := 7) (v := ?_) rfl (by kernel_rfl) (by kernel_rfl) (by kernel_rfl) (fun _ _ _ h => h) (Or.inl ⟨by rfl, ?_⟩) (by assumption) ?_
              rotate_left
              · (intro w hSw; (try dsimp only at hSw); go_simp; (try with_reducible rfl))
              (try simp only [Act.put, List.getElem_toArray, List.getElem_cons_zero, List.getElem_cons_succ, List.setIfInBounds_toArray, List.set_cons_zero, List.set_cons_succ])
              refine wpAnyH_take (i := 8) (v := ?_) rfl (by kernel_rfl) (by kernel_rfl) (by kernel_rfl) (fun _ _ _ h => h) (Or.inl ⟨by rfl, ?_⟩) (by assumption) ?_
              rotate_left
              · (intro w hSw; (try dsimp only at hSw); go_simp; (try with_reducible rfl))
              (try simp only [Act.put, List.getElem_toArray, List.getElem_cons_zero, List.getElem_cons_succ, List.setIfInBounds_toArray, List.set_cons_zero, List.set_cons_succ])
              refine wpAnyH_take (i := 12) (v := ?_) rfl (by kernel_rfl) (by kernel_rfl) (by kernel_rfl) (fun _ _ _ h => h) (Or.inl ⟨by rfl, ?_⟩) (by assumption) ?_
              rotate_left
              · (intro w hSw; (try dsimp only at hSw); go_simp; (try with_reducible rfl))
              (try simp only [Act.put, List.getElem_toArray, List.getElem_cons_zero, List.getElem_cons_succ, List.setIfInBounds_toArray, List.set_cons_zero, List.set_cons_succ])
              refine wpAnyH_take (i := 16) (v := ?_) rfl (by kernel_rfl) (by kernel_rfl) (by kernel_rfl) (fun _ _ _ h => h) (Or.inl ⟨by rfl, ?_⟩) (by assumption) ?_
              rotate_left
              · (intro w hSw; (try dsimp only at hSw); go_simp; (try with_reducible rfl))
              (try simp only [Act.put, List.getElem_toArray, List.getElem_cons_zero, List.getElem_cons_succ, List.setIfInBounds_toArray, List.set_cons_zero, List.set_cons_succ])
              refine wpAnyH_ready (rs := [19]) (by kernel_rfl) (by simp) ?_
              refine (AllReadyH.cons rfl (fun K hK => ?_) AllReadyH.nil)
              simp only [List.getElem_toArray, List.getElem_cons_zero, List.getElem_cons_succ]
              go_simp
              go_at_call 24
              with_reducible refine (HBT.out _).mono ?_
              rintro e W71 ⟨rfl, q71⟩
              have k71 : Below w2.heap.size w2 W71 := Below.trans k69 (Below.mono q71 (Below.size k69))
              have m71 := (Below.block q71 _ (lt_of_block m69)).trans m69
              refine hK.out _ _ ?_ (fun hHeld => ?_)
              · exact K0.out _ (Blk.kept HA2 k71)
              clear hK K
              (try simp only [Act.put, List.getElem_toArray, List.getElem_cons_zero, List.getElem_cons_succ, List.setIfInBounds_toArray, List.set_cons_zero, List.set_cons_succ])
              refine wpAnyH_take (i := 20) (v := ?_) rfl (by kernel_rfl) (by kernel_rfl) (by kernel_rfl) (fun _ _ _ h => h) (Or.inl ⟨by rfl, ?_⟩) (by assumption) ?_
              rotate_left
              · (intro w hSw; (try dsimp only at hSw); go_simp; (try with_reducible rfl))
              (try simp only [Act.put, List.getElem_toArray, List.getElem_cons_zero, List.getElem_cons_succ, List.setIfInBounds_toArray, List.set_cons_zero, List.set_cons_succ])
              refine wpAnyH_take (i := 21) (v := ?_) rfl (by kernel_rfl) (by kernel_rfl) (by kernel_rfl) (fun _ _ _ h => h) (Or.inl ⟨by rfl, ?_⟩) (by assumption) ?_
              rotate_left
              · (intro w hSw; (try dsimp only at hSw); go_simp; (try with_reducible rfl))
              (try simp only [Act.put, List.getElem_toArray, List.getElem_cons_zero, List.getElem_cons_succ, List.setIfInBounds_toArray, List.set_cons_zero, List.set_cons_succ])
              refine wpAnyH_done (by kernel_rfl) ?_ _
              refine NoPanic.normal ?_
              exact ⟨rfl, ⟨_, _, _, _, _, _, _, _, _, _, _, _, _, _, _, _, _, _, _, rfl⟩, k71⟩
            ·
              simp only [List.getElem_toArray, List.getElem_cons_zero, List.getElem_cons_succ]
              go_simp
              go_at_call 24
              with_reducible refine (HBT.out _).mono ?_
              rintro e W72 ⟨rfl, q72⟩
              have k72 : Below w2.heap.size w2 W72 := Below.trans k69 (Below.mono q72 (Below.size k69))
              have m72 := (Below.block q72 _ (lt_of_block m69)).trans m69
              refine hK.out _ _ ?_ (fun hHeld => ?_)
              · exact K0.out _ (Blk.kept HA2 k72)
              clear hK K
              (try simp only [Act.put, List.getElem_toArray, List.getElem_cons_zero, List.getElem_cons_succ, List.setIfInBounds_toArray, List.set_cons_zero, List.set_cons_succ])
              refine wpAnyH_ready (rs := [6]) (by kernel_rfl) (by simp) ?_
              refine (AllReadyH.cons rfl (fun K hK => ?_) AllReadyH.nil)
              simp only [List.getElem_toArray, List.getElem_cons_zero, List.getElem_cons_succ]
              have e73 : (Instr.lookup 63 (.map (some W66.heap.size)) (.bool re) false).run Tryd.prog W72 = .ok (.string ⟨LR.toArray⟩) W72 := by rw [look2 _ _ _ _ m72]; rw [HLR.out]; cases re <;> rfl
              go_simp
              clear e73
              refine hK.out _ _ ?_ (fun hHeld => ?_)
              · exact K0.out _ (Blk.kept HA2 k72)
              clear hK K
              (try simp only [Act.put, List.getElem_toArray, List.getElem_cons_zero, List.getElem_cons_succ, List.setIfInBounds_toArray, List.set_cons_zero, List.set_cons_succ])
              refine wpAnyH_take (i := 7) (v := ?_) rfl (by kernel_rfl) (by kernel_rfl) (by kernel_rfl) (fun _ _ _ h => h) (Or.inl ⟨by rfl, ?_⟩) (by assumption) ?_
              rotate_left
              · (intro w hSw; (try dsimp only at hSw); go_simp; (try with_reducible rfl))
              (try simp only [Act.put, List.getElem_toArray, List.getElem_cons_zero, List.getElem_cons_succ, List.setIfInBounds_toArray, List.set_cons_zero, List.set_cons_succ])
              refine wpAnyH_take (i := 8) (v := ?_) rfl (by kernel_rfl) (by kernel_rfl) (by kernel_rfl) (fun _ _ _ h => h) (Or.inl ⟨by rfl, ?_⟩) (by assumption) ?_
              rotate_left
              · (intro w hSw; (try dsimp only at hSw); go_simp; (try with_reducible rfl))
              (try simp only [Act.put, List.getElem_toArray, List.getElem_cons_zero, List.getElem_cons_succ, List.setIfInBounds_toArray, List.set_cons_zero, List.set_cons_succ])
              refine wpAnyH_take (i := 12) (v := ?_) rfl (by kernel_rfl) (by kernel_rfl) (by kernel_rfl) (fun _ _ _ h => h) (Or.inl ⟨by rfl, ?_⟩) (by assumption) ?_
              rotate_left
              · (intro w hSw; (try dsimp only at hSw); go_simp; (try with_reducible rfl))
              (try simp only [Act.put, List.getElem_toArray, List.getElem_cons_zero, List.getElem_cons_succ, List.setIfInBounds_toArray, List.set_cons_zero, List.set_cons_succ])
              refine wpAnyH_take (i := 16) (v := ?_) rfl (by kernel_rfl) (by kernel_rfl) (by kernel_rfl) (fun _ _ _ h => h) (Or.inl ⟨by rfl, ?_⟩) (by assumption) ?_
              rotate_left
              · (intro w hSw; (try dsimp only at hSw); go_simp; (try with_reducible rfl))
              (try simp only [Act.put, List.getElem_toArray, List.getElem_cons_zero, List.getElem_cons_succ, List.setIfInBounds_toArray, List.set_cons_zero, List.set_cons_succ])
              refine wpAnyH_take (i := 20) (v := ?_) rfl (by kernel_rfl) (by kernel_rfl) (by kernel_rfl) (fun _ _ _ h => h) (Or.inl ⟨by rfl, ?_⟩) (by assumption) ?_
              rotate_left
              · (intro w hSw; (try dsimp only at hSw); go_simp; (try with_reducible rfl))
              (try simp only [Act.put, List.getElem_toArray, List.getElem_cons_zero, List.getElem_cons_succ, List.setIfInBounds_toArray, List.set_cons_zero, List.set_cons_succ])
              refine wpAnyH_take (i := 21) (v := ?_) rfl (by kernel_rfl) (by kernel_rfl) (by kernel_rfl) (fun _ _ _ h => h) (Or.inl ⟨by rfl, ?_⟩) (by assumption) ?_
              rotate_left
              · (intro w hSw; (try dsimp only at hSw); go_simp; (try with_reducible rfl))
              (try simp only [Act.put, List.getElem_toArray, List.getElem_cons_zero, List.getElem_cons_succ, List.setIfInBounds_toArray, List.set_cons_zero, List.set_cons_succ])
              refine wpAnyH_done (by kernel_rfl) ?_ _
              refine NoPanic.normal ?_
              exact ⟨rfl, ⟨_, _, _, _, _, _, _, _, _, _, _, _, _, _, _, _, _, _, _, rfl⟩, k72⟩
          ·
            simp only [List.getElem_toArray, List.getElem_cons_zero, List.getElem_cons_succ]
            go_simp
            go_at_call 24
            with_reducible refine (HBT.out _).mono ?_
            rintro e W74 ⟨rfl, q74⟩
            have k74 : Below w2.heap.size w2 W74 := Below.trans k68 (Below.mono q74 (Below.size k68))
            have m74 := (Below.block q74 _ (lt_of_block m68)).trans m68
            refine hK.out _ _ ?_ (fun hHeld => ?_)
            · exact K0.out _ (Blk.kept HA2 k74)
            clear hK K
            (try simp only [Act.put, List.getElem_toArray, List.getElem_cons_zero, List.getElem_cons_succ, List.setIfInBounds_toArray, List.set_cons_zero, List.set_cons_succ])
            refine wpAnyH_ready (rs := [2]) (by kernel_rfl) (by simp) ?_
            refine (AllReadyH.cons rfl (fun K hK => ?_) AllReadyH.nil)
            simp only [List.getElem_toArray, List.getElem_cons_zero, List.getElem_cons_succ]
            have e75 : (Instr.mapUpdate 63 (.map (some W66.heap.size)) (.bool false) (.string ⟨#[1]⟩)).run Tryd.prog W74 = .ok () (putB W74 W66.heap.size (.map #[⟨.bool true, .string ⟨#[2]⟩, 0⟩, ⟨.bool false, .string ⟨#[1]⟩, 1⟩] 2)) := ins1 true _ _ m74
            have k75 : Below w2.heap.size w2 (putB W74 W66.heap.size (.map #[⟨.bool true, .string ⟨#[2]⟩, 0⟩, ⟨.bool false, .string ⟨#[1]⟩, 1⟩] 2)) := putB_below _ k74 b67
            have m75 : (putB W74 W66.heap.size (.map #[⟨.bool true, .string ⟨#[2]⟩, 0⟩, ⟨.bool false, .string ⟨#[1]⟩, 1⟩] 2)).heap[W66.heap.size]? = some (.map #[⟨.bool true, .string ⟨#[2]⟩, 0⟩, ⟨.bool false, .string ⟨#[1]⟩, 1⟩] 2) := putB_at _ (lt_of_block m74)
            go_simp
            clear e75
            refine hK.out _ _ ?_ (fun hHeld => ?_)
            · exact K0.out _ (Blk.kept HA2 k75)
            clear hK K
            (try simp only [Act.put, List.getElem_toArray, List.getElem_cons_zero, List.getElem_cons_succ, List.setIfInBounds_toArray, List.set_cons_zero, List.set_cons_succ])
            generalize putB W74 W66.heap.size (.map #[⟨.bool true, .string ⟨#[2]⟩, 0⟩, ⟨.bool false, .string ⟨#[1]⟩, 1⟩] 2) = W75 at *
            refine wpAnyH_take (i := 3) (v := ?_) rfl (by kernel_rfl) (by kernel_rfl) (by kernel_rfl) (fun _ _ _ h => h) (Or.inl ⟨by rfl, ?_⟩) (by assumption) ?_
            rotate_left
            · (intro w hSw; (try dsimp only at hSw); go_simp; (try with_reducible rfl))
            (try simp only [Act.put, List.getElem_toArray, List.getElem_cons_zero, List.getElem_cons_succ, List.setIfInBounds_toArray, List.set_cons_zero, List.set_cons_succ])
            refine wpAnyH_ready (rs := [6]) (by kernel_rfl) (by simp) ?_
            refine (AllReadyH.cons rfl (fun K hK => ?_) AllReadyH.nil)
            simp only [List.getElem_toArray, List.getElem_cons_zero, List.getElem_cons_succ]
            have e76 : (Instr.lookup 63 (.map (some W66.heap.size)) (.bool re) false).run Tryd.prog W75 = .ok (.string ⟨LR.toArray⟩) W75 := by rw [look2 _ _ _ _ m75]; rw [HLR.out]; cases re <;> rfl
            go_simp
            clear e76
            refine hK.out _ _ ?_ (fun hHeld => ?_)
            · exact K0.out _ (Blk.kept HA2 k75)
            clear hK K
            (try simp only [Act.put, List.getElem_toArray, List.getElem_cons_zero, List.getElem_cons_succ, List.setIfInBounds_toArray, List.set_cons_zero, List.set_cons_succ])
            refine wpAnyH_take (i := 7) (v := ?_) rfl (by kernel_rfl) (by kernel_rfl) (by kernel_rfl) (fun _ _ _ h => h) (Or.inl ⟨by rfl, ?_⟩) (by assumption) ?_
            rotate_left
            · (intro w hSw; (try dsimp only at hSw); go_simp; (try with_reducible rfl))
            (try simp only [Act.put, List.getElem_toArray, List.getElem_cons_zero, List.getElem_cons_succ, List.setIfInBounds_toArray, List.set_cons_zero, List.set_cons_succ])
            refine wpAnyH_take (i := 8) (v := ?_) rfl (by kernel_rfl) (by kernel_rfl) (by kernel_rfl) (fun _ _ _ h => h) (Or.inl ⟨by rfl, ?_⟩) (by assumption) ?_
            rotate_left
            · (intro w hSw; (try dsimp only at hSw); go_simp; (try with_reducible rfl))
            (try simp only [Act.put, List.getElem_toArray, List.getElem_cons_zero, List.getElem_cons_succ, List.setIfInBounds_toArray, List.set_cons_zero, List.set_cons_succ])
            refine wpAnyH_take (i := 12) (v := ?_) rfl (by kernel_rfl) (by kernel_rfl) (by kernel_rfl) (fun _ _ _ h => h) (Or.inl ⟨by rfl, ?_⟩) (by assumption) ?_
            rotate_left
            · (intro w hSw; (try dsimp only at hSw); go_simp; (try with_reducible rfl))
            (try simp only [Act.put, List.getElem_toArray, List.getElem_cons_zero, List.getElem_cons_succ, List.setIfInBounds_toArray, List.set_cons_zero, List.set_cons_succ])
            refine wpAnyH_take (i := 16) (v := ?_) rfl (by kernel_rfl) (by kernel_rfl) (by kernel_rfl) (fun _ _ _ h => h) (Or.inl ⟨by rfl, ?_⟩) (by assumption) ?_
            rotate_left
            · (intro w hSw; (try dsimp only at hSw); go_simp; (try with_reducible rfl))
            (try simp only [Act.put, List.getElem_toArray, List.getElem_cons_zero, List.getElem_cons_succ, List.setIfInBounds_toArray, List.set_cons_zero, List.set_cons_succ])
            refine wpAnyH_take (i := 20) (v := ?_) rfl (by kernel_rfl) (by kernel_rfl) (by kernel_rfl) (fun _ _ _ h => h) (Or.inl ⟨by rfl, ?_⟩) (by assumption) ?_
            rotate_left
            · (intro w hSw; (try dsimp only at hSw); go_simp; (try with_reducible rfl))
            (try simp only [Act.put, List.getElem_toArray, List.getElem_cons_zero, List.getElem_cons_succ, List.setIfInBounds_toArray, List.set_cons_zero, List.set_cons_succ])
            refine wpAnyH_take (i := 21) (v := ?_) rfl (by kernel_rfl) (by kernel_rfl) (by kernel_rfl) (fun _ _ _ h => h) (Or.inl ⟨by rfl, ?_⟩) (by assumption) ?_
            rotate_left
            · (intro w hSw; (try dsimp only at hSw); go_simp; (try with_reducible rfl))
            (try simp only [Act.put, List.getElem_toArray, List.getElem_cons_zero, List.getElem_cons_succ, List.setIfInBounds_toArray, List.set_cons_zero, List.set_cons_succ])
            refine wpAnyH_done (by kernel_rfl) ?_ _
            refine NoPanic.normal ?_
            exact ⟨rfl, ⟨_, _, _, _, _, _, _, _, _, _, _, _, _, _, _, _, _, _, _, rfl⟩, k75⟩
        ·
          simp only [List.getElem_toArray, List.getElem_cons_zero, List.getElem_cons_succ]
          have e77 : (Instr.mapUpdate 63 (.map (some W66.heap.size)) (.bool false) (.string ⟨#[1]⟩)).run Tryd.prog W67 = .ok () (putB W67 W66.heap.size (.map #[⟨.bool false, .string ⟨#[1]⟩, 0⟩] 1)) := ins0 false _ m67
          have k77 : Below w2.heap.size w2 (putB W67 W66.heap.size (.map #[⟨.bool false, .string ⟨#[1]⟩, 0⟩] 1)) := putB_below _ k67 b67
          have m77 : (putB W67 W66.heap.size (.map #[⟨.bool false, .string ⟨#[1]⟩, 0⟩] 1)).heap[W66.heap.size]? = some (.map #[⟨.bool false, .string ⟨#[1]⟩, 0⟩] 1) := putB_at _ (lt_of_block m67)
          go_simp
          clear e77
          refine hK.out _ _ ?_ (fun hHeld => ?_)
          · exact K0.out _ (Blk.kept HA2 k77)
          clear hK K
          (try simp only [Act.put, List.getElem_toArray, List.getElem_cons_zero, List.getElem_cons_succ, List.setIfInBounds_toArray, List.set_cons_zero, List.set_cons_succ])
          generalize putB W67 W66.heap.size (.map #[⟨.bool false, .string ⟨#[1]⟩, 0⟩] 1) = W77 at *
          refine wpAnyH_ready (rs := [1, 19]) (by kernel_rfl) (by simp) ?_
          refine (AllReadyH.cons rfl (fun K hK => ?_) (AllReadyH.cons rfl (fun K hK => ?_) AllReadyH.nil))
          ·
            simp only [List.getElem_toArray, List.getElem_cons_zero, List.getElem_cons_succ]
            have e78 : (Instr.mapUpdate 63 (.map (some W66.heap.size)) (.bool true) (.string ⟨#[2]⟩)).run Tryd.prog W77 = .ok () (putB W77 W66.heap.size (.map #[⟨.bool false, .string ⟨#[1]⟩, 0⟩, ⟨.bool true, .string ⟨#[2]⟩, 1⟩] 2)) := ins1 false _ _ m77
            have k78 : Below w2.heap.size w2 (putB W77 W66.heap.size (.map #[⟨.bool false, .string ⟨#[1]⟩, 0⟩, ⟨.bool true, .string ⟨#[2]⟩, 1⟩] 2)) := putB_below _ k77 b67
            have m78 : (putB W77 W66.heap.size (.map #[⟨.bool false, .string ⟨#[1]⟩, 0⟩, ⟨.bool true, .string ⟨#[2]⟩, 1⟩] 2)).heap[W66.heap.size]? = some (.map #[⟨.bool false, .string ⟨#[1]⟩, 0⟩, ⟨.bool true, .string ⟨#[2]⟩, 1⟩] 2) := putB_at _ (lt_of_block m77)
            go_simp
            clear e78
            refine hK.out _ _ ?_ (fun hHeld => ?_)
            · exact K0.out _ (Blk.kept HA2 k78)
            clear hK K
            (try simp only [Act.put, List.getElem_toArray, List.getElem_cons_zero, List.getElem_cons_succ, List.setIfInBounds_toArray, List.set_cons_zero, List.set_cons_succ])
            generalize putB W77 W66.heap.size (.map #[⟨.bool false, .string ⟨#[1]⟩, 0⟩, ⟨.bool true, .string ⟨#[2]⟩, 1⟩] 2) = W78 at *
            refine wpAnyH_take (i := 3) (v := ?_) rfl (by kernel_rfl) (by kernel_rfl) (by kernel_rfl) (fun _ _ _ h => h) (Or.inl ⟨by rfl, ?_⟩) (by assumption) ?_
            rotate_left
            · (intro w hSw; (try dsimp only at hSw); go_simp; (try with_reducible rfl))
            (try simp only [Act.put, List.getElem_toArray, List.getElem_cons_zero, List.getElem_cons_succ, List.setIfInBounds_toArray, List.set_cons_zero, List.set_cons_succ])
            refine wpAnyH_ready (rs := [6, 19]) (by kernel_rfl) (by simp) ?_
            refine (AllReadyH.cons rfl (fun K hK => ?_) (AllReadyH.cons rfl (fun K hK => ?_) AllReadyH.nil))
            ·
              simp only [List.getElem_toArray, List.getElem_cons_zero, List.getElem_cons_succ]
              have e79 : (Instr.lookup 63 (.map (some W66.heap.size)) (.bool re) false).run Tryd.prog W78 = .ok (.string ⟨LR.toArray⟩) W78 := by rw [look2 _ _ _ _ m78]; rw [HLR.out]; cases re <;> rfl
              go_simp
              clear e79
              refine hK.out _ _ ?_ (fun hHeld => ?_)
              · exact K0.out _ (Blk.kept HA2 k78)
              clear hK K
              (try simp only [Act.put, List.getElem_toArray, List.getElem_cons_zero, List.getElem_cons_succ, List.setIfInBounds_toArray, List.set_cons_zero, List.set_cons_succ])
              refine wpAnyH_take (i := 7) (v := ?_) rfl (by kernel_rfl) (by kernel_rfl) (by kernel_rfl) (fun _ _ _ h => h) (Or.inl ⟨by rfl, ?_⟩) (by assumption) ?_
              rotate_left
              · (intro w hSw; (try dsimp only at hSw); go_simp; (try with_reducible rfl))
              (try simp only [Act.put, List.getElem_toArray, List.getElem_cons_zero, List.getElem_cons_succ, List.setIfInBounds_toArray, List.set_cons_zero, List.set_cons_succ])
              refine wpAnyH_take (i := 8) (v := ?_) rfl (by kernel_rfl) (by kernel_rfl) (by kernel_rfl) (fun _ _ _ h => h) (Or.inl ⟨by rfl, ?_⟩) (by assumption) ?_
              rotate_left
              · (intro w hSw; (try dsimp only at hSw); go_simp; (try with_reducible rfl))
              (try simp only [Act.put, List.getElem_toArray, List.getElem_cons_zero, List.getElem_cons_succ, List.setIfInBounds_toArray, List.set_cons_zero, List.set_cons_succ])
              refine wpAnyH_take (i := 12) (v := ?_) rfl (by kernel_rfl) (by kernel_rfl) (by kernel_rfl) (fun _ _ _ h => h) (Or.inl ⟨by rfl, ?_⟩) (by assumption) ?_
              rotate_left
              · (intro w hSw; (try dsimp only at hSw); go_simp; (try with_reducible rfl))
              (try simp only [Act.put, List.getElem_toArray, List.getElem_cons_zero, List.getElem_cons_succ, List.setIfInBounds_toArray, List.set_cons_zero, List.set_cons_succ])
              refine wpAnyH_take (i := 16) (v := ?_) rfl (by kernel_rfl) (by kernel_rfl) (by kernel_rfl) (fun _ _ _ h => h) (Or.inl ⟨by rfl, ?_⟩) (by assumption) ?_
              rotate_left
              · (intro w hSw; (try dsimp only at hSw); go_simp; (try with_reducible rfl))
              (try simp only [Act.put, List.getElem_toArray, List.getElem_cons_zero, List.getElem_cons_succ, List.setIfInBounds_toArray, List.set_cons_zero, List.set_cons_succ])
              refine wpAnyH_ready (rs := [19]) (by kernel_rfl) (by simp) ?_
              refine (AllReadyH.cons rfl (fun K hK => ?_) AllReadyH.nil)
              simp only [List.getElem_toArray, List.getElem_cons_zero, List.getElem_cons_succ]
              go_simp
              go_at_call 24
              with_reducible refine (HBT.out _).mono ?_
              rintro e W80 ⟨rfl, q80⟩
              have k80 : Below w2.heap.size w2 W80 := Below.trans k78 (Below.mono q80 (Below.size k78))
              have m80 := (Below.block q80 _ (lt_of_block m78)).trans m78
              refine hK.out _ _ ?_ (fun hHeld => ?_)
              · exact K0.out _ (Blk.kept HA2 k80)
              clear hK K
              (try simp only [Act.put, List.getElem_toArray, List.getElem_cons_zero, List.getElem_cons_succ, List.setIfInBounds_toArray, List.set_cons_zero, List.set_cons_succ])
              refine wpAnyH_take (i := 20) (v := ?_) rfl (by kernel_rfl) (by kernel_rfl) (by kernel_rfl) (fun _ _ _ h => h) (Or.inl ⟨by rfl, ?_⟩) (by assumption) ?_
              rotate_left
              · (intro w hSw; (try dsimp only at hSw); go_simp; (try with_reducible rfl))
              (try simp only [Act.put, List.getElem_toArray, List.getElem_cons_zero, List.getElem_cons_succ, List.setIfInBounds_toArray, List.set_cons_zero, List.set_cons_succ])
              refine wpAnyH_take (i := 21) (v := ?_) rfl (by kernel_rfl) (by kernel_rfl) (by kernel_rfl) (fun _ _ _ h => h) (Or.inl ⟨by rfl, ?_⟩) (by assumption) ?_
              rotate_left
              · (intro w hSw; (try dsimp only at hSw); go_simp; (try with_reducible rfl))
              (try simp only [Act.put, List.getElem_toArray, List.getElem_cons_zero, List.getElem_cons_succ, List.setIfInBounds_toArray, List.set_cons_zero, List.set_cons_succ])
              refine wpAnyH_done (by kernel_rfl) ?_ _
              refine NoPanic.normal ?_
              exact ⟨rfl, ⟨_, _, _, _, _, _, _, _, _, _, _, _, _, _, _, _, _, _, _, rfl⟩, k80⟩
            ·
              simp only [List.getElem_toArray, List.getElem_cons_zero, List.getElem_cons_succ]
              go_simp
              go_at_call 24
              with_reducible refine (HBT.out _).mono ?_
              rintro e W81 ⟨rfl, q81⟩
              have k81 : Below w2.heap.size w2 W81 := Below.trans k78 (Below.mono q81 (Below.size k78))
              have m81 := (Below.block q81 _ (lt_of_block m78)).trans m78
              refine hK.out _ _ ?_ (fun hHeld => ?_)
              · exact K0.out _ (Blk.kept HA2 k81)
              clear hK K
              (try simp only [Act.put, List.getElem_toArray, List.getElem_cons_zero, List.getElem_cons_succ, List.setIfInBounds_toArray, List.set_cons_zero, List.set_cons_succ])
              refine wpAnyH_ready (rs := [6]) (by kernel_rfl) (by simp) ?_
              refine (AllReadyH.cons rfl (fun K hK => ?_) AllReadyH.nil)
              simp only [List.getElem_toArray, List.getElem_cons_zero, List.getElem_cons_succ]
              have e82 : (Instr.lookup 63 (.map (some W66.heap.size)) (.bool re) false).run Tryd.prog W81 = .ok (.string ⟨LR.toArray⟩) W81 := by rw [look2 _ _ _ _ m81]; rw [HLR.out]; cases re <;> rfl
              go_simp
              clear e82
              refine hK.out _ _ ?_ (fun hHeld => ?_)
              · exact K0.out _ (Blk.kept HA2 k81)
              clear hK K
              (try simp only [Act.put, List.getElem_toArray, List.getElem_cons_zero, List.getElem_cons_succ, List.setIfInBounds_toArray, List.set_cons_zero, List.set_cons_succ])
              refine wpAnyH_take (i := 7) (v := ?_) rfl (by kernel_rfl) (by kernel_rfl) (by kernel_rfl) (fun _ _ _ h => h) (Or.inl ⟨by rfl, ?_⟩) (by assumption) ?_
              rotate_left
              · (intro w hSw; (try dsimp only at hSw); go_simp; (try with_reducible rfl))
              (try simp only [Act.put, List.getElem_toArray, List.getElem_cons_zero, List.getElem_cons_succ, List.setIfInBounds_toArray, List.set_cons_zero, List.set_cons_succ])
              refine wpAnyH_take (i := 8) (v := ?_) rfl (by kernel_rfl) (by kernel_rfl) (by kernel_rfl) (fun _ _ _ h => h) (Or.inl ⟨by rfl, ?_⟩) (by assumption) ?_
              rotate_left
              · (intro w hSw; (try dsimp only at hSw); go_simp; (try with_reducible rfl))
              (try simp only [Act.put, List.getElem_toArray, List.getElem_cons_zero, List.getElem_cons_succ, List.setIfInBounds_toArray, List.set_cons_zero, List.set_cons_succ])
              refine wpAnyH_take (i := 12) (v := ?_) rfl (by kernel_rfl) (by kernel_rfl) (by kernel_rfl) (fun _ _ _ h => h) (Or.inl ⟨by rfl, ?_⟩) (by assumption) ?_
              rotate_left
              · (intro w hSw; (try dsimp only at hSw); go_simp; (try with_reducible rfl))
              (try simp only [Act.put, List.getElem_toArray, List.getElem_cons_zero, List.getElem_cons_succ, List.setIfInBounds_toArray, List.set_cons_zero, List.set_cons_succ])
              refine wpAnyH_take (i := 16) (v := ?_) rfl (by kernel_rfl) (by kernel_rfl) (by kernel_rfl) (fun _ _ _ h => h) (Or.inl ⟨by rfl, ?_⟩) (by assumption) ?_
              rotate_left
              · (intro w hSw; (try dsimp only at hSw); go_simp; (try with_reducible rfl))
              (try simp only [Act.put, List.getElem_toArray, List.getElem_cons_zero, List.getElem_cons_succ, List.setIfInBounds_toArray, List.set_cons_zero, List.set_cons_succ])
              refine wpAnyH_take (i := 20) (v := ?_) rfl (by kernel_rfl) (by kernel_rfl) (by kernel_rfl) (fun _ _ _ h => h) (Or.inl ⟨by rfl, ?_⟩) (by assumption) ?_
              rotate_left
              · (intro w hSw; (try dsimp only at hSw); go_simp; (try with_reducible rfl))
              (try simp only [Act.put, List.getElem_toArray, List.getElem_cons_zero, List.getElem_cons_succ, List.setIfInBounds_toArray, List.set_cons_zero, List.set_cons_succ])
              refine wpAnyH_take (i := 21) (v := ?_) rfl (by kernel_rfl) (by kernel_rfl) (by kernel_rfl) (fun _ _ _ h => h) (Or.inl ⟨by rfl, ?_⟩) (by assumption) ?_
              rotate_left
              · (intro w hSw; (try dsimp only at hSw); go_simp; (try with_reducible rfl))
              (try simp only [Act.put, List.getElem_toArray, List.getElem_cons_zero, List.getElem_cons_succ, List.setIfInBounds_toArray, List.set_cons_zero, List.set_cons_succ])
              refine wpAnyH_done (by kernel_rfl) ?_ _
              refine NoPanic.normal ?_
              exact ⟨rfl, ⟨_, _, _, _, _, _, _, _, _, _, _, _, _, _, _, _, _, _, _, rfl⟩, k81⟩
          ·
            simp only [List.getElem_toArray, List.getElem_cons_zero, List.getElem_cons_succ]
            go_simp
            go_at_call 24
            with_reducible refine (HBT.out _).mono ?_
            rintro e W83 ⟨rfl, q83⟩
            have k83 : Below w2.heap.size w2 W83 := Below.trans k77 (Below.mono q83 (Below.size k77))
            have m83 := (Below.block q83 _ (lt_of_block m77)).trans m77
            refine hK.out _ _ ?_ (fun hHeld => ?_)
            · exact K0.out _ (Blk.kept HA2 k83)
            clear hK K
            (try simp only [Act.put, List.getElem_toArray, List.getElem_cons_zero, List.getElem_cons_succ, List.setIfInBounds_toArray, List.set_cons_zero, List.set_cons_succ])
            refine wpAnyH_ready (rs := [1]) (by kernel_rfl) (by simp) ?_
            refine (AllReadyH.cons rfl (fun K hK => ?_) AllReadyH.nil)
            simp only [List.getElem_toArray, List.getElem_cons_zero, List.getElem_cons_succ]
            have e84 : (Instr.mapUpdate 63 (.map (some W66.heap.size)) (.bool true) (.string ⟨#[2]⟩)).run Tryd.prog W83 = .ok () (putB W83 W66.heap.size (.map #[⟨.bool false, .string ⟨#[1]⟩, 0⟩, ⟨.bool true, .string ⟨#[2]⟩, 1⟩] 2)) := ins1 false _ _ m83
            have k84 : Below w2.heap.size w2 (putB W83 W66.heap.size (.map #[⟨.bool false, .string ⟨#[1]⟩, 0⟩, ⟨.bool true, .string ⟨#[2]⟩, 1⟩] 2)) := putB_below _ k83 b67
            have m84 : (putB W83 W66.heap.size (.map #[⟨.bool false, .string ⟨#[1]⟩, 0⟩, ⟨.bool true, .string ⟨#[2]⟩, 1⟩] 2)).heap[W66.heap.size]? = some (.map #[⟨.bool false, .string ⟨#[1]⟩, 0⟩, ⟨.bool true, .string ⟨#[2]⟩, 1⟩] 2) := putB_at _ (lt_of_block m83)
            go_simp
            clear e84
            refine hK.out _ _ ?_ (fun hHeld => ?_)
            · exact K0.out _ (Blk.kept HA2 k84)
            clear hK K
            (try simp only [Act.put, List.getElem_toArray, List.getElem_cons_zero, List.getElem_cons_succ, List.setIfInBounds_toArray, List.set_cons_zero, List.set_cons_succ])
            generalize putB W83 W66.heap.size (.map #[⟨.bool false, .string ⟨#[1]⟩, 0⟩, ⟨.bool true, .string ⟨#[2]⟩, 1⟩] 2) = W84 at *
            refine wpAnyH_take (i := 3) (v := ?_) rfl (by kernel_rfl) (by kernel_rfl) (by kernel_rfl) (fun _ _ _ h => h) (Or.inl ⟨by rfl, ?_⟩) (by assumption) ?_
            rotate_left
            · (intro w hSw; (try dsimp only at hSw); go_simp; (try with_reducible rfl))
            (try simp only [Act.put, List.getElem_toArray, List.getElem_cons_zero, List.getElem_cons_succ, List.setIfInBounds_toArray, List.set_cons_zero, List.set_cons_succ])
            refine wpAnyH_ready (rs := [6]) (by kernel_rfl) (by simp) ?_
            refine (AllReadyH.cons rfl (fun K hK => ?_) AllReadyH.nil)
            simp only [List.getElem_toArray, List.getElem_cons_zero, List.getElem_cons_succ]
            have e85 : (Instr.lookup 63 (.map (some W66.heap.size)) (.bool re) false).run Tryd.prog W84 = .ok (.string ⟨LR.toArray⟩) W84 := by rw [look2 _ _ _ _ m84]; rw [HLR.out]; cases re <;> rfl
            go_simp
            clear e85
            refine hK.out _ _ ?_ (fun hHeld => ?_)
            · exact K0.out _ (Blk.kept HA2 k84)
            clear hK K
            (try simp only [Act.put, List.getElem_toArray, List.getElem_cons_zero, List.getElem_cons_succ, List.setIfInBounds_toArray, List.set_cons_zero, List.set_cons_succ])
            refine wpAnyH_take (i := 7) (v := ?_) rfl (by kernel_rfl) (by kernel_rfl) (by kernel_rfl) (fun _ _ _ h => h) (Or.inl ⟨by rfl, ?_⟩) (by assumption) ?_
            rotate_left
            · (intro w hSw; (try dsimp only at hSw); go_simp; (try with_reducible rfl))
            (try simp only [Act.put, List.getElem_toArray, List.getElem_cons_zero, List.getElem_cons_succ, List.setIfInBounds_toArray, List.set_cons_zero, List.set_cons_succ])
            refine wpAnyH_take (i := 8) (v := ?_) rfl (by kernel_rfl) (by kernel_rfl) (by kernel_rfl) (fun _ _ _ h => h) (Or.inl ⟨by rfl, ?_⟩) (by assumption) ?_
            rotate_left
            · (intro w hSw; (try dsimp only at hSw); go_simp; (try with_reducible rfl))
            (try simp only [Act.put, List.getElem_toArray, List.getElem_cons_zero, List.getElem_cons_succ, List.setIfInBounds_toArray, List.set_cons_zero, List.set_cons_succ])
            refine wpAnyH_take (i := 12) (v := ?_) rfl (by kernel_rfl) (by kernel_rfl) (by kernel_rfl) (fun _ _ _ h => h) (Or.inl ⟨by rfl, ?_⟩) (by assumption) ?_
            rotate_left
            · (intro w hSw; (try dsimp only at hSw); go_simp; (try with_reducible rfl))
            (try simp only [Act.put, List.getElem_toArray, List.getElem_cons_zero, List.getElem_cons_succ, List.setIfInBounds_toArray, List.set_cons_zero, List.set_cons_succ])
            refine wpAnyH_take (i := 16) (v := ?_) rfl (by kernel_rfl) (by kernel_rfl) (by kernel_rfl) (fun _ _ _ h => h) (Or.inl ⟨by rfl, ?_⟩) (by assumption) ?_
            rotate_left
            · (intro w hSw; (try dsimp only at hSw); go_simp; (try with_reducible rfl))
            (try simp only [Act.put, List.getElem_toArray, List.getElem_cons_zero, List.getElem_cons_succ, List.setIfInBounds_toArray, List.set_cons_zero, List.set_cons_succ])
            refine wpAnyH_take (i := 20) (v := ?_) rfl (by kernel_rfl) (by kernel_rfl) (by kernel_rfl) (fun _ _ _ h => h) (Or.inl ⟨by rfl, ?_⟩) (by assumption) ?_
            rotate_left
            · (intro w hSw; (try dsimp only at hSw); go_simp; (try with_reducible rfl))
            (try simp only [Act.put, List.getElem_toArray, List.getElem_cons_zero, List.getElem_cons_succ, List.setIfInBounds_toArray, List.set_cons_zero, List.set_cons_succ])
            refine wpAnyH_take (i := 21) (v := ?_) rfl (by kernel_rfl) (by kernel_rfl) (by kernel_rfl) (fun _ _ _ h => h) (Or.inl ⟨by rfl, ?_⟩) (by assumption) ?_
            rotate_left
            · (intro w hSw; (try dsimp only at hSw); go_simp; (try with_reducible rfl))
            (try simp only [Act.put, List.getElem_toArray, List.getElem_cons_zero, List.getElem_cons_succ, List.setIfInBounds_toArray, List.set_cons_zero, List.set_cons_succ])
            refine wpAnyH_done (by kernel_rfl) ?_ _
            refine NoPanic.normal ?_
            exact ⟨rfl, ⟨_, _, _, _, _, _, _, _, _, _, _, _, _, _, _, _, _, _, _, rfl⟩, k84⟩
        ·
          simp only [List.getElem_toArray, List.getElem_cons_zero, List.getElem_cons_succ]
          go_simp
          go_at_call 24
          with_reducible refine (HBT.out _).mono ?_
          rintro e W86 ⟨rfl, q86⟩
          have k86 : Below w2.heap.size w2 W86 := Below.trans k67 (Below.mono q86 (Below.size k67))
          have m86 := (Below.block q86 _ (lt_of_block m67)).trans m67
          refine hK.out _ _ ?_ (fun hHeld => ?_)
          · exact K0.out _ (Blk.kept HA2 k86)
          clear hK K
          (try simp only [Act.put, List.getElem_toArray, List.getElem_cons_zero, List.getElem_cons_succ, List.setIfInBounds_toArray, List.set_cons_zero, List.set_cons_succ])
          refine wpAnyH_ready (rs := [1, 2]) (by kernel_rfl) (by simp) ?_
          refine (AllReadyH.cons rfl (fun K hK => ?_) (AllReadyH.cons rfl (fun K hK => ?_) AllReadyH.nil))
          ·
            simp only [List.getElem_toArray, List.getElem_cons_zero, List.getElem_cons_succ]
            have e87 : (Instr.mapUpdate 63 (.map (some W66.heap.size)) (.bool true) (.string ⟨#[2]⟩)).run Tryd.prog W86 = .ok () (putB W86 W66.heap.size (.map #[⟨.bool true, .string ⟨#[2]⟩, 0⟩] 1)) := ins0 true _ m86
            have k87 : Below w2.heap.size w2 (putB W86 W66.heap.size (.map #[⟨.bool true, .string ⟨#[2]⟩, 0⟩] 1)) := putB_below _ k86 b67
            have m87 : (putB W86 W66.heap.size (.map #[⟨.bool true, .string ⟨#[2]⟩, 0⟩] 1)).heap[W66.heap.size]? = some (.map #[⟨.bool true, .string ⟨#[2]⟩, 0⟩] 1) := putB_at _ (lt_of_block m86)
            go_simp
            clear e87
            refine hK.out _ _ ?_ (fun hHeld => ?_)
            · exact K0.out _ (Blk.kept HA2 k87)
            clear hK K
            (try simp only [Act.put, List.getElem_toArray, List.getElem_cons_zero, List.getElem_cons_succ, List.setIfInBounds_toArray, List.set_cons_zero, List.set_cons_succ])
            generalize putB W86 W66.heap.size (.map #[⟨.bool true, .string ⟨#[2]⟩, 0⟩] 1) = W87 at *
            refine wpAnyH_ready (rs := [2]) (by kernel_rfl) (by simp) ?_
            refine (AllReadyH.cons rfl (fun K hK => ?_) AllReadyH.nil)
            simp only [List.getElem_toArray, List.getElem_cons_zero, List.getElem_cons_succ]
            have e88 : (Instr.mapUpdate 63 (.map (some W66.heap.size)) (.bool false) (.string ⟨#[1]⟩)).run Tryd.prog W87 = .ok () (putB W87 W66.heap.size (.map #[⟨.bool true, .string ⟨#[2]⟩, 0⟩, ⟨.bool false, .string ⟨#[1]⟩, 1⟩] 2)) := ins1 true _ _ m87
            have k88 : Below w2.heap.size w2 (putB W87 W66.heap.size (.map #[⟨.bool true, .string ⟨#[2]⟩, 0⟩, ⟨.bool false, .string ⟨#[1]⟩, 1⟩] 2)) := putB_below _ k87 b67
            have m88 : (putB W87 W66.heap.size (.map #[⟨.bool true, .string ⟨#[2]⟩, 0⟩, ⟨.bool false, .string ⟨#[1]⟩, 1⟩] 2)).heap[W66.heap.size]? = some (.map #[⟨.bool true, .string ⟨#[2]⟩, 0⟩, ⟨.bool false, .string ⟨#[1]⟩, 1⟩] 2) := putB_at _ (lt_of_block m87)
            go_simp
            clear e88
            refine hK.out _ _ ?_ (fun hHeld => ?_)
            · exact K0.out _ (Blk.kept HA2 k88)
            clear hK K
            (try simp only [Act.put, List.getElem_toArray, List.getElem_cons_zero, List.getElem_cons_succ, List.setIfInBounds_toArray, List.set_cons_zero, List.set_cons_succ])
            generalize putB W87 W66.heap.size (.map #[⟨.bool true, .string ⟨#[2]⟩, 0⟩, ⟨.bool false, .string ⟨#[1]⟩, 1⟩] 2) = W88 at *
            refine wpAnyH_take (i := 3) (v := ?_) rfl (by kernel_rfl) (by kernel_rfl) (by kernel_rfl) (fun _ _ _ h => h) (Or.inl ⟨by rfl, ?_⟩) (by assumption) ?_
            rotate_left
            · (intro w hSw; (try dsimp only at hSw); go_simp; (try with_reducible rfl))
            (try simp only [Act.put, List.getElem_toArray, List.getElem_cons_zero, List.getElem_cons_succ, List.setIfInBounds_toArray, List.set_cons_zero, List.set_cons_succ])
            refine wpAnyH_ready (rs := [6]) (by kernel_rfl) (by simp) ?_
            refine (AllReadyH.cons rfl (fun K hK => ?_) AllReadyH.nil)
            simp only [List.getElem_toArray, List.getElem_cons_zero, List.getElem_cons_succ]
            have e89 : (Instr.lookup 63 (.map (some W66.heap.size)) (.bool re) false).run Tryd.prog W88 = .ok (.string ⟨LR.toArray⟩) W88 := by rw [look2 _ _ _ _ m88]; rw [HLR.out]; cases re <;> rfl
            go_simp
            clear e89
            refine hK.out _ _ ?_ (fun hHeld => ?_)
            · exact K0.out _ (Blk.kept HA2 k88)
            clear hK K
            (try simp only [Act.put, List.getElem_toArray, List.getElem_cons_zero, List.getElem_cons_succ, List.setIfInBounds_toArray, List.set_cons_zero, List.set_cons_succ])
            refine wpAnyH_take (i := 7) (v := ?_) rfl (by kernel_rfl) (by kernel_rfl) (by kernel_rfl) (fun _ _ _ h => h) (Or.inl ⟨by rfl, ?_⟩) (by assumption) ?_
            rotate_left
            · (intro w hSw; (try dsimp only at hSw); go_simp; (try with_reducible rfl))
            (try simp only [Act.put, List.getElem_toArray, List.getElem_cons_zero, List.getElem_cons_succ, List.setIfInBounds_toArray, List.set_cons_zero, List.set_cons_succ])
            refine wpAnyH_take (i := 8) (v := ?_) rfl (by kernel_rfl) (by kernel_rfl) (by kernel_rfl) (fun _ _ _ h => h) (Or.inl ⟨by rfl, ?_⟩) (by assumption) ?_
            rotate_left
            · (intro w hSw; (try dsimp only at hSw); go_simp; (try with_reducible rfl))
            (try simp only [Act.put, List.getElem_toArray, List.getElem_cons_zero, List.getElem_cons_succ, List.setIfInBounds_toArray, List.set_cons_zero, List.set_cons_succ])
            refine wpAnyH_take (i := 12) (v := ?_) rfl (by kernel_rfl) (by kernel_rfl) (by kernel_rfl) (fun _ _ _ h => h) (Or.inl ⟨by rfl, ?_⟩) (by assumption) ?_
            rotate_left
            · (intro w hSw; (try dsimp only at hSw); go_simp; (try with_reducible rfl))
            (try simp only [Act.put, List.getElem_toArray, List.getElem_cons_zero, List.getElem_cons_succ, List.setIfInBounds_toArray, List.set_cons_zero, List.set_cons_succ])
            refine wpAnyH_take (i := 16) (v := ?_) rfl (by kernel_rfl) (by kernel_rfl) (by kernel_rfl) (fun _ _ _ h => h) (Or.inl ⟨by rfl, ?_⟩) (by assumption) ?_
            rotate_left
            · (intro w hSw; (try dsimp only at hSw); go_simp; (try with_reducible rfl))
            (try simp only [Act.put, List.getElem_toArray, List.getElem_cons_zero, List.getElem_cons_succ, List.setIfInBounds_toArray, List.set_cons_zero, List.set_cons_succ])
            refine wpAnyH_take (i := 20) (v := ?_) rfl (by kernel_rfl) (by kernel_rfl) (by kernel_rfl) (fun _ _ _ h => h) (Or.inl ⟨by rfl, ?_⟩) (by assumption) ?_
            rotate_left
            · (intro w hSw; (try dsimp only at hSw); go_simp; (try with_reducible rfl))
            (try simp only [Act.put, List.getElem_toArray, List.getElem_cons_zero, List.getElem_cons_succ, List.setIfInBounds_toArray, List.set_cons_zero, List.set_cons_succ])
            refine wpAnyH_take (i := 21) (v := ?_) rfl (by kernel_rfl) (by kernel_rfl) (by kernel_rfl) (fun _ _ _ h => h) (Or.inl ⟨by rfl, ?_⟩) (by assumption) ?_
            rotate_left
            · (intro w hSw; (try dsimp only at hSw); go_simp; (try with_reducible rfl))
            (try simp only [Act.put, List.getElem_toArray, List.getElem_cons_zero, List.getElem_cons_succ, List.setIfInBounds_toArray, List.set_cons_zero, List.set_cons_succ])
            refine wpAnyH_done (by kernel_rfl) ?_ _
            refine NoPanic.normal ?_
            exact ⟨rfl, ⟨_, _, _, _, _, _, _, _, _, _, _, _, _, _, _, _, _, _, _, rfl⟩, k88⟩
          ·
            simp only [List.getElem_toArray, List.getElem_cons_zero, List.getElem_cons_succ]
            have e90 : (Instr.mapUpdate 63 (.map (some W66.heap.size)) (.bool false) (.string ⟨#[1]⟩)).run Tryd.prog W86 = .ok () (putB W86 W66.heap.size (.map #[⟨.bool false, .string ⟨#[1]⟩, 0⟩] 1)) := ins0 false _ m86
            have k90 : Below w2.heap.size w2 (putB W86 W66.heap.size (.map #[⟨.bool false, .string ⟨#[1]⟩, 0⟩] 1)) := putB_below _ k86 b67
            have m90 : (putB W86 W66.heap.size (.map #[⟨.bool false, .string ⟨#[1]⟩, 0⟩] 1)).heap[W66.heap.size]? = some (.map #[⟨.bool false, .string ⟨#[1]⟩, 0⟩] 1) := putB_at _ (lt_of_block m86)
            go_simp
            clear e90
            refine hK.out _ _ ?_ (fun hHeld => ?_)
            · exact K0.out _ (Blk.kept HA2 k90)
            clear hK K
            (try simp only [Act.put, List.getElem_toArray, List.getElem_cons_zero, List.getElem_cons_succ, List.setIfInBounds_toArray, List.set_cons_zero, List.set_cons_succ])
            generalize putB W86 W66.heap.size (.map #[⟨.bool false, .string ⟨#[1]⟩, 0⟩] 1) = W90 at *
            refine wpAnyH_ready (rs := [1]) (by kernel_rfl) (by simp) ?_
            refine (AllReadyH.cons rfl (fun K hK => ?_) AllReadyH.nil)
            simp only [List.getElem_toArray, List.getElem_cons_zero, List.getElem_cons_succ]
            have e91 : (Instr.mapUpdate 63 (.map (some W66.heap.size)) (.bool true) (.string ⟨#[2]⟩)).run Tryd.prog W90 = .ok () (putB W90 W66.heap.size (.map #[⟨.bool false, .string ⟨#[1]⟩, 0⟩, ⟨.bool true, .string ⟨#[2]⟩, 1⟩] 2)) := ins1 false _ _ m90
            have k91 : Below w2.heap.size w2 (putB W90 W66.heap.size (.map #[⟨.bool false, .string ⟨#[1]⟩, 0⟩, ⟨.bool true, .string ⟨#[2]⟩, 1⟩] 2)) := putB_below _ k90 b67
            have m91 : (putB W90 W66.heap.size (.map #[⟨.bool false, .string ⟨#[1]⟩, 0⟩, ⟨.bool true, .string ⟨#[2]⟩, 1⟩] 2)).heap[W66.heap.size]? = some (.map #[⟨.bool false, .string ⟨#[1]⟩, 0⟩, ⟨.bool true, .string ⟨#[2]⟩, 1⟩] 2) := putB_at _ (lt_of_block m90)
            go_simp
            clear e91
            refine hK.out _ _ ?_ (fun hHeld => ?_)
            · exact K0.out _ (Blk.kept HA2 k91)
            clear hK K
            (try simp only [Act.put, List.getElem_toArray, List.getElem_cons_zero, List.getElem_cons_succ, List.setIfInBounds_toArray, List.set_cons_zero, List.set_cons_succ])
            generalize putB W90 W66.heap.size (.map #[⟨.bool false, .string ⟨#[1]⟩, 0⟩, ⟨.bool true, .string ⟨#[2]⟩, 1⟩] 2) = W91 at *
            refine wpAnyH_take (i := 3) (v := ?_) rfl (by kernel_rfl) (by kernel_rfl) (by kernel_rfl) (fun _ _ _ h => h) (Or.inl ⟨by rfl, ?_⟩) (by assumption) ?_
            rotate_left
            · (intro w hSw; (try dsimp only at hSw); go_simp; (try with_reducible rfl))
            (try simp only [Act.put, List.getElem_toArray, List.getElem_cons_zero, List.getElem_cons_succ, List.setIfInBounds_toArray, List.set_cons_zero, List.set_cons_succ])
            refine wpAnyH_ready (rs := [6]) (by kernel_rfl) (by simp) ?_
            refine (AllReadyH.cons rfl (fun K hK => ?_) AllReadyH.nil)
            simp only [List.getElem_toArray, List.getElem_cons_zero, List.getElem_cons_succ]
            have e92 : (Instr.lookup 63 (.map (some W66.heap.size)) (.bool re) false).run Tryd.prog W91 = .ok (.string ⟨LR.toArray⟩) W91 := by rw [look2 _ _ _ _ m91]; rw [HLR.out]; cases re <;> rfl
            go_simp
            clear e92
            refine hK.out _ _ ?_ (fun hHeld => ?_)
            · exact K0.out _ (Blk.kept HA2 k91)
            clear hK K
            (try simp only [Act.put, List.getElem_toArray, List.getElem_cons_zero, List.getElem_cons_succ, List.setIfInBounds_toArray, List.set_cons_zero, List.set_cons_succ])
            refine wpAnyH_take (i := 7) (v := ?_) rfl (by kernel_rfl) (by kernel_rfl) (by kernel_rfl) (fun _ _ _ h => h) (Or.inl ⟨by rfl, ?_⟩) (by assumption) ?_
            rotate_left
            · (intro w hSw; (try dsimp only at hSw); go_simp; (try with_reducible rfl))
            (try simp only [Act.put, List.getElem_toArray, List.getElem_cons_zero, List.getElem_cons_succ, List.setIfInBounds_toArray, List.set_cons_zero, List.set_cons_succ])
            refine wpAnyH_take (i := 8) (v := ?_) rfl (by kernel_rfl) (by kernel_rfl) (by kernel_rfl) (fun _ _ _ h => h) (Or.inl ⟨by rfl, ?_⟩) (by assumption) ?_
            rotate_left
            · (intro w hSw; (try dsimp only at hSw); go_simp; (try with_reducible rfl))
            (try simp only [Act.put, List.getElem_toArray, List.getElem_cons_zero, List.getElem_cons_succ, List.setIfInBounds_toArray, List.set_cons_zero, List.set_cons_succ])
            refine wpAnyH_take (i := 12) (v := ?_) rfl (by kernel_rfl) (by kernel_rfl) (by kernel_rfl) (fun _ _ _ h => h) (Or.inl ⟨by rfl, ?_⟩) (by assumption) ?_
            rotate_left
            · (intro w hSw; (try dsimp only at hSw); go_simp; (try with_reducible rfl))
            (try simp only [Act.put, List.getElem_toArray, List.getElem_cons_zero, List.getElem_cons_succ, List.setIfInBounds_toArray, List.set_cons_zero, List.set_cons_succ])
            refine wpAnyH_take (i := 16) (v := ?_) rfl (by kernel_rfl) (by kernel_rfl) (by kernel_rfl) (fun _ _ _ h => h) (Or.inl ⟨by rfl, ?_⟩) (by assumption) ?_
            rotate_left
            · (intro w hSw; (try dsimp only at hSw); go_simp; (try with_reducible rfl))
            (try simp only [Act.put, List.getElem_toArray, List.getElem_cons_zero, List.getElem_cons_succ, List.setIfInBounds_toArray, List.set_cons_zero, List.set_cons_succ])
            refine wpAnyH_take (i := 20) (v := ?_) rfl (by kernel_rfl) (by kernel_rfl) (by kernel_rfl) (fun _ _ _ h => h) (Or.inl ⟨by rfl, ?_⟩) (by assumption) ?_
            rotate_left
            · (intro w hSw; (try dsimp only at hSw); go_simp; (try with_reducible rfl))
            (try simp only [Act.put, List.getElem_toArray, List.getElem_cons_zero, List.getElem_cons_succ, List.setIfInBounds_toArray, List.set_cons_zero, List.set_cons_succ])
            refine wpAnyH_take (i := 21) (v := ?_) rfl (by kernel_rfl) (by kernel_rfl) (by kernel_rfl) (fun _ _ _ h => h) (Or.inl ⟨by rfl, ?_⟩) (by assumption) ?_
            rotate_left
            · (intro w hSw; (try dsimp only at hSw); go_simp; (try with_reducible rfl))
            (try simp only [Act.put, List.getElem_toArray, List.getElem_cons_zero, List.getElem_cons_succ, List.setIfInBounds_toArray, List.set_cons_zero, List.set_cons_succ])
            refine wpAnyH_done (by kernel_rfl) ?_ _
            refine NoPanic.normal ?_
            exact ⟨rfl, ⟨_, _, _, _, _, _, _, _, _, _, _, _, _, _, _, _, _, _, _, rfl⟩, k91⟩
      ·
        simp only [List.getElem_toArray, List.getElem_cons_zero, List.getElem_cons_succ]
        go_simp
        go_at_call 24
        with_reducible refine (HBT.out _).mono ?_
        rintro e W93 ⟨rfl, q93⟩
        have k93 : Below w2.heap.size w2 W93 := Below.trans k66 (Below.mono q93 (Below.size k66))
        refine hK.out _ _ ?_ (fun hHeld => ?_)
        · exact K0.out _ (Blk.kept HA2 k93)
        clear hK K
        (try simp only [Act.put, List.getElem_toArray, List.getElem_cons_zero, List.getElem_cons_succ, List.setIfInBounds_toArray, List.set_cons_zero, List.set_cons_succ])
        refine wpAnyH_ready (rs := [0]) (by kernel_rfl) (by simp) ?_
        refine (AllReadyH.cons rfl (fun K hK => ?_) AllReadyH.nil)
        simp only [List.getElem_toArray, List.getElem_cons_zero, List.getElem_cons_succ]
        have k94 : Below w2.heap.size w2 (W93.alloc (.map #[] 0)) := Below.alloc k93 k93.size _
        have m94 : (W93.alloc (.map #[] 0)).heap[W93.heap.size]? = some (.map #[] 0) := heap_alloc_new _ _
        have b94 : w2.heap.size ≤ W93.heap.size := Below.size k93
        go_simp
        refine hK.out _ _ ?_ (fun hHeld => ?_)
        · exact K0.out _ (Blk.kept HA2 k94)
        clear hK K
        (try simp only [Act.put, List.getElem_toArray, List.getElem_cons_zero, List.getElem_cons_succ, List.setIfInBounds_toArray, List.set_cons_zero, List.set_cons_succ])
        generalize W93.alloc (.map #[] 0) = W94 at *
        refine wpAnyH_ready (rs := [1, 2]) (by kernel_rfl) (by simp) ?_
        refine (AllReadyH.cons rfl (fun K hK => ?_) (AllReadyH.cons rfl (fun K hK => ?_) AllReadyH.nil))
        ·
          simp only [List.getElem_toArray, List.getElem_cons_zero, List.getElem_cons_succ]
          have e95 : (Instr.mapUpdate 63 (.map (some W93.heap.size)) (.bool true) (.string ⟨#[2]⟩)).run Tryd.prog W94 = .ok () (putB W94 W93.heap.size (.map #[⟨.bool true, .string ⟨#[2]⟩, 0⟩] 1)) := ins0 true _ m94
          have k95 : Below w2.heap.size w2 (putB W94 W93.heap.size (.map #[⟨.bool true, .string ⟨#[2]⟩, 0⟩] 1)) := putB_below _ k94 b94
          have m95 : (putB W94 W93.heap.size (.map #[⟨.bool true, .string ⟨#[2]⟩, 0⟩] 1)).heap[W93.heap.size]? = some (.map #[⟨.bool true, .string ⟨#[2]⟩, 0⟩] 1) := putB_at _ (lt_of_block m94)
          go_simp
          clear e95
          refine hK.out _ _ ?_ (fun hHeld => ?_)
          · exact K0.out _ (Blk.kept HA2 k95)
          clear hK K
          (try simp only [Act.put, List.getElem_toArray, List.getElem_cons_zero, List.getElem_cons_succ, List.setIfInBounds_toArray, List.set_cons_zero, List.set_cons_succ])
          generalize putB W94 W93.heap.size (.map #[⟨.bool true, .string ⟨#[2]⟩, 0⟩] 1) = W95 at *
          refine wpAnyH_ready (rs := [2]) (by kernel_rfl) (by simp) ?_
          refine (AllReadyH.cons rfl (fun K hK => ?_) AllReadyH.nil)
          simp only [List.getElem_toArray, List.getElem_cons_zero, List.getElem_cons_succ]
          have e96 : (Instr.mapUpdate 63 (.map (some W93.heap.size)) (.bool false) (.string ⟨#[1]⟩)).run Tryd.prog W95 = .ok () (putB W95 W93.heap.size (.map #[⟨.bool true, .string ⟨#[2]⟩, 0⟩, ⟨.bool false, .string ⟨#[1]⟩, 1⟩] 2)) := ins1 true _ _ m95
          have k96 : Below w2.heap.size w2 (putB W95 W93.heap.size (.map #[⟨.bool true, .string ⟨#[2]⟩, 0⟩, ⟨.bool false, .string ⟨#[1]⟩, 1⟩] 2)) := putB_below _ k95 b94
          have m96 : (putB W95 W93.heap.size (.map #[⟨.bool true, .string ⟨#[2]⟩, 0⟩, ⟨.bool false, .string ⟨#[1]⟩, 1⟩] 2)).heap[W93.heap.size]? = some (.map #[⟨.bool true, .string ⟨#[2]⟩, 0⟩, ⟨.bool false, .string ⟨#[1]⟩, 1⟩] 2) := putB_at _ (lt_of_block m95)
          go_simp
          clear e96
          refine hK.out _ _ ?_ (fun hHeld => ?_)
          · exact K0.out _ (Blk.kept HA2 k96)
          clear hK K
          (try simp only [Act.put, List.getElem_toArray, List.getElem_cons_zero, List.getElem_cons_succ, List.setIfInBounds_toArray, List.set_cons_zero, List.set_cons_succ])
          generalize putB W95 W93.heap.size (.map #[⟨.bool true, .string ⟨#[2]⟩, 0⟩, ⟨.bool false, .string ⟨#[1]⟩, 1⟩] 2) = W96 at *
          refine wpAnyH_take (i := 3) (v := ?_) rfl (by kernel_rfl) (by kernel_rfl) (by kernel_rfl) (fun _ _ _ h => h) (Or.inl ⟨by rfl, ?_⟩) (by assumption) ?_
          rotate_left
          · (intro w hSw; (try dsimp only at hSw); go_simp; (try with_reducible rfl))
          (try simp only [Act.put, List.getElem_toArray, List.getElem_cons_zero, List.getElem_cons_succ, List.setIfInBounds_toArray, List.set_cons_zero, List.set_cons_succ])
          refine wpAnyH_ready (rs := [6]) (by kernel_rfl) (by simp) ?_
          refine (AllReadyH.cons rfl (fun K hK => ?_) AllReadyH.nil)
          simp only [List.getElem_toArray, List.getElem_cons_zero, List.getElem_cons_succ]
          have e97 : (Instr.lookup 63 (.map (some W93.heap.size)) (.bool re) false).run Tryd.prog W96 = .ok (.string ⟨LR.toArray⟩) W96 := by rw [look2 _ _ _ _ m96]; rw [HLR.out]; cases re <;> rfl
          go_simp
          clear e97
          refine hK.out _ _ ?_ (fun hHeld => ?_)
          · exact K0.out _ (Blk.kept HA2 k96)
          clear hK K
          (try simp only [Act.put, List.getElem_toArray, List.getElem_cons_zero, List.getElem_cons_succ, List.setIfInBounds_toArray, List.set_cons_zero, List.set_cons_succ])
          refine wpAnyH_take (i := 7) (v := ?_) rfl (by kernel_rfl) (by kernel_rfl) (by kernel_rfl) (fun _ _ _ h => h) (Or.inl ⟨by rfl, ?_⟩) (by assumption) ?_
          rotate_left
          · (intro w hSw; (try dsimp only at hSw); go_simp; (try with_reducible rfl))
          (try simp only [Act.put, List.getElem_toArray, List.getElem_cons_zero, List.getElem_cons_succ, List.setIfInBounds_toArray, List.set_cons_zero, List.set_cons_succ])
          refine wpAnyH_take (i := 8) (v := ?_) rfl (by kernel_rfl) (by kernel_rfl) (by kernel_rfl) (fun _ _ _ h => h) (Or.inl ⟨by rfl, ?_⟩) (by assumption) ?_
          rotate_left
          · (intro w hSw; (try dsimp only at hSw); go_simp; (try with_reducible rfl))
          (try simp only [Act.put, List.getElem_toArray, List.getElem_cons_zero, List.getElem_cons_succ, List.setIfInBounds_toArray, List.set_cons_zero, List.set_cons_succ])
          refine wpAnyH_take (i := 12) (v := ?_) rfl (by kernel_rfl) (by kernel_rfl) (by kernel_rfl) (fun _ _ _ h => h) (Or.inl ⟨by rfl, ?_⟩) (by assumption) ?_
          rotate_left
          · (intro w hSw; (try dsimp only at hSw); go_simp; (try with_reducible rfl))
          (try simp only [Act.put, List.getElem_toArray, List.getElem_cons_zero, List.getElem_cons_succ, List.setIfInBounds_toArray, List.set_cons_zero, List.set_cons_succ])
          refine wpAnyH_take (i := 16) (v := ?_) rfl (by kernel_rfl) (by kernel_rfl) (by kernel_rfl) (fun _ _ _ h => h) (Or.inl ⟨by rfl, ?_⟩) (by assumption) ?_
          rotate_left
          · (intro w hSw; (try dsimp only at hSw); go_simp; (try with_reducible rfl))
          (try simp only [Act.put, List.getElem_toArray, List.getElem_cons_zero, List.getElem_cons_succ, List.setIfInBounds_toArray, List.set_cons_zero, List.set_cons_succ])
          refine wpAnyH_take (i := 20) (v := ?_) rfl (by kernel_rfl) (by kernel_rfl) (by kernel_rfl) (fun _ _ _ h => h) (Or.inl ⟨by rfl, ?_⟩) (by assumption) ?_
          rotate_left
          · (intro w hSw; (try dsimp only at hSw); go_simp; (try with_reducible rfl))
          (try simp only [Act.put, List.getElem_toArray, List.getElem_cons_zero, List.getElem_cons_succ, List.setIfInBounds_toArray, List.set_cons_zero, List.set_cons_succ])
          refine wpAnyH_take (i := 21) (v := ?_) rfl (by kernel_rfl) (by kernel_rfl) (by kernel_rfl) (fun _ _ _ h => h) (Or.inl ⟨by rfl, ?_⟩) (by assumption) ?_
          rotate_left
          · (intro w hSw; (try dsimp only at hSw); go_simp; (try with_reducible rfl))
          (try simp only [Act.put, List.getElem_toArray, List.getElem_cons_zero, List.getElem_cons_succ, List.setIfInBounds_toArray, List.set_cons_zero, List.set_cons_succ])
          refine wpAnyH_done (by kernel_rfl) ?_ _
          refine NoPanic.normal ?_
          exact ⟨rfl, ⟨_, _, _, _, _, _, _, _, _, _, _, _, _, _, _, _, _, _, _, rfl⟩, k96⟩
        ·
          simp only [List.getElem_toArray, List.getElem_cons_zero, List.getElem_cons_succ]
          have e98 : (Instr.mapUpdate 63 (.map (some W93.heap.size)) (.bool false) (.string ⟨#[1]⟩)).run Tryd.prog W94 = .ok () (putB W94 W93.heap.size (.map #[⟨.bool false, .string ⟨#[1]⟩, 0⟩] 1)) := ins0 false _ m94
          have k98 : Below w2.heap.size w2 (putB W94 W93.heap.size (.map #[⟨.bool false, .string ⟨#[1]⟩, 0⟩] 1)) := putB_below _ k94 b94
          have m98 : (putB W94 W93.heap.size (.map #[⟨.bool false, .string ⟨#[1]⟩, 0⟩] 1)).heap[W93.heap.size]? = some (.map #[⟨.bool false, .string ⟨#[1]⟩, 0⟩] 1) := putB_at _ (lt_of_block m94)
          go_simp
          clear e98
          refine hK.out _ _ ?_ (fun hHeld => ?_)
          · exact K0.out _ (Blk.kept HA2 k98)
          clear hK K
          (try simp only [Act.put, List.getElem_toArray, List.getElem_cons_zero, List.getElem_cons_succ, List.setIfInBounds_toArray, List.set_cons_zero, List.set_cons_succ])
          generalize putB W94 W93.heap.size (.map #[⟨.bool false, .string ⟨#[1]⟩, 0⟩] 1) = W98 at *
          refine wpAnyH_ready (rs := [1]) (by kernel_rfl) (by simp) ?_
          refine (AllReadyH.cons rfl (fun K hK => ?_) AllReadyH.nil)
          simp only [List.getElem_toArray, List.getElem_cons_zero, List.getElem_cons_succ]
          have e99 : (Instr.mapUpdate 63 (.map (some W93.heap.size)) (.bool true) (.string ⟨#[2]⟩)).run Tryd.prog W98 = .ok () (putB W98 W93.heap.size (.map #[⟨.bool false, .string ⟨#[1]⟩, 0⟩, ⟨.bool true, .string ⟨#[2]⟩, 1⟩] 2)) := ins1 false _ _ m98
          have k99 : Below w2.heap.size w2 (putB W98 W93.heap.size (.map #[⟨.bool false, .string ⟨#[1]⟩, 0⟩, ⟨.bool true, .string ⟨#[2]⟩, 1⟩] 2)) := putB_below _ k98 b94
          have m99 : (putB W98 W93.heap.size (.map #[⟨.bool false, .string ⟨#[1]⟩, 0⟩, ⟨.bool true, .string ⟨#[2]⟩, 1⟩] 2)).heap[W93.heap.size]? = some (.map #[⟨.bool false, .string ⟨#[1]⟩, 0⟩, ⟨.bool true, .string ⟨#[2]⟩, 1⟩] 2) := putB_at _ (lt_of_block m98)
          go_simp
          clear e99
          refine hK.out _ _ ?_ (fun hHeld => ?_)
          · exact K0.out _ (Blk.kept HA2 k99)
          clear hK K
          (try simp only [Act.put, List.getElem_toArray, List.getElem_cons_zero, List.getElem_cons_succ, List.setIfInBounds_toArray, List.set_cons_zero, List.set_cons_succ])
          generalize putB W98 W93.heap.size (.map #[⟨.bool false, .string ⟨#[1]⟩, 0⟩, ⟨.bool true, .string ⟨#[2]⟩, 1⟩] 2) = W99 at *
          refine wpAnyH_take (i := 3) (v := ?_) rfl (by kernel_rfl) (by kernel_rfl) (by kernel_rfl) (fun _ _ _ h => h) (Or.inl ⟨by rfl, ?_⟩) (by assumption) ?_
          rotate_left
          · (intro w hSw; (try dsimp only at hSw); go_simp; (try with_reducible rfl))
          (try simp only [Act.put, List.getElem_toArray, List.getElem_cons_zero, List.getElem_cons_succ, List.setIfInBounds_toArray, List.set_cons_zero, List.set_cons_succ])
          refine wpAnyH_ready (rs := [6]) (by kernel_rfl) (by simp) ?_
          refine (AllReadyH.cons rfl (fun K hK => ?_) AllReadyH.nil)
          simp only [List.getElem_toArray, List.getElem_cons_zero, List.getElem_cons_succ]
          have e100 : (Instr.lookup 63 (.map (some W93.heap.size)) (.bool re) false).run Tryd.prog W99 = .ok (.string ⟨LR.toArray⟩) W99 := by rw [look2 _ _ _ _ m99]; rw [HLR.out]; cases re <;> rfl
          go_simp
          clear e100
          refine hK.out _ _ ?_ (fun hHeld => ?_)
          · exact K0.out _ (Blk.kept HA2 k99)
          clear hK K
          (try simp only [Act.put, List.getElem_toArray, List.getElem_cons_zero, List.getElem_cons_succ, List.setIfInBounds_toArray, List.set_cons_zero, List.set_cons_succ])
          refine wpAnyH_take (i := 7) (v := ?_) rfl (by kernel_rfl) (by kernel_rfl) (by kernel_rfl) (fun _ _ _ h => h) (Or.inl ⟨by rfl, ?_⟩) (by assumption) ?_
          rotate_left
          · (intro w hSw; (try dsimp only at hSw); go_simp; (try with_reducible rfl))
          (try simp only [Act.put, List.getElem_toArray, List.getElem_cons_zero, List.getElem_cons_succ, List.setIfInBounds_toArray, List.set_cons_zero, List.set_cons_succ])
          refine wpAnyH_take (i := 8) (v := ?_) rfl (by kernel_rfl) (by kernel_rfl) (by kernel_rfl) (fun _ _ _ h => h) (Or.inl ⟨by rfl, ?_⟩) (by assumption) ?_
          rotate_left
          · (intro w hSw; (try dsimp only at hSw); go_simp; (try with_reducible rfl))
          (try simp only [Act.put, List.getElem_toArray, List.getElem_cons_zero, List.getElem_cons_succ, List.setIfInBounds_toArray, List.set_cons_zero, List.set_cons_succ])
          refine wpAnyH_take (i := 12) (v := ?_) rfl (by kernel_rfl) (by kernel_rfl) (by kernel_rfl) (fun _ _ _ h => h) (Or.inl ⟨by rfl, ?_⟩) (by assumption) ?_
          rotate_left
          · (intro w hSw; (try dsimp only at hSw); go_simp; (try with_reducible rfl))
          (try simp only [Act.put, List.getElem_toArray, List.getElem_cons_zero, List.getElem_cons_succ, List.setIfInBounds_toArray, List.set_cons_zero, List.set_cons_succ])
          refine wpAnyH_take (i := 16) (v := ?_) rfl (by kernel_rfl) (by kernel_rfl) (by kernel_rfl) (fun _ _ _ h => h) (Or.inl ⟨by rfl, ?_⟩) (by assumption) ?_
          rotate_left
          · (intro w hSw; (try dsimp only at hSw); go_simp; (try with_reducible rfl))
          (try simp only [Act.put, List.getElem_toArray, List.getElem_cons_zero, List.getElem_cons_succ, List.setIfInBounds_toArray, List.set_cons_zero, List.set_cons_succ])
          refine wpAnyH_take (i := 20) (v := ?_) rfl (by kernel_rfl) (by kernel_rfl) (by kernel_rfl) (fun _ _ _ h => h) (Or.inl ⟨by rfl, ?_⟩) (by assumption) ?_
          rotate_left
          · (intro w hSw; (try dsimp only at hSw); go_simp; (try with_reducible rfl))
          (try simp only [Act.put, List.getElem_toArray, List.getElem_cons_zero, List.getElem_cons_succ, List.setIfInBounds_toArray, List.set_cons_zero, List.set_cons_succ])
          refine wpAnyH_take (i := 21) (v := ?_) rfl (by kernel_rfl) (by kernel_rfl) (by kernel_rfl) (fun _ _ _ h => h) (Or.inl ⟨by rfl, ?_⟩) (by assumption) ?_
          rotate_left
          · (intro w hSw; (try dsimp only at hSw); go_simp; (try with_reducible rfl))
          (try simp only [Act.put, List.getElem_toArray, List.getElem_cons_zero, List.getElem_cons_succ, List.setIfInBounds_toArray, List.set_cons_zero, List.set_cons_succ])
          refine wpAnyH_done (by kernel_rfl) ?_ _
          refine NoPanic.normal ?_
          exact ⟨rfl, ⟨_, _, _, _, _, _, _, _, _, _, _, _, _, _, _, _, _, _, _, rfl⟩, k99⟩
  rintro e a w3 ⟨rfl, ⟨u8, u9, u10, u11, u12, u13, u14, u15, u16, u17, u18, u19, u20, u21, u22, u23, u24, u25, u26, rfl⟩, k3⟩
  have B3 := B2.trans (k3.mono B2.size)
  clear HA2 B2 k3 hmm
  go_wp2_with fail
  go_loopw [4] (fun s wz => ∃ (j : Nat) (t : ByteArray), j ≤ 94 ∧ s = .string t ∧ Hid (t = ⟨(y5 ++ List.replicate j 0).toArray⟩) ∧ Hid (t.size = 16 + j) ∧ Below w.heap.size w wz) (fun s _ => match s with | .string t => 110 - t.size | _ => 0)
  case atStart => exact ⟨0, ⟨y5.toArray⟩, by omega, rfl, by show _ = _; simp, by show y5.toArray.size = _; rw [List.size_toArray, HLS.out], B3⟩
  case round =>
    clear B3
    obtain ⟨j, t, hj, rfl, ht, hts, Bz⟩ := hrel
    have hsz := hts.out
    by_cases hlt : j < 94
    · have d1 : decide ((t.size : Int) < 110) = true := decide_eq_true (by omega)
      obtain ⟨t2, ht2⟩ : ∃ t2 : ByteArray, t2 = ⟨(y5 ++ List.replicate (j + 1) 0).toArray⟩ := ⟨_, rfl⟩
      have p1 : ∀ W, (Op.stringOp .add t ⟨#[0]⟩).run Tryd.prog W = .ok (.string t2) W := fun W => by rw [ht.out, ht2]; exact HP.out j (by omega) W
      have z2 : t2.size = 16 + (j + 1) := by rw [ht2]; show (y5 ++ List.replicate (j + 1) 0).toArray.size = _; rw [List.size_toArray, List.length_append, List.length_replicate, HLS.out]
      have HT2 := Lib.hid ht2
      have HZ2 := Lib.hid z2
      clear ht2 hsz
      go_wp2
      go_roundw
      case rel => exact ⟨j + 1, t2, by omega, rfl, HT2, HZ2, Bz⟩
      case measure =>
        have := hts.out
        show 110 - t2.size < 110 - t.size
        omega
    · obtain rfl : j = 94 := by omega
      have d1 : decide ((t.size : Int) < 110) = false := decide_eq_false (by omega)
      have e1 : Hid (t = ⟨(mkL m).toArray⟩) := by show _ = _; rw [ht.out, HL.out]
      clear hsz
      go_wp2
      go_ret2
      exact ⟨by rw [e1.out]; rfl, Bz⟩

end Go.Proofs.YtocgnbbnaamjjaaDoor
