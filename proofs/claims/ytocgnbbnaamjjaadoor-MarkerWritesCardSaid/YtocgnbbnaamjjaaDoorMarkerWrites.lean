/- switchyardlaw.MarkerWrites: every marker, written by the program and by the document, and its answer: true, and what was there is as it was. -/
import Derived.Test.YtocgnbbnaamjjaaDoorMkWrite
import Derived.Test.YtocgnbbnaamjjaaDoorLcRead
import Derived.Test.YtocgnbbnaamjjaaDoorRefMkWrite
import Derived.Test.YtocgnbbnaamjjaaDoorBare
namespace Go.Proofs.YtocgnbbnaamjjaaDoor.markerWrites
open Go.RowKit
attribute [local go_sem ↓] Go.wp_at_zero Go.wp_at_succ
set_option linter.unusedSimpArgs false
set_option linter.unusedVariables false
set_option maxRecDepth 100000

theorem exec_same_mk (X : Mk) {a : Act} {op : Oper} {w : World} {x y : Operand} {ty : TypeId} (ho : op.op = .binOp .eql 38 x y ty) (hx : a.eval x = .agg (mkC X)) (hy : a.eval y = .agg (mkC X)) (h : (Op.equalIn 10000 38 (.agg (mkC X)) (.agg (mkC X))).run Tryd.prog w = .ok true w) :
    (execOp a.eval op).run Tryd.prog w = .ok (.value (.bool true)) w := by
  have q := exec_eq_agg (P := Tryd.prog) .eql 38 (mkC X) (mkC X) true ho (Or.inl rfl) hx hy (by kernel_rfl) h
  simpa using q

set_option maxHeartbeats 12800000 in
theorem walk_ask (m : Mk) (w : World) (L : ByteArray) (er : Value) (e1 : Int) (R : Bool) (X : Mk) (hX : X = ⟨true, m.po, m.sy, m.tx⟩) (hE : HasErr w) (hre : m.re = false)
    (HV : Hid (∀ W, Calls Tryd.prog 14 #[.agg (mkC m)] W fun e w' => e = .returned (.tuple #[.string L, .int .i64 e1]) ∧ Below W.heap.size W w'))
    (HW : Hid (∀ W, Calls Tryd.prog 15 #[.agg (mkC m)] W fun e w' => e = .returned (.tuple #[.string L, er]) ∧ Below W.heap.size W w'))
    (HN : Hid (∀ W, Calls Tryd.prog 16 #[.agg (mkC m)] W fun e w' => e = .returned (.tuple #[.agg (mkC X), .nilIface]) ∧ Below W.heap.size W w'))
    (HR : Hid (∀ W, Calls Tryd.prog 17 #[.agg (mkC m)] W fun e w' => e = .returned (.bool R) ∧ Below W.heap.size W w'))
    (HRR : Hid (∀ W, Calls Tryd.prog 18 #[.agg (mkC m)] W fun e w' => e = .returned (.bool R) ∧ Below W.heap.size W w')) (hb : Bare er e1) :
    Calls Tryd.prog 4 #[.agg (mkC m)] w fun e w' => e = .returned (.bool true) ∧ Below w.heap.size w w' := by
  have HB1 : Hid (∀ W, HasErr W → Calls Tryd.prog 11 #[er, .int .i64 e1] W fun e w' => e = .returned (.bool true) ∧ Below W.heap.size W w') := hb
  have HB2 : Hid (∀ W, HasErr W → Calls Tryd.prog 11 #[.nilIface, .int .i64 0] W fun e w' => e = .returned (.bool true) ∧ Below W.heap.size W w') := Bare.none
  have hq : (L.toList == L.toList) = true := by simp
  have hq2 : (R == R) = true := by simp
  have HQ := Lib.hid (run_eqv_mk X X (eqvMk.refl _))
  have HRE : Hid (∀ W : World, Blk W w.heap.size 38 (mkC m) → W.cell? ⟨w.heap.size, 0, none⟩ = some (.bool false)) := fun W h => by rw [← hre]; exact h.c 0
  have HX := Lib.hid hX
  clear hre hX
  have HA := Blk.new w 38 (mkC m)
  have B0 : Below w.heap.size w (w.alloc (.cells (mkC m) 38)) := (Below.refl _ _).alloc (Nat.le_refl _) _
  go_enter Tryd.func4, Tryd.ntmps4
  go_upto_region 1 with (fail)
  generalize (w.alloc (.cells (mkC m) 38)) = w1 at *
  go_wp2_with (refine load_blk (k := 0) 38 (mkC m) (by rfl) rfl rfl HA (by kernel_rfl) (by kernel_rfl) rfl ?_)
  refine (HV.out _).mono ?_
  rintro e w2 ⟨rfl, k2⟩
  have HA2 := HA.kept k2
  have B2 := B0.trans (k2.mono B0.size)
  clear HA B0 k2
  go_wp2_with (refine load_blk (k := 0) 38 (mkC m) (by rfl) rfl rfl HA2 (by kernel_rfl) (by kernel_rfl) rfl ?_)
  refine (HW.out _).mono ?_
  rintro e w3 ⟨rfl, k3⟩
  have HA3 := HA2.kept k3
  have B3 := B2.trans (k3.mono B2.size)
  clear HA2 B2 k3
  go_wp2_with (refine load_blk (k := 0) 38 (mkC m) (by rfl) rfl rfl HA3 (by kernel_rfl) (by kernel_rfl) rfl ?_)
  refine (HN.out _).mono ?_
  rintro e w4 ⟨rfl, k4⟩
  have HA4 := HA3.kept k4
  have B4 := B3.trans (k4.mono B3.size)
  have hA4 : w.heap.size < w4.heap.size := HA4.lt
  clear HA3 B3 k4
  go_upto_region 4 with (first
    | (refine alloc_blk 38 (mkC zMk) (by rfl) rfl Tryd.mkZero ?_)
    | (refine store_blk (k := 0) 38 (.agg (mkC X)) (mkC X) (by rfl) rfl rfl rfl (Blk.new w4 _ _) (by kernel_rfl) (show (9 : Nat) ≤ 9 from Nat.le_refl 9) (by rfl) (st_wholeL _ _ rfl) ?_; intro w5 HVw5 bw5 gw5; have HA5 := (HA4.alloc (.cells (mkC zMk) 38)).below bw5 hA4; have B5 := (B4.alloc B4.size (.cells (mkC zMk) 38)).trans (bw5.mono B4.size)))
  (try simp only [Act.put, List.setIfInBounds_toArray, List.set_cons_zero, List.set_cons_succ])
  clear HA4 B4 bw5 gw5 hA4
  generalize w4.heap.size = P at *
  have hP5 : P < w5.heap.size := HVw5.lt
  have hA5 : w.heap.size < w5.heap.size := HA5.lt
  go_upto_region 5 with (first
    | (refine build_blk (t := 38) (mkC zMk) (by rfl) rfl (by kernel_rfl) ?_)
    | (refine alloc_blk 38 (mkC zMk) (by rfl) rfl Tryd.mkZero ?_)
    | (refine store_blk (k := 0) 38 (.agg (mkC zMk)) (mkC zMk) (by rfl) rfl rfl rfl (Blk.new w5 _ _) (by kernel_rfl) (show (9 : Nat) ≤ 9 from Nat.le_refl 9) (by rfl) (st_wholeL _ _ rfl) ?_; intro w6 HVw6 bw6 gw6; have HA6 := (HA5.alloc (.cells (mkC zMk) 38)).below bw6 hA5; have HP6 := (HVw5.alloc (.cells (mkC zMk) 38)).below bw6 hP5; have B6 := (B5.alloc B5.size (.cells (mkC zMk) 38)).trans (bw6.mono B5.size)))
  (try simp only [Act.put, List.setIfInBounds_toArray, List.set_cons_zero, List.set_cons_succ])
  clear HA5 HVw5 B5 bw6 gw6
  generalize w5.heap.size = V at *
  have c0 := HRE.out _ HA6
  have c1 := HA6.cv 1 (.int .i64 m.po) rfl
  have c8 := HA6.cv 8 (.int .i64 m.tx) rfl
  go_wp2_with (first
    | (refine load_blk (k := 2) 23 (c6 m.sy) (by rfl) rfl rfl HA6 (by kernel_rfl) (by kernel_rfl) rfl ?_)
    | (refine build_blk (t := 38) (mkC ⟨true, m.po, m.sy, m.tx⟩) (by rfl) rfl (by kernel_rfl) ?_)
    | (refine store_blk (k := 0) 38 (.agg (mkC ⟨true, m.po, m.sy, m.tx⟩)) (mkC ⟨true, m.po, m.sy, m.tx⟩) (by rfl) rfl rfl rfl HVw6 (by kernel_rfl) (show (9 : Nat) ≤ 9 from Nat.le_refl 9) (by rfl) (st_wholeL _ _ rfl) ?_; intro w7 HVw7 bw7 gw7; have HA7 := HA6.grown gw7 (by simp; omega); have HP7 := HP6.grown gw7 (by simp; omega); have B7 := B6.trans (bw7.mono (by omega))))
  rw [← HX.out] at HVw7
  clear HA6 HP6 B6 HVw6 c0 c1 c8
  refine wp_region_noPanic ?_
  refine wp_region_held_drew (S := fun w' => Blk w' w.heap.size 38 (mkC m) ∧ Blk w' P 38 (mkC X) ∧ Blk w' V 38 (mkC X)) (by kernel_rfl) ?_ (fun hHeld => ?_)
  · exact ⟨HA7, HP7, HVw7⟩
  refine wpAnyH_take (i := 0) (v := ?_) rfl (by kernel_rfl) (by kernel_rfl) (by kernel_rfl) (fun _ _ _ h => h) (Or.inl ⟨by rfl, ?_⟩) (by assumption) ?_
  rotate_left
  · (intro w hSw; (try dsimp only at hSw); go_simp; (try with_reducible rfl))
  (try simp only [Act.put, List.getElem_toArray, List.getElem_cons_zero, List.getElem_cons_succ, List.setIfInBounds_toArray, List.set_cons_zero, List.set_cons_succ])
  refine wpAnyH_take (i := 1) (v := ?_) rfl (by kernel_rfl) (by kernel_rfl) (by kernel_rfl) (fun _ _ _ h => h) (Or.inl ⟨by rfl, ?_⟩) (by assumption) ?_
  rotate_left
  · (intro w hSw; (try dsimp only at hSw); go_simp; (try with_reducible rfl))
  (try simp only [Act.put, List.getElem_toArray, List.getElem_cons_zero, List.getElem_cons_succ, List.setIfInBounds_toArray, List.set_cons_zero, List.set_cons_succ])
  refine wpAnyH_ready (rs := [2]) (by kernel_rfl) (by simp) ?_
  refine AllReadyH.cons rfl (fun K hK => ?_) AllReadyH.nil
  simp only [List.getElem_toArray, List.getElem_cons_zero, List.getElem_cons_succ]
  go_simp
  go_at_call 11; (with_reducible refine (HB1.out _ (hE.below B7.drew)).mono ?_); rintro e w8 ⟨rfl, k8⟩; have HA8 := HA7.drew.kept k8; have HP8 := HP7.drew.kept k8; have HV8 := HVw7.drew.kept k8; have B8 := B7.drew.trans (k8.mono B7.drew.size)
  refine hK.out _ _ ?_ (fun hHeld => ?_)
  · exact ⟨HA8, HP8, HV8⟩
  clear hK K
  (try simp only [Act.put, List.getElem_toArray, List.getElem_cons_zero, List.getElem_cons_succ, List.setIfInBounds_toArray, List.set_cons_zero, List.set_cons_succ])
  refine wpAnyH_take (i := 3) (v := ?_) rfl (by kernel_rfl) (by kernel_rfl) (by kernel_rfl) (fun _ _ _ h => h) (Or.inl ⟨by rfl, ?_⟩) (by assumption) ?_
  rotate_left
  · (intro w hSw; (try dsimp only at hSw); go_simp; (try with_reducible rfl))
  (try simp only [Act.put, List.getElem_toArray, List.getElem_cons_zero, List.getElem_cons_succ, List.setIfInBounds_toArray, List.set_cons_zero, List.set_cons_succ])
  refine wpAnyH_take (i := 4) (v := ?_) rfl (by kernel_rfl) (by kernel_rfl) (by kernel_rfl) (fun _ _ _ h => h) (Or.inl ⟨by rfl, ?_⟩) (by assumption) ?_
  rotate_left
  · (intro w hSw; (try dsimp only at hSw); go_simp; (try with_reducible rfl))
  (try simp only [Act.put, List.getElem_toArray, List.getElem_cons_zero, List.getElem_cons_succ, List.setIfInBounds_toArray, List.set_cons_zero, List.set_cons_succ])
  refine wpAnyH_take (i := 5) (v := ?_) rfl (by kernel_rfl) (by kernel_rfl) (by kernel_rfl) (fun _ _ _ h => h) (Or.inl ⟨by rfl, ?_⟩) (by assumption) ?_
  rotate_left
  · (intro w hSw; (try dsimp only at hSw); go_simp; (try with_reducible rfl))
  (try simp only [Act.put, List.getElem_toArray, List.getElem_cons_zero, List.getElem_cons_succ, List.setIfInBounds_toArray, List.set_cons_zero, List.set_cons_succ])
  refine wpAnyH_take (i := 6) (v := ?_) rfl (by kernel_rfl) (by kernel_rfl) (by kernel_rfl) (fun _ _ _ h => h) (Or.inl ⟨by rfl, ?_⟩) (by assumption) ?_
  rotate_left
  · (intro w hSw; (try dsimp only at hSw); go_simp; (try with_reducible rfl))
  (try simp only [Act.put, List.getElem_toArray, List.getElem_cons_zero, List.getElem_cons_succ, List.setIfInBounds_toArray, List.set_cons_zero, List.set_cons_succ])
  refine wpAnyH_take (i := 7) (v := ?_) rfl (by kernel_rfl) (by kernel_rfl) (by kernel_rfl) (fun _ _ _ h => h) (Or.inl ⟨by rfl, ?_⟩) (by assumption) ?_
  rotate_left
  · (intro w hSw; (try dsimp only at hSw); go_simp; (try with_reducible rfl))
  (try simp only [Act.put, List.getElem_toArray, List.getElem_cons_zero, List.getElem_cons_succ, List.setIfInBounds_toArray, List.set_cons_zero, List.set_cons_succ])
  refine wpAnyH_take (i := 8) (v := ?_) rfl (by kernel_rfl) (by kernel_rfl) (by kernel_rfl) (fun _ _ _ h => h) (Or.inl ⟨by rfl, ?_⟩) (by assumption) ?_
  rotate_left
  · (intro w hSw; (try dsimp only at hSw); go_simp; (try with_reducible rfl))
  (try simp only [Act.put, List.getElem_toArray, List.getElem_cons_zero, List.getElem_cons_succ, List.setIfInBounds_toArray, List.set_cons_zero, List.set_cons_succ])
  refine wpAnyH_take (i := 9) (v := .agg (mkC m)) rfl (by kernel_rfl) (by kernel_rfl) (by kernel_rfl) (fun _ _ _ h => h) (Or.inl ⟨by rfl, fun w hSw => exec_load_blk (k := 0) 38 (mkC m) rfl rfl hSw.1 (by kernel_rfl) (by kernel_rfl) rfl⟩) (by assumption) ?_
  (try simp only [Act.put, List.getElem_toArray, List.getElem_cons_zero, List.getElem_cons_succ, List.setIfInBounds_toArray, List.set_cons_zero, List.set_cons_succ])
  refine wpAnyH_take (i := 11) (v := .agg (mkC m)) rfl (by kernel_rfl) (by kernel_rfl) (by kernel_rfl) (fun _ _ _ h => h) (Or.inl ⟨by rfl, fun w hSw => exec_load_blk (k := 0) 38 (mkC m) rfl rfl hSw.1 (by kernel_rfl) (by kernel_rfl) rfl⟩) (by assumption) ?_
  (try simp only [Act.put, List.getElem_toArray, List.getElem_cons_zero, List.getElem_cons_succ, List.setIfInBounds_toArray, List.set_cons_zero, List.set_cons_succ])
  refine wpAnyH_ready (rs := [10]) (by kernel_rfl) (by simp) ?_
  refine AllReadyH.cons rfl (fun K hK => ?_) AllReadyH.nil
  simp only [List.getElem_toArray, List.getElem_cons_zero, List.getElem_cons_succ]
  go_simp
  go_at_call 17; (with_reducible refine (HR.out _).mono ?_); rintro e w9 ⟨rfl, k9⟩; have HA9 := HA8.kept k9; have HP9 := HP8.kept k9; have HV9 := HV8.kept k9; have B9 := B8.trans (k9.mono B8.size)
  refine hK.out _ _ ?_ (fun hHeld => ?_)
  · exact ⟨HA9, HP9, HV9⟩
  clear hK K
  (try simp only [Act.put, List.getElem_toArray, List.getElem_cons_zero, List.getElem_cons_succ, List.setIfInBounds_toArray, List.set_cons_zero, List.set_cons_succ])
  refine wpAnyH_ready (rs := [12]) (by kernel_rfl) (by simp) ?_
  refine AllReadyH.cons rfl (fun K hK => ?_) AllReadyH.nil
  simp only [List.getElem_toArray, List.getElem_cons_zero, List.getElem_cons_succ]
  go_simp
  go_at_call 18; (with_reducible refine (HRR.out _).mono ?_); rintro e w10 ⟨rfl, k10⟩; have HA10 := HA9.kept k10; have HP10 := HP9.kept k10; have HV10 := HV9.kept k10; have B10 := B9.trans (k10.mono B9.size)
  refine hK.out _ _ ?_ (fun hHeld => ?_)
  · exact ⟨HA10, HP10, HV10⟩
  clear hK K
  (try simp only [Act.put, List.getElem_toArray, List.getElem_cons_zero, List.getElem_cons_succ, List.setIfInBounds_toArray, List.set_cons_zero, List.set_cons_succ])
  refine wpAnyH_take (i := 13) (v := ?_) rfl (by kernel_rfl) (by kernel_rfl) (by kernel_rfl) (fun _ _ _ h => h) (Or.inl ⟨by rfl, ?_⟩) (by assumption) ?_
  rotate_left
  · (intro w hSw; (try dsimp only at hSw); go_simp; (try with_reducible rfl))
  (try simp only [Act.put, List.getElem_toArray, List.getElem_cons_zero, List.getElem_cons_succ, List.setIfInBounds_toArray, List.set_cons_zero, List.set_cons_succ])
  refine wpAnyH_take (i := 14) (v := ?_) rfl (by kernel_rfl) (by kernel_rfl) (by kernel_rfl) (fun _ _ _ h => h) (Or.inl ⟨by rfl, ?_⟩) (by assumption) ?_
  rotate_left
  · (intro w hSw; (try dsimp only at hSw); go_simp; (try with_reducible rfl))
  (try simp only [Act.put, List.getElem_toArray, List.getElem_cons_zero, List.getElem_cons_succ, List.setIfInBounds_toArray, List.set_cons_zero, List.set_cons_succ])
  refine wpAnyH_take (i := 15) (v := ?_) rfl (by kernel_rfl) (by kernel_rfl) (by kernel_rfl) (fun _ _ _ h => h) (Or.inl ⟨by rfl, ?_⟩) (by assumption) ?_
  rotate_left
  · (intro w hSw; (try dsimp only at hSw); go_simp; (try with_reducible rfl))
  (try simp only [Act.put, List.getElem_toArray, List.getElem_cons_zero, List.getElem_cons_succ, List.setIfInBounds_toArray, List.set_cons_zero, List.set_cons_succ])
  refine wpAnyH_take (i := 16) (v := ?_) rfl (by kernel_rfl) (by kernel_rfl) (by kernel_rfl) (fun _ _ _ h => h) (Or.inl ⟨by rfl, ?_⟩) (by assumption) ?_
  rotate_left
  · (intro w hSw; (try dsimp only at hSw); go_simp; (try with_reducible rfl))
  (try simp only [Act.put, List.getElem_toArray, List.getElem_cons_zero, List.getElem_cons_succ, List.setIfInBounds_toArray, List.set_cons_zero, List.set_cons_succ])
  refine wpAnyH_take (i := 17) (v := ?_) rfl (by kernel_rfl) (by kernel_rfl) (by kernel_rfl) (fun _ _ _ h => h) (Or.inl ⟨by rfl, ?_⟩) (by assumption) ?_
  rotate_left
  · (intro w hSw; (try dsimp only at hSw); go_simp; (try with_reducible rfl))
  (try simp only [Act.put, List.getElem_toArray, List.getElem_cons_zero, List.getElem_cons_succ, List.setIfInBounds_toArray, List.set_cons_zero, List.set_cons_succ])
  refine wpAnyH_ready (rs := [18]) (by kernel_rfl) (by simp) ?_
  refine AllReadyH.cons rfl (fun K hK => ?_) AllReadyH.nil
  simp only [List.getElem_toArray, List.getElem_cons_zero, List.getElem_cons_succ]
  go_simp
  go_at_call 11; (with_reducible refine (HB2.out _ (hE.below B10)).mono ?_); rintro e w11 ⟨rfl, k11⟩; have HA11 := HA10.kept k11; have HP11 := HP10.kept k11; have HV11 := HV10.kept k11; have B11 := B10.trans (k11.mono B10.size)
  refine hK.out _ _ ?_ (fun hHeld => ?_)
  · exact ⟨HA11, HP11, HV11⟩
  clear hK K
  (try simp only [Act.put, List.getElem_toArray, List.getElem_cons_zero, List.getElem_cons_succ, List.setIfInBounds_toArray, List.set_cons_zero, List.set_cons_succ])
  refine wpAnyH_take (i := 19) (v := ?_) rfl (by kernel_rfl) (by kernel_rfl) (by kernel_rfl) (fun _ _ _ h => h) (Or.inl ⟨by rfl, ?_⟩) (by assumption) ?_
  rotate_left
  · (intro w hSw; (try dsimp only at hSw); go_simp; (try with_reducible rfl))
  (try simp only [Act.put, List.getElem_toArray, List.getElem_cons_zero, List.getElem_cons_succ, List.setIfInBounds_toArray, List.set_cons_zero, List.set_cons_succ])
  refine wpAnyH_take (i := 20) (v := ?_) rfl (by kernel_rfl) (by kernel_rfl) (by kernel_rfl) (fun _ _ _ h => h) (Or.inl ⟨by rfl, ?_⟩) (by assumption) ?_
  rotate_left
  · (intro w hSw; (try dsimp only at hSw); go_simp; (try with_reducible rfl))
  (try simp only [Act.put, List.getElem_toArray, List.getElem_cons_zero, List.getElem_cons_succ, List.setIfInBounds_toArray, List.set_cons_zero, List.set_cons_succ])
  refine wpAnyH_take (i := 21) (v := .agg (mkC X)) rfl (by kernel_rfl) (by kernel_rfl) (by kernel_rfl) (fun _ _ _ h => h) (Or.inl ⟨by rfl, fun w hSw => exec_load_blk (k := 0) 38 (mkC X) rfl rfl hSw.2.1 (by kernel_rfl) (by kernel_rfl) rfl⟩) (by assumption) ?_
  (try simp only [Act.put, List.getElem_toArray, List.getElem_cons_zero, List.getElem_cons_succ, List.setIfInBounds_toArray, List.set_cons_zero, List.set_cons_succ])
  refine wpAnyH_take (i := 22) (v := .agg (mkC X)) rfl (by kernel_rfl) (by kernel_rfl) (by kernel_rfl) (fun _ _ _ h => h) (Or.inl ⟨by rfl, fun w hSw => exec_load_blk (k := 0) 38 (mkC X) rfl rfl hSw.2.2 (by kernel_rfl) (by kernel_rfl) rfl⟩) (by assumption) ?_
  (try simp only [Act.put, List.getElem_toArray, List.getElem_cons_zero, List.getElem_cons_succ, List.setIfInBounds_toArray, List.set_cons_zero, List.set_cons_succ])
  refine wpAnyH_take (i := 23) (v := .bool true) rfl (by kernel_rfl) (by kernel_rfl) (by kernel_rfl) (fun _ _ _ h => h) (Or.inl ⟨by rfl, fun w hSw => exec_same_mk X rfl rfl rfl (HQ.out w)⟩) (by assumption) ?_
  (try simp only [Act.put, List.getElem_toArray, List.getElem_cons_zero, List.getElem_cons_succ, List.setIfInBounds_toArray, List.set_cons_zero, List.set_cons_succ])
  refine wpAnyH_take (i := 24) (v := ?_) rfl (by kernel_rfl) (by kernel_rfl) (by kernel_rfl) (fun _ _ _ h => h) (Or.inl ⟨by rfl, ?_⟩) (by assumption) ?_
  rotate_left
  · (intro w hSw; (try dsimp only at hSw); go_simp; (try with_reducible rfl))
  (try simp only [Act.put, List.getElem_toArray, List.getElem_cons_zero, List.getElem_cons_succ, List.setIfInBounds_toArray, List.set_cons_zero, List.set_cons_succ])
  refine wpAnyH_take (i := 25) (v := ?_) rfl (by kernel_rfl) (by kernel_rfl) (by kernel_rfl) (fun _ _ _ h => h) (Or.inl ⟨by rfl, ?_⟩) (by assumption) ?_
  rotate_left
  · (intro w hSw; (try dsimp only at hSw); go_simp; (try with_reducible rfl))
  (try simp only [Act.put, List.getElem_toArray, List.getElem_cons_zero, List.getElem_cons_succ, List.setIfInBounds_toArray, List.set_cons_zero, List.set_cons_succ])
  refine wpAnyH_done (by kernel_rfl) ?_ _
  refine NoPanic.normal ?_
  go_wp2
  go_ret
  exact ⟨rfl, B11⟩

set_option maxHeartbeats 12800000 in
theorem walk_rep (m : Mk) (w : World) (L : ByteArray) (er : Value) (e1 : Int) (R : Bool) (X : Mk) (hX : X = zMk) (hE : HasErr w) (hre : m.re = true)
    (HV : Hid (∀ W, Calls Tryd.prog 14 #[.agg (mkC m)] W fun e w' => e = .returned (.tuple #[.string L, .int .i64 e1]) ∧ Below W.heap.size W w'))
    (HW : Hid (∀ W, Calls Tryd.prog 15 #[.agg (mkC m)] W fun e w' => e = .returned (.tuple #[.string L, er]) ∧ Below W.heap.size W w'))
    (HN : Hid (∀ W, Calls Tryd.prog 16 #[.agg (mkC m)] W fun e w' => e = .returned (.tuple #[.agg (mkC X), .iface 28 (.int .i64 6)]) ∧ Below W.heap.size W w'))
    (HR : Hid (∀ W, Calls Tryd.prog 17 #[.agg (mkC m)] W fun e w' => e = .returned (.bool R) ∧ Below W.heap.size W w'))
    (HRR : Hid (∀ W, Calls Tryd.prog 18 #[.agg (mkC m)] W fun e w' => e = .returned (.bool R) ∧ Below W.heap.size W w')) (hb : Bare er e1) :
    Calls Tryd.prog 4 #[.agg (mkC m)] w fun e w' => e = .returned (.bool true) ∧ Below w.heap.size w w' := by
  have HB1 : Hid (∀ W, HasErr W → Calls Tryd.prog 11 #[er, .int .i64 e1] W fun e w' => e = .returned (.bool true) ∧ Below W.heap.size W w') := hb
  have HB2 : Hid (∀ W, HasErr W → Calls Tryd.prog 11 #[.iface 28 (.int .i64 6), .int .i64 6] W fun e w' => e = .returned (.bool true) ∧ Below W.heap.size W w') := Bare.errno 6
  have hq : (L.toList == L.toList) = true := by simp
  have hq2 : (R == R) = true := by simp
  have HQ := Lib.hid (run_eqv_mk X X (eqvMk.refl _))
  have HRE : Hid (∀ W : World, Blk W w.heap.size 38 (mkC m) → W.cell? ⟨w.heap.size, 0, none⟩ = some (.bool true)) := fun W h => by rw [← hre]; exact h.c 0
  have HX := Lib.hid hX
  clear hre hX
  have HA := Blk.new w 38 (mkC m)
  have B0 : Below w.heap.size w (w.alloc (.cells (mkC m) 38)) := (Below.refl _ _).alloc (Nat.le_refl _) _
  go_enter Tryd.func4, Tryd.ntmps4
  go_upto_region 1 with (fail)
  generalize (w.alloc (.cells (mkC m) 38)) = w1 at *
  go_wp2_with (refine load_blk (k := 0) 38 (mkC m) (by rfl) rfl rfl HA (by kernel_rfl) (by kernel_rfl) rfl ?_)
  refine (HV.out _).mono ?_
  rintro e w2 ⟨rfl, k2⟩
  have HA2 := HA.kept k2
  have B2 := B0.trans (k2.mono B0.size)
  clear HA B0 k2
  go_wp2_with (refine load_blk (k := 0) 38 (mkC m) (by rfl) rfl rfl HA2 (by kernel_rfl) (by kernel_rfl) rfl ?_)
  refine (HW.out _).mono ?_
  rintro e w3 ⟨rfl, k3⟩
  have HA3 := HA2.kept k3
  have B3 := B2.trans (k3.mono B2.size)
  clear HA2 B2 k3
  go_wp2_with (refine load_blk (k := 0) 38 (mkC m) (by rfl) rfl rfl HA3 (by kernel_rfl) (by kernel_rfl) rfl ?_)
  refine (HN.out _).mono ?_
  rintro e w4 ⟨rfl, k4⟩
  have HA4 := HA3.kept k4
  have B4 := B3.trans (k4.mono B3.size)
  have hA4 : w.heap.size < w4.heap.size := HA4.lt
  clear HA3 B3 k4
  go_upto_region 4 with (first
    | (refine alloc_blk 38 (mkC zMk) (by rfl) rfl Tryd.mkZero ?_)
    | (refine store_blk (k := 0) 38 (.agg (mkC X)) (mkC X) (by rfl) rfl rfl rfl (Blk.new w4 _ _) (by kernel_rfl) (show (9 : Nat) ≤ 9 from Nat.le_refl 9) (by rfl) (st_wholeL _ _ rfl) ?_; intro w5 HVw5 bw5 gw5; have HA5 := (HA4.alloc (.cells (mkC zMk) 38)).below bw5 hA4; have B5 := (B4.alloc B4.size (.cells (mkC zMk) 38)).trans (bw5.mono B4.size)))
  (try simp only [Act.put, List.setIfInBounds_toArray, List.set_cons_zero, List.set_cons_succ])
  clear HA4 B4 bw5 gw5 hA4
  generalize w4.heap.size = P at *
  have hP5 : P < w5.heap.size := HVw5.lt
  have hA5 : w.heap.size < w5.heap.size := HA5.lt
  go_upto_region 5 with (first
    | (refine build_blk (t := 38) (mkC zMk) (by rfl) rfl (by kernel_rfl) ?_)
    | (refine alloc_blk 38 (mkC zMk) (by rfl) rfl Tryd.mkZero ?_)
    | (refine store_blk (k := 0) 38 (.agg (mkC zMk)) (mkC zMk) (by rfl) rfl rfl rfl (Blk.new w5 _ _) (by kernel_rfl) (show (9 : Nat) ≤ 9 from Nat.le_refl 9) (by rfl) (st_wholeL _ _ rfl) ?_; intro w6 HVw6 bw6 gw6; have HA6 := (HA5.alloc (.cells (mkC zMk) 38)).below bw6 hA5; have HP6 := (HVw5.alloc (.cells (mkC zMk) 38)).below bw6 hP5; have B6 := (B5.alloc B5.size (.cells (mkC zMk) 38)).trans (bw6.mono B5.size)))
  (try simp only [Act.put, List.setIfInBounds_toArray, List.set_cons_zero, List.set_cons_succ])
  clear HA5 HVw5 B5 bw6 gw6
  generalize w5.heap.size = V at *
  have c0 := HRE.out _ HA6
  rw [← HX.out] at HVw6
  go_wp2_with fail
  refine wp_region_noPanic ?_
  refine wp_region_held_drew (S := fun w' => Blk w' w.heap.size 38 (mkC m) ∧ Blk w' P 38 (mkC X) ∧ Blk w' V 38 (mkC X)) (by kernel_rfl) ?_ (fun hHeld => ?_)
  · exact ⟨HA6, HP6, HVw6⟩
  refine wpAnyH_take (i := 0) (v := ?_) rfl (by kernel_rfl) (by kernel_rfl) (by kernel_rfl) (fun _ _ _ h => h) (Or.inl ⟨by rfl, ?_⟩) (by assumption) ?_
  rotate_left
  · (intro w hSw; (try dsimp only at hSw); go_simp; (try with_reducible rfl))
  (try simp only [Act.put, List.getElem_toArray, List.getElem_cons_zero, List.getElem_cons_succ, List.setIfInBounds_toArray, List.set_cons_zero, List.set_cons_succ])
  refine wpAnyH_take (i := 1) (v := ?_) rfl (by kernel_rfl) (by kernel_rfl) (by kernel_rfl) (fun _ _ _ h => h) (Or.inl ⟨by rfl, ?_⟩) (by assumption) ?_
  rotate_left
  · (intro w hSw; (try dsimp only at hSw); go_simp; (try with_reducible rfl))
  (try simp only [Act.put, List.getElem_toArray, List.getElem_cons_zero, List.getElem_cons_succ, List.setIfInBounds_toArray, List.set_cons_zero, List.set_cons_succ])
  refine wpAnyH_ready (rs := [2]) (by kernel_rfl) (by simp) ?_
  refine AllReadyH.cons rfl (fun K hK => ?_) AllReadyH.nil
  simp only [List.getElem_toArray, List.getElem_cons_zero, List.getElem_cons_succ]
  go_simp
  go_at_call 11; (with_reducible refine (HB1.out _ (hE.below B6.drew)).mono ?_); rintro e w8 ⟨rfl, k8⟩; have HA8 := HA6.drew.kept k8; have HP8 := HP6.drew.kept k8; have HV8 := HVw6.drew.kept k8; have B8 := B6.drew.trans (k8.mono B6.drew.size)
  refine hK.out _ _ ?_ (fun hHeld => ?_)
  · exact ⟨HA8, HP8, HV8⟩
  clear hK K
  (try simp only [Act.put, List.getElem_toArray, List.getElem_cons_zero, List.getElem_cons_succ, List.setIfInBounds_toArray, List.set_cons_zero, List.set_cons_succ])
  refine wpAnyH_take (i := 3) (v := ?_) rfl (by kernel_rfl) (by kernel_rfl) (by kernel_rfl) (fun _ _ _ h => h) (Or.inl ⟨by rfl, ?_⟩) (by assumption) ?_
  rotate_left
  · (intro w hSw; (try dsimp only at hSw); go_simp; (try with_reducible rfl))
  (try simp only [Act.put, List.getElem_toArray, List.getElem_cons_zero, List.getElem_cons_succ, List.setIfInBounds_toArray, List.set_cons_zero, List.set_cons_succ])
  refine wpAnyH_take (i := 4) (v := ?_) rfl (by kernel_rfl) (by kernel_rfl) (by kernel_rfl) (fun _ _ _ h => h) (Or.inl ⟨by rfl, ?_⟩) (by assumption) ?_
  rotate_left
  · (intro w hSw; (try dsimp only at hSw); go_simp; (try with_reducible rfl))
  (try simp only [Act.put, List.getElem_toArray, List.getElem_cons_zero, List.getElem_cons_succ, List.setIfInBounds_toArray, List.set_cons_zero, List.set_cons_succ])
  refine wpAnyH_take (i := 5) (v := ?_) rfl (by kernel_rfl) (by kernel_rfl) (by kernel_rfl) (fun _ _ _ h => h) (Or.inl ⟨by rfl, ?_⟩) (by assumption) ?_
  rotate_left
  · (intro w hSw; (try dsimp only at hSw); go_simp; (try with_reducible rfl))
  (try simp only [Act.put, List.getElem_toArray, List.getElem_cons_zero, List.getElem_cons_succ, List.setIfInBounds_toArray, List.set_cons_zero, List.set_cons_succ])
  refine wpAnyH_take (i := 6) (v := ?_) rfl (by kernel_rfl) (by kernel_rfl) (by kernel_rfl) (fun _ _ _ h => h) (Or.inl ⟨by rfl, ?_⟩) (by assumption) ?_
  rotate_left
  · (intro w hSw; (try dsimp only at hSw); go_simp; (try with_reducible rfl))
  (try simp only [Act.put, List.getElem_toArray, List.getElem_cons_zero, List.getElem_cons_succ, List.setIfInBounds_toArray, List.set_cons_zero, List.set_cons_succ])
  refine wpAnyH_take (i := 7) (v := ?_) rfl (by kernel_rfl) (by kernel_rfl) (by kernel_rfl) (fun _ _ _ h => h) (Or.inl ⟨by rfl, ?_⟩) (by assumption) ?_
  rotate_left
  · (intro w hSw; (try dsimp only at hSw); go_simp; (try with_reducible rfl))
  (try simp only [Act.put, List.getElem_toArray, List.getElem_cons_zero, List.getElem_cons_succ, List.setIfInBounds_toArray, List.set_cons_zero, List.set_cons_succ])
  refine wpAnyH_take (i := 8) (v := ?_) rfl (by kernel_rfl) (by kernel_rfl) (by kernel_rfl) (fun _ _ _ h => h) (Or.inl ⟨by rfl, ?_⟩) (by assumption) ?_
  rotate_left
  · (intro w hSw; (try dsimp only at hSw); go_simp; (try with_reducible rfl))
  (try simp only [Act.put, List.getElem_toArray, List.getElem_cons_zero, List.getElem_cons_succ, List.setIfInBounds_toArray, List.set_cons_zero, List.set_cons_succ])
  refine wpAnyH_take (i := 9) (v := .agg (mkC m)) rfl (by kernel_rfl) (by kernel_rfl) (by kernel_rfl) (fun _ _ _ h => h) (Or.inl ⟨by rfl, fun w hSw => exec_load_blk (k := 0) 38 (mkC m) rfl rfl hSw.1 (by kernel_rfl) (by kernel_rfl) rfl⟩) (by assumption) ?_
  (try simp only [Act.put, List.getElem_toArray, List.getElem_cons_zero, List.getElem_cons_succ, List.setIfInBounds_toArray, List.set_cons_zero, List.set_cons_succ])
  refine wpAnyH_take (i := 11) (v := .agg (mkC m)) rfl (by kernel_rfl) (by kernel_rfl) (by kernel_rfl) (fun _ _ _ h => h) (Or.inl ⟨by rfl, fun w hSw => exec_load_blk (k := 0) 38 (mkC m) rfl rfl hSw.1 (by kernel_rfl) (by kernel_rfl) rfl⟩) (by assumption) ?_
  (try simp only [Act.put, List.getElem_toArray, List.getElem_cons_zero, List.getElem_cons_succ, List.setIfInBounds_toArray, List.set_cons_zero, List.set_cons_succ])
  refine wpAnyH_ready (rs := [10]) (by kernel_rfl) (by simp) ?_
  refine AllReadyH.cons rfl (fun K hK => ?_) AllReadyH.nil
  simp only [List.getElem_toArray, List.getElem_cons_zero, List.getElem_cons_succ]
  go_simp
  go_at_call 17; (with_reducible refine (HR.out _).mono ?_); rintro e w9 ⟨rfl, k9⟩; have HA9 := HA8.kept k9; have HP9 := HP8.kept k9; have HV9 := HV8.kept k9; have B9 := B8.trans (k9.mono B8.size)
  refine hK.out _ _ ?_ (fun hHeld => ?_)
  · exact ⟨HA9, HP9, HV9⟩
  clear hK K
  (try simp only [Act.put, List.getElem_toArray, List.getElem_cons_zero, List.getElem_cons_succ, List.setIfInBounds_toArray, List.set_cons_zero, List.set_cons_succ])
  refine wpAnyH_ready (rs := [12]) (by kernel_rfl) (by simp) ?_
  refine AllReadyH.cons rfl (fun K hK => ?_) AllReadyH.nil
  simp only [List.getElem_toArray, List.getElem_cons_zero, List.getElem_cons_succ]
  go_simp
  go_at_call 18; (with_reducible refine (HRR.out _).mono ?_); rintro e w10 ⟨rfl, k10⟩; have HA10 := HA9.kept k10; have HP10 := HP9.kept k10; have HV10 := HV9.kept k10; have B10 := B9.trans (k10.mono B9.size)
  refine hK.out _ _ ?_ (fun hHeld => ?_)
  · exact ⟨HA10, HP10, HV10⟩
  clear hK K
  (try simp only [Act.put, List.getElem_toArray, List.getElem_cons_zero, List.getElem_cons_succ, List.setIfInBounds_toArray, List.set_cons_zero, List.set_cons_succ])
  refine wpAnyH_take (i := 13) (v := ?_) rfl (by kernel_rfl) (by kernel_rfl) (by kernel_rfl) (fun _ _ _ h => h) (Or.inl ⟨by rfl, ?_⟩) (by assumption) ?_
  rotate_left
  · (intro w hSw; (try dsimp only at hSw); go_simp; (try with_reducible rfl))
  (try simp only [Act.put, List.getElem_toArray, List.getElem_cons_zero, List.getElem_cons_succ, List.setIfInBounds_toArray, List.set_cons_zero, List.set_cons_succ])
  refine wpAnyH_take (i := 14) (v := ?_) rfl (by kernel_rfl) (by kernel_rfl) (by kernel_rfl) (fun _ _ _ h => h) (Or.inl ⟨by rfl, ?_⟩) (by assumption) ?_
  rotate_left
  · (intro w hSw; (try dsimp only at hSw); go_simp; (try with_reducible rfl))
  (try simp only [Act.put, List.getElem_toArray, List.getElem_cons_zero, List.getElem_cons_succ, List.setIfInBounds_toArray, List.set_cons_zero, List.set_cons_succ])
  refine wpAnyH_take (i := 15) (v := ?_) rfl (by kernel_rfl) (by kernel_rfl) (by kernel_rfl) (fun _ _ _ h => h) (Or.inl ⟨by rfl, ?_⟩) (by assumption) ?_
  rotate_left
  · (intro w hSw; (try dsimp only at hSw); go_simp; (try with_reducible rfl))
  (try simp only [Act.put, List.getElem_toArray, List.getElem_cons_zero, List.getElem_cons_succ, List.setIfInBounds_toArray, List.set_cons_zero, List.set_cons_succ])
  refine wpAnyH_take (i := 16) (v := ?_) rfl (by kernel_rfl) (by kernel_rfl) (by kernel_rfl) (fun _ _ _ h => h) (Or.inl ⟨by rfl, ?_⟩) (by assumption) ?_
  rotate_left
  · (intro w hSw; (try dsimp only at hSw); go_simp; (try with_reducible rfl))
  (try simp only [Act.put, List.getElem_toArray, List.getElem_cons_zero, List.getElem_cons_succ, List.setIfInBounds_toArray, List.set_cons_zero, List.set_cons_succ])
  refine wpAnyH_take (i := 17) (v := ?_) rfl (by kernel_rfl) (by kernel_rfl) (by kernel_rfl) (fun _ _ _ h => h) (Or.inl ⟨by rfl, ?_⟩) (by assumption) ?_
  rotate_left
  · (intro w hSw; (try dsimp only at hSw); go_simp; (try with_reducible rfl))
  (try simp only [Act.put, List.getElem_toArray, List.getElem_cons_zero, List.getElem_cons_succ, List.setIfInBounds_toArray, List.set_cons_zero, List.set_cons_succ])
  refine wpAnyH_ready (rs := [18]) (by kernel_rfl) (by simp) ?_
  refine AllReadyH.cons rfl (fun K hK => ?_) AllReadyH.nil
  simp only [List.getElem_toArray, List.getElem_cons_zero, List.getElem_cons_succ]
  go_simp
  go_at_call 11; (with_reducible refine (HB2.out _ (hE.below B10)).mono ?_); rintro e w11 ⟨rfl, k11⟩; have HA11 := HA10.kept k11; have HP11 := HP10.kept k11; have HV11 := HV10.kept k11; have B11 := B10.trans (k11.mono B10.size)
  refine hK.out _ _ ?_ (fun hHeld => ?_)
  · exact ⟨HA11, HP11, HV11⟩
  clear hK K
  (try simp only [Act.put, List.getElem_toArray, List.getElem_cons_zero, List.getElem_cons_succ, List.setIfInBounds_toArray, List.set_cons_zero, List.set_cons_succ])
  refine wpAnyH_take (i := 19) (v := ?_) rfl (by kernel_rfl) (by kernel_rfl) (by kernel_rfl) (fun _ _ _ h => h) (Or.inl ⟨by rfl, ?_⟩) (by assumption) ?_
  rotate_left
  · (intro w hSw; (try dsimp only at hSw); go_simp; (try with_reducible rfl))
  (try simp only [Act.put, List.getElem_toArray, List.getElem_cons_zero, List.getElem_cons_succ, List.setIfInBounds_toArray, List.set_cons_zero, List.set_cons_succ])
  refine wpAnyH_take (i := 20) (v := ?_) rfl (by kernel_rfl) (by kernel_rfl) (by kernel_rfl) (fun _ _ _ h => h) (Or.inl ⟨by rfl, ?_⟩) (by assumption) ?_
  rotate_left
  · (intro w hSw; (try dsimp only at hSw); go_simp; (try with_reducible rfl))
  (try simp only [Act.put, List.getElem_toArray, List.getElem_cons_zero, List.getElem_cons_succ, List.setIfInBounds_toArray, List.set_cons_zero, List.set_cons_succ])
  refine wpAnyH_take (i := 21) (v := .agg (mkC X)) rfl (by kernel_rfl) (by kernel_rfl) (by kernel_rfl) (fun _ _ _ h => h) (Or.inl ⟨by rfl, fun w hSw => exec_load_blk (k := 0) 38 (mkC X) rfl rfl hSw.2.1 (by kernel_rfl) (by kernel_rfl) rfl⟩) (by assumption) ?_
  (try simp only [Act.put, List.getElem_toArray, List.getElem_cons_zero, List.getElem_cons_succ, List.setIfInBounds_toArray, List.set_cons_zero, List.set_cons_succ])
  refine wpAnyH_take (i := 22) (v := .agg (mkC X)) rfl (by kernel_rfl) (by kernel_rfl) (by kernel_rfl) (fun _ _ _ h => h) (Or.inl ⟨by rfl, fun w hSw => exec_load_blk (k := 0) 38 (mkC X) rfl rfl hSw.2.2 (by kernel_rfl) (by kernel_rfl) rfl⟩) (by assumption) ?_
  (try simp only [Act.put, List.getElem_toArray, List.getElem_cons_zero, List.getElem_cons_succ, List.setIfInBounds_toArray, List.set_cons_zero, List.set_cons_succ])
  refine wpAnyH_take (i := 23) (v := .bool true) rfl (by kernel_rfl) (by kernel_rfl) (by kernel_rfl) (fun _ _ _ h => h) (Or.inl ⟨by rfl, fun w hSw => exec_same_mk X rfl rfl rfl (HQ.out w)⟩) (by assumption) ?_
  (try simp only [Act.put, List.getElem_toArray, List.getElem_cons_zero, List.getElem_cons_succ, List.setIfInBounds_toArray, List.set_cons_zero, List.set_cons_succ])
  refine wpAnyH_take (i := 24) (v := ?_) rfl (by kernel_rfl) (by kernel_rfl) (by kernel_rfl) (fun _ _ _ h => h) (Or.inl ⟨by rfl, ?_⟩) (by assumption) ?_
  rotate_left
  · (intro w hSw; (try dsimp only at hSw); go_simp; (try with_reducible rfl))
  (try simp only [Act.put, List.getElem_toArray, List.getElem_cons_zero, List.getElem_cons_succ, List.setIfInBounds_toArray, List.set_cons_zero, List.set_cons_succ])
  refine wpAnyH_take (i := 25) (v := ?_) rfl (by kernel_rfl) (by kernel_rfl) (by kernel_rfl) (fun _ _ _ h => h) (Or.inl ⟨by rfl, ?_⟩) (by assumption) ?_
  rotate_left
  · (intro w hSw; (try dsimp only at hSw); go_simp; (try with_reducible rfl))
  (try simp only [Act.put, List.getElem_toArray, List.getElem_cons_zero, List.getElem_cons_succ, List.setIfInBounds_toArray, List.set_cons_zero, List.set_cons_succ])
  refine wpAnyH_done (by kernel_rfl) ?_ _
  refine NoPanic.normal ?_
  go_wp2
  go_ret
  exact ⟨rfl, B11⟩

theorem walk (m : Mk) (hb : byMk m) (hr : rgMk m) (w : World) (hE : HasErr w) :
    Calls Tryd.prog 4 #[.agg (mkC m)] w fun e w' => e = .returned (.bool true) ∧ Below w.heap.size w w' := by
  cases hre : m.re with
  | false =>
    cases h : okMk m with
    | false => exact walk_ask m w ⟨#[]⟩ _ 1 false _ rfl hE hre (fun W => refMkWrite_no m h W) (fun W => mkWrite_no m h hr W) (fun W => answer_yes m hre W) (fun W => by have q := mkRight_any m hr W; rw [h] at q; exact q) (fun W => by have q := refMkRight_any m W; rw [h] at q; exact q) (Bare.errno 1)
    | true => exact walk_ask m w ⟨(mkL m).toArray⟩ _ 0 true _ rfl hE hre (fun W => refMkWrite_yes m h hb W) (fun W => mkWrite_yes m h hb hr W) (fun W => answer_yes m hre W) (fun W => by have q := mkRight_any m hr W; rw [h] at q; exact q) (fun W => by have q := refMkRight_any m W; rw [h] at q; exact q) Bare.none
  | true =>
    cases h : okMk m with
    | false => exact walk_rep m w ⟨#[]⟩ _ 1 false _ rfl hE hre (fun W => refMkWrite_no m h W) (fun W => mkWrite_no m h hr W) (fun W => answer_no m hre W) (fun W => by have q := mkRight_any m hr W; rw [h] at q; exact q) (fun W => by have q := refMkRight_any m W; rw [h] at q; exact q) (Bare.errno 1)
    | true => exact walk_rep m w ⟨(mkL m).toArray⟩ _ 0 true _ rfl hE hre (fun W => refMkWrite_yes m h hb W) (fun W => mkWrite_yes m h hb hr W) (fun W => answer_no m hre W) (fun W => by have q := mkRight_any m hr W; rw [h] at q; exact q) (fun W => by have q := refMkRight_any m W; rw [h] at q; exact q) Bare.none

end Go.Proofs.YtocgnbbnaamjjaaDoor.markerWrites
