/- The reference's body of what may be. -/
import Derived.Test.YtajbkoggmhgjfaaDoorRefBpRight
import Derived.Test.YtajbkoggmhgjfaaDoorBpOk
import Derived.Test.YtajbkoggmhgjfaaDoorBpFlagsByte
import Derived.Test.YtajbkoggmhgjfaaDoorPrPack
namespace Go.Proofs.YtajbkoggmhgjfaaDoor
open Go.RowKit
attribute [local go_sem ↓] Go.wp_at_zero Go.wp_at_succ
set_option linter.unusedSimpArgs false
set_option linter.unusedVariables false
set_option maxRecDepth 100000

theorem beN2 (n : Nat) (h1 : 1 ≤ n) (h7 : n ≤ 7) (v : Int) (hv : fitI n v = true) (w : World) : Calls Tryd.prog 19 #[.int .i64 v, .int .i64 n] w fun e w' => e = .returned (.string ⟨(putL v.toNat n).toArray⟩) ∧ Below w.heap.size w w' := by
  obtain ⟨h0, h2⟩ := fitI_all hv
  refine be_any v n w h0 ?_ (by omega)
  have h3 : 256 ^ n ≤ 256 ^ 7 := Nat.pow_le_pow_right (by decide) h7
  have e : ((256 ^ n : Nat) : Int) = 256 ^ n := by simp
  omega

set_option maxHeartbeats 6400000 in
theorem refBody_any (b : Bp) (hf : okF b.f = true) (hb : okBd b = true) (hx : byBp b) (w : World) :
    Calls Tryd.prog 18 #[.agg (bpC b)] w fun e w' => e = .returned (.string ⟨(bodyL b).toArray⟩) ∧ Below w.heap.size w w' := by
  obtain ⟨hroot, hsnd, hport, hcost, hage, hmx, hhel, hwai⟩ := okBd_all hb
  have HP1 := Lib.hid (fun W => refPack_yes b.root hroot hx.1 W)
  have HP2 := Lib.hid (fun W => refPack_yes b.snd hsnd hx.2 W)
  have HP3 := Lib.hid (fun W => refPackPort_yes b.pp b.pn hport W)
  have HBy := Lib.hid (fun W => flagsByte_any b.f hf W)
  have hby := byF_lt b.f hf
  have E0 : Hid (∀ W, Calls Tryd.prog 19 #[.int .i64 (byF b.f : Int), .int .i64 1] W fun e w' => e = .returned (.string ⟨(putL (byF b.f) 1).toArray⟩) ∧ Below W.heap.size W w') := fun W => beN2 1 (by decide) (by decide) (byF b.f : Int) (by simp [fitI]; omega) W
  have E1 : Hid (∀ W, Calls Tryd.prog 19 #[.int .i64 b.cost, .int .i64 4] W fun e w' => e = .returned (.string ⟨(putL b.cost.toNat 4).toArray⟩) ∧ Below W.heap.size W w') := fun W => beN2 4 (by decide) (by decide) b.cost hcost W
  have E2 : Hid (∀ W, Calls Tryd.prog 19 #[.int .i64 b.age, .int .i64 2] W fun e w' => e = .returned (.string ⟨(putL b.age.toNat 2).toArray⟩) ∧ Below W.heap.size W w') := fun W => beN2 2 (by decide) (by decide) b.age hage W
  have E3 : Hid (∀ W, Calls Tryd.prog 19 #[.int .i64 b.mx, .int .i64 2] W fun e w' => e = .returned (.string ⟨(putL b.mx.toNat 2).toArray⟩) ∧ Below W.heap.size W w') := fun W => beN2 2 (by decide) (by decide) b.mx hmx W
  have E4 : Hid (∀ W, Calls Tryd.prog 19 #[.int .i64 b.hel, .int .i64 2] W fun e w' => e = .returned (.string ⟨(putL b.hel.toNat 2).toArray⟩) ∧ Below W.heap.size W w') := fun W => beN2 2 (by decide) (by decide) b.hel hhel W
  have E5 : Hid (∀ W, Calls Tryd.prog 19 #[.int .i64 b.wai, .int .i64 2] W fun e w' => e = .returned (.string ⟨(putL b.wai.toNat 2).toArray⟩) ∧ Below W.heap.size W w') := fun W => beN2 2 (by decide) (by decide) b.wai hwai W
  have HBL : Hid (bodyL b = putL (byF b.f) 1 ++ packL b.root ++ putL b.cost.toNat 4 ++ packL b.snd ++ ppL b.pp b.pn ++ putL b.age.toNat 2 ++ putL b.mx.toNat 2 ++ putL b.hel.toNat 2 ++ putL b.wai.toNat 2) := by show _ = _; simp [bodyL, ppL, pprL, tmL]
  have hl0 : (putL (byF b.f) 1).length = 1 := putL_length _ _
  have hl1 := packL_len b.root
  have hl2 : (putL b.cost.toNat 4).length = 4 := putL_length _ _
  have hl3 := packL_len b.snd
  have hl4 : (ppL b.pp b.pn).length = 2 := putL_length _ _
  have hl5 : (putL b.age.toNat 2).length = 2 := putL_length _ _
  have hl6 : (putL b.mx.toNat 2).length = 2 := putL_length _ _
  have hl7 : (putL b.hel.toNat 2).length = 2 := putL_length _ _
  have hl8 : (putL b.wai.toNat 2).length = 2 := putL_length _ _
  generalize putL (byF b.f) 1 = y0 at *
  generalize packL b.root = y1 at *
  generalize putL b.cost.toNat 4 = y2 at *
  generalize packL b.snd = y3 at *
  generalize ppL b.pp b.pn = y4 at *
  generalize putL b.age.toNat 2 = y5 at *
  generalize putL b.mx.toNat 2 = y6 at *
  generalize putL b.hel.toNat 2 = y7 at *
  generalize putL b.wai.toNat 2 = y8 at *
  obtain ⟨z1, hz1⟩ : ∃ z, z = y0 ++ y1 := ⟨_, rfl⟩
  have zl1 : z1.length = 9 := by rw [hz1, List.length_append]; omega
  have p1 : ∀ W, (Op.stringOp .add ⟨y0.toArray⟩ ⟨y1.toArray⟩).run Tryd.prog W = .ok (.string ⟨z1.toArray⟩) W := fun W => by rw [hz1]; exact run_string_add_lists W _ _ (by omega) (by omega)
  obtain ⟨z2, hz2⟩ : ∃ z, z = z1 ++ y2 := ⟨_, rfl⟩
  have zl2 : z2.length = 13 := by rw [hz2, List.length_append]; omega
  have p2 : ∀ W, (Op.stringOp .add ⟨z1.toArray⟩ ⟨y2.toArray⟩).run Tryd.prog W = .ok (.string ⟨z2.toArray⟩) W := fun W => by rw [hz2]; exact run_string_add_lists W _ _ (by omega) (by omega)
  obtain ⟨z3, hz3⟩ : ∃ z, z = z2 ++ y3 := ⟨_, rfl⟩
  have zl3 : z3.length = 21 := by rw [hz3, List.length_append]; omega
  have p3 : ∀ W, (Op.stringOp .add ⟨z2.toArray⟩ ⟨y3.toArray⟩).run Tryd.prog W = .ok (.string ⟨z3.toArray⟩) W := fun W => by rw [hz3]; exact run_string_add_lists W _ _ (by omega) (by omega)
  obtain ⟨z4, hz4⟩ : ∃ z, z = z3 ++ y4 := ⟨_, rfl⟩
  have zl4 : z4.length = 23 := by rw [hz4, List.length_append]; omega
  have p4 : ∀ W, (Op.stringOp .add ⟨z3.toArray⟩ ⟨y4.toArray⟩).run Tryd.prog W = .ok (.string ⟨z4.toArray⟩) W := fun W => by rw [hz4]; exact run_string_add_lists W _ _ (by omega) (by omega)
  obtain ⟨z5, hz5⟩ : ∃ z, z = z4 ++ y5 := ⟨_, rfl⟩
  have zl5 : z5.length = 25 := by rw [hz5, List.length_append]; omega
  have p5 : ∀ W, (Op.stringOp .add ⟨z4.toArray⟩ ⟨y5.toArray⟩).run Tryd.prog W = .ok (.string ⟨z5.toArray⟩) W := fun W => by rw [hz5]; exact run_string_add_lists W _ _ (by omega) (by omega)
  obtain ⟨z6, hz6⟩ : ∃ z, z = z5 ++ y6 := ⟨_, rfl⟩
  have zl6 : z6.length = 27 := by rw [hz6, List.length_append]; omega
  have p6 : ∀ W, (Op.stringOp .add ⟨z5.toArray⟩ ⟨y6.toArray⟩).run Tryd.prog W = .ok (.string ⟨z6.toArray⟩) W := fun W => by rw [hz6]; exact run_string_add_lists W _ _ (by omega) (by omega)
  obtain ⟨z7, hz7⟩ : ∃ z, z = z6 ++ y7 := ⟨_, rfl⟩
  have zl7 : z7.length = 29 := by rw [hz7, List.length_append]; omega
  have p7 : ∀ W, (Op.stringOp .add ⟨z6.toArray⟩ ⟨y7.toArray⟩).run Tryd.prog W = .ok (.string ⟨z7.toArray⟩) W := fun W => by rw [hz7]; exact run_string_add_lists W _ _ (by omega) (by omega)
  obtain ⟨z8, hz8⟩ : ∃ z, z = z7 ++ y8 := ⟨_, rfl⟩
  have zl8 : z8.length = 31 := by rw [hz8, List.length_append]; omega
  have p8 : ∀ W, (Op.stringOp .add ⟨z7.toArray⟩ ⟨y8.toArray⟩).run Tryd.prog W = .ok (.string ⟨z8.toArray⟩) W := fun W => by rw [hz8]; exact run_string_add_lists W _ _ (by omega) (by omega)
  replace HBL : Hid (bodyL b = z8) := by show _ = _; rw [HBL.out, hz8, hz7, hz6, hz5, hz4, hz3, hz2, hz1]
  clear hz1 hz2 hz3 hz4 hz5 hz6 hz7 hz8 zl1 zl2 zl3 zl4 zl5 zl6 zl7 zl8
  clear hl0 hl1 hl2 hl3 hl4 hl5 hl6 hl7 hl8 hby hroot hsnd hport hcost hage hmx hhel hwai hf hb hx
  have HA := Blk.new w 31 (bpC b)
  have B0 : Below w.heap.size w (w.alloc (.cells (bpC b) 31)) := (Below.refl _ _).alloc (Nat.le_refl _) _
  go_enter Tryd.func18, Tryd.ntmps18
  go_upto_region 1 with (fail)
  generalize (w.alloc (.cells (bpC b) 31)) = w1 at *
  go_wp2_with (refine load_blk (k := 8) 27 (brC b.root) (by rfl) rfl rfl HA (by kernel_rfl) (by kernel_rfl) rfl ?_)
  refine (HP1.out _).mono ?_
  rintro e w2 ⟨rfl, k2⟩
  have HA2 := HA.kept k2
  have B2 := B0.trans (k2.mono B0.size)
  go_wp2_with (refine load_blk (k := 17) 27 (brC b.snd) (by rfl) rfl rfl HA2 (by kernel_rfl) (by kernel_rfl) rfl ?_)
  refine (HP2.out _).mono ?_
  rintro e w3 ⟨rfl, k3⟩
  have HA3 := HA2.kept k3
  have B3 := B2.trans (k3.mono B2.size)
  go_wp2_with (refine load_blk (k := 25) 29 (ptC b.pp b.pn) (by rfl) rfl rfl HA3 (by kernel_rfl) (by kernel_rfl) rfl ?_)
  refine (HP3.out _).mono ?_
  rintro e w4 ⟨rfl, k4⟩
  have HA4 := HA3.kept k4
  have B4 := B3.trans (k4.mono B3.size)
  go_upto_region 4 with (fail)
  refine wp_region_noPanic ?_
  refine wp_region_held_drew (S := (fun w' => Blk w' w.heap.size 31 (bpC b))) (by kernel_rfl) ?_ (fun hHeld => ?_)
  · exact HA4
  refine wpAnyH_take (i := 0) (v := ?_) rfl (by kernel_rfl) (by kernel_rfl) (by kernel_rfl) (fun _ _ _ h => h) (Or.inl ⟨by rfl, ?_⟩) (by assumption) ?_
  rotate_left
  · (intro w hSw; (try dsimp only at hSw); go_simp; (try with_reducible rfl))
  (try simp only [Act.put, List.getElem_toArray, List.getElem_cons_zero, List.getElem_cons_succ, List.setIfInBounds_toArray, List.set_cons_zero, List.set_cons_succ])
  refine wpAnyH_take (i := 1) (v := .agg (flC b.f)) rfl (by kernel_rfl) (by kernel_rfl) (by kernel_rfl) (fun _ _ _ h => h) (Or.inl ⟨by rfl, fun w hSw => exec_load_blk (k := 1) 23 (flC b.f) rfl rfl hSw (by kernel_rfl) (by kernel_rfl) rfl⟩) (by assumption) ?_
  (try simp only [Act.put, List.getElem_toArray, List.getElem_cons_zero, List.getElem_cons_succ, List.setIfInBounds_toArray, List.set_cons_zero, List.set_cons_succ])
  refine wpAnyH_take (i := 4) (v := ?_) rfl (by kernel_rfl) (by kernel_rfl) (by kernel_rfl) (fun _ _ _ h => h) (Or.inl ⟨by rfl, ?_⟩) (by assumption) ?_
  rotate_left
  · (intro w hSw; (try dsimp only at hSw); go_simp; (try with_reducible rfl))
  (try simp only [Act.put, List.getElem_toArray, List.getElem_cons_zero, List.getElem_cons_succ, List.setIfInBounds_toArray, List.set_cons_zero, List.set_cons_succ])
  refine wpAnyH_take (i := 6) (v := ?_) rfl (by kernel_rfl) (by kernel_rfl) (by kernel_rfl) (fun _ _ _ h => h) (Or.inl ⟨by rfl, ?_⟩) (by assumption) ?_
  rotate_left
  · (intro w hSw; (try dsimp only at hSw); go_simp; (try with_reducible rfl))
  (try simp only [Act.put, List.getElem_toArray, List.getElem_cons_zero, List.getElem_cons_succ, List.setIfInBounds_toArray, List.set_cons_zero, List.set_cons_succ])
  refine wpAnyH_take (i := 7) (v := .int .i64 b.cost) rfl (by kernel_rfl) (by kernel_rfl) (by kernel_rfl) (fun _ _ _ h => h) (Or.inl ⟨by rfl, fun w hSw => by have c := hSw.cv 16 (.int .i64 b.cost) rfl; go_simp⟩) (by assumption) ?_
  (try simp only [Act.put, List.getElem_toArray, List.getElem_cons_zero, List.getElem_cons_succ, List.setIfInBounds_toArray, List.set_cons_zero, List.set_cons_succ])
  refine wpAnyH_take (i := 10) (v := ?_) rfl (by kernel_rfl) (by kernel_rfl) (by kernel_rfl) (fun _ _ _ h => h) (Or.inl ⟨by rfl, ?_⟩) (by assumption) ?_
  rotate_left
  · (intro w hSw; (try dsimp only at hSw); go_simp; (try with_reducible rfl))
  (try simp only [Act.put, List.getElem_toArray, List.getElem_cons_zero, List.getElem_cons_succ, List.setIfInBounds_toArray, List.set_cons_zero, List.set_cons_succ])
  refine wpAnyH_take (i := 12) (v := ?_) rfl (by kernel_rfl) (by kernel_rfl) (by kernel_rfl) (fun _ _ _ h => h) (Or.inl ⟨by rfl, ?_⟩) (by assumption) ?_
  rotate_left
  · (intro w hSw; (try dsimp only at hSw); go_simp; (try with_reducible rfl))
  (try simp only [Act.put, List.getElem_toArray, List.getElem_cons_zero, List.getElem_cons_succ, List.setIfInBounds_toArray, List.set_cons_zero, List.set_cons_succ])
  refine wpAnyH_take (i := 14) (v := ?_) rfl (by kernel_rfl) (by kernel_rfl) (by kernel_rfl) (fun _ _ _ h => h) (Or.inl ⟨by rfl, ?_⟩) (by assumption) ?_
  rotate_left
  · (intro w hSw; (try dsimp only at hSw); go_simp; (try with_reducible rfl))
  (try simp only [Act.put, List.getElem_toArray, List.getElem_cons_zero, List.getElem_cons_succ, List.setIfInBounds_toArray, List.set_cons_zero, List.set_cons_succ])
  refine wpAnyH_take (i := 15) (v := .int .i64 b.age) rfl (by kernel_rfl) (by kernel_rfl) (by kernel_rfl) (fun _ _ _ h => h) (Or.inl ⟨by rfl, fun w hSw => by have c := hSw.cv 27 (.int .i64 b.age) rfl; go_simp⟩) (by assumption) ?_
  (try simp only [Act.put, List.getElem_toArray, List.getElem_cons_zero, List.getElem_cons_succ, List.setIfInBounds_toArray, List.set_cons_zero, List.set_cons_succ])
  refine wpAnyH_take (i := 18) (v := ?_) rfl (by kernel_rfl) (by kernel_rfl) (by kernel_rfl) (fun _ _ _ h => h) (Or.inl ⟨by rfl, ?_⟩) (by assumption) ?_
  rotate_left
  · (intro w hSw; (try dsimp only at hSw); go_simp; (try with_reducible rfl))
  (try simp only [Act.put, List.getElem_toArray, List.getElem_cons_zero, List.getElem_cons_succ, List.setIfInBounds_toArray, List.set_cons_zero, List.set_cons_succ])
  refine wpAnyH_take (i := 19) (v := .int .i64 b.mx) rfl (by kernel_rfl) (by kernel_rfl) (by kernel_rfl) (fun _ _ _ h => h) (Or.inl ⟨by rfl, fun w hSw => by have c := hSw.cv 28 (.int .i64 b.mx) rfl; go_simp⟩) (by assumption) ?_
  (try simp only [Act.put, List.getElem_toArray, List.getElem_cons_zero, List.getElem_cons_succ, List.setIfInBounds_toArray, List.set_cons_zero, List.set_cons_succ])
  refine wpAnyH_take (i := 22) (v := ?_) rfl (by kernel_rfl) (by kernel_rfl) (by kernel_rfl) (fun _ _ _ h => h) (Or.inl ⟨by rfl, ?_⟩) (by assumption) ?_
  rotate_left
  · (intro w hSw; (try dsimp only at hSw); go_simp; (try with_reducible rfl))
  (try simp only [Act.put, List.getElem_toArray, List.getElem_cons_zero, List.getElem_cons_succ, List.setIfInBounds_toArray, List.set_cons_zero, List.set_cons_succ])
  refine wpAnyH_take (i := 23) (v := .int .i64 b.hel) rfl (by kernel_rfl) (by kernel_rfl) (by kernel_rfl) (fun _ _ _ h => h) (Or.inl ⟨by rfl, fun w hSw => by have c := hSw.cv 29 (.int .i64 b.hel) rfl; go_simp⟩) (by assumption) ?_
  (try simp only [Act.put, List.getElem_toArray, List.getElem_cons_zero, List.getElem_cons_succ, List.setIfInBounds_toArray, List.set_cons_zero, List.set_cons_succ])
  refine wpAnyH_take (i := 26) (v := ?_) rfl (by kernel_rfl) (by kernel_rfl) (by kernel_rfl) (fun _ _ _ h => h) (Or.inl ⟨by rfl, ?_⟩) (by assumption) ?_
  rotate_left
  · (intro w hSw; (try dsimp only at hSw); go_simp; (try with_reducible rfl))
  (try simp only [Act.put, List.getElem_toArray, List.getElem_cons_zero, List.getElem_cons_succ, List.setIfInBounds_toArray, List.set_cons_zero, List.set_cons_succ])
  refine wpAnyH_take (i := 27) (v := .int .i64 b.wai) rfl (by kernel_rfl) (by kernel_rfl) (by kernel_rfl) (fun _ _ _ h => h) (Or.inl ⟨by rfl, fun w hSw => by have c := hSw.cv 30 (.int .i64 b.wai) rfl; go_simp⟩) (by assumption) ?_
  (try simp only [Act.put, List.getElem_toArray, List.getElem_cons_zero, List.getElem_cons_succ, List.setIfInBounds_toArray, List.set_cons_zero, List.set_cons_succ])
  refine wpAnyH_ready (rs := [2]) (by kernel_rfl) (by simp) ?_
  refine AllReadyH.cons rfl (fun K hK => ?_) AllReadyH.nil
  simp only [List.getElem_toArray, List.getElem_cons_zero, List.getElem_cons_succ]
  go_simp
  with_reducible refine (HBy.out _).mono ?_
  rintro e w5 ⟨rfl, k5⟩
  have HA5 := HA4.drew.kept k5
  have B5 := B4.drew.trans (k5.mono B4.size)
  refine hK.out _ _ ?_ (fun hHeld => ?_)
  · exact HA5
  clear hK K
  (try simp only [Act.put, List.getElem_toArray, List.getElem_cons_zero, List.getElem_cons_succ, List.setIfInBounds_toArray, List.set_cons_zero, List.set_cons_succ])
  refine wpAnyH_ready (rs := [3]) (by kernel_rfl) (by simp) ?_
  refine AllReadyH.cons rfl (fun K hK => ?_) AllReadyH.nil
  simp only [List.getElem_toArray, List.getElem_cons_zero, List.getElem_cons_succ]
  go_simp
  with_reducible refine (E0.out _).mono ?_
  rintro e w6 ⟨rfl, k6⟩
  have HA6 := HA5.kept k6
  have B6 := B5.trans (k6.mono B5.size)
  refine hK.out _ _ ?_ (fun hHeld => ?_)
  · exact HA6
  clear hK K
  (try simp only [Act.put, List.getElem_toArray, List.getElem_cons_zero, List.getElem_cons_succ, List.setIfInBounds_toArray, List.set_cons_zero, List.set_cons_succ])
  refine wpAnyH_take (i := 5) (v := .string ⟨z1.toArray⟩) rfl (by kernel_rfl) (by kernel_rfl) (by kernel_rfl) (fun _ _ _ h => h) (Or.inl ⟨by rfl, fun w hSw => by go_simp⟩) (by assumption) ?_
  (try simp only [Act.put, List.getElem_toArray, List.getElem_cons_zero, List.getElem_cons_succ, List.setIfInBounds_toArray, List.set_cons_zero, List.set_cons_succ])
  refine wpAnyH_ready (rs := [8]) (by kernel_rfl) (by simp) ?_
  refine AllReadyH.cons rfl (fun K hK => ?_) AllReadyH.nil
  simp only [List.getElem_toArray, List.getElem_cons_zero, List.getElem_cons_succ]
  go_simp
  with_reducible refine (E1.out _).mono ?_
  rintro e w7 ⟨rfl, k7⟩
  have HA7 := HA6.kept k7
  have B7 := B6.trans (k7.mono B6.size)
  refine hK.out _ _ ?_ (fun hHeld => ?_)
  · exact HA7
  clear hK K
  (try simp only [Act.put, List.getElem_toArray, List.getElem_cons_zero, List.getElem_cons_succ, List.setIfInBounds_toArray, List.set_cons_zero, List.set_cons_succ])
  refine wpAnyH_take (i := 9) (v := .string ⟨z2.toArray⟩) rfl (by kernel_rfl) (by kernel_rfl) (by kernel_rfl) (fun _ _ _ h => h) (Or.inl ⟨by rfl, fun w hSw => by go_simp⟩) (by assumption) ?_
  (try simp only [Act.put, List.getElem_toArray, List.getElem_cons_zero, List.getElem_cons_succ, List.setIfInBounds_toArray, List.set_cons_zero, List.set_cons_succ])
  refine wpAnyH_take (i := 11) (v := .string ⟨z3.toArray⟩) rfl (by kernel_rfl) (by kernel_rfl) (by kernel_rfl) (fun _ _ _ h => h) (Or.inl ⟨by rfl, fun w hSw => by go_simp⟩) (by assumption) ?_
  (try simp only [Act.put, List.getElem_toArray, List.getElem_cons_zero, List.getElem_cons_succ, List.setIfInBounds_toArray, List.set_cons_zero, List.set_cons_succ])
  refine wpAnyH_take (i := 13) (v := .string ⟨z4.toArray⟩) rfl (by kernel_rfl) (by kernel_rfl) (by kernel_rfl) (fun _ _ _ h => h) (Or.inl ⟨by rfl, fun w hSw => by go_simp⟩) (by assumption) ?_
  (try simp only [Act.put, List.getElem_toArray, List.getElem_cons_zero, List.getElem_cons_succ, List.setIfInBounds_toArray, List.set_cons_zero, List.set_cons_succ])
  refine wpAnyH_ready (rs := [16]) (by kernel_rfl) (by simp) ?_
  refine AllReadyH.cons rfl (fun K hK => ?_) AllReadyH.nil
  simp only [List.getElem_toArray, List.getElem_cons_zero, List.getElem_cons_succ]
  go_simp
  with_reducible refine (E2.out _).mono ?_
  rintro e w8 ⟨rfl, k8⟩
  have HA8 := HA7.kept k8
  have B8 := B7.trans (k8.mono B7.size)
  refine hK.out _ _ ?_ (fun hHeld => ?_)
  · exact HA8
  clear hK K
  (try simp only [Act.put, List.getElem_toArray, List.getElem_cons_zero, List.getElem_cons_succ, List.setIfInBounds_toArray, List.set_cons_zero, List.set_cons_succ])
  refine wpAnyH_take (i := 17) (v := .string ⟨z5.toArray⟩) rfl (by kernel_rfl) (by kernel_rfl) (by kernel_rfl) (fun _ _ _ h => h) (Or.inl ⟨by rfl, fun w hSw => by go_simp⟩) (by assumption) ?_
  (try simp only [Act.put, List.getElem_toArray, List.getElem_cons_zero, List.getElem_cons_succ, List.setIfInBounds_toArray, List.set_cons_zero, List.set_cons_succ])
  refine wpAnyH_ready (rs := [20]) (by kernel_rfl) (by simp) ?_
  refine AllReadyH.cons rfl (fun K hK => ?_) AllReadyH.nil
  simp only [List.getElem_toArray, List.getElem_cons_zero, List.getElem_cons_succ]
  go_simp
  with_reducible refine (E3.out _).mono ?_
  rintro e w9 ⟨rfl, k9⟩
  have HA9 := HA8.kept k9
  have B9 := B8.trans (k9.mono B8.size)
  refine hK.out _ _ ?_ (fun hHeld => ?_)
  · exact HA9
  clear hK K
  (try simp only [Act.put, List.getElem_toArray, List.getElem_cons_zero, List.getElem_cons_succ, List.setIfInBounds_toArray, List.set_cons_zero, List.set_cons_succ])
  refine wpAnyH_take (i := 21) (v := .string ⟨z6.toArray⟩) rfl (by kernel_rfl) (by kernel_rfl) (by kernel_rfl) (fun _ _ _ h => h) (Or.inl ⟨by rfl, fun w hSw => by go_simp⟩) (by assumption) ?_
  (try simp only [Act.put, List.getElem_toArray, List.getElem_cons_zero, List.getElem_cons_succ, List.setIfInBounds_toArray, List.set_cons_zero, List.set_cons_succ])
  refine wpAnyH_ready (rs := [24]) (by kernel_rfl) (by simp) ?_
  refine AllReadyH.cons rfl (fun K hK => ?_) AllReadyH.nil
  simp only [List.getElem_toArray, List.getElem_cons_zero, List.getElem_cons_succ]
  go_simp
  with_reducible refine (E4.out _).mono ?_
  rintro e w10 ⟨rfl, k10⟩
  have HA10 := HA9.kept k10
  have B10 := B9.trans (k10.mono B9.size)
  refine hK.out _ _ ?_ (fun hHeld => ?_)
  · exact HA10
  clear hK K
  (try simp only [Act.put, List.getElem_toArray, List.getElem_cons_zero, List.getElem_cons_succ, List.setIfInBounds_toArray, List.set_cons_zero, List.set_cons_succ])
  refine wpAnyH_take (i := 25) (v := .string ⟨z7.toArray⟩) rfl (by kernel_rfl) (by kernel_rfl) (by kernel_rfl) (fun _ _ _ h => h) (Or.inl ⟨by rfl, fun w hSw => by go_simp⟩) (by assumption) ?_
  (try simp only [Act.put, List.getElem_toArray, List.getElem_cons_zero, List.getElem_cons_succ, List.setIfInBounds_toArray, List.set_cons_zero, List.set_cons_succ])
  refine wpAnyH_ready (rs := [28]) (by kernel_rfl) (by simp) ?_
  refine AllReadyH.cons rfl (fun K hK => ?_) AllReadyH.nil
  simp only [List.getElem_toArray, List.getElem_cons_zero, List.getElem_cons_succ]
  go_simp
  with_reducible refine (E5.out _).mono ?_
  rintro e w11 ⟨rfl, k11⟩
  have HA11 := HA10.kept k11
  have B11 := B10.trans (k11.mono B10.size)
  refine hK.out _ _ ?_ (fun hHeld => ?_)
  · exact HA11
  clear hK K
  (try simp only [Act.put, List.getElem_toArray, List.getElem_cons_zero, List.getElem_cons_succ, List.setIfInBounds_toArray, List.set_cons_zero, List.set_cons_succ])
  refine wpAnyH_take (i := 29) (v := .string ⟨z8.toArray⟩) rfl (by kernel_rfl) (by kernel_rfl) (by kernel_rfl) (fun _ _ _ h => h) (Or.inl ⟨by rfl, fun w hSw => by go_simp⟩) (by assumption) ?_
  (try simp only [Act.put, List.getElem_toArray, List.getElem_cons_zero, List.getElem_cons_succ, List.setIfInBounds_toArray, List.set_cons_zero, List.set_cons_succ])
  refine wpAnyH_take (i := 30) (v := ?_) rfl (by kernel_rfl) (by kernel_rfl) (by kernel_rfl) (fun _ _ _ h => h) (Or.inl ⟨by rfl, ?_⟩) (by assumption) ?_
  rotate_left
  · (intro w hSw; (try dsimp only at hSw); go_simp; (try with_reducible rfl))
  (try simp only [Act.put, List.getElem_toArray, List.getElem_cons_zero, List.getElem_cons_succ, List.setIfInBounds_toArray, List.set_cons_zero, List.set_cons_succ])
  refine wpAnyH_done (by kernel_rfl) ?_ _
  refine NoPanic.normal ?_
  go_wp2
  go_ret
  exact ⟨by rw [HBL.out]; rfl, B11⟩

end Go.Proofs.YtajbkoggmhgjfaaDoor
