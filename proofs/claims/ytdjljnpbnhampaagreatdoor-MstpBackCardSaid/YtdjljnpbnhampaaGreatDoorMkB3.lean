/- Texts one behind the other. bpdu.Body of what may be. mstp.Write at every message. slices.Equal of lists of instances that are the same. A great value is put into a block of its own: what follows sees the block alone. switchyardkeep.sameMst: of two that are the same. switchyardkeep.treed: a fact: true. errors.As at a target of type *api.Errno, and api.Tell: the Errno of nil, of an Errno, and of an *api.At. errors.As at a target of type *api.Errno: an Errno is found; an *api.At by its Unwrap. api.Tell, plain.Place, and what the laws make of them, at nil, at an Errno, and at an *api.At. Arguments opened: names, vectors, lists of vectors. -/
import Derived.Test.YtdjljnpbnhampaaGreatDoorMkB1
import Derived.Test.YtdjljnpbnhampaaGreatDoorMkB2
import Derived.Test.YtdjljnpbnhampaaGreatDoorBpOk
import Derived.Deep.RegionHeld3
import Derived.Test.YtdjljnpbnhampaaGreatDoorBlk
import Derived.Great.Ranges
import Derived.Test.YtdjljnpbnhampaaGreatDoorFlt
import Derived.LaidEql
import Derived.Stop.Asserts
import Derived.RowKitTokens
import Derived.Lib.Hide
import Derived.Test.YtdjljnpbnhampaaGreatDoorVecs
import Derived.ProofKit
import Derived.OpenShut
import Derived.WideKeyArgs
import Derived.WideShapes
import Derived.Lib.SmallJoins
import Derived.Deep.SlicePairs
namespace Go.Proofs.YtdjljnpbnhampaaGreatDoor
open Go.RowKit
attribute [local go_sem ↓] Go.wp_at_zero Go.wp_at_succ
set_option linter.unusedSimpArgs false
set_option linter.unusedVariables false
set_option maxRecDepth 100000

set_option maxHeartbeats 6400000 in
theorem body_any (b : Bp) (hk : b.k = 1 ∨ b.k = 3) (hok : okBp b = true) (hx : byBp b) (hr : rgBp b) (w : World) :
    Calls Tryz.prog 16 #[.agg (bpC b)] w fun e w' => e = .returned (.string ⟨(bodyL b).toArray⟩) ∧ Below w.heap.size w w' := by
  obtain ⟨hf, hb⟩ := okBp_body hok hk
  obtain ⟨hroot, hsnd, hport, hcost, hage, hmx, hhel, hwai⟩ := okBd_all hb
  have d2 : (b.k == 2) = false := by rcases hk with hk | hk <;> rw [hk] <;> rfl
  have HR := Lib.hid (fun W => bpRight_any b hr W)
  rw [hok] at HR
  have HP1 := Lib.hid (fun W => pack_yes b.root hroot hx.1 W)
  have HP2 := Lib.hid (fun W => pack_yes b.snd hsnd hx.2 W)
  have HP3 := Lib.hid (fun W => packPort_yes b.pp b.pn hport W)
  have HA := Blk.new w 31 (bpC b)
  have B0 : Below w.heap.size w (w.alloc (.cells (bpC b) 31)) := (Below.refl _ _).alloc (Nat.le_refl _) _
  have c0 := HA.cv 0 (.int .i64 b.k) rfl
  go_enter Tryz.func16, Tryz.ntmps16
  go_upto_region 1 with (fail)
  generalize (w.alloc (.cells (bpC b) 31)) = w1 at *
  go_wp2_with (refine load_blk (k := 0) 31 (bpC b) (by rfl) rfl rfl HA (by kernel_rfl) (by kernel_rfl) rfl ?_)
  refine (HR.out _).mono ?_
  rintro e w2 ⟨rfl, k2⟩
  have HA2 := HA.kept k2
  have B2 := B0.trans (k2.mono B0.size)
  go_wp2_with (refine load_blk (k := 8) 27 (brC b.root) (by rfl) rfl rfl HA2 (by kernel_rfl) (by kernel_rfl) rfl ?_)
  refine (HP1.out _).mono ?_
  rintro e w3 ⟨rfl, k3⟩
  have HA3 := HA2.kept k3
  have B3 := B2.trans (k3.mono B2.size)
  go_wp2_with (refine load_blk (k := 17) 27 (brC b.snd) (by rfl) rfl rfl HA3 (by kernel_rfl) (by kernel_rfl) rfl ?_)
  refine (HP2.out _).mono ?_
  rintro e w4 ⟨rfl, k4⟩
  have HA4 := HA3.kept k4
  have B4 := B3.trans (k4.mono B3.size)
  go_wp2_with (refine load_blk (k := 25) 29 (ptC b.pp b.pn) (by rfl) rfl rfl HA4 (by kernel_rfl) (by kernel_rfl) rfl ?_)
  refine (HP3.out _).mono ?_
  rintro e w5 ⟨rfl, k5⟩
  have HA5 := HA4.kept k5
  have B5 := B4.trans (k5.mono B4.size)
  go_upto_region 6 with (fail)
  -- region 6
  have hl0 : (putL (byF b.f) 1).length = 1 := putL_length _ _
  have hl1 := packL_len b.root
  have hl2 : (putL b.cost.toNat 4).length = 4 := putL_length _ _
  have hl3 := packL_len b.snd
  have hl4 : (ppL b.pp b.pn).length = 2 := putL_length _ _
  have hl5 : (tmL b).length = 8 := by simp [tmL, putL_length]
  have HBL : Hid (bodyL b = putL (byF b.f) 1 ++ packL b.root ++ putL b.cost.toNat 4 ++ packL b.snd ++ ppL b.pp b.pn ++ tmL b) := by show _ = _; simp [bodyL, ppL, pprL]
  have hby := byF_lt b.f hf
  have HN1 : Hid (∀ (g : Nat) (W : World), IRow W g [(byF b.f : Int)] → Calls Tryz.prog 45 #[.int .i64 1, .slice (some ⟨g, 0, none⟩) 1 1] W fun e w' => e = .returned (.string ⟨(putL (byF b.f) 1).toArray⟩) ∧ Below W.heap.size W w') := fun g W h => by
    have q := numbers_any 1 (by decide) (by decide) [(byF b.f : Int)] (by simp) (by intro v hv; simp only [List.mem_singleton] at hv; subst hv; simp [fitI]; omega) g W h
    rw [show bwN 1 [(byF b.f : Int)] = putL (byF b.f) 1 by simp [bwN]] at q
    exact q
  have HN4 : Hid (∀ (g : Nat) (W : World), IRow W g [b.cost] → Calls Tryz.prog 45 #[.int .i64 4, .slice (some ⟨g, 0, none⟩) 1 1] W fun e w' => e = .returned (.string ⟨(putL b.cost.toNat 4).toArray⟩) ∧ Below W.heap.size W w') := fun g W h => by
    have q := numbers_any 4 (by decide) (by decide) [b.cost] (by simp) (by intro v hv; simp only [List.mem_singleton] at hv; subst hv; exact hcost) g W h
    rw [show bwN 4 [b.cost] = putL b.cost.toNat 4 by simp [bwN]] at q
    exact q
  have HN2 : Hid (∀ (g : Nat) (W : World), IRow W g [b.age, b.mx, b.hel, b.wai] → Calls Tryz.prog 45 #[.int .i64 2, .slice (some ⟨g, 0, none⟩) 4 4] W fun e w' => e = .returned (.string ⟨(tmL b).toArray⟩) ∧ Below W.heap.size W w') := fun g W h => by
    have q := numbers_any 2 (by decide) (by decide) [b.age, b.mx, b.hel, b.wai] (by simp) (by intro v hv; simp only [List.mem_cons, List.not_mem_nil, or_false] at hv; rcases hv with rfl | rfl | rfl | rfl <;> assumption) g W h
    rw [show bwN 2 [b.age, b.mx, b.hel, b.wai] = tmL b by simp [bwN, tmL]] at q
    exact q
  have HBy := Lib.hid (fun W => byte_any b.f hf W)
  generalize putL (byF b.f) 1 = y0 at *
  generalize packL b.root = y1 at *
  generalize putL b.cost.toNat 4 = y2 at *
  generalize packL b.snd = y3 at *
  generalize ppL b.pp b.pn = y4 at *
  generalize tmL b = y5 at *
  obtain ⟨z1, hz1⟩ : ∃ z, z = y0 ++ y1 := ⟨_, rfl⟩
  have zl1 : z1.length = 9 := by rw [hz1, List.length_append]; omega
  have p1 : ∀ W, (Op.stringOp .add ⟨y0.toArray⟩ ⟨y1.toArray⟩).run Tryz.prog W = .ok (.string ⟨z1.toArray⟩) W := fun W => by rw [hz1]; exact run_string_add_lists W _ _ (by omega) (by omega)
  obtain ⟨z2, hz2⟩ : ∃ z, z = z1 ++ y2 := ⟨_, rfl⟩
  have zl2 : z2.length = 13 := by rw [hz2, List.length_append]; omega
  have p2 : ∀ W, (Op.stringOp .add ⟨z1.toArray⟩ ⟨y2.toArray⟩).run Tryz.prog W = .ok (.string ⟨z2.toArray⟩) W := fun W => by rw [hz2]; exact run_string_add_lists W _ _ (by omega) (by omega)
  obtain ⟨z3, hz3⟩ : ∃ z, z = z2 ++ y3 := ⟨_, rfl⟩
  have zl3 : z3.length = 21 := by rw [hz3, List.length_append]; omega
  have p3 : ∀ W, (Op.stringOp .add ⟨z2.toArray⟩ ⟨y3.toArray⟩).run Tryz.prog W = .ok (.string ⟨z3.toArray⟩) W := fun W => by rw [hz3]; exact run_string_add_lists W _ _ (by omega) (by omega)
  obtain ⟨z4, hz4⟩ : ∃ z, z = z3 ++ y4 := ⟨_, rfl⟩
  have zl4 : z4.length = 23 := by rw [hz4, List.length_append]; omega
  have p4 : ∀ W, (Op.stringOp .add ⟨z3.toArray⟩ ⟨y4.toArray⟩).run Tryz.prog W = .ok (.string ⟨z4.toArray⟩) W := fun W => by rw [hz4]; exact run_string_add_lists W _ _ (by omega) (by omega)
  obtain ⟨z5, hz5⟩ : ∃ z, z = z4 ++ y5 := ⟨_, rfl⟩
  have zl5 : z5.length = 31 := by rw [hz5, List.length_append]; omega
  have p5 : ∀ W, (Op.stringOp .add ⟨z4.toArray⟩ ⟨y5.toArray⟩).run Tryz.prog W = .ok (.string ⟨z5.toArray⟩) W := fun W => by rw [hz5]; exact run_string_add_lists W _ _ (by omega) (by omega)
  replace HBL : Hid (bodyL b = z5) := by show _ = _; rw [HBL.out, hz5, hz4, hz3, hz2, hz1]
  clear hz1 hz2 hz3 hz4 hz5 zl1 zl2 zl3 zl4 zl5
  have D5 := B5.drew
  clear HR HP1 HP2 HP3 B0 B2 B3 B4 HA HA2 HA3 HA4 k2 k3 k4 k5 hroot hsnd hport hcost hage hmx hhel hwai c0 d2 hl0 hl1 hl2 hl3 hl4 hl5 hby hf hb hr hx hok hk
  refine wp_region_noPanic ?_
  refine wp_region_held_drew (S := (fun w' => Blk w' w.heap.size 31 (bpC b))) (by kernel_rfl) ?_ (fun hHeld => ?_)
  · exact HA5
  have A5 := HA5.drew
  refine wpAnyH_take (i := 0) (v := ?_) rfl (by kernel_rfl) (by kernel_rfl) (by kernel_rfl) (fun _ _ _ h => h) (Or.inl ⟨by rfl, ?_⟩) (by assumption) ?_
  rotate_left
  · (intro w hSw; (try dsimp only at hSw); go_simp; (try with_reducible rfl))
  (try simp only [Act.put, List.getElem_toArray, List.getElem_cons_zero, List.getElem_cons_succ, List.setIfInBounds_toArray, List.set_cons_zero, List.set_cons_succ])
  refine wpAnyH_take (i := 1) (v := .agg (flC b.f)) rfl (by kernel_rfl) (by kernel_rfl) (by kernel_rfl) (fun _ _ _ h => h) (Or.inl ⟨by rfl, fun w hSw => exec_load_blk (k := 1) 23 (flC b.f) rfl rfl hSw (by kernel_rfl) (by kernel_rfl) rfl⟩) (by assumption) ?_
  (try simp only [Act.put, List.getElem_toArray, List.getElem_cons_zero, List.getElem_cons_succ, List.setIfInBounds_toArray, List.set_cons_zero, List.set_cons_succ])
  refine wpAnyH_take (i := 5) (v := ?_) rfl (by kernel_rfl) (by kernel_rfl) (by kernel_rfl) (fun _ _ _ h => h) (Or.inl ⟨by rfl, ?_⟩) (by assumption) ?_
  rotate_left
  · (intro w hSw; (try dsimp only at hSw); go_simp; (try with_reducible rfl))
  (try simp only [Act.put, List.getElem_toArray, List.getElem_cons_zero, List.getElem_cons_succ, List.setIfInBounds_toArray, List.set_cons_zero, List.set_cons_succ])
  refine wpAnyH_take (i := 7) (v := ?_) rfl (by kernel_rfl) (by kernel_rfl) (by kernel_rfl) (fun _ _ _ h => h) (Or.inl ⟨by rfl, ?_⟩) (by assumption) ?_
  rotate_left
  · (intro w hSw; (try dsimp only at hSw); go_simp; (try with_reducible rfl))
  (try simp only [Act.put, List.getElem_toArray, List.getElem_cons_zero, List.getElem_cons_succ, List.setIfInBounds_toArray, List.set_cons_zero, List.set_cons_succ])
  refine wpAnyH_take (i := 8) (v := .int .i64 b.cost) rfl (by kernel_rfl) (by kernel_rfl) (by kernel_rfl) (fun _ _ _ h => h) (Or.inl ⟨by rfl, fun w hSw => by have c := hSw.cv 16 (.int .i64 b.cost) rfl; go_simp⟩) (by assumption) ?_
  (try simp only [Act.put, List.getElem_toArray, List.getElem_cons_zero, List.getElem_cons_succ, List.setIfInBounds_toArray, List.set_cons_zero, List.set_cons_succ])
  refine wpAnyH_take (i := 12) (v := ?_) rfl (by kernel_rfl) (by kernel_rfl) (by kernel_rfl) (fun _ _ _ h => h) (Or.inl ⟨by rfl, ?_⟩) (by assumption) ?_
  rotate_left
  · (intro w hSw; (try dsimp only at hSw); go_simp; (try with_reducible rfl))
  (try simp only [Act.put, List.getElem_toArray, List.getElem_cons_zero, List.getElem_cons_succ, List.setIfInBounds_toArray, List.set_cons_zero, List.set_cons_succ])
  refine wpAnyH_take (i := 14) (v := ?_) rfl (by kernel_rfl) (by kernel_rfl) (by kernel_rfl) (fun _ _ _ h => h) (Or.inl ⟨by rfl, ?_⟩) (by assumption) ?_
  rotate_left
  · (intro w hSw; (try dsimp only at hSw); go_simp; (try with_reducible rfl))
  (try simp only [Act.put, List.getElem_toArray, List.getElem_cons_zero, List.getElem_cons_succ, List.setIfInBounds_toArray, List.set_cons_zero, List.set_cons_succ])
  refine wpAnyH_take (i := 16) (v := ?_) rfl (by kernel_rfl) (by kernel_rfl) (by kernel_rfl) (fun _ _ _ h => h) (Or.inl ⟨by rfl, ?_⟩) (by assumption) ?_
  rotate_left
  · (intro w hSw; (try dsimp only at hSw); go_simp; (try with_reducible rfl))
  (try simp only [Act.put, List.getElem_toArray, List.getElem_cons_zero, List.getElem_cons_succ, List.setIfInBounds_toArray, List.set_cons_zero, List.set_cons_succ])
  refine wpAnyH_take (i := 17) (v := .int .i64 b.age) rfl (by kernel_rfl) (by kernel_rfl) (by kernel_rfl) (fun _ _ _ h => h) (Or.inl ⟨by rfl, fun w hSw => by have c := hSw.cv 27 (.int .i64 b.age) rfl; go_simp⟩) (by assumption) ?_
  (try simp only [Act.put, List.getElem_toArray, List.getElem_cons_zero, List.getElem_cons_succ, List.setIfInBounds_toArray, List.set_cons_zero, List.set_cons_succ])
  refine wpAnyH_take (i := 18) (v := ?_) rfl (by kernel_rfl) (by kernel_rfl) (by kernel_rfl) (fun _ _ _ h => h) (Or.inl ⟨by rfl, ?_⟩) (by assumption) ?_
  rotate_left
  · (intro w hSw; (try dsimp only at hSw); go_simp; (try with_reducible rfl))
  (try simp only [Act.put, List.getElem_toArray, List.getElem_cons_zero, List.getElem_cons_succ, List.setIfInBounds_toArray, List.set_cons_zero, List.set_cons_succ])
  refine wpAnyH_take (i := 19) (v := .int .i64 b.mx) rfl (by kernel_rfl) (by kernel_rfl) (by kernel_rfl) (fun _ _ _ h => h) (Or.inl ⟨by rfl, fun w hSw => by have c := hSw.cv 28 (.int .i64 b.mx) rfl; go_simp⟩) (by assumption) ?_
  (try simp only [Act.put, List.getElem_toArray, List.getElem_cons_zero, List.getElem_cons_succ, List.setIfInBounds_toArray, List.set_cons_zero, List.set_cons_succ])
  refine wpAnyH_take (i := 20) (v := ?_) rfl (by kernel_rfl) (by kernel_rfl) (by kernel_rfl) (fun _ _ _ h => h) (Or.inl ⟨by rfl, ?_⟩) (by assumption) ?_
  rotate_left
  · (intro w hSw; (try dsimp only at hSw); go_simp; (try with_reducible rfl))
  (try simp only [Act.put, List.getElem_toArray, List.getElem_cons_zero, List.getElem_cons_succ, List.setIfInBounds_toArray, List.set_cons_zero, List.set_cons_succ])
  refine wpAnyH_take (i := 21) (v := .int .i64 b.hel) rfl (by kernel_rfl) (by kernel_rfl) (by kernel_rfl) (fun _ _ _ h => h) (Or.inl ⟨by rfl, fun w hSw => by have c := hSw.cv 29 (.int .i64 b.hel) rfl; go_simp⟩) (by assumption) ?_
  (try simp only [Act.put, List.getElem_toArray, List.getElem_cons_zero, List.getElem_cons_succ, List.setIfInBounds_toArray, List.set_cons_zero, List.set_cons_succ])
  refine wpAnyH_take (i := 22) (v := ?_) rfl (by kernel_rfl) (by kernel_rfl) (by kernel_rfl) (fun _ _ _ h => h) (Or.inl ⟨by rfl, ?_⟩) (by assumption) ?_
  rotate_left
  · (intro w hSw; (try dsimp only at hSw); go_simp; (try with_reducible rfl))
  (try simp only [Act.put, List.getElem_toArray, List.getElem_cons_zero, List.getElem_cons_succ, List.setIfInBounds_toArray, List.set_cons_zero, List.set_cons_succ])
  refine wpAnyH_take (i := 23) (v := .int .i64 b.wai) rfl (by kernel_rfl) (by kernel_rfl) (by kernel_rfl) (fun _ _ _ h => h) (Or.inl ⟨by rfl, fun w hSw => by have c := hSw.cv 30 (.int .i64 b.wai) rfl; go_simp⟩) (by assumption) ?_
  (try simp only [Act.put, List.getElem_toArray, List.getElem_cons_zero, List.getElem_cons_succ, List.setIfInBounds_toArray, List.set_cons_zero, List.set_cons_succ])
  generalize w5.drew = wd at *
  refine wpAnyH_ready (rs := [2, 9, 24]) (by kernel_rfl) (by simp) ?_
  refine (AllReadyH.cons rfl (fun K hK => ?_) (AllReadyH.cons rfl (fun K hK => ?_) (AllReadyH.cons rfl (fun K hK => ?_) AllReadyH.nil)))
  · simp only [List.getElem_toArray, List.getElem_cons_zero, List.getElem_cons_succ]
    go_simp
    with_reducible refine (HBy.out _).mono ?_
    rintro e v11 ⟨rfl, k11⟩
    have B11 := D5.trans (k11.mono D5.size)
    have A11 := A5.kept k11
    refine hK.out _ _ A11 (fun hHeld => ?_)
    clear hK K
    (try simp only [Act.put, List.getElem_toArray, List.getElem_cons_zero, List.getElem_cons_succ, List.setIfInBounds_toArray, List.set_cons_zero, List.set_cons_succ])
    refine wpAnyH_ready (rs := [3, 9, 24]) (by kernel_rfl) (by simp) ?_
    refine (AllReadyH.cons rfl (fun K hK => ?_) (AllReadyH.cons rfl (fun K hK => ?_) (AllReadyH.cons rfl (fun K hK => ?_) AllReadyH.nil)))
    · simp only [List.getElem_toArray, List.getElem_cons_zero, List.getElem_cons_succ]
      go_simp
      have I12 := IRow.new1 (v11) (byF b.f : Int) 3
      have B12 := B11.alloc B11.size (.cells #[.int .i64 (byF b.f : Int)] 3)
      have A12 := A11.alloc (.cells #[.int .i64 (byF b.f : Int)] 3)
      generalize (v11).heap.size = g12 at *
      generalize (v11).alloc (.cells #[.int .i64 (byF b.f : Int)] 3) = v12 at *
      refine hK.out _ _ A12 (fun hHeld => ?_)
      clear hK K
      (try simp only [Act.put, List.getElem_toArray, List.getElem_cons_zero, List.getElem_cons_succ, List.setIfInBounds_toArray, List.set_cons_zero, List.set_cons_succ])
      refine wpAnyH_ready (rs := [4, 9, 24]) (by kernel_rfl) (by simp) ?_
      refine (AllReadyH.cons rfl (fun K hK => ?_) (AllReadyH.cons rfl (fun K hK => ?_) (AllReadyH.cons rfl (fun K hK => ?_) AllReadyH.nil)))
      · simp only [List.getElem_toArray, List.getElem_cons_zero, List.getElem_cons_succ]
        go_simp
        with_reducible refine (HN1.out _ _ I12).mono ?_
        rintro e v13 ⟨rfl, k13⟩
        have B13 := B12.trans (k13.mono B12.size)
        have A13 := A12.kept k13
        refine hK.out _ _ A13 (fun hHeld => ?_)
        clear hK K
        (try simp only [Act.put, List.getElem_toArray, List.getElem_cons_zero, List.getElem_cons_succ, List.setIfInBounds_toArray, List.set_cons_zero, List.set_cons_succ])
        refine wpAnyH_take (i := 6) (v := .string ⟨z1.toArray⟩) rfl (by kernel_rfl) (by kernel_rfl) (by kernel_rfl) (fun _ _ _ h => h) (Or.inl ⟨by rfl, fun w hSw => by go_simp⟩) (by assumption) ?_
        (try simp only [Act.put, List.getElem_toArray, List.getElem_cons_zero, List.getElem_cons_succ, List.setIfInBounds_toArray, List.set_cons_zero, List.set_cons_succ])
        refine wpAnyH_ready (rs := [9, 24]) (by kernel_rfl) (by simp) ?_
        refine (AllReadyH.cons rfl (fun K hK => ?_) (AllReadyH.cons rfl (fun K hK => ?_) AllReadyH.nil))
        · simp only [List.getElem_toArray, List.getElem_cons_zero, List.getElem_cons_succ]
          go_simp
          have I14 := IRow.new1 (v13) b.cost 3
          have B14 := B13.alloc B13.size (.cells #[.int .i64 b.cost] 3)
          have A14 := A13.alloc (.cells #[.int .i64 b.cost] 3)
          generalize (v13).heap.size = g14 at *
          generalize (v13).alloc (.cells #[.int .i64 b.cost] 3) = v14 at *
          refine hK.out _ _ A14 (fun hHeld => ?_)
          clear hK K
          (try simp only [Act.put, List.getElem_toArray, List.getElem_cons_zero, List.getElem_cons_succ, List.setIfInBounds_toArray, List.set_cons_zero, List.set_cons_succ])
          refine wpAnyH_ready (rs := [10, 24]) (by kernel_rfl) (by simp) ?_
          refine (AllReadyH.cons rfl (fun K hK => ?_) (AllReadyH.cons rfl (fun K hK => ?_) AllReadyH.nil))
          · simp only [List.getElem_toArray, List.getElem_cons_zero, List.getElem_cons_succ]
            go_simp
            with_reducible refine (HN4.out _ _ I14).mono ?_
            rintro e v15 ⟨rfl, k15⟩
            have B15 := B14.trans (k15.mono B14.size)
            have A15 := A14.kept k15
            refine hK.out _ _ A15 (fun hHeld => ?_)
            clear hK K
            (try simp only [Act.put, List.getElem_toArray, List.getElem_cons_zero, List.getElem_cons_succ, List.setIfInBounds_toArray, List.set_cons_zero, List.set_cons_succ])
            refine wpAnyH_take (i := 11) (v := .string ⟨z2.toArray⟩) rfl (by kernel_rfl) (by kernel_rfl) (by kernel_rfl) (fun _ _ _ h => h) (Or.inl ⟨by rfl, fun w hSw => by go_simp⟩) (by assumption) ?_
            (try simp only [Act.put, List.getElem_toArray, List.getElem_cons_zero, List.getElem_cons_succ, List.setIfInBounds_toArray, List.set_cons_zero, List.set_cons_succ])
            refine wpAnyH_take (i := 13) (v := .string ⟨z3.toArray⟩) rfl (by kernel_rfl) (by kernel_rfl) (by kernel_rfl) (fun _ _ _ h => h) (Or.inl ⟨by rfl, fun w hSw => by go_simp⟩) (by assumption) ?_
            (try simp only [Act.put, List.getElem_toArray, List.getElem_cons_zero, List.getElem_cons_succ, List.setIfInBounds_toArray, List.set_cons_zero, List.set_cons_succ])
            refine wpAnyH_take (i := 15) (v := .string ⟨z4.toArray⟩) rfl (by kernel_rfl) (by kernel_rfl) (by kernel_rfl) (fun _ _ _ h => h) (Or.inl ⟨by rfl, fun w hSw => by go_simp⟩) (by assumption) ?_
            (try simp only [Act.put, List.getElem_toArray, List.getElem_cons_zero, List.getElem_cons_succ, List.setIfInBounds_toArray, List.set_cons_zero, List.set_cons_succ])
            refine wpAnyH_ready (rs := [24]) (by kernel_rfl) (by simp) ?_
            refine (AllReadyH.cons rfl (fun K hK => ?_) AllReadyH.nil)
            simp only [List.getElem_toArray, List.getElem_cons_zero, List.getElem_cons_succ]
            go_simp
            have I16 := IRow.new4 (v15) b.age b.mx b.hel b.wai 3
            have B16 := B15.alloc B15.size (.cells #[.int .i64 b.age, .int .i64 b.mx, .int .i64 b.hel, .int .i64 b.wai] 3)
            have A16 := A15.alloc (.cells #[.int .i64 b.age, .int .i64 b.mx, .int .i64 b.hel, .int .i64 b.wai] 3)
            generalize (v15).heap.size = g16 at *
            generalize (v15).alloc (.cells #[.int .i64 b.age, .int .i64 b.mx, .int .i64 b.hel, .int .i64 b.wai] 3) = v16 at *
            refine hK.out _ _ A16 (fun hHeld => ?_)
            clear hK K
            (try simp only [Act.put, List.getElem_toArray, List.getElem_cons_zero, List.getElem_cons_succ, List.setIfInBounds_toArray, List.set_cons_zero, List.set_cons_succ])
            refine wpAnyH_ready (rs := [25]) (by kernel_rfl) (by simp) ?_
            refine (AllReadyH.cons rfl (fun K hK => ?_) AllReadyH.nil)
            simp only [List.getElem_toArray, List.getElem_cons_zero, List.getElem_cons_succ]
            go_simp
            with_reducible refine (HN2.out _ _ I16).mono ?_
            rintro e v17 ⟨rfl, k17⟩
            have B17 := B16.trans (k17.mono B16.size)
            have A17 := A16.kept k17
            refine hK.out _ _ A17 (fun hHeld => ?_)
            clear hK K
            (try simp only [Act.put, List.getElem_toArray, List.getElem_cons_zero, List.getElem_cons_succ, List.setIfInBounds_toArray, List.set_cons_zero, List.set_cons_succ])
            refine wpAnyH_take (i := 26) (v := ?_) rfl (by kernel_rfl) (by kernel_rfl) (by kernel_rfl) (fun _ _ _ h => h) (Or.inl ⟨by rfl, ?_⟩) (by assumption) ?_
            rotate_left
            · (intro w hSw; (try dsimp only at hSw); go_simp; (try with_reducible rfl))
            (try simp only [Act.put, List.getElem_toArray, List.getElem_cons_zero, List.getElem_cons_succ, List.setIfInBounds_toArray, List.set_cons_zero, List.set_cons_succ])
            refine wpAnyH_take (i := 27) (v := ?_) rfl (by kernel_rfl) (by kernel_rfl) (by kernel_rfl) (fun _ _ _ h => h) (Or.inl ⟨by rfl, ?_⟩) (by assumption) ?_
            rotate_left
            · (intro w hSw; (try dsimp only at hSw); go_simp; (try with_reducible rfl))
            (try simp only [Act.put, List.getElem_toArray, List.getElem_cons_zero, List.getElem_cons_succ, List.setIfInBounds_toArray, List.set_cons_zero, List.set_cons_succ])
            refine wpAnyH_done (by kernel_rfl) ?_ _
            refine NoPanic.normal ?_
            go_wp2
            go_ret
            exact ⟨by rw [HBL.out]; rfl, B17⟩
          · simp only [List.getElem_toArray, List.getElem_cons_zero, List.getElem_cons_succ]
            go_simp
            have I18 := IRow.new4 (v14) b.age b.mx b.hel b.wai 3
            have J18_9 : IRow ((v14).alloc (.cells #[.int .i64 b.age, .int .i64 b.mx, .int .i64 b.hel, .int .i64 b.wai] 3)) g14 [b.cost] := I14.below ((Below.refl _ _).alloc (Nat.le_refl _) (.cells #[.int .i64 b.age, .int .i64 b.mx, .int .i64 b.hel, .int .i64 b.wai] 3))
            have B18 := B14.alloc B14.size (.cells #[.int .i64 b.age, .int .i64 b.mx, .int .i64 b.hel, .int .i64 b.wai] 3)
            have A18 := A14.alloc (.cells #[.int .i64 b.age, .int .i64 b.mx, .int .i64 b.hel, .int .i64 b.wai] 3)
            generalize (v14).heap.size = g18 at *
            generalize (v14).alloc (.cells #[.int .i64 b.age, .int .i64 b.mx, .int .i64 b.hel, .int .i64 b.wai] 3) = v18 at *
            refine hK.out _ _ A18 (fun hHeld => ?_)
            clear hK K
            (try simp only [Act.put, List.getElem_toArray, List.getElem_cons_zero, List.getElem_cons_succ, List.setIfInBounds_toArray, List.set_cons_zero, List.set_cons_succ])
            refine wpAnyH_ready (rs := [10]) (by kernel_rfl) (by simp) ?_
            refine (AllReadyH.cons rfl (fun K hK => ?_) AllReadyH.nil)
            simp only [List.getElem_toArray, List.getElem_cons_zero, List.getElem_cons_succ]
            go_simp
            with_reducible refine (HN4.out _ _ J18_9).mono ?_
            rintro e v19 ⟨rfl, k19⟩
            have J19_24 := I18.below k19
            have B19 := B18.trans (k19.mono B18.size)
            have A19 := A18.kept k19
            refine hK.out _ _ A19 (fun hHeld => ?_)
            clear hK K
            (try simp only [Act.put, List.getElem_toArray, List.getElem_cons_zero, List.getElem_cons_succ, List.setIfInBounds_toArray, List.set_cons_zero, List.set_cons_succ])
            refine wpAnyH_take (i := 11) (v := .string ⟨z2.toArray⟩) rfl (by kernel_rfl) (by kernel_rfl) (by kernel_rfl) (fun _ _ _ h => h) (Or.inl ⟨by rfl, fun w hSw => by go_simp⟩) (by assumption) ?_
            (try simp only [Act.put, List.getElem_toArray, List.getElem_cons_zero, List.getElem_cons_succ, List.setIfInBounds_toArray, List.set_cons_zero, List.set_cons_succ])
            refine wpAnyH_take (i := 13) (v := .string ⟨z3.toArray⟩) rfl (by kernel_rfl) (by kernel_rfl) (by kernel_rfl) (fun _ _ _ h => h) (Or.inl ⟨by rfl, fun w hSw => by go_simp⟩) (by assumption) ?_
            (try simp only [Act.put, List.getElem_toArray, List.getElem_cons_zero, List.getElem_cons_succ, List.setIfInBounds_toArray, List.set_cons_zero, List.set_cons_succ])
            refine wpAnyH_take (i := 15) (v := .string ⟨z4.toArray⟩) rfl (by kernel_rfl) (by kernel_rfl) (by kernel_rfl) (fun _ _ _ h => h) (Or.inl ⟨by rfl, fun w hSw => by go_simp⟩) (by assumption) ?_
            (try simp only [Act.put, List.getElem_toArray, List.getElem_cons_zero, List.getElem_cons_succ, List.setIfInBounds_toArray, List.set_cons_zero, List.set_cons_succ])
            refine wpAnyH_ready (rs := [25]) (by kernel_rfl) (by simp) ?_
            refine (AllReadyH.cons rfl (fun K hK => ?_) AllReadyH.nil)
            simp only [List.getElem_toArray, List.getElem_cons_zero, List.getElem_cons_succ]
            go_simp
            with_reducible refine (HN2.out _ _ J19_24).mono ?_
            rintro e v20 ⟨rfl, k20⟩
            have B20 := B19.trans (k20.mono B19.size)
            have A20 := A19.kept k20
            refine hK.out _ _ A20 (fun hHeld => ?_)
            clear hK K
            (try simp only [Act.put, List.getElem_toArray, List.getElem_cons_zero, List.getElem_cons_succ, List.setIfInBounds_toArray, List.set_cons_zero, List.set_cons_succ])
            refine wpAnyH_take (i := 26) (v := ?_) rfl (by kernel_rfl) (by kernel_rfl) (by kernel_rfl) (fun _ _ _ h => h) (Or.inl ⟨by rfl, ?_⟩) (by assumption) ?_
            rotate_left
            · (intro w hSw; (try dsimp only at hSw); go_simp; (try with_reducible rfl))
            (try simp only [Act.put, List.getElem_toArray, List.getElem_cons_zero, List.getElem_cons_succ, List.setIfInBounds_toArray, List.set_cons_zero, List.set_cons_succ])
            refine wpAnyH_take (i := 27) (v := ?_) rfl (by kernel_rfl) (by kernel_rfl) (by kernel_rfl) (fun _ _ _ h => h) (Or.inl ⟨by rfl, ?_⟩) (by assumption) ?_
            rotate_left
            · (intro w hSw; (try dsimp only at hSw); go_simp; (try with_reducible rfl))
            (try simp only [Act.put, List.getElem_toArray, List.getElem_cons_zero, List.getElem_cons_succ, List.setIfInBounds_toArray, List.set_cons_zero, List.set_cons_succ])
            refine wpAnyH_done (by kernel_rfl) ?_ _
            refine NoPanic.normal ?_
            go_wp2
            go_ret
            exact ⟨by rw [HBL.out]; rfl, B20⟩
        · simp only [List.getElem_toArray, List.getElem_cons_zero, List.getElem_cons_succ]
          go_simp
          have I21 := IRow.new4 (v13) b.age b.mx b.hel b.wai 3
          have B21 := B13.alloc B13.size (.cells #[.int .i64 b.age, .int .i64 b.mx, .int .i64 b.hel, .int .i64 b.wai] 3)
          have A21 := A13.alloc (.cells #[.int .i64 b.age, .int .i64 b.mx, .int .i64 b.hel, .int .i64 b.wai] 3)
          generalize (v13).heap.size = g21 at *
          generalize (v13).alloc (.cells #[.int .i64 b.age, .int .i64 b.mx, .int .i64 b.hel, .int .i64 b.wai] 3) = v21 at *
          refine hK.out _ _ A21 (fun hHeld => ?_)
          clear hK K
          (try simp only [Act.put, List.getElem_toArray, List.getElem_cons_zero, List.getElem_cons_succ, List.setIfInBounds_toArray, List.set_cons_zero, List.set_cons_succ])
          refine wpAnyH_ready (rs := [9]) (by kernel_rfl) (by simp) ?_
          refine (AllReadyH.cons rfl (fun K hK => ?_) AllReadyH.nil)
          simp only [List.getElem_toArray, List.getElem_cons_zero, List.getElem_cons_succ]
          go_simp
          have I22 := IRow.new1 (v21) b.cost 3
          have J22_24 : IRow ((v21).alloc (.cells #[.int .i64 b.cost] 3)) g21 [b.age, b.mx, b.hel, b.wai] := I21.below ((Below.refl _ _).alloc (Nat.le_refl _) (.cells #[.int .i64 b.cost] 3))
          have B22 := B21.alloc B21.size (.cells #[.int .i64 b.cost] 3)
          have A22 := A21.alloc (.cells #[.int .i64 b.cost] 3)
          generalize (v21).heap.size = g22 at *
          generalize (v21).alloc (.cells #[.int .i64 b.cost] 3) = v22 at *
          refine hK.out _ _ A22 (fun hHeld => ?_)
          clear hK K
          (try simp only [Act.put, List.getElem_toArray, List.getElem_cons_zero, List.getElem_cons_succ, List.setIfInBounds_toArray, List.set_cons_zero, List.set_cons_succ])
          refine wpAnyH_ready (rs := [10]) (by kernel_rfl) (by simp) ?_
          refine (AllReadyH.cons rfl (fun K hK => ?_) AllReadyH.nil)
          simp only [List.getElem_toArray, List.getElem_cons_zero, List.getElem_cons_succ]
          go_simp
          with_reducible refine (HN4.out _ _ I22).mono ?_
          rintro e v23 ⟨rfl, k23⟩
          have J23_24 := J22_24.below k23
          have B23 := B22.trans (k23.mono B22.size)
          have A23 := A22.kept k23
          refine hK.out _ _ A23 (fun hHeld => ?_)
          clear hK K
          (try simp only [Act.put, List.getElem_toArray, List.getElem_cons_zero, List.getElem_cons_succ, List.setIfInBounds_toArray, List.set_cons_zero, List.set_cons_succ])
          refine wpAnyH_take (i := 11) (v := .string ⟨z2.toArray⟩) rfl (by kernel_rfl) (by kernel_rfl) (by kernel_rfl) (fun _ _ _ h => h) (Or.inl ⟨by rfl, fun w hSw => by go_simp⟩) (by assumption) ?_
          (try simp only [Act.put, List.getElem_toArray, List.getElem_cons_zero, List.getElem_cons_succ, List.setIfInBounds_toArray, List.set_cons_zero, List.set_cons_succ])
          refine wpAnyH_take (i := 13) (v := .string ⟨z3.toArray⟩) rfl (by kernel_rfl) (by kernel_rfl) (by kernel_rfl) (fun _ _ _ h => h) (Or.inl ⟨by rfl, fun w hSw => by go_simp⟩) (by assumption) ?_
          (try simp only [Act.put, List.getElem_toArray, List.getElem_cons_zero, List.getElem_cons_succ, List.setIfInBounds_toArray, List.set_cons_zero, List.set_cons_succ])
          refine wpAnyH_take (i := 15) (v := .string ⟨z4.toArray⟩) rfl (by kernel_rfl) (by kernel_rfl) (by kernel_rfl) (fun _ _ _ h => h) (Or.inl ⟨by rfl, fun w hSw => by go_simp⟩) (by assumption) ?_
          (try simp only [Act.put, List.getElem_toArray, List.getElem_cons_zero, List.getElem_cons_succ, List.setIfInBounds_toArray, List.set_cons_zero, List.set_cons_succ])
          refine wpAnyH_ready (rs := [25]) (by kernel_rfl) (by simp) ?_
          refine (AllReadyH.cons rfl (fun K hK => ?_) AllReadyH.nil)
          simp only [List.getElem_toArray, List.getElem_cons_zero, List.getElem_cons_succ]
          go_simp
          with_reducible refine (HN2.out _ _ J23_24).mono ?_
          rintro e v24 ⟨rfl, k24⟩
          have B24 := B23.trans (k24.mono B23.size)
          have A24 := A23.kept k24
          refine hK.out _ _ A24 (fun hHeld => ?_)
          clear hK K
          (try simp only [Act.put, List.getElem_toArray, List.getElem_cons_zero, List.getElem_cons_succ, List.setIfInBounds_toArray, List.set_cons_zero, List.set_cons_succ])
          refine wpAnyH_take (i := 26) (v := ?_) rfl (by kernel_rfl) (by kernel_rfl) (by kernel_rfl) (fun _ _ _ h => h) (Or.inl ⟨by rfl, ?_⟩) (by assumption) ?_
          rotate_left
          · (intro w hSw; (try dsimp only at hSw); go_simp; (try with_reducible rfl))
          (try simp only [Act.put, List.getElem_toArray, List.getElem_cons_zero, List.getElem_cons_succ, List.setIfInBounds_toArray, List.set_cons_zero, List.set_cons_succ])
          refine wpAnyH_take (i := 27) (v := ?_) rfl (by kernel_rfl) (by kernel_rfl) (by kernel_rfl) (fun _ _ _ h => h) (Or.inl ⟨by rfl, ?_⟩) (by assumption) ?_
          rotate_left
          · (intro w hSw; (try dsimp only at hSw); go_simp; (try with_reducible rfl))
          (try simp only [Act.put, List.getElem_toArray, List.getElem_cons_zero, List.getElem_cons_succ, List.setIfInBounds_toArray, List.set_cons_zero, List.set_cons_succ])
          refine wpAnyH_done (by kernel_rfl) ?_ _
          refine NoPanic.normal ?_
          go_wp2
          go_ret
          exact ⟨by rw [HBL.out]; rfl, B24⟩
      · simp only [List.getElem_toArray, List.getElem_cons_zero, List.getElem_cons_succ]
        go_simp
        have I25 := IRow.new1 (v12) b.cost 3
        have J25_3 : IRow ((v12).alloc (.cells #[.int .i64 b.cost] 3)) g12 [(byF b.f : Int)] := I12.below ((Below.refl _ _).alloc (Nat.le_refl _) (.cells #[.int .i64 b.cost] 3))
        have B25 := B12.alloc B12.size (.cells #[.int .i64 b.cost] 3)
        have A25 := A12.alloc (.cells #[.int .i64 b.cost] 3)
        generalize (v12).heap.size = g25 at *
        generalize (v12).alloc (.cells #[.int .i64 b.cost] 3) = v25 at *
        refine hK.out _ _ A25 (fun hHeld => ?_)
        clear hK K
        (try simp only [Act.put, List.getElem_toArray, List.getElem_cons_zero, List.getElem_cons_succ, List.setIfInBounds_toArray, List.set_cons_zero, List.set_cons_succ])
        refine wpAnyH_ready (rs := [4, 24]) (by kernel_rfl) (by simp) ?_
        refine (AllReadyH.cons rfl (fun K hK => ?_) (AllReadyH.cons rfl (fun K hK => ?_) AllReadyH.nil))
        · simp only [List.getElem_toArray, List.getElem_cons_zero, List.getElem_cons_succ]
          go_simp
          with_reducible refine (HN1.out _ _ J25_3).mono ?_
          rintro e v26 ⟨rfl, k26⟩
          have J26_9 := I25.below k26
          have B26 := B25.trans (k26.mono B25.size)
          have A26 := A25.kept k26
          refine hK.out _ _ A26 (fun hHeld => ?_)
          clear hK K
          (try simp only [Act.put, List.getElem_toArray, List.getElem_cons_zero, List.getElem_cons_succ, List.setIfInBounds_toArray, List.set_cons_zero, List.set_cons_succ])
          refine wpAnyH_take (i := 6) (v := .string ⟨z1.toArray⟩) rfl (by kernel_rfl) (by kernel_rfl) (by kernel_rfl) (fun _ _ _ h => h) (Or.inl ⟨by rfl, fun w hSw => by go_simp⟩) (by assumption) ?_
          (try simp only [Act.put, List.getElem_toArray, List.getElem_cons_zero, List.getElem_cons_succ, List.setIfInBounds_toArray, List.set_cons_zero, List.set_cons_succ])
          refine wpAnyH_ready (rs := [10, 24]) (by kernel_rfl) (by simp) ?_
          refine (AllReadyH.cons rfl (fun K hK => ?_) (AllReadyH.cons rfl (fun K hK => ?_) AllReadyH.nil))
          · simp only [List.getElem_toArray, List.getElem_cons_zero, List.getElem_cons_succ]
            go_simp
            with_reducible refine (HN4.out _ _ J26_9).mono ?_
            rintro e v27 ⟨rfl, k27⟩
            have B27 := B26.trans (k27.mono B26.size)
            have A27 := A26.kept k27
            refine hK.out _ _ A27 (fun hHeld => ?_)
            clear hK K
            (try simp only [Act.put, List.getElem_toArray, List.getElem_cons_zero, List.getElem_cons_succ, List.setIfInBounds_toArray, List.set_cons_zero, List.set_cons_succ])
            refine wpAnyH_take (i := 11) (v := .string ⟨z2.toArray⟩) rfl (by kernel_rfl) (by kernel_rfl) (by kernel_rfl) (fun _ _ _ h => h) (Or.inl ⟨by rfl, fun w hSw => by go_simp⟩) (by assumption) ?_
            (try simp only [Act.put, List.getElem_toArray, List.getElem_cons_zero, List.getElem_cons_succ, List.setIfInBounds_toArray, List.set_cons_zero, List.set_cons_succ])
            refine wpAnyH_take (i := 13) (v := .string ⟨z3.toArray⟩) rfl (by kernel_rfl) (by kernel_rfl) (by kernel_rfl) (fun _ _ _ h => h) (Or.inl ⟨by rfl, fun w hSw => by go_simp⟩) (by assumption) ?_
            (try simp only [Act.put, List.getElem_toArray, List.getElem_cons_zero, List.getElem_cons_succ, List.setIfInBounds_toArray, List.set_cons_zero, List.set_cons_succ])
            refine wpAnyH_take (i := 15) (v := .string ⟨z4.toArray⟩) rfl (by kernel_rfl) (by kernel_rfl) (by kernel_rfl) (fun _ _ _ h => h) (Or.inl ⟨by rfl, fun w hSw => by go_simp⟩) (by assumption) ?_
            (try simp only [Act.put, List.getElem_toArray, List.getElem_cons_zero, List.getElem_cons_succ, List.setIfInBounds_toArray, List.set_cons_zero, List.set_cons_succ])
            refine wpAnyH_ready (rs := [24]) (by kernel_rfl) (by simp) ?_
            refine (AllReadyH.cons rfl (fun K hK => ?_) AllReadyH.nil)
            simp only [List.getElem_toArray, List.getElem_cons_zero, List.getElem_cons_succ]
            go_simp
            have I28 := IRow.new4 (v27) b.age b.mx b.hel b.wai 3
            have B28 := B27.alloc B27.size (.cells #[.int .i64 b.age, .int .i64 b.mx, .int .i64 b.hel, .int .i64 b.wai] 3)
            have A28 := A27.alloc (.cells #[.int .i64 b.age, .int .i64 b.mx, .int .i64 b.hel, .int .i64 b.wai] 3)
            generalize (v27).heap.size = g28 at *
            generalize (v27).alloc (.cells #[.int .i64 b.age, .int .i64 b.mx, .int .i64 b.hel, .int .i64 b.wai] 3) = v28 at *
            refine hK.out _ _ A28 (fun hHeld => ?_)
            clear hK K
            (try simp only [Act.put, List.getElem_toArray, List.getElem_cons_zero, List.getElem_cons_succ, List.setIfInBounds_toArray, List.set_cons_zero, List.set_cons_succ])
            refine wpAnyH_ready (rs := [25]) (by kernel_rfl) (by simp) ?_
            refine (AllReadyH.cons rfl (fun K hK => ?_) AllReadyH.nil)
            simp only [List.getElem_toArray, List.getElem_cons_zero, List.getElem_cons_succ]
            go_simp
            with_reducible refine (HN2.out _ _ I28).mono ?_
            rintro e v29 ⟨rfl, k29⟩
            have B29 := B28.trans (k29.mono B28.size)
            have A29 := A28.kept k29
            refine hK.out _ _ A29 (fun hHeld => ?_)
            clear hK K
            (try simp only [Act.put, List.getElem_toArray, List.getElem_cons_zero, List.getElem_cons_succ, List.setIfInBounds_toArray, List.set_cons_zero, List.set_cons_succ])
            refine wpAnyH_take (i := 26) (v := ?_) rfl (by kernel_rfl) (by kernel_rfl) (by kernel_rfl) (fun _ _ _ h => h) (Or.inl ⟨by rfl, ?_⟩) (by assumption) ?_
            rotate_left
            · (intro w hSw; (try dsimp only at hSw); go_simp; (try with_reducible rfl))
            (try simp only [Act.put, List.getElem_toArray, List.getElem_cons_zero, List.getElem_cons_succ, List.setIfInBounds_toArray, List.set_cons_zero, List.set_cons_succ])
            refine wpAnyH_take (i := 27) (v := ?_) rfl (by kernel_rfl) (by kernel_rfl) (by kernel_rfl) (fun _ _ _ h => h) (Or.inl ⟨by rfl, ?_⟩) (by assumption) ?_
            rotate_left
            · (intro w hSw; (try dsimp only at hSw); go_simp; (try with_reducible rfl))
            (try simp only [Act.put, List.getElem_toArray, List.getElem_cons_zero, List.getElem_cons_succ, List.setIfInBounds_toArray, List.set_cons_zero, List.set_cons_succ])
            refine wpAnyH_done (by kernel_rfl) ?_ _
            refine NoPanic.normal ?_
            go_wp2
            go_ret
            exact ⟨by rw [HBL.out]; rfl, B29⟩
          · simp only [List.getElem_toArray, List.getElem_cons_zero, List.getElem_cons_succ]
            go_simp
            have I30 := IRow.new4 (v26) b.age b.mx b.hel b.wai 3
            have J30_9 : IRow ((v26).alloc (.cells #[.int .i64 b.age, .int .i64 b.mx, .int .i64 b.hel, .int .i64 b.wai] 3)) g25 [b.cost] := J26_9.below ((Below.refl _ _).alloc (Nat.le_refl _) (.cells #[.int .i64 b.age, .int .i64 b.mx, .int .i64 b.hel, .int .i64 b.wai] 3))
            have B30 := B26.alloc B26.size (.cells #[.int .i64 b.age, .int .i64 b.mx, .int .i64 b.hel, .int .i64 b.wai] 3)
            have A30 := A26.alloc (.cells #[.int .i64 b.age, .int .i64 b.mx, .int .i64 b.hel, .int .i64 b.wai] 3)
            generalize (v26).heap.size = g30 at *
            generalize (v26).alloc (.cells #[.int .i64 b.age, .int .i64 b.mx, .int .i64 b.hel, .int .i64 b.wai] 3) = v30 at *
            refine hK.out _ _ A30 (fun hHeld => ?_)
            clear hK K
            (try simp only [Act.put, List.getElem_toArray, List.getElem_cons_zero, List.getElem_cons_succ, List.setIfInBounds_toArray, List.set_cons_zero, List.set_cons_succ])
            refine wpAnyH_ready (rs := [10]) (by kernel_rfl) (by simp) ?_
            refine (AllReadyH.cons rfl (fun K hK => ?_) AllReadyH.nil)
            simp only [List.getElem_toArray, List.getElem_cons_zero, List.getElem_cons_succ]
            go_simp
            with_reducible refine (HN4.out _ _ J30_9).mono ?_
            rintro e v31 ⟨rfl, k31⟩
            have J31_24 := I30.below k31
            have B31 := B30.trans (k31.mono B30.size)
            have A31 := A30.kept k31
            refine hK.out _ _ A31 (fun hHeld => ?_)
            clear hK K
            (try simp only [Act.put, List.getElem_toArray, List.getElem_cons_zero, List.getElem_cons_succ, List.setIfInBounds_toArray, List.set_cons_zero, List.set_cons_succ])
            refine wpAnyH_take (i := 11) (v := .string ⟨z2.toArray⟩) rfl (by kernel_rfl) (by kernel_rfl) (by kernel_rfl) (fun _ _ _ h => h) (Or.inl ⟨by rfl, fun w hSw => by go_simp⟩) (by assumption) ?_
            (try simp only [Act.put, List.getElem_toArray, List.getElem_cons_zero, List.getElem_cons_succ, List.setIfInBounds_toArray, List.set_cons_zero, List.set_cons_succ])
            refine wpAnyH_take (i := 13) (v := .string ⟨z3.toArray⟩) rfl (by kernel_rfl) (by kernel_rfl) (by kernel_rfl) (fun _ _ _ h => h) (Or.inl ⟨by rfl, fun w hSw => by go_simp⟩) (by assumption) ?_
            (try simp only [Act.put, List.getElem_toArray, List.getElem_cons_zero, List.getElem_cons_succ, List.setIfInBounds_toArray, List.set_cons_zero, List.set_cons_succ])
            refine wpAnyH_take (i := 15) (v := .string ⟨z4.toArray⟩) rfl (by kernel_rfl) (by kernel_rfl) (by kernel_rfl) (fun _ _ _ h => h) (Or.inl ⟨by rfl, fun w hSw => by go_simp⟩) (by assumption) ?_
            (try simp only [Act.put, List.getElem_toArray, List.getElem_cons_zero, List.getElem_cons_succ, List.setIfInBounds_toArray, List.set_cons_zero, List.set_cons_succ])
            refine wpAnyH_ready (rs := [25]) (by kernel_rfl) (by simp) ?_
            refine (AllReadyH.cons rfl (fun K hK => ?_) AllReadyH.nil)
            simp only [List.getElem_toArray, List.getElem_cons_zero, List.getElem_cons_succ]
            go_simp
            with_reducible refine (HN2.out _ _ J31_24).mono ?_
            rintro e v32 ⟨rfl, k32⟩
            have B32 := B31.trans (k32.mono B31.size)
            have A32 := A31.kept k32
            refine hK.out _ _ A32 (fun hHeld => ?_)
            clear hK K
            (try simp only [Act.put, List.getElem_toArray, List.getElem_cons_zero, List.getElem_cons_succ, List.setIfInBounds_toArray, List.set_cons_zero, List.set_cons_succ])
            refine wpAnyH_take (i := 26) (v := ?_) rfl (by kernel_rfl) (by kernel_rfl) (by kernel_rfl) (fun _ _ _ h => h) (Or.inl ⟨by rfl, ?_⟩) (by assumption) ?_
            rotate_left
            · (intro w hSw; (try dsimp only at hSw); go_simp; (try with_reducible rfl))
            (try simp only [Act.put, List.getElem_toArray, List.getElem_cons_zero, List.getElem_cons_succ, List.setIfInBounds_toArray, List.set_cons_zero, List.set_cons_succ])
            refine wpAnyH_take (i := 27) (v := ?_) rfl (by kernel_rfl) (by kernel_rfl) (by kernel_rfl) (fun _ _ _ h => h) (Or.inl ⟨by rfl, ?_⟩) (by assumption) ?_
            rotate_left
            · (intro w hSw; (try dsimp only at hSw); go_simp; (try with_reducible rfl))
            (try simp only [Act.put, List.getElem_toArray, List.getElem_cons_zero, List.getElem_cons_succ, List.setIfInBounds_toArray, List.set_cons_zero, List.set_cons_succ])
            refine wpAnyH_done (by kernel_rfl) ?_ _
            refine NoPanic.normal ?_
            go_wp2
            go_ret
            exact ⟨by rw [HBL.out]; rfl, B32⟩
        · simp only [List.getElem_toArray, List.getElem_cons_zero, List.getElem_cons_succ]
          go_simp
          have I33 := IRow.new4 (v25) b.age b.mx b.hel b.wai 3
          have J33_3 : IRow ((v25).alloc (.cells #[.int .i64 b.age, .int .i64 b.mx, .int .i64 b.hel, .int .i64 b.wai] 3)) g12 [(byF b.f : Int)] := J25_3.below ((Below.refl _ _).alloc (Nat.le_refl _) (.cells #[.int .i64 b.age, .int .i64 b.mx, .int .i64 b.hel, .int .i64 b.wai] 3))
          have J33_9 : IRow ((v25).alloc (.cells #[.int .i64 b.age, .int .i64 b.mx, .int .i64 b.hel, .int .i64 b.wai] 3)) g25 [b.cost] := I25.below ((Below.refl _ _).alloc (Nat.le_refl _) (.cells #[.int .i64 b.age, .int .i64 b.mx, .int .i64 b.hel, .int .i64 b.wai] 3))
          have B33 := B25.alloc B25.size (.cells #[.int .i64 b.age, .int .i64 b.mx, .int .i64 b.hel, .int .i64 b.wai] 3)
          have A33 := A25.alloc (.cells #[.int .i64 b.age, .int .i64 b.mx, .int .i64 b.hel, .int .i64 b.wai] 3)
          generalize (v25).heap.size = g33 at *
          generalize (v25).alloc (.cells #[.int .i64 b.age, .int .i64 b.mx, .int .i64 b.hel, .int .i64 b.wai] 3) = v33 at *
          refine hK.out _ _ A33 (fun hHeld => ?_)
          clear hK K
          (try simp only [Act.put, List.getElem_toArray, List.getElem_cons_zero, List.getElem_cons_succ, List.setIfInBounds_toArray, List.set_cons_zero, List.set_cons_succ])
          refine wpAnyH_ready (rs := [4]) (by kernel_rfl) (by simp) ?_
          refine (AllReadyH.cons rfl (fun K hK => ?_) AllReadyH.nil)
          simp only [List.getElem_toArray, List.getElem_cons_zero, List.getElem_cons_succ]
          go_simp
          with_reducible refine (HN1.out _ _ J33_3).mono ?_
          rintro e v34 ⟨rfl, k34⟩
          have J34_9 := J33_9.below k34
          have J34_24 := I33.below k34
          have B34 := B33.trans (k34.mono B33.size)
          have A34 := A33.kept k34
          refine hK.out _ _ A34 (fun hHeld => ?_)
          clear hK K
          (try simp only [Act.put, List.getElem_toArray, List.getElem_cons_zero, List.getElem_cons_succ, List.setIfInBounds_toArray, List.set_cons_zero, List.set_cons_succ])
          refine wpAnyH_take (i := 6) (v := .string ⟨z1.toArray⟩) rfl (by kernel_rfl) (by kernel_rfl) (by kernel_rfl) (fun _ _ _ h => h) (Or.inl ⟨by rfl, fun w hSw => by go_simp⟩) (by assumption) ?_
          (try simp only [Act.put, List.getElem_toArray, List.getElem_cons_zero, List.getElem_cons_succ, List.setIfInBounds_toArray, List.set_cons_zero, List.set_cons_succ])
          refine wpAnyH_ready (rs := [10]) (by kernel_rfl) (by simp) ?_
          refine (AllReadyH.cons rfl (fun K hK => ?_) AllReadyH.nil)
          simp only [List.getElem_toArray, List.getElem_cons_zero, List.getElem_cons_succ]
          go_simp
          with_reducible refine (HN4.out _ _ J34_9).mono ?_
          rintro e v35 ⟨rfl, k35⟩
          have J35_24 := J34_24.below k35
          have B35 := B34.trans (k35.mono B34.size)
          have A35 := A34.kept k35
          refine hK.out _ _ A35 (fun hHeld => ?_)
          clear hK K
          (try simp only [Act.put, List.getElem_toArray, List.getElem_cons_zero, List.getElem_cons_succ, List.setIfInBounds_toArray, List.set_cons_zero, List.set_cons_succ])
          refine wpAnyH_take (i := 11) (v := .string ⟨z2.toArray⟩) rfl (by kernel_rfl) (by kernel_rfl) (by kernel_rfl) (fun _ _ _ h => h) (Or.inl ⟨by rfl, fun w hSw => by go_simp⟩) (by assumption) ?_
          (try simp only [Act.put, List.getElem_toArray, List.getElem_cons_zero, List.getElem_cons_succ, List.setIfInBounds_toArray, List.set_cons_zero, List.set_cons_succ])
          refine wpAnyH_take (i := 13) (v := .string ⟨z3.toArray⟩) rfl (by kernel_rfl) (by kernel_rfl) (by kernel_rfl) (fun _ _ _ h => h) (Or.inl ⟨by rfl, fun w hSw => by go_simp⟩) (by assumption) ?_
          (try simp only [Act.put, List.getElem_toArray, List.getElem_cons_zero, List.getElem_cons_succ, List.setIfInBounds_toArray, List.set_cons_zero, List.set_cons_succ])
          refine wpAnyH_take (i := 15) (v := .string ⟨z4.toArray⟩) rfl (by kernel_rfl) (by kernel_rfl) (by kernel_rfl) (fun _ _ _ h => h) (Or.inl ⟨by rfl, fun w hSw => by go_simp⟩) (by assumption) ?_
          (try simp only [Act.put, List.getElem_toArray, List.getElem_cons_zero, List.getElem_cons_succ, List.setIfInBounds_toArray, List.set_cons_zero, List.set_cons_succ])
          refine wpAnyH_ready (rs := [25]) (by kernel_rfl) (by simp) ?_
          refine (AllReadyH.cons rfl (fun K hK => ?_) AllReadyH.nil)
          simp only [List.getElem_toArray, List.getElem_cons_zero, List.getElem_cons_succ]
          go_simp
          with_reducible refine (HN2.out _ _ J35_24).mono ?_
          rintro e v36 ⟨rfl, k36⟩
          have B36 := B35.trans (k36.mono B35.size)
          have A36 := A35.kept k36
          refine hK.out _ _ A36 (fun hHeld => ?_)
          clear hK K
          (try simp only [Act.put, List.getElem_toArray, List.getElem_cons_zero, List.getElem_cons_succ, List.setIfInBounds_toArray, List.set_cons_zero, List.set_cons_succ])
          refine wpAnyH_take (i := 26) (v := ?_) rfl (by kernel_rfl) (by kernel_rfl) (by kernel_rfl) (fun _ _ _ h => h) (Or.inl ⟨by rfl, ?_⟩) (by assumption) ?_
          rotate_left
          · (intro w hSw; (try dsimp only at hSw); go_simp; (try with_reducible rfl))
          (try simp only [Act.put, List.getElem_toArray, List.getElem_cons_zero, List.getElem_cons_succ, List.setIfInBounds_toArray, List.set_cons_zero, List.set_cons_succ])
          refine wpAnyH_take (i := 27) (v := ?_) rfl (by kernel_rfl) (by kernel_rfl) (by kernel_rfl) (fun _ _ _ h => h) (Or.inl ⟨by rfl, ?_⟩) (by assumption) ?_
          rotate_left
          · (intro w hSw; (try dsimp only at hSw); go_simp; (try with_reducible rfl))
          (try simp only [Act.put, List.getElem_toArray, List.getElem_cons_zero, List.getElem_cons_succ, List.setIfInBounds_toArray, List.set_cons_zero, List.set_cons_succ])
          refine wpAnyH_done (by kernel_rfl) ?_ _
          refine NoPanic.normal ?_
          go_wp2
          go_ret
          exact ⟨by rw [HBL.out]; rfl, B36⟩
      · simp only [List.getElem_toArray, List.getElem_cons_zero, List.getElem_cons_succ]
        go_simp
        have I37 := IRow.new4 (v12) b.age b.mx b.hel b.wai 3
        have J37_3 : IRow ((v12).alloc (.cells #[.int .i64 b.age, .int .i64 b.mx, .int .i64 b.hel, .int .i64 b.wai] 3)) g12 [(byF b.f : Int)] := I12.below ((Below.refl _ _).alloc (Nat.le_refl _) (.cells #[.int .i64 b.age, .int .i64 b.mx, .int .i64 b.hel, .int .i64 b.wai] 3))
        have B37 := B12.alloc B12.size (.cells #[.int .i64 b.age, .int .i64 b.mx, .int .i64 b.hel, .int .i64 b.wai] 3)
        have A37 := A12.alloc (.cells #[.int .i64 b.age, .int .i64 b.mx, .int .i64 b.hel, .int .i64 b.wai] 3)
        generalize (v12).heap.size = g37 at *
        generalize (v12).alloc (.cells #[.int .i64 b.age, .int .i64 b.mx, .int .i64 b.hel, .int .i64 b.wai] 3) = v37 at *
        refine hK.out _ _ A37 (fun hHeld => ?_)
        clear hK K
        (try simp only [Act.put, List.getElem_toArray, List.getElem_cons_zero, List.getElem_cons_succ, List.setIfInBounds_toArray, List.set_cons_zero, List.set_cons_succ])
        refine wpAnyH_ready (rs := [4, 9]) (by kernel_rfl) (by simp) ?_
        refine (AllReadyH.cons rfl (fun K hK => ?_) (AllReadyH.cons rfl (fun K hK => ?_) AllReadyH.nil))
        · simp only [List.getElem_toArray, List.getElem_cons_zero, List.getElem_cons_succ]
          go_simp
          with_reducible refine (HN1.out _ _ J37_3).mono ?_
          rintro e v38 ⟨rfl, k38⟩
          have J38_24 := I37.below k38
          have B38 := B37.trans (k38.mono B37.size)
          have A38 := A37.kept k38
          refine hK.out _ _ A38 (fun hHeld => ?_)
          clear hK K
          (try simp only [Act.put, List.getElem_toArray, List.getElem_cons_zero, List.getElem_cons_succ, List.setIfInBounds_toArray, List.set_cons_zero, List.set_cons_succ])
          refine wpAnyH_take (i := 6) (v := .string ⟨z1.toArray⟩) rfl (by kernel_rfl) (by kernel_rfl) (by kernel_rfl) (fun _ _ _ h => h) (Or.inl ⟨by rfl, fun w hSw => by go_simp⟩) (by assumption) ?_
          (try simp only [Act.put, List.getElem_toArray, List.getElem_cons_zero, List.getElem_cons_succ, List.setIfInBounds_toArray, List.set_cons_zero, List.set_cons_succ])
          refine wpAnyH_ready (rs := [9]) (by kernel_rfl) (by simp) ?_
          refine (AllReadyH.cons rfl (fun K hK => ?_) AllReadyH.nil)
          simp only [List.getElem_toArray, List.getElem_cons_zero, List.getElem_cons_succ]
          go_simp
          have I39 := IRow.new1 (v38) b.cost 3
          have J39_24 : IRow ((v38).alloc (.cells #[.int .i64 b.cost] 3)) g37 [b.age, b.mx, b.hel, b.wai] := J38_24.below ((Below.refl _ _).alloc (Nat.le_refl _) (.cells #[.int .i64 b.cost] 3))
          have B39 := B38.alloc B38.size (.cells #[.int .i64 b.cost] 3)
          have A39 := A38.alloc (.cells #[.int .i64 b.cost] 3)
          generalize (v38).heap.size = g39 at *
          generalize (v38).alloc (.cells #[.int .i64 b.cost] 3) = v39 at *
          refine hK.out _ _ A39 (fun hHeld => ?_)
          clear hK K
          (try simp only [Act.put, List.getElem_toArray, List.getElem_cons_zero, List.getElem_cons_succ, List.setIfInBounds_toArray, List.set_cons_zero, List.set_cons_succ])
          refine wpAnyH_ready (rs := [10]) (by kernel_rfl) (by simp) ?_
          refine (AllReadyH.cons rfl (fun K hK => ?_) AllReadyH.nil)
          simp only [List.getElem_toArray, List.getElem_cons_zero, List.getElem_cons_succ]
          go_simp
          with_reducible refine (HN4.out _ _ I39).mono ?_
          rintro e v40 ⟨rfl, k40⟩
          have J40_24 := J39_24.below k40
          have B40 := B39.trans (k40.mono B39.size)
          have A40 := A39.kept k40
          refine hK.out _ _ A40 (fun hHeld => ?_)
          clear hK K
          (try simp only [Act.put, List.getElem_toArray, List.getElem_cons_zero, List.getElem_cons_succ, List.setIfInBounds_toArray, List.set_cons_zero, List.set_cons_succ])
          refine wpAnyH_take (i := 11) (v := .string ⟨z2.toArray⟩) rfl (by kernel_rfl) (by kernel_rfl) (by kernel_rfl) (fun _ _ _ h => h) (Or.inl ⟨by rfl, fun w hSw => by go_simp⟩) (by assumption) ?_
          (try simp only [Act.put, List.getElem_toArray, List.getElem_cons_zero, List.getElem_cons_succ, List.setIfInBounds_toArray, List.set_cons_zero, List.set_cons_succ])
          refine wpAnyH_take (i := 13) (v := .string ⟨z3.toArray⟩) rfl (by kernel_rfl) (by kernel_rfl) (by kernel_rfl) (fun _ _ _ h => h) (Or.inl ⟨by rfl, fun w hSw => by go_simp⟩) (by assumption) ?_
          (try simp only [Act.put, List.getElem_toArray, List.getElem_cons_zero, List.getElem_cons_succ, List.setIfInBounds_toArray, List.set_cons_zero, List.set_cons_succ])
          refine wpAnyH_take (i := 15) (v := .string ⟨z4.toArray⟩) rfl (by kernel_rfl) (by kernel_rfl) (by kernel_rfl) (fun _ _ _ h => h) (Or.inl ⟨by rfl, fun w hSw => by go_simp⟩) (by assumption) ?_
          (try simp only [Act.put, List.getElem_toArray, List.getElem_cons_zero, List.getElem_cons_succ, List.setIfInBounds_toArray, List.set_cons_zero, List.set_cons_succ])
          refine wpAnyH_ready (rs := [25]) (by kernel_rfl) (by simp) ?_
          refine (AllReadyH.cons rfl (fun K hK => ?_) AllReadyH.nil)
          simp only [List.getElem_toArray, List.getElem_cons_zero, List.getElem_cons_succ]
          go_simp
          with_reducible refine (HN2.out _ _ J40_24).mono ?_
          rintro e v41 ⟨rfl, k41⟩
          have B41 := B40.trans (k41.mono B40.size)
          have A41 := A40.kept k41
          refine hK.out _ _ A41 (fun hHeld => ?_)
          clear hK K
          (try simp only [Act.put, List.getElem_toArray, List.getElem_cons_zero, List.getElem_cons_succ, List.setIfInBounds_toArray, List.set_cons_zero, List.set_cons_succ])
          refine wpAnyH_take (i := 26) (v := ?_) rfl (by kernel_rfl) (by kernel_rfl) (by kernel_rfl) (fun _ _ _ h => h) (Or.inl ⟨by rfl, ?_⟩) (by assumption) ?_
          rotate_left
          · (intro w hSw; (try dsimp only at hSw); go_simp; (try with_reducible rfl))
          (try simp only [Act.put, List.getElem_toArray, List.getElem_cons_zero, List.getElem_cons_succ, List.setIfInBounds_toArray, List.set_cons_zero, List.set_cons_succ])
          refine wpAnyH_take (i := 27) (v := ?_) rfl (by kernel_rfl) (by kernel_rfl) (by kernel_rfl) (fun _ _ _ h => h) (Or.inl ⟨by rfl, ?_⟩) (by assumption) ?_
          rotate_left
          · (intro w hSw; (try dsimp only at hSw); go_simp; (try with_reducible rfl))
          (try simp only [Act.put, List.getElem_toArray, List.getElem_cons_zero, List.getElem_cons_succ, List.setIfInBounds_toArray, List.set_cons_zero, List.set_cons_succ])
          refine wpAnyH_done (by kernel_rfl) ?_ _
          refine NoPanic.normal ?_
          go_wp2
          go_ret
          exact ⟨by rw [HBL.out]; rfl, B41⟩
        · simp only [List.getElem_toArray, List.getElem_cons_zero, List.getElem_cons_succ]
          go_simp
          have I42 := IRow.new1 (v37) b.cost 3
          have J42_3 : IRow ((v37).alloc (.cells #[.int .i64 b.cost] 3)) g12 [(byF b.f : Int)] := J37_3.below ((Below.refl _ _).alloc (Nat.le_refl _) (.cells #[.int .i64 b.cost] 3))
          have J42_24 : IRow ((v37).alloc (.cells #[.int .i64 b.cost] 3)) g37 [b.age, b.mx, b.hel, b.wai] := I37.below ((Below.refl _ _).alloc (Nat.le_refl _) (.cells #[.int .i64 b.cost] 3))
          have B42 := B37.alloc B37.size (.cells #[.int .i64 b.cost] 3)
          have A42 := A37.alloc (.cells #[.int .i64 b.cost] 3)
          generalize (v37).heap.size = g42 at *
          generalize (v37).alloc (.cells #[.int .i64 b.cost] 3) = v42 at *
          refine hK.out _ _ A42 (fun hHeld => ?_)
          clear hK K
          (try simp only [Act.put, List.getElem_toArray, List.getElem_cons_zero, List.getElem_cons_succ, List.setIfInBounds_toArray, List.set_cons_zero, List.set_cons_succ])
          refine wpAnyH_ready (rs := [4]) (by kernel_rfl) (by simp) ?_
          refine (AllReadyH.cons rfl (fun K hK => ?_) AllReadyH.nil)
          simp only [List.getElem_toArray, List.getElem_cons_zero, List.getElem_cons_succ]
          go_simp
          with_reducible refine (HN1.out _ _ J42_3).mono ?_
          rintro e v43 ⟨rfl, k43⟩
          have J43_24 := J42_24.below k43
          have J43_9 := I42.below k43
          have B43 := B42.trans (k43.mono B42.size)
          have A43 := A42.kept k43
          refine hK.out _ _ A43 (fun hHeld => ?_)
          clear hK K
          (try simp only [Act.put, List.getElem_toArray, List.getElem_cons_zero, List.getElem_cons_succ, List.setIfInBounds_toArray, List.set_cons_zero, List.set_cons_succ])
          refine wpAnyH_take (i := 6) (v := .string ⟨z1.toArray⟩) rfl (by kernel_rfl) (by kernel_rfl) (by kernel_rfl) (fun _ _ _ h => h) (Or.inl ⟨by rfl, fun w hSw => by go_simp⟩) (by assumption) ?_
          (try simp only [Act.put, List.getElem_toArray, List.getElem_cons_zero, List.getElem_cons_succ, List.setIfInBounds_toArray, List.set_cons_zero, List.set_cons_succ])
          refine wpAnyH_ready (rs := [10]) (by kernel_rfl) (by simp) ?_
          refine (AllReadyH.cons rfl (fun K hK => ?_) AllReadyH.nil)
          simp only [List.getElem_toArray, List.getElem_cons_zero, List.getElem_cons_succ]
          go_simp
          with_reducible refine (HN4.out _ _ J43_9).mono ?_
          rintro e v44 ⟨rfl, k44⟩
          have J44_24 := J43_24.below k44
          have B44 := B43.trans (k44.mono B43.size)
          have A44 := A43.kept k44
          refine hK.out _ _ A44 (fun hHeld => ?_)
          clear hK K
          (try simp only [Act.put, List.getElem_toArray, List.getElem_cons_zero, List.getElem_cons_succ, List.setIfInBounds_toArray, List.set_cons_zero, List.set_cons_succ])
          refine wpAnyH_take (i := 11) (v := .string ⟨z2.toArray⟩) rfl (by kernel_rfl) (by kernel_rfl) (by kernel_rfl) (fun _ _ _ h => h) (Or.inl ⟨by rfl, fun w hSw => by go_simp⟩) (by assumption) ?_
          (try simp only [Act.put, List.getElem_toArray, List.getElem_cons_zero, List.getElem_cons_succ, List.setIfInBounds_toArray, List.set_cons_zero, List.set_cons_succ])
          refine wpAnyH_take (i := 13) (v := .string ⟨z3.toArray⟩) rfl (by kernel_rfl) (by kernel_rfl) (by kernel_rfl) (fun _ _ _ h => h) (Or.inl ⟨by rfl, fun w hSw => by go_simp⟩) (by assumption) ?_
          (try simp only [Act.put, List.getElem_toArray, List.getElem_cons_zero, List.getElem_cons_succ, List.setIfInBounds_toArray, List.set_cons_zero, List.set_cons_succ])
          refine wpAnyH_take (i := 15) (v := .string ⟨z4.toArray⟩) rfl (by kernel_rfl) (by kernel_rfl) (by kernel_rfl) (fun _ _ _ h => h) (Or.inl ⟨by rfl, fun w hSw => by go_simp⟩) (by assumption) ?_
          (try simp only [Act.put, List.getElem_toArray, List.getElem_cons_zero, List.getElem_cons_succ, List.setIfInBounds_toArray, List.set_cons_zero, List.set_cons_succ])
          refine wpAnyH_ready (rs := [25]) (by kernel_rfl) (by simp) ?_
          refine (AllReadyH.cons rfl (fun K hK => ?_) AllReadyH.nil)
          simp only [List.getElem_toArray, List.getElem_cons_zero, List.getElem_cons_succ]
          go_simp
          with_reducible refine (HN2.out _ _ J44_24).mono ?_
          rintro e v45 ⟨rfl, k45⟩
          have B45 := B44.trans (k45.mono B44.size)
          have A45 := A44.kept k45
          refine hK.out _ _ A45 (fun hHeld => ?_)
          clear hK K
          (try simp only [Act.put, List.getElem_toArray, List.getElem_cons_zero, List.getElem_cons_succ, List.setIfInBounds_toArray, List.set_cons_zero, List.set_cons_succ])
          refine wpAnyH_take (i := 26) (v := ?_) rfl (by kernel_rfl) (by kernel_rfl) (by kernel_rfl) (fun _ _ _ h => h) (Or.inl ⟨by rfl, ?_⟩) (by assumption) ?_
          rotate_left
          · (intro w hSw; (try dsimp only at hSw); go_simp; (try with_reducible rfl))
          (try simp only [Act.put, List.getElem_toArray, List.getElem_cons_zero, List.getElem_cons_succ, List.setIfInBounds_toArray, List.set_cons_zero, List.set_cons_succ])
          refine wpAnyH_take (i := 27) (v := ?_) rfl (by kernel_rfl) (by kernel_rfl) (by kernel_rfl) (fun _ _ _ h => h) (Or.inl ⟨by rfl, ?_⟩) (by assumption) ?_
          rotate_left
          · (intro w hSw; (try dsimp only at hSw); go_simp; (try with_reducible rfl))
          (try simp only [Act.put, List.getElem_toArray, List.getElem_cons_zero, List.getElem_cons_succ, List.setIfInBounds_toArray, List.set_cons_zero, List.set_cons_succ])
          refine wpAnyH_done (by kernel_rfl) ?_ _
          refine NoPanic.normal ?_
          go_wp2
          go_ret
          exact ⟨by rw [HBL.out]; rfl, B45⟩
    · simp only [List.getElem_toArray, List.getElem_cons_zero, List.getElem_cons_succ]
      go_simp
      have I46 := IRow.new1 (v11) b.cost 3
      have B46 := B11.alloc B11.size (.cells #[.int .i64 b.cost] 3)
      have A46 := A11.alloc (.cells #[.int .i64 b.cost] 3)
      generalize (v11).heap.size = g46 at *
      generalize (v11).alloc (.cells #[.int .i64 b.cost] 3) = v46 at *
      refine hK.out _ _ A46 (fun hHeld => ?_)
      clear hK K
      (try simp only [Act.put, List.getElem_toArray, List.getElem_cons_zero, List.getElem_cons_succ, List.setIfInBounds_toArray, List.set_cons_zero, List.set_cons_succ])
      refine wpAnyH_ready (rs := [3, 24]) (by kernel_rfl) (by simp) ?_
      refine (AllReadyH.cons rfl (fun K hK => ?_) (AllReadyH.cons rfl (fun K hK => ?_) AllReadyH.nil))
      · simp only [List.getElem_toArray, List.getElem_cons_zero, List.getElem_cons_succ]
        go_simp
        have I47 := IRow.new1 (v46) (byF b.f : Int) 3
        have J47_9 : IRow ((v46).alloc (.cells #[.int .i64 (byF b.f : Int)] 3)) g46 [b.cost] := I46.below ((Below.refl _ _).alloc (Nat.le_refl _) (.cells #[.int .i64 (byF b.f : Int)] 3))
        have B47 := B46.alloc B46.size (.cells #[.int .i64 (byF b.f : Int)] 3)
        have A47 := A46.alloc (.cells #[.int .i64 (byF b.f : Int)] 3)
        generalize (v46).heap.size = g47 at *
        generalize (v46).alloc (.cells #[.int .i64 (byF b.f : Int)] 3) = v47 at *
        refine hK.out _ _ A47 (fun hHeld => ?_)
        clear hK K
        (try simp only [Act.put, List.getElem_toArray, List.getElem_cons_zero, List.getElem_cons_succ, List.setIfInBounds_toArray, List.set_cons_zero, List.set_cons_succ])
        refine wpAnyH_ready (rs := [4, 24]) (by kernel_rfl) (by simp) ?_
        refine (AllReadyH.cons rfl (fun K hK => ?_) (AllReadyH.cons rfl (fun K hK => ?_) AllReadyH.nil))
        · simp only [List.getElem_toArray, List.getElem_cons_zero, List.getElem_cons_succ]
          go_simp
          with_reducible refine (HN1.out _ _ I47).mono ?_
          rintro e v48 ⟨rfl, k48⟩
          have J48_9 := J47_9.below k48
          have B48 := B47.trans (k48.mono B47.size)
          have A48 := A47.kept k48
          refine hK.out _ _ A48 (fun hHeld => ?_)
          clear hK K
          (try simp only [Act.put, List.getElem_toArray, List.getElem_cons_zero, List.getElem_cons_succ, List.setIfInBounds_toArray, List.set_cons_zero, List.set_cons_succ])
          refine wpAnyH_take (i := 6) (v := .string ⟨z1.toArray⟩) rfl (by kernel_rfl) (by kernel_rfl) (by kernel_rfl) (fun _ _ _ h => h) (Or.inl ⟨by rfl, fun w hSw => by go_simp⟩) (by assumption) ?_
          (try simp only [Act.put, List.getElem_toArray, List.getElem_cons_zero, List.getElem_cons_succ, List.setIfInBounds_toArray, List.set_cons_zero, List.set_cons_succ])
          refine wpAnyH_ready (rs := [10, 24]) (by kernel_rfl) (by simp) ?_
          refine (AllReadyH.cons rfl (fun K hK => ?_) (AllReadyH.cons rfl (fun K hK => ?_) AllReadyH.nil))
          · simp only [List.getElem_toArray, List.getElem_cons_zero, List.getElem_cons_succ]
            go_simp
            with_reducible refine (HN4.out _ _ J48_9).mono ?_
            rintro e v49 ⟨rfl, k49⟩
            have B49 := B48.trans (k49.mono B48.size)
            have A49 := A48.kept k49
            refine hK.out _ _ A49 (fun hHeld => ?_)
            clear hK K
            (try simp only [Act.put, List.getElem_toArray, List.getElem_cons_zero, List.getElem_cons_succ, List.setIfInBounds_toArray, List.set_cons_zero, List.set_cons_succ])
            refine wpAnyH_take (i := 11) (v := .string ⟨z2.toArray⟩) rfl (by kernel_rfl) (by kernel_rfl) (by kernel_rfl) (fun _ _ _ h => h) (Or.inl ⟨by rfl, fun w hSw => by go_simp⟩) (by assumption) ?_
            (try simp only [Act.put, List.getElem_toArray, List.getElem_cons_zero, List.getElem_cons_succ, List.setIfInBounds_toArray, List.set_cons_zero, List.set_cons_succ])
            refine wpAnyH_take (i := 13) (v := .string ⟨z3.toArray⟩) rfl (by kernel_rfl) (by kernel_rfl) (by kernel_rfl) (fun _ _ _ h => h) (Or.inl ⟨by rfl, fun w hSw => by go_simp⟩) (by assumption) ?_
            (try simp only [Act.put, List.getElem_toArray, List.getElem_cons_zero, List.getElem_cons_succ, List.setIfInBounds_toArray, List.set_cons_zero, List.set_cons_succ])
            refine wpAnyH_take (i := 15) (v := .string ⟨z4.toArray⟩) rfl (by kernel_rfl) (by kernel_rfl) (by kernel_rfl) (fun _ _ _ h => h) (Or.inl ⟨by rfl, fun w hSw => by go_simp⟩) (by assumption) ?_
            (try simp only [Act.put, List.getElem_toArray, List.getElem_cons_zero, List.getElem_cons_succ, List.setIfInBounds_toArray, List.set_cons_zero, List.set_cons_succ])
            refine wpAnyH_ready (rs := [24]) (by kernel_rfl) (by simp) ?_
            refine (AllReadyH.cons rfl (fun K hK => ?_) AllReadyH.nil)
            simp only [List.getElem_toArray, List.getElem_cons_zero, List.getElem_cons_succ]
            go_simp
            have I50 := IRow.new4 (v49) b.age b.mx b.hel b.wai 3
            have B50 := B49.alloc B49.size (.cells #[.int .i64 b.age, .int .i64 b.mx, .int .i64 b.hel, .int .i64 b.wai] 3)
            have A50 := A49.alloc (.cells #[.int .i64 b.age, .int .i64 b.mx, .int .i64 b.hel, .int .i64 b.wai] 3)
            generalize (v49).heap.size = g50 at *
            generalize (v49).alloc (.cells #[.int .i64 b.age, .int .i64 b.mx, .int .i64 b.hel, .int .i64 b.wai] 3) = v50 at *
            refine hK.out _ _ A50 (fun hHeld => ?_)
            clear hK K
            (try simp only [Act.put, List.getElem_toArray, List.getElem_cons_zero, List.getElem_cons_succ, List.setIfInBounds_toArray, List.set_cons_zero, List.set_cons_succ])
            refine wpAnyH_ready (rs := [25]) (by kernel_rfl) (by simp) ?_
            refine (AllReadyH.cons rfl (fun K hK => ?_) AllReadyH.nil)
            simp only [List.getElem_toArray, List.getElem_cons_zero, List.getElem_cons_succ]
            go_simp
            with_reducible refine (HN2.out _ _ I50).mono ?_
            rintro e v51 ⟨rfl, k51⟩
            have B51 := B50.trans (k51.mono B50.size)
            have A51 := A50.kept k51
            refine hK.out _ _ A51 (fun hHeld => ?_)
            clear hK K
            (try simp only [Act.put, List.getElem_toArray, List.getElem_cons_zero, List.getElem_cons_succ, List.setIfInBounds_toArray, List.set_cons_zero, List.set_cons_succ])
            refine wpAnyH_take (i := 26) (v := ?_) rfl (by kernel_rfl) (by kernel_rfl) (by kernel_rfl) (fun _ _ _ h => h) (Or.inl ⟨by rfl, ?_⟩) (by assumption) ?_
            rotate_left
            · (intro w hSw; (try dsimp only at hSw); go_simp; (try with_reducible rfl))
            (try simp only [Act.put, List.getElem_toArray, List.getElem_cons_zero, List.getElem_cons_succ, List.setIfInBounds_toArray, List.set_cons_zero, List.set_cons_succ])
            refine wpAnyH_take (i := 27) (v := ?_) rfl (by kernel_rfl) (by kernel_rfl) (by kernel_rfl) (fun _ _ _ h => h) (Or.inl ⟨by rfl, ?_⟩) (by assumption) ?_
            rotate_left
            · (intro w hSw; (try dsimp only at hSw); go_simp; (try with_reducible rfl))
            (try simp only [Act.put, List.getElem_toArray, List.getElem_cons_zero, List.getElem_cons_succ, List.setIfInBounds_toArray, List.set_cons_zero, List.set_cons_succ])
            refine wpAnyH_done (by kernel_rfl) ?_ _
            refine NoPanic.normal ?_
            go_wp2
            go_ret
            exact ⟨by rw [HBL.out]; rfl, B51⟩
          · simp only [List.getElem_toArray, List.getElem_cons_zero, List.getElem_cons_succ]
            go_simp
            have I52 := IRow.new4 (v48) b.age b.mx b.hel b.wai 3
            have J52_9 : IRow ((v48).alloc (.cells #[.int .i64 b.age, .int .i64 b.mx, .int .i64 b.hel, .int .i64 b.wai] 3)) g46 [b.cost] := J48_9.below ((Below.refl _ _).alloc (Nat.le_refl _) (.cells #[.int .i64 b.age, .int .i64 b.mx, .int .i64 b.hel, .int .i64 b.wai] 3))
            have B52 := B48.alloc B48.size (.cells #[.int .i64 b.age, .int .i64 b.mx, .int .i64 b.hel, .int .i64 b.wai] 3)
            have A52 := A48.alloc (.cells #[.int .i64 b.age, .int .i64 b.mx, .int .i64 b.hel, .int .i64 b.wai] 3)
            generalize (v48).heap.size = g52 at *
            generalize (v48).alloc (.cells #[.int .i64 b.age, .int .i64 b.mx, .int .i64 b.hel, .int .i64 b.wai] 3) = v52 at *
            refine hK.out _ _ A52 (fun hHeld => ?_)
            clear hK K
            (try simp only [Act.put, List.getElem_toArray, List.getElem_cons_zero, List.getElem_cons_succ, List.setIfInBounds_toArray, List.set_cons_zero, List.set_cons_succ])
            refine wpAnyH_ready (rs := [10]) (by kernel_rfl) (by simp) ?_
            refine (AllReadyH.cons rfl (fun K hK => ?_) AllReadyH.nil)
            simp only [List.getElem_toArray, List.getElem_cons_zero, List.getElem_cons_succ]
            go_simp
            with_reducible refine (HN4.out _ _ J52_9).mono ?_
            rintro e v53 ⟨rfl, k53⟩
            have J53_24 := I52.below k53
            have B53 := B52.trans (k53.mono B52.size)
            have A53 := A52.kept k53
            refine hK.out _ _ A53 (fun hHeld => ?_)
            clear hK K
            (try simp only [Act.put, List.getElem_toArray, List.getElem_cons_zero, List.getElem_cons_succ, List.setIfInBounds_toArray, List.set_cons_zero, List.set_cons_succ])
            refine wpAnyH_take (i := 11) (v := .string ⟨z2.toArray⟩) rfl (by kernel_rfl) (by kernel_rfl) (by kernel_rfl) (fun _ _ _ h => h) (Or.inl ⟨by rfl, fun w hSw => by go_simp⟩) (by assumption) ?_
            (try simp only [Act.put, List.getElem_toArray, List.getElem_cons_zero, List.getElem_cons_succ, List.setIfInBounds_toArray, List.set_cons_zero, List.set_cons_succ])
            refine wpAnyH_take (i := 13) (v := .string ⟨z3.toArray⟩) rfl (by kernel_rfl) (by kernel_rfl) (by kernel_rfl) (fun _ _ _ h => h) (Or.inl ⟨by rfl, fun w hSw => by go_simp⟩) (by assumption) ?_
            (try simp only [Act.put, List.getElem_toArray, List.getElem_cons_zero, List.getElem_cons_succ, List.setIfInBounds_toArray, List.set_cons_zero, List.set_cons_succ])
            refine wpAnyH_take (i := 15) (v := .string ⟨z4.toArray⟩) rfl (by kernel_rfl) (by kernel_rfl) (by kernel_rfl) (fun _ _ _ h => h) (Or.inl ⟨by rfl, fun w hSw => by go_simp⟩) (by assumption) ?_
            (try simp only [Act.put, List.getElem_toArray, List.getElem_cons_zero, List.getElem_cons_succ, List.setIfInBounds_toArray, List.set_cons_zero, List.set_cons_succ])
            refine wpAnyH_ready (rs := [25]) (by kernel_rfl) (by simp) ?_
            refine (AllReadyH.cons rfl (fun K hK => ?_) AllReadyH.nil)
            simp only [List.getElem_toArray, List.getElem_cons_zero, List.getElem_cons_succ]
            go_simp
            with_reducible refine (HN2.out _ _ J53_24).mono ?_
            rintro e v54 ⟨rfl, k54⟩
            have B54 := B53.trans (k54.mono B53.size)
            have A54 := A53.kept k54
            refine hK.out _ _ A54 (fun hHeld => ?_)
            clear hK K
            (try simp only [Act.put, List.getElem_toArray, List.getElem_cons_zero, List.getElem_cons_succ, List.setIfInBounds_toArray, List.set_cons_zero, List.set_cons_succ])
            refine wpAnyH_take (i := 26) (v := ?_) rfl (by kernel_rfl) (by kernel_rfl) (by kernel_rfl) (fun _ _ _ h => h) (Or.inl ⟨by rfl, ?_⟩) (by assumption) ?_
            rotate_left
            · (intro w hSw; (try dsimp only at hSw); go_simp; (try with_reducible rfl))
            (try simp only [Act.put, List.getElem_toArray, List.getElem_cons_zero, List.getElem_cons_succ, List.setIfInBounds_toArray, List.set_cons_zero, List.set_cons_succ])
            refine wpAnyH_take (i := 27) (v := ?_) rfl (by kernel_rfl) (by kernel_rfl) (by kernel_rfl) (fun _ _ _ h => h) (Or.inl ⟨by rfl, ?_⟩) (by assumption) ?_
            rotate_left
            · (intro w hSw; (try dsimp only at hSw); go_simp; (try with_reducible rfl))
            (try simp only [Act.put, List.getElem_toArray, List.getElem_cons_zero, List.getElem_cons_succ, List.setIfInBounds_toArray, List.set_cons_zero, List.set_cons_succ])
            refine wpAnyH_done (by kernel_rfl) ?_ _
            refine NoPanic.normal ?_
            go_wp2
            go_ret
            exact ⟨by rw [HBL.out]; rfl, B54⟩
        · simp only [List.getElem_toArray, List.getElem_cons_zero, List.getElem_cons_succ]
          go_simp
          have I55 := IRow.new4 (v47) b.age b.mx b.hel b.wai 3
          have J55_9 : IRow ((v47).alloc (.cells #[.int .i64 b.age, .int .i64 b.mx, .int .i64 b.hel, .int .i64 b.wai] 3)) g46 [b.cost] := J47_9.below ((Below.refl _ _).alloc (Nat.le_refl _) (.cells #[.int .i64 b.age, .int .i64 b.mx, .int .i64 b.hel, .int .i64 b.wai] 3))
          have J55_3 : IRow ((v47).alloc (.cells #[.int .i64 b.age, .int .i64 b.mx, .int .i64 b.hel, .int .i64 b.wai] 3)) g47 [(byF b.f : Int)] := I47.below ((Below.refl _ _).alloc (Nat.le_refl _) (.cells #[.int .i64 b.age, .int .i64 b.mx, .int .i64 b.hel, .int .i64 b.wai] 3))
          have B55 := B47.alloc B47.size (.cells #[.int .i64 b.age, .int .i64 b.mx, .int .i64 b.hel, .int .i64 b.wai] 3)
          have A55 := A47.alloc (.cells #[.int .i64 b.age, .int .i64 b.mx, .int .i64 b.hel, .int .i64 b.wai] 3)
          generalize (v47).heap.size = g55 at *
          generalize (v47).alloc (.cells #[.int .i64 b.age, .int .i64 b.mx, .int .i64 b.hel, .int .i64 b.wai] 3) = v55 at *
          refine hK.out _ _ A55 (fun hHeld => ?_)
          clear hK K
          (try simp only [Act.put, List.getElem_toArray, List.getElem_cons_zero, List.getElem_cons_succ, List.setIfInBounds_toArray, List.set_cons_zero, List.set_cons_succ])
          refine wpAnyH_ready (rs := [4]) (by kernel_rfl) (by simp) ?_
          refine (AllReadyH.cons rfl (fun K hK => ?_) AllReadyH.nil)
          simp only [List.getElem_toArray, List.getElem_cons_zero, List.getElem_cons_succ]
          go_simp
          with_reducible refine (HN1.out _ _ J55_3).mono ?_
          rintro e v56 ⟨rfl, k56⟩
          have J56_9 := J55_9.below k56
          have J56_24 := I55.below k56
          have B56 := B55.trans (k56.mono B55.size)
          have A56 := A55.kept k56
          refine hK.out _ _ A56 (fun hHeld => ?_)
          clear hK K
          (try simp only [Act.put, List.getElem_toArray, List.getElem_cons_zero, List.getElem_cons_succ, List.setIfInBounds_toArray, List.set_cons_zero, List.set_cons_succ])
          refine wpAnyH_take (i := 6) (v := .string ⟨z1.toArray⟩) rfl (by kernel_rfl) (by kernel_rfl) (by kernel_rfl) (fun _ _ _ h => h) (Or.inl ⟨by rfl, fun w hSw => by go_simp⟩) (by assumption) ?_
          (try simp only [Act.put, List.getElem_toArray, List.getElem_cons_zero, List.getElem_cons_succ, List.setIfInBounds_toArray, List.set_cons_zero, List.set_cons_succ])
          refine wpAnyH_ready (rs := [10]) (by kernel_rfl) (by simp) ?_
          refine (AllReadyH.cons rfl (fun K hK => ?_) AllReadyH.nil)
          simp only [List.getElem_toArray, List.getElem_cons_zero, List.getElem_cons_succ]
          go_simp
          with_reducible refine (HN4.out _ _ J56_9).mono ?_
          rintro e v57 ⟨rfl, k57⟩
          have J57_24 := J56_24.below k57
          have B57 := B56.trans (k57.mono B56.size)
          have A57 := A56.kept k57
          refine hK.out _ _ A57 (fun hHeld => ?_)
          clear hK K
          (try simp only [Act.put, List.getElem_toArray, List.getElem_cons_zero, List.getElem_cons_succ, List.setIfInBounds_toArray, List.set_cons_zero, List.set_cons_succ])
          refine wpAnyH_take (i := 11) (v := .string ⟨z2.toArray⟩) rfl (by kernel_rfl) (by kernel_rfl) (by kernel_rfl) (fun _ _ _ h => h) (Or.inl ⟨by rfl, fun w hSw => by go_simp⟩) (by assumption) ?_
          (try simp only [Act.put, List.getElem_toArray, List.getElem_cons_zero, List.getElem_cons_succ, List.setIfInBounds_toArray, List.set_cons_zero, List.set_cons_succ])
          refine wpAnyH_take (i := 13) (v := .string ⟨z3.toArray⟩) rfl (by kernel_rfl) (by kernel_rfl) (by kernel_rfl) (fun _ _ _ h => h) (Or.inl ⟨by rfl, fun w hSw => by go_simp⟩) (by assumption) ?_
          (try simp only [Act.put, List.getElem_toArray, List.getElem_cons_zero, List.getElem_cons_succ, List.setIfInBounds_toArray, List.set_cons_zero, List.set_cons_succ])
          refine wpAnyH_take (i := 15) (v := .string ⟨z4.toArray⟩) rfl (by kernel_rfl) (by kernel_rfl) (by kernel_rfl) (fun _ _ _ h => h) (Or.inl ⟨by rfl, fun w hSw => by go_simp⟩) (by assumption) ?_
          (try simp only [Act.put, List.getElem_toArray, List.getElem_cons_zero, List.getElem_cons_succ, List.setIfInBounds_toArray, List.set_cons_zero, List.set_cons_succ])
          refine wpAnyH_ready (rs := [25]) (by kernel_rfl) (by simp) ?_
          refine (AllReadyH.cons rfl (fun K hK => ?_) AllReadyH.nil)
          simp only [List.getElem_toArray, List.getElem_cons_zero, List.getElem_cons_succ]
          go_simp
          with_reducible refine (HN2.out _ _ J57_24).mono ?_
          rintro e v58 ⟨rfl, k58⟩
          have B58 := B57.trans (k58.mono B57.size)
          have A58 := A57.kept k58
          refine hK.out _ _ A58 (fun hHeld => ?_)
          clear hK K
          (try simp only [Act.put, List.getElem_toArray, List.getElem_cons_zero, List.getElem_cons_succ, List.setIfInBounds_toArray, List.set_cons_zero, List.set_cons_succ])
          refine wpAnyH_take (i := 26) (v := ?_) rfl (by kernel_rfl) (by kernel_rfl) (by kernel_rfl) (fun _ _ _ h => h) (Or.inl ⟨by rfl, ?_⟩) (by assumption) ?_
          rotate_left
          · (intro w hSw; (try dsimp only at hSw); go_simp; (try with_reducible rfl))
          (try simp only [Act.put, List.getElem_toArray, List.getElem_cons_zero, List.getElem_cons_succ, List.setIfInBounds_toArray, List.set_cons_zero, List.set_cons_succ])
          refine wpAnyH_take (i := 27) (v := ?_) rfl (by kernel_rfl) (by kernel_rfl) (by kernel_rfl) (fun _ _ _ h => h) (Or.inl ⟨by rfl, ?_⟩) (by assumption) ?_
          rotate_left
          · (intro w hSw; (try dsimp only at hSw); go_simp; (try with_reducible rfl))
          (try simp only [Act.put, List.getElem_toArray, List.getElem_cons_zero, List.getElem_cons_succ, List.setIfInBounds_toArray, List.set_cons_zero, List.set_cons_succ])
          refine wpAnyH_done (by kernel_rfl) ?_ _
          refine NoPanic.normal ?_
          go_wp2
          go_ret
          exact ⟨by rw [HBL.out]; rfl, B58⟩
      · simp only [List.getElem_toArray, List.getElem_cons_zero, List.getElem_cons_succ]
        go_simp
        have I59 := IRow.new4 (v46) b.age b.mx b.hel b.wai 3
        have J59_9 : IRow ((v46).alloc (.cells #[.int .i64 b.age, .int .i64 b.mx, .int .i64 b.hel, .int .i64 b.wai] 3)) g46 [b.cost] := I46.below ((Below.refl _ _).alloc (Nat.le_refl _) (.cells #[.int .i64 b.age, .int .i64 b.mx, .int .i64 b.hel, .int .i64 b.wai] 3))
        have B59 := B46.alloc B46.size (.cells #[.int .i64 b.age, .int .i64 b.mx, .int .i64 b.hel, .int .i64 b.wai] 3)
        have A59 := A46.alloc (.cells #[.int .i64 b.age, .int .i64 b.mx, .int .i64 b.hel, .int .i64 b.wai] 3)
        generalize (v46).heap.size = g59 at *
        generalize (v46).alloc (.cells #[.int .i64 b.age, .int .i64 b.mx, .int .i64 b.hel, .int .i64 b.wai] 3) = v59 at *
        refine hK.out _ _ A59 (fun hHeld => ?_)
        clear hK K
        (try simp only [Act.put, List.getElem_toArray, List.getElem_cons_zero, List.getElem_cons_succ, List.setIfInBounds_toArray, List.set_cons_zero, List.set_cons_succ])
        refine wpAnyH_ready (rs := [3]) (by kernel_rfl) (by simp) ?_
        refine (AllReadyH.cons rfl (fun K hK => ?_) AllReadyH.nil)
        simp only [List.getElem_toArray, List.getElem_cons_zero, List.getElem_cons_succ]
        go_simp
        have I60 := IRow.new1 (v59) (byF b.f : Int) 3
        have J60_9 : IRow ((v59).alloc (.cells #[.int .i64 (byF b.f : Int)] 3)) g46 [b.cost] := J59_9.below ((Below.refl _ _).alloc (Nat.le_refl _) (.cells #[.int .i64 (byF b.f : Int)] 3))
        have J60_24 : IRow ((v59).alloc (.cells #[.int .i64 (byF b.f : Int)] 3)) g59 [b.age, b.mx, b.hel, b.wai] := I59.below ((Below.refl _ _).alloc (Nat.le_refl _) (.cells #[.int .i64 (byF b.f : Int)] 3))
        have B60 := B59.alloc B59.size (.cells #[.int .i64 (byF b.f : Int)] 3)
        have A60 := A59.alloc (.cells #[.int .i64 (byF b.f : Int)] 3)
        generalize (v59).heap.size = g60 at *
        generalize (v59).alloc (.cells #[.int .i64 (byF b.f : Int)] 3) = v60 at *
        refine hK.out _ _ A60 (fun hHeld => ?_)
        clear hK K
        (try simp only [Act.put, List.getElem_toArray, List.getElem_cons_zero, List.getElem_cons_succ, List.setIfInBounds_toArray, List.set_cons_zero, List.set_cons_succ])
        refine wpAnyH_ready (rs := [4]) (by kernel_rfl) (by simp) ?_
        refine (AllReadyH.cons rfl (fun K hK => ?_) AllReadyH.nil)
        simp only [List.getElem_toArray, List.getElem_cons_zero, List.getElem_cons_succ]
        go_simp
        with_reducible refine (HN1.out _ _ I60).mono ?_
        rintro e v61 ⟨rfl, k61⟩
        have J61_9 := J60_9.below k61
        have J61_24 := J60_24.below k61
        have B61 := B60.trans (k61.mono B60.size)
        have A61 := A60.kept k61
        refine hK.out _ _ A61 (fun hHeld => ?_)
        clear hK K
        (try simp only [Act.put, List.getElem_toArray, List.getElem_cons_zero, List.getElem_cons_succ, List.setIfInBounds_toArray, List.set_cons_zero, List.set_cons_succ])
        refine wpAnyH_take (i := 6) (v := .string ⟨z1.toArray⟩) rfl (by kernel_rfl) (by kernel_rfl) (by kernel_rfl) (fun _ _ _ h => h) (Or.inl ⟨by rfl, fun w hSw => by go_simp⟩) (by assumption) ?_
        (try simp only [Act.put, List.getElem_toArray, List.getElem_cons_zero, List.getElem_cons_succ, List.setIfInBounds_toArray, List.set_cons_zero, List.set_cons_succ])
        refine wpAnyH_ready (rs := [10]) (by kernel_rfl) (by simp) ?_
        refine (AllReadyH.cons rfl (fun K hK => ?_) AllReadyH.nil)
        simp only [List.getElem_toArray, List.getElem_cons_zero, List.getElem_cons_succ]
        go_simp
        with_reducible refine (HN4.out _ _ J61_9).mono ?_
        rintro e v62 ⟨rfl, k62⟩
        have J62_24 := J61_24.below k62
        have B62 := B61.trans (k62.mono B61.size)
        have A62 := A61.kept k62
        refine hK.out _ _ A62 (fun hHeld => ?_)
        clear hK K
        (try simp only [Act.put, List.getElem_toArray, List.getElem_cons_zero, List.getElem_cons_succ, List.setIfInBounds_toArray, List.set_cons_zero, List.set_cons_succ])
        refine wpAnyH_take (i := 11) (v := .string ⟨z2.toArray⟩) rfl (by kernel_rfl) (by kernel_rfl) (by kernel_rfl) (fun _ _ _ h => h) (Or.inl ⟨by rfl, fun w hSw => by go_simp⟩) (by assumption) ?_
        (try simp only [Act.put, List.getElem_toArray, List.getElem_cons_zero, List.getElem_cons_succ, List.setIfInBounds_toArray, List.set_cons_zero, List.set_cons_succ])
        refine wpAnyH_take (i := 13) (v := .string ⟨z3.toArray⟩) rfl (by kernel_rfl) (by kernel_rfl) (by kernel_rfl) (fun _ _ _ h => h) (Or.inl ⟨by rfl, fun w hSw => by go_simp⟩) (by assumption) ?_
        (try simp only [Act.put, List.getElem_toArray, List.getElem_cons_zero, List.getElem_cons_succ, List.setIfInBounds_toArray, List.set_cons_zero, List.set_cons_succ])
        refine wpAnyH_take (i := 15) (v := .string ⟨z4.toArray⟩) rfl (by kernel_rfl) (by kernel_rfl) (by kernel_rfl) (fun _ _ _ h => h) (Or.inl ⟨by rfl, fun w hSw => by go_simp⟩) (by assumption) ?_
        (try simp only [Act.put, List.getElem_toArray, List.getElem_cons_zero, List.getElem_cons_succ, List.setIfInBounds_toArray, List.set_cons_zero, List.set_cons_succ])
        refine wpAnyH_ready (rs := [25]) (by kernel_rfl) (by simp) ?_
        refine (AllReadyH.cons rfl (fun K hK => ?_) AllReadyH.nil)
        simp only [List.getElem_toArray, List.getElem_cons_zero, List.getElem_cons_succ]
        go_simp
        with_reducible refine (HN2.out _ _ J62_24).mono ?_
        rintro e v63 ⟨rfl, k63⟩
        have B63 := B62.trans (k63.mono B62.size)
        have A63 := A62.kept k63
        refine hK.out _ _ A63 (fun hHeld => ?_)
        clear hK K
        (try simp only [Act.put, List.getElem_toArray, List.getElem_cons_zero, List.getElem_cons_succ, List.setIfInBounds_toArray, List.set_cons_zero, List.set_cons_succ])
        refine wpAnyH_take (i := 26) (v := ?_) rfl (by kernel_rfl) (by kernel_rfl) (by kernel_rfl) (fun _ _ _ h => h) (Or.inl ⟨by rfl, ?_⟩) (by assumption) ?_
        rotate_left
        · (intro w hSw; (try dsimp only at hSw); go_simp; (try with_reducible rfl))
        (try simp only [Act.put, List.getElem_toArray, List.getElem_cons_zero, List.getElem_cons_succ, List.setIfInBounds_toArray, List.set_cons_zero, List.set_cons_succ])
        refine wpAnyH_take (i := 27) (v := ?_) rfl (by kernel_rfl) (by kernel_rfl) (by kernel_rfl) (fun _ _ _ h => h) (Or.inl ⟨by rfl, ?_⟩) (by assumption) ?_
        rotate_left
        · (intro w hSw; (try dsimp only at hSw); go_simp; (try with_reducible rfl))
        (try simp only [Act.put, List.getElem_toArray, List.getElem_cons_zero, List.getElem_cons_succ, List.setIfInBounds_toArray, List.set_cons_zero, List.set_cons_succ])
        refine wpAnyH_done (by kernel_rfl) ?_ _
        refine NoPanic.normal ?_
        go_wp2
        go_ret
        exact ⟨by rw [HBL.out]; rfl, B63⟩
    · simp only [List.getElem_toArray, List.getElem_cons_zero, List.getElem_cons_succ]
      go_simp
      have I64 := IRow.new4 (v11) b.age b.mx b.hel b.wai 3
      have B64 := B11.alloc B11.size (.cells #[.int .i64 b.age, .int .i64 b.mx, .int .i64 b.hel, .int .i64 b.wai] 3)
      have A64 := A11.alloc (.cells #[.int .i64 b.age, .int .i64 b.mx, .int .i64 b.hel, .int .i64 b.wai] 3)
      generalize (v11).heap.size = g64 at *
      generalize (v11).alloc (.cells #[.int .i64 b.age, .int .i64 b.mx, .int .i64 b.hel, .int .i64 b.wai] 3) = v64 at *
      refine hK.out _ _ A64 (fun hHeld => ?_)
      clear hK K
      (try simp only [Act.put, List.getElem_toArray, List.getElem_cons_zero, List.getElem_cons_succ, List.setIfInBounds_toArray, List.set_cons_zero, List.set_cons_succ])
      refine wpAnyH_ready (rs := [3, 9]) (by kernel_rfl) (by simp) ?_
      refine (AllReadyH.cons rfl (fun K hK => ?_) (AllReadyH.cons rfl (fun K hK => ?_) AllReadyH.nil))
      · simp only [List.getElem_toArray, List.getElem_cons_zero, List.getElem_cons_succ]
        go_simp
        have I65 := IRow.new1 (v64) (byF b.f : Int) 3
        have J65_24 : IRow ((v64).alloc (.cells #[.int .i64 (byF b.f : Int)] 3)) g64 [b.age, b.mx, b.hel, b.wai] := I64.below ((Below.refl _ _).alloc (Nat.le_refl _) (.cells #[.int .i64 (byF b.f : Int)] 3))
        have B65 := B64.alloc B64.size (.cells #[.int .i64 (byF b.f : Int)] 3)
        have A65 := A64.alloc (.cells #[.int .i64 (byF b.f : Int)] 3)
        generalize (v64).heap.size = g65 at *
        generalize (v64).alloc (.cells #[.int .i64 (byF b.f : Int)] 3) = v65 at *
        refine hK.out _ _ A65 (fun hHeld => ?_)
        clear hK K
        (try simp only [Act.put, List.getElem_toArray, List.getElem_cons_zero, List.getElem_cons_succ, List.setIfInBounds_toArray, List.set_cons_zero, List.set_cons_succ])
        refine wpAnyH_ready (rs := [4, 9]) (by kernel_rfl) (by simp) ?_
        refine (AllReadyH.cons rfl (fun K hK => ?_) (AllReadyH.cons rfl (fun K hK => ?_) AllReadyH.nil))
        · simp only [List.getElem_toArray, List.getElem_cons_zero, List.getElem_cons_succ]
          go_simp
          with_reducible refine (HN1.out _ _ I65).mono ?_
          rintro e v66 ⟨rfl, k66⟩
          have J66_24 := J65_24.below k66
          have B66 := B65.trans (k66.mono B65.size)
          have A66 := A65.kept k66
          refine hK.out _ _ A66 (fun hHeld => ?_)
          clear hK K
          (try simp only [Act.put, List.getElem_toArray, List.getElem_cons_zero, List.getElem_cons_succ, List.setIfInBounds_toArray, List.set_cons_zero, List.set_cons_succ])
          refine wpAnyH_take (i := 6) (v := .string ⟨z1.toArray⟩) rfl (by kernel_rfl) (by kernel_rfl) (by kernel_rfl) (fun _ _ _ h => h) (Or.inl ⟨by rfl, fun w hSw => by go_simp⟩) (by assumption) ?_
          (try simp only [Act.put, List.getElem_toArray, List.getElem_cons_zero, List.getElem_cons_succ, List.setIfInBounds_toArray, List.set_cons_zero, List.set_cons_succ])
          refine wpAnyH_ready (rs := [9]) (by kernel_rfl) (by simp) ?_
          refine (AllReadyH.cons rfl (fun K hK => ?_) AllReadyH.nil)
          simp only [List.getElem_toArray, List.getElem_cons_zero, List.getElem_cons_succ]
          go_simp
          have I67 := IRow.new1 (v66) b.cost 3
          have J67_24 : IRow ((v66).alloc (.cells #[.int .i64 b.cost] 3)) g64 [b.age, b.mx, b.hel, b.wai] := J66_24.below ((Below.refl _ _).alloc (Nat.le_refl _) (.cells #[.int .i64 b.cost] 3))
          have B67 := B66.alloc B66.size (.cells #[.int .i64 b.cost] 3)
          have A67 := A66.alloc (.cells #[.int .i64 b.cost] 3)
          generalize (v66).heap.size = g67 at *
          generalize (v66).alloc (.cells #[.int .i64 b.cost] 3) = v67 at *
          refine hK.out _ _ A67 (fun hHeld => ?_)
          clear hK K
          (try simp only [Act.put, List.getElem_toArray, List.getElem_cons_zero, List.getElem_cons_succ, List.setIfInBounds_toArray, List.set_cons_zero, List.set_cons_succ])
          refine wpAnyH_ready (rs := [10]) (by kernel_rfl) (by simp) ?_
          refine (AllReadyH.cons rfl (fun K hK => ?_) AllReadyH.nil)
          simp only [List.getElem_toArray, List.getElem_cons_zero, List.getElem_cons_succ]
          go_simp
          with_reducible refine (HN4.out _ _ I67).mono ?_
          rintro e v68 ⟨rfl, k68⟩
          have J68_24 := J67_24.below k68
          have B68 := B67.trans (k68.mono B67.size)
          have A68 := A67.kept k68
          refine hK.out _ _ A68 (fun hHeld => ?_)
          clear hK K
          (try simp only [Act.put, List.getElem_toArray, List.getElem_cons_zero, List.getElem_cons_succ, List.setIfInBounds_toArray, List.set_cons_zero, List.set_cons_succ])
          refine wpAnyH_take (i := 11) (v := .string ⟨z2.toArray⟩) rfl (by kernel_rfl) (by kernel_rfl) (by kernel_rfl) (fun _ _ _ h => h) (Or.inl ⟨by rfl, fun w hSw => by go_simp⟩) (by assumption) ?_
          (try simp only [Act.put, List.getElem_toArray, List.getElem_cons_zero, List.getElem_cons_succ, List.setIfInBounds_toArray, List.set_cons_zero, List.set_cons_succ])
          refine wpAnyH_take (i := 13) (v := .string ⟨z3.toArray⟩) rfl (by kernel_rfl) (by kernel_rfl) (by kernel_rfl) (fun _ _ _ h => h) (Or.inl ⟨by rfl, fun w hSw => by go_simp⟩) (by assumption) ?_
          (try simp only [Act.put, List.getElem_toArray, List.getElem_cons_zero, List.getElem_cons_succ, List.setIfInBounds_toArray, List.set_cons_zero, List.set_cons_succ])
          refine wpAnyH_take (i := 15) (v := .string ⟨z4.toArray⟩) rfl (by kernel_rfl) (by kernel_rfl) (by kernel_rfl) (fun _ _ _ h => h) (Or.inl ⟨by rfl, fun w hSw => by go_simp⟩) (by assumption) ?_
          (try simp only [Act.put, List.getElem_toArray, List.getElem_cons_zero, List.getElem_cons_succ, List.setIfInBounds_toArray, List.set_cons_zero, List.set_cons_succ])
          refine wpAnyH_ready (rs := [25]) (by kernel_rfl) (by simp) ?_
          refine (AllReadyH.cons rfl (fun K hK => ?_) AllReadyH.nil)
          simp only [List.getElem_toArray, List.getElem_cons_zero, List.getElem_cons_succ]
          go_simp
          with_reducible refine (HN2.out _ _ J68_24).mono ?_
          rintro e v69 ⟨rfl, k69⟩
          have B69 := B68.trans (k69.mono B68.size)
          have A69 := A68.kept k69
          refine hK.out _ _ A69 (fun hHeld => ?_)
          clear hK K
          (try simp only [Act.put, List.getElem_toArray, List.getElem_cons_zero, List.getElem_cons_succ, List.setIfInBounds_toArray, List.set_cons_zero, List.set_cons_succ])
          refine wpAnyH_take (i := 26) (v := ?_) rfl (by kernel_rfl) (by kernel_rfl) (by kernel_rfl) (fun _ _ _ h => h) (Or.inl ⟨by rfl, ?_⟩) (by assumption) ?_
          rotate_left
          · (intro w hSw; (try dsimp only at hSw); go_simp; (try with_reducible rfl))
          (try simp only [Act.put, List.getElem_toArray, List.getElem_cons_zero, List.getElem_cons_succ, List.setIfInBounds_toArray, List.set_cons_zero, List.set_cons_succ])
          refine wpAnyH_take (i := 27) (v := ?_) rfl (by kernel_rfl) (by kernel_rfl) (by kernel_rfl) (fun _ _ _ h => h) (Or.inl ⟨by rfl, ?_⟩) (by assumption) ?_
          rotate_left
          · (intro w hSw; (try dsimp only at hSw); go_simp; (try with_reducible rfl))
          (try simp only [Act.put, List.getElem_toArray, List.getElem_cons_zero, List.getElem_cons_succ, List.setIfInBounds_toArray, List.set_cons_zero, List.set_cons_succ])
          refine wpAnyH_done (by kernel_rfl) ?_ _
          refine NoPanic.normal ?_
          go_wp2
          go_ret
          exact ⟨by rw [HBL.out]; rfl, B69⟩
        · simp only [List.getElem_toArray, List.getElem_cons_zero, List.getElem_cons_succ]
          go_simp
          have I70 := IRow.new1 (v65) b.cost 3
          have J70_24 : IRow ((v65).alloc (.cells #[.int .i64 b.cost] 3)) g64 [b.age, b.mx, b.hel, b.wai] := J65_24.below ((Below.refl _ _).alloc (Nat.le_refl _) (.cells #[.int .i64 b.cost] 3))
          have J70_3 : IRow ((v65).alloc (.cells #[.int .i64 b.cost] 3)) g65 [(byF b.f : Int)] := I65.below ((Below.refl _ _).alloc (Nat.le_refl _) (.cells #[.int .i64 b.cost] 3))
          have B70 := B65.alloc B65.size (.cells #[.int .i64 b.cost] 3)
          have A70 := A65.alloc (.cells #[.int .i64 b.cost] 3)
          generalize (v65).heap.size = g70 at *
          generalize (v65).alloc (.cells #[.int .i64 b.cost] 3) = v70 at *
          refine hK.out _ _ A70 (fun hHeld => ?_)
          clear hK K
          (try simp only [Act.put, List.getElem_toArray, List.getElem_cons_zero, List.getElem_cons_succ, List.setIfInBounds_toArray, List.set_cons_zero, List.set_cons_succ])
          refine wpAnyH_ready (rs := [4]) (by kernel_rfl) (by simp) ?_
          refine (AllReadyH.cons rfl (fun K hK => ?_) AllReadyH.nil)
          simp only [List.getElem_toArray, List.getElem_cons_zero, List.getElem_cons_succ]
          go_simp
          with_reducible refine (HN1.out _ _ J70_3).mono ?_
          rintro e v71 ⟨rfl, k71⟩
          have J71_24 := J70_24.below k71
          have J71_9 := I70.below k71
          have B71 := B70.trans (k71.mono B70.size)
          have A71 := A70.kept k71
          refine hK.out _ _ A71 (fun hHeld => ?_)
          clear hK K
          (try simp only [Act.put, List.getElem_toArray, List.getElem_cons_zero, List.getElem_cons_succ, List.setIfInBounds_toArray, List.set_cons_zero, List.set_cons_succ])
          refine wpAnyH_take (i := 6) (v := .string ⟨z1.toArray⟩) rfl (by kernel_rfl) (by kernel_rfl) (by kernel_rfl) (fun _ _ _ h => h) (Or.inl ⟨by rfl, fun w hSw => by go_simp⟩) (by assumption) ?_
          (try simp only [Act.put, List.getElem_toArray, List.getElem_cons_zero, List.getElem_cons_succ, List.setIfInBounds_toArray, List.set_cons_zero, List.set_cons_succ])
          refine wpAnyH_ready (rs := [10]) (by kernel_rfl) (by simp) ?_
          refine (AllReadyH.cons rfl (fun K hK => ?_) AllReadyH.nil)
          simp only [List.getElem_toArray, List.getElem_cons_zero, List.getElem_cons_succ]
          go_simp
          with_reducible refine (HN4.out _ _ J71_9).mono ?_
          rintro e v72 ⟨rfl, k72⟩
          have J72_24 := J71_24.below k72
          have B72 := B71.trans (k72.mono B71.size)
          have A72 := A71.kept k72
          refine hK.out _ _ A72 (fun hHeld => ?_)
          clear hK K
          (try simp only [Act.put, List.getElem_toArray, List.getElem_cons_zero, List.getElem_cons_succ, List.setIfInBounds_toArray, List.set_cons_zero, List.set_cons_succ])
          refine wpAnyH_take (i := 11) (v := .string ⟨z2.toArray⟩) rfl (by kernel_rfl) (by kernel_rfl) (by kernel_rfl) (fun _ _ _ h => h) (Or.inl ⟨by rfl, fun w hSw => by go_simp⟩) (by assumption) ?_
          (try simp only [Act.put, List.getElem_toArray, List.getElem_cons_zero, List.getElem_cons_succ, List.setIfInBounds_toArray, List.set_cons_zero, List.set_cons_succ])
          refine wpAnyH_take (i := 13) (v := .string ⟨z3.toArray⟩) rfl (by kernel_rfl) (by kernel_rfl) (by kernel_rfl) (fun _ _ _ h => h) (Or.inl ⟨by rfl, fun w hSw => by go_simp⟩) (by assumption) ?_
          (try simp only [Act.put, List.getElem_toArray, List.getElem_cons_zero, List.getElem_cons_succ, List.setIfInBounds_toArray, List.set_cons_zero, List.set_cons_succ])
          refine wpAnyH_take (i := 15) (v := .string ⟨z4.toArray⟩) rfl (by kernel_rfl) (by kernel_rfl) (by kernel_rfl) (fun _ _ _ h => h) (Or.inl ⟨by rfl, fun w hSw => by go_simp⟩) (by assumption) ?_
          (try simp only [Act.put, List.getElem_toArray, List.getElem_cons_zero, List.getElem_cons_succ, List.setIfInBounds_toArray, List.set_cons_zero, List.set_cons_succ])
          refine wpAnyH_ready (rs := [25]) (by kernel_rfl) (by simp) ?_
          refine (AllReadyH.cons rfl (fun K hK => ?_) AllReadyH.nil)
          simp only [List.getElem_toArray, List.getElem_cons_zero, List.getElem_cons_succ]
          go_simp
          with_reducible refine (HN2.out _ _ J72_24).mono ?_
          rintro e v73 ⟨rfl, k73⟩
          have B73 := B72.trans (k73.mono B72.size)
          have A73 := A72.kept k73
          refine hK.out _ _ A73 (fun hHeld => ?_)
          clear hK K
          (try simp only [Act.put, List.getElem_toArray, List.getElem_cons_zero, List.getElem_cons_succ, List.setIfInBounds_toArray, List.set_cons_zero, List.set_cons_succ])
          refine wpAnyH_take (i := 26) (v := ?_) rfl (by kernel_rfl) (by kernel_rfl) (by kernel_rfl) (fun _ _ _ h => h) (Or.inl ⟨by rfl, ?_⟩) (by assumption) ?_
          rotate_left
          · (intro w hSw; (try dsimp only at hSw); go_simp; (try with_reducible rfl))
          (try simp only [Act.put, List.getElem_toArray, List.getElem_cons_zero, List.getElem_cons_succ, List.setIfInBounds_toArray, List.set_cons_zero, List.set_cons_succ])
          refine wpAnyH_take (i := 27) (v := ?_) rfl (by kernel_rfl) (by kernel_rfl) (by kernel_rfl) (fun _ _ _ h => h) (Or.inl ⟨by rfl, ?_⟩) (by assumption) ?_
          rotate_left
          · (intro w hSw; (try dsimp only at hSw); go_simp; (try with_reducible rfl))
          (try simp only [Act.put, List.getElem_toArray, List.getElem_cons_zero, List.getElem_cons_succ, List.setIfInBounds_toArray, List.set_cons_zero, List.set_cons_succ])
          refine wpAnyH_done (by kernel_rfl) ?_ _
          refine NoPanic.normal ?_
          go_wp2
          go_ret
          exact ⟨by rw [HBL.out]; rfl, B73⟩
      · simp only [List.getElem_toArray, List.getElem_cons_zero, List.getElem_cons_succ]
        go_simp
        have I74 := IRow.new1 (v64) b.cost 3
        have J74_24 : IRow ((v64).alloc (.cells #[.int .i64 b.cost] 3)) g64 [b.age, b.mx, b.hel, b.wai] := I64.below ((Below.refl _ _).alloc (Nat.le_refl _) (.cells #[.int .i64 b.cost] 3))
        have B74 := B64.alloc B64.size (.cells #[.int .i64 b.cost] 3)
        have A74 := A64.alloc (.cells #[.int .i64 b.cost] 3)
        generalize (v64).heap.size = g74 at *
        generalize (v64).alloc (.cells #[.int .i64 b.cost] 3) = v74 at *
        refine hK.out _ _ A74 (fun hHeld => ?_)
        clear hK K
        (try simp only [Act.put, List.getElem_toArray, List.getElem_cons_zero, List.getElem_cons_succ, List.setIfInBounds_toArray, List.set_cons_zero, List.set_cons_succ])
        refine wpAnyH_ready (rs := [3]) (by kernel_rfl) (by simp) ?_
        refine (AllReadyH.cons rfl (fun K hK => ?_) AllReadyH.nil)
        simp only [List.getElem_toArray, List.getElem_cons_zero, List.getElem_cons_succ]
        go_simp
        have I75 := IRow.new1 (v74) (byF b.f : Int) 3
        have J75_24 : IRow ((v74).alloc (.cells #[.int .i64 (byF b.f : Int)] 3)) g64 [b.age, b.mx, b.hel, b.wai] := J74_24.below ((Below.refl _ _).alloc (Nat.le_refl _) (.cells #[.int .i64 (byF b.f : Int)] 3))
        have J75_9 : IRow ((v74).alloc (.cells #[.int .i64 (byF b.f : Int)] 3)) g74 [b.cost] := I74.below ((Below.refl _ _).alloc (Nat.le_refl _) (.cells #[.int .i64 (byF b.f : Int)] 3))
        have B75 := B74.alloc B74.size (.cells #[.int .i64 (byF b.f : Int)] 3)
        have A75 := A74.alloc (.cells #[.int .i64 (byF b.f : Int)] 3)
        generalize (v74).heap.size = g75 at *
        generalize (v74).alloc (.cells #[.int .i64 (byF b.f : Int)] 3) = v75 at *
        refine hK.out _ _ A75 (fun hHeld => ?_)
        clear hK K
        (try simp only [Act.put, List.getElem_toArray, List.getElem_cons_zero, List.getElem_cons_succ, List.setIfInBounds_toArray, List.set_cons_zero, List.set_cons_succ])
        refine wpAnyH_ready (rs := [4]) (by kernel_rfl) (by simp) ?_
        refine (AllReadyH.cons rfl (fun K hK => ?_) AllReadyH.nil)
        simp only [List.getElem_toArray, List.getElem_cons_zero, List.getElem_cons_succ]
        go_simp
        with_reducible refine (HN1.out _ _ I75).mono ?_
        rintro e v76 ⟨rfl, k76⟩
        have J76_24 := J75_24.below k76
        have J76_9 := J75_9.below k76
        have B76 := B75.trans (k76.mono B75.size)
        have A76 := A75.kept k76
        refine hK.out _ _ A76 (fun hHeld => ?_)
        clear hK K
        (try simp only [Act.put, List.getElem_toArray, List.getElem_cons_zero, List.getElem_cons_succ, List.setIfInBounds_toArray, List.set_cons_zero, List.set_cons_succ])
        refine wpAnyH_take (i := 6) (v := .string ⟨z1.toArray⟩) rfl (by kernel_rfl) (by kernel_rfl) (by kernel_rfl) (fun _ _ _ h => h) (Or.inl ⟨by rfl, fun w hSw => by go_simp⟩) (by assumption) ?_
        (try simp only [Act.put, List.getElem_toArray, List.getElem_cons_zero, List.getElem_cons_succ, List.setIfInBounds_toArray, List.set_cons_zero, List.set_cons_succ])
        refine wpAnyH_ready (rs := [10]) (by kernel_rfl) (by simp) ?_
        refine (AllReadyH.cons rfl (fun K hK => ?_) AllReadyH.nil)
        simp only [List.getElem_toArray, List.getElem_cons_zero, List.getElem_cons_succ]
        go_simp
        with_reducible refine (HN4.out _ _ J76_9).mono ?_
        rintro e v77 ⟨rfl, k77⟩
        have J77_24 := J76_24.below k77
        have B77 := B76.trans (k77.mono B76.size)
        have A77 := A76.kept k77
        refine hK.out _ _ A77 (fun hHeld => ?_)
        clear hK K
        (try simp only [Act.put, List.getElem_toArray, List.getElem_cons_zero, List.getElem_cons_succ, List.setIfInBounds_toArray, List.set_cons_zero, List.set_cons_succ])
        refine wpAnyH_take (i := 11) (v := .string ⟨z2.toArray⟩) rfl (by kernel_rfl) (by kernel_rfl) (by kernel_rfl) (fun _ _ _ h => h) (Or.inl ⟨by rfl, fun w hSw => by go_simp⟩) (by assumption) ?_
        (try simp only [Act.put, List.getElem_toArray, List.getElem_cons_zero, List.getElem_cons_succ, List.setIfInBounds_toArray, List.set_cons_zero, List.set_cons_succ])
        refine wpAnyH_take (i := 13) (v := .string ⟨z3.toArray⟩) rfl (by kernel_rfl) (by kernel_rfl) (by kernel_rfl) (fun _ _ _ h => h) (Or.inl ⟨by rfl, fun w hSw => by go_simp⟩) (by assumption) ?_
        (try simp only [Act.put, List.getElem_toArray, List.getElem_cons_zero, List.getElem_cons_succ, List.setIfInBounds_toArray, List.set_cons_zero, List.set_cons_succ])
        refine wpAnyH_take (i := 15) (v := .string ⟨z4.toArray⟩) rfl (by kernel_rfl) (by kernel_rfl) (by kernel_rfl) (fun _ _ _ h => h) (Or.inl ⟨by rfl, fun w hSw => by go_simp⟩) (by assumption) ?_
        (try simp only [Act.put, List.getElem_toArray, List.getElem_cons_zero, List.getElem_cons_succ, List.setIfInBounds_toArray, List.set_cons_zero, List.set_cons_succ])
        refine wpAnyH_ready (rs := [25]) (by kernel_rfl) (by simp) ?_
        refine (AllReadyH.cons rfl (fun K hK => ?_) AllReadyH.nil)
        simp only [List.getElem_toArray, List.getElem_cons_zero, List.getElem_cons_succ]
        go_simp
        with_reducible refine (HN2.out _ _ J77_24).mono ?_
        rintro e v78 ⟨rfl, k78⟩
        have B78 := B77.trans (k78.mono B77.size)
        have A78 := A77.kept k78
        refine hK.out _ _ A78 (fun hHeld => ?_)
        clear hK K
        (try simp only [Act.put, List.getElem_toArray, List.getElem_cons_zero, List.getElem_cons_succ, List.setIfInBounds_toArray, List.set_cons_zero, List.set_cons_succ])
        refine wpAnyH_take (i := 26) (v := ?_) rfl (by kernel_rfl) (by kernel_rfl) (by kernel_rfl) (fun _ _ _ h => h) (Or.inl ⟨by rfl, ?_⟩) (by assumption) ?_
        rotate_left
        · (intro w hSw; (try dsimp only at hSw); go_simp; (try with_reducible rfl))
        (try simp only [Act.put, List.getElem_toArray, List.getElem_cons_zero, List.getElem_cons_succ, List.setIfInBounds_toArray, List.set_cons_zero, List.set_cons_succ])
        refine wpAnyH_take (i := 27) (v := ?_) rfl (by kernel_rfl) (by kernel_rfl) (by kernel_rfl) (fun _ _ _ h => h) (Or.inl ⟨by rfl, ?_⟩) (by assumption) ?_
        rotate_left
        · (intro w hSw; (try dsimp only at hSw); go_simp; (try with_reducible rfl))
        (try simp only [Act.put, List.getElem_toArray, List.getElem_cons_zero, List.getElem_cons_succ, List.setIfInBounds_toArray, List.set_cons_zero, List.set_cons_succ])
        refine wpAnyH_done (by kernel_rfl) ?_ _
        refine NoPanic.normal ?_
        go_wp2
        go_ret
        exact ⟨by rw [HBL.out]; rfl, B78⟩
  · simp only [List.getElem_toArray, List.getElem_cons_zero, List.getElem_cons_succ]
    go_simp
    have I79 := IRow.new1 (wd) b.cost 3
    have B79 := D5.alloc D5.size (.cells #[.int .i64 b.cost] 3)
    have A79 := A5.alloc (.cells #[.int .i64 b.cost] 3)
    generalize (wd).heap.size = g79 at *
    generalize (wd).alloc (.cells #[.int .i64 b.cost] 3) = v79 at *
    refine hK.out _ _ A79 (fun hHeld => ?_)
    clear hK K
    (try simp only [Act.put, List.getElem_toArray, List.getElem_cons_zero, List.getElem_cons_succ, List.setIfInBounds_toArray, List.set_cons_zero, List.set_cons_succ])
    refine wpAnyH_ready (rs := [2, 24]) (by kernel_rfl) (by simp) ?_
    refine (AllReadyH.cons rfl (fun K hK => ?_) (AllReadyH.cons rfl (fun K hK => ?_) AllReadyH.nil))
    · simp only [List.getElem_toArray, List.getElem_cons_zero, List.getElem_cons_succ]
      go_simp
      with_reducible refine (HBy.out _).mono ?_
      rintro e v80 ⟨rfl, k80⟩
      have J80_9 := I79.below k80
      have B80 := B79.trans (k80.mono B79.size)
      have A80 := A79.kept k80
      refine hK.out _ _ A80 (fun hHeld => ?_)
      clear hK K
      (try simp only [Act.put, List.getElem_toArray, List.getElem_cons_zero, List.getElem_cons_succ, List.setIfInBounds_toArray, List.set_cons_zero, List.set_cons_succ])
      refine wpAnyH_ready (rs := [3, 24]) (by kernel_rfl) (by simp) ?_
      refine (AllReadyH.cons rfl (fun K hK => ?_) (AllReadyH.cons rfl (fun K hK => ?_) AllReadyH.nil))
      · simp only [List.getElem_toArray, List.getElem_cons_zero, List.getElem_cons_succ]
        go_simp
        have I81 := IRow.new1 (v80) (byF b.f : Int) 3
        have J81_9 : IRow ((v80).alloc (.cells #[.int .i64 (byF b.f : Int)] 3)) g79 [b.cost] := J80_9.below ((Below.refl _ _).alloc (Nat.le_refl _) (.cells #[.int .i64 (byF b.f : Int)] 3))
        have B81 := B80.alloc B80.size (.cells #[.int .i64 (byF b.f : Int)] 3)
        have A81 := A80.alloc (.cells #[.int .i64 (byF b.f : Int)] 3)
        generalize (v80).heap.size = g81 at *
        generalize (v80).alloc (.cells #[.int .i64 (byF b.f : Int)] 3) = v81 at *
        refine hK.out _ _ A81 (fun hHeld => ?_)
        clear hK K
        (try simp only [Act.put, List.getElem_toArray, List.getElem_cons_zero, List.getElem_cons_succ, List.setIfInBounds_toArray, List.set_cons_zero, List.set_cons_succ])
        refine wpAnyH_ready (rs := [4, 24]) (by kernel_rfl) (by simp) ?_
        refine (AllReadyH.cons rfl (fun K hK => ?_) (AllReadyH.cons rfl (fun K hK => ?_) AllReadyH.nil))
        · simp only [List.getElem_toArray, List.getElem_cons_zero, List.getElem_cons_succ]
          go_simp
          with_reducible refine (HN1.out _ _ I81).mono ?_
          rintro e v82 ⟨rfl, k82⟩
          have J82_9 := J81_9.below k82
          have B82 := B81.trans (k82.mono B81.size)
          have A82 := A81.kept k82
          refine hK.out _ _ A82 (fun hHeld => ?_)
          clear hK K
          (try simp only [Act.put, List.getElem_toArray, List.getElem_cons_zero, List.getElem_cons_succ, List.setIfInBounds_toArray, List.set_cons_zero, List.set_cons_succ])
          refine wpAnyH_take (i := 6) (v := .string ⟨z1.toArray⟩) rfl (by kernel_rfl) (by kernel_rfl) (by kernel_rfl) (fun _ _ _ h => h) (Or.inl ⟨by rfl, fun w hSw => by go_simp⟩) (by assumption) ?_
          (try simp only [Act.put, List.getElem_toArray, List.getElem_cons_zero, List.getElem_cons_succ, List.setIfInBounds_toArray, List.set_cons_zero, List.set_cons_succ])
          refine wpAnyH_ready (rs := [10, 24]) (by kernel_rfl) (by simp) ?_
          refine (AllReadyH.cons rfl (fun K hK => ?_) (AllReadyH.cons rfl (fun K hK => ?_) AllReadyH.nil))
          · simp only [List.getElem_toArray, List.getElem_cons_zero, List.getElem_cons_succ]
            go_simp
            with_reducible refine (HN4.out _ _ J82_9).mono ?_
            rintro e v83 ⟨rfl, k83⟩
            have B83 := B82.trans (k83.mono B82.size)
            have A83 := A82.kept k83
            refine hK.out _ _ A83 (fun hHeld => ?_)
            clear hK K
            (try simp only [Act.put, List.getElem_toArray, List.getElem_cons_zero, List.getElem_cons_succ, List.setIfInBounds_toArray, List.set_cons_zero, List.set_cons_succ])
            refine wpAnyH_take (i := 11) (v := .string ⟨z2.toArray⟩) rfl (by kernel_rfl) (by kernel_rfl) (by kernel_rfl) (fun _ _ _ h => h) (Or.inl ⟨by rfl, fun w hSw => by go_simp⟩) (by assumption) ?_
            (try simp only [Act.put, List.getElem_toArray, List.getElem_cons_zero, List.getElem_cons_succ, List.setIfInBounds_toArray, List.set_cons_zero, List.set_cons_succ])
            refine wpAnyH_take (i := 13) (v := .string ⟨z3.toArray⟩) rfl (by kernel_rfl) (by kernel_rfl) (by kernel_rfl) (fun _ _ _ h => h) (Or.inl ⟨by rfl, fun w hSw => by go_simp⟩) (by assumption) ?_
            (try simp only [Act.put, List.getElem_toArray, List.getElem_cons_zero, List.getElem_cons_succ, List.setIfInBounds_toArray, List.set_cons_zero, List.set_cons_succ])
            refine wpAnyH_take (i := 15) (v := .string ⟨z4.toArray⟩) rfl (by kernel_rfl) (by kernel_rfl) (by kernel_rfl) (fun _ _ _ h => h) (Or.inl ⟨by rfl, fun w hSw => by go_simp⟩) (by assumption) ?_
            (try simp only [Act.put, List.getElem_toArray, List.getElem_cons_zero, List.getElem_cons_succ, List.setIfInBounds_toArray, List.set_cons_zero, List.set_cons_succ])
            refine wpAnyH_ready (rs := [24]) (by kernel_rfl) (by simp) ?_
            refine (AllReadyH.cons rfl (fun K hK => ?_) AllReadyH.nil)
            simp only [List.getElem_toArray, List.getElem_cons_zero, List.getElem_cons_succ]
            go_simp
            have I84 := IRow.new4 (v83) b.age b.mx b.hel b.wai 3
            have B84 := B83.alloc B83.size (.cells #[.int .i64 b.age, .int .i64 b.mx, .int .i64 b.hel, .int .i64 b.wai] 3)
            have A84 := A83.alloc (.cells #[.int .i64 b.age, .int .i64 b.mx, .int .i64 b.hel, .int .i64 b.wai] 3)
            generalize (v83).heap.size = g84 at *
            generalize (v83).alloc (.cells #[.int .i64 b.age, .int .i64 b.mx, .int .i64 b.hel, .int .i64 b.wai] 3) = v84 at *
            refine hK.out _ _ A84 (fun hHeld => ?_)
            clear hK K
            (try simp only [Act.put, List.getElem_toArray, List.getElem_cons_zero, List.getElem_cons_succ, List.setIfInBounds_toArray, List.set_cons_zero, List.set_cons_succ])
            refine wpAnyH_ready (rs := [25]) (by kernel_rfl) (by simp) ?_
            refine (AllReadyH.cons rfl (fun K hK => ?_) AllReadyH.nil)
            simp only [List.getElem_toArray, List.getElem_cons_zero, List.getElem_cons_succ]
            go_simp
            with_reducible refine (HN2.out _ _ I84).mono ?_
            rintro e v85 ⟨rfl, k85⟩
            have B85 := B84.trans (k85.mono B84.size)
            have A85 := A84.kept k85
            refine hK.out _ _ A85 (fun hHeld => ?_)
            clear hK K
            (try simp only [Act.put, List.getElem_toArray, List.getElem_cons_zero, List.getElem_cons_succ, List.setIfInBounds_toArray, List.set_cons_zero, List.set_cons_succ])
            refine wpAnyH_take (i := 26) (v := ?_) rfl (by kernel_rfl) (by kernel_rfl) (by kernel_rfl) (fun _ _ _ h => h) (Or.inl ⟨by rfl, ?_⟩) (by assumption) ?_
            rotate_left
            · (intro w hSw; (try dsimp only at hSw); go_simp; (try with_reducible rfl))
            (try simp only [Act.put, List.getElem_toArray, List.getElem_cons_zero, List.getElem_cons_succ, List.setIfInBounds_toArray, List.set_cons_zero, List.set_cons_succ])
            refine wpAnyH_take (i := 27) (v := ?_) rfl (by kernel_rfl) (by kernel_rfl) (by kernel_rfl) (fun _ _ _ h => h) (Or.inl ⟨by rfl, ?_⟩) (by assumption) ?_
            rotate_left
            · (intro w hSw; (try dsimp only at hSw); go_simp; (try with_reducible rfl))
            (try simp only [Act.put, List.getElem_toArray, List.getElem_cons_zero, List.getElem_cons_succ, List.setIfInBounds_toArray, List.set_cons_zero, List.set_cons_succ])
            refine wpAnyH_done (by kernel_rfl) ?_ _
            refine NoPanic.normal ?_
            go_wp2
            go_ret
            exact ⟨by rw [HBL.out]; rfl, B85⟩
          · simp only [List.getElem_toArray, List.getElem_cons_zero, List.getElem_cons_succ]
            go_simp
            have I86 := IRow.new4 (v82) b.age b.mx b.hel b.wai 3
            have J86_9 : IRow ((v82).alloc (.cells #[.int .i64 b.age, .int .i64 b.mx, .int .i64 b.hel, .int .i64 b.wai] 3)) g79 [b.cost] := J82_9.below ((Below.refl _ _).alloc (Nat.le_refl _) (.cells #[.int .i64 b.age, .int .i64 b.mx, .int .i64 b.hel, .int .i64 b.wai] 3))
            have B86 := B82.alloc B82.size (.cells #[.int .i64 b.age, .int .i64 b.mx, .int .i64 b.hel, .int .i64 b.wai] 3)
            have A86 := A82.alloc (.cells #[.int .i64 b.age, .int .i64 b.mx, .int .i64 b.hel, .int .i64 b.wai] 3)
            generalize (v82).heap.size = g86 at *
            generalize (v82).alloc (.cells #[.int .i64 b.age, .int .i64 b.mx, .int .i64 b.hel, .int .i64 b.wai] 3) = v86 at *
            refine hK.out _ _ A86 (fun hHeld => ?_)
            clear hK K
            (try simp only [Act.put, List.getElem_toArray, List.getElem_cons_zero, List.getElem_cons_succ, List.setIfInBounds_toArray, List.set_cons_zero, List.set_cons_succ])
            refine wpAnyH_ready (rs := [10]) (by kernel_rfl) (by simp) ?_
            refine (AllReadyH.cons rfl (fun K hK => ?_) AllReadyH.nil)
            simp only [List.getElem_toArray, List.getElem_cons_zero, List.getElem_cons_succ]
            go_simp
            with_reducible refine (HN4.out _ _ J86_9).mono ?_
            rintro e v87 ⟨rfl, k87⟩
            have J87_24 := I86.below k87
            have B87 := B86.trans (k87.mono B86.size)
            have A87 := A86.kept k87
            refine hK.out _ _ A87 (fun hHeld => ?_)
            clear hK K
            (try simp only [Act.put, List.getElem_toArray, List.getElem_cons_zero, List.getElem_cons_succ, List.setIfInBounds_toArray, List.set_cons_zero, List.set_cons_succ])
            refine wpAnyH_take (i := 11) (v := .string ⟨z2.toArray⟩) rfl (by kernel_rfl) (by kernel_rfl) (by kernel_rfl) (fun _ _ _ h => h) (Or.inl ⟨by rfl, fun w hSw => by go_simp⟩) (by assumption) ?_
            (try simp only [Act.put, List.getElem_toArray, List.getElem_cons_zero, List.getElem_cons_succ, List.setIfInBounds_toArray, List.set_cons_zero, List.set_cons_succ])
            refine wpAnyH_take (i := 13) (v := .string ⟨z3.toArray⟩) rfl (by kernel_rfl) (by kernel_rfl) (by kernel_rfl) (fun _ _ _ h => h) (Or.inl ⟨by rfl, fun w hSw => by go_simp⟩) (by assumption) ?_
            (try simp only [Act.put, List.getElem_toArray, List.getElem_cons_zero, List.getElem_cons_succ, List.setIfInBounds_toArray, List.set_cons_zero, List.set_cons_succ])
            refine wpAnyH_take (i := 15) (v := .string ⟨z4.toArray⟩) rfl (by kernel_rfl) (by kernel_rfl) (by kernel_rfl) (fun _ _ _ h => h) (Or.inl ⟨by rfl, fun w hSw => by go_simp⟩) (by assumption) ?_
            (try simp only [Act.put, List.getElem_toArray, List.getElem_cons_zero, List.getElem_cons_succ, List.setIfInBounds_toArray, List.set_cons_zero, List.set_cons_succ])
            refine wpAnyH_ready (rs := [25]) (by kernel_rfl) (by simp) ?_
            refine (AllReadyH.cons rfl (fun K hK => ?_) AllReadyH.nil)
            simp only [List.getElem_toArray, List.getElem_cons_zero, List.getElem_cons_succ]
            go_simp
            with_reducible refine (HN2.out _ _ J87_24).mono ?_
            rintro e v88 ⟨rfl, k88⟩
            have B88 := B87.trans (k88.mono B87.size)
            have A88 := A87.kept k88
            refine hK.out _ _ A88 (fun hHeld => ?_)
            clear hK K
            (try simp only [Act.put, List.getElem_toArray, List.getElem_cons_zero, List.getElem_cons_succ, List.setIfInBounds_toArray, List.set_cons_zero, List.set_cons_succ])
            refine wpAnyH_take (i := 26) (v := ?_) rfl (by kernel_rfl) (by kernel_rfl) (by kernel_rfl) (fun _ _ _ h => h) (Or.inl ⟨by rfl, ?_⟩) (by assumption) ?_
            rotate_left
            · (intro w hSw; (try dsimp only at hSw); go_simp; (try with_reducible rfl))
            (try simp only [Act.put, List.getElem_toArray, List.getElem_cons_zero, List.getElem_cons_succ, List.setIfInBounds_toArray, List.set_cons_zero, List.set_cons_succ])
            refine wpAnyH_take (i := 27) (v := ?_) rfl (by kernel_rfl) (by kernel_rfl) (by kernel_rfl) (fun _ _ _ h => h) (Or.inl ⟨by rfl, ?_⟩) (by assumption) ?_
            rotate_left
            · (intro w hSw; (try dsimp only at hSw); go_simp; (try with_reducible rfl))
            (try simp only [Act.put, List.getElem_toArray, List.getElem_cons_zero, List.getElem_cons_succ, List.setIfInBounds_toArray, List.set_cons_zero, List.set_cons_succ])
            refine wpAnyH_done (by kernel_rfl) ?_ _
            refine NoPanic.normal ?_
            go_wp2
            go_ret
            exact ⟨by rw [HBL.out]; rfl, B88⟩
        · simp only [List.getElem_toArray, List.getElem_cons_zero, List.getElem_cons_succ]
          go_simp
          have I89 := IRow.new4 (v81) b.age b.mx b.hel b.wai 3
          have J89_9 : IRow ((v81).alloc (.cells #[.int .i64 b.age, .int .i64 b.mx, .int .i64 b.hel, .int .i64 b.wai] 3)) g79 [b.cost] := J81_9.below ((Below.refl _ _).alloc (Nat.le_refl _) (.cells #[.int .i64 b.age, .int .i64 b.mx, .int .i64 b.hel, .int .i64 b.wai] 3))
          have J89_3 : IRow ((v81).alloc (.cells #[.int .i64 b.age, .int .i64 b.mx, .int .i64 b.hel, .int .i64 b.wai] 3)) g81 [(byF b.f : Int)] := I81.below ((Below.refl _ _).alloc (Nat.le_refl _) (.cells #[.int .i64 b.age, .int .i64 b.mx, .int .i64 b.hel, .int .i64 b.wai] 3))
          have B89 := B81.alloc B81.size (.cells #[.int .i64 b.age, .int .i64 b.mx, .int .i64 b.hel, .int .i64 b.wai] 3)
          have A89 := A81.alloc (.cells #[.int .i64 b.age, .int .i64 b.mx, .int .i64 b.hel, .int .i64 b.wai] 3)
          generalize (v81).heap.size = g89 at *
          generalize (v81).alloc (.cells #[.int .i64 b.age, .int .i64 b.mx, .int .i64 b.hel, .int .i64 b.wai] 3) = v89 at *
          refine hK.out _ _ A89 (fun hHeld => ?_)
          clear hK K
          (try simp only [Act.put, List.getElem_toArray, List.getElem_cons_zero, List.getElem_cons_succ, List.setIfInBounds_toArray, List.set_cons_zero, List.set_cons_succ])
          refine wpAnyH_ready (rs := [4]) (by kernel_rfl) (by simp) ?_
          refine (AllReadyH.cons rfl (fun K hK => ?_) AllReadyH.nil)
          simp only [List.getElem_toArray, List.getElem_cons_zero, List.getElem_cons_succ]
          go_simp
          with_reducible refine (HN1.out _ _ J89_3).mono ?_
          rintro e v90 ⟨rfl, k90⟩
          have J90_9 := J89_9.below k90
          have J90_24 := I89.below k90
          have B90 := B89.trans (k90.mono B89.size)
          have A90 := A89.kept k90
          refine hK.out _ _ A90 (fun hHeld => ?_)
          clear hK K
          (try simp only [Act.put, List.getElem_toArray, List.getElem_cons_zero, List.getElem_cons_succ, List.setIfInBounds_toArray, List.set_cons_zero, List.set_cons_succ])
          refine wpAnyH_take (i := 6) (v := .string ⟨z1.toArray⟩) rfl (by kernel_rfl) (by kernel_rfl) (by kernel_rfl) (fun _ _ _ h => h) (Or.inl ⟨by rfl, fun w hSw => by go_simp⟩) (by assumption) ?_
          (try simp only [Act.put, List.getElem_toArray, List.getElem_cons_zero, List.getElem_cons_succ, List.setIfInBounds_toArray, List.set_cons_zero, List.set_cons_succ])
          refine wpAnyH_ready (rs := [10]) (by kernel_rfl) (by simp) ?_
          refine (AllReadyH.cons rfl (fun K hK => ?_) AllReadyH.nil)
          simp only [List.getElem_toArray, List.getElem_cons_zero, List.getElem_cons_succ]
          go_simp
          with_reducible refine (HN4.out _ _ J90_9).mono ?_
          rintro e v91 ⟨rfl, k91⟩
          have J91_24 := J90_24.below k91
          have B91 := B90.trans (k91.mono B90.size)
          have A91 := A90.kept k91
          refine hK.out _ _ A91 (fun hHeld => ?_)
          clear hK K
          (try simp only [Act.put, List.getElem_toArray, List.getElem_cons_zero, List.getElem_cons_succ, List.setIfInBounds_toArray, List.set_cons_zero, List.set_cons_succ])
          refine wpAnyH_take (i := 11) (v := .string ⟨z2.toArray⟩) rfl (by kernel_rfl) (by kernel_rfl) (by kernel_rfl) (fun _ _ _ h => h) (Or.inl ⟨by rfl, fun w hSw => by go_simp⟩) (by assumption) ?_
          (try simp only [Act.put, List.getElem_toArray, List.getElem_cons_zero, List.getElem_cons_succ, List.setIfInBounds_toArray, List.set_cons_zero, List.set_cons_succ])
          refine wpAnyH_take (i := 13) (v := .string ⟨z3.toArray⟩) rfl (by kernel_rfl) (by kernel_rfl) (by kernel_rfl) (fun _ _ _ h => h) (Or.inl ⟨by rfl, fun w hSw => by go_simp⟩) (by assumption) ?_
          (try simp only [Act.put, List.getElem_toArray, List.getElem_cons_zero, List.getElem_cons_succ, List.setIfInBounds_toArray, List.set_cons_zero, List.set_cons_succ])
          refine wpAnyH_take (i := 15) (v := .string ⟨z4.toArray⟩) rfl (by kernel_rfl) (by kernel_rfl) (by kernel_rfl) (fun _ _ _ h => h) (Or.inl ⟨by rfl, fun w hSw => by go_simp⟩) (by assumption) ?_
          (try simp only [Act.put, List.getElem_toArray, List.getElem_cons_zero, List.getElem_cons_succ, List.setIfInBounds_toArray, List.set_cons_zero, List.set_cons_succ])
          refine wpAnyH_ready (rs := [25]) (by kernel_rfl) (by simp) ?_
          refine (AllReadyH.cons rfl (fun K hK => ?_) AllReadyH.nil)
          simp only [List.getElem_toArray, List.getElem_cons_zero, List.getElem_cons_succ]
          go_simp
          with_reducible refine (HN2.out _ _ J91_24).mono ?_
          rintro e v92 ⟨rfl, k92⟩
          have B92 := B91.trans (k92.mono B91.size)
          have A92 := A91.kept k92
          refine hK.out _ _ A92 (fun hHeld => ?_)
          clear hK K
          (try simp only [Act.put, List.getElem_toArray, List.getElem_cons_zero, List.getElem_cons_succ, List.setIfInBounds_toArray, List.set_cons_zero, List.set_cons_succ])
          refine wpAnyH_take (i := 26) (v := ?_) rfl (by kernel_rfl) (by kernel_rfl) (by kernel_rfl) (fun _ _ _ h => h) (Or.inl ⟨by rfl, ?_⟩) (by assumption) ?_
          rotate_left
          · (intro w hSw; (try dsimp only at hSw); go_simp; (try with_reducible rfl))
          (try simp only [Act.put, List.getElem_toArray, List.getElem_cons_zero, List.getElem_cons_succ, List.setIfInBounds_toArray, List.set_cons_zero, List.set_cons_succ])
          refine wpAnyH_take (i := 27) (v := ?_) rfl (by kernel_rfl) (by kernel_rfl) (by kernel_rfl) (fun _ _ _ h => h) (Or.inl ⟨by rfl, ?_⟩) (by assumption) ?_
          rotate_left
          · (intro w hSw; (try dsimp only at hSw); go_simp; (try with_reducible rfl))
          (try simp only [Act.put, List.getElem_toArray, List.getElem_cons_zero, List.getElem_cons_succ, List.setIfInBounds_toArray, List.set_cons_zero, List.set_cons_succ])
          refine wpAnyH_done (by kernel_rfl) ?_ _
          refine NoPanic.normal ?_
          go_wp2
          go_ret
          exact ⟨by rw [HBL.out]; rfl, B92⟩
      · simp only [List.getElem_toArray, List.getElem_cons_zero, List.getElem_cons_succ]
        go_simp
        have I93 := IRow.new4 (v80) b.age b.mx b.hel b.wai 3
        have J93_9 : IRow ((v80).alloc (.cells #[.int .i64 b.age, .int .i64 b.mx, .int .i64 b.hel, .int .i64 b.wai] 3)) g79 [b.cost] := J80_9.below ((Below.refl _ _).alloc (Nat.le_refl _) (.cells #[.int .i64 b.age, .int .i64 b.mx, .int .i64 b.hel, .int .i64 b.wai] 3))
        have B93 := B80.alloc B80.size (.cells #[.int .i64 b.age, .int .i64 b.mx, .int .i64 b.hel, .int .i64 b.wai] 3)
        have A93 := A80.alloc (.cells #[.int .i64 b.age, .int .i64 b.mx, .int .i64 b.hel, .int .i64 b.wai] 3)
        generalize (v80).heap.size = g93 at *
        generalize (v80).alloc (.cells #[.int .i64 b.age, .int .i64 b.mx, .int .i64 b.hel, .int .i64 b.wai] 3) = v93 at *
        refine hK.out _ _ A93 (fun hHeld => ?_)
        clear hK K
        (try simp only [Act.put, List.getElem_toArray, List.getElem_cons_zero, List.getElem_cons_succ, List.setIfInBounds_toArray, List.set_cons_zero, List.set_cons_succ])
        refine wpAnyH_ready (rs := [3]) (by kernel_rfl) (by simp) ?_
        refine (AllReadyH.cons rfl (fun K hK => ?_) AllReadyH.nil)
        simp only [List.getElem_toArray, List.getElem_cons_zero, List.getElem_cons_succ]
        go_simp
        have I94 := IRow.new1 (v93) (byF b.f : Int) 3
        have J94_9 : IRow ((v93).alloc (.cells #[.int .i64 (byF b.f : Int)] 3)) g79 [b.cost] := J93_9.below ((Below.refl _ _).alloc (Nat.le_refl _) (.cells #[.int .i64 (byF b.f : Int)] 3))
        have J94_24 : IRow ((v93).alloc (.cells #[.int .i64 (byF b.f : Int)] 3)) g93 [b.age, b.mx, b.hel, b.wai] := I93.below ((Below.refl _ _).alloc (Nat.le_refl _) (.cells #[.int .i64 (byF b.f : Int)] 3))
        have B94 := B93.alloc B93.size (.cells #[.int .i64 (byF b.f : Int)] 3)
        have A94 := A93.alloc (.cells #[.int .i64 (byF b.f : Int)] 3)
        generalize (v93).heap.size = g94 at *
        generalize (v93).alloc (.cells #[.int .i64 (byF b.f : Int)] 3) = v94 at *
        refine hK.out _ _ A94 (fun hHeld => ?_)
        clear hK K
        (try simp only [Act.put, List.getElem_toArray, List.getElem_cons_zero, List.getElem_cons_succ, List.setIfInBounds_toArray, List.set_cons_zero, List.set_cons_succ])
        refine wpAnyH_ready (rs := [4]) (by kernel_rfl) (by simp) ?_
        refine (AllReadyH.cons rfl (fun K hK => ?_) AllReadyH.nil)
        simp only [List.getElem_toArray, List.getElem_cons_zero, List.getElem_cons_succ]
        go_simp
        with_reducible refine (HN1.out _ _ I94).mono ?_
        rintro e v95 ⟨rfl, k95⟩
        have J95_9 := J94_9.below k95
        have J95_24 := J94_24.below k95
        have B95 := B94.trans (k95.mono B94.size)
        have A95 := A94.kept k95
        refine hK.out _ _ A95 (fun hHeld => ?_)
        clear hK K
        (try simp only [Act.put, List.getElem_toArray, List.getElem_cons_zero, List.getElem_cons_succ, List.setIfInBounds_toArray, List.set_cons_zero, List.set_cons_succ])
        refine wpAnyH_take (i := 6) (v := .string ⟨z1.toArray⟩) rfl (by kernel_rfl) (by kernel_rfl) (by kernel_rfl) (fun _ _ _ h => h) (Or.inl ⟨by rfl, fun w hSw => by go_simp⟩) (by assumption) ?_
        (try simp only [Act.put, List.getElem_toArray, List.getElem_cons_zero, List.getElem_cons_succ, List.setIfInBounds_toArray, List.set_cons_zero, List.set_cons_succ])
        refine wpAnyH_ready (rs := [10]) (by kernel_rfl) (by simp) ?_
        refine (AllReadyH.cons rfl (fun K hK => ?_) AllReadyH.nil)
        simp only [List.getElem_toArray, List.getElem_cons_zero, List.getElem_cons_succ]
        go_simp
        with_reducible refine (HN4.out _ _ J95_9).mono ?_
        rintro e v96 ⟨rfl, k96⟩
        have J96_24 := J95_24.below k96
        have B96 := B95.trans (k96.mono B95.size)
        have A96 := A95.kept k96
        refine hK.out _ _ A96 (fun hHeld => ?_)
        clear hK K
        (try simp only [Act.put, List.getElem_toArray, List.getElem_cons_zero, List.getElem_cons_succ, List.setIfInBounds_toArray, List.set_cons_zero, List.set_cons_succ])
        refine wpAnyH_take (i := 11) (v := .string ⟨z2.toArray⟩) rfl (by kernel_rfl) (by kernel_rfl) (by kernel_rfl) (fun _ _ _ h => h) (Or.inl ⟨by rfl, fun w hSw => by go_simp⟩) (by assumption) ?_
        (try simp only [Act.put, List.getElem_toArray, List.getElem_cons_zero, List.getElem_cons_succ, List.setIfInBounds_toArray, List.set_cons_zero, List.set_cons_succ])
        refine wpAnyH_take (i := 13) (v := .string ⟨z3.toArray⟩) rfl (by kernel_rfl) (by kernel_rfl) (by kernel_rfl) (fun _ _ _ h => h) (Or.inl ⟨by rfl, fun w hSw => by go_simp⟩) (by assumption) ?_
        (try simp only [Act.put, List.getElem_toArray, List.getElem_cons_zero, List.getElem_cons_succ, List.setIfInBounds_toArray, List.set_cons_zero, List.set_cons_succ])
        refine wpAnyH_take (i := 15) (v := .string ⟨z4.toArray⟩) rfl (by kernel_rfl) (by kernel_rfl) (by kernel_rfl) (fun _ _ _ h => h) (Or.inl ⟨by rfl, fun w hSw => by go_simp⟩) (by assumption) ?_
        (try simp only [Act.put, List.getElem_toArray, List.getElem_cons_zero, List.getElem_cons_succ, List.setIfInBounds_toArray, List.set_cons_zero, List.set_cons_succ])
        refine wpAnyH_ready (rs := [25]) (by kernel_rfl) (by simp) ?_
        refine (AllReadyH.cons rfl (fun K hK => ?_) AllReadyH.nil)
        simp only [List.getElem_toArray, List.getElem_cons_zero, List.getElem_cons_succ]
        go_simp
        with_reducible refine (HN2.out _ _ J96_24).mono ?_
        rintro e v97 ⟨rfl, k97⟩
        have B97 := B96.trans (k97.mono B96.size)
        have A97 := A96.kept k97
        refine hK.out _ _ A97 (fun hHeld => ?_)
        clear hK K
        (try simp only [Act.put, List.getElem_toArray, List.getElem_cons_zero, List.getElem_cons_succ, List.setIfInBounds_toArray, List.set_cons_zero, List.set_cons_succ])
        refine wpAnyH_take (i := 26) (v := ?_) rfl (by kernel_rfl) (by kernel_rfl) (by kernel_rfl) (fun _ _ _ h => h) (Or.inl ⟨by rfl, ?_⟩) (by assumption) ?_
        rotate_left
        · (intro w hSw; (try dsimp only at hSw); go_simp; (try with_reducible rfl))
        (try simp only [Act.put, List.getElem_toArray, List.getElem_cons_zero, List.getElem_cons_succ, List.setIfInBounds_toArray, List.set_cons_zero, List.set_cons_succ])
        refine wpAnyH_take (i := 27) (v := ?_) rfl (by kernel_rfl) (by kernel_rfl) (by kernel_rfl) (fun _ _ _ h => h) (Or.inl ⟨by rfl, ?_⟩) (by assumption) ?_
        rotate_left
        · (intro w hSw; (try dsimp only at hSw); go_simp; (try with_reducible rfl))
        (try simp only [Act.put, List.getElem_toArray, List.getElem_cons_zero, List.getElem_cons_succ, List.setIfInBounds_toArray, List.set_cons_zero, List.set_cons_succ])
        refine wpAnyH_done (by kernel_rfl) ?_ _
        refine NoPanic.normal ?_
        go_wp2
        go_ret
        exact ⟨by rw [HBL.out]; rfl, B97⟩
    · simp only [List.getElem_toArray, List.getElem_cons_zero, List.getElem_cons_succ]
      go_simp
      have I98 := IRow.new4 (v79) b.age b.mx b.hel b.wai 3
      have J98_9 : IRow ((v79).alloc (.cells #[.int .i64 b.age, .int .i64 b.mx, .int .i64 b.hel, .int .i64 b.wai] 3)) g79 [b.cost] := I79.below ((Below.refl _ _).alloc (Nat.le_refl _) (.cells #[.int .i64 b.age, .int .i64 b.mx, .int .i64 b.hel, .int .i64 b.wai] 3))
      have B98 := B79.alloc B79.size (.cells #[.int .i64 b.age, .int .i64 b.mx, .int .i64 b.hel, .int .i64 b.wai] 3)
      have A98 := A79.alloc (.cells #[.int .i64 b.age, .int .i64 b.mx, .int .i64 b.hel, .int .i64 b.wai] 3)
      generalize (v79).heap.size = g98 at *
      generalize (v79).alloc (.cells #[.int .i64 b.age, .int .i64 b.mx, .int .i64 b.hel, .int .i64 b.wai] 3) = v98 at *
      refine hK.out _ _ A98 (fun hHeld => ?_)
      clear hK K
      (try simp only [Act.put, List.getElem_toArray, List.getElem_cons_zero, List.getElem_cons_succ, List.setIfInBounds_toArray, List.set_cons_zero, List.set_cons_succ])
      refine wpAnyH_ready (rs := [2]) (by kernel_rfl) (by simp) ?_
      refine (AllReadyH.cons rfl (fun K hK => ?_) AllReadyH.nil)
      simp only [List.getElem_toArray, List.getElem_cons_zero, List.getElem_cons_succ]
      go_simp
      with_reducible refine (HBy.out _).mono ?_
      rintro e v99 ⟨rfl, k99⟩
      have J99_9 := J98_9.below k99
      have J99_24 := I98.below k99
      have B99 := B98.trans (k99.mono B98.size)
      have A99 := A98.kept k99
      refine hK.out _ _ A99 (fun hHeld => ?_)
      clear hK K
      (try simp only [Act.put, List.getElem_toArray, List.getElem_cons_zero, List.getElem_cons_succ, List.setIfInBounds_toArray, List.set_cons_zero, List.set_cons_succ])
      refine wpAnyH_ready (rs := [3]) (by kernel_rfl) (by simp) ?_
      refine (AllReadyH.cons rfl (fun K hK => ?_) AllReadyH.nil)
      simp only [List.getElem_toArray, List.getElem_cons_zero, List.getElem_cons_succ]
      go_simp
      have I100 := IRow.new1 (v99) (byF b.f : Int) 3
      have J100_9 : IRow ((v99).alloc (.cells #[.int .i64 (byF b.f : Int)] 3)) g79 [b.cost] := J99_9.below ((Below.refl _ _).alloc (Nat.le_refl _) (.cells #[.int .i64 (byF b.f : Int)] 3))
      have J100_24 : IRow ((v99).alloc (.cells #[.int .i64 (byF b.f : Int)] 3)) g98 [b.age, b.mx, b.hel, b.wai] := J99_24.below ((Below.refl _ _).alloc (Nat.le_refl _) (.cells #[.int .i64 (byF b.f : Int)] 3))
      have B100 := B99.alloc B99.size (.cells #[.int .i64 (byF b.f : Int)] 3)
      have A100 := A99.alloc (.cells #[.int .i64 (byF b.f : Int)] 3)
      generalize (v99).heap.size = g100 at *
      generalize (v99).alloc (.cells #[.int .i64 (byF b.f : Int)] 3) = v100 at *
      refine hK.out _ _ A100 (fun hHeld => ?_)
      clear hK K
      (try simp only [Act.put, List.getElem_toArray, List.getElem_cons_zero, List.getElem_cons_succ, List.setIfInBounds_toArray, List.set_cons_zero, List.set_cons_succ])
      refine wpAnyH_ready (rs := [4]) (by kernel_rfl) (by simp) ?_
      refine (AllReadyH.cons rfl (fun K hK => ?_) AllReadyH.nil)
      simp only [List.getElem_toArray, List.getElem_cons_zero, List.getElem_cons_succ]
      go_simp
      with_reducible refine (HN1.out _ _ I100).mono ?_
      rintro e v101 ⟨rfl, k101⟩
      have J101_9 := J100_9.below k101
      have J101_24 := J100_24.below k101
      have B101 := B100.trans (k101.mono B100.size)
      have A101 := A100.kept k101
      refine hK.out _ _ A101 (fun hHeld => ?_)
      clear hK K
      (try simp only [Act.put, List.getElem_toArray, List.getElem_cons_zero, List.getElem_cons_succ, List.setIfInBounds_toArray, List.set_cons_zero, List.set_cons_succ])
      refine wpAnyH_take (i := 6) (v := .string ⟨z1.toArray⟩) rfl (by kernel_rfl) (by kernel_rfl) (by kernel_rfl) (fun _ _ _ h => h) (Or.inl ⟨by rfl, fun w hSw => by go_simp⟩) (by assumption) ?_
      (try simp only [Act.put, List.getElem_toArray, List.getElem_cons_zero, List.getElem_cons_succ, List.setIfInBounds_toArray, List.set_cons_zero, List.set_cons_succ])
      refine wpAnyH_ready (rs := [10]) (by kernel_rfl) (by simp) ?_
      refine (AllReadyH.cons rfl (fun K hK => ?_) AllReadyH.nil)
      simp only [List.getElem_toArray, List.getElem_cons_zero, List.getElem_cons_succ]
      go_simp
      with_reducible refine (HN4.out _ _ J101_9).mono ?_
      rintro e v102 ⟨rfl, k102⟩
      have J102_24 := J101_24.below k102
      have B102 := B101.trans (k102.mono B101.size)
      have A102 := A101.kept k102
      refine hK.out _ _ A102 (fun hHeld => ?_)
      clear hK K
      (try simp only [Act.put, List.getElem_toArray, List.getElem_cons_zero, List.getElem_cons_succ, List.setIfInBounds_toArray, List.set_cons_zero, List.set_cons_succ])
      refine wpAnyH_take (i := 11) (v := .string ⟨z2.toArray⟩) rfl (by kernel_rfl) (by kernel_rfl) (by kernel_rfl) (fun _ _ _ h => h) (Or.inl ⟨by rfl, fun w hSw => by go_simp⟩) (by assumption) ?_
      (try simp only [Act.put, List.getElem_toArray, List.getElem_cons_zero, List.getElem_cons_succ, List.setIfInBounds_toArray, List.set_cons_zero, List.set_cons_succ])
      refine wpAnyH_take (i := 13) (v := .string ⟨z3.toArray⟩) rfl (by kernel_rfl) (by kernel_rfl) (by kernel_rfl) (fun _ _ _ h => h) (Or.inl ⟨by rfl, fun w hSw => by go_simp⟩) (by assumption) ?_
      (try simp only [Act.put, List.getElem_toArray, List.getElem_cons_zero, List.getElem_cons_succ, List.setIfInBounds_toArray, List.set_cons_zero, List.set_cons_succ])
      refine wpAnyH_take (i := 15) (v := .string ⟨z4.toArray⟩) rfl (by kernel_rfl) (by kernel_rfl) (by kernel_rfl) (fun _ _ _ h => h) (Or.inl ⟨by rfl, fun w hSw => by go_simp⟩) (by assumption) ?_
      (try simp only [Act.put, List.getElem_toArray, List.getElem_cons_zero, List.getElem_cons_succ, List.setIfInBounds_toArray, List.set_cons_zero, List.set_cons_succ])
      refine wpAnyH_ready (rs := [25]) (by kernel_rfl) (by simp) ?_
      refine (AllReadyH.cons rfl (fun K hK => ?_) AllReadyH.nil)
      simp only [List.getElem_toArray, List.getElem_cons_zero, List.getElem_cons_succ]
      go_simp
      with_reducible refine (HN2.out _ _ J102_24).mono ?_
      rintro e v103 ⟨rfl, k103⟩
      have B103 := B102.trans (k103.mono B102.size)
      have A103 := A102.kept k103
      refine hK.out _ _ A103 (fun hHeld => ?_)
      clear hK K
      (try simp only [Act.put, List.getElem_toArray, List.getElem_cons_zero, List.getElem_cons_succ, List.setIfInBounds_toArray, List.set_cons_zero, List.set_cons_succ])
      refine wpAnyH_take (i := 26) (v := ?_) rfl (by kernel_rfl) (by kernel_rfl) (by kernel_rfl) (fun _ _ _ h => h) (Or.inl ⟨by rfl, ?_⟩) (by assumption) ?_
      rotate_left
      · (intro w hSw; (try dsimp only at hSw); go_simp; (try with_reducible rfl))
      (try simp only [Act.put, List.getElem_toArray, List.getElem_cons_zero, List.getElem_cons_succ, List.setIfInBounds_toArray, List.set_cons_zero, List.set_cons_succ])
      refine wpAnyH_take (i := 27) (v := ?_) rfl (by kernel_rfl) (by kernel_rfl) (by kernel_rfl) (fun _ _ _ h => h) (Or.inl ⟨by rfl, ?_⟩) (by assumption) ?_
      rotate_left
      · (intro w hSw; (try dsimp only at hSw); go_simp; (try with_reducible rfl))
      (try simp only [Act.put, List.getElem_toArray, List.getElem_cons_zero, List.getElem_cons_succ, List.setIfInBounds_toArray, List.set_cons_zero, List.set_cons_succ])
      refine wpAnyH_done (by kernel_rfl) ?_ _
      refine NoPanic.normal ?_
      go_wp2
      go_ret
      exact ⟨by rw [HBL.out]; rfl, B103⟩
  · simp only [List.getElem_toArray, List.getElem_cons_zero, List.getElem_cons_succ]
    go_simp
    have I104 := IRow.new4 (wd) b.age b.mx b.hel b.wai 3
    have B104 := D5.alloc D5.size (.cells #[.int .i64 b.age, .int .i64 b.mx, .int .i64 b.hel, .int .i64 b.wai] 3)
    have A104 := A5.alloc (.cells #[.int .i64 b.age, .int .i64 b.mx, .int .i64 b.hel, .int .i64 b.wai] 3)
    generalize (wd).heap.size = g104 at *
    generalize (wd).alloc (.cells #[.int .i64 b.age, .int .i64 b.mx, .int .i64 b.hel, .int .i64 b.wai] 3) = v104 at *
    refine hK.out _ _ A104 (fun hHeld => ?_)
    clear hK K
    (try simp only [Act.put, List.getElem_toArray, List.getElem_cons_zero, List.getElem_cons_succ, List.setIfInBounds_toArray, List.set_cons_zero, List.set_cons_succ])
    refine wpAnyH_ready (rs := [2, 9]) (by kernel_rfl) (by simp) ?_
    refine (AllReadyH.cons rfl (fun K hK => ?_) (AllReadyH.cons rfl (fun K hK => ?_) AllReadyH.nil))
    · simp only [List.getElem_toArray, List.getElem_cons_zero, List.getElem_cons_succ]
      go_simp
      with_reducible refine (HBy.out _).mono ?_
      rintro e v105 ⟨rfl, k105⟩
      have J105_24 := I104.below k105
      have B105 := B104.trans (k105.mono B104.size)
      have A105 := A104.kept k105
      refine hK.out _ _ A105 (fun hHeld => ?_)
      clear hK K
      (try simp only [Act.put, List.getElem_toArray, List.getElem_cons_zero, List.getElem_cons_succ, List.setIfInBounds_toArray, List.set_cons_zero, List.set_cons_succ])
      refine wpAnyH_ready (rs := [3, 9]) (by kernel_rfl) (by simp) ?_
      refine (AllReadyH.cons rfl (fun K hK => ?_) (AllReadyH.cons rfl (fun K hK => ?_) AllReadyH.nil))
      · simp only [List.getElem_toArray, List.getElem_cons_zero, List.getElem_cons_succ]
        go_simp
        have I106 := IRow.new1 (v105) (byF b.f : Int) 3
        have J106_24 : IRow ((v105).alloc (.cells #[.int .i64 (byF b.f : Int)] 3)) g104 [b.age, b.mx, b.hel, b.wai] := J105_24.below ((Below.refl _ _).alloc (Nat.le_refl _) (.cells #[.int .i64 (byF b.f : Int)] 3))
        have B106 := B105.alloc B105.size (.cells #[.int .i64 (byF b.f : Int)] 3)
        have A106 := A105.alloc (.cells #[.int .i64 (byF b.f : Int)] 3)
        generalize (v105).heap.size = g106 at *
        generalize (v105).alloc (.cells #[.int .i64 (byF b.f : Int)] 3) = v106 at *
        refine hK.out _ _ A106 (fun hHeld => ?_)
        clear hK K
        (try simp only [Act.put, List.getElem_toArray, List.getElem_cons_zero, List.getElem_cons_succ, List.setIfInBounds_toArray, List.set_cons_zero, List.set_cons_succ])
        refine wpAnyH_ready (rs := [4, 9]) (by kernel_rfl) (by simp) ?_
        refine (AllReadyH.cons rfl (fun K hK => ?_) (AllReadyH.cons rfl (fun K hK => ?_) AllReadyH.nil))
        · simp only [List.getElem_toArray, List.getElem_cons_zero, List.getElem_cons_succ]
          go_simp
          with_reducible refine (HN1.out _ _ I106).mono ?_
          rintro e v107 ⟨rfl, k107⟩
          have J107_24 := J106_24.below k107
          have B107 := B106.trans (k107.mono B106.size)
          have A107 := A106.kept k107
          refine hK.out _ _ A107 (fun hHeld => ?_)
          clear hK K
          (try simp only [Act.put, List.getElem_toArray, List.getElem_cons_zero, List.getElem_cons_succ, List.setIfInBounds_toArray, List.set_cons_zero, List.set_cons_succ])
          refine wpAnyH_take (i := 6) (v := .string ⟨z1.toArray⟩) rfl (by kernel_rfl) (by kernel_rfl) (by kernel_rfl) (fun _ _ _ h => h) (Or.inl ⟨by rfl, fun w hSw => by go_simp⟩) (by assumption) ?_
          (try simp only [Act.put, List.getElem_toArray, List.getElem_cons_zero, List.getElem_cons_succ, List.setIfInBounds_toArray, List.set_cons_zero, List.set_cons_succ])
          refine wpAnyH_ready (rs := [9]) (by kernel_rfl) (by simp) ?_
          refine (AllReadyH.cons rfl (fun K hK => ?_) AllReadyH.nil)
          simp only [List.getElem_toArray, List.getElem_cons_zero, List.getElem_cons_succ]
          go_simp
          have I108 := IRow.new1 (v107) b.cost 3
          have J108_24 : IRow ((v107).alloc (.cells #[.int .i64 b.cost] 3)) g104 [b.age, b.mx, b.hel, b.wai] := J107_24.below ((Below.refl _ _).alloc (Nat.le_refl _) (.cells #[.int .i64 b.cost] 3))
          have B108 := B107.alloc B107.size (.cells #[.int .i64 b.cost] 3)
          have A108 := A107.alloc (.cells #[.int .i64 b.cost] 3)
          generalize (v107).heap.size = g108 at *
          generalize (v107).alloc (.cells #[.int .i64 b.cost] 3) = v108 at *
          refine hK.out _ _ A108 (fun hHeld => ?_)
          clear hK K
          (try simp only [Act.put, List.getElem_toArray, List.getElem_cons_zero, List.getElem_cons_succ, List.setIfInBounds_toArray, List.set_cons_zero, List.set_cons_succ])
          refine wpAnyH_ready (rs := [10]) (by kernel_rfl) (by simp) ?_
          refine (AllReadyH.cons rfl (fun K hK => ?_) AllReadyH.nil)
          simp only [List.getElem_toArray, List.getElem_cons_zero, List.getElem_cons_succ]
          go_simp
          with_reducible refine (HN4.out _ _ I108).mono ?_
          rintro e v109 ⟨rfl, k109⟩
          have J109_24 := J108_24.below k109
          have B109 := B108.trans (k109.mono B108.size)
          have A109 := A108.kept k109
          refine hK.out _ _ A109 (fun hHeld => ?_)
          clear hK K
          (try simp only [Act.put, List.getElem_toArray, List.getElem_cons_zero, List.getElem_cons_succ, List.setIfInBounds_toArray, List.set_cons_zero, List.set_cons_succ])
          refine wpAnyH_take (i := 11) (v := .string ⟨z2.toArray⟩) rfl (by kernel_rfl) (by kernel_rfl) (by kernel_rfl) (fun _ _ _ h => h) (Or.inl ⟨by rfl, fun w hSw => by go_simp⟩) (by assumption) ?_
          (try simp only [Act.put, List.getElem_toArray, List.getElem_cons_zero, List.getElem_cons_succ, List.setIfInBounds_toArray, List.set_cons_zero, List.set_cons_succ])
          refine wpAnyH_take (i := 13) (v := .string ⟨z3.toArray⟩) rfl (by kernel_rfl) (by kernel_rfl) (by kernel_rfl) (fun _ _ _ h => h) (Or.inl ⟨by rfl, fun w hSw => by go_simp⟩) (by assumption) ?_
          (try simp only [Act.put, List.getElem_toArray, List.getElem_cons_zero, List.getElem_cons_succ, List.setIfInBounds_toArray, List.set_cons_zero, List.set_cons_succ])
          refine wpAnyH_take (i := 15) (v := .string ⟨z4.toArray⟩) rfl (by kernel_rfl) (by kernel_rfl) (by kernel_rfl) (fun _ _ _ h => h) (Or.inl ⟨by rfl, fun w hSw => by go_simp⟩) (by assumption) ?_
          (try simp only [Act.put, List.getElem_toArray, List.getElem_cons_zero, List.getElem_cons_succ, List.setIfInBounds_toArray, List.set_cons_zero, List.set_cons_succ])
          refine wpAnyH_ready (rs := [25]) (by kernel_rfl) (by simp) ?_
          refine (AllReadyH.cons rfl (fun K hK => ?_) AllReadyH.nil)
          simp only [List.getElem_toArray, List.getElem_cons_zero, List.getElem_cons_succ]
          go_simp
          with_reducible refine (HN2.out _ _ J109_24).mono ?_
          rintro e v110 ⟨rfl, k110⟩
          have B110 := B109.trans (k110.mono B109.size)
          have A110 := A109.kept k110
          refine hK.out _ _ A110 (fun hHeld => ?_)
          clear hK K
          (try simp only [Act.put, List.getElem_toArray, List.getElem_cons_zero, List.getElem_cons_succ, List.setIfInBounds_toArray, List.set_cons_zero, List.set_cons_succ])
          refine wpAnyH_take (i := 26) (v := ?_) rfl (by kernel_rfl) (by kernel_rfl) (by kernel_rfl) (fun _ _ _ h => h) (Or.inl ⟨by rfl, ?_⟩) (by assumption) ?_
          rotate_left
          · (intro w hSw; (try dsimp only at hSw); go_simp; (try with_reducible rfl))
          (try simp only [Act.put, List.getElem_toArray, List.getElem_cons_zero, List.getElem_cons_succ, List.setIfInBounds_toArray, List.set_cons_zero, List.set_cons_succ])
          refine wpAnyH_take (i := 27) (v := ?_) rfl (by kernel_rfl) (by kernel_rfl) (by kernel_rfl) (fun _ _ _ h => h) (Or.inl ⟨by rfl, ?_⟩) (by assumption) ?_
          rotate_left
          · (intro w hSw; (try dsimp only at hSw); go_simp; (try with_reducible rfl))
          (try simp only [Act.put, List.getElem_toArray, List.getElem_cons_zero, List.getElem_cons_succ, List.setIfInBounds_toArray, List.set_cons_zero, List.set_cons_succ])
          refine wpAnyH_done (by kernel_rfl) ?_ _
          refine NoPanic.normal ?_
          go_wp2
          go_ret
          exact ⟨by rw [HBL.out]; rfl, B110⟩
        · simp only [List.getElem_toArray, List.getElem_cons_zero, List.getElem_cons_succ]
          go_simp
          have I111 := IRow.new1 (v106) b.cost 3
          have J111_24 : IRow ((v106).alloc (.cells #[.int .i64 b.cost] 3)) g104 [b.age, b.mx, b.hel, b.wai] := J106_24.below ((Below.refl _ _).alloc (Nat.le_refl _) (.cells #[.int .i64 b.cost] 3))
          have J111_3 : IRow ((v106).alloc (.cells #[.int .i64 b.cost] 3)) g106 [(byF b.f : Int)] := I106.below ((Below.refl _ _).alloc (Nat.le_refl _) (.cells #[.int .i64 b.cost] 3))
          have B111 := B106.alloc B106.size (.cells #[.int .i64 b.cost] 3)
          have A111 := A106.alloc (.cells #[.int .i64 b.cost] 3)
          generalize (v106).heap.size = g111 at *
          generalize (v106).alloc (.cells #[.int .i64 b.cost] 3) = v111 at *
          refine hK.out _ _ A111 (fun hHeld => ?_)
          clear hK K
          (try simp only [Act.put, List.getElem_toArray, List.getElem_cons_zero, List.getElem_cons_succ, List.setIfInBounds_toArray, List.set_cons_zero, List.set_cons_succ])
          refine wpAnyH_ready (rs := [4]) (by kernel_rfl) (by simp) ?_
          refine (AllReadyH.cons rfl (fun K hK => ?_) AllReadyH.nil)
          simp only [List.getElem_toArray, List.getElem_cons_zero, List.getElem_cons_succ]
          go_simp
          with_reducible refine (HN1.out _ _ J111_3).mono ?_
          rintro e v112 ⟨rfl, k112⟩
          have J112_24 := J111_24.below k112
          have J112_9 := I111.below k112
          have B112 := B111.trans (k112.mono B111.size)
          have A112 := A111.kept k112
          refine hK.out _ _ A112 (fun hHeld => ?_)
          clear hK K
          (try simp only [Act.put, List.getElem_toArray, List.getElem_cons_zero, List.getElem_cons_succ, List.setIfInBounds_toArray, List.set_cons_zero, List.set_cons_succ])
          refine wpAnyH_take (i := 6) (v := .string ⟨z1.toArray⟩) rfl (by kernel_rfl) (by kernel_rfl) (by kernel_rfl) (fun _ _ _ h => h) (Or.inl ⟨by rfl, fun w hSw => by go_simp⟩) (by assumption) ?_
          (try simp only [Act.put, List.getElem_toArray, List.getElem_cons_zero, List.getElem_cons_succ, List.setIfInBounds_toArray, List.set_cons_zero, List.set_cons_succ])
          refine wpAnyH_ready (rs := [10]) (by kernel_rfl) (by simp) ?_
          refine (AllReadyH.cons rfl (fun K hK => ?_) AllReadyH.nil)
          simp only [List.getElem_toArray, List.getElem_cons_zero, List.getElem_cons_succ]
          go_simp
          with_reducible refine (HN4.out _ _ J112_9).mono ?_
          rintro e v113 ⟨rfl, k113⟩
          have J113_24 := J112_24.below k113
          have B113 := B112.trans (k113.mono B112.size)
          have A113 := A112.kept k113
          refine hK.out _ _ A113 (fun hHeld => ?_)
          clear hK K
          (try simp only [Act.put, List.getElem_toArray, List.getElem_cons_zero, List.getElem_cons_succ, List.setIfInBounds_toArray, List.set_cons_zero, List.set_cons_succ])
          refine wpAnyH_take (i := 11) (v := .string ⟨z2.toArray⟩) rfl (by kernel_rfl) (by kernel_rfl) (by kernel_rfl) (fun _ _ _ h => h) (Or.inl ⟨by rfl, fun w hSw => by go_simp⟩) (by assumption) ?_
          (try simp only [Act.put, List.getElem_toArray, List.getElem_cons_zero, List.getElem_cons_succ, List.setIfInBounds_toArray, List.set_cons_zero, List.set_cons_succ])
          refine wpAnyH_take (i := 13) (v := .string ⟨z3.toArray⟩) rfl (by kernel_rfl) (by kernel_rfl) (by kernel_rfl) (fun _ _ _ h => h) (Or.inl ⟨by rfl, fun w hSw => by go_simp⟩) (by assumption) ?_
          (try simp only [Act.put, List.getElem_toArray, List.getElem_cons_zero, List.getElem_cons_succ, List.setIfInBounds_toArray, List.set_cons_zero, List.set_cons_succ])
          refine wpAnyH_take (i := 15) (v := .string ⟨z4.toArray⟩) rfl (by kernel_rfl) (by kernel_rfl) (by kernel_rfl) (fun _ _ _ h => h) (Or.inl ⟨by rfl, fun w hSw => by go_simp⟩) (by assumption) ?_
          (try simp only [Act.put, List.getElem_toArray, List.getElem_cons_zero, List.getElem_cons_succ, List.setIfInBounds_toArray, List.set_cons_zero, List.set_cons_succ])
          refine wpAnyH_ready (rs := [25]) (by kernel_rfl) (by simp) ?_
          refine (AllReadyH.cons rfl (fun K hK => ?_) AllReadyH.nil)
          simp only [List.getElem_toArray, List.getElem_cons_zero, List.getElem_cons_succ]
          go_simp
          with_reducible refine (HN2.out _ _ J113_24).mono ?_
          rintro e v114 ⟨rfl, k114⟩
          have B114 := B113.trans (k114.mono B113.size)
          have A114 := A113.kept k114
          refine hK.out _ _ A114 (fun hHeld => ?_)
          clear hK K
          (try simp only [Act.put, List.getElem_toArray, List.getElem_cons_zero, List.getElem_cons_succ, List.setIfInBounds_toArray, List.set_cons_zero, List.set_cons_succ])
          refine wpAnyH_take (i := 26) (v := ?_) rfl (by kernel_rfl) (by kernel_rfl) (by kernel_rfl) (fun _ _ _ h => h) (Or.inl ⟨by rfl, ?_⟩) (by assumption) ?_
          rotate_left
          · (intro w hSw; (try dsimp only at hSw); go_simp; (try with_reducible rfl))
          (try simp only [Act.put, List.getElem_toArray, List.getElem_cons_zero, List.getElem_cons_succ, List.setIfInBounds_toArray, List.set_cons_zero, List.set_cons_succ])
          refine wpAnyH_take (i := 27) (v := ?_) rfl (by kernel_rfl) (by kernel_rfl) (by kernel_rfl) (fun _ _ _ h => h) (Or.inl ⟨by rfl, ?_⟩) (by assumption) ?_
          rotate_left
          · (intro w hSw; (try dsimp only at hSw); go_simp; (try with_reducible rfl))
          (try simp only [Act.put, List.getElem_toArray, List.getElem_cons_zero, List.getElem_cons_succ, List.setIfInBounds_toArray, List.set_cons_zero, List.set_cons_succ])
          refine wpAnyH_done (by kernel_rfl) ?_ _
          refine NoPanic.normal ?_
          go_wp2
          go_ret
          exact ⟨by rw [HBL.out]; rfl, B114⟩
      · simp only [List.getElem_toArray, List.getElem_cons_zero, List.getElem_cons_succ]
        go_simp
        have I115 := IRow.new1 (v105) b.cost 3
        have J115_24 : IRow ((v105).alloc (.cells #[.int .i64 b.cost] 3)) g104 [b.age, b.mx, b.hel, b.wai] := J105_24.below ((Below.refl _ _).alloc (Nat.le_refl _) (.cells #[.int .i64 b.cost] 3))
        have B115 := B105.alloc B105.size (.cells #[.int .i64 b.cost] 3)
        have A115 := A105.alloc (.cells #[.int .i64 b.cost] 3)
        generalize (v105).heap.size = g115 at *
        generalize (v105).alloc (.cells #[.int .i64 b.cost] 3) = v115 at *
        refine hK.out _ _ A115 (fun hHeld => ?_)
        clear hK K
        (try simp only [Act.put, List.getElem_toArray, List.getElem_cons_zero, List.getElem_cons_succ, List.setIfInBounds_toArray, List.set_cons_zero, List.set_cons_succ])
        refine wpAnyH_ready (rs := [3]) (by kernel_rfl) (by simp) ?_
        refine (AllReadyH.cons rfl (fun K hK => ?_) AllReadyH.nil)
        simp only [List.getElem_toArray, List.getElem_cons_zero, List.getElem_cons_succ]
        go_simp
        have I116 := IRow.new1 (v115) (byF b.f : Int) 3
        have J116_24 : IRow ((v115).alloc (.cells #[.int .i64 (byF b.f : Int)] 3)) g104 [b.age, b.mx, b.hel, b.wai] := J115_24.below ((Below.refl _ _).alloc (Nat.le_refl _) (.cells #[.int .i64 (byF b.f : Int)] 3))
        have J116_9 : IRow ((v115).alloc (.cells #[.int .i64 (byF b.f : Int)] 3)) g115 [b.cost] := I115.below ((Below.refl _ _).alloc (Nat.le_refl _) (.cells #[.int .i64 (byF b.f : Int)] 3))
        have B116 := B115.alloc B115.size (.cells #[.int .i64 (byF b.f : Int)] 3)
        have A116 := A115.alloc (.cells #[.int .i64 (byF b.f : Int)] 3)
        generalize (v115).heap.size = g116 at *
        generalize (v115).alloc (.cells #[.int .i64 (byF b.f : Int)] 3) = v116 at *
        refine hK.out _ _ A116 (fun hHeld => ?_)
        clear hK K
        (try simp only [Act.put, List.getElem_toArray, List.getElem_cons_zero, List.getElem_cons_succ, List.setIfInBounds_toArray, List.set_cons_zero, List.set_cons_succ])
        refine wpAnyH_ready (rs := [4]) (by kernel_rfl) (by simp) ?_
        refine (AllReadyH.cons rfl (fun K hK => ?_) AllReadyH.nil)
        simp only [List.getElem_toArray, List.getElem_cons_zero, List.getElem_cons_succ]
        go_simp
        with_reducible refine (HN1.out _ _ I116).mono ?_
        rintro e v117 ⟨rfl, k117⟩
        have J117_24 := J116_24.below k117
        have J117_9 := J116_9.below k117
        have B117 := B116.trans (k117.mono B116.size)
        have A117 := A116.kept k117
        refine hK.out _ _ A117 (fun hHeld => ?_)
        clear hK K
        (try simp only [Act.put, List.getElem_toArray, List.getElem_cons_zero, List.getElem_cons_succ, List.setIfInBounds_toArray, List.set_cons_zero, List.set_cons_succ])
        refine wpAnyH_take (i := 6) (v := .string ⟨z1.toArray⟩) rfl (by kernel_rfl) (by kernel_rfl) (by kernel_rfl) (fun _ _ _ h => h) (Or.inl ⟨by rfl, fun w hSw => by go_simp⟩) (by assumption) ?_
        (try simp only [Act.put, List.getElem_toArray, List.getElem_cons_zero, List.getElem_cons_succ, List.setIfInBounds_toArray, List.set_cons_zero, List.set_cons_succ])
        refine wpAnyH_ready (rs := [10]) (by kernel_rfl) (by simp) ?_
        refine (AllReadyH.cons rfl (fun K hK => ?_) AllReadyH.nil)
        simp only [List.getElem_toArray, List.getElem_cons_zero, List.getElem_cons_succ]
        go_simp
        with_reducible refine (HN4.out _ _ J117_9).mono ?_
        rintro e v118 ⟨rfl, k118⟩
        have J118_24 := J117_24.below k118
        have B118 := B117.trans (k118.mono B117.size)
        have A118 := A117.kept k118
        refine hK.out _ _ A118 (fun hHeld => ?_)
        clear hK K
        (try simp only [Act.put, List.getElem_toArray, List.getElem_cons_zero, List.getElem_cons_succ, List.setIfInBounds_toArray, List.set_cons_zero, List.set_cons_succ])
        refine wpAnyH_take (i := 11) (v := .string ⟨z2.toArray⟩) rfl (by kernel_rfl) (by kernel_rfl) (by kernel_rfl) (fun _ _ _ h => h) (Or.inl ⟨by rfl, fun w hSw => by go_simp⟩) (by assumption) ?_
        (try simp only [Act.put, List.getElem_toArray, List.getElem_cons_zero, List.getElem_cons_succ, List.setIfInBounds_toArray, List.set_cons_zero, List.set_cons_succ])
        refine wpAnyH_take (i := 13) (v := .string ⟨z3.toArray⟩) rfl (by kernel_rfl) (by kernel_rfl) (by kernel_rfl) (fun _ _ _ h => h) (Or.inl ⟨by rfl, fun w hSw => by go_simp⟩) (by assumption) ?_
        (try simp only [Act.put, List.getElem_toArray, List.getElem_cons_zero, List.getElem_cons_succ, List.setIfInBounds_toArray, List.set_cons_zero, List.set_cons_succ])
        refine wpAnyH_take (i := 15) (v := .string ⟨z4.toArray⟩) rfl (by kernel_rfl) (by kernel_rfl) (by kernel_rfl) (fun _ _ _ h => h) (Or.inl ⟨by rfl, fun w hSw => by go_simp⟩) (by assumption) ?_
        (try simp only [Act.put, List.getElem_toArray, List.getElem_cons_zero, List.getElem_cons_succ, List.setIfInBounds_toArray, List.set_cons_zero, List.set_cons_succ])
        refine wpAnyH_ready (rs := [25]) (by kernel_rfl) (by simp) ?_
        refine (AllReadyH.cons rfl (fun K hK => ?_) AllReadyH.nil)
        simp only [List.getElem_toArray, List.getElem_cons_zero, List.getElem_cons_succ]
        go_simp
        with_reducible refine (HN2.out _ _ J118_24).mono ?_
        rintro e v119 ⟨rfl, k119⟩
        have B119 := B118.trans (k119.mono B118.size)
        have A119 := A118.kept k119
        refine hK.out _ _ A119 (fun hHeld => ?_)
        clear hK K
        (try simp only [Act.put, List.getElem_toArray, List.getElem_cons_zero, List.getElem_cons_succ, List.setIfInBounds_toArray, List.set_cons_zero, List.set_cons_succ])
        refine wpAnyH_take (i := 26) (v := ?_) rfl (by kernel_rfl) (by kernel_rfl) (by kernel_rfl) (fun _ _ _ h => h) (Or.inl ⟨by rfl, ?_⟩) (by assumption) ?_
        rotate_left
        · (intro w hSw; (try dsimp only at hSw); go_simp; (try with_reducible rfl))
        (try simp only [Act.put, List.getElem_toArray, List.getElem_cons_zero, List.getElem_cons_succ, List.setIfInBounds_toArray, List.set_cons_zero, List.set_cons_succ])
        refine wpAnyH_take (i := 27) (v := ?_) rfl (by kernel_rfl) (by kernel_rfl) (by kernel_rfl) (fun _ _ _ h => h) (Or.inl ⟨by rfl, ?_⟩) (by assumption) ?_
        rotate_left
        · (intro w hSw; (try dsimp only at hSw); go_simp; (try with_reducible rfl))
        (try simp only [Act.put, List.getElem_toArray, List.getElem_cons_zero, List.getElem_cons_succ, List.setIfInBounds_toArray, List.set_cons_zero, List.set_cons_succ])
        refine wpAnyH_done (by kernel_rfl) ?_ _
        refine NoPanic.normal ?_
        go_wp2
        go_ret
        exact ⟨by rw [HBL.out]; rfl, B119⟩
    · simp only [List.getElem_toArray, List.getElem_cons_zero, List.getElem_cons_succ]
      go_simp
      have I120 := IRow.new1 (v104) b.cost 3
      have J120_24 : IRow ((v104).alloc (.cells #[.int .i64 b.cost] 3)) g104 [b.age, b.mx, b.hel, b.wai] := I104.below ((Below.refl _ _).alloc (Nat.le_refl _) (.cells #[.int .i64 b.cost] 3))
      have B120 := B104.alloc B104.size (.cells #[.int .i64 b.cost] 3)
      have A120 := A104.alloc (.cells #[.int .i64 b.cost] 3)
      generalize (v104).heap.size = g120 at *
      generalize (v104).alloc (.cells #[.int .i64 b.cost] 3) = v120 at *
      refine hK.out _ _ A120 (fun hHeld => ?_)
      clear hK K
      (try simp only [Act.put, List.getElem_toArray, List.getElem_cons_zero, List.getElem_cons_succ, List.setIfInBounds_toArray, List.set_cons_zero, List.set_cons_succ])
      refine wpAnyH_ready (rs := [2]) (by kernel_rfl) (by simp) ?_
      refine (AllReadyH.cons rfl (fun K hK => ?_) AllReadyH.nil)
      simp only [List.getElem_toArray, List.getElem_cons_zero, List.getElem_cons_succ]
      go_simp
      with_reducible refine (HBy.out _).mono ?_
      rintro e v121 ⟨rfl, k121⟩
      have J121_24 := J120_24.below k121
      have J121_9 := I120.below k121
      have B121 := B120.trans (k121.mono B120.size)
      have A121 := A120.kept k121
      refine hK.out _ _ A121 (fun hHeld => ?_)
      clear hK K
      (try simp only [Act.put, List.getElem_toArray, List.getElem_cons_zero, List.getElem_cons_succ, List.setIfInBounds_toArray, List.set_cons_zero, List.set_cons_succ])
      refine wpAnyH_ready (rs := [3]) (by kernel_rfl) (by simp) ?_
      refine (AllReadyH.cons rfl (fun K hK => ?_) AllReadyH.nil)
      simp only [List.getElem_toArray, List.getElem_cons_zero, List.getElem_cons_succ]
      go_simp
      have I122 := IRow.new1 (v121) (byF b.f : Int) 3
      have J122_24 : IRow ((v121).alloc (.cells #[.int .i64 (byF b.f : Int)] 3)) g104 [b.age, b.mx, b.hel, b.wai] := J121_24.below ((Below.refl _ _).alloc (Nat.le_refl _) (.cells #[.int .i64 (byF b.f : Int)] 3))
      have J122_9 : IRow ((v121).alloc (.cells #[.int .i64 (byF b.f : Int)] 3)) g120 [b.cost] := J121_9.below ((Below.refl _ _).alloc (Nat.le_refl _) (.cells #[.int .i64 (byF b.f : Int)] 3))
      have B122 := B121.alloc B121.size (.cells #[.int .i64 (byF b.f : Int)] 3)
      have A122 := A121.alloc (.cells #[.int .i64 (byF b.f : Int)] 3)
      generalize (v121).heap.size = g122 at *
      generalize (v121).alloc (.cells #[.int .i64 (byF b.f : Int)] 3) = v122 at *
      refine hK.out _ _ A122 (fun hHeld => ?_)
      clear hK K
      (try simp only [Act.put, List.getElem_toArray, List.getElem_cons_zero, List.getElem_cons_succ, List.setIfInBounds_toArray, List.set_cons_zero, List.set_cons_succ])
      refine wpAnyH_ready (rs := [4]) (by kernel_rfl) (by simp) ?_
      refine (AllReadyH.cons rfl (fun K hK => ?_) AllReadyH.nil)
      simp only [List.getElem_toArray, List.getElem_cons_zero, List.getElem_cons_succ]
      go_simp
      with_reducible refine (HN1.out _ _ I122).mono ?_
      rintro e v123 ⟨rfl, k123⟩
      have J123_24 := J122_24.below k123
      have J123_9 := J122_9.below k123
      have B123 := B122.trans (k123.mono B122.size)
      have A123 := A122.kept k123
      refine hK.out _ _ A123 (fun hHeld => ?_)
      clear hK K
      (try simp only [Act.put, List.getElem_toArray, List.getElem_cons_zero, List.getElem_cons_succ, List.setIfInBounds_toArray, List.set_cons_zero, List.set_cons_succ])
      refine wpAnyH_take (i := 6) (v := .string ⟨z1.toArray⟩) rfl (by kernel_rfl) (by kernel_rfl) (by kernel_rfl) (fun _ _ _ h => h) (Or.inl ⟨by rfl, fun w hSw => by go_simp⟩) (by assumption) ?_
      (try simp only [Act.put, List.getElem_toArray, List.getElem_cons_zero, List.getElem_cons_succ, List.setIfInBounds_toArray, List.set_cons_zero, List.set_cons_succ])
      refine wpAnyH_ready (rs := [10]) (by kernel_rfl) (by simp) ?_
      refine (AllReadyH.cons rfl (fun K hK => ?_) AllReadyH.nil)
      simp only [List.getElem_toArray, List.getElem_cons_zero, List.getElem_cons_succ]
      go_simp
      with_reducible refine (HN4.out _ _ J123_9).mono ?_
      rintro e v124 ⟨rfl, k124⟩
      have J124_24 := J123_24.below k124
      have B124 := B123.trans (k124.mono B123.size)
      have A124 := A123.kept k124
      refine hK.out _ _ A124 (fun hHeld => ?_)
      clear hK K
      (try simp only [Act.put, List.getElem_toArray, List.getElem_cons_zero, List.getElem_cons_succ, List.setIfInBounds_toArray, List.set_cons_zero, List.set_cons_succ])
      refine wpAnyH_take (i := 11) (v := .string ⟨z2.toArray⟩) rfl (by kernel_rfl) (by kernel_rfl) (by kernel_rfl) (fun _ _ _ h => h) (Or.inl ⟨by rfl, fun w hSw => by go_simp⟩) (by assumption) ?_
      (try simp only [Act.put, List.getElem_toArray, List.getElem_cons_zero, List.getElem_cons_succ, List.setIfInBounds_toArray, List.set_cons_zero, List.set_cons_succ])
      refine wpAnyH_take (i := 13) (v := .string ⟨z3.toArray⟩) rfl (by kernel_rfl) (by kernel_rfl) (by kernel_rfl) (fun _ _ _ h => h) (Or.inl ⟨by rfl, fun w hSw => by go_simp⟩) (by assumption) ?_
      (try simp only [Act.put, List.getElem_toArray, List.getElem_cons_zero, List.getElem_cons_succ, List.setIfInBounds_toArray, List.set_cons_zero, List.set_cons_succ])
      refine wpAnyH_take (i := 15) (v := .string ⟨z4.toArray⟩) rfl (by kernel_rfl) (by kernel_rfl) (by kernel_rfl) (fun _ _ _ h => h) (Or.inl ⟨by rfl, fun w hSw => by go_simp⟩) (by assumption) ?_
      (try simp only [Act.put, List.getElem_toArray, List.getElem_cons_zero, List.getElem_cons_succ, List.setIfInBounds_toArray, List.set_cons_zero, List.set_cons_succ])
      refine wpAnyH_ready (rs := [25]) (by kernel_rfl) (by simp) ?_
      refine (AllReadyH.cons rfl (fun K hK => ?_) AllReadyH.nil)
      simp only [List.getElem_toArray, List.getElem_cons_zero, List.getElem_cons_succ]
      go_simp
      with_reducible refine (HN2.out _ _ J124_24).mono ?_
      rintro e v125 ⟨rfl, k125⟩
      have B125 := B124.trans (k125.mono B124.size)
      have A125 := A124.kept k125
      refine hK.out _ _ A125 (fun hHeld => ?_)
      clear hK K
      (try simp only [Act.put, List.getElem_toArray, List.getElem_cons_zero, List.getElem_cons_succ, List.setIfInBounds_toArray, List.set_cons_zero, List.set_cons_succ])
      refine wpAnyH_take (i := 26) (v := ?_) rfl (by kernel_rfl) (by kernel_rfl) (by kernel_rfl) (fun _ _ _ h => h) (Or.inl ⟨by rfl, ?_⟩) (by assumption) ?_
      rotate_left
      · (intro w hSw; (try dsimp only at hSw); go_simp; (try with_reducible rfl))
      (try simp only [Act.put, List.getElem_toArray, List.getElem_cons_zero, List.getElem_cons_succ, List.setIfInBounds_toArray, List.set_cons_zero, List.set_cons_succ])
      refine wpAnyH_take (i := 27) (v := ?_) rfl (by kernel_rfl) (by kernel_rfl) (by kernel_rfl) (fun _ _ _ h => h) (Or.inl ⟨by rfl, ?_⟩) (by assumption) ?_
      rotate_left
      · (intro w hSw; (try dsimp only at hSw); go_simp; (try with_reducible rfl))
      (try simp only [Act.put, List.getElem_toArray, List.getElem_cons_zero, List.getElem_cons_succ, List.setIfInBounds_toArray, List.set_cons_zero, List.set_cons_succ])
      refine wpAnyH_done (by kernel_rfl) ?_ _
      refine NoPanic.normal ?_
      go_wp2
      go_ret
      exact ⟨by rw [HBL.out]; rfl, B125⟩

end Go.Proofs.YtdjljnpbnhampaaGreatDoor

namespace Go.Proofs.YtdjljnpbnhampaaGreatDoor
open Go.RowKit
attribute [local go_sem ↓] Go.wp_at_zero Go.wp_at_succ
set_option linter.unusedSimpArgs false
set_option linter.unusedVariables false
set_option maxRecDepth 100000

theorem okIns_parts {x : Ins} (h : okIns x = true) : okF x.f = true ∧ okB x.root = true ∧ fitI 4 x.cost = true ∧ (0 ≤ x.br ∧ x.br ≤ 15) ∧ (0 ≤ x.pt ∧ x.pt ≤ 15) ∧ fitI 1 x.hop = true := by
  simp only [okIns, Bool.and_eq_true] at h
  obtain ⟨h0, h1, h2, h3, h4, h5⟩ := h
  exact ⟨h0, h1, h2, rkI_all h3, rkI_all h4, h5⟩

theorem i64_fits {n : Nat} {v : Int} (hn : n ≤ 7) (h : fitI n v = true) : i64R v := by
  obtain ⟨h0, h1⟩ := fitI_all h
  have e : ((256 ^ n : Nat) : Int) = 256 ^ n := by simp
  have h3 : 256 ^ n ≤ 256 ^ 7 := Nat.pow_le_pow_right (by decide) hn
  exact ⟨by omega, by omega⟩

theorem rg_okBd {b : Bp} (h : okBd b = true) : rgBp b := by
  obtain ⟨_, _, _, hcost, hage, hmx, hhel, hwai⟩ := okBd_all h
  exact ⟨i64_fits (by decide) hcost, i64_fits (by decide) hage, i64_fits (by decide) hmx, i64_fits (by decide) hhel, i64_fits (by decide) hwai⟩

/-- What may be has numbers of 64 bits. -/
theorem okMs_rg {m : Ms} {l : List Ins} (h : okMs m l = true) : rgBp m.base ∧ rgMs m ∧ ∀ x ∈ l, rgIn x := by
  obtain ⟨hk, hrp, hname, htz, hrev, hdig, hcost, hbr, hhop, hlen, hall⟩ := okMs_all h
  unfold okRp at hrp
  rw [Bool.and_eq_true] at hrp
  refine ⟨rg_okBd hrp.2, ⟨i64_fits (by decide) hrev, i64_fits (by decide) hcost, i64_fits (by decide) hhop⟩, fun x hx => ?_⟩
  obtain ⟨_, _, h2, _, _, h5⟩ := okIns_parts (List.all_eq_true.1 hall x hx)
  exact ⟨i64_fits (by decide) h2, i64_fits (by decide) h5⟩

theorem repeat_zero : ∀ n, Lib.repeatL [0] n = List.replicate n 0
  | 0 => rfl
  | n + 1 => by
    show [0] ++ Lib.repeatL [0] n = _
    rw [repeat_zero n, List.replicate_succ]
    rfl

theorem fit_sixteen {v : Int} (h : 0 ≤ v ∧ v ≤ 15) : fitI 1 (16 * v) = true := by
  unfold fitI
  rw [decide_eq_true (show 0 ≤ 16 * v by omega), decide_eq_true (show 16 * v < 256 ^ 1 by omega)]
  rfl

theorem msWrite_no (m : Ms) (a : Option Addr) (c : Nat) (l : List Ins) (w : World) (h : InIn w a l) (hlen : l.length ≤ 1000000) (hr : rgBp m.base ∧ rgMs m ∧ ∀ x ∈ l, rgIn x) (hn : m.name.size ≤ 1000000) (hd : m.dig.size ≤ 1000000) (hok : okMs m l = false) :
    Calls Tryz.prog 5 #[.agg (msC m (.slice a l.length c))] w fun e w' => e = .returned (.tuple #[.string ⟨#[]⟩, .iface 41 (.int .i64 1)]) ∧ Below w.heap.size w w' := by
  have HA := Blk.new w 34 (msC m (.slice a l.length c))
  have B0 : Below w.heap.size w (w.alloc (.cells (msC m (.slice a l.length c)) 34)) := (Below.refl _ _).alloc (Nat.le_refl _) _
  have hI := h.below B0
  have HR := Lib.hid (fun (W : World) (h : InIn W a l) => by have q := msRight_any m a c l W h hlen hr hn hd; rw [hok] at q; exact q)
  clear h hok
  go_enter Tryz.func5, Tryz.ntmps5
  go_upto_region 1 with (fail)
  generalize (w.alloc (.cells (msC m (.slice a l.length c)) 34)) = w1 at *
  go_wp2_with (refine load_blk (k := 0) 34 (msC m (.slice a l.length c)) (by rfl) rfl rfl HA (by kernel_rfl) (by kernel_rfl) rfl ?_)
  refine (HR.out _ hI).mono ?_
  rintro e w2 ⟨rfl, k2⟩
  go_wp2
  go_ret2
  exact ⟨rfl, B0.trans (k2.mono B0.size)⟩

set_option maxHeartbeats 12800000 in
theorem msWrite_yes (m : Ms) (a : Option Addr) (c : Nat) (l : List Ins) (w : World) (h : InIn w a l) (hok : okMs m l = true) (hx : byBp m.base ∧ byB m.br ∧ ∀ x ∈ l, byIns x) :
    Calls Tryz.prog 5 #[.agg (msC m (.slice a l.length c))] w fun e w' => e = .returned (.tuple #[.string ⟨(writeM m l).toArray⟩, .nilIface]) ∧ Below w.heap.size w w' := by
  have hmf : ∀ (fn : Fn) (first cap : Array Value) (w : World), (Instr.makeFunc fn first cap).run Tryz.prog w = .ok (.func fn first cap) w := fun _ _ _ _ => rfl
  have HA1 := Blk.new w 34 (msC m (.slice a l.length c))
  have B1 : Below w.heap.size w (w.alloc (.cells (msC m (.slice a l.length c)) 34)) := (Below.refl _ _).alloc (Nat.le_refl _) _
  have hI1 := h.below B1
  obtain ⟨hk, hrp, hname, htz, hrev, hdig, hcost, hbr, hhop, hlen, hall⟩ := okMs_all hok
  obtain ⟨hxb, hxr, hxl⟩ := hx
  have hr := okMs_rg hok
  have hbp : okBp m.base = true := by rw [okBp_three hk]; exact hrp
  have HR := Lib.hid (fun (W : World) (h : InIn W a l) => by have q := msRight_any m a c l W h (by omega) hr (by omega) (by omega); rw [hok] at q; exact q)
  have HB := Lib.hid (fun W => body_any m.base (Or.inr hk) hbp hxb hr.1 W)
  have hbl := bodyL_len m.base
  have HF : Hid (headM m l.length = ((((((([] ++ (([0, 0, 3, 2] ++ bodyL m.base) ++ [0])) ++ putL (64 + 16 * (l.length : Int)).toNat 2) ++ (([0] ++ m.name.data.toList) ++ List.replicate (32 - m.name.size) 0)) ++ putL m.rev.toNat 2) ++ m.dig.data.toList) ++ putL m.cost.toNat 4) ++ packL m.br) ++ putL m.hop.toNat 1) := by
    show _ = _
    unfold headM padL
    rw [show (64 + 16 * (l.length : Int)).toNat = 64 + 16 * l.length by omega]
    simp only [List.append_assoc, List.nil_append]
  have HFL := headM_len m l.length hname hdig
  have HW : Hid (∀ k, k ≤ l.length → (headM m l.length ++ inssL (l.take k)).length ≤ 2000) := fun k hk => by
    rw [List.length_append, HFL, inssL_len, List.length_take]
    omega
  have HOK : Hid (∀ x ∈ l, okIns x = true) := List.all_eq_true.1 hall
  have HXL := Lib.hid hxl
  have HSN := Lib.hid (inssL_snoc l)
  have HWM : Hid (writeM m l = headM m l.length ++ inssL l) := rfl
  obtain ⟨z1, hz1⟩ : ∃ z, z = [0, 0, 3, 2] ++ bodyL m.base := ⟨_, rfl⟩
  have zl1 : z1.length = 35 := by rw [hz1, List.length_append, hbl]; rfl
  have p1 : ∀ W, (Op.stringOp .add ⟨#[0, 0, 3, 2]⟩ ⟨(bodyL m.base).toArray⟩).run Tryz.prog W = .ok (.string ⟨z1.toArray⟩) W := fun W => by rw [hz1]; exact run_string_add_lists W [0, 0, 3, 2] _ (by decide) (by omega)
  obtain ⟨z2, hz2⟩ : ∃ z, z = z1 ++ [0] := ⟨_, rfl⟩
  have zl2 : z2.length = 36 := by rw [hz2, List.length_append, zl1]; rfl
  have p2 : ∀ W, (Op.stringOp .add ⟨z1.toArray⟩ ⟨#[0]⟩).run Tryz.prog W = .ok (.string ⟨z2.toArray⟩) W := fun W => by rw [hz2]; exact run_string_add_lists W _ [0] (by omega) (by decide)
  have hnl : m.name.data.toList.length = m.name.size := by simp
  have hdl : m.dig.data.toList.length = 16 := by rw [← hdig]; simp
  obtain ⟨z3, hz3⟩ : ∃ z, z = [0] ++ m.name.data.toList := ⟨_, rfl⟩
  have zl3 : z3.length ≤ 33 := by rw [hz3, List.length_append, hnl]; simp; omega
  have p3 : ∀ W, (Op.stringOp .add ⟨#[0]⟩ m.name).run Tryz.prog W = .ok (.string ⟨z3.toArray⟩) W := fun W => by rw [hz3]; exact run_string_add_lists W [0] m.name.data.toList (by decide) (by omega)
  obtain ⟨r, hrr⟩ : ∃ r : Nat, r = 32 - m.name.size := ⟨_, rfl⟩
  have wr : IntKind.i64.wrap (32 - (m.name.size : Int)) = (r : Int) := by rw [IntKind.wrap_i64] <;> omega
  obtain ⟨rp, hrpl⟩ : ∃ rp, rp = List.replicate r (0 : UInt8) := ⟨_, rfl⟩
  have rpl : rp.length = r := by rw [hrpl, List.length_replicate]
  have hr32 : r ≤ 32 := by omega
  have HRP : Hid (∀ W, Calls Tryz.prog 10 #[.string ⟨#[0]⟩, .int .i64 r] W fun e w' => e = .returned (.string ⟨rp.toArray⟩) ∧ Below W.heap.size W w') := fun W => by
    have q := Tryz.strings_Repeat ⟨#[0]⟩ r W (by omega) (by show 1 * r ≤ _; omega)
    rw [show (⟨#[0]⟩ : ByteArray).data.toList = [0] from rfl, repeat_zero, ← hrpl] at q
    exact q
  obtain ⟨z4, hz4⟩ : ∃ z, z = z3 ++ rp := ⟨_, rfl⟩
  have zl4 : z4.length ≤ 65 := by rw [hz4, List.length_append, rpl]; omega
  have p4 : ∀ W, (Op.stringOp .add ⟨z3.toArray⟩ ⟨rp.toArray⟩).run Tryz.prog W = .ok (.string ⟨z4.toArray⟩) W := fun W => by rw [hz4]; exact run_string_add_lists W _ _ (by omega) (by omega)
  replace HF : Hid (headM m l.length = ((((((([] ++ z2) ++ putL (64 + 16 * (l.length : Int)).toNat 2) ++ z4) ++ putL m.rev.toNat 2) ++ m.dig.data.toList) ++ putL m.cost.toNat 4) ++ packL m.br) ++ putL m.hop.toNat 1) := by
    show _ = _
    rw [HF.out, hz2, hz1, hz4, hz3, hrpl, hrr]
  have m1 : IntKind.i64.wrap (16 * (l.length : Int)) = 16 * (l.length : Int) := by rw [IntKind.wrap_i64] <;> omega
  have m2 : IntKind.i64.wrap (64 + 16 * (l.length : Int)) = 64 + 16 * (l.length : Int) := by rw [IntKind.wrap_i64] <;> omega
  have hf2 : fitI 2 (64 + 16 * (l.length : Int)) = true := by
    unfold fitI
    rw [decide_eq_true (show 0 ≤ 64 + 16 * (l.length : Int) by omega), decide_eq_true (show 64 + 16 * (l.length : Int) < 256 ^ 2 by omega)]
    rfl
  clear hz1 hz2 hz3 hz4 hrpl hrr hk hrp htz hall hbp hr hok hnl rpl hname hdig hbl
  go_enter Tryz.func5, Tryz.ntmps5
  go_upto_region 1 with (fail)
  generalize (w.alloc (.cells (msC m (.slice a l.length c)) 34)) = w1 at *
  go_wp2_with (refine load_blk (k := 0) 34 (msC m (.slice a l.length c)) (by rfl) rfl rfl HA1 (by kernel_rfl) (by kernel_rfl) rfl ?_)
  refine (HR.out _ hI1).mono ?_
  rintro e w2 ⟨rfl, k2⟩
  have HA2 := HA1.kept k2
  have B2 := B1.trans (k2.mono B1.size)
  have IB3 := bu_new w2
  have hA3 : Below w2.heap.size w2 (w2.alloc (.cells #[.pointer none, .slice none 0 0] 53)) := (Below.refl _ _).alloc (Nat.le_refl _) _
  have HA3 := HA2.kept hA3
  have B3 := B2.trans (hA3.mono B2.size)
  have hsz3 := hA3.size
  have hPb : w.heap.size < w2.heap.size := HA2.lt
  clear hI1 HA1 HA2 B1 B2 k2 hA3 HR
  go_upto_region 6 with (refine alloc_blk 53 #[.pointer none, .slice none 0 0] (by rfl) rfl Tryz.bdZero ?_)
  (try simp only [Act.put, List.setIfInBounds_toArray, List.set_cons_zero, List.set_cons_succ])
  generalize w2.alloc (.cells #[.pointer none, .slice none 0 0] 53) = w3 at *
  generalize w2.heap.size = b at *
  have hwb : w.heap.size ≤ b := Nat.le_of_lt hPb
  go_wp2_with (refine load_blk (k := 0) 31 (bpC m.base) (by rfl) rfl rfl HA3 (by kernel_rfl) (by kernel_rfl) rfl ?_)
  refine (HB.out _).mono ?_
  rintro e w4 ⟨rfl, k4⟩
  have IB4 := bu_below IB3 k4
  have HA4 := HA3.kept k4
  have B4 := B3.trans (k4.mono B3.size)
  have hb4 := Nat.le_trans hsz3 k4.size
  clear IB3 HA3 B3 hsz3 k4 HB
  go_wp2_with fail
  refine (write_bu b [] z2 _ IB4 (by simp; omega) hb4).mono ?_
  rintro e w5 ⟨rfl, IB5, b5, -⟩
  have HA5 := HA4.below b5 hPb
  have B5 := B4.trans (b5.mono hwb)
  have hb5 := Nat.le_trans hb4 b5.size
  clear IB4 HA4 B4 hb4 b5
  have c44_5 := HA5.cv 44 (.slice a l.length c) rfl
  go_wp2_with fail
  refine (put_t b _ (64 + 16 * (l.length : Int)) 2 _ IB5 (by decide) (by decide) hf2 (by simp only [List.length_append, putL_length, packL_len, hdl, zl2, List.length_nil]; omega) hb5).mono ?_
  rintro e w6 ⟨rfl, IB6, b6, -⟩
  clear c44_5
  have HA6 := HA5.below b6 hPb
  have B6 := B5.trans (b6.mono hwb)
  have hb6 := Nat.le_trans hb5 b6.size
  clear IB5 HA5 B5 hb5 b6
  have c31_6 := HA6.cv 31 (.string m.name) rfl
  go_upto_region 8 with (fail)
  refine wp_region_noPanic ?_
  refine wp_region_held_drew (S := (fun w' => w'.cell? ⟨w.heap.size, 31, none⟩ = some (.string m.name))) (by kernel_rfl) ?_ (fun hHeld => ?_)
  · exact c31_6
  refine wpAnyH_take (i := 0) (v := ?_) rfl (by kernel_rfl) (by kernel_rfl) (by kernel_rfl) (fun _ _ _ h => h) (Or.inl ⟨by rfl, ?_⟩) (by assumption) ?_
  rotate_left
  · (intro w hSw; (try dsimp only at hSw); go_simp; (try with_reducible rfl))
  (try simp only [Act.put, List.getElem_toArray, List.getElem_cons_zero, List.getElem_cons_succ, List.setIfInBounds_toArray, List.set_cons_zero, List.set_cons_succ])
  refine wpAnyH_take (i := 1) (v := ?_) rfl (by kernel_rfl) (by kernel_rfl) (by kernel_rfl) (fun _ _ _ h => h) (Or.inl ⟨by rfl, ?_⟩) (by assumption) ?_
  rotate_left
  · (intro w hSw; (try dsimp only at hSw); go_simp; (try with_reducible rfl))
  (try simp only [Act.put, List.getElem_toArray, List.getElem_cons_zero, List.getElem_cons_succ, List.setIfInBounds_toArray, List.set_cons_zero, List.set_cons_succ])
  refine wpAnyH_take (i := 2) (v := ?_) rfl (by kernel_rfl) (by kernel_rfl) (by kernel_rfl) (fun _ _ _ h => h) (Or.inl ⟨by rfl, ?_⟩) (by assumption) ?_
  rotate_left
  · (intro w hSw; (try dsimp only at hSw); go_simp; (try with_reducible rfl))
  (try simp only [Act.put, List.getElem_toArray, List.getElem_cons_zero, List.getElem_cons_succ, List.setIfInBounds_toArray, List.set_cons_zero, List.set_cons_succ])
  refine wpAnyH_take (i := 3) (v := ?_) rfl (by kernel_rfl) (by kernel_rfl) (by kernel_rfl) (fun _ _ _ h => h) (Or.inl ⟨by rfl, ?_⟩) (by assumption) ?_
  rotate_left
  · (intro w hSw; (try dsimp only at hSw); go_simp; (try with_reducible rfl))
  (try simp only [Act.put, List.getElem_toArray, List.getElem_cons_zero, List.getElem_cons_succ, List.setIfInBounds_toArray, List.set_cons_zero, List.set_cons_succ])
  refine wpAnyH_take (i := 4) (v := ?_) rfl (by kernel_rfl) (by kernel_rfl) (by kernel_rfl) (fun _ _ _ h => h) (Or.inl ⟨by rfl, ?_⟩) (by assumption) ?_
  rotate_left
  · (intro w hSw; (try dsimp only at hSw); go_simp; (try with_reducible rfl))
  (try simp only [Act.put, List.getElem_toArray, List.getElem_cons_zero, List.getElem_cons_succ, List.setIfInBounds_toArray, List.set_cons_zero, List.set_cons_succ])
  refine wpAnyH_take (i := 5) (v := ?_) rfl (by kernel_rfl) (by kernel_rfl) (by kernel_rfl) (fun _ _ _ h => h) (Or.inl ⟨by rfl, ?_⟩) (by assumption) ?_
  rotate_left
  · (intro w hSw; (try dsimp only at hSw); go_simp; (try with_reducible rfl))
  (try simp only [Act.put, List.getElem_toArray, List.getElem_cons_zero, List.getElem_cons_succ, List.setIfInBounds_toArray, List.set_cons_zero, List.set_cons_succ])
  refine wpAnyH_take (i := 6) (v := ?_) rfl (by kernel_rfl) (by kernel_rfl) (by kernel_rfl) (fun _ _ _ h => h) (Or.inl ⟨by rfl, ?_⟩) (by assumption) ?_
  rotate_left
  · (intro w hSw; (try dsimp only at hSw); go_simp; (try with_reducible rfl))
  (try simp only [Act.put, List.getElem_toArray, List.getElem_cons_zero, List.getElem_cons_succ, List.setIfInBounds_toArray, List.set_cons_zero, List.set_cons_succ])
  refine wpAnyH_ready (rs := [7]) (by kernel_rfl) (by simp) ?_
  refine AllReadyH.cons rfl (fun K hK => ?_) AllReadyH.nil
  simp only [List.getElem_toArray, List.getElem_cons_zero, List.getElem_cons_succ]
  go_simp
  go_at_call 10; (refine (HRP.out _).mono ?_); rintro e w7 ⟨rfl, k7⟩; have IB7 := bu_below (show BU b _ w6.drew from IB6) k7; have HA7 := HA6.drew.kept k7; have B7 := B6.drew.trans (k7.mono B6.drew.size); have hb7 := Nat.le_trans (show b ≤ w6.drew.heap.size from hb6) k7.size; have c31_7 := HA7.cv 31 (.string m.name) rfl
  refine hK.out _ _ ?_ (fun hHeld => ?_)
  · exact c31_7
  clear hK K
  (try simp only [Act.put, List.getElem_toArray, List.getElem_cons_zero, List.getElem_cons_succ, List.setIfInBounds_toArray, List.set_cons_zero, List.set_cons_succ])
  refine wpAnyH_take (i := 8) (v := ?_) rfl (by kernel_rfl) (by kernel_rfl) (by kernel_rfl) (fun _ _ _ h => h) (Or.inl ⟨by rfl, ?_⟩) (by assumption) ?_
  rotate_left
  · (intro w hSw; (try dsimp only at hSw); go_simp; (try with_reducible rfl))
  (try simp only [Act.put, List.getElem_toArray, List.getElem_cons_zero, List.getElem_cons_succ, List.setIfInBounds_toArray, List.set_cons_zero, List.set_cons_succ])
  refine wpAnyH_ready (rs := [9]) (by kernel_rfl) (by simp) ?_
  refine AllReadyH.cons rfl (fun K hK => ?_) AllReadyH.nil
  simp only [List.getElem_toArray, List.getElem_cons_zero, List.getElem_cons_succ]
  go_simp
  go_at_call 12; (refine (write_bu b _ z4 _ IB7 (by simp only [List.length_append, putL_length, packL_len, hdl, zl2, List.length_nil]; omega) hb7).mono ?_); rintro e w8 ⟨rfl, IB8, b8, -⟩; have HA8 := HA7.below b8 hPb; have B8 := B7.trans (b8.mono hwb); have hb8 := Nat.le_trans hb7 b8.size; have c31_8 := HA8.cv 31 (.string m.name) rfl
  refine hK.out _ _ ?_ (fun hHeld => ?_)
  · exact c31_8
  clear hK K
  (try simp only [Act.put, List.getElem_toArray, List.getElem_cons_zero, List.getElem_cons_succ, List.setIfInBounds_toArray, List.set_cons_zero, List.set_cons_succ])
  refine wpAnyH_done (by kernel_rfl) ?_ _
  refine NoPanic.normal ?_
  clear IB6 IB7 HA6 HA7 B6 B7 hb6 hb7 b8 k7 c31_6 c31_7 c31_8
  have c32_8 := HA8.cv 32 (.int .i64 m.rev) rfl
  go_wp2_with fail
  refine (put_t b _ m.rev 2 _ IB8 (by decide) (by decide) hrev (by simp only [List.length_append, putL_length, packL_len, hdl, zl2, List.length_nil]; omega) hb8).mono ?_
  rintro e w9 ⟨rfl, IB9, b9, -⟩
  clear c32_8
  have HA9 := HA8.below b9 hPb
  have B9 := B8.trans (b9.mono hwb)
  have hb9 := Nat.le_trans hb8 b9.size
  clear IB8 HA8 B8 hb8 b9
  have c33_9 := HA9.cv 33 (.string m.dig) rfl
  go_wp2_with fail
  refine (write_bu b _ m.dig.data.toList _ IB9 (by simp only [List.length_append, putL_length, packL_len, hdl, zl2, List.length_nil]; omega) hb9).mono ?_
  rintro e w10 ⟨rfl, IB10, b10, -⟩
  clear c33_9
  have HA10 := HA9.below b10 hPb
  have B10 := B9.trans (b10.mono hwb)
  have hb10 := Nat.le_trans hb9 b10.size
  clear IB9 HA9 B9 hb9 b10
  have c34_10 := HA10.cv 34 (.int .i64 m.cost) rfl
  go_wp2_with fail
  refine (put_t b _ m.cost 4 _ IB10 (by decide) (by decide) hcost (by simp only [List.length_append, putL_length, packL_len, hdl, zl2, List.length_nil]; omega) hb10).mono ?_
  rintro e w11 ⟨rfl, IB11, b11, -⟩
  clear c34_10
  have HA11 := HA10.below b11 hPb
  have B11 := B10.trans (b11.mono hwb)
  have hb11 := Nat.le_trans hb10 b11.size
  clear IB10 HA10 B10 hb10 b11
  go_wp2_with (refine load_blk (k := 35) 27 (brC m.br) (by rfl) rfl rfl HA11 (by kernel_rfl) (by kernel_rfl) rfl ?_)
  refine (pack_t b _ m.br hbr hxr _ IB11 (by simp only [List.length_append, putL_length, packL_len, hdl, zl2, List.length_nil]; omega) hb11).mono ?_
  rintro e w12 ⟨rfl, IB12, b12, -⟩
  have HA12 := HA11.below b12 hPb
  have B12 := B11.trans (b12.mono hwb)
  have hb12 := Nat.le_trans hb11 b12.size
  clear IB11 HA11 B11 hb11 b12
  have c43_12 := HA12.cv 43 (.int .i64 m.hop) rfl
  go_wp2_with fail
  refine (put_t b _ m.hop 1 _ IB12 (by decide) (by decide) hhop (by simp only [List.length_append, putL_length, packL_len, hdl, zl2, List.length_nil]; omega) hb12).mono ?_
  rintro e w13 ⟨rfl, IB13, b13, -⟩
  clear c43_12
  have HA13 := HA12.below b13 hPb
  have B13 := B12.trans (b13.mono hwb)
  have hb13 := Nat.le_trans hb12 b13.size
  clear IB12 HA12 B12 hb12 b13
  rw [← HF.out] at IB13
  have c44_13 := HA13.cv 44 (.slice a l.length c) rfl
  clear HF p1 p2 p3 p4 HRP zl1 zl2 zl3 zl4 m1 m2 hf2 hrev hcost hbr hhop wr hr32 hdl HFL
  generalize headM m l.length = hd at *
  go_wp2_with fail
  go_loopw [8, 60] (fun _ i wr => ∃ k : Nat, k ≤ l.length ∧ i = .int .i64 k ∧ BU b (hd ++ inssL (l.take k)) wr ∧ Below w.heap.size w wr ∧ b ≤ wr.heap.size) (fun _ i _ => l.length - (intOf i).toNat)
  case atStart => exact ⟨0, by omega, rfl, by rw [List.take_zero, show inssL [] = [] from rfl, List.append_nil]; exact IB13, B13, hb13⟩
  case round =>
    clear IB13 B13 hb13 c44_13 HA13
    obtain ⟨k, hk, rfl, IBk, Bk, hbk⟩ := hrel
    by_cases hlt : k < l.length
    · skip
      obtain ⟨bk, o, rfl, hbl, hat⟩ := h.at hlt
      have b1 : (k : Int) < (l.length : Int) := by omega
      have b2 : decide ((k : Int) < (l.length : Int)) = true := decide_eq_true b1
      have b3 : (0 : Int) ≤ (k : Int) := by omega
      have HK := (hat k hlt).below Bk hbl
      have B0 := Bk.alloc Bk.size (.cells (inC zIns) 49)
      have HN := Blk.new wr 49 (inC zIns)
      have IB0 := bu_below IBk ((Below.refl _ _).alloc (Nat.le_refl _) (.cells (inC zIns) 49))
      obtain ⟨hf, hroot, hcost, hbri, hpti, hhop⟩ := okIns_parts (HOK.out _ (List.getElem_mem hlt))
      have hxi := HXL.out _ (List.getElem_mem hlt)
      have HT : Hid (hd ++ inssL (l.take (k + 1)) = (((((hd ++ inssL (l.take k)) ++ putL ((byF l[k].f : Nat) : Int).toNat 1) ++ packL l[k].root) ++ putL l[k].cost.toNat 4) ++ putL (16 * l[k].br).toNat 1) ++ putL (16 * l[k].pt).toNat 1 ++ putL l[k].hop.toNat 1) := by
        show _ = _
        rw [HSN.out k hlt]
        unfold insL
        rw [Int.toNat_natCast]
        simp only [List.append_assoc]
      have hyl := HW.out k hk
      generalize hd ++ inssL (l.take k) = y at *
      have HY := Lib.hid (fun W => byte_any l[k].f hf W)
      have hbf := byF_lt l[k].f hf
      have hfb : fitI 1 ((byF l[k].f : Nat) : Int) = true := by
        unfold fitI
        rw [decide_eq_true (show (0 : Int) ≤ ((byF l[k].f : Nat) : Int) by omega), decide_eq_true (show ((byF l[k].f : Nat) : Int) < 256 ^ 1 by omega)]
        rfl
      generalize byF l[k].f = fb at *
      have n1 : IntKind.i64.wrap (16 * l[k].br) = 16 * l[k].br := by rw [IntKind.wrap_i64] <;> omega
      have n2 : IntKind.i64.wrap (16 * l[k].pt) = 16 * l[k].pt := by rw [IntKind.wrap_i64] <;> omega
      have f1 := fit_sixteen hbri
      have f2 := fit_sixteen hpti
      generalize l[k] = x at *
      have hbw : b ≤ wr.heap.size := hbk
      clear hbf hat hbl
      go_upto_region 17 with (first
        | (refine load_cells 49 (inC x) (by rfl) rfl rfl HK (by kernel_rfl) (by kernel_rfl) ?_)
        | (refine alloc_blk 49 (inC zIns) (by rfl) rfl Tryz.inZero ?_)
        | (refine store_blk (k := 0) 49 (.agg (inC x)) (inC x) (by rfl) rfl rfl rfl HN (by kernel_rfl) (show (19 : Nat) ≤ 19 from Nat.le_refl 19) (by rfl) (st_whole _ _ rfl) ?_; intro v0 V0 q0 g0))
      (try simp only [Act.put, List.setIfInBounds_toArray, List.set_cons_zero, List.set_cons_succ])
      have JB0 : BU b y v0 := bu_below IBk (((Below.refl _ _).alloc (Nat.le_refl _) (.cells (inC zIns) 49)).trans q0)
      have C0 : Below w.heap.size w v0 := B0.trans (q0.mono Bk.size)
      have hc0 : b ≤ v0.heap.size := Nat.le_trans (Nat.le_trans hbk (by simp)) q0.size
      clear HK HN B0 IB0 q0 g0 Bk hbk hbw IBk
      generalize wr.heap.size = G at *
      go_wp2_with (refine load_blk (k := 0) 23 (flC x.f) (by rfl) rfl rfl V0 (by kernel_rfl) (by kernel_rfl) rfl ?_)
      refine (HY.out _).mono ?_
      rintro e v1 ⟨rfl, q1⟩
      have JB1 := bu_below JB0 q1
      have V1 := V0.kept q1
      have C1 := C0.trans (q1.mono C0.size)
      have hc1 := Nat.le_trans hc0 q1.size
      clear JB0 V0 C0 hc0 q1
      go_wp2_with fail
      refine (put_t b _ ((fb : Nat) : Int) 1 _ JB1 (by decide) (by decide) hfb (by first | omega | (simp only [List.length_append, putL_length, packL_len]; omega)) hc1).mono ?_
      rintro e v2 ⟨rfl, JB2, q2, K2⟩
      have V2 := K2 _ _ _ V1 (by decide) (by decide)
      have C2 := C1.trans (q2.mono hwb)
      have hc2 := Nat.le_trans hc1 q2.size
      clear JB1 V1 C1 hc1 q2 K2
      go_wp2_with (refine load_blk (k := 7) 27 (brC x.root) (by rfl) rfl rfl V2 (by kernel_rfl) (by kernel_rfl) rfl ?_)
      refine (pack_t b _ x.root hroot hxi _ JB2 (by first | omega | (simp only [List.length_append, putL_length, packL_len]; omega)) hc2).mono ?_
      rintro e v3 ⟨rfl, JB3, q3, K3⟩
      have V3 := K3 _ _ _ V2 (by decide) (by decide)
      have C3 := C2.trans (q3.mono hwb)
      have hc3 := Nat.le_trans hc2 q3.size
      clear JB2 V2 C2 hc2 q3 K3
      have c15 := V3.cv 15 (.int .i64 x.cost) rfl
      go_wp2_with fail
      refine (put_t b _ x.cost 4 _ JB3 (by decide) (by decide) hcost (by first | omega | (simp only [List.length_append, putL_length, packL_len]; omega)) hc3).mono ?_
      rintro e v4 ⟨rfl, JB4, q4, K4⟩
      have V4 := K4 _ _ _ V3 (by decide) (by decide)
      have C4 := C3.trans (q4.mono hwb)
      have hc4 := Nat.le_trans hc3 q4.size
      clear JB3 V3 C3 hc3 q4 K4
      have c16 := V4.cv 16 (.int .i64 x.br) rfl
      go_wp2_with fail
      refine (put_t b _ (16 * x.br) 1 _ JB4 (by decide) (by decide) f1 (by first | omega | (simp only [List.length_append, putL_length, packL_len]; omega)) hc4).mono ?_
      rintro e v5 ⟨rfl, JB5, q5, K5⟩
      have V5 := K5 _ _ _ V4 (by decide) (by decide)
      have C5 := C4.trans (q5.mono hwb)
      have hc5 := Nat.le_trans hc4 q5.size
      clear JB4 V4 C4 hc4 q5 K5
      have c17 := V5.cv 17 (.int .i64 x.pt) rfl
      go_wp2_with fail
      refine (put_t b _ (16 * x.pt) 1 _ JB5 (by decide) (by decide) f2 (by first | omega | (simp only [List.length_append, putL_length, packL_len]; omega)) hc5).mono ?_
      rintro e v6 ⟨rfl, JB6, q6, K6⟩
      have V6 := K6 _ _ _ V5 (by decide) (by decide)
      have C6 := C5.trans (q6.mono hwb)
      have hc6 := Nat.le_trans hc5 q6.size
      clear JB5 V5 C5 hc5 q6 K6
      have c18 := V6.cv 18 (.int .i64 x.hop) rfl
      go_wp2_with fail
      refine (put_t b _ x.hop 1 _ JB6 (by decide) (by decide) hhop (by first | omega | (simp only [List.length_append, putL_length, packL_len]; omega)) hc6).mono ?_
      rintro e v7 ⟨rfl, JB7, q7, K7⟩
      have V7 := K7 _ _ _ V6 (by decide) (by decide)
      have C7 := C6.trans (q7.mono hwb)
      have hc7 := Nat.le_trans hc6 q7.size
      clear JB6 V6 C6 hc6 q7 K7
      rw [← HT.out] at JB7
      go_wp2
      go_roundw
      case rel => exact ⟨k + 1, by omega, by go_num, JB7, C7, hc7⟩
      case measure => simp [intOf]; omega
    · obtain rfl : k = l.length := by omega
      have b2 : decide ((l.length : Int) < (l.length : Int)) = false := decide_eq_false (by omega)
      rw [List.take_length] at IBk
      go_wp2_with fail
      refine (Tryz.Builder_String_any b b _ _ IBk hbk).mono ?_
      rintro e w14 ⟨rfl, k14⟩
      go_wp2
      go_ret2
      exact ⟨by rw [HWM.out]; rfl, Bk.trans (k14.mono hwb)⟩

end Go.Proofs.YtdjljnpbnhampaaGreatDoor

namespace Go.Proofs.YtdjljnpbnhampaaGreatDoor
open Go.RowKit
attribute [local go_sem ↓] Go.wp_at_zero Go.wp_at_succ
set_option linter.unusedSimpArgs false
set_option linter.unusedVariables false
set_option maxRecDepth 100000

theorem in_same (x : Ins) (W : World) : (Op.equalIn 10000 49 (.agg (inC x)) (.agg (inC x))).run Tryz.prog W = .ok true W := by
  have h := run_eql_in 9996 x x W
  rw [eqIn_self] at h
  exact h

theorem CellsAt.drewC {w : World} {B o : Nat} {X : Array Value} (h : CellsAt w B o X) : CellsAt w.drew B o X := h

set_option maxHeartbeats 6400000 in
theorem eqIns_any (a1 : Option Addr) (c1 : Nat) (a2 : Option Addr) (c2 : Nat) (l : List Ins) (w : World) (h1 : InIn w a1 l) (h2 : InIn w a2 l) (hlen : l.length ≤ 1000000) :
    Calls Tryz.prog 37 #[.slice a1 l.length c1, .slice a2 l.length c2] w fun e w' => e = .returned (.bool true) ∧ Below w.heap.size w w' := by
  go_enter Tryz.func37, Tryz.ntmps37
  go_wp2_with fail
  go_loopw [13] (fun i wr => ∃ k : Nat, k ≤ l.length ∧ i = .int .i64 k ∧ Below w.heap.size w wr) (fun i _ => l.length - (intOf i).toNat)
  case atStart => exact ⟨0, by omega, rfl, Below.refl _ _⟩
  case round =>
    obtain ⟨k, hk, rfl, hb⟩ := hrel
    by_cases hlt : k < l.length
    · obtain ⟨b1, o1, rfl, hb1, hat1⟩ := h1.at hlt
      obtain ⟨b2, o2, rfl, hb2, hat2⟩ := h2.at hlt
      have q1 : (k : Int) < (l.length : Int) := by omega
      have q2 : decide ((k : Int) < (l.length : Int)) = true := decide_eq_true q1
      have q3 : (0 : Int) ≤ (k : Int) := by omega
      have HK1 := (hat1 k hlt).below hb hb1
      have HK2 := (hat2 k hlt).below hb hb2
      have HEQ := fun W => in_same l[k] W
      generalize l[k] = x at *
      go_upto_region 6 with (fail)
      refine wp_region_noPanic ?_
      refine wp_region_held_drew (S := (fun w' => CellsAt w' b1 (o1 + k * 19) (inC x) ∧ CellsAt w' b2 (o2 + k * 19) (inC x))) (by kernel_rfl) ?_ (fun hHeld => ?_)
      · exact ⟨HK1.drewC, HK2.drewC⟩
      refine wpAnyH_take (i := 0) (v := ?_) rfl (by kernel_rfl) (by kernel_rfl) (by kernel_rfl) (fun _ _ _ h => h) (Or.inl ⟨by rfl, ?_⟩) (by assumption) ?_
      rotate_left
      · (intro w hSw; (try dsimp only at hSw); go_simp; (try with_reducible rfl))
      (try simp only [Act.put, List.getElem_toArray, List.getElem_cons_zero, List.getElem_cons_succ, List.setIfInBounds_toArray, List.set_cons_zero, List.set_cons_succ])
      refine wpAnyH_take (i := 1) (v := ?_) rfl (by kernel_rfl) (by kernel_rfl) (by kernel_rfl) (fun _ _ _ h => h) (Or.inl ⟨by rfl, ?_⟩) (by assumption) ?_
      rotate_left
      · (intro w hSw; (try dsimp only at hSw); go_simp; (try with_reducible rfl))
      (try simp only [Act.put, List.getElem_toArray, List.getElem_cons_zero, List.getElem_cons_succ, List.setIfInBounds_toArray, List.set_cons_zero, List.set_cons_succ])
      refine wpAnyH_take (i := 2) (v := ?_) rfl (by kernel_rfl) (by kernel_rfl) (by kernel_rfl) (fun _ _ _ h => h) (Or.inl ⟨by rfl, ?_⟩) (by assumption) ?_
      rotate_left
      · (intro w hSw; (try dsimp only at hSw); go_simp; (try with_reducible rfl))
      (try simp only [Act.put, List.getElem_toArray, List.getElem_cons_zero, List.getElem_cons_succ, List.setIfInBounds_toArray, List.set_cons_zero, List.set_cons_succ])
      refine wpAnyH_take (i := 3) (v := .agg (inC x)) rfl (by kernel_rfl) (by kernel_rfl) (by kernel_rfl) (fun _ _ _ h => h) (Or.inl ⟨by rfl, fun w hSw => exec_load_cells 49 (inC x) rfl rfl hSw.1 (by kernel_rfl) (by kernel_rfl)⟩) (by assumption) ?_
      (try simp only [Act.put, List.getElem_toArray, List.getElem_cons_zero, List.getElem_cons_succ, List.setIfInBounds_toArray, List.set_cons_zero, List.set_cons_succ])
      refine wpAnyH_take (i := 4) (v := ?_) rfl (by kernel_rfl) (by kernel_rfl) (by kernel_rfl) (fun _ _ _ h => h) (Or.inl ⟨by rfl, ?_⟩) (by assumption) ?_
      rotate_left
      · (intro w hSw; (try dsimp only at hSw); go_simp; (try with_reducible rfl))
      (try simp only [Act.put, List.getElem_toArray, List.getElem_cons_zero, List.getElem_cons_succ, List.setIfInBounds_toArray, List.set_cons_zero, List.set_cons_succ])
      refine wpAnyH_take (i := 5) (v := ?_) rfl (by kernel_rfl) (by kernel_rfl) (by kernel_rfl) (fun _ _ _ h => h) (Or.inl ⟨by rfl, ?_⟩) (by assumption) ?_
      rotate_left
      · (intro w hSw; (try dsimp only at hSw); go_simp; (try with_reducible rfl))
      (try simp only [Act.put, List.getElem_toArray, List.getElem_cons_zero, List.getElem_cons_succ, List.setIfInBounds_toArray, List.set_cons_zero, List.set_cons_succ])
      refine wpAnyH_take (i := 6) (v := ?_) rfl (by kernel_rfl) (by kernel_rfl) (by kernel_rfl) (fun _ _ _ h => h) (Or.inl ⟨by rfl, ?_⟩) (by assumption) ?_
      rotate_left
      · (intro w hSw; (try dsimp only at hSw); go_simp; (try with_reducible rfl))
      (try simp only [Act.put, List.getElem_toArray, List.getElem_cons_zero, List.getElem_cons_succ, List.setIfInBounds_toArray, List.set_cons_zero, List.set_cons_succ])
      refine wpAnyH_take (i := 7) (v := .agg (inC x)) rfl (by kernel_rfl) (by kernel_rfl) (by kernel_rfl) (fun _ _ _ h => h) (Or.inl ⟨by rfl, fun w hSw => exec_load_cells 49 (inC x) rfl rfl hSw.2 (by kernel_rfl) (by kernel_rfl)⟩) (by assumption) ?_
      (try simp only [Act.put, List.getElem_toArray, List.getElem_cons_zero, List.getElem_cons_succ, List.setIfInBounds_toArray, List.set_cons_zero, List.set_cons_succ])
      refine wpAnyH_take (i := 8) (v := .bool false) rfl (by kernel_rfl) (by kernel_rfl) (by kernel_rfl) (fun _ _ _ h => h) (Or.inl ⟨by rfl, fun w hSw => exec_eq_agg .neq 49 (inC x) (inC x) true rfl (Or.inr rfl) rfl rfl (by kernel_rfl) (HEQ w)⟩) (by assumption) ?_
      (try simp only [Act.put, List.getElem_toArray, List.getElem_cons_zero, List.getElem_cons_succ, List.setIfInBounds_toArray, List.set_cons_zero, List.set_cons_succ])
      refine wpAnyH_done (by kernel_rfl) ?_ _
      refine NoPanic.normal ?_
      have hbd := hb.drew
      go_wp2
      go_roundw
      case rel => exact ⟨k + 1, by omega, by go_num, hbd⟩
      case measure => simp [intOf]; omega
    · obtain rfl : k = l.length := by omega
      have q2 : decide ((l.length : Int) < (l.length : Int)) = false := decide_eq_false (by omega)
      go_wp2
      go_ret
      exact ⟨rfl, hb⟩

end Go.Proofs.YtdjljnpbnhampaaGreatDoor

namespace Go.Proofs.YtdjljnpbnhampaaGreatDoor
open Go.RowKit
set_option linter.unusedVariables false

theorem box_blk {P : Program} {ops : Array Oper} {rest : List Oper} {o : Oper} {a : Act} {w : World} {Q : Exit → Act → World → Prop} {x : Operand} (t : TypeId) (X : Array Value) (hg : o.guard = none) (ho : o.op = .box t x) (hx : a.eval x = .agg X)
    (h : ∀ w', Blk w' w.heap.size t X → Below w.heap.size w w' → wpList P ops Q rest (a.put o.dst (.pointer (some ⟨w.heap.size, 0, none⟩))) w') : wpList P ops Q (o :: rest) a w :=
  Go.Great.wpList_boxTo hg t x ho _ rfl _ rfl X (by rw [hx]; rfl) (h _ (Blk.new w t X) ((Below.refl _ _).alloc (Nat.le_refl _) _))

end Go.Proofs.YtdjljnpbnhampaaGreatDoor

namespace Go.Proofs.YtdjljnpbnhampaaGreatDoor
open Go.RowKit
attribute [local go_sem ↓] Go.wp_at_zero Go.wp_at_succ
set_option linter.unusedSimpArgs false
set_option linter.unusedVariables false
set_option maxRecDepth 100000

set_option maxHeartbeats 6400000 in
theorem sameMs_any (m : Ms) (l : List Ins) (a1 a2 : Option Addr) (c1 c2 : Nat) (w : World) (h1 : InIn w a1 l) (h2 : InIn w a2 l) (hlen : l.length ≤ 1000000) :
    Calls Tryz.prog 9 #[.agg (msC m (.slice a1 l.length c1)), .agg (msC m (.slice a2 l.length c2))] w fun e w' => e = .returned (.bool true) ∧ Below w.heap.size w w' := by
  have HQ : ∀ W, (Op.equalIn 10000 31 (.agg (bpC m.base)) (.agg (bpC m.base))).run Tryz.prog W = .ok true W := fun W => by
    have h := run_eql_bp 9996 m.base m.base W
    rw [eqBp_self] at h
    exact h
  have HB : ∀ W, (Op.equalIn 10000 27 (.agg (brC m.br)) (.agg (brC m.br))).run Tryz.prog W = .ok true W := fun W => by
    have h := run_eql_br 9997 m.br m.br W
    rw [eqB_self] at h
    exact h
  have HE := Lib.hid (fun (W : World) (h1 : InIn W a1 l) (h2 : InIn W a2 l) => eqIns_any a1 c1 a2 c2 l W h1 h2 hlen)
  have hn : (m.name.toList == m.name.toList) = true := by simp
  have hd : (m.dig.toList == m.dig.toList) = true := by simp
  go_enter Tryz.func9, Tryz.ntmps9
  go_upto_region 1 with (first
    | (refine box_blk 34 (msC m (.slice a1 l.length c1)) (by rfl) (by rfl) rfl ?_; intro w1 HA1 B1)
    | (refine box_blk 34 (msC m (.slice a2 l.length c2)) (by rfl) (by rfl) rfl ?_; intro w2 HA2 B2))
  have HA1b := HA1.kept B2
  have BB := B1.trans (B2.mono B1.size)
  have hI1 := h1.below BB
  have hI2 := h2.below BB
  generalize w1.heap.size = g at *
  have c31a := HA1b.cv 31 (.string m.name) rfl
  have c31b := HA2.cv 31 (.string m.name) rfl
  have c32a := HA1b.cv 32 (.int .i64 m.rev) rfl
  have c32b := HA2.cv 32 (.int .i64 m.rev) rfl
  have c33a := HA1b.cv 33 (.string m.dig) rfl
  have c33b := HA2.cv 33 (.string m.dig) rfl
  have c34a := HA1b.cv 34 (.int .i64 m.cost) rfl
  have c34b := HA2.cv 34 (.int .i64 m.cost) rfl
  have c43a := HA1b.cv 43 (.int .i64 m.hop) rfl
  have c43b := HA2.cv 43 (.int .i64 m.hop) rfl
  have c44a := HA1b.cv 44 (.slice a1 l.length c1) rfl
  have c44b := HA2.cv 44 (.slice a2 l.length c2) rfl
  go_wp2_with (first
    | (refine load_blk (k := 0) 31 (bpC m.base) (by rfl) rfl rfl HA1b (by kernel_rfl) (by kernel_rfl) rfl ?_)
    | (refine load_blk (k := 0) 31 (bpC m.base) (by rfl) rfl rfl HA2 (by kernel_rfl) (by kernel_rfl) rfl ?_)
    | (refine load_blk (k := 35) 27 (brC m.br) (by rfl) rfl rfl HA1b (by kernel_rfl) (by kernel_rfl) rfl ?_)
    | (refine load_blk (k := 35) 27 (brC m.br) (by rfl) rfl rfl HA2 (by kernel_rfl) (by kernel_rfl) rfl ?_)
    | (refine eq_blk .eql 31 (bpC m.base) (bpC m.base) true (by rfl) rfl (Or.inl rfl) rfl rfl (by kernel_rfl) (HQ _) ?_)
    | (refine eq_blk .eql 27 (brC m.br) (brC m.br) true (by rfl) rfl (Or.inl rfl) rfl rfl (by kernel_rfl) (HB _) ?_))
  refine (HE.out _ hI1 hI2).mono ?_
  rintro e w3 ⟨rfl, k3⟩
  go_wp2
  go_ret
  exact ⟨rfl, BB.trans (k3.mono BB.size)⟩

end Go.Proofs.YtdjljnpbnhampaaGreatDoor

namespace Go.Proofs.YtdjljnpbnhampaaGreatDoor
open Go.RowKit
attribute [local go_sem ↓] Go.wp_at_zero Go.wp_at_succ
set_option linter.unusedSimpArgs false
set_option linter.unusedVariables false
set_option maxRecDepth 100000

def fBt : Bp := ⟨3, zFl, ⟨0, 0, z6b⟩, 0, ⟨0, 0, z6b⟩, 0, 1, 0, 0, 0, 0⟩

def fDg : ByteArray := ⟨#[100, 100, 100, 100, 100, 100, 100, 100, 100, 100, 100, 100, 100, 100, 100, 100]⟩

def fMs : Ms := ⟨fBt, ⟨#[110]⟩, 0, fDg, 0, ⟨0, 0, z6b⟩, 20⟩

def fIn : Ins := ⟨zFl, ⟨0, 0, z6b⟩, 0, 8, 8, 20⟩

theorem fMs_ok : okMs fMs [fIn] = true := by kernel_rfl

theorem fMs_by : byBp fMs.base ∧ byB fMs.br ∧ ∀ x ∈ [fIn], byIns x := by
  refine ⟨⟨fun _ => (by decide : (0 : Nat) < 256), fun _ => (by decide : (0 : Nat) < 256)⟩, fun _ => (by decide : (0 : Nat) < 256), fun x hx => ?_⟩
  obtain rfl := List.mem_singleton.1 hx
  exact fun _ => (by decide : (0 : Nat) < 256)

set_option maxHeartbeats 6400000 in
theorem treed_any (w : World) : Calls Tryz.prog 4 #[] w fun e w' => e = .returned (.bool true) ∧ Below w.heap.size w w' := by
  have hnn : ∀ w : World, (binOp BinOp.eql 37 .nilIface .nilIface).run Tryz.prog w = .ok (.bool true) w := fun _ => by kernel_rfl
  obtain ⟨i0, hi, hz0, hz1, hz2⟩ := info_parts Tryz.inParts
  have hl : (writeM fMs [fIn]).length = 118 := (okMs_len fMs_ok).1
  have HRP : Hid (∀ W, Calls Tryz.prog 10 #[.string ⟨#[100]⟩, .int .i64 16] W fun e w' => e = .returned (.string fDg) ∧ Below W.heap.size W w') := fun W => Tryz.strings_Repeat ⟨#[100]⟩ 16 W (by decide) (by decide)
  have HWr := Lib.hid (fun (a : Option Addr) (c : Nat) (W : World) (h : InIn W a [fIn]) => msWrite_yes fMs a c [fIn] W h fMs_ok fMs_by)
  have HRd := Lib.hid (fun W => msRead_back fMs [fIn] [120] fMs_ok fMs_by (by rw [List.length_append, hl]; decide) W)
  have HRi := Lib.hid (fun (a : Option Addr) (c : Nat) (W : World) (h : InIn W a [fIn]) => by have q := msRight_any fMs a c [fIn] W h (by decide) (okMs_rg fMs_ok) (by decide) (by decide); rw [fMs_ok] at q; exact q)
  have HSm := Lib.hid (fun (a1 a2 : Option Addr) (c1 c2 : Nat) (W : World) (h1 : InIn W a1 [fIn]) (h2 : InIn W a2 [fIn]) => sameMs_any fMs [fIn] a1 a2 c1 c2 W h1 h2 (by decide))
  generalize writeM fMs [fIn] = y at *
  have p1 : ∀ W, (Op.stringOp .add ⟨y.toArray⟩ ⟨#[120]⟩).run Tryz.prog W = .ok (.string ⟨(y ++ [120]).toArray⟩) W := fun W => run_string_add_lists W _ [120] (by omega) (by decide)
  generalize y ++ [120] = z at *
  go_enter Tryz.func4, Tryz.ntmps4
  go_wp2_with (first
    | (refine build_blk (t := 29) (ptC 0 1) (by rfl) rfl (by kernel_rfl) ?_)
    | (refine build_blk (t := 31) (bpC fBt) (by rfl) rfl (by kernel_rfl) ?_))
  refine (HRP.out _).mono ?_
  rintro e w1 ⟨rfl, B1⟩
  have HG2 := Blk.new w1 49 (inC fIn)
  have B2 := B1.alloc B1.size (.cells (inC fIn) 49)
  have e2 : (w1.alloc (.cells (inC fIn) 49)).heap.size = w1.heap.size + 1 := by simp
  go_upto_region 2 with (first
    | (refine build_blk (t := 49) (inC fIn) (by rfl) rfl (by kernel_rfl) ?_)
    | (refine wpList_buildSlice rfl 32 49 1 _ rfl (inC fIn) i0 (.agg (inC zIns)) Tryz.underlying32 hi hz0 (by rw [hz1]; decide) (by rw [hz1]; decide) (by rw [hz1]; simp only [List.map_toArray, List.map_cons, List.map_nil]; exact fill_in fIn) ?_)
    | (refine build_blk (t := 34) (msC fMs (.slice (some ⟨w1.heap.size, 0, none⟩) 1 1)) (by rfl) rfl (by kernel_rfl) ?_)
    | (refine alloc_blk 34 (msC zMs (.slice none 0 0)) (by rfl) rfl Tryz.msZero ?_)
    | (refine store_blk (k := 0) 34 (.agg (msC fMs (.slice (some ⟨w1.heap.size, 0, none⟩) 1 1))) (msC fMs (.slice (some ⟨w1.heap.size, 0, none⟩) 1 1)) (by rfl) rfl rfl rfl (Blk.new _ _ _) (by kernel_rfl) (show (45 : Nat) ≤ 45 from Nat.le_refl 45) (by rfl) (st_whole _ _ rfl) ?_; intro w3 HV3 b3 g3))
  (try simp only [Act.put, List.setIfInBounds_toArray, List.set_cons_zero, List.set_cons_succ])
  have HG3 : Blk w3 w1.heap.size 49 (inC fIn) := (HG2.alloc _).below b3 (by omega)
  have B3 : Below w.heap.size w w3 := (B2.alloc B2.size _).trans (b3.mono B2.size)
  have I3 : InIn w3 (some ⟨w1.heap.size, 0, none⟩) [fIn] := Or.inr ⟨_, _, rfl, HG3.lt, fun j hj => by
    have hj0 : j = 0 := by simpa using hj
    subst hj0
    intro k c hc
    simp only [Nat.zero_mul, Nat.zero_add]
    exact HG3.cv k c hc⟩
  clear HG2 HG3 B1 B2 b3 g3
  generalize (w1.alloc (.cells (inC fIn) 49)).heap.size = V at *
  generalize w1.heap.size = G at *
  clear e2
  go_wp2_with (refine load_blk (k := 0) 34 (msC fMs (.slice (some ⟨G, 0, none⟩) 1 1)) (by rfl) rfl rfl HV3 (by kernel_rfl) (by kernel_rfl) rfl ?_)
  refine (HWr.out _ _ _ I3).mono ?_
  rintro e w4 ⟨rfl, k4⟩
  have HV4 := HV3.kept k4
  have I4 := I3.below k4
  have B4 := B3.trans (k4.mono B3.size)
  clear HV3 I3 B3 k4
  go_wp2_with fail
  refine (HRd.out _).mono ?_
  rintro e w5 ⟨⟨a5, c5, rfl, J5⟩, k5⟩
  have HV5 := HV4.kept k5
  have I5 := I4.below k5
  have B5 := B4.trans (k5.mono B4.size)
  have hV5 := HV5.lt
  clear HV4 I4 B4 k5
  go_upto_region 4 with (first
    | (refine alloc_blk 34 (msC zMs (.slice none 0 0)) (by rfl) rfl Tryz.msZero ?_)
    | (refine store_blk (k := 0) 34 (.agg (msC fMs (.slice a5 [fIn].length c5))) (msC fMs (.slice a5 [fIn].length c5)) (by rfl) rfl rfl rfl (Blk.new w5 _ _) (by kernel_rfl) (show (45 : Nat) ≤ 45 from Nat.le_refl 45) (by rfl) (st_whole _ _ rfl) ?_; intro w6 HN6 b6 g6))
  (try simp only [Act.put, List.setIfInBounds_toArray, List.set_cons_zero, List.set_cons_succ])
  have b56 : Below w5.heap.size w5 w6 := ((Below.refl _ _).alloc (Nat.le_refl _) _).trans b6
  have HV6 := HV5.kept b56
  have I6 := I5.below b56
  have J6 := J5.below b56
  have B6 := B5.trans (b56.mono B5.size)
  clear HV5 I5 J5 B5 b6 g6 b56 hV5
  generalize w5.heap.size = U at *
  go_wp2_with (first
    | (refine load_blk (k := 0) 34 (msC fMs (.slice (some ⟨G, 0, none⟩) 1 1)) (by rfl) rfl rfl HV6 (by kernel_rfl) (by kernel_rfl) rfl ?_)
    | (refine load_blk (k := 0) 34 (msC fMs (.slice a5 [fIn].length c5)) (by rfl) rfl rfl HN6 (by kernel_rfl) (by kernel_rfl) rfl ?_))
  refine (HSm.out _ _ _ _ _ I6 J6).mono ?_
  rintro e w7 ⟨rfl, k7⟩
  have HV7 := HV6.kept k7
  have I7 := I6.below k7
  have B7 := B6.trans (k7.mono B6.size)
  go_wp2_with (refine load_blk (k := 0) 34 (msC fMs (.slice (some ⟨G, 0, none⟩) 1 1)) (by rfl) rfl rfl HV7 (by kernel_rfl) (by kernel_rfl) rfl ?_)
  refine (HRi.out _ _ _ I7).mono ?_
  rintro e w8 ⟨rfl, k8⟩
  go_wp2
  go_ret
  exact ⟨rfl, B7.trans (k8.mono B7.size)⟩

end Go.Proofs.YtdjljnpbnhampaaGreatDoor

namespace Go.Proofs.YtdjljnpbnhampaaGreatDoor
open Go.RowKit Go.Extern.Stop Go.Stop Go.Extern

/-! Closed facts on the entries for internal/reflectlite at this program's types. -/

theorem Tryz.rlValueOfPE (t : Addr) (w : World) : (ReflectliteValue.unpack (.iface 70 (.pointer (some t)))).run Tryz.prog w
    = .ok (.agg #[.pointer (some ⟨4, 70, none⟩), .pointer (some ⟨w.heap.size, 0, none⟩), .int .u64 150]) (w.alloc (.cells #[.pointer (some t)] 70)) := by kernel_rfl

theorem Tryz.rlTypePE (a : Addr) (w : World) : (ReflectliteValue.methodAny (ReflectliteValue.valueError "reflectlite.Value.Type" 0) (fun t _ _ _ => ReflectliteType.toType t) #[.agg #[.pointer (some ⟨4, 70, none⟩), .pointer (some a), .int .u64 150]]).run Tryz.prog w
    = .ok (.iface 137 (.agg #[.pointer (some ⟨4, 70, none⟩)])) w := by kernel_rfl

theorem Tryz.rlMethodKind (h : Value) (w : World) : (Go.method 289 137 (.agg #[h]) "Kind").run Tryz.prog w = .ok (106, h) w := by kernel_rfl

theorem Tryz.rlKindPE (w : World) : ((ReflectliteType.abiMethod fun t => (fun a : Nat => Value.int IntKind.u8 (a : Int)) <$> Rtype.kind t) #[.pointer (some ⟨4, 70, none⟩)]).run Tryz.prog w = .ok (.int .u8 22) w := by kernel_rfl

theorem Tryz.rlKindE (w : World) : ((ReflectliteType.abiMethod fun t => (fun a : Nat => Value.int IntKind.u8 (a : Int)) <$> Rtype.kind t) #[.pointer (some ⟨4, 41, none⟩)]).run Tryz.prog w = .ok (.int .u8 2) w := by kernel_rfl

theorem Tryz.rlPartsPE (a : Addr) (w : World) : (ReflectliteValue.parts (.agg #[.pointer (some ⟨4, 70, none⟩), .pointer (some a), .int .u64 150])).run Tryz.prog w = .ok (some (70, a, 150)) w := by kernel_rfl

theorem Tryz.rlIsNilPE (a p : Addr) (W : World) (ha : W.cell? a = some (.pointer (some p))) :
    (ReflectliteValue.method (ReflectliteValue.valueError "reflectlite.Value.IsNil" 0) ReflectliteValue.isNil #[.agg #[.pointer (some ⟨4, 70, none⟩), .pointer (some a), .int .u64 150]]).run Tryz.prog W = .ok (.bool false) W := by
  change Sem.run _ (ReflectliteValue.parts (.agg #[.pointer (some ⟨4, 70, none⟩), .pointer (some a), .int .u64 150]) >>= _) _ = _
  simp only [Sem.run_bind, Tryz.rlPartsPE, Result.andThen]
  simp [ReflectliteValue.isNil, loadVar, isAgg, underlying, Tryz.underlying70, ha, Result.andThen]

theorem Tryz.rlMethodElem (h : Value) (w : World) : (Go.method 289 137 (.agg #[h]) "Elem").run Tryz.prog w = .ok (119, .agg #[h]) w := by kernel_rfl

theorem Tryz.rlMethodImplements (h : Value) (w : World) : (Go.method 289 137 (.agg #[h]) "Implements").run Tryz.prog w = .ok (120, .agg #[h]) w := by kernel_rfl

theorem Tryz.rlMethodAssignableTo (h : Value) (w : World) : (Go.method 289 137 (.agg #[h]) "AssignableTo").run Tryz.prog w = .ok (117, .agg #[h]) w := by kernel_rfl

theorem Tryz.rlElemPE (w : World) : (ReflectliteType.method ReflectliteType.elem #[.agg #[.pointer (some ⟨4, 70, none⟩)]]).run Tryz.prog w = .ok (.iface 137 (.agg #[.pointer (some ⟨4, 41, none⟩)])) w := by kernel_rfl

theorem Tryz.rlImplementsE (w : World) : (ReflectliteType.relation "Implements" ReflectliteType.implements_ #[.agg #[.pointer (some ⟨4, 41, none⟩)], .iface 137 (.agg #[.pointer (some ⟨4, 37, none⟩)])]).run Tryz.prog w = .ok (.bool true) w := by kernel_rfl

theorem Tryz.rlTypeOfE (v : Value) (w : World) : (ReflectliteType.typeOf #[.iface 41 v]).run Tryz.prog w = .ok (.iface 137 (.agg #[.pointer (some ⟨4, 41, none⟩)])) w := by kernel_rfl

theorem Tryz.rlTypeOfA (v : Value) (w : World) : (ReflectliteType.typeOf #[.iface 112 v]).run Tryz.prog w = .ok (.iface 137 (.agg #[.pointer (some ⟨4, 112, none⟩)])) w := by kernel_rfl

theorem Tryz.rlAssignableEE (w : World) : (ReflectliteType.relation "AssignableTo" ReflectliteType.assignableTo #[.agg #[.pointer (some ⟨4, 41, none⟩)], .iface 137 (.agg #[.pointer (some ⟨4, 41, none⟩)])]).run Tryz.prog w = .ok (.bool true) w := by kernel_rfl

theorem Tryz.rlAssignableAE (w : World) : (ReflectliteType.relation "AssignableTo" ReflectliteType.assignableTo #[.agg #[.pointer (some ⟨4, 112, none⟩)], .iface 137 (.agg #[.pointer (some ⟨4, 41, none⟩)])]).run Tryz.prog w = .ok (.bool false) w := by kernel_rfl

theorem Tryz.rlValueOfE (x : Int) (w : World) : (ReflectliteValue.unpack (.iface 41 (.int .i64 x))).run Tryz.prog w
    = .ok (.agg #[.pointer (some ⟨4, 41, none⟩), .pointer (some ⟨w.heap.size, 0, none⟩), .int .u64 130]) (w.alloc (.cells #[.int .i64 x] 41)) := by kernel_rfl

theorem Tryz.rlElemOfPE (w : World) : (Rtype.elem? 70).run Tryz.prog w = .ok (some 41) w := by kernel_rfl

theorem Tryz.rlMkE (p : Addr) (w : World) : (ReflectliteValue.mk 41 p ReflectliteValue.flagAddr).run Tryz.prog w = .ok (.agg #[.pointer (some ⟨4, 41, none⟩), .pointer (some p), .int .u64 386]) w := by kernel_rfl

theorem Tryz.rlElemVPE (a p : Addr) (W : World) (ha : W.cell? a = some (.pointer (some p))) :
    (ReflectliteValue.method (ReflectliteValue.valueError "reflectlite.Value.Elem" 0) ReflectliteValue.elem #[.agg #[.pointer (some ⟨4, 70, none⟩), .pointer (some a), .int .u64 150]]).run Tryz.prog W
      = .ok (.agg #[.pointer (some ⟨4, 41, none⟩), .pointer (some p), .int .u64 386]) W := by
  change Sem.run _ (ReflectliteValue.parts (.agg #[.pointer (some ⟨4, 70, none⟩), .pointer (some a), .int .u64 150]) >>= _) _ = _
  simp only [Sem.run_bind, Tryz.rlPartsPE, Result.andThen]
  simp [ReflectliteValue.elem, loadVar, isAgg, underlying, Tryz.underlying70, ha, Result.andThen, Tryz.rlElemOfPE, Tryz.rlMkE]

theorem Tryz.rlPartsEa (a : Addr) (w : World) : (ReflectliteValue.parts (.agg #[.pointer (some ⟨4, 41, none⟩), .pointer (some a), .int .u64 386])).run Tryz.prog w = .ok (some (41, a, 386)) w := by kernel_rfl

theorem Tryz.rlPartsE (a : Addr) (w : World) : (ReflectliteValue.parts (.agg #[.pointer (some ⟨4, 41, none⟩), .pointer (some a), .int .u64 130])).run Tryz.prog w = .ok (some (41, a, 130)) w := by kernel_rfl

theorem Tryz.rlDirectE (w : World) : (Rtype.directlyAssignable 41 41).run Tryz.prog w = .ok true w := by kernel_rfl

theorem Tryz.rlSizeE (w : World) : (sizeOf 41).run Tryz.prog w = .ok 1 w := by kernel_rfl

theorem Tryz.rlSetE (ta b : Addr) (x : Int) (old : Value) (W : World) (hb : W.cell? b = some (.int .i64 x)) (ht : W.cell? ta = some old) (hf : W.frozen? ta = false) :
    (ReflectliteValue.set #[.agg #[.pointer (some ⟨4, 41, none⟩), .pointer (some ta), .int .u64 386], .agg #[.pointer (some ⟨4, 41, none⟩), .pointer (some b), .int .u64 130]]).run Tryz.prog W
      = .ok (.tuple #[]) (W.setCell ta (.int .i64 x)) := by
  change Sem.run _ (ReflectliteValue.parts (.agg #[.pointer (some ⟨4, 41, none⟩), .pointer (some ta), .int .u64 386]) >>= fun _ => ReflectliteValue.parts (.agg #[.pointer (some ⟨4, 41, none⟩), .pointer (some b), .int .u64 130]) >>= _) _ = _
  simp only [Sem.run_bind, Tryz.rlPartsEa, Tryz.rlPartsE, Result.andThen]
  simp [ReflectliteValue.flagAddr, loadVar, isAgg, underlying, Tryz.underlying41, hb, Result.andThen, Tryz.rlDirectE, storeVar, Value.cells, storeCells, Addr.add]
  rw [run_store Tryz.prog W ta _ _ (by rfl)]
  simp [ht, hf]

end Go.Proofs.YtdjljnpbnhampaaGreatDoor

namespace Go.Proofs.YtdjljnpbnhampaaGreatDoor
open Go.RowKit Go.Extern.Stop Go.Stop Go.Extern

/-- The variable errors.errorType holds the type error's handle. -/
def HasErr (w : World) : Prop := w.cell? ⟨0, 0, none⟩ = some (.iface 137 (.agg #[.pointer (some ⟨4, 37, none⟩)]))

theorem HasErr.lt {w : World} (h : HasErr w) : 0 < w.heap.size := by
  rcases Nat.lt_or_ge 0 w.heap.size with h' | h'
  · exact h'
  · have : w.cell? ⟨0, 0, none⟩ = none := by simp [World.cell?, Array.getElem?_eq_none h']
    unfold HasErr at h
    rw [this] at h
    cases h

theorem HasErr.alloc {w : World} (h : HasErr w) (o : Obj) : HasErr (w.alloc o) := (World.cell?_alloc_lt _ _ _ h.lt).trans h

theorem HasErr.below {w w' : World} (h : HasErr w) (hb : Below w.heap.size w w') : HasErr w' := (hb.cell (p := ⟨0, 0, none⟩) h.lt).trans h

theorem as_nil (t : Value) (w : World) :
    Calls Tryz.prog 26 #[.nilIface, t] w fun e w' => e = .returned (.bool false) ∧ w' = w := by
  go_enter Tryz.func26, Tryz.ntmps26
  go_wp2
  go_ret
  exact ⟨rfl, rfl⟩

set_option maxHeartbeats 4000000 in
/-- errors.As, the error is an Errno: it is found. -/
theorem as_errno (x : Int) (t : Addr) (old : Value) (w : World) (hg : HasErr w) (ht0 : w.cell? t = some old) (hf0 : w.frozen? t = false) :
    Calls Tryz.prog 26 #[.iface 41 (.int .i64 x), .iface 70 (.pointer (some t))] w fun ev w' => ev = .returned (.bool true) ∧ ∃ w1, Below w.heap.size w w1 ∧ w' = w1.setCell t (.int .i64 x) := by
  have hVO := @run_callFunc_extern Tryz.prog 53 _ (fun args => ReflectliteValue.unpack (args.getD 0 (.tuple #[]))) Tryz.func53 (by kernel_rfl) (by kernel_rfl) (by kernel_rfl) (by kernel_rfl)
  have hTy := @run_callFunc_extern Tryz.prog 54 _ (ReflectliteValue.methodAny (ReflectliteValue.valueError "reflectlite.Value.Type" 0) (fun t _ _ _ => ReflectliteType.toType t)) Tryz.func54 (by kernel_rfl) (by kernel_rfl) (by kernel_rfl) (by kernel_rfl)
  have hIN := @run_callFunc_extern Tryz.prog 55 _ (ReflectliteValue.method (ReflectliteValue.valueError "reflectlite.Value.IsNil" 0) ReflectliteValue.isNil) Tryz.func55 (by kernel_rfl) (by kernel_rfl) (by kernel_rfl) (by kernel_rfl)
  have hKi := @run_callFunc_extern Tryz.prog 106 _ (ReflectliteType.abiMethod fun t => do pure (.int .u8 (← Rtype.kind t))) Tryz.func106 (by kernel_rfl) (by kernel_rfl) (by kernel_rfl) (by kernel_rfl)
  have hEl := @run_callFunc_extern Tryz.prog 119 _ (ReflectliteType.method ReflectliteType.elem) Tryz.func119 (by kernel_rfl) (by kernel_rfl) (by kernel_rfl) (by kernel_rfl)
  have hIm := @run_callFunc_extern Tryz.prog 120 _ (ReflectliteType.relation "Implements" ReflectliteType.implements_) Tryz.func120 (by kernel_rfl) (by kernel_rfl) (by kernel_rfl) (by kernel_rfl)
  have hTO := @run_callFunc_extern Tryz.prog 73 _ ReflectliteType.typeOf Tryz.func73 (by kernel_rfl) (by kernel_rfl) (by kernel_rfl) (by kernel_rfl)
  have hAT := @run_callFunc_extern Tryz.prog 117 _ (ReflectliteType.relation "AssignableTo" ReflectliteType.assignableTo) Tryz.func117 (by kernel_rfl) (by kernel_rfl) (by kernel_rfl) (by kernel_rfl)
  have hEV := @run_callFunc_extern Tryz.prog 74 _ (ReflectliteValue.method (ReflectliteValue.valueError "reflectlite.Value.Elem" 0) ReflectliteValue.elem) Tryz.func74 (by kernel_rfl) (by kernel_rfl) (by kernel_rfl) (by kernel_rfl)
  have hSe := @run_callFunc_extern Tryz.prog 75 _ ReflectliteValue.set Tryz.func75 (by kernel_rfl) (by kernel_rfl) (by kernel_rfl) (by kernel_rfl)
  have q1 := Tryz.rlValueOfPE
  have q2 := Tryz.rlTypePE
  have q3 := Tryz.rlMethodKind
  have q4 := Tryz.rlKindPE
  have q5 := Tryz.rlKindE
  have q6 := Tryz.rlMethodElem
  have q7 := Tryz.rlMethodImplements
  have q8 := Tryz.rlMethodAssignableTo
  have q9 := Tryz.rlElemPE
  have q10 := Tryz.rlImplementsE
  have q11 := Tryz.rlTypeOfE
  have q12 := Tryz.rlAssignableEE
  have q13 := Tryz.rlValueOfE
  have n8 := Tryz.rlIsNilPE ⟨w.heap.size, 0, none⟩ t ((w.alloc (.cells #[.pointer (some t)] 70)).alloc (.cells #[.pointer (some ⟨4, 70, none⟩), .pointer (some ⟨w.heap.size, 0, none⟩), .int .u64 150] 103)) (by simp)
  have hg2 : ((w.alloc (.cells #[.pointer (some t)] 70)).alloc (.cells #[.pointer (some ⟨4, 70, none⟩), .pointer (some ⟨w.heap.size, 0, none⟩), .int .u64 150] 103)).cell? ⟨0, 0, none⟩ = some (.iface 137 (.agg #[.pointer (some ⟨4, 37, none⟩)])) := (hg.alloc _).alloc _
  have htl : t.block < w.heap.size := by
    rcases Nat.lt_or_ge t.block w.heap.size with h | h
    · exact h
    · simp [World.cell?, Array.getElem?_eq_none h] at ht0
  have el := Tryz.rlElemVPE ⟨w.heap.size, 0, none⟩ t (((w.alloc (.cells #[.pointer (some t)] 70)).alloc (.cells #[.pointer (some ⟨4, 70, none⟩), .pointer (some ⟨w.heap.size, 0, none⟩), .int .u64 150] 103)).alloc (.cells #[.pointer (some ⟨4, 70, none⟩), .pointer (some ⟨w.heap.size, 0, none⟩), .int .u64 150] 103)) (by rw [World.cell?_alloc_lt _ _ ⟨w.heap.size, 0, none⟩ (by simp; omega)]; simp)
  have st := Tryz.rlSetE t ⟨w.heap.size + 1 + 1 + 1, 0, none⟩ x old ((((w.alloc (.cells #[.pointer (some t)] 70)).alloc (.cells #[.pointer (some ⟨4, 70, none⟩), .pointer (some ⟨w.heap.size, 0, none⟩), .int .u64 150] 103)).alloc (.cells #[.pointer (some ⟨4, 70, none⟩), .pointer (some ⟨w.heap.size, 0, none⟩), .int .u64 150] 103)).alloc (.cells #[.int .i64 x] 41))
    (by rw [World.cell?_alloc_at _ _ _ _ (by simp)]; rfl)
    (by rw [World.cell?_alloc_lt _ _ t (by simp; omega), World.cell?_alloc_lt _ _ t (by simp; omega), World.cell?_alloc_lt _ _ t (by simp; omega), World.cell?_alloc_lt _ _ t htl]; exact ht0)
    (by rw [World.frozen?_alloc_old _ _ t (by simp; omega), World.frozen?_alloc_old _ _ t (by simp; omega), World.frozen?_alloc_old _ _ t (by simp; omega), World.frozen?_alloc_old _ _ t (Nat.ne_of_lt htl)]; exact hf0)
  have hB : Below w.heap.size w ((((w.alloc (.cells #[.pointer (some t)] 70)).alloc (.cells #[.pointer (some ⟨4, 70, none⟩), .pointer (some ⟨w.heap.size, 0, none⟩), .int .u64 150] 103)).alloc (.cells #[.pointer (some ⟨4, 70, none⟩), .pointer (some ⟨w.heap.size, 0, none⟩), .int .u64 150] 103)).alloc (.cells #[.int .i64 x] 41)) := ((((Below.refl _ _).alloc (Nat.le_refl _) _).alloc (by simp) _).alloc (by simp; omega) _).alloc (by simp; omega) _
  have HB := Lib.hid hB
  clear hB
  go_enter Tryz.func26, Tryz.ntmps26
  go_wp2
  refine wp_loop_rounds 1 ?_
  rw [rounds_succ]
  go_wp2
  go_ret
  exact ⟨rfl, _, HB.out, rfl⟩
/-! What is asked of an *api.At: it has no As, it has an Unwrap. -/

theorem Tryz.noAsA (v : Value) (xT : TypeId) (w : World) : (Instr.typeAssert (.iface 112 v) xT 142 true).run Tryz.prog w = .ok (.tuple #[.nilIface, .bool false]) w :=
  run_typeAssert_lacksB Tryz.underlying142 (by kernel_rfl) (by kernel_rfl) v xT w

theorem Tryz.hasUnwrapA (v : Value) (xT : TypeId) (w : World) : (Instr.typeAssert (.iface 112 v) xT 145 true).run Tryz.prog w = .ok (.tuple #[.iface 112 v, .bool true]) w :=
  run_typeAssert_hasB Tryz.underlying145 (by kernel_rfl) v xT w

theorem Tryz.methodUnwrapA (a : Addr) (w : World) : (Go.method 289 112 (.pointer (some a)) "Unwrap").run Tryz.prog w = .ok (115, .pointer (some a)) w := by kernel_rfl

theorem Tryz.nilAheadA (a : Addr) (w : World) : (Go.nilAhead 289 112 (.pointer (some a)) "Unwrap").run Tryz.prog w = .ok (some false) w := by kernel_rfl

set_option maxHeartbeats 4000000 in
/-- errors.As, the error is an *api.At: its Unwrap is asked, and is an Errno. -/
theorem as_at (p : Nat) (x y : Int) (t : Addr) (old : Value) (w : World) (hp : Flt w p x y) (hg : HasErr w) (ht0 : w.cell? t = some old) (hf0 : w.frozen? t = false) :
    Calls Tryz.prog 26 #[.iface 112 (.pointer (some ⟨p, 0, none⟩)), .iface 70 (.pointer (some t))] w fun ev w' => ev = .returned (.bool true) ∧ ∃ w1, Below w.heap.size w w1 ∧ w' = w1.setCell t (.int .i64 x) := by
  have hVO := @run_callFunc_extern Tryz.prog 53 _ (fun args => ReflectliteValue.unpack (args.getD 0 (.tuple #[]))) Tryz.func53 (by kernel_rfl) (by kernel_rfl) (by kernel_rfl) (by kernel_rfl)
  have hTy := @run_callFunc_extern Tryz.prog 54 _ (ReflectliteValue.methodAny (ReflectliteValue.valueError "reflectlite.Value.Type" 0) (fun t _ _ _ => ReflectliteType.toType t)) Tryz.func54 (by kernel_rfl) (by kernel_rfl) (by kernel_rfl) (by kernel_rfl)
  have hIN := @run_callFunc_extern Tryz.prog 55 _ (ReflectliteValue.method (ReflectliteValue.valueError "reflectlite.Value.IsNil" 0) ReflectliteValue.isNil) Tryz.func55 (by kernel_rfl) (by kernel_rfl) (by kernel_rfl) (by kernel_rfl)
  have hKi := @run_callFunc_extern Tryz.prog 106 _ (ReflectliteType.abiMethod fun t => do pure (.int .u8 (← Rtype.kind t))) Tryz.func106 (by kernel_rfl) (by kernel_rfl) (by kernel_rfl) (by kernel_rfl)
  have hEl := @run_callFunc_extern Tryz.prog 119 _ (ReflectliteType.method ReflectliteType.elem) Tryz.func119 (by kernel_rfl) (by kernel_rfl) (by kernel_rfl) (by kernel_rfl)
  have hIm := @run_callFunc_extern Tryz.prog 120 _ (ReflectliteType.relation "Implements" ReflectliteType.implements_) Tryz.func120 (by kernel_rfl) (by kernel_rfl) (by kernel_rfl) (by kernel_rfl)
  have hTO := @run_callFunc_extern Tryz.prog 73 _ ReflectliteType.typeOf Tryz.func73 (by kernel_rfl) (by kernel_rfl) (by kernel_rfl) (by kernel_rfl)
  have hAT := @run_callFunc_extern Tryz.prog 117 _ (ReflectliteType.relation "AssignableTo" ReflectliteType.assignableTo) Tryz.func117 (by kernel_rfl) (by kernel_rfl) (by kernel_rfl) (by kernel_rfl)
  have hEV := @run_callFunc_extern Tryz.prog 74 _ (ReflectliteValue.method (ReflectliteValue.valueError "reflectlite.Value.Elem" 0) ReflectliteValue.elem) Tryz.func74 (by kernel_rfl) (by kernel_rfl) (by kernel_rfl) (by kernel_rfl)
  have hSe := @run_callFunc_extern Tryz.prog 75 _ ReflectliteValue.set Tryz.func75 (by kernel_rfl) (by kernel_rfl) (by kernel_rfl) (by kernel_rfl)
  have q1 := Tryz.rlValueOfPE
  have q2 := Tryz.rlTypePE
  have q3 := Tryz.rlMethodKind
  have q4 := Tryz.rlKindPE
  have q5 := Tryz.rlKindE
  have q6 := Tryz.rlMethodElem
  have q7 := Tryz.rlMethodImplements
  have q8 := Tryz.rlMethodAssignableTo
  have q9 := Tryz.rlElemPE
  have q10 := Tryz.rlImplementsE
  have q11 := Tryz.rlTypeOfE
  have q12 := Tryz.rlAssignableEE
  have q13 := Tryz.rlValueOfE
  have q14 := Tryz.rlTypeOfA
  have q15 := Tryz.rlAssignableAE
  have q16 := Tryz.noAsA
  have q17 := Tryz.hasUnwrapA
  have q18 := Tryz.methodUnwrapA
  have q19 := Tryz.nilAheadA
  have n8 := Tryz.rlIsNilPE ⟨w.heap.size, 0, none⟩ t ((w.alloc (.cells #[.pointer (some t)] 70)).alloc (.cells #[.pointer (some ⟨4, 70, none⟩), .pointer (some ⟨w.heap.size, 0, none⟩), .int .u64 150] 103)) (by simp)
  have hg2 : ((w.alloc (.cells #[.pointer (some t)] 70)).alloc (.cells #[.pointer (some ⟨4, 70, none⟩), .pointer (some ⟨w.heap.size, 0, none⟩), .int .u64 150] 103)).cell? ⟨0, 0, none⟩ = some (.iface 137 (.agg #[.pointer (some ⟨4, 37, none⟩)])) := (hg.alloc _).alloc _
  have htl : t.block < w.heap.size := by
    rcases Nat.lt_or_ge t.block w.heap.size with h | h
    · exact h
    · simp [World.cell?, Array.getElem?_eq_none h] at ht0
  have el := Tryz.rlElemVPE ⟨w.heap.size, 0, none⟩ t (((w.alloc (.cells #[.pointer (some t)] 70)).alloc (.cells #[.pointer (some ⟨4, 70, none⟩), .pointer (some ⟨w.heap.size, 0, none⟩), .int .u64 150] 103)).alloc (.cells #[.pointer (some ⟨4, 70, none⟩), .pointer (some ⟨w.heap.size, 0, none⟩), .int .u64 150] 103)) (by rw [World.cell?_alloc_lt _ _ ⟨w.heap.size, 0, none⟩ (by simp; omega)]; simp)
  have st := Tryz.rlSetE t ⟨w.heap.size + 1 + 1 + 1, 0, none⟩ x old ((((w.alloc (.cells #[.pointer (some t)] 70)).alloc (.cells #[.pointer (some ⟨4, 70, none⟩), .pointer (some ⟨w.heap.size, 0, none⟩), .int .u64 150] 103)).alloc (.cells #[.pointer (some ⟨4, 70, none⟩), .pointer (some ⟨w.heap.size, 0, none⟩), .int .u64 150] 103)).alloc (.cells #[.int .i64 x] 41))
    (by rw [World.cell?_alloc_at _ _ _ _ (by simp)]; rfl)
    (by rw [World.cell?_alloc_lt _ _ t (by simp; omega), World.cell?_alloc_lt _ _ t (by simp; omega), World.cell?_alloc_lt _ _ t (by simp; omega), World.cell?_alloc_lt _ _ t htl]; exact ht0)
    (by rw [World.frozen?_alloc_old _ _ t (by simp; omega), World.frozen?_alloc_old _ _ t (by simp; omega), World.frozen?_alloc_old _ _ t (by simp; omega), World.frozen?_alloc_old _ _ t (Nat.ne_of_lt htl)]; exact hf0)
  have hB : Below w.heap.size w ((((w.alloc (.cells #[.pointer (some t)] 70)).alloc (.cells #[.pointer (some ⟨4, 70, none⟩), .pointer (some ⟨w.heap.size, 0, none⟩), .int .u64 150] 103)).alloc (.cells #[.pointer (some ⟨4, 70, none⟩), .pointer (some ⟨w.heap.size, 0, none⟩), .int .u64 150] 103)).alloc (.cells #[.int .i64 x] 41)) := ((((Below.refl _ _).alloc (Nat.le_refl _) _).alloc (by simp) _).alloc (by simp; omega) _).alloc (by simp; omega) _
  have hc0 : (((w.alloc (.cells #[.pointer (some t)] 70)).alloc (.cells #[.pointer (some ⟨4, 70, none⟩), .pointer (some ⟨w.heap.size, 0, none⟩), .int .u64 150] 103)).alloc (.cells #[.pointer (some ⟨4, 70, none⟩), .pointer (some ⟨w.heap.size, 0, none⟩), .int .u64 150] 103)).cell? ⟨p, 0, none⟩ = some (.int .i64 x) := (((hp.alloc _).alloc _).alloc _).c0
  have HB := Lib.hid hB
  clear hB
  go_enter Tryz.func26, Tryz.ntmps26
  go_wp2
  refine wp_loop_rounds 2 ?_
  rw [rounds_succ]
  go_wp2
  rw [rounds_succ]
  go_wp2
  go_ret
  exact ⟨rfl, _, HB.out, rfl⟩

end Go.Proofs.YtdjljnpbnhampaaGreatDoor

namespace Go.Proofs.YtdjljnpbnhampaaGreatDoor
open Go.RowKit Go.Extern.Stop Go.Stop Go.Extern

/-- What errors.As leaves: the target holds the Errno; nothing else that was there is changed. -/
theorem as_left {t : Addr} {x : Int} {old : Value} {w w1 : World} (hb : Below w.heap.size w w1) (ht : w.cell? t = some old) :
    (w1.setCell t (.int .i64 x)).cell? t = some (.int .i64 x) ∧ w.grownBy (w1.setCell t (.int .i64 x)) (some t.block) := by
  have hlt : t.block < w.heap.size := World.block_lt_of_cell? w t ht
  have hc : w1.cell? t = some old := (hb.cell hlt).trans ht
  refine ⟨World.cell?_setCell_same' w1 t _ (by rw [hc]; rfl), hb.os, hb.tape, hb.output, by simpa [World.setCell] using hb.size, fun k hk hne => ?_⟩
  exact (Below.heap_setCell _ _ _ _ (by intro e; exact hne (by rw [e]))).trans (hb.block k hk)

theorem tell_nil (w : World) : Calls Tryz.prog 7 #[.nilIface] w fun e w' => e = .returned (.int .i64 0) ∧ w = w' := by
  go_enter Tryz.func7, Tryz.ntmps7
  go_wp2
  go_ret
  exact ⟨rfl, rfl⟩

theorem tell_errno (x : Int) (w : World) (hg : HasErr w) : Calls Tryz.prog 7 #[.iface 41 (.int .i64 x)] w fun e w' => e = .returned (.int .i64 x) ∧ Below w.heap.size w w' := by
  go_enter Tryz.func7, Tryz.ntmps7
  go_wp2_with fail
  have hc : (w.alloc (.cells #[.int .i64 0] 41)).cell? ⟨w.heap.size, 0, none⟩ = some (.int .i64 0) := by simp
  refine (as_errno x ⟨w.heap.size, 0, none⟩ (.int .i64 0) _ (hg.alloc _) hc (by simp)).mono ?_
  rintro e w' ⟨rfl, w1, hb1, rfl⟩
  obtain ⟨h1, h2⟩ := as_left (x := x) hb1 hc
  have hB : Below w.heap.size w (w1.setCell ⟨w.heap.size, 0, none⟩ (.int .i64 x)) := ((Below.refl _ _).alloc (Nat.le_refl _) _).grown h2 (by simp) (fun k e => by cases e; exact Nat.le_refl _)
  clear hb1 h2 hc
  generalize w1.setCell ⟨w.heap.size, 0, none⟩ (.int .i64 x) = w2 at *
  go_wp2
  go_ret
  exact ⟨rfl, hB⟩

theorem tell_at (p : Nat) (x y : Int) (w : World) (hg : HasErr w) (hp : Flt w p x y) : Calls Tryz.prog 7 #[.iface 112 (.pointer (some ⟨p, 0, none⟩))] w fun e w' => e = .returned (.int .i64 x) ∧ Below w.heap.size w w' := by
  go_enter Tryz.func7, Tryz.ntmps7
  go_wp2_with fail
  have hc : (w.alloc (.cells #[.int .i64 0] 41)).cell? ⟨w.heap.size, 0, none⟩ = some (.int .i64 0) := by simp
  refine (as_at p x y ⟨w.heap.size, 0, none⟩ (.int .i64 0) _ (hp.alloc _) (hg.alloc _) hc (by simp)).mono ?_
  rintro e w' ⟨rfl, w1, hb1, rfl⟩
  obtain ⟨h1, h2⟩ := as_left (x := x) hb1 hc
  have hB : Below w.heap.size w (w1.setCell ⟨w.heap.size, 0, none⟩ (.int .i64 x)) := ((Below.refl _ _).alloc (Nat.le_refl _) _).grown h2 (by simp) (fun k e => by cases e; exact Nat.le_refl _)
  clear hb1 h2 hc
  generalize w1.setCell ⟨w.heap.size, 0, none⟩ (.int .i64 x) = w2 at *
  go_wp2
  go_ret
  exact ⟨rfl, hB⟩

theorem Tryz.noUnwrapE (v : Value) (xT : TypeId) (w : World) : (Instr.typeAssert (.iface 41 v) xT 145 true).run Tryz.prog w = .ok (.tuple #[.nilIface, .bool false]) w :=
  run_typeAssert_lacksB Tryz.underlying145 (by kernel_rfl) (by kernel_rfl) v xT w

theorem Tryz.noAtE (v : Value) (w : World) : (Instr.typeAssert (.iface 41 v) 37 112 true).run Tryz.prog w = .ok (.tuple #[.pointer none, .bool false]) w := by kernel_rfl

theorem Tryz.isAtA (v : Value) (w : World) : (Instr.typeAssert (.iface 112 v) 37 112 true).run Tryz.prog w = .ok (.tuple #[v, .bool true]) w := by kernel_rfl







end Go.Proofs.YtdjljnpbnhampaaGreatDoor

namespace Go.Proofs.YtdjljnpbnhampaaGreatDoor
open Go.ChangeShapes Go.WideShapes Go.ChangeAt Go.RowKit Go.Deep Go.Joins
set_option linter.unusedVariables false

theorem nat_u8f {z : Int} (h : (Lit.int .u8 z).wf = true) : ∃ n : Nat, z = n ∧ n < 256 := by
  have := bounds_u8 h
  exact ⟨z.toNat, by omega, by omega⟩

set_option maxRecDepth 100000 in
theorem six_trod {H : Type} {enc : TypeId × Value → H} {W : World} {base fuel : Nat} {sp : Nat → Bool} {held : Bool} {c0 c1 c2 c3 c4 c5 : Value} {y : DataW H × List MemPlace}
    (h : DataW.trod enc Tryz.prog W base sp held fuel 25 [c0, c1, c2, c3, c4, c5] = some y) :
    ∃ x : Nat → Nat, (∀ i, x i < 256) ∧ c0 = .int .u8 (x 0) ∧ c1 = .int .u8 (x 1) ∧ c2 = .int .u8 (x 2) ∧ c3 = .int .u8 (x 3) ∧ c4 = .int .u8 (x 4) ∧ c5 = .int .u8 (x 5) := by
  have hc1 : Tryz.prog.cellsOf 5 = 1 := by kernel_rfl
  obtain ⟨xs, m, _, _, _, hl, hx⟩ := DataW.trod_array Tryz.underlying25 h
  rw [hc1] at hx
  have each : ∀ (i : Nat) (c : Value), i < 6 → ((([c0, c1, c2, c3, c4, c5] : List Value).drop (i * 1)).take 1) = [c] → ∃ n : Nat, c = .int .u8 n ∧ n < 256 := by
    intro i c hi hc
    have h1 := hx i hi
    rw [hc] at h1
    obtain ⟨y, hy⟩ : ∃ y, xs[i]? = some y := ⟨xs[i]'(by omega), List.getElem?_eq_getElem _⟩
    rw [hy] at h1
    obtain ⟨z, e0, _, hw⟩ := DataW.trod_int Tryz.underlying5 h1
    simp only [List.cons.injEq, and_true] at e0
    obtain ⟨n, rfl, hn⟩ := nat_u8f hw
    exact ⟨n, e0, hn⟩
  obtain ⟨n0, rfl, h0⟩ := each 0 c0 (by omega) rfl
  obtain ⟨n1, rfl, h1⟩ := each 1 c1 (by omega) rfl
  obtain ⟨n2, rfl, h2⟩ := each 2 c2 (by omega) rfl
  obtain ⟨n3, rfl, h3⟩ := each 3 c3 (by omega) rfl
  obtain ⟨n4, rfl, h4⟩ := each 4 c4 (by omega) rfl
  obtain ⟨n5, rfl, h5⟩ := each 5 c5 (by omega) rfl
  refine ⟨fun i => if i = 0 then n0 else if i = 1 then n1 else if i = 2 then n2 else if i = 3 then n3 else if i = 4 then n4 else n5, fun i => ?_, rfl, rfl, rfl, rfl, rfl, rfl⟩
  dsimp only
  split
  · exact h0
  split
  · exact h1
  split
  · exact h2
  split
  · exact h3
  split
  · exact h4
  exact h5

theorem list2 {α : Type} (l : List α) (h : l.length = 2) : ∃ c0 c1, l = [c0, c1] := by
  match l, h with
  | [c0, c1], _ => exact ⟨c0, c1, rfl⟩

theorem list3 {α : Type} (l : List α) (h : l.length = 3) : ∃ c0 c1 c2, l = [c0, c1, c2] := by
  match l, h with
  | [c0, c1, c2], _ => exact ⟨c0, c1, c2, rfl⟩

theorem list5 {α : Type} (l : List α) (h : l.length = 5) : ∃ c0 c1 c2 c3 c4, l = [c0, c1, c2, c3, c4] := by
  match l, h with
  | [c0, c1, c2, c3, c4], _ => exact ⟨c0, c1, c2, c3, c4, rfl⟩

theorem list8 {α : Type} (l : List α) (h : l.length = 8) : ∃ c0 c1 c2 c3 c4 c5 c6 c7, l = [c0, c1, c2, c3, c4, c5, c6, c7] := by
  match l, h with
  | [c0, c1, c2, c3, c4, c5, c6, c7], _ => exact ⟨c0, c1, c2, c3, c4, c5, c6, c7, rfl⟩

theorem list21 {α : Type} (l : List α) (h : l.length = 21) : ∃ c0 c1 c2 c3 c4 c5 c6 c7 c8 c9 c10 c11 c12 c13 c14 c15 c16 c17 c18 c19 c20, l = [c0, c1, c2, c3, c4, c5, c6, c7, c8, c9, c10, c11, c12, c13, c14, c15, c16, c17, c18, c19, c20] := by
  match l, h with
  | [c0, c1, c2, c3, c4, c5, c6, c7, c8, c9, c10, c11, c12, c13, c14, c15, c16, c17, c18, c19, c20], _ => exact ⟨c0, c1, c2, c3, c4, c5, c6, c7, c8, c9, c10, c11, c12, c13, c14, c15, c16, c17, c18, c19, c20, rfl⟩

set_option maxRecDepth 100000 in
theorem br_trod {H : Type} {enc : TypeId × Value → H} {W : World} {base fuel : Nat} {sp : Nat → Bool} {held : Bool} {c0 c1 c2 c3 c4 c5 c6 c7 : Value} {y : DataW H × List MemPlace}
    (h : DataW.trod enc Tryz.prog W base sp held fuel 27 [c0, c1, c2, c3, c4, c5, c6, c7] = some y) :
    ∃ b : Br, (∀ i, b.a i < 256) ∧ c0 = .int .i64 b.p ∧ c1 = .int .i64 b.e ∧ c2 = .int .u8 (b.a 0) ∧ c3 = .int .u8 (b.a 1) ∧ c4 = .int .u8 (b.a 2) ∧ c5 = .int .u8 (b.a 3) ∧ c6 = .int .u8 (b.a 4) ∧ c7 = .int .u8 (b.a 5) := by
  have _h1 : Tryz.prog.cellsOf 25 = 6 := by kernel_rfl
  have _h2 : Tryz.prog.cellsOf 3 = 1 := by kernel_rfl
  obtain ⟨xs, n, _, hx, _, hlen, hg⟩ := DataW.trod_struct Tryz.underlying27 h
  obtain ⟨y0, y1, y2, rfl⟩ := list3 xs hlen
  have g0 := hg 0 _ rfl
  have g1 := hg 1 _ rfl
  have g2 := hg 2 _ rfl
  obtain ⟨x0, e0, _, wf0⟩ := DataW.trod_int Tryz.underlying3 g0
  obtain rfl : c0 = .int .i64 x0 := (List.cons.inj (show [c0] = [.int .i64 x0] from e0)).1
  obtain ⟨x1, e1, _, wf1⟩ := DataW.trod_int Tryz.underlying3 g1
  obtain rfl : c1 = .int .i64 x1 := (List.cons.inj (show [c1] = [.int .i64 x1] from e1)).1
  obtain ⟨x2, hx2, rfl, rfl, rfl, rfl, rfl, rfl⟩ := six_trod g2
  exact ⟨⟨x0, x1, x2⟩, hx2, rfl, rfl, rfl, rfl, rfl, rfl, rfl, rfl⟩

set_option maxRecDepth 100000 in
theorem pt_trod {H : Type} {enc : TypeId × Value → H} {W : World} {base fuel : Nat} {sp : Nat → Bool} {held : Bool} {c0 c1 : Value} {y : DataW H × List MemPlace}
    (h : DataW.trod enc Tryz.prog W base sp held fuel 29 [c0, c1] = some y) : ∃ p n : Int, c0 = .int .i64 p ∧ c1 = .int .i64 n := by
  have _h2 : Tryz.prog.cellsOf 3 = 1 := by kernel_rfl
  obtain ⟨xs, n, _, hx, _, hlen, hg⟩ := DataW.trod_struct Tryz.underlying29 h
  obtain ⟨y0, y1, rfl⟩ := list2 xs hlen
  have g0 := hg 0 _ rfl
  have g1 := hg 1 _ rfl
  obtain ⟨x0, e0, _, wf0⟩ := DataW.trod_int Tryz.underlying3 g0
  obtain rfl : c0 = .int .i64 x0 := (List.cons.inj (show [c0] = [.int .i64 x0] from e0)).1
  obtain ⟨x1, e1, _, wf1⟩ := DataW.trod_int Tryz.underlying3 g1
  obtain rfl : c1 = .int .i64 x1 := (List.cons.inj (show [c1] = [.int .i64 x1] from e1)).1
  exact ⟨x0, x1, rfl, rfl⟩



set_option maxRecDepth 100000 in
theorem open_br {H : Type} {enc : TypeId × Value → H} {W : World} {base : Nat} {v : Value} {d : DataW H} {p : List MemPlace} (hval : Value.okWide Tryz.prog W .any base 27 v)
    (h : DataW.Trod enc Tryz.prog W 0 (fun _ => true) true 27 v d p) : ∃ b : Br, (∀ i, b.a i < 256) ∧ v = .agg (brC b) := by
  have hcn : Tryz.prog.cellsOf 27 = 8 := by kernel_rfl
  obtain ⟨cs, rfl, hsz⟩ := okWide_struct Tryz.underlying27 hval
  rw [hcn] at hsz
  obtain ⟨l⟩ := cs
  obtain ⟨c0, c1, c2, c3, c4, c5, c6, c7, rfl⟩ := list8 l hsz
  obtain ⟨fuel, hf⟩ := h
  obtain ⟨b, hb, rfl, rfl, rfl, rfl, rfl, rfl, rfl, rfl⟩ := br_trod (show DataW.trod enc Tryz.prog W 0 (fun _ => true) true fuel 27 [c0, c1, c2, c3, c4, c5, c6, c7] = some _ by simpa [Value.cells] using hf)
  exact ⟨b, hb, rfl⟩

set_option maxRecDepth 100000 in
theorem open_pt {H : Type} {enc : TypeId × Value → H} {W : World} {base : Nat} {v : Value} {d : DataW H} {p : List MemPlace} (hval : Value.okWide Tryz.prog W .any base 29 v)
    (h : DataW.Trod enc Tryz.prog W 0 (fun _ => true) true 29 v d p) : ∃ m n : Int, v = .agg (ptC m n) := by
  have hcn : Tryz.prog.cellsOf 29 = 2 := by kernel_rfl
  obtain ⟨cs, rfl, hsz⟩ := okWide_struct Tryz.underlying29 hval
  rw [hcn] at hsz
  obtain ⟨l⟩ := cs
  obtain ⟨c0, c1, rfl⟩ := list2 l hsz
  obtain ⟨fuel, hf⟩ := h
  obtain ⟨m, n, rfl, rfl⟩ := pt_trod (show DataW.trod enc Tryz.prog W 0 (fun _ => true) true fuel 29 [c0, c1] = some _ by simpa [Value.cells] using hf)
  exact ⟨m, n, rfl⟩




end Go.Proofs.YtdjljnpbnhampaaGreatDoor

