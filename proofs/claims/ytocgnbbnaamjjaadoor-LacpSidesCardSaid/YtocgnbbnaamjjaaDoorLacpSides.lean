/- switchyardkeep.LacpSides returns true at everything that both sides may know, and changes nothing that was there. -/
import Derived.Test.YtocgnbbnaamjjaaDoorLinked
namespace Go.Proofs.YtocgnbbnaamjjaaDoor.lacpSides
open Go.RowKit
attribute [local go_sem ↓] Go.wp_at_zero Go.wp_at_succ
set_option linter.unusedSimpArgs false
set_option linter.unusedVariables false
set_option maxRecDepth 100000

theorem okSw (l : Lc) : okLc ⟨l.p, l.a, l.de⟩ = okLc l := by
  unfold okLc
  cases okPy l.a <;> cases okPy l.p <;> rfl

set_option maxHeartbeats 6400000 in
theorem walk (l : Lc) (hb : byLc l) (hr : rgLc l) (w : World) :
    Calls Tryd.prog 5 #[.agg (lcC l)] w fun e w' => e = .returned (.bool true) ∧ Below w.heap.size w w' := by
  have hnn : ∀ w : World, (binOp BinOp.eql 32 .nilIface .nilIface).run Tryd.prog w = .ok (.bool true) w := fun _ => by kernel_rfl
  have hn2 : ∀ w : World, (binOp BinOp.neq 32 .nilIface .nilIface).run Tryd.prog w = .ok (.bool false) w := fun _ => by kernel_rfl
  have hn3 : ∀ w : World, (binOp BinOp.neq 32 (.iface 28 (.int .i64 1)) .nilIface).run Tryd.prog w = .ok (.bool true) w := fun _ => by kernel_rfl
  have HA := Blk.new w 27 (lcC l)
  have B0 : Below w.heap.size w (w.alloc (.cells (lcC l) 27)) := (Below.refl _ _).alloc (Nat.le_refl _) _
  have hrs : rgLc ⟨l.p, l.a, l.de⟩ := ⟨hr.2.1, hr.1, hr.2.2⟩
  have hbs : byLc ⟨l.p, l.a, l.de⟩ := ⟨hb.2, hb.1⟩
  cases hok : okLc l with
  | false =>
    have HW := Lib.hid (fun W => lcWrite_no l hok hr W)
    have HS := Lib.hid (fun W => lcWrite_no ⟨l.p, l.a, l.de⟩ (by rw [okSw]; exact hok) hrs W)
    clear hok hb hr hrs hbs
    go_enter Tryd.func5, Tryd.ntmps5
    go_upto_region 1 with (fail)
    generalize (w.alloc (.cells (lcC l) 27)) = w1 at *
    go_wp2_with fail
    refine (linked_any _).mono ?_
    rintro e w2 ⟨rfl, k2⟩
    have HA2 := HA.kept k2
    have B2 := B0.trans (k2.mono B0.size)
    clear HA B0 k2
    go_wp2_with (refine load_blk (k := 0) 27 (lcC l) (by rfl) rfl rfl HA2 (by kernel_rfl) (by kernel_rfl) rfl ?_)
    refine (HW.out _).mono ?_
    rintro e w3 ⟨rfl, k3⟩
    have HA3 := HA2.kept k3
    have B3 := B2.trans (k3.mono B2.size)
    clear HA2 B2 k3
    go_upto_region 5 with (first
      | (refine load_blk (k := 11) 25 (pyC l.p) (by rfl) rfl rfl HA3 (by kernel_rfl) (by kernel_rfl) rfl ?_)
      | (refine load_blk (k := 0) 25 (pyC l.a) (by rfl) rfl rfl HA3 (by kernel_rfl) (by kernel_rfl) rfl ?_)
      | (refine store_blk (k := 0) 25 (.agg (pyC l.p)) (lcC ⟨l.p, l.p, l.de⟩) (by rfl) rfl rfl rfl HA3 (by kernel_rfl) (show (0 + 11 : Nat) ≤ 23 by decide) (by rfl) rfl ?_; intro wx HX bx gx; have BX := B3.trans bx)
      | (refine store_blk (k := 11) 25 (.agg (pyC l.a)) (lcC ⟨l.p, l.a, l.de⟩) (by rfl) rfl rfl rfl HX (by kernel_rfl) (show (11 + 11 : Nat) ≤ 23 by decide) (by rfl) rfl ?_; intro w4 HA4 by_ gy; have B4 := BX.trans by_))
    (try simp only [Act.put, List.setIfInBounds_toArray, List.set_cons_zero, List.set_cons_succ])
    clear HA3 B3 HX BX bx gx by_ gy
    go_wp2_with (refine load_blk (k := 0) 27 (lcC ⟨l.p, l.a, l.de⟩) (by rfl) rfl rfl HA4 (by kernel_rfl) (by kernel_rfl) rfl ?_)
    refine (HS.out _).mono ?_
    rintro e w5 ⟨rfl, k5⟩
    have HA5 := HA4.kept k5
    have B5 := B4.trans (k5.mono B4.size)
    clear HA4 B4 k5
    go_wp2
    go_ret
    exact ⟨rfl, B5⟩
  | true =>
    have HW := Lib.hid (fun W => lcWrite_yes l hok hb hr W)
    have HS := Lib.hid (fun W => lcWrite_yes ⟨l.p, l.a, l.de⟩ (by rw [okSw]; exact hok) hbs hrs W)
    have l1 := lcL_len l
    have hsw := lc_swap l
    obtain ⟨L, hL⟩ : ∃ L, L = lcL l := ⟨_, rfl⟩
    rw [← hL] at HW hsw l1
    rw [hsw] at HS
    obtain ⟨s1, hs1⟩ : ∃ s : ByteArray, s = ⟨L.toArray⟩ := ⟨_, rfl⟩
    rw [← hs1] at HW
    have z1 : s1.size = 110 := by rw [hs1]; show L.toArray.size = _; rw [List.size_toArray, l1]
    have d1 : ((s1.size : Int) == 110) = true := by rw [z1]; rfl
    have ex : ∀ i j : Nat, s1.extract i j = ⟨((L.drop i).take (j - i)).toArray⟩ := fun i j => by
      apply ByteArray.ext
      apply Array.toList_inj.1
      rw [extract_list, hs1]
    have e1 : s1.extract 0 4 = ⟨(L.take 4).toArray⟩ := ex 0 4
    have e2 : s1.extract 24 42 = ⟨(sl L 24 18).toArray⟩ := ex 24 42
    have e3 : s1.extract 22 24 = ⟨(sl L 22 2).toArray⟩ := ex 22 24
    have e4 : s1.extract 4 22 = ⟨(sl L 4 18).toArray⟩ := ex 4 22
    have e5 : s1.extract 42 110 = ⟨(L.drop 42).toArray⟩ := by rw [ex 42 110, List.take_of_length_le (by rw [List.length_drop, l1]; decide)]
    have e6 : s1.extract 42 s1.size = ⟨(L.drop 42).toArray⟩ := by rw [z1]; exact e5
    have n1 : (L.take 4).length = 4 := by rw [List.length_take, l1]; rfl
    have n2 : (sl L 24 18).length = 18 := by unfold sl; rw [List.length_take, List.length_drop, l1]; rfl
    have n3 : (sl L 22 2).length = 2 := by unfold sl; rw [List.length_take, List.length_drop, l1]; rfl
    have n4 : (sl L 4 18).length = 18 := by unfold sl; rw [List.length_take, List.length_drop, l1]; rfl
    have n5 : (L.drop 42).length = 68 := by rw [List.length_drop, l1]
    generalize L.take 4 = P1 at *
    generalize sl L 24 18 = P2 at *
    generalize sl L 22 2 = P3 at *
    generalize sl L 4 18 = P4 at *
    generalize L.drop 42 = P5 at *
    obtain ⟨y1, hy1⟩ : ∃ z : List UInt8, z = P1 ++ P2 := ⟨_, rfl⟩
    have ly1 : y1.length = 22 := by rw [hy1, List.length_append, n1, n2]
    have p1 : ∀ W, (Op.stringOp .add ⟨P1.toArray⟩ ⟨P2.toArray⟩).run Tryd.prog W = .ok (.string ⟨y1.toArray⟩) W := fun W => by rw [hy1]; exact run_string_add_lists W P1 P2 (by omega) (by omega)
    obtain ⟨y2, hy2⟩ : ∃ z : List UInt8, z = y1 ++ P3 := ⟨_, rfl⟩
    have ly2 : y2.length = 24 := by rw [hy2, List.length_append, ly1, n3]
    have p2 : ∀ W, (Op.stringOp .add ⟨y1.toArray⟩ ⟨P3.toArray⟩).run Tryd.prog W = .ok (.string ⟨y2.toArray⟩) W := fun W => by rw [hy2]; exact run_string_add_lists W y1 P3 (by omega) (by omega)
    obtain ⟨y3, hy3⟩ : ∃ z : List UInt8, z = y2 ++ P4 := ⟨_, rfl⟩
    have ly3 : y3.length = 42 := by rw [hy3, List.length_append, ly2, n4]
    have p3 : ∀ W, (Op.stringOp .add ⟨y2.toArray⟩ ⟨P4.toArray⟩).run Tryd.prog W = .ok (.string ⟨y3.toArray⟩) W := fun W => by rw [hy3]; exact run_string_add_lists W y2 P4 (by omega) (by omega)
    obtain ⟨y4, hy4⟩ : ∃ z : List UInt8, z = y3 ++ P5 := ⟨_, rfl⟩
    have p4 : ∀ W, (Op.stringOp .add ⟨y3.toArray⟩ ⟨P5.toArray⟩).run Tryd.prog W = .ok (.string ⟨y4.toArray⟩) W := fun W => by rw [hy4]; exact run_string_add_lists W y3 P5 (by omega) (by omega)
    have hall : P1 ++ (P2 ++ (P3 ++ (P4 ++ P5))) = y4 := by rw [hy4, hy3, hy2, hy1]; simp only [List.append_assoc]
    rw [hall] at HS
    obtain ⟨s2, hs2⟩ : ∃ s : ByteArray, s = ⟨y4.toArray⟩ := ⟨_, rfl⟩
    rw [← hs2] at HS p4
    have hbz : ((s2.toList == s2.toList)) = true := by simp
    clear hall hsw hL hs1 hs2 hy1 hy2 hy3 hy4 ly1 ly2 ly3 n1 n2 n3 n4 n5 ex l1 hok hb hr hrs hbs
    go_enter Tryd.func5, Tryd.ntmps5
    go_upto_region 1 with (fail)
    generalize (w.alloc (.cells (lcC l) 27)) = w1 at *
    go_wp2_with fail
    refine (linked_any _).mono ?_
    rintro e w2 ⟨rfl, k2⟩
    have HA2 := HA.kept k2
    have B2 := B0.trans (k2.mono B0.size)
    clear HA B0 k2
    go_wp2_with (refine load_blk (k := 0) 27 (lcC l) (by rfl) rfl rfl HA2 (by kernel_rfl) (by kernel_rfl) rfl ?_)
    refine (HW.out _).mono ?_
    rintro e w3 ⟨rfl, k3⟩
    have HA3 := HA2.kept k3
    have B3 := B2.trans (k3.mono B2.size)
    clear HA2 B2 k3
    go_upto_region 5 with (first
      | (refine load_blk (k := 11) 25 (pyC l.p) (by rfl) rfl rfl HA3 (by kernel_rfl) (by kernel_rfl) rfl ?_)
      | (refine load_blk (k := 0) 25 (pyC l.a) (by rfl) rfl rfl HA3 (by kernel_rfl) (by kernel_rfl) rfl ?_)
      | (refine store_blk (k := 0) 25 (.agg (pyC l.p)) (lcC ⟨l.p, l.p, l.de⟩) (by rfl) rfl rfl rfl HA3 (by kernel_rfl) (show (0 + 11 : Nat) ≤ 23 by decide) (by rfl) rfl ?_; intro wx HX bx gx; have BX := B3.trans bx)
      | (refine store_blk (k := 11) 25 (.agg (pyC l.a)) (lcC ⟨l.p, l.a, l.de⟩) (by rfl) rfl rfl rfl HX (by kernel_rfl) (show (11 + 11 : Nat) ≤ 23 by decide) (by rfl) rfl ?_; intro w4 HA4 by_ gy; have B4 := BX.trans by_))
    (try simp only [Act.put, List.setIfInBounds_toArray, List.set_cons_zero, List.set_cons_succ])
    clear HA3 B3 HX BX bx gx by_ gy
    go_wp2_with (refine load_blk (k := 0) 27 (lcC ⟨l.p, l.a, l.de⟩) (by rfl) rfl rfl HA4 (by kernel_rfl) (by kernel_rfl) rfl ?_)
    refine (HS.out _).mono ?_
    rintro e w5 ⟨rfl, k5⟩
    have HA5 := HA4.kept k5
    have B5 := B4.trans (k5.mono B4.size)
    clear HA4 B4 k5
    go_wp2_with fail
    refine wp_region_noPanic ?_
    refine wp_region_held_drew (S := (fun _ => True)) (by kernel_rfl) ?_ (fun hHeld => ?_)
    · exact trivial
    refine wpAnyH_take (i := 0) (v := ?_) rfl (by kernel_rfl) (by kernel_rfl) (by kernel_rfl) (fun _ _ _ h => h) (Or.inl ⟨by rfl, ?_⟩) (by assumption) ?_
    rotate_left
    · (intro w hSw; (try dsimp only at hSw); go_simp; (try with_reducible rfl))
    (try simp only [Act.put, List.getElem_toArray, List.getElem_cons_zero, List.getElem_cons_succ, List.setIfInBounds_toArray, List.set_cons_zero, List.set_cons_succ])
    refine wpAnyH_take (i := 1) (v := ?_) rfl (by kernel_rfl) (by kernel_rfl) (by kernel_rfl) (fun _ _ _ h => h) (Or.inl ⟨by rfl, ?_⟩) (by assumption) ?_
    rotate_left
    · (intro w hSw; (try dsimp only at hSw); go_simp; (try with_reducible rfl))
    (try simp only [Act.put, List.getElem_toArray, List.getElem_cons_zero, List.getElem_cons_succ, List.setIfInBounds_toArray, List.set_cons_zero, List.set_cons_succ])
    refine wpAnyH_take (i := 2) (v := ?_) rfl (by kernel_rfl) (by kernel_rfl) (by kernel_rfl) (fun _ _ _ h => h) (Or.inl ⟨by rfl, ?_⟩) (by assumption) ?_
    rotate_left
    · (intro w hSw; (try dsimp only at hSw); go_simp; (try with_reducible rfl))
    (try simp only [Act.put, List.getElem_toArray, List.getElem_cons_zero, List.getElem_cons_succ, List.setIfInBounds_toArray, List.set_cons_zero, List.set_cons_succ])
    refine wpAnyH_take (i := 3) (v := ?_) rfl (by kernel_rfl) (by kernel_rfl) (by kernel_rfl) (fun _ _ _ h => h) (Or.inl ⟨by rfl, ?_⟩) (by assumption) ?_
    rotate_left
    · (intro w hSw; (try dsimp only at hSw); go_simp; (try with_reducible rfl))
    (try simp only [Act.put, List.getElem_toArray, List.getElem_cons_zero, List.getElem_cons_succ, List.setIfInBounds_toArray, List.set_cons_zero, List.set_cons_succ])
    refine wpAnyH_take (i := 4) (v := ?_) rfl (by kernel_rfl) (by kernel_rfl) (by kernel_rfl) (fun _ _ _ h => h) (Or.inl ⟨by rfl, ?_⟩) (by assumption) ?_
    rotate_left
    · (intro w hSw; (try dsimp only at hSw); go_simp; (try with_reducible rfl))
    (try simp only [Act.put, List.getElem_toArray, List.getElem_cons_zero, List.getElem_cons_succ, List.setIfInBounds_toArray, List.set_cons_zero, List.set_cons_succ])
    refine wpAnyH_take (i := 5) (v := ?_) rfl (by kernel_rfl) (by kernel_rfl) (by kernel_rfl) (fun _ _ _ h => h) (Or.inl ⟨by rfl, ?_⟩) (by assumption) ?_
    rotate_left
    · (intro w hSw; (try dsimp only at hSw); go_simp; (try with_reducible rfl))
    (try simp only [Act.put, List.getElem_toArray, List.getElem_cons_zero, List.getElem_cons_succ, List.setIfInBounds_toArray, List.set_cons_zero, List.set_cons_succ])
    refine wpAnyH_take (i := 6) (v := ?_) rfl (by kernel_rfl) (by kernel_rfl) (by kernel_rfl) (fun _ _ _ h => h) (Or.inl ⟨by rfl, ?_⟩) (by assumption) ?_
    rotate_left
    · (intro w hSw; (try dsimp only at hSw); go_simp; (try with_reducible rfl))
    (try simp only [Act.put, List.getElem_toArray, List.getElem_cons_zero, List.getElem_cons_succ, List.setIfInBounds_toArray, List.set_cons_zero, List.set_cons_succ])
    refine wpAnyH_take (i := 7) (v := ?_) rfl (by kernel_rfl) (by kernel_rfl) (by kernel_rfl) (fun _ _ _ h => h) (Or.inl ⟨by rfl, ?_⟩) (by assumption) ?_
    rotate_left
    · (intro w hSw; (try dsimp only at hSw); go_simp; (try with_reducible rfl))
    (try simp only [Act.put, List.getElem_toArray, List.getElem_cons_zero, List.getElem_cons_succ, List.setIfInBounds_toArray, List.set_cons_zero, List.set_cons_succ])
    refine wpAnyH_take (i := 8) (v := ?_) rfl (by kernel_rfl) (by kernel_rfl) (by kernel_rfl) (fun _ _ _ h => h) (Or.inl ⟨by rfl, ?_⟩) (by assumption) ?_
    rotate_left
    · (intro w hSw; (try dsimp only at hSw); go_simp; (try with_reducible rfl))
    (try simp only [Act.put, List.getElem_toArray, List.getElem_cons_zero, List.getElem_cons_succ, List.setIfInBounds_toArray, List.set_cons_zero, List.set_cons_succ])
    refine wpAnyH_take (i := 9) (v := ?_) rfl (by kernel_rfl) (by kernel_rfl) (by kernel_rfl) (fun _ _ _ h => h) (Or.inl ⟨by rfl, ?_⟩) (by assumption) ?_
    rotate_left
    · (intro w hSw; (try dsimp only at hSw); go_simp; (try with_reducible rfl))
    (try simp only [Act.put, List.getElem_toArray, List.getElem_cons_zero, List.getElem_cons_succ, List.setIfInBounds_toArray, List.set_cons_zero, List.set_cons_succ])
    refine wpAnyH_take (i := 10) (v := ?_) rfl (by kernel_rfl) (by kernel_rfl) (by kernel_rfl) (fun _ _ _ h => h) (Or.inl ⟨by rfl, ?_⟩) (by assumption) ?_
    rotate_left
    · (intro w hSw; (try dsimp only at hSw); go_simp; (try with_reducible rfl))
    (try simp only [Act.put, List.getElem_toArray, List.getElem_cons_zero, List.getElem_cons_succ, List.setIfInBounds_toArray, List.set_cons_zero, List.set_cons_succ])
    refine wpAnyH_take (i := 11) (v := ?_) rfl (by kernel_rfl) (by kernel_rfl) (by kernel_rfl) (fun _ _ _ h => h) (Or.inl ⟨by rfl, ?_⟩) (by assumption) ?_
    rotate_left
    · (intro w hSw; (try dsimp only at hSw); go_simp; (try with_reducible rfl))
    (try simp only [Act.put, List.getElem_toArray, List.getElem_cons_zero, List.getElem_cons_succ, List.setIfInBounds_toArray, List.set_cons_zero, List.set_cons_succ])
    refine wpAnyH_take (i := 12) (v := ?_) rfl (by kernel_rfl) (by kernel_rfl) (by kernel_rfl) (fun _ _ _ h => h) (Or.inl ⟨by rfl, ?_⟩) (by assumption) ?_
    rotate_left
    · (intro w hSw; (try dsimp only at hSw); go_simp; (try with_reducible rfl))
    (try simp only [Act.put, List.getElem_toArray, List.getElem_cons_zero, List.getElem_cons_succ, List.setIfInBounds_toArray, List.set_cons_zero, List.set_cons_succ])
    refine wpAnyH_take (i := 13) (v := ?_) rfl (by kernel_rfl) (by kernel_rfl) (by kernel_rfl) (fun _ _ _ h => h) (Or.inl ⟨by rfl, ?_⟩) (by assumption) ?_
    rotate_left
    · (intro w hSw; (try dsimp only at hSw); go_simp; (try with_reducible rfl))
    (try simp only [Act.put, List.getElem_toArray, List.getElem_cons_zero, List.getElem_cons_succ, List.setIfInBounds_toArray, List.set_cons_zero, List.set_cons_succ])
    refine wpAnyH_take (i := 14) (v := ?_) rfl (by kernel_rfl) (by kernel_rfl) (by kernel_rfl) (fun _ _ _ h => h) (Or.inl ⟨by rfl, ?_⟩) (by assumption) ?_
    rotate_left
    · (intro w hSw; (try dsimp only at hSw); go_simp; (try with_reducible rfl))
    (try simp only [Act.put, List.getElem_toArray, List.getElem_cons_zero, List.getElem_cons_succ, List.setIfInBounds_toArray, List.set_cons_zero, List.set_cons_succ])
    refine wpAnyH_take (i := 15) (v := ?_) rfl (by kernel_rfl) (by kernel_rfl) (by kernel_rfl) (fun _ _ _ h => h) (Or.inl ⟨by rfl, ?_⟩) (by assumption) ?_
    rotate_left
    · (intro w hSw; (try dsimp only at hSw); go_simp; (try with_reducible rfl))
    (try simp only [Act.put, List.getElem_toArray, List.getElem_cons_zero, List.getElem_cons_succ, List.setIfInBounds_toArray, List.set_cons_zero, List.set_cons_succ])
    refine wpAnyH_take (i := 16) (v := ?_) rfl (by kernel_rfl) (by kernel_rfl) (by kernel_rfl) (fun _ _ _ h => h) (Or.inl ⟨by rfl, ?_⟩) (by assumption) ?_
    rotate_left
    · (intro w hSw; (try dsimp only at hSw); go_simp; (try with_reducible rfl))
    (try simp only [Act.put, List.getElem_toArray, List.getElem_cons_zero, List.getElem_cons_succ, List.setIfInBounds_toArray, List.set_cons_zero, List.set_cons_succ])
    refine wpAnyH_take (i := 17) (v := ?_) rfl (by kernel_rfl) (by kernel_rfl) (by kernel_rfl) (fun _ _ _ h => h) (Or.inl ⟨by rfl, ?_⟩) (by assumption) ?_
    rotate_left
    · (intro w hSw; (try dsimp only at hSw); go_simp; (try with_reducible rfl))
    (try simp only [Act.put, List.getElem_toArray, List.getElem_cons_zero, List.getElem_cons_succ, List.setIfInBounds_toArray, List.set_cons_zero, List.set_cons_succ])
    refine wpAnyH_take (i := 18) (v := ?_) rfl (by kernel_rfl) (by kernel_rfl) (by kernel_rfl) (fun _ _ _ h => h) (Or.inl ⟨by rfl, ?_⟩) (by assumption) ?_
    rotate_left
    · (intro w hSw; (try dsimp only at hSw); go_simp; (try with_reducible rfl))
    (try simp only [Act.put, List.getElem_toArray, List.getElem_cons_zero, List.getElem_cons_succ, List.setIfInBounds_toArray, List.set_cons_zero, List.set_cons_succ])
    refine wpAnyH_take (i := 19) (v := ?_) rfl (by kernel_rfl) (by kernel_rfl) (by kernel_rfl) (fun _ _ _ h => h) (Or.inl ⟨by rfl, ?_⟩) (by assumption) ?_
    rotate_left
    · (intro w hSw; (try dsimp only at hSw); go_simp; (try with_reducible rfl))
    (try simp only [Act.put, List.getElem_toArray, List.getElem_cons_zero, List.getElem_cons_succ, List.setIfInBounds_toArray, List.set_cons_zero, List.set_cons_succ])
    refine wpAnyH_take (i := 20) (v := ?_) rfl (by kernel_rfl) (by kernel_rfl) (by kernel_rfl) (fun _ _ _ h => h) (Or.inl ⟨by rfl, ?_⟩) (by assumption) ?_
    rotate_left
    · (intro w hSw; (try dsimp only at hSw); go_simp; (try with_reducible rfl))
    (try simp only [Act.put, List.getElem_toArray, List.getElem_cons_zero, List.getElem_cons_succ, List.setIfInBounds_toArray, List.set_cons_zero, List.set_cons_succ])
    refine wpAnyH_take (i := 21) (v := ?_) rfl (by kernel_rfl) (by kernel_rfl) (by kernel_rfl) (fun _ _ _ h => h) (Or.inl ⟨by rfl, ?_⟩) (by assumption) ?_
    rotate_left
    · (intro w hSw; (try dsimp only at hSw); go_simp; (try with_reducible rfl))
    (try simp only [Act.put, List.getElem_toArray, List.getElem_cons_zero, List.getElem_cons_succ, List.setIfInBounds_toArray, List.set_cons_zero, List.set_cons_succ])
    refine wpAnyH_take (i := 22) (v := ?_) rfl (by kernel_rfl) (by kernel_rfl) (by kernel_rfl) (fun _ _ _ h => h) (Or.inl ⟨by rfl, ?_⟩) (by assumption) ?_
    rotate_left
    · (intro w hSw; (try dsimp only at hSw); go_simp; (try with_reducible rfl))
    (try simp only [Act.put, List.getElem_toArray, List.getElem_cons_zero, List.getElem_cons_succ, List.setIfInBounds_toArray, List.set_cons_zero, List.set_cons_succ])
    refine wpAnyH_take (i := 23) (v := ?_) rfl (by kernel_rfl) (by kernel_rfl) (by kernel_rfl) (fun _ _ _ h => h) (Or.inl ⟨by rfl, ?_⟩) (by assumption) ?_
    rotate_left
    · (intro w hSw; (try dsimp only at hSw); go_simp; (try with_reducible rfl))
    (try simp only [Act.put, List.getElem_toArray, List.getElem_cons_zero, List.getElem_cons_succ, List.setIfInBounds_toArray, List.set_cons_zero, List.set_cons_succ])
    refine wpAnyH_take (i := 24) (v := ?_) rfl (by kernel_rfl) (by kernel_rfl) (by kernel_rfl) (fun _ _ _ h => h) (Or.inl ⟨by rfl, ?_⟩) (by assumption) ?_
    rotate_left
    · (intro w hSw; (try dsimp only at hSw); go_simp; (try with_reducible rfl))
    (try simp only [Act.put, List.getElem_toArray, List.getElem_cons_zero, List.getElem_cons_succ, List.setIfInBounds_toArray, List.set_cons_zero, List.set_cons_succ])
    refine wpAnyH_take (i := 25) (v := ?_) rfl (by kernel_rfl) (by kernel_rfl) (by kernel_rfl) (fun _ _ _ h => h) (Or.inl ⟨by rfl, ?_⟩) (by assumption) ?_
    rotate_left
    · (intro w hSw; (try dsimp only at hSw); go_simp; (try with_reducible rfl))
    (try simp only [Act.put, List.getElem_toArray, List.getElem_cons_zero, List.getElem_cons_succ, List.setIfInBounds_toArray, List.set_cons_zero, List.set_cons_succ])
    refine wpAnyH_done (by kernel_rfl) ?_ _
    refine NoPanic.normal ?_
    go_wp2
    go_ret
    exact ⟨rfl, B5.drew⟩

end Go.Proofs.YtocgnbbnaamjjaaDoor.lacpSides
