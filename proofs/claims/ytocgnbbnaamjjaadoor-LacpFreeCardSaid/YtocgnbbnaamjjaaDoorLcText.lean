/- lacp.zeros, partyText. -/
import Derived.Test.YtocgnbbnaamjjaaDoorLcRight
import Derived.Test.YtocgnbbnaamjjaaDoorMust
import Derived.Test.YtocgnbbnaamjjaaDoorShelf
import Derived.Laws.Concat
namespace Go.Proofs.YtocgnbbnaamjjaaDoor
open Go.RowKit
attribute [local go_sem ↓] Go.wp_at_zero Go.wp_at_succ
set_option linter.unusedSimpArgs false
set_option linter.unusedVariables false
set_option maxRecDepth 100000

theorem must_fitI (v : Int) (n : Nat) (h1 : 1 ≤ n) (h7 : n ≤ 7) (h : fitI n v = true) (w : World) :
    Calls Tryd.prog 26 #[.int .i64 v, .int .i64 n] w fun e w' => e = .returned (.string ⟨(putL v.toNat n).toArray⟩) ∧ Below w.heap.size w w' := by
  obtain ⟨h0, hv⟩ := fitI_all h
  obtain ⟨X, rfl⟩ := Int.eq_ofNat_of_zero_le h0
  have h2 : X < 256 ^ n := by
    have e : ((256 ^ n : Nat) : Int) = (256 : Int) ^ n := by simp
    omega
  exact must_fits X n w h1 h7 h2

theorem repeat_zeroL (k : Nat) : Lib.repeatL [(0 : UInt8)] k = List.replicate k 0 := by
  have := Lib.repeatL_replicate (0 : UInt8) 1 k
  simpa using this

theorem zeros_lc (k : Nat) (hk : k ≤ 200) (w : World) :
    Calls Tryd.prog 27 #[.int .i64 k] w fun e w' => e = .returned (.string ⟨(List.replicate k (0 : UInt8)).toArray⟩) ∧ Below w.heap.size w w' := by
  have HRP : Hid (∀ W, Calls Tryd.prog 43 #[.string ⟨#[0]⟩, .int .i64 k] W fun e w' => e = .returned (.string ⟨(List.replicate k (0 : UInt8)).toArray⟩) ∧ Below W.heap.size W w') := fun W => by
    have q := Tryd.strings_Repeat ⟨#[0]⟩ k W (by omega) (by show 1 * k ≤ _; omega)
    rw [show (⟨#[0]⟩ : ByteArray).data.toList = [0] from rfl, repeat_zeroL] at q
    exact q
  go_enter Tryd.func27, Tryd.ntmps27
  go_wp2_with fail
  refine (HRP.out _).mono ?_
  rintro e w1 ⟨rfl, b1⟩
  go_wp2
  go_ret
  exact ⟨rfl, b1⟩

set_option maxHeartbeats 6400000 in
theorem partyText_any (p : Py) (hp : okPy p = true) (hb : byPy p) (w : World) :
    Calls Tryd.prog 25 #[.agg (pyC p)] w fun e w' => e = .returned (.string ⟨(pyL p).toArray⟩) ∧ Below w.heap.size w w' := by
  obtain ⟨f0, f1, f2, f3, f4⟩ := okPy_all hp
  have HA := Blk.new w 25 (pyC p)
  have B0 : Below w.heap.size w (w.alloc (.cells (pyC p) 25)) := (Below.refl _ _).alloc (Nat.le_refl _) _
  have HM0 : Hid (∀ W, Calls Tryd.prog 26 #[.int .i64 p.sp, .int .i64 2] W fun e w' => e = .returned (.string ⟨(putL p.sp.toNat 2).toArray⟩) ∧ Below W.heap.size W w') := fun W => must_fitI p.sp 2 (by decide) (by decide) f0 W
  have h0 : (putL p.sp.toNat 2).length = 2 := putL_length _ _
  have HM1 : Hid (∀ W, Calls Tryd.prog 26 #[.int .i64 p.ke, .int .i64 2] W fun e w' => e = .returned (.string ⟨(putL p.ke.toNat 2).toArray⟩) ∧ Below W.heap.size W w') := fun W => must_fitI p.ke 2 (by decide) (by decide) f1 W
  have h1 : (putL p.ke.toNat 2).length = 2 := putL_length _ _
  have HM2 : Hid (∀ W, Calls Tryd.prog 26 #[.int .i64 p.pp, .int .i64 2] W fun e w' => e = .returned (.string ⟨(putL p.pp.toNat 2).toArray⟩) ∧ Below W.heap.size W w') := fun W => must_fitI p.pp 2 (by decide) (by decide) f2 W
  have h2 : (putL p.pp.toNat 2).length = 2 := putL_length _ _
  have HM3 : Hid (∀ W, Calls Tryd.prog 26 #[.int .i64 p.po, .int .i64 2] W fun e w' => e = .returned (.string ⟨(putL p.po.toNat 2).toArray⟩) ∧ Below W.heap.size W w') := fun W => must_fitI p.po 2 (by decide) (by decide) f3 W
  have h3 : (putL p.po.toNat 2).length = 2 := putL_length _ _
  have HM4 : Hid (∀ W, Calls Tryd.prog 26 #[.int .i64 p.st, .int .i64 1] W fun e w' => e = .returned (.string ⟨(putL p.st.toNat 1).toArray⟩) ∧ Below W.heap.size W w') := fun W => must_fitI p.st 1 (by decide) (by decide) f4 W
  have h4 : (putL p.st.toNat 1).length = 1 := putL_length _ _
  have hA : (nb 6 p.sy).length = 6 := nb_len 6 _
  have HZ : Hid (∀ W, Calls Tryd.prog 27 #[.int .i64 3] W fun e w' => e = .returned (.string ⟨(List.replicate 3 (0 : UInt8)).toArray⟩) ∧ Below W.heap.size W w') := fun W => zeros_lc 3 (by decide) W
  obtain ⟨LZ, hLZ⟩ : ∃ LZ : List UInt8, LZ = List.replicate 3 0 := ⟨_, rfl⟩
  have hZ : LZ.length = 3 := by rw [hLZ]; rfl
  rw [← hLZ] at HZ
  have HL : Hid (pyL p = ((((((putL p.sp.toNat 2 ++ nb 6 p.sy) ++ putL p.ke.toNat 2) ++ putL p.pp.toNat 2) ++ putL p.po.toNat 2) ++ putL p.st.toNat 1) ++ LZ)) := by show _ = _; rw [hLZ]; simp [pyL, List.append_assoc]
  clear hLZ
  generalize hg0 : putL p.sp.toNat 2 = L0 at *
  generalize hg1 : putL p.ke.toNat 2 = L1 at *
  generalize hg2 : putL p.pp.toNat 2 = L2 at *
  generalize hg3 : putL p.po.toNat 2 = L3 at *
  generalize hg4 : putL p.st.toNat 1 = L4 at *
  obtain ⟨LA, hLA⟩ : ∃ LA : List UInt8, LA = nb 6 p.sy := ⟨_, rfl⟩
  have hA : LA.length = 6 := by rw [hLA]; exact nb_len 6 _
  rw [← hLA] at HL
  obtain ⟨y1, hy1⟩ : ∃ z : List UInt8, z = L0 ++ LA := ⟨_, rfl⟩
  have ly1 : y1.length = 8 := by rw [hy1, List.length_append] <;> (try simp only [List.length_cons, List.length_nil]) <;> omega
  have py1 : ∀ W, (Op.stringOp .add ⟨L0.toArray⟩ ⟨LA.toArray⟩).run Tryd.prog W = .ok (.string ⟨y1.toArray⟩) W := fun W => by rw [hy1]; exact run_string_add_lists W L0 LA (by (try simp only [List.length_cons, List.length_nil]) <;> omega) (by (try simp only [List.length_cons, List.length_nil]) <;> omega)
  obtain ⟨y2, hy2⟩ : ∃ z : List UInt8, z = y1 ++ L1 := ⟨_, rfl⟩
  have ly2 : y2.length = 10 := by rw [hy2, List.length_append] <;> (try simp only [List.length_cons, List.length_nil]) <;> omega
  have py2 : ∀ W, (Op.stringOp .add ⟨y1.toArray⟩ ⟨L1.toArray⟩).run Tryd.prog W = .ok (.string ⟨y2.toArray⟩) W := fun W => by rw [hy2]; exact run_string_add_lists W y1 L1 (by (try simp only [List.length_cons, List.length_nil]) <;> omega) (by (try simp only [List.length_cons, List.length_nil]) <;> omega)
  obtain ⟨y3, hy3⟩ : ∃ z : List UInt8, z = y2 ++ L2 := ⟨_, rfl⟩
  have ly3 : y3.length = 12 := by rw [hy3, List.length_append] <;> (try simp only [List.length_cons, List.length_nil]) <;> omega
  have py3 : ∀ W, (Op.stringOp .add ⟨y2.toArray⟩ ⟨L2.toArray⟩).run Tryd.prog W = .ok (.string ⟨y3.toArray⟩) W := fun W => by rw [hy3]; exact run_string_add_lists W y2 L2 (by (try simp only [List.length_cons, List.length_nil]) <;> omega) (by (try simp only [List.length_cons, List.length_nil]) <;> omega)
  obtain ⟨y4, hy4⟩ : ∃ z : List UInt8, z = y3 ++ L3 := ⟨_, rfl⟩
  have ly4 : y4.length = 14 := by rw [hy4, List.length_append] <;> (try simp only [List.length_cons, List.length_nil]) <;> omega
  have py4 : ∀ W, (Op.stringOp .add ⟨y3.toArray⟩ ⟨L3.toArray⟩).run Tryd.prog W = .ok (.string ⟨y4.toArray⟩) W := fun W => by rw [hy4]; exact run_string_add_lists W y3 L3 (by (try simp only [List.length_cons, List.length_nil]) <;> omega) (by (try simp only [List.length_cons, List.length_nil]) <;> omega)
  obtain ⟨y5, hy5⟩ : ∃ z : List UInt8, z = y4 ++ L4 := ⟨_, rfl⟩
  have ly5 : y5.length = 15 := by rw [hy5, List.length_append] <;> (try simp only [List.length_cons, List.length_nil]) <;> omega
  have py5 : ∀ W, (Op.stringOp .add ⟨y4.toArray⟩ ⟨L4.toArray⟩).run Tryd.prog W = .ok (.string ⟨y5.toArray⟩) W := fun W => by rw [hy5]; exact run_string_add_lists W y4 L4 (by (try simp only [List.length_cons, List.length_nil]) <;> omega) (by (try simp only [List.length_cons, List.length_nil]) <;> omega)
  obtain ⟨y6, hy6⟩ : ∃ z : List UInt8, z = y5 ++ LZ := ⟨_, rfl⟩
  have ly6 : y6.length = 18 := by rw [hy6, List.length_append] <;> (try simp only [List.length_cons, List.length_nil]) <;> omega
  have py6 : ∀ W, (Op.stringOp .add ⟨y5.toArray⟩ ⟨LZ.toArray⟩).run Tryd.prog W = .ok (.string ⟨y6.toArray⟩) W := fun W => by rw [hy6]; exact run_string_add_lists W y5 LZ (by (try simp only [List.length_cons, List.length_nil]) <;> omega) (by (try simp only [List.length_cons, List.length_nil]) <;> omega)
  replace HL : Hid (pyL p = y6) := by show _ = _; rw [HL.out, hy6, hy5, hy4, hy3, hy2, hy1]
  have HLA := Lib.hid hLA
  clear hLA hA hZ h0 hg0 h1 hg1 h2 hg2 h3 hg3 h4 hg4 hy1 ly1 hy2 ly2 hy3 ly3 hy4 ly4 hy5 ly5 hy6 ly6 f0 f1 f2 f3 f4 hp
  have K0 : Hid (∀ W : World, Blk W w.heap.size 25 (pyC p) → (fun w' => Blk w' w.heap.size 25 (pyC p) ∧ w'.cell? ⟨w.heap.size, 0, none⟩ = some (.int .i64 p.sp) ∧ w'.cell? ⟨w.heap.size, 7, none⟩ = some (.int .i64 p.ke) ∧ w'.cell? ⟨w.heap.size, 8, none⟩ = some (.int .i64 p.pp) ∧ w'.cell? ⟨w.heap.size, 9, none⟩ = some (.int .i64 p.po) ∧ w'.cell? ⟨w.heap.size, 10, none⟩ = some (.int .i64 p.st)) W) := fun W h => ⟨h, h.c 0, h.c 7, h.c 8, h.c 9, h.c 10⟩
  go_enter Tryd.func25, Tryd.ntmps25
  go_upto_region 1 with (fail)
  generalize (w.alloc (.cells (pyC p) 25)) = w1 at *
  refine wp_region_noPanic ?_
  refine wp_region_held_drew (S := fun w' => Blk w' w.heap.size 25 (pyC p) ∧ w'.cell? ⟨w.heap.size, 0, none⟩ = some (.int .i64 p.sp) ∧ w'.cell? ⟨w.heap.size, 7, none⟩ = some (.int .i64 p.ke) ∧ w'.cell? ⟨w.heap.size, 8, none⟩ = some (.int .i64 p.pp) ∧ w'.cell? ⟨w.heap.size, 9, none⟩ = some (.int .i64 p.po) ∧ w'.cell? ⟨w.heap.size, 10, none⟩ = some (.int .i64 p.st)) (by kernel_rfl) ?_ (fun hHeld => ?_)
  · exact K0.out _ HA
  refine wpAnyH_take (i := 0) (v := ?_) rfl (by kernel_rfl) (by kernel_rfl) (by kernel_rfl) (fun _ _ _ h => h) (Or.inl ⟨by rfl, ?_⟩) (by assumption) ?_
  rotate_left
  · (intro w hSw; (try dsimp only at hSw); go_simp; (try with_reducible rfl))
  (try simp only [Act.put, List.getElem_toArray, List.getElem_cons_zero, List.getElem_cons_succ, List.setIfInBounds_toArray, List.set_cons_zero, List.set_cons_succ])
  refine wpAnyH_take (i := 1) (v := ?_) rfl (by kernel_rfl) (by kernel_rfl) (by kernel_rfl) (fun _ _ _ h => h) (Or.inl ⟨by rfl, ?_⟩) (by assumption) ?_
  rotate_left
  · (intro w hSw; (try dsimp only at hSw); go_simp; (try with_reducible rfl))
  (try simp only [Act.put, List.getElem_toArray, List.getElem_cons_zero, List.getElem_cons_succ, List.setIfInBounds_toArray, List.set_cons_zero, List.set_cons_succ])
  refine wpAnyH_take (i := 3) (v := ?_) rfl (by kernel_rfl) (by kernel_rfl) (by kernel_rfl) (fun _ _ _ h => h) (Or.inl ⟨by rfl, ?_⟩) (by assumption) ?_
  rotate_left
  · (intro w hSw; (try dsimp only at hSw); go_simp; (try with_reducible rfl))
  (try simp only [Act.put, List.getElem_toArray, List.getElem_cons_zero, List.getElem_cons_succ, List.setIfInBounds_toArray, List.set_cons_zero, List.set_cons_succ])
  refine wpAnyH_take (i := 4) (v := ?_) rfl (by kernel_rfl) (by kernel_rfl) (by kernel_rfl) (fun _ _ _ h => h) (Or.inl ⟨by rfl, ?_⟩) (by assumption) ?_
  rotate_left
  · (intro w hSw; (try dsimp only at hSw); go_simp; (try with_reducible rfl))
  (try simp only [Act.put, List.getElem_toArray, List.getElem_cons_zero, List.getElem_cons_succ, List.setIfInBounds_toArray, List.set_cons_zero, List.set_cons_succ])
  refine wpAnyH_take (i := 5) (v := .string ⟨LA.toArray⟩) rfl (by kernel_rfl) (by kernel_rfl) (by kernel_rfl) (fun _ _ _ h => h) (Or.inl ⟨by rfl, fun w hSw => by rw [HLA.out]; exact exec_text p.sy rfl rfl hb (six_of hSw.1 (k := 1) rfl)⟩) (by assumption) ?_
  (try simp only [Act.put, List.getElem_toArray, List.getElem_cons_zero, List.getElem_cons_succ, List.setIfInBounds_toArray, List.set_cons_zero, List.set_cons_succ])
  refine wpAnyH_take (i := 7) (v := ?_) rfl (by kernel_rfl) (by kernel_rfl) (by kernel_rfl) (fun _ _ _ h => h) (Or.inl ⟨by rfl, ?_⟩) (by assumption) ?_
  rotate_left
  · (intro w hSw; (try dsimp only at hSw); go_simp; (try with_reducible rfl))
  (try simp only [Act.put, List.getElem_toArray, List.getElem_cons_zero, List.getElem_cons_succ, List.setIfInBounds_toArray, List.set_cons_zero, List.set_cons_succ])
  refine wpAnyH_take (i := 8) (v := ?_) rfl (by kernel_rfl) (by kernel_rfl) (by kernel_rfl) (fun _ _ _ h => h) (Or.inl ⟨by rfl, ?_⟩) (by assumption) ?_
  rotate_left
  · (intro w hSw; (try dsimp only at hSw); go_simp; (try with_reducible rfl))
  (try simp only [Act.put, List.getElem_toArray, List.getElem_cons_zero, List.getElem_cons_succ, List.setIfInBounds_toArray, List.set_cons_zero, List.set_cons_succ])
  refine wpAnyH_take (i := 11) (v := ?_) rfl (by kernel_rfl) (by kernel_rfl) (by kernel_rfl) (fun _ _ _ h => h) (Or.inl ⟨by rfl, ?_⟩) (by assumption) ?_
  rotate_left
  · (intro w hSw; (try dsimp only at hSw); go_simp; (try with_reducible rfl))
  (try simp only [Act.put, List.getElem_toArray, List.getElem_cons_zero, List.getElem_cons_succ, List.setIfInBounds_toArray, List.set_cons_zero, List.set_cons_succ])
  refine wpAnyH_take (i := 12) (v := ?_) rfl (by kernel_rfl) (by kernel_rfl) (by kernel_rfl) (fun _ _ _ h => h) (Or.inl ⟨by rfl, ?_⟩) (by assumption) ?_
  rotate_left
  · (intro w hSw; (try dsimp only at hSw); go_simp; (try with_reducible rfl))
  (try simp only [Act.put, List.getElem_toArray, List.getElem_cons_zero, List.getElem_cons_succ, List.setIfInBounds_toArray, List.set_cons_zero, List.set_cons_succ])
  refine wpAnyH_take (i := 15) (v := ?_) rfl (by kernel_rfl) (by kernel_rfl) (by kernel_rfl) (fun _ _ _ h => h) (Or.inl ⟨by rfl, ?_⟩) (by assumption) ?_
  rotate_left
  · (intro w hSw; (try dsimp only at hSw); go_simp; (try with_reducible rfl))
  (try simp only [Act.put, List.getElem_toArray, List.getElem_cons_zero, List.getElem_cons_succ, List.setIfInBounds_toArray, List.set_cons_zero, List.set_cons_succ])
  refine wpAnyH_take (i := 16) (v := ?_) rfl (by kernel_rfl) (by kernel_rfl) (by kernel_rfl) (fun _ _ _ h => h) (Or.inl ⟨by rfl, ?_⟩) (by assumption) ?_
  rotate_left
  · (intro w hSw; (try dsimp only at hSw); go_simp; (try with_reducible rfl))
  (try simp only [Act.put, List.getElem_toArray, List.getElem_cons_zero, List.getElem_cons_succ, List.setIfInBounds_toArray, List.set_cons_zero, List.set_cons_succ])
  refine wpAnyH_take (i := 19) (v := ?_) rfl (by kernel_rfl) (by kernel_rfl) (by kernel_rfl) (fun _ _ _ h => h) (Or.inl ⟨by rfl, ?_⟩) (by assumption) ?_
  rotate_left
  · (intro w hSw; (try dsimp only at hSw); go_simp; (try with_reducible rfl))
  (try simp only [Act.put, List.getElem_toArray, List.getElem_cons_zero, List.getElem_cons_succ, List.setIfInBounds_toArray, List.set_cons_zero, List.set_cons_succ])
  refine wpAnyH_take (i := 20) (v := ?_) rfl (by kernel_rfl) (by kernel_rfl) (by kernel_rfl) (fun _ _ _ h => h) (Or.inl ⟨by rfl, ?_⟩) (by assumption) ?_
  rotate_left
  · (intro w hSw; (try dsimp only at hSw); go_simp; (try with_reducible rfl))
  (try simp only [Act.put, List.getElem_toArray, List.getElem_cons_zero, List.getElem_cons_succ, List.setIfInBounds_toArray, List.set_cons_zero, List.set_cons_succ])
  refine wpAnyH_ready (rs := [2]) (by kernel_rfl) (by simp) ?_
  refine AllReadyH.cons rfl (fun K hK => ?_) AllReadyH.nil
  simp only [List.getElem_toArray, List.getElem_cons_zero, List.getElem_cons_succ]
  go_simp
  go_at_call 26; (with_reducible refine (HM0.out _).mono ?_); rintro e w2 ⟨rfl, b2⟩; have HA2 := HA.drew.kept b2; have B2 := B0.drew.trans (b2.mono B0.drew.size)
  refine hK.out _ _ ?_ (fun hHeld => ?_)
  · exact K0.out _ HA2
  clear hK K
  (try simp only [Act.put, List.getElem_toArray, List.getElem_cons_zero, List.getElem_cons_succ, List.setIfInBounds_toArray, List.set_cons_zero, List.set_cons_succ])
  refine wpAnyH_take (i := 6) (v := ?_) rfl (by kernel_rfl) (by kernel_rfl) (by kernel_rfl) (fun _ _ _ h => h) (Or.inl ⟨by rfl, ?_⟩) (by assumption) ?_
  rotate_left
  · (intro w hSw; (try dsimp only at hSw); go_simp; (try with_reducible rfl))
  (try simp only [Act.put, List.getElem_toArray, List.getElem_cons_zero, List.getElem_cons_succ, List.setIfInBounds_toArray, List.set_cons_zero, List.set_cons_succ])
  refine wpAnyH_ready (rs := [9]) (by kernel_rfl) (by simp) ?_
  refine AllReadyH.cons rfl (fun K hK => ?_) AllReadyH.nil
  simp only [List.getElem_toArray, List.getElem_cons_zero, List.getElem_cons_succ]
  go_simp
  go_at_call 26; (with_reducible refine (HM1.out _).mono ?_); rintro e w3 ⟨rfl, b3⟩; have HA3 := HA2.kept b3; have B3 := B2.trans (b3.mono B2.size)
  refine hK.out _ _ ?_ (fun hHeld => ?_)
  · exact K0.out _ HA3
  clear hK K
  (try simp only [Act.put, List.getElem_toArray, List.getElem_cons_zero, List.getElem_cons_succ, List.setIfInBounds_toArray, List.set_cons_zero, List.set_cons_succ])
  refine wpAnyH_take (i := 10) (v := ?_) rfl (by kernel_rfl) (by kernel_rfl) (by kernel_rfl) (fun _ _ _ h => h) (Or.inl ⟨by rfl, ?_⟩) (by assumption) ?_
  rotate_left
  · (intro w hSw; (try dsimp only at hSw); go_simp; (try with_reducible rfl))
  (try simp only [Act.put, List.getElem_toArray, List.getElem_cons_zero, List.getElem_cons_succ, List.setIfInBounds_toArray, List.set_cons_zero, List.set_cons_succ])
  refine wpAnyH_ready (rs := [13]) (by kernel_rfl) (by simp) ?_
  refine AllReadyH.cons rfl (fun K hK => ?_) AllReadyH.nil
  simp only [List.getElem_toArray, List.getElem_cons_zero, List.getElem_cons_succ]
  go_simp
  go_at_call 26; (with_reducible refine (HM2.out _).mono ?_); rintro e w4 ⟨rfl, b4⟩; have HA4 := HA3.kept b4; have B4 := B3.trans (b4.mono B3.size)
  refine hK.out _ _ ?_ (fun hHeld => ?_)
  · exact K0.out _ HA4
  clear hK K
  (try simp only [Act.put, List.getElem_toArray, List.getElem_cons_zero, List.getElem_cons_succ, List.setIfInBounds_toArray, List.set_cons_zero, List.set_cons_succ])
  refine wpAnyH_take (i := 14) (v := ?_) rfl (by kernel_rfl) (by kernel_rfl) (by kernel_rfl) (fun _ _ _ h => h) (Or.inl ⟨by rfl, ?_⟩) (by assumption) ?_
  rotate_left
  · (intro w hSw; (try dsimp only at hSw); go_simp; (try with_reducible rfl))
  (try simp only [Act.put, List.getElem_toArray, List.getElem_cons_zero, List.getElem_cons_succ, List.setIfInBounds_toArray, List.set_cons_zero, List.set_cons_succ])
  refine wpAnyH_ready (rs := [17]) (by kernel_rfl) (by simp) ?_
  refine AllReadyH.cons rfl (fun K hK => ?_) AllReadyH.nil
  simp only [List.getElem_toArray, List.getElem_cons_zero, List.getElem_cons_succ]
  go_simp
  go_at_call 26; (with_reducible refine (HM3.out _).mono ?_); rintro e w5 ⟨rfl, b5⟩; have HA5 := HA4.kept b5; have B5 := B4.trans (b5.mono B4.size)
  refine hK.out _ _ ?_ (fun hHeld => ?_)
  · exact K0.out _ HA5
  clear hK K
  (try simp only [Act.put, List.getElem_toArray, List.getElem_cons_zero, List.getElem_cons_succ, List.setIfInBounds_toArray, List.set_cons_zero, List.set_cons_succ])
  refine wpAnyH_take (i := 18) (v := ?_) rfl (by kernel_rfl) (by kernel_rfl) (by kernel_rfl) (fun _ _ _ h => h) (Or.inl ⟨by rfl, ?_⟩) (by assumption) ?_
  rotate_left
  · (intro w hSw; (try dsimp only at hSw); go_simp; (try with_reducible rfl))
  (try simp only [Act.put, List.getElem_toArray, List.getElem_cons_zero, List.getElem_cons_succ, List.setIfInBounds_toArray, List.set_cons_zero, List.set_cons_succ])
  refine wpAnyH_ready (rs := [21]) (by kernel_rfl) (by simp) ?_
  refine AllReadyH.cons rfl (fun K hK => ?_) AllReadyH.nil
  simp only [List.getElem_toArray, List.getElem_cons_zero, List.getElem_cons_succ]
  go_simp
  go_at_call 26; (with_reducible refine (HM4.out _).mono ?_); rintro e w6 ⟨rfl, b6⟩; have HA6 := HA5.kept b6; have B6 := B5.trans (b6.mono B5.size)
  refine hK.out _ _ ?_ (fun hHeld => ?_)
  · exact K0.out _ HA6
  clear hK K
  (try simp only [Act.put, List.getElem_toArray, List.getElem_cons_zero, List.getElem_cons_succ, List.setIfInBounds_toArray, List.set_cons_zero, List.set_cons_succ])
  refine wpAnyH_take (i := 22) (v := ?_) rfl (by kernel_rfl) (by kernel_rfl) (by kernel_rfl) (fun _ _ _ h => h) (Or.inl ⟨by rfl, ?_⟩) (by assumption) ?_
  rotate_left
  · (intro w hSw; (try dsimp only at hSw); go_simp; (try with_reducible rfl))
  (try simp only [Act.put, List.getElem_toArray, List.getElem_cons_zero, List.getElem_cons_succ, List.setIfInBounds_toArray, List.set_cons_zero, List.set_cons_succ])
  refine wpAnyH_ready (rs := [23]) (by kernel_rfl) (by simp) ?_
  refine AllReadyH.cons rfl (fun K hK => ?_) AllReadyH.nil
  simp only [List.getElem_toArray, List.getElem_cons_zero, List.getElem_cons_succ]
  go_simp
  go_at_call 27; (with_reducible refine (HZ.out _).mono ?_); rintro e w7 ⟨rfl, b7⟩; have HA7 := HA6.kept b7; have B7 := B6.trans (b7.mono B6.size)
  refine hK.out _ _ ?_ (fun hHeld => ?_)
  · exact K0.out _ HA7
  clear hK K
  (try simp only [Act.put, List.getElem_toArray, List.getElem_cons_zero, List.getElem_cons_succ, List.setIfInBounds_toArray, List.set_cons_zero, List.set_cons_succ])
  refine wpAnyH_take (i := 24) (v := ?_) rfl (by kernel_rfl) (by kernel_rfl) (by kernel_rfl) (fun _ _ _ h => h) (Or.inl ⟨by rfl, ?_⟩) (by assumption) ?_
  rotate_left
  · (intro w hSw; (try dsimp only at hSw); go_simp; (try with_reducible rfl))
  (try simp only [Act.put, List.getElem_toArray, List.getElem_cons_zero, List.getElem_cons_succ, List.setIfInBounds_toArray, List.set_cons_zero, List.set_cons_succ])
  refine wpAnyH_take (i := 25) (v := ?_) rfl (by kernel_rfl) (by kernel_rfl) (by kernel_rfl) (fun _ _ _ h => h) (Or.inl ⟨by rfl, ?_⟩) (by assumption) ?_
  rotate_left
  · (intro w hSw; (try dsimp only at hSw); go_simp; (try with_reducible rfl))
  (try simp only [Act.put, List.getElem_toArray, List.getElem_cons_zero, List.getElem_cons_succ, List.setIfInBounds_toArray, List.set_cons_zero, List.set_cons_succ])
  refine wpAnyH_done (by kernel_rfl) ?_ _
  refine NoPanic.normal ?_
  go_wp2
  go_ret
  exact ⟨by rw [HL.out]; rfl, B7⟩

end Go.Proofs.YtocgnbbnaamjjaaDoor
