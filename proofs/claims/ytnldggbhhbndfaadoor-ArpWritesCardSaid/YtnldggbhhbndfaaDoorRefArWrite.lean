/- The reference writes a message of chapter 6. -/
import Derived.Test.YtnldggbhhbndfaaDoorBlk
import Derived.Test.YtnldggbhhbndfaaDoorArWrite
namespace Go.Proofs.YtnldggbhhbndfaaDoor
open Go.RowKit
attribute [local go_sem ↓] Go.wp_at_zero Go.wp_at_succ
set_option linter.unusedSimpArgs false
set_option linter.unusedVariables false
set_option maxRecDepth 100000

theorem refArWrite_no (a : Ar) (w : World) (hr : arRight a = false) : Calls Tryd.prog 11 #[.agg (arC a)] w fun e w' => e = .returned (.tuple #[.string ⟨#[]⟩, .int .i64 1]) ∧ Below w.heap.size w w' := by
  have hb0 : Below w.heap.size w (w.alloc (.cells (arC a) 26)) := (Below.refl _ _).alloc (Nat.le_refl _) _
  have c0 := (Blk.new w 26 (arC a)).cv 0 (.int .i64 a.op) rfl
  have h1 : (a.op != 1) = true := by unfold arRight at hr; simp at hr ⊢; omega
  have h2 : (a.op != 2) = true := by unfold arRight at hr; simp at hr ⊢; omega
  clear hr
  go_enter Tryd.func11, Tryd.ntmps11
  go_wp2
  go_ret2
  exact ⟨rfl, hb0⟩

set_option maxHeartbeats 1600000 in
theorem refArWrite_1 (a : Ar) (w : World) (ho : a.op = 1) (hA : ArB a) : Calls Tryd.prog 11 #[.agg (arC a)] w fun e w' => e = .returned (.tuple #[.string ⟨(arL 1 a).toArray⟩, .int .i64 0]) ∧ Below w.heap.size w w' := by
  have hb0 : Below w.heap.size w (w.alloc (.cells (arC a) 26)) := (Below.refl _ _).alloc (Nat.le_refl _) _
  have HB := Blk.new w 26 (arC a)
  have HO := Lib.hid ho
  clear ho
  go_enter Tryd.func11, Tryd.ntmps11
  go_upto_region 1 with (fail)
  generalize w.alloc (.cells (arC a) 26) = w1 at *
  have k0 : ∀ W : World, Blk W w.heap.size 26 (arC a) → W.cell? ⟨w.heap.size, 0, none⟩ = some (.int .i64 1) := fun W h => by rw [h.c 0, ← HO.out]; rfl
  have c1 := k0 _ HB
  have K0 := Lib.hid k0
  clear k0
  go_upto_region 3 with (fail)
  have a1 : ∀ W, (Op.stringOp .add ⟨#[0, 1, 8, 0, 6, 4, 0]⟩ ⟨#[1]⟩).run Tryd.prog W = .ok (.string ⟨([0, 1, 8, 0, 6, 4] ++ putL 1 2).toArray⟩) W := fun W => run_string_add_lists (P := Tryd.prog) W [0, 1, 8, 0, 6, 4, 0] [1] (by simp) (by simp)
  have a2 : ∀ W, (Op.stringOp .add ⟨([0, 1, 8, 0, 6, 4] ++ putL 1 2).toArray⟩ ⟨(nb 6 a.sha).toArray⟩).run Tryd.prog W = .ok (.string ⟨([0, 1, 8, 0, 6, 4] ++ putL 1 2 ++ nb 6 a.sha).toArray⟩) W := fun W => run_string_add_lists (P := Tryd.prog) W _ _ (by simp [putL_length]) (by simp [nb_len])
  have a3 : ∀ W, (Op.stringOp .add ⟨([0, 1, 8, 0, 6, 4] ++ putL 1 2 ++ nb 6 a.sha).toArray⟩ ⟨(nb 4 a.spa).toArray⟩).run Tryd.prog W = .ok (.string ⟨([0, 1, 8, 0, 6, 4] ++ putL 1 2 ++ nb 6 a.sha ++ nb 4 a.spa).toArray⟩) W := fun W => run_string_add_lists (P := Tryd.prog) W _ _ (by simp [putL_length, nb_len]) (by simp [nb_len])
  have a4 : ∀ W, (Op.stringOp .add ⟨([0, 1, 8, 0, 6, 4] ++ putL 1 2 ++ nb 6 a.sha ++ nb 4 a.spa).toArray⟩ ⟨(nb 6 a.tha).toArray⟩).run Tryd.prog W = .ok (.string ⟨([0, 1, 8, 0, 6, 4] ++ putL 1 2 ++ nb 6 a.sha ++ nb 4 a.spa ++ nb 6 a.tha).toArray⟩) W := fun W => run_string_add_lists (P := Tryd.prog) W _ _ (by simp [putL_length, nb_len]) (by simp [nb_len])
  have a5 : ∀ W, (Op.stringOp .add ⟨([0, 1, 8, 0, 6, 4] ++ putL 1 2 ++ nb 6 a.sha ++ nb 4 a.spa ++ nb 6 a.tha).toArray⟩ ⟨(nb 4 a.tpa).toArray⟩).run Tryd.prog W = .ok (.string ⟨(arL 1 a).toArray⟩) W := fun W => run_string_add_lists (P := Tryd.prog) W _ _ (by simp [putL_length, nb_len]) (by simp [nb_len])
  generalize ([0, 1, 8, 0, 6, 4] ++ putL 1 2 ++ nb 6 a.sha ++ nb 4 a.spa ++ nb 6 a.tha) = y4 at *
  generalize ([0, 1, 8, 0, 6, 4] ++ putL 1 2 ++ nb 6 a.sha ++ nb 4 a.spa) = y3 at *
  generalize ([0, 1, 8, 0, 6, 4] ++ putL 1 2 ++ nb 6 a.sha) = y2 at *
  generalize ([0, 1, 8, 0, 6, 4] ++ putL 1 2) = y1 at *
  have hone : (convert 65 9 (.slice (some ⟨w1.heap.size, 0, none⟩) 1 1)).run Tryd.prog (w1.alloc (.cells #[.int .u8 1] 5)).drew = .ok (.string ⟨#[1]⟩) (w1.alloc (.cells #[.int .u8 1] 5)).drew := run_convert_bytes_back (P := Tryd.prog) _ 65 9 5 ⟨w1.heap.size, 0, none⟩ 1 [1] Tryd.underlying65 Tryd.underlying5 Tryd.underlying9 (fun j hj => by
    have hj6 : j = 0 := by simp at hj; omega
    subst hj6
    rw [Addr.add_lit]; show (w1.alloc (.cells #[.int .u8 1] 5)).cell? _ = _; rw [World.cell?_alloc_at _ _ _ _ rfl]; rfl)
  have HBd : Blk (w1.alloc (.cells #[.int .u8 1] 5)).drew w.heap.size 26 (arC a) := HB.alloc _
  refine wp_region_noPanic ?_
  refine wp_region_held_drew (S := (fun w' => Blk w' w.heap.size 26 (arC a) ∧ w'.cell? ⟨w.heap.size, 0, none⟩ = some (.int .i64 1))) (by kernel_rfl) ?_ (fun hHeld => ?_)
  · exact ⟨HB, K0.out _ HB⟩
  refine wpAnyH_take (i := 0) (v := ?_) rfl (by kernel_rfl) (by kernel_rfl) (by kernel_rfl) (fun _ _ _ h => h) (Or.inl ⟨by rfl, ?_⟩) (by assumption) ?_
  rotate_left
  · (intro w hSw; (try dsimp only at hSw); go_simp; (try with_reducible rfl))
  (try simp only [Act.put, List.getElem_toArray, List.getElem_cons_zero, List.getElem_cons_succ, List.setIfInBounds_toArray, List.set_cons_zero, List.set_cons_succ])
  refine wpAnyH_take (i := 1) (v := ?_) rfl (by kernel_rfl) (by kernel_rfl) (by kernel_rfl) (fun _ _ _ h => h) (Or.inl ⟨by rfl, ?_⟩) (by assumption) ?_
  rotate_left
  · (intro w hSw; (try dsimp only at hSw); go_simp; (try with_reducible rfl))
  (try simp only [Act.put, List.getElem_toArray, List.getElem_cons_zero, List.getElem_cons_succ, List.setIfInBounds_toArray, List.set_cons_zero, List.set_cons_succ])
  refine wpAnyH_take (i := 2) (v := (.int .u8 1)) rfl (by kernel_rfl) (by kernel_rfl) (by kernel_rfl) (fun _ _ _ h => h) (Or.inl ⟨by rfl, fun w hSw => (by first | rfl | (go_simp; done) | (go_simp; rfl))⟩) (by assumption) ?_
  (try simp only [Act.put, List.getElem_toArray, List.getElem_cons_zero, List.getElem_cons_succ, List.setIfInBounds_toArray, List.set_cons_zero, List.set_cons_succ])
  refine wpAnyH_take (i := 6) (v := ?_) rfl (by kernel_rfl) (by kernel_rfl) (by kernel_rfl) (fun _ _ _ h => h) (Or.inl ⟨by rfl, ?_⟩) (by assumption) ?_
  rotate_left
  · (intro w hSw; (try dsimp only at hSw); go_simp; (try with_reducible rfl))
  (try simp only [Act.put, List.getElem_toArray, List.getElem_cons_zero, List.getElem_cons_succ, List.setIfInBounds_toArray, List.set_cons_zero, List.set_cons_succ])
  refine wpAnyH_take (i := 7) (v := ?_) rfl (by kernel_rfl) (by kernel_rfl) (by kernel_rfl) (fun _ _ _ h => h) (Or.inl ⟨by rfl, ?_⟩) (by assumption) ?_
  rotate_left
  · (intro w hSw; (try dsimp only at hSw); go_simp; (try with_reducible rfl))
  (try simp only [Act.put, List.getElem_toArray, List.getElem_cons_zero, List.getElem_cons_succ, List.setIfInBounds_toArray, List.set_cons_zero, List.set_cons_succ])
  refine wpAnyH_take (i := 8) (v := (.string ⟨(nb 6 a.sha).toArray⟩)) rfl (by kernel_rfl) (by kernel_rfl) (by kernel_rfl) (fun _ _ _ h => h) (Or.inl ⟨by rfl, fun w hSw => exec_text a.sha rfl rfl hA.sha (six_of hSw.1 (k := 1) rfl)⟩) (by assumption) ?_
  (try simp only [Act.put, List.getElem_toArray, List.getElem_cons_zero, List.getElem_cons_succ, List.setIfInBounds_toArray, List.set_cons_zero, List.set_cons_succ])
  refine wpAnyH_take (i := 10) (v := ?_) rfl (by kernel_rfl) (by kernel_rfl) (by kernel_rfl) (fun _ _ _ h => h) (Or.inl ⟨by rfl, ?_⟩) (by assumption) ?_
  rotate_left
  · (intro w hSw; (try dsimp only at hSw); go_simp; (try with_reducible rfl))
  (try simp only [Act.put, List.getElem_toArray, List.getElem_cons_zero, List.getElem_cons_succ, List.setIfInBounds_toArray, List.set_cons_zero, List.set_cons_succ])
  refine wpAnyH_take (i := 11) (v := ?_) rfl (by kernel_rfl) (by kernel_rfl) (by kernel_rfl) (fun _ _ _ h => h) (Or.inl ⟨by rfl, ?_⟩) (by assumption) ?_
  rotate_left
  · (intro w hSw; (try dsimp only at hSw); go_simp; (try with_reducible rfl))
  (try simp only [Act.put, List.getElem_toArray, List.getElem_cons_zero, List.getElem_cons_succ, List.setIfInBounds_toArray, List.set_cons_zero, List.set_cons_succ])
  refine wpAnyH_take (i := 12) (v := (.string ⟨(nb 4 a.spa).toArray⟩)) rfl (by kernel_rfl) (by kernel_rfl) (by kernel_rfl) (fun _ _ _ h => h) (Or.inl ⟨by rfl, fun w hSw => exec_text a.spa rfl rfl hA.spa (four_of hSw.1 (k := 13) rfl)⟩) (by assumption) ?_
  (try simp only [Act.put, List.getElem_toArray, List.getElem_cons_zero, List.getElem_cons_succ, List.setIfInBounds_toArray, List.set_cons_zero, List.set_cons_succ])
  refine wpAnyH_take (i := 14) (v := ?_) rfl (by kernel_rfl) (by kernel_rfl) (by kernel_rfl) (fun _ _ _ h => h) (Or.inl ⟨by rfl, ?_⟩) (by assumption) ?_
  rotate_left
  · (intro w hSw; (try dsimp only at hSw); go_simp; (try with_reducible rfl))
  (try simp only [Act.put, List.getElem_toArray, List.getElem_cons_zero, List.getElem_cons_succ, List.setIfInBounds_toArray, List.set_cons_zero, List.set_cons_succ])
  refine wpAnyH_take (i := 15) (v := ?_) rfl (by kernel_rfl) (by kernel_rfl) (by kernel_rfl) (fun _ _ _ h => h) (Or.inl ⟨by rfl, ?_⟩) (by assumption) ?_
  rotate_left
  · (intro w hSw; (try dsimp only at hSw); go_simp; (try with_reducible rfl))
  (try simp only [Act.put, List.getElem_toArray, List.getElem_cons_zero, List.getElem_cons_succ, List.setIfInBounds_toArray, List.set_cons_zero, List.set_cons_succ])
  refine wpAnyH_take (i := 16) (v := (.string ⟨(nb 6 a.tha).toArray⟩)) rfl (by kernel_rfl) (by kernel_rfl) (by kernel_rfl) (fun _ _ _ h => h) (Or.inl ⟨by rfl, fun w hSw => exec_text a.tha rfl rfl hA.tha (six_of hSw.1 (k := 7) rfl)⟩) (by assumption) ?_
  (try simp only [Act.put, List.getElem_toArray, List.getElem_cons_zero, List.getElem_cons_succ, List.setIfInBounds_toArray, List.set_cons_zero, List.set_cons_succ])
  refine wpAnyH_take (i := 18) (v := ?_) rfl (by kernel_rfl) (by kernel_rfl) (by kernel_rfl) (fun _ _ _ h => h) (Or.inl ⟨by rfl, ?_⟩) (by assumption) ?_
  rotate_left
  · (intro w hSw; (try dsimp only at hSw); go_simp; (try with_reducible rfl))
  (try simp only [Act.put, List.getElem_toArray, List.getElem_cons_zero, List.getElem_cons_succ, List.setIfInBounds_toArray, List.set_cons_zero, List.set_cons_succ])
  refine wpAnyH_take (i := 19) (v := ?_) rfl (by kernel_rfl) (by kernel_rfl) (by kernel_rfl) (fun _ _ _ h => h) (Or.inl ⟨by rfl, ?_⟩) (by assumption) ?_
  rotate_left
  · (intro w hSw; (try dsimp only at hSw); go_simp; (try with_reducible rfl))
  (try simp only [Act.put, List.getElem_toArray, List.getElem_cons_zero, List.getElem_cons_succ, List.setIfInBounds_toArray, List.set_cons_zero, List.set_cons_succ])
  refine wpAnyH_take (i := 20) (v := (.string ⟨(nb 4 a.tpa).toArray⟩)) rfl (by kernel_rfl) (by kernel_rfl) (by kernel_rfl) (fun _ _ _ h => h) (Or.inl ⟨by rfl, fun w hSw => exec_text a.tpa rfl rfl hA.tpa (four_of hSw.1 (k := 17) rfl)⟩) (by assumption) ?_
  (try simp only [Act.put, List.getElem_toArray, List.getElem_cons_zero, List.getElem_cons_succ, List.setIfInBounds_toArray, List.set_cons_zero, List.set_cons_succ])
  refine wpAnyH_ready (rs := [3]) (by kernel_rfl) (by simp) ?_
  refine AllReadyH.cons rfl (fun K hK => ?_) AllReadyH.nil
  simp only [List.getElem_toArray, List.getElem_cons_zero, List.getElem_cons_succ]
  go_simp
  skip
  refine hK.out _ _ ?_ (fun hHeld => ?_)
  · exact ⟨HBd, K0.out _ HBd⟩
  clear hK K
  (try simp only [Act.put, List.getElem_toArray, List.getElem_cons_zero, List.getElem_cons_succ, List.setIfInBounds_toArray, List.set_cons_zero, List.set_cons_succ])
  refine wpAnyH_ready (rs := [4]) (by kernel_rfl) (by simp) ?_
  refine AllReadyH.cons rfl (fun K hK => ?_) AllReadyH.nil
  simp only [List.getElem_toArray, List.getElem_cons_zero, List.getElem_cons_succ]
  go_simp
  skip
  refine hK.out _ _ ?_ (fun hHeld => ?_)
  · exact ⟨HBd, K0.out _ HBd⟩
  clear hK K
  (try simp only [Act.put, List.getElem_toArray, List.getElem_cons_zero, List.getElem_cons_succ, List.setIfInBounds_toArray, List.set_cons_zero, List.set_cons_succ])
  refine wpAnyH_take (i := 5) (v := ?_) rfl (by kernel_rfl) (by kernel_rfl) (by kernel_rfl) (fun _ _ _ h => h) (Or.inl ⟨by rfl, ?_⟩) (by assumption) ?_
  rotate_left
  · (intro w hSw; (try dsimp only at hSw); go_simp; (try with_reducible rfl))
  (try simp only [Act.put, List.getElem_toArray, List.getElem_cons_zero, List.getElem_cons_succ, List.setIfInBounds_toArray, List.set_cons_zero, List.set_cons_succ])
  refine wpAnyH_take (i := 9) (v := ?_) rfl (by kernel_rfl) (by kernel_rfl) (by kernel_rfl) (fun _ _ _ h => h) (Or.inl ⟨by rfl, ?_⟩) (by assumption) ?_
  rotate_left
  · (intro w hSw; (try dsimp only at hSw); go_simp; (try with_reducible rfl))
  (try simp only [Act.put, List.getElem_toArray, List.getElem_cons_zero, List.getElem_cons_succ, List.setIfInBounds_toArray, List.set_cons_zero, List.set_cons_succ])
  refine wpAnyH_take (i := 13) (v := ?_) rfl (by kernel_rfl) (by kernel_rfl) (by kernel_rfl) (fun _ _ _ h => h) (Or.inl ⟨by rfl, ?_⟩) (by assumption) ?_
  rotate_left
  · (intro w hSw; (try dsimp only at hSw); go_simp; (try with_reducible rfl))
  (try simp only [Act.put, List.getElem_toArray, List.getElem_cons_zero, List.getElem_cons_succ, List.setIfInBounds_toArray, List.set_cons_zero, List.set_cons_succ])
  refine wpAnyH_take (i := 17) (v := ?_) rfl (by kernel_rfl) (by kernel_rfl) (by kernel_rfl) (fun _ _ _ h => h) (Or.inl ⟨by rfl, ?_⟩) (by assumption) ?_
  rotate_left
  · (intro w hSw; (try dsimp only at hSw); go_simp; (try with_reducible rfl))
  (try simp only [Act.put, List.getElem_toArray, List.getElem_cons_zero, List.getElem_cons_succ, List.setIfInBounds_toArray, List.set_cons_zero, List.set_cons_succ])
  refine wpAnyH_take (i := 21) (v := ?_) rfl (by kernel_rfl) (by kernel_rfl) (by kernel_rfl) (fun _ _ _ h => h) (Or.inl ⟨by rfl, ?_⟩) (by assumption) ?_
  rotate_left
  · (intro w hSw; (try dsimp only at hSw); go_simp; (try with_reducible rfl))
  (try simp only [Act.put, List.getElem_toArray, List.getElem_cons_zero, List.getElem_cons_succ, List.setIfInBounds_toArray, List.set_cons_zero, List.set_cons_succ])
  refine wpAnyH_take (i := 22) (v := ?_) rfl (by kernel_rfl) (by kernel_rfl) (by kernel_rfl) (fun _ _ _ h => h) (Or.inl ⟨by rfl, ?_⟩) (by assumption) ?_
  rotate_left
  · (intro w hSw; (try dsimp only at hSw); go_simp; (try with_reducible rfl))
  (try simp only [Act.put, List.getElem_toArray, List.getElem_cons_zero, List.getElem_cons_succ, List.setIfInBounds_toArray, List.set_cons_zero, List.set_cons_succ])
  refine wpAnyH_take (i := 23) (v := ?_) rfl (by kernel_rfl) (by kernel_rfl) (by kernel_rfl) (fun _ _ _ h => h) (Or.inl ⟨by rfl, ?_⟩) (by assumption) ?_
  rotate_left
  · (intro w hSw; (try dsimp only at hSw); go_simp; (try with_reducible rfl))
  (try simp only [Act.put, List.getElem_toArray, List.getElem_cons_zero, List.getElem_cons_succ, List.setIfInBounds_toArray, List.set_cons_zero, List.set_cons_succ])
  refine wpAnyH_done (by kernel_rfl) ?_ _
  refine NoPanic.normal ?_
  have B3 : Below w.heap.size w (w1.alloc (.cells #[.int .u8 1] 5)).drew := (hb0.alloc hb0.size _).drew
  go_wp2
  go_ret2
  exact ⟨rfl, B3⟩

set_option maxHeartbeats 1600000 in
theorem refArWrite_2 (a : Ar) (w : World) (ho : a.op = 2) (hA : ArB a) : Calls Tryd.prog 11 #[.agg (arC a)] w fun e w' => e = .returned (.tuple #[.string ⟨(arL 2 a).toArray⟩, .int .i64 0]) ∧ Below w.heap.size w w' := by
  have hb0 : Below w.heap.size w (w.alloc (.cells (arC a) 26)) := (Below.refl _ _).alloc (Nat.le_refl _) _
  have HB := Blk.new w 26 (arC a)
  have HO := Lib.hid ho
  clear ho
  go_enter Tryd.func11, Tryd.ntmps11
  go_upto_region 1 with (fail)
  generalize w.alloc (.cells (arC a) 26) = w1 at *
  have k0 : ∀ W : World, Blk W w.heap.size 26 (arC a) → W.cell? ⟨w.heap.size, 0, none⟩ = some (.int .i64 2) := fun W h => by rw [h.c 0, ← HO.out]; rfl
  have c1 := k0 _ HB
  have K0 := Lib.hid k0
  clear k0
  go_upto_region 3 with (fail)
  have a1 : ∀ W, (Op.stringOp .add ⟨#[0, 1, 8, 0, 6, 4, 0]⟩ ⟨#[2]⟩).run Tryd.prog W = .ok (.string ⟨([0, 1, 8, 0, 6, 4] ++ putL 2 2).toArray⟩) W := fun W => run_string_add_lists (P := Tryd.prog) W [0, 1, 8, 0, 6, 4, 0] [2] (by simp) (by simp)
  have a2 : ∀ W, (Op.stringOp .add ⟨([0, 1, 8, 0, 6, 4] ++ putL 2 2).toArray⟩ ⟨(nb 6 a.sha).toArray⟩).run Tryd.prog W = .ok (.string ⟨([0, 1, 8, 0, 6, 4] ++ putL 2 2 ++ nb 6 a.sha).toArray⟩) W := fun W => run_string_add_lists (P := Tryd.prog) W _ _ (by simp [putL_length]) (by simp [nb_len])
  have a3 : ∀ W, (Op.stringOp .add ⟨([0, 1, 8, 0, 6, 4] ++ putL 2 2 ++ nb 6 a.sha).toArray⟩ ⟨(nb 4 a.spa).toArray⟩).run Tryd.prog W = .ok (.string ⟨([0, 1, 8, 0, 6, 4] ++ putL 2 2 ++ nb 6 a.sha ++ nb 4 a.spa).toArray⟩) W := fun W => run_string_add_lists (P := Tryd.prog) W _ _ (by simp [putL_length, nb_len]) (by simp [nb_len])
  have a4 : ∀ W, (Op.stringOp .add ⟨([0, 1, 8, 0, 6, 4] ++ putL 2 2 ++ nb 6 a.sha ++ nb 4 a.spa).toArray⟩ ⟨(nb 6 a.tha).toArray⟩).run Tryd.prog W = .ok (.string ⟨([0, 1, 8, 0, 6, 4] ++ putL 2 2 ++ nb 6 a.sha ++ nb 4 a.spa ++ nb 6 a.tha).toArray⟩) W := fun W => run_string_add_lists (P := Tryd.prog) W _ _ (by simp [putL_length, nb_len]) (by simp [nb_len])
  have a5 : ∀ W, (Op.stringOp .add ⟨([0, 1, 8, 0, 6, 4] ++ putL 2 2 ++ nb 6 a.sha ++ nb 4 a.spa ++ nb 6 a.tha).toArray⟩ ⟨(nb 4 a.tpa).toArray⟩).run Tryd.prog W = .ok (.string ⟨(arL 2 a).toArray⟩) W := fun W => run_string_add_lists (P := Tryd.prog) W _ _ (by simp [putL_length, nb_len]) (by simp [nb_len])
  generalize ([0, 1, 8, 0, 6, 4] ++ putL 2 2 ++ nb 6 a.sha ++ nb 4 a.spa ++ nb 6 a.tha) = y4 at *
  generalize ([0, 1, 8, 0, 6, 4] ++ putL 2 2 ++ nb 6 a.sha ++ nb 4 a.spa) = y3 at *
  generalize ([0, 1, 8, 0, 6, 4] ++ putL 2 2 ++ nb 6 a.sha) = y2 at *
  generalize ([0, 1, 8, 0, 6, 4] ++ putL 2 2) = y1 at *
  have hone : (convert 65 9 (.slice (some ⟨w1.heap.size, 0, none⟩) 1 1)).run Tryd.prog (w1.alloc (.cells #[.int .u8 2] 5)).drew = .ok (.string ⟨#[2]⟩) (w1.alloc (.cells #[.int .u8 2] 5)).drew := run_convert_bytes_back (P := Tryd.prog) _ 65 9 5 ⟨w1.heap.size, 0, none⟩ 1 [2] Tryd.underlying65 Tryd.underlying5 Tryd.underlying9 (fun j hj => by
    have hj6 : j = 0 := by simp at hj; omega
    subst hj6
    rw [Addr.add_lit]; show (w1.alloc (.cells #[.int .u8 2] 5)).cell? _ = _; rw [World.cell?_alloc_at _ _ _ _ rfl]; rfl)
  have HBd : Blk (w1.alloc (.cells #[.int .u8 2] 5)).drew w.heap.size 26 (arC a) := HB.alloc _
  refine wp_region_noPanic ?_
  refine wp_region_held_drew (S := (fun w' => Blk w' w.heap.size 26 (arC a) ∧ w'.cell? ⟨w.heap.size, 0, none⟩ = some (.int .i64 2))) (by kernel_rfl) ?_ (fun hHeld => ?_)
  · exact ⟨HB, K0.out _ HB⟩
  refine wpAnyH_take (i := 0) (v := ?_) rfl (by kernel_rfl) (by kernel_rfl) (by kernel_rfl) (fun _ _ _ h => h) (Or.inl ⟨by rfl, ?_⟩) (by assumption) ?_
  rotate_left
  · (intro w hSw; (try dsimp only at hSw); go_simp; (try with_reducible rfl))
  (try simp only [Act.put, List.getElem_toArray, List.getElem_cons_zero, List.getElem_cons_succ, List.setIfInBounds_toArray, List.set_cons_zero, List.set_cons_succ])
  refine wpAnyH_take (i := 1) (v := ?_) rfl (by kernel_rfl) (by kernel_rfl) (by kernel_rfl) (fun _ _ _ h => h) (Or.inl ⟨by rfl, ?_⟩) (by assumption) ?_
  rotate_left
  · (intro w hSw; (try dsimp only at hSw); go_simp; (try with_reducible rfl))
  (try simp only [Act.put, List.getElem_toArray, List.getElem_cons_zero, List.getElem_cons_succ, List.setIfInBounds_toArray, List.set_cons_zero, List.set_cons_succ])
  refine wpAnyH_take (i := 2) (v := (.int .u8 2)) rfl (by kernel_rfl) (by kernel_rfl) (by kernel_rfl) (fun _ _ _ h => h) (Or.inl ⟨by rfl, fun w hSw => (by first | rfl | (go_simp; done) | (go_simp; rfl))⟩) (by assumption) ?_
  (try simp only [Act.put, List.getElem_toArray, List.getElem_cons_zero, List.getElem_cons_succ, List.setIfInBounds_toArray, List.set_cons_zero, List.set_cons_succ])
  refine wpAnyH_take (i := 6) (v := ?_) rfl (by kernel_rfl) (by kernel_rfl) (by kernel_rfl) (fun _ _ _ h => h) (Or.inl ⟨by rfl, ?_⟩) (by assumption) ?_
  rotate_left
  · (intro w hSw; (try dsimp only at hSw); go_simp; (try with_reducible rfl))
  (try simp only [Act.put, List.getElem_toArray, List.getElem_cons_zero, List.getElem_cons_succ, List.setIfInBounds_toArray, List.set_cons_zero, List.set_cons_succ])
  refine wpAnyH_take (i := 7) (v := ?_) rfl (by kernel_rfl) (by kernel_rfl) (by kernel_rfl) (fun _ _ _ h => h) (Or.inl ⟨by rfl, ?_⟩) (by assumption) ?_
  rotate_left
  · (intro w hSw; (try dsimp only at hSw); go_simp; (try with_reducible rfl))
  (try simp only [Act.put, List.getElem_toArray, List.getElem_cons_zero, List.getElem_cons_succ, List.setIfInBounds_toArray, List.set_cons_zero, List.set_cons_succ])
  refine wpAnyH_take (i := 8) (v := (.string ⟨(nb 6 a.sha).toArray⟩)) rfl (by kernel_rfl) (by kernel_rfl) (by kernel_rfl) (fun _ _ _ h => h) (Or.inl ⟨by rfl, fun w hSw => exec_text a.sha rfl rfl hA.sha (six_of hSw.1 (k := 1) rfl)⟩) (by assumption) ?_
  (try simp only [Act.put, List.getElem_toArray, List.getElem_cons_zero, List.getElem_cons_succ, List.setIfInBounds_toArray, List.set_cons_zero, List.set_cons_succ])
  refine wpAnyH_take (i := 10) (v := ?_) rfl (by kernel_rfl) (by kernel_rfl) (by kernel_rfl) (fun _ _ _ h => h) (Or.inl ⟨by rfl, ?_⟩) (by assumption) ?_
  rotate_left
  · (intro w hSw; (try dsimp only at hSw); go_simp; (try with_reducible rfl))
  (try simp only [Act.put, List.getElem_toArray, List.getElem_cons_zero, List.getElem_cons_succ, List.setIfInBounds_toArray, List.set_cons_zero, List.set_cons_succ])
  refine wpAnyH_take (i := 11) (v := ?_) rfl (by kernel_rfl) (by kernel_rfl) (by kernel_rfl) (fun _ _ _ h => h) (Or.inl ⟨by rfl, ?_⟩) (by assumption) ?_
  rotate_left
  · (intro w hSw; (try dsimp only at hSw); go_simp; (try with_reducible rfl))
  (try simp only [Act.put, List.getElem_toArray, List.getElem_cons_zero, List.getElem_cons_succ, List.setIfInBounds_toArray, List.set_cons_zero, List.set_cons_succ])
  refine wpAnyH_take (i := 12) (v := (.string ⟨(nb 4 a.spa).toArray⟩)) rfl (by kernel_rfl) (by kernel_rfl) (by kernel_rfl) (fun _ _ _ h => h) (Or.inl ⟨by rfl, fun w hSw => exec_text a.spa rfl rfl hA.spa (four_of hSw.1 (k := 13) rfl)⟩) (by assumption) ?_
  (try simp only [Act.put, List.getElem_toArray, List.getElem_cons_zero, List.getElem_cons_succ, List.setIfInBounds_toArray, List.set_cons_zero, List.set_cons_succ])
  refine wpAnyH_take (i := 14) (v := ?_) rfl (by kernel_rfl) (by kernel_rfl) (by kernel_rfl) (fun _ _ _ h => h) (Or.inl ⟨by rfl, ?_⟩) (by assumption) ?_
  rotate_left
  · (intro w hSw; (try dsimp only at hSw); go_simp; (try with_reducible rfl))
  (try simp only [Act.put, List.getElem_toArray, List.getElem_cons_zero, List.getElem_cons_succ, List.setIfInBounds_toArray, List.set_cons_zero, List.set_cons_succ])
  refine wpAnyH_take (i := 15) (v := ?_) rfl (by kernel_rfl) (by kernel_rfl) (by kernel_rfl) (fun _ _ _ h => h) (Or.inl ⟨by rfl, ?_⟩) (by assumption) ?_
  rotate_left
  · (intro w hSw; (try dsimp only at hSw); go_simp; (try with_reducible rfl))
  (try simp only [Act.put, List.getElem_toArray, List.getElem_cons_zero, List.getElem_cons_succ, List.setIfInBounds_toArray, List.set_cons_zero, List.set_cons_succ])
  refine wpAnyH_take (i := 16) (v := (.string ⟨(nb 6 a.tha).toArray⟩)) rfl (by kernel_rfl) (by kernel_rfl) (by kernel_rfl) (fun _ _ _ h => h) (Or.inl ⟨by rfl, fun w hSw => exec_text a.tha rfl rfl hA.tha (six_of hSw.1 (k := 7) rfl)⟩) (by assumption) ?_
  (try simp only [Act.put, List.getElem_toArray, List.getElem_cons_zero, List.getElem_cons_succ, List.setIfInBounds_toArray, List.set_cons_zero, List.set_cons_succ])
  refine wpAnyH_take (i := 18) (v := ?_) rfl (by kernel_rfl) (by kernel_rfl) (by kernel_rfl) (fun _ _ _ h => h) (Or.inl ⟨by rfl, ?_⟩) (by assumption) ?_
  rotate_left
  · (intro w hSw; (try dsimp only at hSw); go_simp; (try with_reducible rfl))
  (try simp only [Act.put, List.getElem_toArray, List.getElem_cons_zero, List.getElem_cons_succ, List.setIfInBounds_toArray, List.set_cons_zero, List.set_cons_succ])
  refine wpAnyH_take (i := 19) (v := ?_) rfl (by kernel_rfl) (by kernel_rfl) (by kernel_rfl) (fun _ _ _ h => h) (Or.inl ⟨by rfl, ?_⟩) (by assumption) ?_
  rotate_left
  · (intro w hSw; (try dsimp only at hSw); go_simp; (try with_reducible rfl))
  (try simp only [Act.put, List.getElem_toArray, List.getElem_cons_zero, List.getElem_cons_succ, List.setIfInBounds_toArray, List.set_cons_zero, List.set_cons_succ])
  refine wpAnyH_take (i := 20) (v := (.string ⟨(nb 4 a.tpa).toArray⟩)) rfl (by kernel_rfl) (by kernel_rfl) (by kernel_rfl) (fun _ _ _ h => h) (Or.inl ⟨by rfl, fun w hSw => exec_text a.tpa rfl rfl hA.tpa (four_of hSw.1 (k := 17) rfl)⟩) (by assumption) ?_
  (try simp only [Act.put, List.getElem_toArray, List.getElem_cons_zero, List.getElem_cons_succ, List.setIfInBounds_toArray, List.set_cons_zero, List.set_cons_succ])
  refine wpAnyH_ready (rs := [3]) (by kernel_rfl) (by simp) ?_
  refine AllReadyH.cons rfl (fun K hK => ?_) AllReadyH.nil
  simp only [List.getElem_toArray, List.getElem_cons_zero, List.getElem_cons_succ]
  go_simp
  skip
  refine hK.out _ _ ?_ (fun hHeld => ?_)
  · exact ⟨HBd, K0.out _ HBd⟩
  clear hK K
  (try simp only [Act.put, List.getElem_toArray, List.getElem_cons_zero, List.getElem_cons_succ, List.setIfInBounds_toArray, List.set_cons_zero, List.set_cons_succ])
  refine wpAnyH_ready (rs := [4]) (by kernel_rfl) (by simp) ?_
  refine AllReadyH.cons rfl (fun K hK => ?_) AllReadyH.nil
  simp only [List.getElem_toArray, List.getElem_cons_zero, List.getElem_cons_succ]
  go_simp
  skip
  refine hK.out _ _ ?_ (fun hHeld => ?_)
  · exact ⟨HBd, K0.out _ HBd⟩
  clear hK K
  (try simp only [Act.put, List.getElem_toArray, List.getElem_cons_zero, List.getElem_cons_succ, List.setIfInBounds_toArray, List.set_cons_zero, List.set_cons_succ])
  refine wpAnyH_take (i := 5) (v := ?_) rfl (by kernel_rfl) (by kernel_rfl) (by kernel_rfl) (fun _ _ _ h => h) (Or.inl ⟨by rfl, ?_⟩) (by assumption) ?_
  rotate_left
  · (intro w hSw; (try dsimp only at hSw); go_simp; (try with_reducible rfl))
  (try simp only [Act.put, List.getElem_toArray, List.getElem_cons_zero, List.getElem_cons_succ, List.setIfInBounds_toArray, List.set_cons_zero, List.set_cons_succ])
  refine wpAnyH_take (i := 9) (v := ?_) rfl (by kernel_rfl) (by kernel_rfl) (by kernel_rfl) (fun _ _ _ h => h) (Or.inl ⟨by rfl, ?_⟩) (by assumption) ?_
  rotate_left
  · (intro w hSw; (try dsimp only at hSw); go_simp; (try with_reducible rfl))
  (try simp only [Act.put, List.getElem_toArray, List.getElem_cons_zero, List.getElem_cons_succ, List.setIfInBounds_toArray, List.set_cons_zero, List.set_cons_succ])
  refine wpAnyH_take (i := 13) (v := ?_) rfl (by kernel_rfl) (by kernel_rfl) (by kernel_rfl) (fun _ _ _ h => h) (Or.inl ⟨by rfl, ?_⟩) (by assumption) ?_
  rotate_left
  · (intro w hSw; (try dsimp only at hSw); go_simp; (try with_reducible rfl))
  (try simp only [Act.put, List.getElem_toArray, List.getElem_cons_zero, List.getElem_cons_succ, List.setIfInBounds_toArray, List.set_cons_zero, List.set_cons_succ])
  refine wpAnyH_take (i := 17) (v := ?_) rfl (by kernel_rfl) (by kernel_rfl) (by kernel_rfl) (fun _ _ _ h => h) (Or.inl ⟨by rfl, ?_⟩) (by assumption) ?_
  rotate_left
  · (intro w hSw; (try dsimp only at hSw); go_simp; (try with_reducible rfl))
  (try simp only [Act.put, List.getElem_toArray, List.getElem_cons_zero, List.getElem_cons_succ, List.setIfInBounds_toArray, List.set_cons_zero, List.set_cons_succ])
  refine wpAnyH_take (i := 21) (v := ?_) rfl (by kernel_rfl) (by kernel_rfl) (by kernel_rfl) (fun _ _ _ h => h) (Or.inl ⟨by rfl, ?_⟩) (by assumption) ?_
  rotate_left
  · (intro w hSw; (try dsimp only at hSw); go_simp; (try with_reducible rfl))
  (try simp only [Act.put, List.getElem_toArray, List.getElem_cons_zero, List.getElem_cons_succ, List.setIfInBounds_toArray, List.set_cons_zero, List.set_cons_succ])
  refine wpAnyH_take (i := 22) (v := ?_) rfl (by kernel_rfl) (by kernel_rfl) (by kernel_rfl) (fun _ _ _ h => h) (Or.inl ⟨by rfl, ?_⟩) (by assumption) ?_
  rotate_left
  · (intro w hSw; (try dsimp only at hSw); go_simp; (try with_reducible rfl))
  (try simp only [Act.put, List.getElem_toArray, List.getElem_cons_zero, List.getElem_cons_succ, List.setIfInBounds_toArray, List.set_cons_zero, List.set_cons_succ])
  refine wpAnyH_take (i := 23) (v := ?_) rfl (by kernel_rfl) (by kernel_rfl) (by kernel_rfl) (fun _ _ _ h => h) (Or.inl ⟨by rfl, ?_⟩) (by assumption) ?_
  rotate_left
  · (intro w hSw; (try dsimp only at hSw); go_simp; (try with_reducible rfl))
  (try simp only [Act.put, List.getElem_toArray, List.getElem_cons_zero, List.getElem_cons_succ, List.setIfInBounds_toArray, List.set_cons_zero, List.set_cons_succ])
  refine wpAnyH_done (by kernel_rfl) ?_ _
  refine NoPanic.normal ?_
  have B3 : Below w.heap.size w (w1.alloc (.cells #[.int .u8 2] 5)).drew := (hb0.alloc hb0.size _).drew
  go_wp2
  go_ret2
  exact ⟨rfl, B3⟩

end Go.Proofs.YtnldggbhhbndfaaDoor
