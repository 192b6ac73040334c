/- arp.Write at every message. -/
import Derived.Test.YtjoepmfineinfaaDoorBlk
import Derived.Test.YtjoepmfineinfaaDoorAr
import Derived.Test.YtjoepmfineinfaaDoorMust
namespace Go.Proofs.YtjoepmfineinfaaDoor
open Go.RowKit
attribute [local go_sem ↓] Go.wp_at_zero Go.wp_at_succ
set_option linter.unusedSimpArgs false
set_option linter.unusedVariables false
set_option maxRecDepth 100000

/-- 6.1: the bytes of a message. -/
def arL (n : Nat) (a : Ar) : List UInt8 := [0, 1, 8, 0, 6, 4] ++ putL n 2 ++ nb 6 a.sha ++ nb 4 a.spa ++ nb 6 a.tha ++ nb 4 a.tpa

theorem arL_len (n : Nat) (a : Ar) : (arL n a).length = 28 := by simp [arL, putL_length, nb_len]

theorem arWrite_no (a : Ar) (w : World) (hr : arRight a = false) : Calls Tryd.prog 13 #[.agg (arC a)] w fun e w' => e = .returned (.tuple #[.string ⟨#[]⟩, .iface 27 (.int .i64 1)]) ∧ Below w.heap.size w w' := by
  have hb0 : Below w.heap.size w (w.alloc (.cells (arC a) 26)) := (Below.refl _ _).alloc (Nat.le_refl _) _
  have HB := Blk.new w 26 (arC a)
  have HR : Hid (∀ W, Calls Tryd.prog 12 #[.agg (arC a)] W fun e w' => e = .returned (.bool false) ∧ Below W.heap.size W w') := fun W => by have h := arRight_any a W; rw [hr] at h; exact h
  clear hr
  go_enter Tryd.func13, Tryd.ntmps13
  go_upto_region 1 with (fail)
  generalize w.alloc (.cells (arC a) 26) = w1 at *
  go_wp2_with (first | (refine load_blk 26 (arC a) (by rfl) rfl rfl HB (by kernel_rfl) (by kernel_rfl) rfl ?_) | (go_at_call 12; (with_reducible refine (HR.out _).mono ?_); rintro e w2 ⟨rfl, b2⟩))
  go_ret2
  exact ⟨rfl, hb0.trans (b2.mono hb0.size)⟩

set_option maxHeartbeats 1600000 in
theorem arWrite_yes (n : Nat) (a : Ar) (w : World) (hn : n = 1 ∨ n = 2) (ho : a.op = n) (hA : ArB a) : Calls Tryd.prog 13 #[.agg (arC a)] w fun e w' => e = .returned (.tuple #[.string ⟨(arL n a).toArray⟩, .nilIface]) ∧ Below w.heap.size w w' := by
  have hb0 : Below w.heap.size w (w.alloc (.cells (arC a) 26)) := (Below.refl _ _).alloc (Nat.le_refl _) _
  have HB := Blk.new w 26 (arC a)
  have hn256 : n < 256 ^ 2 := by rcases hn with rfl | rfl <;> decide
  have hr : arRight a = true := by unfold arRight; rw [ho]; rcases hn with rfl | rfl <;> rfl
  have HR : Hid (∀ W, Calls Tryd.prog 12 #[.agg (arC a)] W fun e w' => e = .returned (.bool true) ∧ Below W.heap.size W w') := fun W => by have h := arRight_any a W; rw [hr] at h; exact h
  have HM : Hid (∀ W, Calls Tryd.prog 41 #[.int .i64 n, .int .i64 2] W fun e w' => e = .returned (.string ⟨(putL n 2).toArray⟩) ∧ Below W.heap.size W w') := fun W => must_fits n 2 W (by decide) (by decide) hn256
  clear hr hn256 hn
  have HO := Lib.hid ho
  clear ho
  go_enter Tryd.func13, Tryd.ntmps13
  go_upto_region 1 with (fail)
  generalize w.alloc (.cells (arC a) 26) = w1 at *
  go_upto_region 3 with (first | (refine load_blk 26 (arC a) (by rfl) rfl rfl HB (by kernel_rfl) (by kernel_rfl) rfl ?_) | (go_at_call 12; (with_reducible refine (HR.out _).mono ?_); rintro e w2 ⟨rfl, b2⟩))
  have HB2 : Blk w2 w.heap.size 26 (arC a) := HB.kept b2
  have B2 : Below w.heap.size w w2 := hb0.trans (b2.mono hb0.size)
  clear b2 HB hb0 HR
  have k0 : ∀ W : World, Blk W w.heap.size 26 (arC a) → W.cell? ⟨w.heap.size, 0, none⟩ = some (.int .i64 n) := fun W h => by rw [h.c 0, ← HO.out]; rfl
  have a1 : ∀ W, (Op.stringOp .add ⟨#[0, 1, 8, 0, 6, 4]⟩ ⟨(putL n 2).toArray⟩).run Tryd.prog W = .ok (.string ⟨([0, 1, 8, 0, 6, 4] ++ putL n 2).toArray⟩) W := fun W => run_string_add_lists (P := Tryd.prog) W [0, 1, 8, 0, 6, 4] (putL n 2) (by simp) (by simp [putL_length])
  have a2 : ∀ W, (Op.stringOp .add ⟨([0, 1, 8, 0, 6, 4] ++ putL n 2).toArray⟩ ⟨(nb 6 a.sha).toArray⟩).run Tryd.prog W = .ok (.string ⟨([0, 1, 8, 0, 6, 4] ++ putL n 2 ++ nb 6 a.sha).toArray⟩) W := fun W => run_string_add_lists (P := Tryd.prog) W _ _ (by simp [putL_length]) (by simp [nb_len])
  have a3 : ∀ W, (Op.stringOp .add ⟨([0, 1, 8, 0, 6, 4] ++ putL n 2 ++ nb 6 a.sha).toArray⟩ ⟨(nb 4 a.spa).toArray⟩).run Tryd.prog W = .ok (.string ⟨([0, 1, 8, 0, 6, 4] ++ putL n 2 ++ nb 6 a.sha ++ nb 4 a.spa).toArray⟩) W := fun W => run_string_add_lists (P := Tryd.prog) W _ _ (by simp [putL_length, nb_len]) (by simp [nb_len])
  have a4 : ∀ W, (Op.stringOp .add ⟨([0, 1, 8, 0, 6, 4] ++ putL n 2 ++ nb 6 a.sha ++ nb 4 a.spa).toArray⟩ ⟨(nb 6 a.tha).toArray⟩).run Tryd.prog W = .ok (.string ⟨([0, 1, 8, 0, 6, 4] ++ putL n 2 ++ nb 6 a.sha ++ nb 4 a.spa ++ nb 6 a.tha).toArray⟩) W := fun W => run_string_add_lists (P := Tryd.prog) W _ _ (by simp [putL_length, nb_len]) (by simp [nb_len])
  have a5 : ∀ W, (Op.stringOp .add ⟨([0, 1, 8, 0, 6, 4] ++ putL n 2 ++ nb 6 a.sha ++ nb 4 a.spa ++ nb 6 a.tha).toArray⟩ ⟨(nb 4 a.tpa).toArray⟩).run Tryd.prog W = .ok (.string ⟨(arL n a).toArray⟩) W := fun W => run_string_add_lists (P := Tryd.prog) W _ _ (by simp [putL_length, nb_len]) (by simp [nb_len])
  generalize ([0, 1, 8, 0, 6, 4] ++ putL n 2 ++ nb 6 a.sha ++ nb 4 a.spa ++ nb 6 a.tha) = y4 at *
  generalize ([0, 1, 8, 0, 6, 4] ++ putL n 2 ++ nb 6 a.sha ++ nb 4 a.spa) = y3 at *
  generalize ([0, 1, 8, 0, 6, 4] ++ putL n 2 ++ nb 6 a.sha) = y2 at *
  generalize ([0, 1, 8, 0, 6, 4] ++ putL n 2) = y1 at *
  refine wp_region_noPanic ?_
  refine wp_region_held_drew (S := (fun w' => Blk w' w.heap.size 26 (arC a) ∧ w'.cell? ⟨w.heap.size, 0, none⟩ = some (.int .i64 n))) (by kernel_rfl) ?_ (fun hHeld => ?_)
  · exact ⟨HB2, k0 _ HB2⟩
  refine wpAnyH_take (i := 0) (v := ?_) rfl (by kernel_rfl) (by kernel_rfl) (by kernel_rfl) (fun _ _ _ h => h) (Or.inl ⟨by rfl, ?_⟩) (by assumption) ?_
  rotate_left
  · (intro w hSw; (try dsimp only at hSw); go_simp; (try with_reducible rfl))
  (try simp only [Act.put, List.getElem_toArray, List.getElem_cons_zero, List.getElem_cons_succ, List.setIfInBounds_toArray, List.set_cons_zero, List.set_cons_succ])
  refine wpAnyH_take (i := 1) (v := ?_) rfl (by kernel_rfl) (by kernel_rfl) (by kernel_rfl) (fun _ _ _ h => h) (Or.inl ⟨by rfl, ?_⟩) (by assumption) ?_
  rotate_left
  · (intro w hSw; (try dsimp only at hSw); go_simp; (try with_reducible rfl))
  (try simp only [Act.put, List.getElem_toArray, List.getElem_cons_zero, List.getElem_cons_succ, List.setIfInBounds_toArray, List.set_cons_zero, List.set_cons_succ])
  refine wpAnyH_take (i := 4) (v := ?_) rfl (by kernel_rfl) (by kernel_rfl) (by kernel_rfl) (fun _ _ _ h => h) (Or.inl ⟨by rfl, ?_⟩) (by assumption) ?_
  rotate_left
  · (intro w hSw; (try dsimp only at hSw); go_simp; (try with_reducible rfl))
  (try simp only [Act.put, List.getElem_toArray, List.getElem_cons_zero, List.getElem_cons_succ, List.setIfInBounds_toArray, List.set_cons_zero, List.set_cons_succ])
  refine wpAnyH_take (i := 5) (v := ?_) rfl (by kernel_rfl) (by kernel_rfl) (by kernel_rfl) (fun _ _ _ h => h) (Or.inl ⟨by rfl, ?_⟩) (by assumption) ?_
  rotate_left
  · (intro w hSw; (try dsimp only at hSw); go_simp; (try with_reducible rfl))
  (try simp only [Act.put, List.getElem_toArray, List.getElem_cons_zero, List.getElem_cons_succ, List.setIfInBounds_toArray, List.set_cons_zero, List.set_cons_succ])
  refine wpAnyH_take (i := 6) (v := (.string ⟨(nb 6 a.sha).toArray⟩)) rfl (by kernel_rfl) (by kernel_rfl) (by kernel_rfl) (fun _ _ _ h => h) (Or.inl ⟨by rfl, fun w hSw => exec_text a.sha rfl rfl hA.sha (six_of hSw.1 (k := 1) rfl)⟩) (by assumption) ?_
  (try simp only [Act.put, List.getElem_toArray, List.getElem_cons_zero, List.getElem_cons_succ, List.setIfInBounds_toArray, List.set_cons_zero, List.set_cons_succ])
  refine wpAnyH_take (i := 8) (v := ?_) rfl (by kernel_rfl) (by kernel_rfl) (by kernel_rfl) (fun _ _ _ h => h) (Or.inl ⟨by rfl, ?_⟩) (by assumption) ?_
  rotate_left
  · (intro w hSw; (try dsimp only at hSw); go_simp; (try with_reducible rfl))
  (try simp only [Act.put, List.getElem_toArray, List.getElem_cons_zero, List.getElem_cons_succ, List.setIfInBounds_toArray, List.set_cons_zero, List.set_cons_succ])
  refine wpAnyH_take (i := 9) (v := ?_) rfl (by kernel_rfl) (by kernel_rfl) (by kernel_rfl) (fun _ _ _ h => h) (Or.inl ⟨by rfl, ?_⟩) (by assumption) ?_
  rotate_left
  · (intro w hSw; (try dsimp only at hSw); go_simp; (try with_reducible rfl))
  (try simp only [Act.put, List.getElem_toArray, List.getElem_cons_zero, List.getElem_cons_succ, List.setIfInBounds_toArray, List.set_cons_zero, List.set_cons_succ])
  refine wpAnyH_take (i := 10) (v := (.string ⟨(nb 4 a.spa).toArray⟩)) rfl (by kernel_rfl) (by kernel_rfl) (by kernel_rfl) (fun _ _ _ h => h) (Or.inl ⟨by rfl, fun w hSw => exec_text a.spa rfl rfl hA.spa (four_of hSw.1 (k := 13) rfl)⟩) (by assumption) ?_
  (try simp only [Act.put, List.getElem_toArray, List.getElem_cons_zero, List.getElem_cons_succ, List.setIfInBounds_toArray, List.set_cons_zero, List.set_cons_succ])
  refine wpAnyH_take (i := 12) (v := ?_) rfl (by kernel_rfl) (by kernel_rfl) (by kernel_rfl) (fun _ _ _ h => h) (Or.inl ⟨by rfl, ?_⟩) (by assumption) ?_
  rotate_left
  · (intro w hSw; (try dsimp only at hSw); go_simp; (try with_reducible rfl))
  (try simp only [Act.put, List.getElem_toArray, List.getElem_cons_zero, List.getElem_cons_succ, List.setIfInBounds_toArray, List.set_cons_zero, List.set_cons_succ])
  refine wpAnyH_take (i := 13) (v := ?_) rfl (by kernel_rfl) (by kernel_rfl) (by kernel_rfl) (fun _ _ _ h => h) (Or.inl ⟨by rfl, ?_⟩) (by assumption) ?_
  rotate_left
  · (intro w hSw; (try dsimp only at hSw); go_simp; (try with_reducible rfl))
  (try simp only [Act.put, List.getElem_toArray, List.getElem_cons_zero, List.getElem_cons_succ, List.setIfInBounds_toArray, List.set_cons_zero, List.set_cons_succ])
  refine wpAnyH_take (i := 14) (v := (.string ⟨(nb 6 a.tha).toArray⟩)) rfl (by kernel_rfl) (by kernel_rfl) (by kernel_rfl) (fun _ _ _ h => h) (Or.inl ⟨by rfl, fun w hSw => exec_text a.tha rfl rfl hA.tha (six_of hSw.1 (k := 7) rfl)⟩) (by assumption) ?_
  (try simp only [Act.put, List.getElem_toArray, List.getElem_cons_zero, List.getElem_cons_succ, List.setIfInBounds_toArray, List.set_cons_zero, List.set_cons_succ])
  refine wpAnyH_take (i := 16) (v := ?_) rfl (by kernel_rfl) (by kernel_rfl) (by kernel_rfl) (fun _ _ _ h => h) (Or.inl ⟨by rfl, ?_⟩) (by assumption) ?_
  rotate_left
  · (intro w hSw; (try dsimp only at hSw); go_simp; (try with_reducible rfl))
  (try simp only [Act.put, List.getElem_toArray, List.getElem_cons_zero, List.getElem_cons_succ, List.setIfInBounds_toArray, List.set_cons_zero, List.set_cons_succ])
  refine wpAnyH_take (i := 17) (v := ?_) rfl (by kernel_rfl) (by kernel_rfl) (by kernel_rfl) (fun _ _ _ h => h) (Or.inl ⟨by rfl, ?_⟩) (by assumption) ?_
  rotate_left
  · (intro w hSw; (try dsimp only at hSw); go_simp; (try with_reducible rfl))
  (try simp only [Act.put, List.getElem_toArray, List.getElem_cons_zero, List.getElem_cons_succ, List.setIfInBounds_toArray, List.set_cons_zero, List.set_cons_succ])
  refine wpAnyH_take (i := 18) (v := (.string ⟨(nb 4 a.tpa).toArray⟩)) rfl (by kernel_rfl) (by kernel_rfl) (by kernel_rfl) (fun _ _ _ h => h) (Or.inl ⟨by rfl, fun w hSw => exec_text a.tpa rfl rfl hA.tpa (four_of hSw.1 (k := 17) rfl)⟩) (by assumption) ?_
  (try simp only [Act.put, List.getElem_toArray, List.getElem_cons_zero, List.getElem_cons_succ, List.setIfInBounds_toArray, List.set_cons_zero, List.set_cons_succ])
  refine wpAnyH_ready (rs := [2]) (by kernel_rfl) (by simp) ?_
  refine AllReadyH.cons rfl (fun K hK => ?_) AllReadyH.nil
  simp only [List.getElem_toArray, List.getElem_cons_zero, List.getElem_cons_succ]
  go_simp
  go_at_call 41; (with_reducible refine (HM.out _).mono ?_); rintro e w3 ⟨rfl, b3⟩; have HB3 : Blk w3 w.heap.size 26 (arC a) := HB2.drew.kept b3
  refine hK.out _ _ ?_ (fun hHeld => ?_)
  · exact ⟨HB3, k0 _ HB3⟩
  clear hK K
  (try simp only [Act.put, List.getElem_toArray, List.getElem_cons_zero, List.getElem_cons_succ, List.setIfInBounds_toArray, List.set_cons_zero, List.set_cons_succ])
  refine wpAnyH_take (i := 3) (v := ?_) rfl (by kernel_rfl) (by kernel_rfl) (by kernel_rfl) (fun _ _ _ h => h) (Or.inl ⟨by rfl, ?_⟩) (by assumption) ?_
  rotate_left
  · (intro w hSw; (try dsimp only at hSw); go_simp; (try with_reducible rfl))
  (try simp only [Act.put, List.getElem_toArray, List.getElem_cons_zero, List.getElem_cons_succ, List.setIfInBounds_toArray, List.set_cons_zero, List.set_cons_succ])
  refine wpAnyH_take (i := 7) (v := ?_) rfl (by kernel_rfl) (by kernel_rfl) (by kernel_rfl) (fun _ _ _ h => h) (Or.inl ⟨by rfl, ?_⟩) (by assumption) ?_
  rotate_left
  · (intro w hSw; (try dsimp only at hSw); go_simp; (try with_reducible rfl))
  (try simp only [Act.put, List.getElem_toArray, List.getElem_cons_zero, List.getElem_cons_succ, List.setIfInBounds_toArray, List.set_cons_zero, List.set_cons_succ])
  refine wpAnyH_take (i := 11) (v := ?_) rfl (by kernel_rfl) (by kernel_rfl) (by kernel_rfl) (fun _ _ _ h => h) (Or.inl ⟨by rfl, ?_⟩) (by assumption) ?_
  rotate_left
  · (intro w hSw; (try dsimp only at hSw); go_simp; (try with_reducible rfl))
  (try simp only [Act.put, List.getElem_toArray, List.getElem_cons_zero, List.getElem_cons_succ, List.setIfInBounds_toArray, List.set_cons_zero, List.set_cons_succ])
  refine wpAnyH_take (i := 15) (v := ?_) rfl (by kernel_rfl) (by kernel_rfl) (by kernel_rfl) (fun _ _ _ h => h) (Or.inl ⟨by rfl, ?_⟩) (by assumption) ?_
  rotate_left
  · (intro w hSw; (try dsimp only at hSw); go_simp; (try with_reducible rfl))
  (try simp only [Act.put, List.getElem_toArray, List.getElem_cons_zero, List.getElem_cons_succ, List.setIfInBounds_toArray, List.set_cons_zero, List.set_cons_succ])
  refine wpAnyH_take (i := 19) (v := ?_) rfl (by kernel_rfl) (by kernel_rfl) (by kernel_rfl) (fun _ _ _ h => h) (Or.inl ⟨by rfl, ?_⟩) (by assumption) ?_
  rotate_left
  · (intro w hSw; (try dsimp only at hSw); go_simp; (try with_reducible rfl))
  (try simp only [Act.put, List.getElem_toArray, List.getElem_cons_zero, List.getElem_cons_succ, List.setIfInBounds_toArray, List.set_cons_zero, List.set_cons_succ])
  refine wpAnyH_take (i := 20) (v := ?_) rfl (by kernel_rfl) (by kernel_rfl) (by kernel_rfl) (fun _ _ _ h => h) (Or.inl ⟨by rfl, ?_⟩) (by assumption) ?_
  rotate_left
  · (intro w hSw; (try dsimp only at hSw); go_simp; (try with_reducible rfl))
  (try simp only [Act.put, List.getElem_toArray, List.getElem_cons_zero, List.getElem_cons_succ, List.setIfInBounds_toArray, List.set_cons_zero, List.set_cons_succ])
  refine wpAnyH_take (i := 21) (v := ?_) rfl (by kernel_rfl) (by kernel_rfl) (by kernel_rfl) (fun _ _ _ h => h) (Or.inl ⟨by rfl, ?_⟩) (by assumption) ?_
  rotate_left
  · (intro w hSw; (try dsimp only at hSw); go_simp; (try with_reducible rfl))
  (try simp only [Act.put, List.getElem_toArray, List.getElem_cons_zero, List.getElem_cons_succ, List.setIfInBounds_toArray, List.set_cons_zero, List.set_cons_succ])
  refine wpAnyH_done (by kernel_rfl) ?_ _
  refine NoPanic.normal ?_
  have B3 : Below w.heap.size w w3 := B2.drew.trans (b3.mono B2.size)
  go_wp2
  go_ret2
  exact ⟨rfl, B3⟩

end Go.Proofs.YtjoepmfineinfaaDoor
