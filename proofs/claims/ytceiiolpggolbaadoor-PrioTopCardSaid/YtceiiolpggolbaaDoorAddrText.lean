/- The reference's AddrText of an address: its text; nothing that was there is changed. -/
import Derived.Test.YtceiiolpggolbaaDoorDigits
import Derived.Test.YtceiiolpggolbaaDoorMacHas
import Derived.Deep.RegionHeld3
import Derived.Deep.DrawnRows
namespace Go.Proofs.YtceiiolpggolbaaDoor
open Go.RowKit
attribute [local go_sem ↓] Go.wp_at_zero Go.wp_at_succ

set_option linter.unusedSimpArgs false in
set_option maxHeartbeats 3200000 in
set_option maxRecDepth 100000 in
theorem refText_any (x : Nat → Nat) (hx : ∀ i, x i < 256) (w : World) (hz : HasTz w) :
    Calls Tryd.prog 51 #[addrV x] w fun e w' => e = .returned (.string ⟨(addrL x).toArray⟩) ∧ Below w.heap.size w w' := by
  have hA : (w.alloc (.cells #[.int .u8 (x 0), .int .u8 (x 1), .int .u8 (x 2), .int .u8 (x 3), .int .u8 (x 4), .int .u8 (x 5)] 23)).heap[w.heap.size]? = some (.cells #[.int .u8 (x 0), .int .u8 (x 1), .int .u8 (x 2), .int .u8 (x 3), .int .u8 (x 4), .int .u8 (x 5)] 23 (0, 0)) := heap_alloc_new w _
  have b1 : Below w.heap.size w (w.alloc (.cells #[.int .u8 (x 0), .int .u8 (x 1), .int .u8 (x 2), .int .u8 (x 3), .int .u8 (x 4), .int .u8 (x 5)] 23)) := (Below.refl _ _).alloc (Nat.le_refl _) _
  have z1 := hz.below b1
  have a1 : HasA (w.alloc (.cells #[.int .u8 (x 0), .int .u8 (x 1), .int .u8 (x 2), .int .u8 (x 3), .int .u8 (x 4), .int .u8 (x 5)] 23)) w.heap.size x := hA
  clear hA
  have v : ∀ i, IntKind.i64.wrap ((x i : Nat) : Int) = (x i : Int) := fun i => by have := hx i; rw [IntKind.wrap_i64]; omega
  have v0 := v 0
  have v1 := v 1
  have v2 := v 2
  have v3 := v 3
  have v4 := v 4
  have v5 := v 5
  clear v
  have n0 := hx 0
  have n1 := hx 1
  have n2 := hx 2
  have n3 := hx 3
  have n4 := hx 4
  have n5 := hx 5
  obtain ⟨y1, hy1⟩ : ∃ y1, y1 = hex2 (x 0) ++ [58] := ⟨_, rfl⟩
  have l1 : y1.length = 3 := by rw [hy1, List.length_append]; rfl
  have e1 : ∀ W, (Op.stringOp .add ⟨(hex2 (x 0)).toArray⟩ ⟨([58]).toArray⟩).run Tryd.prog W = .ok (.string ⟨y1.toArray⟩) W := fun W => by rw [hy1]; exact run_string_add_lists W _ _ (by simp [hex2]) (by simp [hex2])
  obtain ⟨y2, hy2⟩ : ∃ y2, y2 = y1 ++ hex2 (x 1) := ⟨_, rfl⟩
  have l2 : y2.length = 5 := by rw [hy2, List.length_append, l1]; rfl
  have e2 : ∀ W, (Op.stringOp .add ⟨(y1).toArray⟩ ⟨(hex2 (x 1)).toArray⟩).run Tryd.prog W = .ok (.string ⟨y2.toArray⟩) W := fun W => by rw [hy2]; exact run_string_add_lists W _ _ (by omega) (by simp [hex2])
  obtain ⟨y3, hy3⟩ : ∃ y3, y3 = y2 ++ [58] := ⟨_, rfl⟩
  have l3 : y3.length = 6 := by rw [hy3, List.length_append, l2]; rfl
  have e3 : ∀ W, (Op.stringOp .add ⟨(y2).toArray⟩ ⟨([58]).toArray⟩).run Tryd.prog W = .ok (.string ⟨y3.toArray⟩) W := fun W => by rw [hy3]; exact run_string_add_lists W _ _ (by omega) (by simp [hex2])
  obtain ⟨y4, hy4⟩ : ∃ y4, y4 = y3 ++ hex2 (x 2) := ⟨_, rfl⟩
  have l4 : y4.length = 8 := by rw [hy4, List.length_append, l3]; rfl
  have e4 : ∀ W, (Op.stringOp .add ⟨(y3).toArray⟩ ⟨(hex2 (x 2)).toArray⟩).run Tryd.prog W = .ok (.string ⟨y4.toArray⟩) W := fun W => by rw [hy4]; exact run_string_add_lists W _ _ (by omega) (by simp [hex2])
  obtain ⟨y5, hy5⟩ : ∃ y5, y5 = y4 ++ [58] := ⟨_, rfl⟩
  have l5 : y5.length = 9 := by rw [hy5, List.length_append, l4]; rfl
  have e5 : ∀ W, (Op.stringOp .add ⟨(y4).toArray⟩ ⟨([58]).toArray⟩).run Tryd.prog W = .ok (.string ⟨y5.toArray⟩) W := fun W => by rw [hy5]; exact run_string_add_lists W _ _ (by omega) (by simp [hex2])
  obtain ⟨y6, hy6⟩ : ∃ y6, y6 = y5 ++ hex2 (x 3) := ⟨_, rfl⟩
  have l6 : y6.length = 11 := by rw [hy6, List.length_append, l5]; rfl
  have e6 : ∀ W, (Op.stringOp .add ⟨(y5).toArray⟩ ⟨(hex2 (x 3)).toArray⟩).run Tryd.prog W = .ok (.string ⟨y6.toArray⟩) W := fun W => by rw [hy6]; exact run_string_add_lists W _ _ (by omega) (by simp [hex2])
  obtain ⟨y7, hy7⟩ : ∃ y7, y7 = y6 ++ [58] := ⟨_, rfl⟩
  have l7 : y7.length = 12 := by rw [hy7, List.length_append, l6]; rfl
  have e7 : ∀ W, (Op.stringOp .add ⟨(y6).toArray⟩ ⟨([58]).toArray⟩).run Tryd.prog W = .ok (.string ⟨y7.toArray⟩) W := fun W => by rw [hy7]; exact run_string_add_lists W _ _ (by omega) (by simp [hex2])
  obtain ⟨y8, hy8⟩ : ∃ y8, y8 = y7 ++ hex2 (x 4) := ⟨_, rfl⟩
  have l8 : y8.length = 14 := by rw [hy8, List.length_append, l7]; rfl
  have e8 : ∀ W, (Op.stringOp .add ⟨(y7).toArray⟩ ⟨(hex2 (x 4)).toArray⟩).run Tryd.prog W = .ok (.string ⟨y8.toArray⟩) W := fun W => by rw [hy8]; exact run_string_add_lists W _ _ (by omega) (by simp [hex2])
  obtain ⟨y9, hy9⟩ : ∃ y9, y9 = y8 ++ [58] := ⟨_, rfl⟩
  have l9 : y9.length = 15 := by rw [hy9, List.length_append, l8]; rfl
  have e9 : ∀ W, (Op.stringOp .add ⟨(y8).toArray⟩ ⟨([58]).toArray⟩).run Tryd.prog W = .ok (.string ⟨y9.toArray⟩) W := fun W => by rw [hy9]; exact run_string_add_lists W _ _ (by omega) (by simp [hex2])
  obtain ⟨y10, hy10⟩ : ∃ y10, y10 = y9 ++ hex2 (x 5) := ⟨_, rfl⟩
  have l10 : y10.length = 17 := by rw [hy10, List.length_append, l9]; rfl
  have e10 : ∀ W, (Op.stringOp .add ⟨(y9).toArray⟩ ⟨(hex2 (x 5)).toArray⟩).run Tryd.prog W = .ok (.string ⟨y10.toArray⟩) W := fun W => by rw [hy10]; exact run_string_add_lists W _ _ (by omega) (by simp [hex2])
  have HY : Hid (y10 = addrL x) := by
    show _ = _
    rw [hy10, hy9, hy8, hy7, hy6, hy5, hy4, hy3, hy2, hy1]
    simp [addrL, addrTo]
  clear hy1 hy2 hy3 hy4 hy5 hy6 hy7 hy8 hy9 hy10 l1 l2 l3 l4 l5 l6 l7 l8 l9 l10
  unfold addrV
  go_enter Tryd.func51, Tryd.ntmps51
  go_wp2
  refine wp_region_noPanic ?_
  refine wp_region_held_drew (S := (fun w' => w'.cell? ⟨w.heap.size, 0, none⟩ = some (.int .u8 (x 0)) ∧ w'.cell? ⟨w.heap.size, 1, none⟩ = some (.int .u8 (x 1)) ∧ w'.cell? ⟨w.heap.size, 2, none⟩ = some (.int .u8 (x 2)) ∧ w'.cell? ⟨w.heap.size, 3, none⟩ = some (.int .u8 (x 3)) ∧ w'.cell? ⟨w.heap.size, 4, none⟩ = some (.int .u8 (x 4)) ∧ w'.cell? ⟨w.heap.size, 5, none⟩ = some (.int .u8 (x 5)))) (by kernel_rfl) ?_ (fun hHeld => ?_)
  · exact a1.all
  refine wpAnyH_take (i := 0) (v := ?_) rfl (by kernel_rfl) (by kernel_rfl) (by kernel_rfl) (fun _ _ _ h => h) (Or.inl ⟨by rfl, ?_⟩) (by assumption) ?_
  rotate_left
  · (intro w hSw; (try dsimp only at hSw); go_simp; (try with_reducible rfl))
  (try simp only [Act.put, List.getElem_toArray, List.getElem_cons_zero, List.getElem_cons_succ, List.setIfInBounds_toArray, List.set_cons_zero, List.set_cons_succ])
  refine wpAnyH_take (i := 1) (v := ?_) rfl (by kernel_rfl) (by kernel_rfl) (by kernel_rfl) (fun _ _ _ h => h) (Or.inl ⟨by rfl, ?_⟩) (by assumption) ?_
  rotate_left
  · (intro w hSw; (try dsimp only at hSw); go_simp; (try with_reducible rfl))
  (try simp only [Act.put, List.getElem_toArray, List.getElem_cons_zero, List.getElem_cons_succ, List.setIfInBounds_toArray, List.set_cons_zero, List.set_cons_succ])
  refine wpAnyH_take (i := 2) (v := ?_) rfl (by kernel_rfl) (by kernel_rfl) (by kernel_rfl) (fun _ _ _ h => h) (Or.inl ⟨by rfl, ?_⟩) (by assumption) ?_
  rotate_left
  · (intro w hSw; (try dsimp only at hSw); go_simp; (try with_reducible rfl))
  (try simp only [Act.put, List.getElem_toArray, List.getElem_cons_zero, List.getElem_cons_succ, List.setIfInBounds_toArray, List.set_cons_zero, List.set_cons_succ])
  refine wpAnyH_take (i := 5) (v := ?_) rfl (by kernel_rfl) (by kernel_rfl) (by kernel_rfl) (fun _ _ _ h => h) (Or.inl ⟨by rfl, ?_⟩) (by assumption) ?_
  rotate_left
  · (intro w hSw; (try dsimp only at hSw); go_simp; (try with_reducible rfl))
  (try simp only [Act.put, List.getElem_toArray, List.getElem_cons_zero, List.getElem_cons_succ, List.setIfInBounds_toArray, List.set_cons_zero, List.set_cons_succ])
  refine wpAnyH_take (i := 6) (v := ?_) rfl (by kernel_rfl) (by kernel_rfl) (by kernel_rfl) (fun _ _ _ h => h) (Or.inl ⟨by rfl, ?_⟩) (by assumption) ?_
  rotate_left
  · (intro w hSw; (try dsimp only at hSw); go_simp; (try with_reducible rfl))
  (try simp only [Act.put, List.getElem_toArray, List.getElem_cons_zero, List.getElem_cons_succ, List.setIfInBounds_toArray, List.set_cons_zero, List.set_cons_succ])
  refine wpAnyH_take (i := 7) (v := ?_) rfl (by kernel_rfl) (by kernel_rfl) (by kernel_rfl) (fun _ _ _ h => h) (Or.inl ⟨by rfl, ?_⟩) (by assumption) ?_
  rotate_left
  · (intro w hSw; (try dsimp only at hSw); go_simp; (try with_reducible rfl))
  (try simp only [Act.put, List.getElem_toArray, List.getElem_cons_zero, List.getElem_cons_succ, List.setIfInBounds_toArray, List.set_cons_zero, List.set_cons_succ])
  refine wpAnyH_take (i := 11) (v := ?_) rfl (by kernel_rfl) (by kernel_rfl) (by kernel_rfl) (fun _ _ _ h => h) (Or.inl ⟨by rfl, ?_⟩) (by assumption) ?_
  rotate_left
  · (intro w hSw; (try dsimp only at hSw); go_simp; (try with_reducible rfl))
  (try simp only [Act.put, List.getElem_toArray, List.getElem_cons_zero, List.getElem_cons_succ, List.setIfInBounds_toArray, List.set_cons_zero, List.set_cons_succ])
  refine wpAnyH_take (i := 12) (v := ?_) rfl (by kernel_rfl) (by kernel_rfl) (by kernel_rfl) (fun _ _ _ h => h) (Or.inl ⟨by rfl, ?_⟩) (by assumption) ?_
  rotate_left
  · (intro w hSw; (try dsimp only at hSw); go_simp; (try with_reducible rfl))
  (try simp only [Act.put, List.getElem_toArray, List.getElem_cons_zero, List.getElem_cons_succ, List.setIfInBounds_toArray, List.set_cons_zero, List.set_cons_succ])
  refine wpAnyH_take (i := 13) (v := ?_) rfl (by kernel_rfl) (by kernel_rfl) (by kernel_rfl) (fun _ _ _ h => h) (Or.inl ⟨by rfl, ?_⟩) (by assumption) ?_
  rotate_left
  · (intro w hSw; (try dsimp only at hSw); go_simp; (try with_reducible rfl))
  (try simp only [Act.put, List.getElem_toArray, List.getElem_cons_zero, List.getElem_cons_succ, List.setIfInBounds_toArray, List.set_cons_zero, List.set_cons_succ])
  refine wpAnyH_take (i := 17) (v := ?_) rfl (by kernel_rfl) (by kernel_rfl) (by kernel_rfl) (fun _ _ _ h => h) (Or.inl ⟨by rfl, ?_⟩) (by assumption) ?_
  rotate_left
  · (intro w hSw; (try dsimp only at hSw); go_simp; (try with_reducible rfl))
  (try simp only [Act.put, List.getElem_toArray, List.getElem_cons_zero, List.getElem_cons_succ, List.setIfInBounds_toArray, List.set_cons_zero, List.set_cons_succ])
  refine wpAnyH_take (i := 18) (v := ?_) rfl (by kernel_rfl) (by kernel_rfl) (by kernel_rfl) (fun _ _ _ h => h) (Or.inl ⟨by rfl, ?_⟩) (by assumption) ?_
  rotate_left
  · (intro w hSw; (try dsimp only at hSw); go_simp; (try with_reducible rfl))
  (try simp only [Act.put, List.getElem_toArray, List.getElem_cons_zero, List.getElem_cons_succ, List.setIfInBounds_toArray, List.set_cons_zero, List.set_cons_succ])
  refine wpAnyH_take (i := 19) (v := ?_) rfl (by kernel_rfl) (by kernel_rfl) (by kernel_rfl) (fun _ _ _ h => h) (Or.inl ⟨by rfl, ?_⟩) (by assumption) ?_
  rotate_left
  · (intro w hSw; (try dsimp only at hSw); go_simp; (try with_reducible rfl))
  (try simp only [Act.put, List.getElem_toArray, List.getElem_cons_zero, List.getElem_cons_succ, List.setIfInBounds_toArray, List.set_cons_zero, List.set_cons_succ])
  refine wpAnyH_take (i := 23) (v := ?_) rfl (by kernel_rfl) (by kernel_rfl) (by kernel_rfl) (fun _ _ _ h => h) (Or.inl ⟨by rfl, ?_⟩) (by assumption) ?_
  rotate_left
  · (intro w hSw; (try dsimp only at hSw); go_simp; (try with_reducible rfl))
  (try simp only [Act.put, List.getElem_toArray, List.getElem_cons_zero, List.getElem_cons_succ, List.setIfInBounds_toArray, List.set_cons_zero, List.set_cons_succ])
  refine wpAnyH_take (i := 24) (v := ?_) rfl (by kernel_rfl) (by kernel_rfl) (by kernel_rfl) (fun _ _ _ h => h) (Or.inl ⟨by rfl, ?_⟩) (by assumption) ?_
  rotate_left
  · (intro w hSw; (try dsimp only at hSw); go_simp; (try with_reducible rfl))
  (try simp only [Act.put, List.getElem_toArray, List.getElem_cons_zero, List.getElem_cons_succ, List.setIfInBounds_toArray, List.set_cons_zero, List.set_cons_succ])
  refine wpAnyH_take (i := 25) (v := ?_) rfl (by kernel_rfl) (by kernel_rfl) (by kernel_rfl) (fun _ _ _ h => h) (Or.inl ⟨by rfl, ?_⟩) (by assumption) ?_
  rotate_left
  · (intro w hSw; (try dsimp only at hSw); go_simp; (try with_reducible rfl))
  (try simp only [Act.put, List.getElem_toArray, List.getElem_cons_zero, List.getElem_cons_succ, List.setIfInBounds_toArray, List.set_cons_zero, List.set_cons_succ])
  refine wpAnyH_take (i := 29) (v := ?_) rfl (by kernel_rfl) (by kernel_rfl) (by kernel_rfl) (fun _ _ _ h => h) (Or.inl ⟨by rfl, ?_⟩) (by assumption) ?_
  rotate_left
  · (intro w hSw; (try dsimp only at hSw); go_simp; (try with_reducible rfl))
  (try simp only [Act.put, List.getElem_toArray, List.getElem_cons_zero, List.getElem_cons_succ, List.setIfInBounds_toArray, List.set_cons_zero, List.set_cons_succ])
  refine wpAnyH_take (i := 30) (v := ?_) rfl (by kernel_rfl) (by kernel_rfl) (by kernel_rfl) (fun _ _ _ h => h) (Or.inl ⟨by rfl, ?_⟩) (by assumption) ?_
  rotate_left
  · (intro w hSw; (try dsimp only at hSw); go_simp; (try with_reducible rfl))
  (try simp only [Act.put, List.getElem_toArray, List.getElem_cons_zero, List.getElem_cons_succ, List.setIfInBounds_toArray, List.set_cons_zero, List.set_cons_succ])
  refine wpAnyH_take (i := 31) (v := ?_) rfl (by kernel_rfl) (by kernel_rfl) (by kernel_rfl) (fun _ _ _ h => h) (Or.inl ⟨by rfl, ?_⟩) (by assumption) ?_
  rotate_left
  · (intro w hSw; (try dsimp only at hSw); go_simp; (try with_reducible rfl))
  (try simp only [Act.put, List.getElem_toArray, List.getElem_cons_zero, List.getElem_cons_succ, List.setIfInBounds_toArray, List.set_cons_zero, List.set_cons_succ])
  refine wpAnyH_ready (rs := [3]) (by kernel_rfl) (by simp) ?_
  refine AllReadyH.cons rfl (fun K hK => ?_) AllReadyH.nil
  simp only [List.getElem_toArray, List.getElem_cons_zero, List.getElem_cons_succ]
  go_simp
  (go_at_call 70; (with_reducible refine (digits16 (x 0) (hx 0) _ ?_).mono ?_); exact z1; rintro e w2 ⟨rfl, k2⟩; have b2 : Below w.heap.size w w2 := b1.drew.trans (k2.mono b1.size); have z2 : HasTz w2 := hz.below b2; have a2 : HasA w2 w.heap.size x := HasA.below a1.drew k2 a1.lt)
  refine hK.out _ _ ?_ (fun hHeld => ?_)
  · exact a2.all
  clear hK K
  (try simp only [Act.put, List.getElem_toArray, List.getElem_cons_zero, List.getElem_cons_succ, List.setIfInBounds_toArray, List.set_cons_zero, List.set_cons_succ])
  refine wpAnyH_take (i := 4) (v := ?_) rfl (by kernel_rfl) (by kernel_rfl) (by kernel_rfl) (fun _ _ _ h => h) (Or.inl ⟨by rfl, ?_⟩) (by assumption) ?_
  rotate_left
  · (intro w hSw; (try dsimp only at hSw); go_simp; (try with_reducible rfl))
  (try simp only [Act.put, List.getElem_toArray, List.getElem_cons_zero, List.getElem_cons_succ, List.setIfInBounds_toArray, List.set_cons_zero, List.set_cons_succ])
  refine wpAnyH_ready (rs := [8]) (by kernel_rfl) (by simp) ?_
  refine AllReadyH.cons rfl (fun K hK => ?_) AllReadyH.nil
  simp only [List.getElem_toArray, List.getElem_cons_zero, List.getElem_cons_succ]
  go_simp
  (go_at_call 70; (with_reducible refine (digits16 (x 1) (hx 1) _ ?_).mono ?_); exact z2; rintro e w3 ⟨rfl, k3⟩; have b3 : Below w.heap.size w w3 := b2.trans (k3.mono b2.size); have z3 : HasTz w3 := hz.below b3; have a3 : HasA w3 w.heap.size x := HasA.below a2 k3 a2.lt)
  refine hK.out _ _ ?_ (fun hHeld => ?_)
  · exact a3.all
  clear hK K
  (try simp only [Act.put, List.getElem_toArray, List.getElem_cons_zero, List.getElem_cons_succ, List.setIfInBounds_toArray, List.set_cons_zero, List.set_cons_succ])
  refine wpAnyH_take (i := 9) (v := ?_) rfl (by kernel_rfl) (by kernel_rfl) (by kernel_rfl) (fun _ _ _ h => h) (Or.inl ⟨by rfl, ?_⟩) (by assumption) ?_
  rotate_left
  · (intro w hSw; (try dsimp only at hSw); go_simp; (try with_reducible rfl))
  (try simp only [Act.put, List.getElem_toArray, List.getElem_cons_zero, List.getElem_cons_succ, List.setIfInBounds_toArray, List.set_cons_zero, List.set_cons_succ])
  refine wpAnyH_take (i := 10) (v := ?_) rfl (by kernel_rfl) (by kernel_rfl) (by kernel_rfl) (fun _ _ _ h => h) (Or.inl ⟨by rfl, ?_⟩) (by assumption) ?_
  rotate_left
  · (intro w hSw; (try dsimp only at hSw); go_simp; (try with_reducible rfl))
  (try simp only [Act.put, List.getElem_toArray, List.getElem_cons_zero, List.getElem_cons_succ, List.setIfInBounds_toArray, List.set_cons_zero, List.set_cons_succ])
  refine wpAnyH_ready (rs := [14]) (by kernel_rfl) (by simp) ?_
  refine AllReadyH.cons rfl (fun K hK => ?_) AllReadyH.nil
  simp only [List.getElem_toArray, List.getElem_cons_zero, List.getElem_cons_succ]
  go_simp
  (go_at_call 70; (with_reducible refine (digits16 (x 2) (hx 2) _ ?_).mono ?_); exact z3; rintro e w4 ⟨rfl, k4⟩; have b4 : Below w.heap.size w w4 := b3.trans (k4.mono b3.size); have z4 : HasTz w4 := hz.below b4; have a4 : HasA w4 w.heap.size x := HasA.below a3 k4 a3.lt)
  refine hK.out _ _ ?_ (fun hHeld => ?_)
  · exact a4.all
  clear hK K
  (try simp only [Act.put, List.getElem_toArray, List.getElem_cons_zero, List.getElem_cons_succ, List.setIfInBounds_toArray, List.set_cons_zero, List.set_cons_succ])
  refine wpAnyH_take (i := 15) (v := ?_) rfl (by kernel_rfl) (by kernel_rfl) (by kernel_rfl) (fun _ _ _ h => h) (Or.inl ⟨by rfl, ?_⟩) (by assumption) ?_
  rotate_left
  · (intro w hSw; (try dsimp only at hSw); go_simp; (try with_reducible rfl))
  (try simp only [Act.put, List.getElem_toArray, List.getElem_cons_zero, List.getElem_cons_succ, List.setIfInBounds_toArray, List.set_cons_zero, List.set_cons_succ])
  refine wpAnyH_take (i := 16) (v := ?_) rfl (by kernel_rfl) (by kernel_rfl) (by kernel_rfl) (fun _ _ _ h => h) (Or.inl ⟨by rfl, ?_⟩) (by assumption) ?_
  rotate_left
  · (intro w hSw; (try dsimp only at hSw); go_simp; (try with_reducible rfl))
  (try simp only [Act.put, List.getElem_toArray, List.getElem_cons_zero, List.getElem_cons_succ, List.setIfInBounds_toArray, List.set_cons_zero, List.set_cons_succ])
  refine wpAnyH_ready (rs := [20]) (by kernel_rfl) (by simp) ?_
  refine AllReadyH.cons rfl (fun K hK => ?_) AllReadyH.nil
  simp only [List.getElem_toArray, List.getElem_cons_zero, List.getElem_cons_succ]
  go_simp
  (go_at_call 70; (with_reducible refine (digits16 (x 3) (hx 3) _ ?_).mono ?_); exact z4; rintro e w5 ⟨rfl, k5⟩; have b5 : Below w.heap.size w w5 := b4.trans (k5.mono b4.size); have z5 : HasTz w5 := hz.below b5; have a5 : HasA w5 w.heap.size x := HasA.below a4 k5 a4.lt)
  refine hK.out _ _ ?_ (fun hHeld => ?_)
  · exact a5.all
  clear hK K
  (try simp only [Act.put, List.getElem_toArray, List.getElem_cons_zero, List.getElem_cons_succ, List.setIfInBounds_toArray, List.set_cons_zero, List.set_cons_succ])
  refine wpAnyH_take (i := 21) (v := ?_) rfl (by kernel_rfl) (by kernel_rfl) (by kernel_rfl) (fun _ _ _ h => h) (Or.inl ⟨by rfl, ?_⟩) (by assumption) ?_
  rotate_left
  · (intro w hSw; (try dsimp only at hSw); go_simp; (try with_reducible rfl))
  (try simp only [Act.put, List.getElem_toArray, List.getElem_cons_zero, List.getElem_cons_succ, List.setIfInBounds_toArray, List.set_cons_zero, List.set_cons_succ])
  refine wpAnyH_take (i := 22) (v := ?_) rfl (by kernel_rfl) (by kernel_rfl) (by kernel_rfl) (fun _ _ _ h => h) (Or.inl ⟨by rfl, ?_⟩) (by assumption) ?_
  rotate_left
  · (intro w hSw; (try dsimp only at hSw); go_simp; (try with_reducible rfl))
  (try simp only [Act.put, List.getElem_toArray, List.getElem_cons_zero, List.getElem_cons_succ, List.setIfInBounds_toArray, List.set_cons_zero, List.set_cons_succ])
  refine wpAnyH_ready (rs := [26]) (by kernel_rfl) (by simp) ?_
  refine AllReadyH.cons rfl (fun K hK => ?_) AllReadyH.nil
  simp only [List.getElem_toArray, List.getElem_cons_zero, List.getElem_cons_succ]
  go_simp
  (go_at_call 70; (with_reducible refine (digits16 (x 4) (hx 4) _ ?_).mono ?_); exact z5; rintro e w6 ⟨rfl, k6⟩; have b6 : Below w.heap.size w w6 := b5.trans (k6.mono b5.size); have z6 : HasTz w6 := hz.below b6; have a6 : HasA w6 w.heap.size x := HasA.below a5 k6 a5.lt)
  refine hK.out _ _ ?_ (fun hHeld => ?_)
  · exact a6.all
  clear hK K
  (try simp only [Act.put, List.getElem_toArray, List.getElem_cons_zero, List.getElem_cons_succ, List.setIfInBounds_toArray, List.set_cons_zero, List.set_cons_succ])
  refine wpAnyH_take (i := 27) (v := ?_) rfl (by kernel_rfl) (by kernel_rfl) (by kernel_rfl) (fun _ _ _ h => h) (Or.inl ⟨by rfl, ?_⟩) (by assumption) ?_
  rotate_left
  · (intro w hSw; (try dsimp only at hSw); go_simp; (try with_reducible rfl))
  (try simp only [Act.put, List.getElem_toArray, List.getElem_cons_zero, List.getElem_cons_succ, List.setIfInBounds_toArray, List.set_cons_zero, List.set_cons_succ])
  refine wpAnyH_take (i := 28) (v := ?_) rfl (by kernel_rfl) (by kernel_rfl) (by kernel_rfl) (fun _ _ _ h => h) (Or.inl ⟨by rfl, ?_⟩) (by assumption) ?_
  rotate_left
  · (intro w hSw; (try dsimp only at hSw); go_simp; (try with_reducible rfl))
  (try simp only [Act.put, List.getElem_toArray, List.getElem_cons_zero, List.getElem_cons_succ, List.setIfInBounds_toArray, List.set_cons_zero, List.set_cons_succ])
  refine wpAnyH_ready (rs := [32]) (by kernel_rfl) (by simp) ?_
  refine AllReadyH.cons rfl (fun K hK => ?_) AllReadyH.nil
  simp only [List.getElem_toArray, List.getElem_cons_zero, List.getElem_cons_succ]
  go_simp
  (go_at_call 70; (with_reducible refine (digits16 (x 5) (hx 5) _ ?_).mono ?_); exact z6; rintro e w7 ⟨rfl, k7⟩; have b7 : Below w.heap.size w w7 := b6.trans (k7.mono b6.size); have z7 : HasTz w7 := hz.below b7; have a7 : HasA w7 w.heap.size x := HasA.below a6 k7 a6.lt)
  refine hK.out _ _ ?_ (fun hHeld => ?_)
  · exact a7.all
  clear hK K
  (try simp only [Act.put, List.getElem_toArray, List.getElem_cons_zero, List.getElem_cons_succ, List.setIfInBounds_toArray, List.set_cons_zero, List.set_cons_succ])
  refine wpAnyH_take (i := 33) (v := ?_) rfl (by kernel_rfl) (by kernel_rfl) (by kernel_rfl) (fun _ _ _ h => h) (Or.inl ⟨by rfl, ?_⟩) (by assumption) ?_
  rotate_left
  · (intro w hSw; (try dsimp only at hSw); go_simp; (try with_reducible rfl))
  (try simp only [Act.put, List.getElem_toArray, List.getElem_cons_zero, List.getElem_cons_succ, List.setIfInBounds_toArray, List.set_cons_zero, List.set_cons_succ])
  refine wpAnyH_take (i := 34) (v := ?_) rfl (by kernel_rfl) (by kernel_rfl) (by kernel_rfl) (fun _ _ _ h => h) (Or.inl ⟨by rfl, ?_⟩) (by assumption) ?_
  rotate_left
  · (intro w hSw; (try dsimp only at hSw); go_simp; (try with_reducible rfl))
  (try simp only [Act.put, List.getElem_toArray, List.getElem_cons_zero, List.getElem_cons_succ, List.setIfInBounds_toArray, List.set_cons_zero, List.set_cons_succ])
  refine wpAnyH_done (by kernel_rfl) ?_ _
  refine NoPanic.normal ?_
  go_wp2
  go_ret
  exact ⟨by rw [← HY.out]; rfl, b7⟩

end Go.Proofs.YtceiiolpggolbaaDoor
