/- switchyardkeep.MacOrder returns true at every three addresses, and changes nothing that was there. -/
import Derived.Test.YtafmkgdpfjimkaaMacLow
namespace Go.Proofs.Ytafmkgdpfjimkaa.macOrder
set_option linter.unusedVariables false
open Go.RowKit
attribute [local go_sem ↓] Go.wp_at_zero Go.wp_at_succ

theorem less_val (x y : Nat → Nat) (hx : ∀ i, x i < 256) (hy : ∀ i, y i < 256) (b : Bool) (h : Op.bytesLess (addrL x) (addrL y) = b) (w : World) :
    Calls Try.prog 14 #[addrV x, addrV y] w fun e w' => e = .returned (.bool b) ∧ Below w.heap.size w w' :=
  (less_any x y hx hy w).mono fun e w' q => ⟨by rw [q.1, h], q.2⟩

theorem less_lit (x y : Nat → Nat) (hx : ∀ i, x i < 256) (hy : ∀ i, y i < 256) (b : Bool) (h : Op.bytesLess (addrL x) (addrL y) = b) (w : World) :
    Calls Try.prog 14 #[.agg #[.int .u8 (x 0), .int .u8 (x 1), .int .u8 (x 2), .int .u8 (x 3), .int .u8 (x 4), .int .u8 (x 5)], .agg #[.int .u8 (y 0), .int .u8 (y 1), .int .u8 (y 2), .int .u8 (y 3), .int .u8 (y 4), .int .u8 (y 5)]] w fun e w' => e = .returned (.bool b) ∧ Below w.heap.size w w' := less_val x y hx hy b h w
theorem text_lit (x : Nat → Nat) (hx : ∀ i, x i < 256) (w : World) :
    Calls Try.prog 9 #[.agg #[.int .u8 (x 0), .int .u8 (x 1), .int .u8 (x 2), .int .u8 (x 3), .int .u8 (x 4), .int .u8 (x 5)]] w fun e w' => e = .returned (.string ⟨(addrL x).toArray⟩) ∧ Below w.heap.size w w' := text_any x hx w

set_option linter.unusedSimpArgs false in
set_option maxHeartbeats 1600000 in
theorem walk_same (x y z : Nat → Nat) (hx : ∀ i, x i < 256) (hy : ∀ i, y i < 256) (hz : ∀ i, z i < 256) (hxy : Op.bytesLess (addrL x) (addrL y) = false) (hyx : Op.bytesLess (addrL y) (addrL x) = false) (hs : decide (six x = six y) = true) (w : World) :
    Calls Try.prog 5 #[addrV x, addrV y, addrV z] w fun e w' => e = .returned (.bool true) ∧ Below w.heap.size w w' := by
  have hx1 : HasA (((w.alloc (.cells #[.int .u8 (x 0), .int .u8 (x 1), .int .u8 (x 2), .int .u8 (x 3), .int .u8 (x 4), .int .u8 (x 5)] 23)).alloc (.cells #[.int .u8 (y 0), .int .u8 (y 1), .int .u8 (y 2), .int .u8 (y 3), .int .u8 (y 4), .int .u8 (y 5)] 23)).alloc (.cells #[.int .u8 (z 0), .int .u8 (z 1), .int .u8 (z 2), .int .u8 (z 3), .int .u8 (z 4), .int .u8 (z 5)] 23)) w.heap.size x := (heap_alloc_old _ _ (by simp; omega)).trans (heap_alloc2_old w _ _)
  have hy1 : HasA (((w.alloc (.cells #[.int .u8 (x 0), .int .u8 (x 1), .int .u8 (x 2), .int .u8 (x 3), .int .u8 (x 4), .int .u8 (x 5)] 23)).alloc (.cells #[.int .u8 (y 0), .int .u8 (y 1), .int .u8 (y 2), .int .u8 (y 3), .int .u8 (y 4), .int .u8 (y 5)] 23)).alloc (.cells #[.int .u8 (z 0), .int .u8 (z 1), .int .u8 (z 2), .int .u8 (z 3), .int .u8 (z 4), .int .u8 (z 5)] 23)) (w.heap.size + 1) y := (heap_alloc_old _ _ (by simp)).trans (heap_alloc2_new w _ _)
  have hz1 : HasA (((w.alloc (.cells #[.int .u8 (x 0), .int .u8 (x 1), .int .u8 (x 2), .int .u8 (x 3), .int .u8 (x 4), .int .u8 (x 5)] 23)).alloc (.cells #[.int .u8 (y 0), .int .u8 (y 1), .int .u8 (y 2), .int .u8 (y 3), .int .u8 (y 4), .int .u8 (y 5)] 23)).alloc (.cells #[.int .u8 (z 0), .int .u8 (z 1), .int .u8 (z 2), .int .u8 (z 3), .int .u8 (z 4), .int .u8 (z 5)] 23)) (w.heap.size + 2) z := by have q := heap_alloc_new ((w.alloc (.cells #[.int .u8 (x 0), .int .u8 (x 1), .int .u8 (x 2), .int .u8 (x 3), .int .u8 (x 4), .int .u8 (x 5)] 23)).alloc (.cells #[.int .u8 (y 0), .int .u8 (y 1), .int .u8 (y 2), .int .u8 (y 3), .int .u8 (y 4), .int .u8 (y 5)] 23)) (.cells #[.int .u8 (z 0), .int .u8 (z 1), .int .u8 (z 2), .int .u8 (z 3), .int .u8 (z 4), .int .u8 (z 5)] 23); rw [show ((w.alloc (.cells #[.int .u8 (x 0), .int .u8 (x 1), .int .u8 (x 2), .int .u8 (x 3), .int .u8 (x 4), .int .u8 (x 5)] 23)).alloc (.cells #[.int .u8 (y 0), .int .u8 (y 1), .int .u8 (y 2), .int .u8 (y 3), .int .u8 (y 4), .int .u8 (y 5)] 23)).heap.size = w.heap.size + 2 by simp] at q; exact q
  have hb1 : Below w.heap.size w (((w.alloc (.cells #[.int .u8 (x 0), .int .u8 (x 1), .int .u8 (x 2), .int .u8 (x 3), .int .u8 (x 4), .int .u8 (x 5)] 23)).alloc (.cells #[.int .u8 (y 0), .int .u8 (y 1), .int .u8 (y 2), .int .u8 (y 3), .int .u8 (y 4), .int .u8 (y 5)] 23)).alloc (.cells #[.int .u8 (z 0), .int .u8 (z 1), .int .u8 (z 2), .int .u8 (z 3), .int .u8 (z 4), .int .u8 (z 5)] 23)) := (((Below.refl _ _).alloc (Nat.le_refl _) _).alloc (by simp) _).alloc (by simp; omega) _
  have hq : ∀ W, (Op.equalIn 10000 23 (.agg #[.int .u8 (x 0), .int .u8 (x 1), .int .u8 (x 2), .int .u8 (x 3), .int .u8 (x 4), .int .u8 (x 5)]) (.agg #[.int .u8 (y 0), .int .u8 (y 1), .int .u8 (y 2), .int .u8 (y 3), .int .u8 (y 4), .int .u8 (y 5)])).run Try.prog W = .ok true W := fun W => by
    have h := run_eql_addr x y hx hy W
    rw [hs] at h
    exact h
  clear hs
  unfold addrV
  go_enter Try.func5, Try.ntmps5
  go_wp2_with fail
  refine (addressed_any _).mono ?_
  rintro e w2 ⟨rfl, k2⟩
  have hb2 := below_then hb1 k2
  have hx2 : HasA w2 _ x := hx1.below k2 hx1.lt
  have hy2 : HasA w2 _ y := hy1.below k2 hy1.lt
  have hz2 : HasA w2 _ z := hz1.below k2 hz1.lt
  clear hb1 hx1 hy1 hz1 k2
  have S2 : w2.cell? ⟨w.heap.size, 0, none⟩ = some (.int .u8 (x 0)) ∧ w2.cell? ⟨w.heap.size, 1, none⟩ = some (.int .u8 (x 1)) ∧ w2.cell? ⟨w.heap.size, 2, none⟩ = some (.int .u8 (x 2)) ∧ w2.cell? ⟨w.heap.size, 3, none⟩ = some (.int .u8 (x 3)) ∧ w2.cell? ⟨w.heap.size, 4, none⟩ = some (.int .u8 (x 4)) ∧ w2.cell? ⟨w.heap.size, 5, none⟩ = some (.int .u8 (x 5)) ∧ w2.cell? ⟨w.heap.size + 1, 0, none⟩ = some (.int .u8 (y 0)) ∧ w2.cell? ⟨w.heap.size + 1, 1, none⟩ = some (.int .u8 (y 1)) ∧ w2.cell? ⟨w.heap.size + 1, 2, none⟩ = some (.int .u8 (y 2)) ∧ w2.cell? ⟨w.heap.size + 1, 3, none⟩ = some (.int .u8 (y 3)) ∧ w2.cell? ⟨w.heap.size + 1, 4, none⟩ = some (.int .u8 (y 4)) ∧ w2.cell? ⟨w.heap.size + 1, 5, none⟩ = some (.int .u8 (y 5)) ∧ w2.cell? ⟨w.heap.size + 2, 0, none⟩ = some (.int .u8 (z 0)) ∧ w2.cell? ⟨w.heap.size + 2, 1, none⟩ = some (.int .u8 (z 1)) ∧ w2.cell? ⟨w.heap.size + 2, 2, none⟩ = some (.int .u8 (z 2)) ∧ w2.cell? ⟨w.heap.size + 2, 3, none⟩ = some (.int .u8 (z 3)) ∧ w2.cell? ⟨w.heap.size + 2, 4, none⟩ = some (.int .u8 (z 4)) ∧ w2.cell? ⟨w.heap.size + 2, 5, none⟩ = some (.int .u8 (z 5)) := ⟨hx2.c 0 (by omega), hx2.c 1 (by omega), hx2.c 2 (by omega), hx2.c 3 (by omega), hx2.c 4 (by omega), hx2.c 5 (by omega), hy2.c 0 (by omega), hy2.c 1 (by omega), hy2.c 2 (by omega), hy2.c 3 (by omega), hy2.c 4 (by omega), hy2.c 5 (by omega), hz2.c 0 (by omega), hz2.c 1 (by omega), hz2.c 2 (by omega), hz2.c 3 (by omega), hz2.c 4 (by omega), hz2.c 5 (by omega)⟩
  go_wp2
  go_region_held3 (fun w' => w'.cell? ⟨w.heap.size, 0, none⟩ = some (.int .u8 (x 0)) ∧ w'.cell? ⟨w.heap.size, 1, none⟩ = some (.int .u8 (x 1)) ∧ w'.cell? ⟨w.heap.size, 2, none⟩ = some (.int .u8 (x 2)) ∧ w'.cell? ⟨w.heap.size, 3, none⟩ = some (.int .u8 (x 3)) ∧ w'.cell? ⟨w.heap.size, 4, none⟩ = some (.int .u8 (x 4)) ∧ w'.cell? ⟨w.heap.size, 5, none⟩ = some (.int .u8 (x 5)) ∧ w'.cell? ⟨w.heap.size + 1, 0, none⟩ = some (.int .u8 (y 0)) ∧ w'.cell? ⟨w.heap.size + 1, 1, none⟩ = some (.int .u8 (y 1)) ∧ w'.cell? ⟨w.heap.size + 1, 2, none⟩ = some (.int .u8 (y 2)) ∧ w'.cell? ⟨w.heap.size + 1, 3, none⟩ = some (.int .u8 (y 3)) ∧ w'.cell? ⟨w.heap.size + 1, 4, none⟩ = some (.int .u8 (y 4)) ∧ w'.cell? ⟨w.heap.size + 1, 5, none⟩ = some (.int .u8 (y 5)) ∧ w'.cell? ⟨w.heap.size + 2, 0, none⟩ = some (.int .u8 (z 0)) ∧ w'.cell? ⟨w.heap.size + 2, 1, none⟩ = some (.int .u8 (z 1)) ∧ w'.cell? ⟨w.heap.size + 2, 2, none⟩ = some (.int .u8 (z 2)) ∧ w'.cell? ⟨w.heap.size + 2, 3, none⟩ = some (.int .u8 (z 3)) ∧ w'.cell? ⟨w.heap.size + 2, 4, none⟩ = some (.int .u8 (z 4)) ∧ w'.cell? ⟨w.heap.size + 2, 5, none⟩ = some (.int .u8 (z 5)))
    (first
      | exact S4
      | exact S3
      | exact S2)
    (first
      | (go_at_call 14; (with_reducible refine (less_lit x y hx hy false hxy _).mono ?_); rintro e w3 ⟨rfl, k3⟩; have hx3 : HasA w3 _ x := HasA.below hx2.drew k3 hx2.lt; have hy3 : HasA w3 _ y := HasA.below hy2.drew k3 hy2.lt; have hz3 : HasA w3 _ z := HasA.below hz2.drew k3 hz2.lt; have S3 : w3.cell? ⟨w.heap.size, 0, none⟩ = some (.int .u8 (x 0)) ∧ w3.cell? ⟨w.heap.size, 1, none⟩ = some (.int .u8 (x 1)) ∧ w3.cell? ⟨w.heap.size, 2, none⟩ = some (.int .u8 (x 2)) ∧ w3.cell? ⟨w.heap.size, 3, none⟩ = some (.int .u8 (x 3)) ∧ w3.cell? ⟨w.heap.size, 4, none⟩ = some (.int .u8 (x 4)) ∧ w3.cell? ⟨w.heap.size, 5, none⟩ = some (.int .u8 (x 5)) ∧ w3.cell? ⟨w.heap.size + 1, 0, none⟩ = some (.int .u8 (y 0)) ∧ w3.cell? ⟨w.heap.size + 1, 1, none⟩ = some (.int .u8 (y 1)) ∧ w3.cell? ⟨w.heap.size + 1, 2, none⟩ = some (.int .u8 (y 2)) ∧ w3.cell? ⟨w.heap.size + 1, 3, none⟩ = some (.int .u8 (y 3)) ∧ w3.cell? ⟨w.heap.size + 1, 4, none⟩ = some (.int .u8 (y 4)) ∧ w3.cell? ⟨w.heap.size + 1, 5, none⟩ = some (.int .u8 (y 5)) ∧ w3.cell? ⟨w.heap.size + 2, 0, none⟩ = some (.int .u8 (z 0)) ∧ w3.cell? ⟨w.heap.size + 2, 1, none⟩ = some (.int .u8 (z 1)) ∧ w3.cell? ⟨w.heap.size + 2, 2, none⟩ = some (.int .u8 (z 2)) ∧ w3.cell? ⟨w.heap.size + 2, 3, none⟩ = some (.int .u8 (z 3)) ∧ w3.cell? ⟨w.heap.size + 2, 4, none⟩ = some (.int .u8 (z 4)) ∧ w3.cell? ⟨w.heap.size + 2, 5, none⟩ = some (.int .u8 (z 5)) := ⟨hx3.c 0 (by omega), hx3.c 1 (by omega), hx3.c 2 (by omega), hx3.c 3 (by omega), hx3.c 4 (by omega), hx3.c 5 (by omega), hy3.c 0 (by omega), hy3.c 1 (by omega), hy3.c 2 (by omega), hy3.c 3 (by omega), hy3.c 4 (by omega), hy3.c 5 (by omega), hz3.c 0 (by omega), hz3.c 1 (by omega), hz3.c 2 (by omega), hz3.c 3 (by omega), hz3.c 4 (by omega), hz3.c 5 (by omega)⟩)
      | (go_at_call 14; (with_reducible refine (less_lit y x hy hx false hyx _).mono ?_); rintro e w4 ⟨rfl, k4⟩; have hx4 : HasA w4 _ x := HasA.below hx3 k4 hx3.lt; have hy4 : HasA w4 _ y := HasA.below hy3 k4 hy3.lt; have hz4 : HasA w4 _ z := HasA.below hz3 k4 hz3.lt; have S4 : w4.cell? ⟨w.heap.size, 0, none⟩ = some (.int .u8 (x 0)) ∧ w4.cell? ⟨w.heap.size, 1, none⟩ = some (.int .u8 (x 1)) ∧ w4.cell? ⟨w.heap.size, 2, none⟩ = some (.int .u8 (x 2)) ∧ w4.cell? ⟨w.heap.size, 3, none⟩ = some (.int .u8 (x 3)) ∧ w4.cell? ⟨w.heap.size, 4, none⟩ = some (.int .u8 (x 4)) ∧ w4.cell? ⟨w.heap.size, 5, none⟩ = some (.int .u8 (x 5)) ∧ w4.cell? ⟨w.heap.size + 1, 0, none⟩ = some (.int .u8 (y 0)) ∧ w4.cell? ⟨w.heap.size + 1, 1, none⟩ = some (.int .u8 (y 1)) ∧ w4.cell? ⟨w.heap.size + 1, 2, none⟩ = some (.int .u8 (y 2)) ∧ w4.cell? ⟨w.heap.size + 1, 3, none⟩ = some (.int .u8 (y 3)) ∧ w4.cell? ⟨w.heap.size + 1, 4, none⟩ = some (.int .u8 (y 4)) ∧ w4.cell? ⟨w.heap.size + 1, 5, none⟩ = some (.int .u8 (y 5)) ∧ w4.cell? ⟨w.heap.size + 2, 0, none⟩ = some (.int .u8 (z 0)) ∧ w4.cell? ⟨w.heap.size + 2, 1, none⟩ = some (.int .u8 (z 1)) ∧ w4.cell? ⟨w.heap.size + 2, 2, none⟩ = some (.int .u8 (z 2)) ∧ w4.cell? ⟨w.heap.size + 2, 3, none⟩ = some (.int .u8 (z 3)) ∧ w4.cell? ⟨w.heap.size + 2, 4, none⟩ = some (.int .u8 (z 4)) ∧ w4.cell? ⟨w.heap.size + 2, 5, none⟩ = some (.int .u8 (z 5)) := ⟨hx4.c 0 (by omega), hx4.c 1 (by omega), hx4.c 2 (by omega), hx4.c 3 (by omega), hx4.c 4 (by omega), hx4.c 5 (by omega), hy4.c 0 (by omega), hy4.c 1 (by omega), hy4.c 2 (by omega), hy4.c 3 (by omega), hy4.c 4 (by omega), hy4.c 5 (by omega), hz4.c 0 (by omega), hz4.c 1 (by omega), hz4.c 2 (by omega), hz4.c 3 (by omega), hz4.c 4 (by omega), hz4.c 5 (by omega)⟩))
  all_goals (
    go_wp2_with fail
    refine wp_region_noPanic ?_
    refine wp_region_held_drew (S := (fun w' => w'.cell? ⟨w.heap.size, 0, none⟩ = some (.int .u8 (x 0)) ∧ w'.cell? ⟨w.heap.size, 1, none⟩ = some (.int .u8 (x 1)) ∧ w'.cell? ⟨w.heap.size, 2, none⟩ = some (.int .u8 (x 2)) ∧ w'.cell? ⟨w.heap.size, 3, none⟩ = some (.int .u8 (x 3)) ∧ w'.cell? ⟨w.heap.size, 4, none⟩ = some (.int .u8 (x 4)) ∧ w'.cell? ⟨w.heap.size, 5, none⟩ = some (.int .u8 (x 5)) ∧ w'.cell? ⟨w.heap.size + 1, 0, none⟩ = some (.int .u8 (y 0)) ∧ w'.cell? ⟨w.heap.size + 1, 1, none⟩ = some (.int .u8 (y 1)) ∧ w'.cell? ⟨w.heap.size + 1, 2, none⟩ = some (.int .u8 (y 2)) ∧ w'.cell? ⟨w.heap.size + 1, 3, none⟩ = some (.int .u8 (y 3)) ∧ w'.cell? ⟨w.heap.size + 1, 4, none⟩ = some (.int .u8 (y 4)) ∧ w'.cell? ⟨w.heap.size + 1, 5, none⟩ = some (.int .u8 (y 5)) ∧ w'.cell? ⟨w.heap.size + 2, 0, none⟩ = some (.int .u8 (z 0)) ∧ w'.cell? ⟨w.heap.size + 2, 1, none⟩ = some (.int .u8 (z 1)) ∧ w'.cell? ⟨w.heap.size + 2, 2, none⟩ = some (.int .u8 (z 2)) ∧ w'.cell? ⟨w.heap.size + 2, 3, none⟩ = some (.int .u8 (z 3)) ∧ w'.cell? ⟨w.heap.size + 2, 4, none⟩ = some (.int .u8 (z 4)) ∧ w'.cell? ⟨w.heap.size + 2, 5, none⟩ = some (.int .u8 (z 5)))) (by kernel_rfl) ?_ (fun hHeld => ?_)
    · exact S4
    refine wpAnyH_take (i := 0) (v := ?_) rfl (by kernel_rfl) (by kernel_rfl) (by kernel_rfl) (fun _ _ _ h => h) (Or.inl ⟨by rfl, ?_⟩) (by assumption) ?_
    rotate_left
    · (intro w hSw; (try dsimp only at hSw); go_simp; (try with_reducible rfl))
    (try simp only [Act.put, List.getElem_toArray, List.getElem_cons_zero, List.getElem_cons_succ, List.setIfInBounds_toArray, List.set_cons_zero, List.set_cons_succ])
    refine wpAnyH_take (i := 1) (v := ?_) rfl (by kernel_rfl) (by kernel_rfl) (by kernel_rfl) (fun _ _ _ h => h) (Or.inl ⟨by rfl, ?_⟩) (by assumption) ?_
    rotate_left
    · (intro w hSw; (try dsimp only at hSw); go_simp; (try with_reducible rfl))
    (try simp only [Act.put, List.getElem_toArray, List.getElem_cons_zero, List.getElem_cons_succ, List.setIfInBounds_toArray, List.set_cons_zero, List.set_cons_succ])
    refine wpAnyH_take (i := 2) (v := ?_) rfl (by kernel_rfl) (by kernel_rfl) (by kernel_rfl) (fun _ _ _ h => h) (Or.inl ⟨by rfl, ?_⟩) (by assumption) ?_
    rotate_left
    · (intro w hSw; (try dsimp only at hSw); go_simp; (try with_reducible rfl))
    (try simp only [Act.put, List.getElem_toArray, List.getElem_cons_zero, List.getElem_cons_succ, List.setIfInBounds_toArray, List.set_cons_zero, List.set_cons_succ])
    refine wpAnyH_take (i := 3) (v := ?_) rfl (by kernel_rfl) (by kernel_rfl) (by kernel_rfl) (fun _ _ _ h => h) (Or.inl ⟨by rfl, ?_⟩) (by assumption) ?_
    rotate_left
    · (intro w hSw; (try dsimp only at hSw); go_simp; (try with_reducible rfl))
    (try simp only [Act.put, List.getElem_toArray, List.getElem_cons_zero, List.getElem_cons_succ, List.setIfInBounds_toArray, List.set_cons_zero, List.set_cons_succ])
    refine wpAnyH_take (i := 4) (v := ?_) rfl (by kernel_rfl) (by kernel_rfl) (by kernel_rfl) (fun _ _ _ h => h) (Or.inl ⟨by rfl, ?_⟩) (by assumption) ?_
    rotate_left
    · (intro w hSw; (try dsimp only at hSw); go_simp; (try with_reducible rfl))
    (try simp only [Act.put, List.getElem_toArray, List.getElem_cons_zero, List.getElem_cons_succ, List.setIfInBounds_toArray, List.set_cons_zero, List.set_cons_succ])
    refine wpAnyH_take (i := 5) (v := ?_) rfl (by kernel_rfl) (by kernel_rfl) (by kernel_rfl) (fun _ _ _ h => h) (Or.inl ⟨by rfl, ?_⟩) (by assumption) ?_
    rotate_left
    · (intro w hSw; (try dsimp only at hSw); go_simp; (try with_reducible rfl))
    (try simp only [Act.put, List.getElem_toArray, List.getElem_cons_zero, List.getElem_cons_succ, List.setIfInBounds_toArray, List.set_cons_zero, List.set_cons_succ])
    refine wpAnyH_take (i := 6) (v := ?_) rfl (by kernel_rfl) (by kernel_rfl) (by kernel_rfl) (fun _ _ _ h => h) (Or.inl ⟨by rfl, ?_⟩) (by assumption) ?_
    rotate_left
    · (intro w hSw; (try dsimp only at hSw); go_simp; (try with_reducible rfl))
    (try simp only [Act.put, List.getElem_toArray, List.getElem_cons_zero, List.getElem_cons_succ, List.setIfInBounds_toArray, List.set_cons_zero, List.set_cons_succ])
    refine wpAnyH_take (i := 7) (v := ?_) rfl (by kernel_rfl) (by kernel_rfl) (by kernel_rfl) (fun _ _ _ h => h) (Or.inl ⟨by rfl, ?_⟩) (by assumption) ?_
    rotate_left
    · (intro w hSw; (try dsimp only at hSw); go_simp; (try with_reducible rfl))
    (try simp only [Act.put, List.getElem_toArray, List.getElem_cons_zero, List.getElem_cons_succ, List.setIfInBounds_toArray, List.set_cons_zero, List.set_cons_succ])
    refine wpAnyH_take (i := 8) (v := ?_) rfl (by kernel_rfl) (by kernel_rfl) (by kernel_rfl) (fun _ _ _ h => h) (Or.inl ⟨by rfl, ?_⟩) (by assumption) ?_
    rotate_left
    · (intro w hSw; (try dsimp only at hSw); go_simp; (try with_reducible rfl))
    (try simp only [Act.put, List.getElem_toArray, List.getElem_cons_zero, List.getElem_cons_succ, List.setIfInBounds_toArray, List.set_cons_zero, List.set_cons_succ])
    refine wpAnyH_take (i := 9) (v := ?_) rfl (by kernel_rfl) (by kernel_rfl) (by kernel_rfl) (fun _ _ _ h => h) (Or.inl ⟨by rfl, ?_⟩) (by assumption) ?_
    rotate_left
    · (intro w hSw; (try dsimp only at hSw); go_simp; (try with_reducible rfl))
    (try simp only [Act.put, List.getElem_toArray, List.getElem_cons_zero, List.getElem_cons_succ, List.setIfInBounds_toArray, List.set_cons_zero, List.set_cons_succ])
    refine wpAnyH_take (i := 10) (v := undef) rfl (by kernel_rfl) (by kernel_rfl) (by kernel_rfl) (fun _ _ _ h => h) (Or.inr ⟨by rfl, rfl⟩) (by assumption) ?_
    (try simp only [Act.put, List.getElem_toArray, List.getElem_cons_zero, List.getElem_cons_succ, List.setIfInBounds_toArray, List.set_cons_zero, List.set_cons_succ])
    refine wpAnyH_take (i := 11) (v := ?_) rfl (by kernel_rfl) (by kernel_rfl) (by kernel_rfl) (fun _ _ _ h => h) (Or.inl ⟨by rfl, ?_⟩) (by assumption) ?_
    rotate_left
    · (intro w hSw; (try dsimp only at hSw); go_simp; (try with_reducible rfl))
    (try simp only [Act.put, List.getElem_toArray, List.getElem_cons_zero, List.getElem_cons_succ, List.setIfInBounds_toArray, List.set_cons_zero, List.set_cons_succ])
    refine wpAnyH_take (i := 12) (v := ?_) rfl (by kernel_rfl) (by kernel_rfl) (by kernel_rfl) (fun _ _ _ h => h) (Or.inl ⟨by rfl, ?_⟩) (by assumption) ?_
    rotate_left
    · (intro w hSw; (try dsimp only at hSw); go_simp; (try with_reducible rfl))
    (try simp only [Act.put, List.getElem_toArray, List.getElem_cons_zero, List.getElem_cons_succ, List.setIfInBounds_toArray, List.set_cons_zero, List.set_cons_succ])
    refine wpAnyH_take (i := 13) (v := ?_) rfl (by kernel_rfl) (by kernel_rfl) (by kernel_rfl) (fun _ _ _ h => h) (Or.inl ⟨by rfl, ?_⟩) (by assumption) ?_
    rotate_left
    · (intro w hSw; (try dsimp only at hSw); go_simp; (try with_reducible rfl))
    (try simp only [Act.put, List.getElem_toArray, List.getElem_cons_zero, List.getElem_cons_succ, List.setIfInBounds_toArray, List.set_cons_zero, List.set_cons_succ])
    refine wpAnyH_take (i := 14) (v := ?_) rfl (by kernel_rfl) (by kernel_rfl) (by kernel_rfl) (fun _ _ _ h => h) (Or.inl ⟨by rfl, ?_⟩) (by assumption) ?_
    rotate_left
    · (intro w hSw; (try dsimp only at hSw); go_simp; (try with_reducible rfl))
    (try simp only [Act.put, List.getElem_toArray, List.getElem_cons_zero, List.getElem_cons_succ, List.setIfInBounds_toArray, List.set_cons_zero, List.set_cons_succ])
    refine wpAnyH_take (i := 15) (v := ?_) rfl (by kernel_rfl) (by kernel_rfl) (by kernel_rfl) (fun _ _ _ h => h) (Or.inl ⟨by rfl, ?_⟩) (by assumption) ?_
    rotate_left
    · (intro w hSw; (try dsimp only at hSw); go_simp; (try with_reducible rfl))
    (try simp only [Act.put, List.getElem_toArray, List.getElem_cons_zero, List.getElem_cons_succ, List.setIfInBounds_toArray, List.set_cons_zero, List.set_cons_succ])
    refine wpAnyH_take (i := 16) (v := ?_) rfl (by kernel_rfl) (by kernel_rfl) (by kernel_rfl) (fun _ _ _ h => h) (Or.inl ⟨by rfl, ?_⟩) (by assumption) ?_
    rotate_left
    · (intro w hSw; (try dsimp only at hSw); go_simp; (try with_reducible rfl))
    (try simp only [Act.put, List.getElem_toArray, List.getElem_cons_zero, List.getElem_cons_succ, List.setIfInBounds_toArray, List.set_cons_zero, List.set_cons_succ])
    refine wpAnyH_take (i := 17) (v := ?_) rfl (by kernel_rfl) (by kernel_rfl) (by kernel_rfl) (fun _ _ _ h => h) (Or.inl ⟨by rfl, ?_⟩) (by assumption) ?_
    rotate_left
    · (intro w hSw; (try dsimp only at hSw); go_simp; (try with_reducible rfl))
    (try simp only [Act.put, List.getElem_toArray, List.getElem_cons_zero, List.getElem_cons_succ, List.setIfInBounds_toArray, List.set_cons_zero, List.set_cons_succ])
    refine wpAnyH_take (i := 18) (v := undef) rfl (by kernel_rfl) (by kernel_rfl) (by kernel_rfl) (fun _ _ _ h => h) (Or.inr ⟨by rfl, rfl⟩) (by assumption) ?_
    (try simp only [Act.put, List.getElem_toArray, List.getElem_cons_zero, List.getElem_cons_succ, List.setIfInBounds_toArray, List.set_cons_zero, List.set_cons_succ])
    refine wpAnyH_take (i := 19) (v := undef) rfl (by kernel_rfl) (by kernel_rfl) (by kernel_rfl) (fun _ _ _ h => h) (Or.inr ⟨by rfl, rfl⟩) (by assumption) ?_
    (try simp only [Act.put, List.getElem_toArray, List.getElem_cons_zero, List.getElem_cons_succ, List.setIfInBounds_toArray, List.set_cons_zero, List.set_cons_succ])
    refine wpAnyH_take (i := 20) (v := undef) rfl (by kernel_rfl) (by kernel_rfl) (by kernel_rfl) (fun _ _ _ h => h) (Or.inr ⟨by rfl, rfl⟩) (by assumption) ?_
    (try simp only [Act.put, List.getElem_toArray, List.getElem_cons_zero, List.getElem_cons_succ, List.setIfInBounds_toArray, List.set_cons_zero, List.set_cons_succ])
    refine wpAnyH_take (i := 21) (v := undef) rfl (by kernel_rfl) (by kernel_rfl) (by kernel_rfl) (fun _ _ _ h => h) (Or.inr ⟨by rfl, rfl⟩) (by assumption) ?_
    (try simp only [Act.put, List.getElem_toArray, List.getElem_cons_zero, List.getElem_cons_succ, List.setIfInBounds_toArray, List.set_cons_zero, List.set_cons_succ])
    refine wpAnyH_take (i := 22) (v := ?_) rfl (by kernel_rfl) (by kernel_rfl) (by kernel_rfl) (fun _ _ _ h => h) (Or.inl ⟨by rfl, ?_⟩) (by assumption) ?_
    rotate_left
    · (intro w hSw; (try dsimp only at hSw); go_simp; (try with_reducible rfl))
    (try simp only [Act.put, List.getElem_toArray, List.getElem_cons_zero, List.getElem_cons_succ, List.setIfInBounds_toArray, List.set_cons_zero, List.set_cons_succ])
    refine wpAnyH_take (i := 23) (v := ?_) rfl (by kernel_rfl) (by kernel_rfl) (by kernel_rfl) (fun _ _ _ h => h) (Or.inl ⟨by rfl, ?_⟩) (by assumption) ?_
    rotate_left
    · (intro w hSw; (try dsimp only at hSw); go_simp; (try with_reducible rfl))
    (try simp only [Act.put, List.getElem_toArray, List.getElem_cons_zero, List.getElem_cons_succ, List.setIfInBounds_toArray, List.set_cons_zero, List.set_cons_succ])
    refine wpAnyH_take (i := 24) (v := undef) rfl (by kernel_rfl) (by kernel_rfl) (by kernel_rfl) (fun _ _ _ h => h) (Or.inr ⟨by rfl, rfl⟩) (by assumption) ?_
    (try simp only [Act.put, List.getElem_toArray, List.getElem_cons_zero, List.getElem_cons_succ, List.setIfInBounds_toArray, List.set_cons_zero, List.set_cons_succ])
    refine wpAnyH_take (i := 25) (v := undef) rfl (by kernel_rfl) (by kernel_rfl) (by kernel_rfl) (fun _ _ _ h => h) (Or.inr ⟨by rfl, rfl⟩) (by assumption) ?_
    (try simp only [Act.put, List.getElem_toArray, List.getElem_cons_zero, List.getElem_cons_succ, List.setIfInBounds_toArray, List.set_cons_zero, List.set_cons_succ])
    refine wpAnyH_take (i := 26) (v := undef) rfl (by kernel_rfl) (by kernel_rfl) (by kernel_rfl) (fun _ _ _ h => h) (Or.inr ⟨by rfl, rfl⟩) (by assumption) ?_
    (try simp only [Act.put, List.getElem_toArray, List.getElem_cons_zero, List.getElem_cons_succ, List.setIfInBounds_toArray, List.set_cons_zero, List.set_cons_succ])
    refine wpAnyH_take (i := 27) (v := ?_) rfl (by kernel_rfl) (by kernel_rfl) (by kernel_rfl) (fun _ _ _ h => h) (Or.inl ⟨by rfl, ?_⟩) (by assumption) ?_
    rotate_left
    · (intro w hSw; (try dsimp only at hSw); go_simp; (try with_reducible rfl))
    (try simp only [Act.put, List.getElem_toArray, List.getElem_cons_zero, List.getElem_cons_succ, List.setIfInBounds_toArray, List.set_cons_zero, List.set_cons_succ])
    refine wpAnyH_take (i := 28) (v := ?_) rfl (by kernel_rfl) (by kernel_rfl) (by kernel_rfl) (fun _ _ _ h => h) (Or.inl ⟨by rfl, ?_⟩) (by assumption) ?_
    rotate_left
    · (intro w hSw; (try dsimp only at hSw); go_simp; (try with_reducible rfl))
    (try simp only [Act.put, List.getElem_toArray, List.getElem_cons_zero, List.getElem_cons_succ, List.setIfInBounds_toArray, List.set_cons_zero, List.set_cons_succ])
    refine wpAnyH_take (i := 29) (v := ?_) rfl (by kernel_rfl) (by kernel_rfl) (by kernel_rfl) (fun _ _ _ h => h) (Or.inl ⟨by rfl, ?_⟩) (by assumption) ?_
    rotate_left
    · (intro w hSw; (try dsimp only at hSw); go_simp; (try with_reducible rfl))
    (try simp only [Act.put, List.getElem_toArray, List.getElem_cons_zero, List.getElem_cons_succ, List.setIfInBounds_toArray, List.set_cons_zero, List.set_cons_succ])
    refine wpAnyH_take (i := 30) (v := ?_) rfl (by kernel_rfl) (by kernel_rfl) (by kernel_rfl) (fun _ _ _ h => h) (Or.inl ⟨by rfl, ?_⟩) (by assumption) ?_
    rotate_left
    · (intro w hSw; (try dsimp only at hSw); go_simp; (try with_reducible rfl))
    (try simp only [Act.put, List.getElem_toArray, List.getElem_cons_zero, List.getElem_cons_succ, List.setIfInBounds_toArray, List.set_cons_zero, List.set_cons_succ])
    refine wpAnyH_take (i := 31) (v := ?_) rfl (by kernel_rfl) (by kernel_rfl) (by kernel_rfl) (fun _ _ _ h => h) (Or.inl ⟨by rfl, ?_⟩) (by assumption) ?_
    rotate_left
    · (intro w hSw; (try dsimp only at hSw); go_simp; (try with_reducible rfl))
    (try simp only [Act.put, List.getElem_toArray, List.getElem_cons_zero, List.getElem_cons_succ, List.setIfInBounds_toArray, List.set_cons_zero, List.set_cons_succ])
    refine wpAnyH_take (i := 33) (v := ?_) rfl (by kernel_rfl) (by kernel_rfl) (by kernel_rfl) (fun _ _ _ h => h) (Or.inl ⟨by rfl, ?_⟩) (by assumption) ?_
    rotate_left
    · (intro w hSw; (try dsimp only at hSw); go_simp; (try with_reducible rfl))
    (try simp only [Act.put, List.getElem_toArray, List.getElem_cons_zero, List.getElem_cons_succ, List.setIfInBounds_toArray, List.set_cons_zero, List.set_cons_succ])
    refine wpAnyH_ready (rs := [32]) (by kernel_rfl) (by simp) ?_
    refine AllReadyH.cons rfl (fun K hK => ?_) AllReadyH.nil
    simp only [List.getElem_toArray, List.getElem_cons_zero, List.getElem_cons_succ]
    go_simp
    (go_at_call 9; (with_reducible refine (text_lit x hx _).mono ?_); rintro e w5 ⟨rfl, k5⟩; have hx5 : HasA w5 _ x := HasA.below hx4.drew k5 hx4.lt; have hy5 : HasA w5 _ y := HasA.below hy4.drew k5 hy4.lt; have hz5 : HasA w5 _ z := HasA.below hz4.drew k5 hz4.lt; have S5 : w5.cell? ⟨w.heap.size, 0, none⟩ = some (.int .u8 (x 0)) ∧ w5.cell? ⟨w.heap.size, 1, none⟩ = some (.int .u8 (x 1)) ∧ w5.cell? ⟨w.heap.size, 2, none⟩ = some (.int .u8 (x 2)) ∧ w5.cell? ⟨w.heap.size, 3, none⟩ = some (.int .u8 (x 3)) ∧ w5.cell? ⟨w.heap.size, 4, none⟩ = some (.int .u8 (x 4)) ∧ w5.cell? ⟨w.heap.size, 5, none⟩ = some (.int .u8 (x 5)) ∧ w5.cell? ⟨w.heap.size + 1, 0, none⟩ = some (.int .u8 (y 0)) ∧ w5.cell? ⟨w.heap.size + 1, 1, none⟩ = some (.int .u8 (y 1)) ∧ w5.cell? ⟨w.heap.size + 1, 2, none⟩ = some (.int .u8 (y 2)) ∧ w5.cell? ⟨w.heap.size + 1, 3, none⟩ = some (.int .u8 (y 3)) ∧ w5.cell? ⟨w.heap.size + 1, 4, none⟩ = some (.int .u8 (y 4)) ∧ w5.cell? ⟨w.heap.size + 1, 5, none⟩ = some (.int .u8 (y 5)) ∧ w5.cell? ⟨w.heap.size + 2, 0, none⟩ = some (.int .u8 (z 0)) ∧ w5.cell? ⟨w.heap.size + 2, 1, none⟩ = some (.int .u8 (z 1)) ∧ w5.cell? ⟨w.heap.size + 2, 2, none⟩ = some (.int .u8 (z 2)) ∧ w5.cell? ⟨w.heap.size + 2, 3, none⟩ = some (.int .u8 (z 3)) ∧ w5.cell? ⟨w.heap.size + 2, 4, none⟩ = some (.int .u8 (z 4)) ∧ w5.cell? ⟨w.heap.size + 2, 5, none⟩ = some (.int .u8 (z 5)) := ⟨hx5.c 0 (by omega), hx5.c 1 (by omega), hx5.c 2 (by omega), hx5.c 3 (by omega), hx5.c 4 (by omega), hx5.c 5 (by omega), hy5.c 0 (by omega), hy5.c 1 (by omega), hy5.c 2 (by omega), hy5.c 3 (by omega), hy5.c 4 (by omega), hy5.c 5 (by omega), hz5.c 0 (by omega), hz5.c 1 (by omega), hz5.c 2 (by omega), hz5.c 3 (by omega), hz5.c 4 (by omega), hz5.c 5 (by omega)⟩)
    refine hK.out _ _ ?_ (fun hHeld => ?_)
    · exact S5
    clear hK K
    (try simp only [Act.put, List.getElem_toArray, List.getElem_cons_zero, List.getElem_cons_succ, List.setIfInBounds_toArray, List.set_cons_zero, List.set_cons_succ])
    refine wpAnyH_ready (rs := [34]) (by kernel_rfl) (by simp) ?_
    refine AllReadyH.cons rfl (fun K hK => ?_) AllReadyH.nil
    simp only [List.getElem_toArray, List.getElem_cons_zero, List.getElem_cons_succ]
    go_simp
    (go_at_call 9; (with_reducible refine (text_lit y hy _).mono ?_); rintro e w6 ⟨rfl, k6⟩; have hx6 : HasA w6 _ x := HasA.below hx5 k6 hx5.lt; have hy6 : HasA w6 _ y := HasA.below hy5 k6 hy5.lt; have hz6 : HasA w6 _ z := HasA.below hz5 k6 hz5.lt; have S6 : w6.cell? ⟨w.heap.size, 0, none⟩ = some (.int .u8 (x 0)) ∧ w6.cell? ⟨w.heap.size, 1, none⟩ = some (.int .u8 (x 1)) ∧ w6.cell? ⟨w.heap.size, 2, none⟩ = some (.int .u8 (x 2)) ∧ w6.cell? ⟨w.heap.size, 3, none⟩ = some (.int .u8 (x 3)) ∧ w6.cell? ⟨w.heap.size, 4, none⟩ = some (.int .u8 (x 4)) ∧ w6.cell? ⟨w.heap.size, 5, none⟩ = some (.int .u8 (x 5)) ∧ w6.cell? ⟨w.heap.size + 1, 0, none⟩ = some (.int .u8 (y 0)) ∧ w6.cell? ⟨w.heap.size + 1, 1, none⟩ = some (.int .u8 (y 1)) ∧ w6.cell? ⟨w.heap.size + 1, 2, none⟩ = some (.int .u8 (y 2)) ∧ w6.cell? ⟨w.heap.size + 1, 3, none⟩ = some (.int .u8 (y 3)) ∧ w6.cell? ⟨w.heap.size + 1, 4, none⟩ = some (.int .u8 (y 4)) ∧ w6.cell? ⟨w.heap.size + 1, 5, none⟩ = some (.int .u8 (y 5)) ∧ w6.cell? ⟨w.heap.size + 2, 0, none⟩ = some (.int .u8 (z 0)) ∧ w6.cell? ⟨w.heap.size + 2, 1, none⟩ = some (.int .u8 (z 1)) ∧ w6.cell? ⟨w.heap.size + 2, 2, none⟩ = some (.int .u8 (z 2)) ∧ w6.cell? ⟨w.heap.size + 2, 3, none⟩ = some (.int .u8 (z 3)) ∧ w6.cell? ⟨w.heap.size + 2, 4, none⟩ = some (.int .u8 (z 4)) ∧ w6.cell? ⟨w.heap.size + 2, 5, none⟩ = some (.int .u8 (z 5)) := ⟨hx6.c 0 (by omega), hx6.c 1 (by omega), hx6.c 2 (by omega), hx6.c 3 (by omega), hx6.c 4 (by omega), hx6.c 5 (by omega), hy6.c 0 (by omega), hy6.c 1 (by omega), hy6.c 2 (by omega), hy6.c 3 (by omega), hy6.c 4 (by omega), hy6.c 5 (by omega), hz6.c 0 (by omega), hz6.c 1 (by omega), hz6.c 2 (by omega), hz6.c 3 (by omega), hz6.c 4 (by omega), hz6.c 5 (by omega)⟩)
    refine hK.out _ _ ?_ (fun hHeld => ?_)
    · exact S6
    clear hK K
    (try simp only [Act.put, List.getElem_toArray, List.getElem_cons_zero, List.getElem_cons_succ, List.setIfInBounds_toArray, List.set_cons_zero, List.set_cons_succ])
    refine wpAnyH_take (i := 35) (v := ?_) rfl (by kernel_rfl) (by kernel_rfl) (by kernel_rfl) (fun _ _ _ h => h) (Or.inl ⟨by rfl, ?_⟩) (by assumption) ?_
    rotate_left
    · (intro w hSw; (try dsimp only at hSw); go_simp; (try with_reducible rfl))
    (try simp only [Act.put, List.getElem_toArray, List.getElem_cons_zero, List.getElem_cons_succ, List.setIfInBounds_toArray, List.set_cons_zero, List.set_cons_succ])
    refine wpAnyH_take (i := 36) (v := ?_) rfl (by kernel_rfl) (by kernel_rfl) (by kernel_rfl) (fun _ _ _ h => h) (Or.inl ⟨by rfl, ?_⟩) (by assumption) ?_
    rotate_left
    · (intro w hSw; (try dsimp only at hSw); go_simp; (try with_reducible rfl))
    (try simp only [Act.put, List.getElem_toArray, List.getElem_cons_zero, List.getElem_cons_succ, List.setIfInBounds_toArray, List.set_cons_zero, List.set_cons_succ])
    refine wpAnyH_take (i := 37) (v := ?_) rfl (by kernel_rfl) (by kernel_rfl) (by kernel_rfl) (fun _ _ _ h => h) (Or.inl ⟨by rfl, ?_⟩) (by assumption) ?_
    rotate_left
    · (intro w hSw; (try dsimp only at hSw); go_simp; (try with_reducible rfl))
    (try simp only [Act.put, List.getElem_toArray, List.getElem_cons_zero, List.getElem_cons_succ, List.setIfInBounds_toArray, List.set_cons_zero, List.set_cons_succ])
    refine wpAnyH_take (i := 38) (v := ?_) rfl (by kernel_rfl) (by kernel_rfl) (by kernel_rfl) (fun _ _ _ h => h) (Or.inl ⟨by rfl, ?_⟩) (by assumption) ?_
    rotate_left
    · (intro w hSw; (try dsimp only at hSw); go_simp; (try with_reducible rfl))
    (try simp only [Act.put, List.getElem_toArray, List.getElem_cons_zero, List.getElem_cons_succ, List.setIfInBounds_toArray, List.set_cons_zero, List.set_cons_succ])
    refine wpAnyH_done (by kernel_rfl) ?_ _
    refine NoPanic.normal ?_
    go_wp2
    go_ret
    exact ⟨rfl, below_then (below_then (below_then (below_then (hb2.drew) k3) k4.drew) k5) k6⟩)

set_option linter.unusedSimpArgs false in
set_option maxHeartbeats 1600000 in
theorem walk_more (x y z : Nat → Nat) (hx : ∀ i, x i < 256) (hy : ∀ i, y i < 256) (hz : ∀ i, z i < 256) (hxy : Op.bytesLess (addrL x) (addrL y) = false) (hyx : Op.bytesLess (addrL y) (addrL x) = true) (hs : decide (six x = six y) = false) (w : World) :
    Calls Try.prog 5 #[addrV x, addrV y, addrV z] w fun e w' => e = .returned (.bool true) ∧ Below w.heap.size w w' := by
  have hx1 : HasA (((w.alloc (.cells #[.int .u8 (x 0), .int .u8 (x 1), .int .u8 (x 2), .int .u8 (x 3), .int .u8 (x 4), .int .u8 (x 5)] 23)).alloc (.cells #[.int .u8 (y 0), .int .u8 (y 1), .int .u8 (y 2), .int .u8 (y 3), .int .u8 (y 4), .int .u8 (y 5)] 23)).alloc (.cells #[.int .u8 (z 0), .int .u8 (z 1), .int .u8 (z 2), .int .u8 (z 3), .int .u8 (z 4), .int .u8 (z 5)] 23)) w.heap.size x := (heap_alloc_old _ _ (by simp; omega)).trans (heap_alloc2_old w _ _)
  have hy1 : HasA (((w.alloc (.cells #[.int .u8 (x 0), .int .u8 (x 1), .int .u8 (x 2), .int .u8 (x 3), .int .u8 (x 4), .int .u8 (x 5)] 23)).alloc (.cells #[.int .u8 (y 0), .int .u8 (y 1), .int .u8 (y 2), .int .u8 (y 3), .int .u8 (y 4), .int .u8 (y 5)] 23)).alloc (.cells #[.int .u8 (z 0), .int .u8 (z 1), .int .u8 (z 2), .int .u8 (z 3), .int .u8 (z 4), .int .u8 (z 5)] 23)) (w.heap.size + 1) y := (heap_alloc_old _ _ (by simp)).trans (heap_alloc2_new w _ _)
  have hz1 : HasA (((w.alloc (.cells #[.int .u8 (x 0), .int .u8 (x 1), .int .u8 (x 2), .int .u8 (x 3), .int .u8 (x 4), .int .u8 (x 5)] 23)).alloc (.cells #[.int .u8 (y 0), .int .u8 (y 1), .int .u8 (y 2), .int .u8 (y 3), .int .u8 (y 4), .int .u8 (y 5)] 23)).alloc (.cells #[.int .u8 (z 0), .int .u8 (z 1), .int .u8 (z 2), .int .u8 (z 3), .int .u8 (z 4), .int .u8 (z 5)] 23)) (w.heap.size + 2) z := by have q := heap_alloc_new ((w.alloc (.cells #[.int .u8 (x 0), .int .u8 (x 1), .int .u8 (x 2), .int .u8 (x 3), .int .u8 (x 4), .int .u8 (x 5)] 23)).alloc (.cells #[.int .u8 (y 0), .int .u8 (y 1), .int .u8 (y 2), .int .u8 (y 3), .int .u8 (y 4), .int .u8 (y 5)] 23)) (.cells #[.int .u8 (z 0), .int .u8 (z 1), .int .u8 (z 2), .int .u8 (z 3), .int .u8 (z 4), .int .u8 (z 5)] 23); rw [show ((w.alloc (.cells #[.int .u8 (x 0), .int .u8 (x 1), .int .u8 (x 2), .int .u8 (x 3), .int .u8 (x 4), .int .u8 (x 5)] 23)).alloc (.cells #[.int .u8 (y 0), .int .u8 (y 1), .int .u8 (y 2), .int .u8 (y 3), .int .u8 (y 4), .int .u8 (y 5)] 23)).heap.size = w.heap.size + 2 by simp] at q; exact q
  have hb1 : Below w.heap.size w (((w.alloc (.cells #[.int .u8 (x 0), .int .u8 (x 1), .int .u8 (x 2), .int .u8 (x 3), .int .u8 (x 4), .int .u8 (x 5)] 23)).alloc (.cells #[.int .u8 (y 0), .int .u8 (y 1), .int .u8 (y 2), .int .u8 (y 3), .int .u8 (y 4), .int .u8 (y 5)] 23)).alloc (.cells #[.int .u8 (z 0), .int .u8 (z 1), .int .u8 (z 2), .int .u8 (z 3), .int .u8 (z 4), .int .u8 (z 5)] 23)) := (((Below.refl _ _).alloc (Nat.le_refl _) _).alloc (by simp) _).alloc (by simp; omega) _
  have hq : ∀ W, (Op.equalIn 10000 23 (.agg #[.int .u8 (x 0), .int .u8 (x 1), .int .u8 (x 2), .int .u8 (x 3), .int .u8 (x 4), .int .u8 (x 5)]) (.agg #[.int .u8 (y 0), .int .u8 (y 1), .int .u8 (y 2), .int .u8 (y 3), .int .u8 (y 4), .int .u8 (y 5)])).run Try.prog W = .ok false W := fun W => by
    have h := run_eql_addr x y hx hy W
    rw [hs] at h
    exact h
  clear hs
  unfold addrV
  go_enter Try.func5, Try.ntmps5
  go_wp2_with fail
  refine (addressed_any _).mono ?_
  rintro e w2 ⟨rfl, k2⟩
  have hb2 := below_then hb1 k2
  have hx2 : HasA w2 _ x := hx1.below k2 hx1.lt
  have hy2 : HasA w2 _ y := hy1.below k2 hy1.lt
  have hz2 : HasA w2 _ z := hz1.below k2 hz1.lt
  clear hb1 hx1 hy1 hz1 k2
  have S2 : w2.cell? ⟨w.heap.size, 0, none⟩ = some (.int .u8 (x 0)) ∧ w2.cell? ⟨w.heap.size, 1, none⟩ = some (.int .u8 (x 1)) ∧ w2.cell? ⟨w.heap.size, 2, none⟩ = some (.int .u8 (x 2)) ∧ w2.cell? ⟨w.heap.size, 3, none⟩ = some (.int .u8 (x 3)) ∧ w2.cell? ⟨w.heap.size, 4, none⟩ = some (.int .u8 (x 4)) ∧ w2.cell? ⟨w.heap.size, 5, none⟩ = some (.int .u8 (x 5)) ∧ w2.cell? ⟨w.heap.size + 1, 0, none⟩ = some (.int .u8 (y 0)) ∧ w2.cell? ⟨w.heap.size + 1, 1, none⟩ = some (.int .u8 (y 1)) ∧ w2.cell? ⟨w.heap.size + 1, 2, none⟩ = some (.int .u8 (y 2)) ∧ w2.cell? ⟨w.heap.size + 1, 3, none⟩ = some (.int .u8 (y 3)) ∧ w2.cell? ⟨w.heap.size + 1, 4, none⟩ = some (.int .u8 (y 4)) ∧ w2.cell? ⟨w.heap.size + 1, 5, none⟩ = some (.int .u8 (y 5)) ∧ w2.cell? ⟨w.heap.size + 2, 0, none⟩ = some (.int .u8 (z 0)) ∧ w2.cell? ⟨w.heap.size + 2, 1, none⟩ = some (.int .u8 (z 1)) ∧ w2.cell? ⟨w.heap.size + 2, 2, none⟩ = some (.int .u8 (z 2)) ∧ w2.cell? ⟨w.heap.size + 2, 3, none⟩ = some (.int .u8 (z 3)) ∧ w2.cell? ⟨w.heap.size + 2, 4, none⟩ = some (.int .u8 (z 4)) ∧ w2.cell? ⟨w.heap.size + 2, 5, none⟩ = some (.int .u8 (z 5)) := ⟨hx2.c 0 (by omega), hx2.c 1 (by omega), hx2.c 2 (by omega), hx2.c 3 (by omega), hx2.c 4 (by omega), hx2.c 5 (by omega), hy2.c 0 (by omega), hy2.c 1 (by omega), hy2.c 2 (by omega), hy2.c 3 (by omega), hy2.c 4 (by omega), hy2.c 5 (by omega), hz2.c 0 (by omega), hz2.c 1 (by omega), hz2.c 2 (by omega), hz2.c 3 (by omega), hz2.c 4 (by omega), hz2.c 5 (by omega)⟩
  go_wp2
  go_region_held3 (fun w' => w'.cell? ⟨w.heap.size, 0, none⟩ = some (.int .u8 (x 0)) ∧ w'.cell? ⟨w.heap.size, 1, none⟩ = some (.int .u8 (x 1)) ∧ w'.cell? ⟨w.heap.size, 2, none⟩ = some (.int .u8 (x 2)) ∧ w'.cell? ⟨w.heap.size, 3, none⟩ = some (.int .u8 (x 3)) ∧ w'.cell? ⟨w.heap.size, 4, none⟩ = some (.int .u8 (x 4)) ∧ w'.cell? ⟨w.heap.size, 5, none⟩ = some (.int .u8 (x 5)) ∧ w'.cell? ⟨w.heap.size + 1, 0, none⟩ = some (.int .u8 (y 0)) ∧ w'.cell? ⟨w.heap.size + 1, 1, none⟩ = some (.int .u8 (y 1)) ∧ w'.cell? ⟨w.heap.size + 1, 2, none⟩ = some (.int .u8 (y 2)) ∧ w'.cell? ⟨w.heap.size + 1, 3, none⟩ = some (.int .u8 (y 3)) ∧ w'.cell? ⟨w.heap.size + 1, 4, none⟩ = some (.int .u8 (y 4)) ∧ w'.cell? ⟨w.heap.size + 1, 5, none⟩ = some (.int .u8 (y 5)) ∧ w'.cell? ⟨w.heap.size + 2, 0, none⟩ = some (.int .u8 (z 0)) ∧ w'.cell? ⟨w.heap.size + 2, 1, none⟩ = some (.int .u8 (z 1)) ∧ w'.cell? ⟨w.heap.size + 2, 2, none⟩ = some (.int .u8 (z 2)) ∧ w'.cell? ⟨w.heap.size + 2, 3, none⟩ = some (.int .u8 (z 3)) ∧ w'.cell? ⟨w.heap.size + 2, 4, none⟩ = some (.int .u8 (z 4)) ∧ w'.cell? ⟨w.heap.size + 2, 5, none⟩ = some (.int .u8 (z 5)))
    (first
      | exact S4
      | exact S3
      | exact S2)
    (first
      | (go_at_call 14; (with_reducible refine (less_lit x y hx hy false hxy _).mono ?_); rintro e w3 ⟨rfl, k3⟩; have hx3 : HasA w3 _ x := HasA.below hx2.drew k3 hx2.lt; have hy3 : HasA w3 _ y := HasA.below hy2.drew k3 hy2.lt; have hz3 : HasA w3 _ z := HasA.below hz2.drew k3 hz2.lt; have S3 : w3.cell? ⟨w.heap.size, 0, none⟩ = some (.int .u8 (x 0)) ∧ w3.cell? ⟨w.heap.size, 1, none⟩ = some (.int .u8 (x 1)) ∧ w3.cell? ⟨w.heap.size, 2, none⟩ = some (.int .u8 (x 2)) ∧ w3.cell? ⟨w.heap.size, 3, none⟩ = some (.int .u8 (x 3)) ∧ w3.cell? ⟨w.heap.size, 4, none⟩ = some (.int .u8 (x 4)) ∧ w3.cell? ⟨w.heap.size, 5, none⟩ = some (.int .u8 (x 5)) ∧ w3.cell? ⟨w.heap.size + 1, 0, none⟩ = some (.int .u8 (y 0)) ∧ w3.cell? ⟨w.heap.size + 1, 1, none⟩ = some (.int .u8 (y 1)) ∧ w3.cell? ⟨w.heap.size + 1, 2, none⟩ = some (.int .u8 (y 2)) ∧ w3.cell? ⟨w.heap.size + 1, 3, none⟩ = some (.int .u8 (y 3)) ∧ w3.cell? ⟨w.heap.size + 1, 4, none⟩ = some (.int .u8 (y 4)) ∧ w3.cell? ⟨w.heap.size + 1, 5, none⟩ = some (.int .u8 (y 5)) ∧ w3.cell? ⟨w.heap.size + 2, 0, none⟩ = some (.int .u8 (z 0)) ∧ w3.cell? ⟨w.heap.size + 2, 1, none⟩ = some (.int .u8 (z 1)) ∧ w3.cell? ⟨w.heap.size + 2, 2, none⟩ = some (.int .u8 (z 2)) ∧ w3.cell? ⟨w.heap.size + 2, 3, none⟩ = some (.int .u8 (z 3)) ∧ w3.cell? ⟨w.heap.size + 2, 4, none⟩ = some (.int .u8 (z 4)) ∧ w3.cell? ⟨w.heap.size + 2, 5, none⟩ = some (.int .u8 (z 5)) := ⟨hx3.c 0 (by omega), hx3.c 1 (by omega), hx3.c 2 (by omega), hx3.c 3 (by omega), hx3.c 4 (by omega), hx3.c 5 (by omega), hy3.c 0 (by omega), hy3.c 1 (by omega), hy3.c 2 (by omega), hy3.c 3 (by omega), hy3.c 4 (by omega), hy3.c 5 (by omega), hz3.c 0 (by omega), hz3.c 1 (by omega), hz3.c 2 (by omega), hz3.c 3 (by omega), hz3.c 4 (by omega), hz3.c 5 (by omega)⟩)
      | (go_at_call 14; (with_reducible refine (less_lit y x hy hx true hyx _).mono ?_); rintro e w4 ⟨rfl, k4⟩; have hx4 : HasA w4 _ x := HasA.below hx3 k4 hx3.lt; have hy4 : HasA w4 _ y := HasA.below hy3 k4 hy3.lt; have hz4 : HasA w4 _ z := HasA.below hz3 k4 hz3.lt; have S4 : w4.cell? ⟨w.heap.size, 0, none⟩ = some (.int .u8 (x 0)) ∧ w4.cell? ⟨w.heap.size, 1, none⟩ = some (.int .u8 (x 1)) ∧ w4.cell? ⟨w.heap.size, 2, none⟩ = some (.int .u8 (x 2)) ∧ w4.cell? ⟨w.heap.size, 3, none⟩ = some (.int .u8 (x 3)) ∧ w4.cell? ⟨w.heap.size, 4, none⟩ = some (.int .u8 (x 4)) ∧ w4.cell? ⟨w.heap.size, 5, none⟩ = some (.int .u8 (x 5)) ∧ w4.cell? ⟨w.heap.size + 1, 0, none⟩ = some (.int .u8 (y 0)) ∧ w4.cell? ⟨w.heap.size + 1, 1, none⟩ = some (.int .u8 (y 1)) ∧ w4.cell? ⟨w.heap.size + 1, 2, none⟩ = some (.int .u8 (y 2)) ∧ w4.cell? ⟨w.heap.size + 1, 3, none⟩ = some (.int .u8 (y 3)) ∧ w4.cell? ⟨w.heap.size + 1, 4, none⟩ = some (.int .u8 (y 4)) ∧ w4.cell? ⟨w.heap.size + 1, 5, none⟩ = some (.int .u8 (y 5)) ∧ w4.cell? ⟨w.heap.size + 2, 0, none⟩ = some (.int .u8 (z 0)) ∧ w4.cell? ⟨w.heap.size + 2, 1, none⟩ = some (.int .u8 (z 1)) ∧ w4.cell? ⟨w.heap.size + 2, 2, none⟩ = some (.int .u8 (z 2)) ∧ w4.cell? ⟨w.heap.size + 2, 3, none⟩ = some (.int .u8 (z 3)) ∧ w4.cell? ⟨w.heap.size + 2, 4, none⟩ = some (.int .u8 (z 4)) ∧ w4.cell? ⟨w.heap.size + 2, 5, none⟩ = some (.int .u8 (z 5)) := ⟨hx4.c 0 (by omega), hx4.c 1 (by omega), hx4.c 2 (by omega), hx4.c 3 (by omega), hx4.c 4 (by omega), hx4.c 5 (by omega), hy4.c 0 (by omega), hy4.c 1 (by omega), hy4.c 2 (by omega), hy4.c 3 (by omega), hy4.c 4 (by omega), hy4.c 5 (by omega), hz4.c 0 (by omega), hz4.c 1 (by omega), hz4.c 2 (by omega), hz4.c 3 (by omega), hz4.c 4 (by omega), hz4.c 5 (by omega)⟩))
  all_goals (
    go_wp2_with fail
    refine wp_region_noPanic ?_
    refine wp_region_held_drew (S := (fun w' => w'.cell? ⟨w.heap.size, 0, none⟩ = some (.int .u8 (x 0)) ∧ w'.cell? ⟨w.heap.size, 1, none⟩ = some (.int .u8 (x 1)) ∧ w'.cell? ⟨w.heap.size, 2, none⟩ = some (.int .u8 (x 2)) ∧ w'.cell? ⟨w.heap.size, 3, none⟩ = some (.int .u8 (x 3)) ∧ w'.cell? ⟨w.heap.size, 4, none⟩ = some (.int .u8 (x 4)) ∧ w'.cell? ⟨w.heap.size, 5, none⟩ = some (.int .u8 (x 5)) ∧ w'.cell? ⟨w.heap.size + 1, 0, none⟩ = some (.int .u8 (y 0)) ∧ w'.cell? ⟨w.heap.size + 1, 1, none⟩ = some (.int .u8 (y 1)) ∧ w'.cell? ⟨w.heap.size + 1, 2, none⟩ = some (.int .u8 (y 2)) ∧ w'.cell? ⟨w.heap.size + 1, 3, none⟩ = some (.int .u8 (y 3)) ∧ w'.cell? ⟨w.heap.size + 1, 4, none⟩ = some (.int .u8 (y 4)) ∧ w'.cell? ⟨w.heap.size + 1, 5, none⟩ = some (.int .u8 (y 5)) ∧ w'.cell? ⟨w.heap.size + 2, 0, none⟩ = some (.int .u8 (z 0)) ∧ w'.cell? ⟨w.heap.size + 2, 1, none⟩ = some (.int .u8 (z 1)) ∧ w'.cell? ⟨w.heap.size + 2, 2, none⟩ = some (.int .u8 (z 2)) ∧ w'.cell? ⟨w.heap.size + 2, 3, none⟩ = some (.int .u8 (z 3)) ∧ w'.cell? ⟨w.heap.size + 2, 4, none⟩ = some (.int .u8 (z 4)) ∧ w'.cell? ⟨w.heap.size + 2, 5, none⟩ = some (.int .u8 (z 5)))) (by kernel_rfl) ?_ (fun hHeld => ?_)
    · exact S4
    refine wpAnyH_take (i := 0) (v := ?_) rfl (by kernel_rfl) (by kernel_rfl) (by kernel_rfl) (fun _ _ _ h => h) (Or.inl ⟨by rfl, ?_⟩) (by assumption) ?_
    rotate_left
    · (intro w hSw; (try dsimp only at hSw); go_simp; (try with_reducible rfl))
    (try simp only [Act.put, List.getElem_toArray, List.getElem_cons_zero, List.getElem_cons_succ, List.setIfInBounds_toArray, List.set_cons_zero, List.set_cons_succ])
    refine wpAnyH_take (i := 1) (v := ?_) rfl (by kernel_rfl) (by kernel_rfl) (by kernel_rfl) (fun _ _ _ h => h) (Or.inl ⟨by rfl, ?_⟩) (by assumption) ?_
    rotate_left
    · (intro w hSw; (try dsimp only at hSw); go_simp; (try with_reducible rfl))
    (try simp only [Act.put, List.getElem_toArray, List.getElem_cons_zero, List.getElem_cons_succ, List.setIfInBounds_toArray, List.set_cons_zero, List.set_cons_succ])
    refine wpAnyH_take (i := 2) (v := ?_) rfl (by kernel_rfl) (by kernel_rfl) (by kernel_rfl) (fun _ _ _ h => h) (Or.inl ⟨by rfl, ?_⟩) (by assumption) ?_
    rotate_left
    · (intro w hSw; (try dsimp only at hSw); go_simp; (try with_reducible rfl))
    (try simp only [Act.put, List.getElem_toArray, List.getElem_cons_zero, List.getElem_cons_succ, List.setIfInBounds_toArray, List.set_cons_zero, List.set_cons_succ])
    refine wpAnyH_take (i := 3) (v := ?_) rfl (by kernel_rfl) (by kernel_rfl) (by kernel_rfl) (fun _ _ _ h => h) (Or.inl ⟨by rfl, ?_⟩) (by assumption) ?_
    rotate_left
    · (intro w hSw; (try dsimp only at hSw); go_simp; (try with_reducible rfl))
    (try simp only [Act.put, List.getElem_toArray, List.getElem_cons_zero, List.getElem_cons_succ, List.setIfInBounds_toArray, List.set_cons_zero, List.set_cons_succ])
    refine wpAnyH_take (i := 4) (v := ?_) rfl (by kernel_rfl) (by kernel_rfl) (by kernel_rfl) (fun _ _ _ h => h) (Or.inl ⟨by rfl, ?_⟩) (by assumption) ?_
    rotate_left
    · (intro w hSw; (try dsimp only at hSw); go_simp; (try with_reducible rfl))
    (try simp only [Act.put, List.getElem_toArray, List.getElem_cons_zero, List.getElem_cons_succ, List.setIfInBounds_toArray, List.set_cons_zero, List.set_cons_succ])
    refine wpAnyH_take (i := 5) (v := ?_) rfl (by kernel_rfl) (by kernel_rfl) (by kernel_rfl) (fun _ _ _ h => h) (Or.inl ⟨by rfl, ?_⟩) (by assumption) ?_
    rotate_left
    · (intro w hSw; (try dsimp only at hSw); go_simp; (try with_reducible rfl))
    (try simp only [Act.put, List.getElem_toArray, List.getElem_cons_zero, List.getElem_cons_succ, List.setIfInBounds_toArray, List.set_cons_zero, List.set_cons_succ])
    refine wpAnyH_take (i := 6) (v := ?_) rfl (by kernel_rfl) (by kernel_rfl) (by kernel_rfl) (fun _ _ _ h => h) (Or.inl ⟨by rfl, ?_⟩) (by assumption) ?_
    rotate_left
    · (intro w hSw; (try dsimp only at hSw); go_simp; (try with_reducible rfl))
    (try simp only [Act.put, List.getElem_toArray, List.getElem_cons_zero, List.getElem_cons_succ, List.setIfInBounds_toArray, List.set_cons_zero, List.set_cons_succ])
    refine wpAnyH_take (i := 7) (v := ?_) rfl (by kernel_rfl) (by kernel_rfl) (by kernel_rfl) (fun _ _ _ h => h) (Or.inl ⟨by rfl, ?_⟩) (by assumption) ?_
    rotate_left
    · (intro w hSw; (try dsimp only at hSw); go_simp; (try with_reducible rfl))
    (try simp only [Act.put, List.getElem_toArray, List.getElem_cons_zero, List.getElem_cons_succ, List.setIfInBounds_toArray, List.set_cons_zero, List.set_cons_succ])
    refine wpAnyH_take (i := 8) (v := ?_) rfl (by kernel_rfl) (by kernel_rfl) (by kernel_rfl) (fun _ _ _ h => h) (Or.inl ⟨by rfl, ?_⟩) (by assumption) ?_
    rotate_left
    · (intro w hSw; (try dsimp only at hSw); go_simp; (try with_reducible rfl))
    (try simp only [Act.put, List.getElem_toArray, List.getElem_cons_zero, List.getElem_cons_succ, List.setIfInBounds_toArray, List.set_cons_zero, List.set_cons_succ])
    refine wpAnyH_take (i := 9) (v := ?_) rfl (by kernel_rfl) (by kernel_rfl) (by kernel_rfl) (fun _ _ _ h => h) (Or.inl ⟨by rfl, ?_⟩) (by assumption) ?_
    rotate_left
    · (intro w hSw; (try dsimp only at hSw); go_simp; (try with_reducible rfl))
    (try simp only [Act.put, List.getElem_toArray, List.getElem_cons_zero, List.getElem_cons_succ, List.setIfInBounds_toArray, List.set_cons_zero, List.set_cons_succ])
    refine wpAnyH_take (i := 10) (v := undef) rfl (by kernel_rfl) (by kernel_rfl) (by kernel_rfl) (fun _ _ _ h => h) (Or.inr ⟨by rfl, rfl⟩) (by assumption) ?_
    (try simp only [Act.put, List.getElem_toArray, List.getElem_cons_zero, List.getElem_cons_succ, List.setIfInBounds_toArray, List.set_cons_zero, List.set_cons_succ])
    refine wpAnyH_take (i := 11) (v := ?_) rfl (by kernel_rfl) (by kernel_rfl) (by kernel_rfl) (fun _ _ _ h => h) (Or.inl ⟨by rfl, ?_⟩) (by assumption) ?_
    rotate_left
    · (intro w hSw; (try dsimp only at hSw); go_simp; (try with_reducible rfl))
    (try simp only [Act.put, List.getElem_toArray, List.getElem_cons_zero, List.getElem_cons_succ, List.setIfInBounds_toArray, List.set_cons_zero, List.set_cons_succ])
    refine wpAnyH_take (i := 12) (v := ?_) rfl (by kernel_rfl) (by kernel_rfl) (by kernel_rfl) (fun _ _ _ h => h) (Or.inl ⟨by rfl, ?_⟩) (by assumption) ?_
    rotate_left
    · (intro w hSw; (try dsimp only at hSw); go_simp; (try with_reducible rfl))
    (try simp only [Act.put, List.getElem_toArray, List.getElem_cons_zero, List.getElem_cons_succ, List.setIfInBounds_toArray, List.set_cons_zero, List.set_cons_succ])
    refine wpAnyH_take (i := 13) (v := ?_) rfl (by kernel_rfl) (by kernel_rfl) (by kernel_rfl) (fun _ _ _ h => h) (Or.inl ⟨by rfl, ?_⟩) (by assumption) ?_
    rotate_left
    · (intro w hSw; (try dsimp only at hSw); go_simp; (try with_reducible rfl))
    (try simp only [Act.put, List.getElem_toArray, List.getElem_cons_zero, List.getElem_cons_succ, List.setIfInBounds_toArray, List.set_cons_zero, List.set_cons_succ])
    refine wpAnyH_take (i := 14) (v := ?_) rfl (by kernel_rfl) (by kernel_rfl) (by kernel_rfl) (fun _ _ _ h => h) (Or.inl ⟨by rfl, ?_⟩) (by assumption) ?_
    rotate_left
    · (intro w hSw; (try dsimp only at hSw); go_simp; (try with_reducible rfl))
    (try simp only [Act.put, List.getElem_toArray, List.getElem_cons_zero, List.getElem_cons_succ, List.setIfInBounds_toArray, List.set_cons_zero, List.set_cons_succ])
    refine wpAnyH_take (i := 15) (v := ?_) rfl (by kernel_rfl) (by kernel_rfl) (by kernel_rfl) (fun _ _ _ h => h) (Or.inl ⟨by rfl, ?_⟩) (by assumption) ?_
    rotate_left
    · (intro w hSw; (try dsimp only at hSw); go_simp; (try with_reducible rfl))
    (try simp only [Act.put, List.getElem_toArray, List.getElem_cons_zero, List.getElem_cons_succ, List.setIfInBounds_toArray, List.set_cons_zero, List.set_cons_succ])
    refine wpAnyH_take (i := 16) (v := ?_) rfl (by kernel_rfl) (by kernel_rfl) (by kernel_rfl) (fun _ _ _ h => h) (Or.inl ⟨by rfl, ?_⟩) (by assumption) ?_
    rotate_left
    · (intro w hSw; (try dsimp only at hSw); go_simp; (try with_reducible rfl))
    (try simp only [Act.put, List.getElem_toArray, List.getElem_cons_zero, List.getElem_cons_succ, List.setIfInBounds_toArray, List.set_cons_zero, List.set_cons_succ])
    refine wpAnyH_take (i := 17) (v := ?_) rfl (by kernel_rfl) (by kernel_rfl) (by kernel_rfl) (fun _ _ _ h => h) (Or.inl ⟨by rfl, ?_⟩) (by assumption) ?_
    rotate_left
    · (intro w hSw; (try dsimp only at hSw); go_simp; (try with_reducible rfl))
    (try simp only [Act.put, List.getElem_toArray, List.getElem_cons_zero, List.getElem_cons_succ, List.setIfInBounds_toArray, List.set_cons_zero, List.set_cons_succ])
    refine wpAnyH_take (i := 18) (v := undef) rfl (by kernel_rfl) (by kernel_rfl) (by kernel_rfl) (fun _ _ _ h => h) (Or.inr ⟨by rfl, rfl⟩) (by assumption) ?_
    (try simp only [Act.put, List.getElem_toArray, List.getElem_cons_zero, List.getElem_cons_succ, List.setIfInBounds_toArray, List.set_cons_zero, List.set_cons_succ])
    refine wpAnyH_take (i := 19) (v := undef) rfl (by kernel_rfl) (by kernel_rfl) (by kernel_rfl) (fun _ _ _ h => h) (Or.inr ⟨by rfl, rfl⟩) (by assumption) ?_
    (try simp only [Act.put, List.getElem_toArray, List.getElem_cons_zero, List.getElem_cons_succ, List.setIfInBounds_toArray, List.set_cons_zero, List.set_cons_succ])
    refine wpAnyH_take (i := 20) (v := undef) rfl (by kernel_rfl) (by kernel_rfl) (by kernel_rfl) (fun _ _ _ h => h) (Or.inr ⟨by rfl, rfl⟩) (by assumption) ?_
    (try simp only [Act.put, List.getElem_toArray, List.getElem_cons_zero, List.getElem_cons_succ, List.setIfInBounds_toArray, List.set_cons_zero, List.set_cons_succ])
    refine wpAnyH_take (i := 21) (v := undef) rfl (by kernel_rfl) (by kernel_rfl) (by kernel_rfl) (fun _ _ _ h => h) (Or.inr ⟨by rfl, rfl⟩) (by assumption) ?_
    (try simp only [Act.put, List.getElem_toArray, List.getElem_cons_zero, List.getElem_cons_succ, List.setIfInBounds_toArray, List.set_cons_zero, List.set_cons_succ])
    refine wpAnyH_take (i := 22) (v := ?_) rfl (by kernel_rfl) (by kernel_rfl) (by kernel_rfl) (fun _ _ _ h => h) (Or.inl ⟨by rfl, ?_⟩) (by assumption) ?_
    rotate_left
    · (intro w hSw; (try dsimp only at hSw); go_simp; (try with_reducible rfl))
    (try simp only [Act.put, List.getElem_toArray, List.getElem_cons_zero, List.getElem_cons_succ, List.setIfInBounds_toArray, List.set_cons_zero, List.set_cons_succ])
    refine wpAnyH_take (i := 23) (v := ?_) rfl (by kernel_rfl) (by kernel_rfl) (by kernel_rfl) (fun _ _ _ h => h) (Or.inl ⟨by rfl, ?_⟩) (by assumption) ?_
    rotate_left
    · (intro w hSw; (try dsimp only at hSw); go_simp; (try with_reducible rfl))
    (try simp only [Act.put, List.getElem_toArray, List.getElem_cons_zero, List.getElem_cons_succ, List.setIfInBounds_toArray, List.set_cons_zero, List.set_cons_succ])
    refine wpAnyH_take (i := 24) (v := undef) rfl (by kernel_rfl) (by kernel_rfl) (by kernel_rfl) (fun _ _ _ h => h) (Or.inr ⟨by rfl, rfl⟩) (by assumption) ?_
    (try simp only [Act.put, List.getElem_toArray, List.getElem_cons_zero, List.getElem_cons_succ, List.setIfInBounds_toArray, List.set_cons_zero, List.set_cons_succ])
    refine wpAnyH_take (i := 25) (v := undef) rfl (by kernel_rfl) (by kernel_rfl) (by kernel_rfl) (fun _ _ _ h => h) (Or.inr ⟨by rfl, rfl⟩) (by assumption) ?_
    (try simp only [Act.put, List.getElem_toArray, List.getElem_cons_zero, List.getElem_cons_succ, List.setIfInBounds_toArray, List.set_cons_zero, List.set_cons_succ])
    refine wpAnyH_take (i := 26) (v := undef) rfl (by kernel_rfl) (by kernel_rfl) (by kernel_rfl) (fun _ _ _ h => h) (Or.inr ⟨by rfl, rfl⟩) (by assumption) ?_
    (try simp only [Act.put, List.getElem_toArray, List.getElem_cons_zero, List.getElem_cons_succ, List.setIfInBounds_toArray, List.set_cons_zero, List.set_cons_succ])
    refine wpAnyH_take (i := 27) (v := ?_) rfl (by kernel_rfl) (by kernel_rfl) (by kernel_rfl) (fun _ _ _ h => h) (Or.inl ⟨by rfl, ?_⟩) (by assumption) ?_
    rotate_left
    · (intro w hSw; (try dsimp only at hSw); go_simp; (try with_reducible rfl))
    (try simp only [Act.put, List.getElem_toArray, List.getElem_cons_zero, List.getElem_cons_succ, List.setIfInBounds_toArray, List.set_cons_zero, List.set_cons_succ])
    refine wpAnyH_take (i := 28) (v := ?_) rfl (by kernel_rfl) (by kernel_rfl) (by kernel_rfl) (fun _ _ _ h => h) (Or.inl ⟨by rfl, ?_⟩) (by assumption) ?_
    rotate_left
    · (intro w hSw; (try dsimp only at hSw); go_simp; (try with_reducible rfl))
    (try simp only [Act.put, List.getElem_toArray, List.getElem_cons_zero, List.getElem_cons_succ, List.setIfInBounds_toArray, List.set_cons_zero, List.set_cons_succ])
    refine wpAnyH_take (i := 29) (v := ?_) rfl (by kernel_rfl) (by kernel_rfl) (by kernel_rfl) (fun _ _ _ h => h) (Or.inl ⟨by rfl, ?_⟩) (by assumption) ?_
    rotate_left
    · (intro w hSw; (try dsimp only at hSw); go_simp; (try with_reducible rfl))
    (try simp only [Act.put, List.getElem_toArray, List.getElem_cons_zero, List.getElem_cons_succ, List.setIfInBounds_toArray, List.set_cons_zero, List.set_cons_succ])
    refine wpAnyH_take (i := 30) (v := ?_) rfl (by kernel_rfl) (by kernel_rfl) (by kernel_rfl) (fun _ _ _ h => h) (Or.inl ⟨by rfl, ?_⟩) (by assumption) ?_
    rotate_left
    · (intro w hSw; (try dsimp only at hSw); go_simp; (try with_reducible rfl))
    (try simp only [Act.put, List.getElem_toArray, List.getElem_cons_zero, List.getElem_cons_succ, List.setIfInBounds_toArray, List.set_cons_zero, List.set_cons_succ])
    refine wpAnyH_take (i := 31) (v := ?_) rfl (by kernel_rfl) (by kernel_rfl) (by kernel_rfl) (fun _ _ _ h => h) (Or.inl ⟨by rfl, ?_⟩) (by assumption) ?_
    rotate_left
    · (intro w hSw; (try dsimp only at hSw); go_simp; (try with_reducible rfl))
    (try simp only [Act.put, List.getElem_toArray, List.getElem_cons_zero, List.getElem_cons_succ, List.setIfInBounds_toArray, List.set_cons_zero, List.set_cons_succ])
    refine wpAnyH_take (i := 33) (v := ?_) rfl (by kernel_rfl) (by kernel_rfl) (by kernel_rfl) (fun _ _ _ h => h) (Or.inl ⟨by rfl, ?_⟩) (by assumption) ?_
    rotate_left
    · (intro w hSw; (try dsimp only at hSw); go_simp; (try with_reducible rfl))
    (try simp only [Act.put, List.getElem_toArray, List.getElem_cons_zero, List.getElem_cons_succ, List.setIfInBounds_toArray, List.set_cons_zero, List.set_cons_succ])
    refine wpAnyH_ready (rs := [32]) (by kernel_rfl) (by simp) ?_
    refine AllReadyH.cons rfl (fun K hK => ?_) AllReadyH.nil
    simp only [List.getElem_toArray, List.getElem_cons_zero, List.getElem_cons_succ]
    go_simp
    (go_at_call 9; (with_reducible refine (text_lit x hx _).mono ?_); rintro e w5 ⟨rfl, k5⟩; have hx5 : HasA w5 _ x := HasA.below hx4.drew k5 hx4.lt; have hy5 : HasA w5 _ y := HasA.below hy4.drew k5 hy4.lt; have hz5 : HasA w5 _ z := HasA.below hz4.drew k5 hz4.lt; have S5 : w5.cell? ⟨w.heap.size, 0, none⟩ = some (.int .u8 (x 0)) ∧ w5.cell? ⟨w.heap.size, 1, none⟩ = some (.int .u8 (x 1)) ∧ w5.cell? ⟨w.heap.size, 2, none⟩ = some (.int .u8 (x 2)) ∧ w5.cell? ⟨w.heap.size, 3, none⟩ = some (.int .u8 (x 3)) ∧ w5.cell? ⟨w.heap.size, 4, none⟩ = some (.int .u8 (x 4)) ∧ w5.cell? ⟨w.heap.size, 5, none⟩ = some (.int .u8 (x 5)) ∧ w5.cell? ⟨w.heap.size + 1, 0, none⟩ = some (.int .u8 (y 0)) ∧ w5.cell? ⟨w.heap.size + 1, 1, none⟩ = some (.int .u8 (y 1)) ∧ w5.cell? ⟨w.heap.size + 1, 2, none⟩ = some (.int .u8 (y 2)) ∧ w5.cell? ⟨w.heap.size + 1, 3, none⟩ = some (.int .u8 (y 3)) ∧ w5.cell? ⟨w.heap.size + 1, 4, none⟩ = some (.int .u8 (y 4)) ∧ w5.cell? ⟨w.heap.size + 1, 5, none⟩ = some (.int .u8 (y 5)) ∧ w5.cell? ⟨w.heap.size + 2, 0, none⟩ = some (.int .u8 (z 0)) ∧ w5.cell? ⟨w.heap.size + 2, 1, none⟩ = some (.int .u8 (z 1)) ∧ w5.cell? ⟨w.heap.size + 2, 2, none⟩ = some (.int .u8 (z 2)) ∧ w5.cell? ⟨w.heap.size + 2, 3, none⟩ = some (.int .u8 (z 3)) ∧ w5.cell? ⟨w.heap.size + 2, 4, none⟩ = some (.int .u8 (z 4)) ∧ w5.cell? ⟨w.heap.size + 2, 5, none⟩ = some (.int .u8 (z 5)) := ⟨hx5.c 0 (by omega), hx5.c 1 (by omega), hx5.c 2 (by omega), hx5.c 3 (by omega), hx5.c 4 (by omega), hx5.c 5 (by omega), hy5.c 0 (by omega), hy5.c 1 (by omega), hy5.c 2 (by omega), hy5.c 3 (by omega), hy5.c 4 (by omega), hy5.c 5 (by omega), hz5.c 0 (by omega), hz5.c 1 (by omega), hz5.c 2 (by omega), hz5.c 3 (by omega), hz5.c 4 (by omega), hz5.c 5 (by omega)⟩)
    refine hK.out _ _ ?_ (fun hHeld => ?_)
    · exact S5
    clear hK K
    (try simp only [Act.put, List.getElem_toArray, List.getElem_cons_zero, List.getElem_cons_succ, List.setIfInBounds_toArray, List.set_cons_zero, List.set_cons_succ])
    refine wpAnyH_ready (rs := [34]) (by kernel_rfl) (by simp) ?_
    refine AllReadyH.cons rfl (fun K hK => ?_) AllReadyH.nil
    simp only [List.getElem_toArray, List.getElem_cons_zero, List.getElem_cons_succ]
    go_simp
    (go_at_call 9; (with_reducible refine (text_lit y hy _).mono ?_); rintro e w6 ⟨rfl, k6⟩; have hx6 : HasA w6 _ x := HasA.below hx5 k6 hx5.lt; have hy6 : HasA w6 _ y := HasA.below hy5 k6 hy5.lt; have hz6 : HasA w6 _ z := HasA.below hz5 k6 hz5.lt; have S6 : w6.cell? ⟨w.heap.size, 0, none⟩ = some (.int .u8 (x 0)) ∧ w6.cell? ⟨w.heap.size, 1, none⟩ = some (.int .u8 (x 1)) ∧ w6.cell? ⟨w.heap.size, 2, none⟩ = some (.int .u8 (x 2)) ∧ w6.cell? ⟨w.heap.size, 3, none⟩ = some (.int .u8 (x 3)) ∧ w6.cell? ⟨w.heap.size, 4, none⟩ = some (.int .u8 (x 4)) ∧ w6.cell? ⟨w.heap.size, 5, none⟩ = some (.int .u8 (x 5)) ∧ w6.cell? ⟨w.heap.size + 1, 0, none⟩ = some (.int .u8 (y 0)) ∧ w6.cell? ⟨w.heap.size + 1, 1, none⟩ = some (.int .u8 (y 1)) ∧ w6.cell? ⟨w.heap.size + 1, 2, none⟩ = some (.int .u8 (y 2)) ∧ w6.cell? ⟨w.heap.size + 1, 3, none⟩ = some (.int .u8 (y 3)) ∧ w6.cell? ⟨w.heap.size + 1, 4, none⟩ = some (.int .u8 (y 4)) ∧ w6.cell? ⟨w.heap.size + 1, 5, none⟩ = some (.int .u8 (y 5)) ∧ w6.cell? ⟨w.heap.size + 2, 0, none⟩ = some (.int .u8 (z 0)) ∧ w6.cell? ⟨w.heap.size + 2, 1, none⟩ = some (.int .u8 (z 1)) ∧ w6.cell? ⟨w.heap.size + 2, 2, none⟩ = some (.int .u8 (z 2)) ∧ w6.cell? ⟨w.heap.size + 2, 3, none⟩ = some (.int .u8 (z 3)) ∧ w6.cell? ⟨w.heap.size + 2, 4, none⟩ = some (.int .u8 (z 4)) ∧ w6.cell? ⟨w.heap.size + 2, 5, none⟩ = some (.int .u8 (z 5)) := ⟨hx6.c 0 (by omega), hx6.c 1 (by omega), hx6.c 2 (by omega), hx6.c 3 (by omega), hx6.c 4 (by omega), hx6.c 5 (by omega), hy6.c 0 (by omega), hy6.c 1 (by omega), hy6.c 2 (by omega), hy6.c 3 (by omega), hy6.c 4 (by omega), hy6.c 5 (by omega), hz6.c 0 (by omega), hz6.c 1 (by omega), hz6.c 2 (by omega), hz6.c 3 (by omega), hz6.c 4 (by omega), hz6.c 5 (by omega)⟩)
    refine hK.out _ _ ?_ (fun hHeld => ?_)
    · exact S6
    clear hK K
    (try simp only [Act.put, List.getElem_toArray, List.getElem_cons_zero, List.getElem_cons_succ, List.setIfInBounds_toArray, List.set_cons_zero, List.set_cons_succ])
    refine wpAnyH_take (i := 35) (v := ?_) rfl (by kernel_rfl) (by kernel_rfl) (by kernel_rfl) (fun _ _ _ h => h) (Or.inl ⟨by rfl, ?_⟩) (by assumption) ?_
    rotate_left
    · (intro w hSw; (try dsimp only at hSw); go_simp; (try with_reducible rfl))
    (try simp only [Act.put, List.getElem_toArray, List.getElem_cons_zero, List.getElem_cons_succ, List.setIfInBounds_toArray, List.set_cons_zero, List.set_cons_succ])
    refine wpAnyH_take (i := 36) (v := ?_) rfl (by kernel_rfl) (by kernel_rfl) (by kernel_rfl) (fun _ _ _ h => h) (Or.inl ⟨by rfl, ?_⟩) (by assumption) ?_
    rotate_left
    · (intro w hSw; (try dsimp only at hSw); go_simp; (try with_reducible rfl))
    (try simp only [Act.put, List.getElem_toArray, List.getElem_cons_zero, List.getElem_cons_succ, List.setIfInBounds_toArray, List.set_cons_zero, List.set_cons_succ])
    refine wpAnyH_take (i := 37) (v := ?_) rfl (by kernel_rfl) (by kernel_rfl) (by kernel_rfl) (fun _ _ _ h => h) (Or.inl ⟨by rfl, ?_⟩) (by assumption) ?_
    rotate_left
    · (intro w hSw; (try dsimp only at hSw); go_simp; (try with_reducible rfl))
    (try simp only [Act.put, List.getElem_toArray, List.getElem_cons_zero, List.getElem_cons_succ, List.setIfInBounds_toArray, List.set_cons_zero, List.set_cons_succ])
    refine wpAnyH_take (i := 38) (v := ?_) rfl (by kernel_rfl) (by kernel_rfl) (by kernel_rfl) (fun _ _ _ h => h) (Or.inl ⟨by rfl, ?_⟩) (by assumption) ?_
    rotate_left
    · (intro w hSw; (try dsimp only at hSw); go_simp; (try with_reducible rfl))
    (try simp only [Act.put, List.getElem_toArray, List.getElem_cons_zero, List.getElem_cons_succ, List.setIfInBounds_toArray, List.set_cons_zero, List.set_cons_succ])
    refine wpAnyH_done (by kernel_rfl) ?_ _
    refine NoPanic.normal ?_
    go_wp2
    go_ret
    exact ⟨rfl, below_then (below_then (below_then (below_then (hb2.drew) k3) k4.drew) k5) k6⟩)

set_option linter.unusedSimpArgs false in
set_option maxHeartbeats 1600000 in
theorem walk_less (x y z : Nat → Nat) (hx : ∀ i, x i < 256) (hy : ∀ i, y i < 256) (hz : ∀ i, z i < 256) (hxy : Op.bytesLess (addrL x) (addrL y) = true) (hyx : Op.bytesLess (addrL y) (addrL x) = false) (hs : decide (six x = six y) = false) (hyz : Op.bytesLess (addrL y) (addrL z) = false) (w : World) :
    Calls Try.prog 5 #[addrV x, addrV y, addrV z] w fun e w' => e = .returned (.bool true) ∧ Below w.heap.size w w' := by
  have hx1 : HasA (((w.alloc (.cells #[.int .u8 (x 0), .int .u8 (x 1), .int .u8 (x 2), .int .u8 (x 3), .int .u8 (x 4), .int .u8 (x 5)] 23)).alloc (.cells #[.int .u8 (y 0), .int .u8 (y 1), .int .u8 (y 2), .int .u8 (y 3), .int .u8 (y 4), .int .u8 (y 5)] 23)).alloc (.cells #[.int .u8 (z 0), .int .u8 (z 1), .int .u8 (z 2), .int .u8 (z 3), .int .u8 (z 4), .int .u8 (z 5)] 23)) w.heap.size x := (heap_alloc_old _ _ (by simp; omega)).trans (heap_alloc2_old w _ _)
  have hy1 : HasA (((w.alloc (.cells #[.int .u8 (x 0), .int .u8 (x 1), .int .u8 (x 2), .int .u8 (x 3), .int .u8 (x 4), .int .u8 (x 5)] 23)).alloc (.cells #[.int .u8 (y 0), .int .u8 (y 1), .int .u8 (y 2), .int .u8 (y 3), .int .u8 (y 4), .int .u8 (y 5)] 23)).alloc (.cells #[.int .u8 (z 0), .int .u8 (z 1), .int .u8 (z 2), .int .u8 (z 3), .int .u8 (z 4), .int .u8 (z 5)] 23)) (w.heap.size + 1) y := (heap_alloc_old _ _ (by simp)).trans (heap_alloc2_new w _ _)
  have hz1 : HasA (((w.alloc (.cells #[.int .u8 (x 0), .int .u8 (x 1), .int .u8 (x 2), .int .u8 (x 3), .int .u8 (x 4), .int .u8 (x 5)] 23)).alloc (.cells #[.int .u8 (y 0), .int .u8 (y 1), .int .u8 (y 2), .int .u8 (y 3), .int .u8 (y 4), .int .u8 (y 5)] 23)).alloc (.cells #[.int .u8 (z 0), .int .u8 (z 1), .int .u8 (z 2), .int .u8 (z 3), .int .u8 (z 4), .int .u8 (z 5)] 23)) (w.heap.size + 2) z := by have q := heap_alloc_new ((w.alloc (.cells #[.int .u8 (x 0), .int .u8 (x 1), .int .u8 (x 2), .int .u8 (x 3), .int .u8 (x 4), .int .u8 (x 5)] 23)).alloc (.cells #[.int .u8 (y 0), .int .u8 (y 1), .int .u8 (y 2), .int .u8 (y 3), .int .u8 (y 4), .int .u8 (y 5)] 23)) (.cells #[.int .u8 (z 0), .int .u8 (z 1), .int .u8 (z 2), .int .u8 (z 3), .int .u8 (z 4), .int .u8 (z 5)] 23); rw [show ((w.alloc (.cells #[.int .u8 (x 0), .int .u8 (x 1), .int .u8 (x 2), .int .u8 (x 3), .int .u8 (x 4), .int .u8 (x 5)] 23)).alloc (.cells #[.int .u8 (y 0), .int .u8 (y 1), .int .u8 (y 2), .int .u8 (y 3), .int .u8 (y 4), .int .u8 (y 5)] 23)).heap.size = w.heap.size + 2 by simp] at q; exact q
  have hb1 : Below w.heap.size w (((w.alloc (.cells #[.int .u8 (x 0), .int .u8 (x 1), .int .u8 (x 2), .int .u8 (x 3), .int .u8 (x 4), .int .u8 (x 5)] 23)).alloc (.cells #[.int .u8 (y 0), .int .u8 (y 1), .int .u8 (y 2), .int .u8 (y 3), .int .u8 (y 4), .int .u8 (y 5)] 23)).alloc (.cells #[.int .u8 (z 0), .int .u8 (z 1), .int .u8 (z 2), .int .u8 (z 3), .int .u8 (z 4), .int .u8 (z 5)] 23)) := (((Below.refl _ _).alloc (Nat.le_refl _) _).alloc (by simp) _).alloc (by simp; omega) _
  have hq : ∀ W, (Op.equalIn 10000 23 (.agg #[.int .u8 (x 0), .int .u8 (x 1), .int .u8 (x 2), .int .u8 (x 3), .int .u8 (x 4), .int .u8 (x 5)]) (.agg #[.int .u8 (y 0), .int .u8 (y 1), .int .u8 (y 2), .int .u8 (y 3), .int .u8 (y 4), .int .u8 (y 5)])).run Try.prog W = .ok false W := fun W => by
    have h := run_eql_addr x y hx hy W
    rw [hs] at h
    exact h
  clear hs
  unfold addrV
  go_enter Try.func5, Try.ntmps5
  go_wp2_with fail
  refine (addressed_any _).mono ?_
  rintro e w2 ⟨rfl, k2⟩
  have hb2 := below_then hb1 k2
  have hx2 : HasA w2 _ x := hx1.below k2 hx1.lt
  have hy2 : HasA w2 _ y := hy1.below k2 hy1.lt
  have hz2 : HasA w2 _ z := hz1.below k2 hz1.lt
  clear hb1 hx1 hy1 hz1 k2
  have S2 : w2.cell? ⟨w.heap.size, 0, none⟩ = some (.int .u8 (x 0)) ∧ w2.cell? ⟨w.heap.size, 1, none⟩ = some (.int .u8 (x 1)) ∧ w2.cell? ⟨w.heap.size, 2, none⟩ = some (.int .u8 (x 2)) ∧ w2.cell? ⟨w.heap.size, 3, none⟩ = some (.int .u8 (x 3)) ∧ w2.cell? ⟨w.heap.size, 4, none⟩ = some (.int .u8 (x 4)) ∧ w2.cell? ⟨w.heap.size, 5, none⟩ = some (.int .u8 (x 5)) ∧ w2.cell? ⟨w.heap.size + 1, 0, none⟩ = some (.int .u8 (y 0)) ∧ w2.cell? ⟨w.heap.size + 1, 1, none⟩ = some (.int .u8 (y 1)) ∧ w2.cell? ⟨w.heap.size + 1, 2, none⟩ = some (.int .u8 (y 2)) ∧ w2.cell? ⟨w.heap.size + 1, 3, none⟩ = some (.int .u8 (y 3)) ∧ w2.cell? ⟨w.heap.size + 1, 4, none⟩ = some (.int .u8 (y 4)) ∧ w2.cell? ⟨w.heap.size + 1, 5, none⟩ = some (.int .u8 (y 5)) ∧ w2.cell? ⟨w.heap.size + 2, 0, none⟩ = some (.int .u8 (z 0)) ∧ w2.cell? ⟨w.heap.size + 2, 1, none⟩ = some (.int .u8 (z 1)) ∧ w2.cell? ⟨w.heap.size + 2, 2, none⟩ = some (.int .u8 (z 2)) ∧ w2.cell? ⟨w.heap.size + 2, 3, none⟩ = some (.int .u8 (z 3)) ∧ w2.cell? ⟨w.heap.size + 2, 4, none⟩ = some (.int .u8 (z 4)) ∧ w2.cell? ⟨w.heap.size + 2, 5, none⟩ = some (.int .u8 (z 5)) := ⟨hx2.c 0 (by omega), hx2.c 1 (by omega), hx2.c 2 (by omega), hx2.c 3 (by omega), hx2.c 4 (by omega), hx2.c 5 (by omega), hy2.c 0 (by omega), hy2.c 1 (by omega), hy2.c 2 (by omega), hy2.c 3 (by omega), hy2.c 4 (by omega), hy2.c 5 (by omega), hz2.c 0 (by omega), hz2.c 1 (by omega), hz2.c 2 (by omega), hz2.c 3 (by omega), hz2.c 4 (by omega), hz2.c 5 (by omega)⟩
  go_wp2
  go_region_held3 (fun w' => w'.cell? ⟨w.heap.size, 0, none⟩ = some (.int .u8 (x 0)) ∧ w'.cell? ⟨w.heap.size, 1, none⟩ = some (.int .u8 (x 1)) ∧ w'.cell? ⟨w.heap.size, 2, none⟩ = some (.int .u8 (x 2)) ∧ w'.cell? ⟨w.heap.size, 3, none⟩ = some (.int .u8 (x 3)) ∧ w'.cell? ⟨w.heap.size, 4, none⟩ = some (.int .u8 (x 4)) ∧ w'.cell? ⟨w.heap.size, 5, none⟩ = some (.int .u8 (x 5)) ∧ w'.cell? ⟨w.heap.size + 1, 0, none⟩ = some (.int .u8 (y 0)) ∧ w'.cell? ⟨w.heap.size + 1, 1, none⟩ = some (.int .u8 (y 1)) ∧ w'.cell? ⟨w.heap.size + 1, 2, none⟩ = some (.int .u8 (y 2)) ∧ w'.cell? ⟨w.heap.size + 1, 3, none⟩ = some (.int .u8 (y 3)) ∧ w'.cell? ⟨w.heap.size + 1, 4, none⟩ = some (.int .u8 (y 4)) ∧ w'.cell? ⟨w.heap.size + 1, 5, none⟩ = some (.int .u8 (y 5)) ∧ w'.cell? ⟨w.heap.size + 2, 0, none⟩ = some (.int .u8 (z 0)) ∧ w'.cell? ⟨w.heap.size + 2, 1, none⟩ = some (.int .u8 (z 1)) ∧ w'.cell? ⟨w.heap.size + 2, 2, none⟩ = some (.int .u8 (z 2)) ∧ w'.cell? ⟨w.heap.size + 2, 3, none⟩ = some (.int .u8 (z 3)) ∧ w'.cell? ⟨w.heap.size + 2, 4, none⟩ = some (.int .u8 (z 4)) ∧ w'.cell? ⟨w.heap.size + 2, 5, none⟩ = some (.int .u8 (z 5)))
    (first
      | exact S4
      | exact S3
      | exact S2)
    (first
      | (go_at_call 14; (with_reducible refine (less_lit x y hx hy true hxy _).mono ?_); rintro e w3 ⟨rfl, k3⟩; have hx3 : HasA w3 _ x := HasA.below hx2.drew k3 hx2.lt; have hy3 : HasA w3 _ y := HasA.below hy2.drew k3 hy2.lt; have hz3 : HasA w3 _ z := HasA.below hz2.drew k3 hz2.lt; have S3 : w3.cell? ⟨w.heap.size, 0, none⟩ = some (.int .u8 (x 0)) ∧ w3.cell? ⟨w.heap.size, 1, none⟩ = some (.int .u8 (x 1)) ∧ w3.cell? ⟨w.heap.size, 2, none⟩ = some (.int .u8 (x 2)) ∧ w3.cell? ⟨w.heap.size, 3, none⟩ = some (.int .u8 (x 3)) ∧ w3.cell? ⟨w.heap.size, 4, none⟩ = some (.int .u8 (x 4)) ∧ w3.cell? ⟨w.heap.size, 5, none⟩ = some (.int .u8 (x 5)) ∧ w3.cell? ⟨w.heap.size + 1, 0, none⟩ = some (.int .u8 (y 0)) ∧ w3.cell? ⟨w.heap.size + 1, 1, none⟩ = some (.int .u8 (y 1)) ∧ w3.cell? ⟨w.heap.size + 1, 2, none⟩ = some (.int .u8 (y 2)) ∧ w3.cell? ⟨w.heap.size + 1, 3, none⟩ = some (.int .u8 (y 3)) ∧ w3.cell? ⟨w.heap.size + 1, 4, none⟩ = some (.int .u8 (y 4)) ∧ w3.cell? ⟨w.heap.size + 1, 5, none⟩ = some (.int .u8 (y 5)) ∧ w3.cell? ⟨w.heap.size + 2, 0, none⟩ = some (.int .u8 (z 0)) ∧ w3.cell? ⟨w.heap.size + 2, 1, none⟩ = some (.int .u8 (z 1)) ∧ w3.cell? ⟨w.heap.size + 2, 2, none⟩ = some (.int .u8 (z 2)) ∧ w3.cell? ⟨w.heap.size + 2, 3, none⟩ = some (.int .u8 (z 3)) ∧ w3.cell? ⟨w.heap.size + 2, 4, none⟩ = some (.int .u8 (z 4)) ∧ w3.cell? ⟨w.heap.size + 2, 5, none⟩ = some (.int .u8 (z 5)) := ⟨hx3.c 0 (by omega), hx3.c 1 (by omega), hx3.c 2 (by omega), hx3.c 3 (by omega), hx3.c 4 (by omega), hx3.c 5 (by omega), hy3.c 0 (by omega), hy3.c 1 (by omega), hy3.c 2 (by omega), hy3.c 3 (by omega), hy3.c 4 (by omega), hy3.c 5 (by omega), hz3.c 0 (by omega), hz3.c 1 (by omega), hz3.c 2 (by omega), hz3.c 3 (by omega), hz3.c 4 (by omega), hz3.c 5 (by omega)⟩)
      | (go_at_call 14; (with_reducible refine (less_lit y x hy hx false hyx _).mono ?_); rintro e w4 ⟨rfl, k4⟩; have hx4 : HasA w4 _ x := HasA.below hx3 k4 hx3.lt; have hy4 : HasA w4 _ y := HasA.below hy3 k4 hy3.lt; have hz4 : HasA w4 _ z := HasA.below hz3 k4 hz3.lt; have S4 : w4.cell? ⟨w.heap.size, 0, none⟩ = some (.int .u8 (x 0)) ∧ w4.cell? ⟨w.heap.size, 1, none⟩ = some (.int .u8 (x 1)) ∧ w4.cell? ⟨w.heap.size, 2, none⟩ = some (.int .u8 (x 2)) ∧ w4.cell? ⟨w.heap.size, 3, none⟩ = some (.int .u8 (x 3)) ∧ w4.cell? ⟨w.heap.size, 4, none⟩ = some (.int .u8 (x 4)) ∧ w4.cell? ⟨w.heap.size, 5, none⟩ = some (.int .u8 (x 5)) ∧ w4.cell? ⟨w.heap.size + 1, 0, none⟩ = some (.int .u8 (y 0)) ∧ w4.cell? ⟨w.heap.size + 1, 1, none⟩ = some (.int .u8 (y 1)) ∧ w4.cell? ⟨w.heap.size + 1, 2, none⟩ = some (.int .u8 (y 2)) ∧ w4.cell? ⟨w.heap.size + 1, 3, none⟩ = some (.int .u8 (y 3)) ∧ w4.cell? ⟨w.heap.size + 1, 4, none⟩ = some (.int .u8 (y 4)) ∧ w4.cell? ⟨w.heap.size + 1, 5, none⟩ = some (.int .u8 (y 5)) ∧ w4.cell? ⟨w.heap.size + 2, 0, none⟩ = some (.int .u8 (z 0)) ∧ w4.cell? ⟨w.heap.size + 2, 1, none⟩ = some (.int .u8 (z 1)) ∧ w4.cell? ⟨w.heap.size + 2, 2, none⟩ = some (.int .u8 (z 2)) ∧ w4.cell? ⟨w.heap.size + 2, 3, none⟩ = some (.int .u8 (z 3)) ∧ w4.cell? ⟨w.heap.size + 2, 4, none⟩ = some (.int .u8 (z 4)) ∧ w4.cell? ⟨w.heap.size + 2, 5, none⟩ = some (.int .u8 (z 5)) := ⟨hx4.c 0 (by omega), hx4.c 1 (by omega), hx4.c 2 (by omega), hx4.c 3 (by omega), hx4.c 4 (by omega), hx4.c 5 (by omega), hy4.c 0 (by omega), hy4.c 1 (by omega), hy4.c 2 (by omega), hy4.c 3 (by omega), hy4.c 4 (by omega), hy4.c 5 (by omega), hz4.c 0 (by omega), hz4.c 1 (by omega), hz4.c 2 (by omega), hz4.c 3 (by omega), hz4.c 4 (by omega), hz4.c 5 (by omega)⟩))
  all_goals (
    go_wp2_with fail
    refine wp_region_noPanic ?_
    refine wp_region_held_drew (S := (fun w' => w'.cell? ⟨w.heap.size, 0, none⟩ = some (.int .u8 (x 0)) ∧ w'.cell? ⟨w.heap.size, 1, none⟩ = some (.int .u8 (x 1)) ∧ w'.cell? ⟨w.heap.size, 2, none⟩ = some (.int .u8 (x 2)) ∧ w'.cell? ⟨w.heap.size, 3, none⟩ = some (.int .u8 (x 3)) ∧ w'.cell? ⟨w.heap.size, 4, none⟩ = some (.int .u8 (x 4)) ∧ w'.cell? ⟨w.heap.size, 5, none⟩ = some (.int .u8 (x 5)) ∧ w'.cell? ⟨w.heap.size + 1, 0, none⟩ = some (.int .u8 (y 0)) ∧ w'.cell? ⟨w.heap.size + 1, 1, none⟩ = some (.int .u8 (y 1)) ∧ w'.cell? ⟨w.heap.size + 1, 2, none⟩ = some (.int .u8 (y 2)) ∧ w'.cell? ⟨w.heap.size + 1, 3, none⟩ = some (.int .u8 (y 3)) ∧ w'.cell? ⟨w.heap.size + 1, 4, none⟩ = some (.int .u8 (y 4)) ∧ w'.cell? ⟨w.heap.size + 1, 5, none⟩ = some (.int .u8 (y 5)) ∧ w'.cell? ⟨w.heap.size + 2, 0, none⟩ = some (.int .u8 (z 0)) ∧ w'.cell? ⟨w.heap.size + 2, 1, none⟩ = some (.int .u8 (z 1)) ∧ w'.cell? ⟨w.heap.size + 2, 2, none⟩ = some (.int .u8 (z 2)) ∧ w'.cell? ⟨w.heap.size + 2, 3, none⟩ = some (.int .u8 (z 3)) ∧ w'.cell? ⟨w.heap.size + 2, 4, none⟩ = some (.int .u8 (z 4)) ∧ w'.cell? ⟨w.heap.size + 2, 5, none⟩ = some (.int .u8 (z 5)))) (by kernel_rfl) ?_ (fun hHeld => ?_)
    · exact S4
    refine wpAnyH_take (i := 0) (v := ?_) rfl (by kernel_rfl) (by kernel_rfl) (by kernel_rfl) (fun _ _ _ h => h) (Or.inl ⟨by rfl, ?_⟩) (by assumption) ?_
    rotate_left
    · (intro w hSw; (try dsimp only at hSw); go_simp; (try with_reducible rfl))
    (try simp only [Act.put, List.getElem_toArray, List.getElem_cons_zero, List.getElem_cons_succ, List.setIfInBounds_toArray, List.set_cons_zero, List.set_cons_succ])
    refine wpAnyH_take (i := 1) (v := ?_) rfl (by kernel_rfl) (by kernel_rfl) (by kernel_rfl) (fun _ _ _ h => h) (Or.inl ⟨by rfl, ?_⟩) (by assumption) ?_
    rotate_left
    · (intro w hSw; (try dsimp only at hSw); go_simp; (try with_reducible rfl))
    (try simp only [Act.put, List.getElem_toArray, List.getElem_cons_zero, List.getElem_cons_succ, List.setIfInBounds_toArray, List.set_cons_zero, List.set_cons_succ])
    refine wpAnyH_take (i := 2) (v := ?_) rfl (by kernel_rfl) (by kernel_rfl) (by kernel_rfl) (fun _ _ _ h => h) (Or.inl ⟨by rfl, ?_⟩) (by assumption) ?_
    rotate_left
    · (intro w hSw; (try dsimp only at hSw); go_simp; (try with_reducible rfl))
    (try simp only [Act.put, List.getElem_toArray, List.getElem_cons_zero, List.getElem_cons_succ, List.setIfInBounds_toArray, List.set_cons_zero, List.set_cons_succ])
    refine wpAnyH_take (i := 3) (v := ?_) rfl (by kernel_rfl) (by kernel_rfl) (by kernel_rfl) (fun _ _ _ h => h) (Or.inl ⟨by rfl, ?_⟩) (by assumption) ?_
    rotate_left
    · (intro w hSw; (try dsimp only at hSw); go_simp; (try with_reducible rfl))
    (try simp only [Act.put, List.getElem_toArray, List.getElem_cons_zero, List.getElem_cons_succ, List.setIfInBounds_toArray, List.set_cons_zero, List.set_cons_succ])
    refine wpAnyH_take (i := 4) (v := ?_) rfl (by kernel_rfl) (by kernel_rfl) (by kernel_rfl) (fun _ _ _ h => h) (Or.inl ⟨by rfl, ?_⟩) (by assumption) ?_
    rotate_left
    · (intro w hSw; (try dsimp only at hSw); go_simp; (try with_reducible rfl))
    (try simp only [Act.put, List.getElem_toArray, List.getElem_cons_zero, List.getElem_cons_succ, List.setIfInBounds_toArray, List.set_cons_zero, List.set_cons_succ])
    refine wpAnyH_take (i := 5) (v := ?_) rfl (by kernel_rfl) (by kernel_rfl) (by kernel_rfl) (fun _ _ _ h => h) (Or.inl ⟨by rfl, ?_⟩) (by assumption) ?_
    rotate_left
    · (intro w hSw; (try dsimp only at hSw); go_simp; (try with_reducible rfl))
    (try simp only [Act.put, List.getElem_toArray, List.getElem_cons_zero, List.getElem_cons_succ, List.setIfInBounds_toArray, List.set_cons_zero, List.set_cons_succ])
    refine wpAnyH_take (i := 6) (v := ?_) rfl (by kernel_rfl) (by kernel_rfl) (by kernel_rfl) (fun _ _ _ h => h) (Or.inl ⟨by rfl, ?_⟩) (by assumption) ?_
    rotate_left
    · (intro w hSw; (try dsimp only at hSw); go_simp; (try with_reducible rfl))
    (try simp only [Act.put, List.getElem_toArray, List.getElem_cons_zero, List.getElem_cons_succ, List.setIfInBounds_toArray, List.set_cons_zero, List.set_cons_succ])
    refine wpAnyH_take (i := 7) (v := ?_) rfl (by kernel_rfl) (by kernel_rfl) (by kernel_rfl) (fun _ _ _ h => h) (Or.inl ⟨by rfl, ?_⟩) (by assumption) ?_
    rotate_left
    · (intro w hSw; (try dsimp only at hSw); go_simp; (try with_reducible rfl))
    (try simp only [Act.put, List.getElem_toArray, List.getElem_cons_zero, List.getElem_cons_succ, List.setIfInBounds_toArray, List.set_cons_zero, List.set_cons_succ])
    refine wpAnyH_take (i := 8) (v := ?_) rfl (by kernel_rfl) (by kernel_rfl) (by kernel_rfl) (fun _ _ _ h => h) (Or.inl ⟨by rfl, ?_⟩) (by assumption) ?_
    rotate_left
    · (intro w hSw; (try dsimp only at hSw); go_simp; (try with_reducible rfl))
    (try simp only [Act.put, List.getElem_toArray, List.getElem_cons_zero, List.getElem_cons_succ, List.setIfInBounds_toArray, List.set_cons_zero, List.set_cons_succ])
    refine wpAnyH_take (i := 9) (v := ?_) rfl (by kernel_rfl) (by kernel_rfl) (by kernel_rfl) (fun _ _ _ h => h) (Or.inl ⟨by rfl, ?_⟩) (by assumption) ?_
    rotate_left
    · (intro w hSw; (try dsimp only at hSw); go_simp; (try with_reducible rfl))
    (try simp only [Act.put, List.getElem_toArray, List.getElem_cons_zero, List.getElem_cons_succ, List.setIfInBounds_toArray, List.set_cons_zero, List.set_cons_succ])
    refine wpAnyH_take (i := 10) (v := ?_) rfl (by kernel_rfl) (by kernel_rfl) (by kernel_rfl) (fun _ _ _ h => h) (Or.inl ⟨by rfl, ?_⟩) (by assumption) ?_
    rotate_left
    · (intro w hSw; (try dsimp only at hSw); go_simp; (try with_reducible rfl))
    (try simp only [Act.put, List.getElem_toArray, List.getElem_cons_zero, List.getElem_cons_succ, List.setIfInBounds_toArray, List.set_cons_zero, List.set_cons_succ])
    refine wpAnyH_take (i := 11) (v := ?_) rfl (by kernel_rfl) (by kernel_rfl) (by kernel_rfl) (fun _ _ _ h => h) (Or.inl ⟨by rfl, ?_⟩) (by assumption) ?_
    rotate_left
    · (intro w hSw; (try dsimp only at hSw); go_simp; (try with_reducible rfl))
    (try simp only [Act.put, List.getElem_toArray, List.getElem_cons_zero, List.getElem_cons_succ, List.setIfInBounds_toArray, List.set_cons_zero, List.set_cons_succ])
    refine wpAnyH_take (i := 12) (v := ?_) rfl (by kernel_rfl) (by kernel_rfl) (by kernel_rfl) (fun _ _ _ h => h) (Or.inl ⟨by rfl, ?_⟩) (by assumption) ?_
    rotate_left
    · (intro w hSw; (try dsimp only at hSw); go_simp; (try with_reducible rfl))
    (try simp only [Act.put, List.getElem_toArray, List.getElem_cons_zero, List.getElem_cons_succ, List.setIfInBounds_toArray, List.set_cons_zero, List.set_cons_succ])
    refine wpAnyH_take (i := 13) (v := ?_) rfl (by kernel_rfl) (by kernel_rfl) (by kernel_rfl) (fun _ _ _ h => h) (Or.inl ⟨by rfl, ?_⟩) (by assumption) ?_
    rotate_left
    · (intro w hSw; (try dsimp only at hSw); go_simp; (try with_reducible rfl))
    (try simp only [Act.put, List.getElem_toArray, List.getElem_cons_zero, List.getElem_cons_succ, List.setIfInBounds_toArray, List.set_cons_zero, List.set_cons_succ])
    refine wpAnyH_take (i := 14) (v := ?_) rfl (by kernel_rfl) (by kernel_rfl) (by kernel_rfl) (fun _ _ _ h => h) (Or.inl ⟨by rfl, ?_⟩) (by assumption) ?_
    rotate_left
    · (intro w hSw; (try dsimp only at hSw); go_simp; (try with_reducible rfl))
    (try simp only [Act.put, List.getElem_toArray, List.getElem_cons_zero, List.getElem_cons_succ, List.setIfInBounds_toArray, List.set_cons_zero, List.set_cons_succ])
    refine wpAnyH_take (i := 15) (v := ?_) rfl (by kernel_rfl) (by kernel_rfl) (by kernel_rfl) (fun _ _ _ h => h) (Or.inl ⟨by rfl, ?_⟩) (by assumption) ?_
    rotate_left
    · (intro w hSw; (try dsimp only at hSw); go_simp; (try with_reducible rfl))
    (try simp only [Act.put, List.getElem_toArray, List.getElem_cons_zero, List.getElem_cons_succ, List.setIfInBounds_toArray, List.set_cons_zero, List.set_cons_succ])
    refine wpAnyH_take (i := 16) (v := ?_) rfl (by kernel_rfl) (by kernel_rfl) (by kernel_rfl) (fun _ _ _ h => h) (Or.inl ⟨by rfl, ?_⟩) (by assumption) ?_
    rotate_left
    · (intro w hSw; (try dsimp only at hSw); go_simp; (try with_reducible rfl))
    (try simp only [Act.put, List.getElem_toArray, List.getElem_cons_zero, List.getElem_cons_succ, List.setIfInBounds_toArray, List.set_cons_zero, List.set_cons_succ])
    refine wpAnyH_take (i := 17) (v := ?_) rfl (by kernel_rfl) (by kernel_rfl) (by kernel_rfl) (fun _ _ _ h => h) (Or.inl ⟨by rfl, ?_⟩) (by assumption) ?_
    rotate_left
    · (intro w hSw; (try dsimp only at hSw); go_simp; (try with_reducible rfl))
    (try simp only [Act.put, List.getElem_toArray, List.getElem_cons_zero, List.getElem_cons_succ, List.setIfInBounds_toArray, List.set_cons_zero, List.set_cons_succ])
    refine wpAnyH_take (i := 18) (v := ?_) rfl (by kernel_rfl) (by kernel_rfl) (by kernel_rfl) (fun _ _ _ h => h) (Or.inl ⟨by rfl, ?_⟩) (by assumption) ?_
    rotate_left
    · (intro w hSw; (try dsimp only at hSw); go_simp; (try with_reducible rfl))
    (try simp only [Act.put, List.getElem_toArray, List.getElem_cons_zero, List.getElem_cons_succ, List.setIfInBounds_toArray, List.set_cons_zero, List.set_cons_succ])
    refine wpAnyH_take (i := 19) (v := ?_) rfl (by kernel_rfl) (by kernel_rfl) (by kernel_rfl) (fun _ _ _ h => h) (Or.inl ⟨by rfl, ?_⟩) (by assumption) ?_
    rotate_left
    · (intro w hSw; (try dsimp only at hSw); go_simp; (try with_reducible rfl))
    (try simp only [Act.put, List.getElem_toArray, List.getElem_cons_zero, List.getElem_cons_succ, List.setIfInBounds_toArray, List.set_cons_zero, List.set_cons_succ])
    refine wpAnyH_ready (rs := [20]) (by kernel_rfl) (by simp) ?_
    refine AllReadyH.cons rfl (fun K hK => ?_) AllReadyH.nil
    simp only [List.getElem_toArray, List.getElem_cons_zero, List.getElem_cons_succ]
    go_simp
    (go_at_call 14; (with_reducible refine (less_lit y z hy hz false hyz _).mono ?_); rintro e w5 ⟨rfl, k5⟩; have hx5 : HasA w5 _ x := HasA.below hx4.drew k5 hx4.lt; have hy5 : HasA w5 _ y := HasA.below hy4.drew k5 hy4.lt; have hz5 : HasA w5 _ z := HasA.below hz4.drew k5 hz4.lt; have S5 : w5.cell? ⟨w.heap.size, 0, none⟩ = some (.int .u8 (x 0)) ∧ w5.cell? ⟨w.heap.size, 1, none⟩ = some (.int .u8 (x 1)) ∧ w5.cell? ⟨w.heap.size, 2, none⟩ = some (.int .u8 (x 2)) ∧ w5.cell? ⟨w.heap.size, 3, none⟩ = some (.int .u8 (x 3)) ∧ w5.cell? ⟨w.heap.size, 4, none⟩ = some (.int .u8 (x 4)) ∧ w5.cell? ⟨w.heap.size, 5, none⟩ = some (.int .u8 (x 5)) ∧ w5.cell? ⟨w.heap.size + 1, 0, none⟩ = some (.int .u8 (y 0)) ∧ w5.cell? ⟨w.heap.size + 1, 1, none⟩ = some (.int .u8 (y 1)) ∧ w5.cell? ⟨w.heap.size + 1, 2, none⟩ = some (.int .u8 (y 2)) ∧ w5.cell? ⟨w.heap.size + 1, 3, none⟩ = some (.int .u8 (y 3)) ∧ w5.cell? ⟨w.heap.size + 1, 4, none⟩ = some (.int .u8 (y 4)) ∧ w5.cell? ⟨w.heap.size + 1, 5, none⟩ = some (.int .u8 (y 5)) ∧ w5.cell? ⟨w.heap.size + 2, 0, none⟩ = some (.int .u8 (z 0)) ∧ w5.cell? ⟨w.heap.size + 2, 1, none⟩ = some (.int .u8 (z 1)) ∧ w5.cell? ⟨w.heap.size + 2, 2, none⟩ = some (.int .u8 (z 2)) ∧ w5.cell? ⟨w.heap.size + 2, 3, none⟩ = some (.int .u8 (z 3)) ∧ w5.cell? ⟨w.heap.size + 2, 4, none⟩ = some (.int .u8 (z 4)) ∧ w5.cell? ⟨w.heap.size + 2, 5, none⟩ = some (.int .u8 (z 5)) := ⟨hx5.c 0 (by omega), hx5.c 1 (by omega), hx5.c 2 (by omega), hx5.c 3 (by omega), hx5.c 4 (by omega), hx5.c 5 (by omega), hy5.c 0 (by omega), hy5.c 1 (by omega), hy5.c 2 (by omega), hy5.c 3 (by omega), hy5.c 4 (by omega), hy5.c 5 (by omega), hz5.c 0 (by omega), hz5.c 1 (by omega), hz5.c 2 (by omega), hz5.c 3 (by omega), hz5.c 4 (by omega), hz5.c 5 (by omega)⟩)
    refine hK.out _ _ ?_ (fun hHeld => ?_)
    · exact S5
    clear hK K
    (try simp only [Act.put, List.getElem_toArray, List.getElem_cons_zero, List.getElem_cons_succ, List.setIfInBounds_toArray, List.set_cons_zero, List.set_cons_succ])
    refine wpAnyH_take (i := 21) (v := ?_) rfl (by kernel_rfl) (by kernel_rfl) (by kernel_rfl) (fun _ _ _ h => h) (Or.inl ⟨by rfl, ?_⟩) (by assumption) ?_
    rotate_left
    · (intro w hSw; (try dsimp only at hSw); go_simp; (try with_reducible rfl))
    (try simp only [Act.put, List.getElem_toArray, List.getElem_cons_zero, List.getElem_cons_succ, List.setIfInBounds_toArray, List.set_cons_zero, List.set_cons_succ])
    refine wpAnyH_take (i := 22) (v := ?_) rfl (by kernel_rfl) (by kernel_rfl) (by kernel_rfl) (fun _ _ _ h => h) (Or.inl ⟨by rfl, ?_⟩) (by assumption) ?_
    rotate_left
    · (intro w hSw; (try dsimp only at hSw); go_simp; (try with_reducible rfl))
    (try simp only [Act.put, List.getElem_toArray, List.getElem_cons_zero, List.getElem_cons_succ, List.setIfInBounds_toArray, List.set_cons_zero, List.set_cons_succ])
    refine wpAnyH_take (i := 23) (v := ?_) rfl (by kernel_rfl) (by kernel_rfl) (by kernel_rfl) (fun _ _ _ h => h) (Or.inl ⟨by rfl, ?_⟩) (by assumption) ?_
    rotate_left
    · (intro w hSw; (try dsimp only at hSw); go_simp; (try with_reducible rfl))
    (try simp only [Act.put, List.getElem_toArray, List.getElem_cons_zero, List.getElem_cons_succ, List.setIfInBounds_toArray, List.set_cons_zero, List.set_cons_succ])
    refine wpAnyH_take (i := 24) (v := undef) rfl (by kernel_rfl) (by kernel_rfl) (by kernel_rfl) (fun _ _ _ h => h) (Or.inr ⟨by rfl, rfl⟩) (by assumption) ?_
    (try simp only [Act.put, List.getElem_toArray, List.getElem_cons_zero, List.getElem_cons_succ, List.setIfInBounds_toArray, List.set_cons_zero, List.set_cons_succ])
    refine wpAnyH_take (i := 25) (v := undef) rfl (by kernel_rfl) (by kernel_rfl) (by kernel_rfl) (fun _ _ _ h => h) (Or.inr ⟨by rfl, rfl⟩) (by assumption) ?_
    (try simp only [Act.put, List.getElem_toArray, List.getElem_cons_zero, List.getElem_cons_succ, List.setIfInBounds_toArray, List.set_cons_zero, List.set_cons_succ])
    refine wpAnyH_take (i := 26) (v := undef) rfl (by kernel_rfl) (by kernel_rfl) (by kernel_rfl) (fun _ _ _ h => h) (Or.inr ⟨by rfl, rfl⟩) (by assumption) ?_
    (try simp only [Act.put, List.getElem_toArray, List.getElem_cons_zero, List.getElem_cons_succ, List.setIfInBounds_toArray, List.set_cons_zero, List.set_cons_succ])
    refine wpAnyH_take (i := 27) (v := ?_) rfl (by kernel_rfl) (by kernel_rfl) (by kernel_rfl) (fun _ _ _ h => h) (Or.inl ⟨by rfl, ?_⟩) (by assumption) ?_
    rotate_left
    · (intro w hSw; (try dsimp only at hSw); go_simp; (try with_reducible rfl))
    (try simp only [Act.put, List.getElem_toArray, List.getElem_cons_zero, List.getElem_cons_succ, List.setIfInBounds_toArray, List.set_cons_zero, List.set_cons_succ])
    refine wpAnyH_take (i := 28) (v := ?_) rfl (by kernel_rfl) (by kernel_rfl) (by kernel_rfl) (fun _ _ _ h => h) (Or.inl ⟨by rfl, ?_⟩) (by assumption) ?_
    rotate_left
    · (intro w hSw; (try dsimp only at hSw); go_simp; (try with_reducible rfl))
    (try simp only [Act.put, List.getElem_toArray, List.getElem_cons_zero, List.getElem_cons_succ, List.setIfInBounds_toArray, List.set_cons_zero, List.set_cons_succ])
    refine wpAnyH_take (i := 29) (v := ?_) rfl (by kernel_rfl) (by kernel_rfl) (by kernel_rfl) (fun _ _ _ h => h) (Or.inl ⟨by rfl, ?_⟩) (by assumption) ?_
    rotate_left
    · (intro w hSw; (try dsimp only at hSw); go_simp; (try with_reducible rfl))
    (try simp only [Act.put, List.getElem_toArray, List.getElem_cons_zero, List.getElem_cons_succ, List.setIfInBounds_toArray, List.set_cons_zero, List.set_cons_succ])
    refine wpAnyH_take (i := 30) (v := ?_) rfl (by kernel_rfl) (by kernel_rfl) (by kernel_rfl) (fun _ _ _ h => h) (Or.inl ⟨by rfl, ?_⟩) (by assumption) ?_
    rotate_left
    · (intro w hSw; (try dsimp only at hSw); go_simp; (try with_reducible rfl))
    (try simp only [Act.put, List.getElem_toArray, List.getElem_cons_zero, List.getElem_cons_succ, List.setIfInBounds_toArray, List.set_cons_zero, List.set_cons_succ])
    refine wpAnyH_take (i := 31) (v := ?_) rfl (by kernel_rfl) (by kernel_rfl) (by kernel_rfl) (fun _ _ _ h => h) (Or.inl ⟨by rfl, ?_⟩) (by assumption) ?_
    rotate_left
    · (intro w hSw; (try dsimp only at hSw); go_simp; (try with_reducible rfl))
    (try simp only [Act.put, List.getElem_toArray, List.getElem_cons_zero, List.getElem_cons_succ, List.setIfInBounds_toArray, List.set_cons_zero, List.set_cons_succ])
    refine wpAnyH_take (i := 33) (v := ?_) rfl (by kernel_rfl) (by kernel_rfl) (by kernel_rfl) (fun _ _ _ h => h) (Or.inl ⟨by rfl, ?_⟩) (by assumption) ?_
    rotate_left
    · (intro w hSw; (try dsimp only at hSw); go_simp; (try with_reducible rfl))
    (try simp only [Act.put, List.getElem_toArray, List.getElem_cons_zero, List.getElem_cons_succ, List.setIfInBounds_toArray, List.set_cons_zero, List.set_cons_succ])
    refine wpAnyH_ready (rs := [32]) (by kernel_rfl) (by simp) ?_
    refine AllReadyH.cons rfl (fun K hK => ?_) AllReadyH.nil
    simp only [List.getElem_toArray, List.getElem_cons_zero, List.getElem_cons_succ]
    go_simp
    (go_at_call 9; (with_reducible refine (text_lit x hx _).mono ?_); rintro e w6 ⟨rfl, k6⟩; have hx6 : HasA w6 _ x := HasA.below hx5 k6 hx5.lt; have hy6 : HasA w6 _ y := HasA.below hy5 k6 hy5.lt; have hz6 : HasA w6 _ z := HasA.below hz5 k6 hz5.lt; have S6 : w6.cell? ⟨w.heap.size, 0, none⟩ = some (.int .u8 (x 0)) ∧ w6.cell? ⟨w.heap.size, 1, none⟩ = some (.int .u8 (x 1)) ∧ w6.cell? ⟨w.heap.size, 2, none⟩ = some (.int .u8 (x 2)) ∧ w6.cell? ⟨w.heap.size, 3, none⟩ = some (.int .u8 (x 3)) ∧ w6.cell? ⟨w.heap.size, 4, none⟩ = some (.int .u8 (x 4)) ∧ w6.cell? ⟨w.heap.size, 5, none⟩ = some (.int .u8 (x 5)) ∧ w6.cell? ⟨w.heap.size + 1, 0, none⟩ = some (.int .u8 (y 0)) ∧ w6.cell? ⟨w.heap.size + 1, 1, none⟩ = some (.int .u8 (y 1)) ∧ w6.cell? ⟨w.heap.size + 1, 2, none⟩ = some (.int .u8 (y 2)) ∧ w6.cell? ⟨w.heap.size + 1, 3, none⟩ = some (.int .u8 (y 3)) ∧ w6.cell? ⟨w.heap.size + 1, 4, none⟩ = some (.int .u8 (y 4)) ∧ w6.cell? ⟨w.heap.size + 1, 5, none⟩ = some (.int .u8 (y 5)) ∧ w6.cell? ⟨w.heap.size + 2, 0, none⟩ = some (.int .u8 (z 0)) ∧ w6.cell? ⟨w.heap.size + 2, 1, none⟩ = some (.int .u8 (z 1)) ∧ w6.cell? ⟨w.heap.size + 2, 2, none⟩ = some (.int .u8 (z 2)) ∧ w6.cell? ⟨w.heap.size + 2, 3, none⟩ = some (.int .u8 (z 3)) ∧ w6.cell? ⟨w.heap.size + 2, 4, none⟩ = some (.int .u8 (z 4)) ∧ w6.cell? ⟨w.heap.size + 2, 5, none⟩ = some (.int .u8 (z 5)) := ⟨hx6.c 0 (by omega), hx6.c 1 (by omega), hx6.c 2 (by omega), hx6.c 3 (by omega), hx6.c 4 (by omega), hx6.c 5 (by omega), hy6.c 0 (by omega), hy6.c 1 (by omega), hy6.c 2 (by omega), hy6.c 3 (by omega), hy6.c 4 (by omega), hy6.c 5 (by omega), hz6.c 0 (by omega), hz6.c 1 (by omega), hz6.c 2 (by omega), hz6.c 3 (by omega), hz6.c 4 (by omega), hz6.c 5 (by omega)⟩)
    refine hK.out _ _ ?_ (fun hHeld => ?_)
    · exact S6
    clear hK K
    (try simp only [Act.put, List.getElem_toArray, List.getElem_cons_zero, List.getElem_cons_succ, List.setIfInBounds_toArray, List.set_cons_zero, List.set_cons_succ])
    refine wpAnyH_ready (rs := [34]) (by kernel_rfl) (by simp) ?_
    refine AllReadyH.cons rfl (fun K hK => ?_) AllReadyH.nil
    simp only [List.getElem_toArray, List.getElem_cons_zero, List.getElem_cons_succ]
    go_simp
    (go_at_call 9; (with_reducible refine (text_lit y hy _).mono ?_); rintro e w7 ⟨rfl, k7⟩; have hx7 : HasA w7 _ x := HasA.below hx6 k7 hx6.lt; have hy7 : HasA w7 _ y := HasA.below hy6 k7 hy6.lt; have hz7 : HasA w7 _ z := HasA.below hz6 k7 hz6.lt; have S7 : w7.cell? ⟨w.heap.size, 0, none⟩ = some (.int .u8 (x 0)) ∧ w7.cell? ⟨w.heap.size, 1, none⟩ = some (.int .u8 (x 1)) ∧ w7.cell? ⟨w.heap.size, 2, none⟩ = some (.int .u8 (x 2)) ∧ w7.cell? ⟨w.heap.size, 3, none⟩ = some (.int .u8 (x 3)) ∧ w7.cell? ⟨w.heap.size, 4, none⟩ = some (.int .u8 (x 4)) ∧ w7.cell? ⟨w.heap.size, 5, none⟩ = some (.int .u8 (x 5)) ∧ w7.cell? ⟨w.heap.size + 1, 0, none⟩ = some (.int .u8 (y 0)) ∧ w7.cell? ⟨w.heap.size + 1, 1, none⟩ = some (.int .u8 (y 1)) ∧ w7.cell? ⟨w.heap.size + 1, 2, none⟩ = some (.int .u8 (y 2)) ∧ w7.cell? ⟨w.heap.size + 1, 3, none⟩ = some (.int .u8 (y 3)) ∧ w7.cell? ⟨w.heap.size + 1, 4, none⟩ = some (.int .u8 (y 4)) ∧ w7.cell? ⟨w.heap.size + 1, 5, none⟩ = some (.int .u8 (y 5)) ∧ w7.cell? ⟨w.heap.size + 2, 0, none⟩ = some (.int .u8 (z 0)) ∧ w7.cell? ⟨w.heap.size + 2, 1, none⟩ = some (.int .u8 (z 1)) ∧ w7.cell? ⟨w.heap.size + 2, 2, none⟩ = some (.int .u8 (z 2)) ∧ w7.cell? ⟨w.heap.size + 2, 3, none⟩ = some (.int .u8 (z 3)) ∧ w7.cell? ⟨w.heap.size + 2, 4, none⟩ = some (.int .u8 (z 4)) ∧ w7.cell? ⟨w.heap.size + 2, 5, none⟩ = some (.int .u8 (z 5)) := ⟨hx7.c 0 (by omega), hx7.c 1 (by omega), hx7.c 2 (by omega), hx7.c 3 (by omega), hx7.c 4 (by omega), hx7.c 5 (by omega), hy7.c 0 (by omega), hy7.c 1 (by omega), hy7.c 2 (by omega), hy7.c 3 (by omega), hy7.c 4 (by omega), hy7.c 5 (by omega), hz7.c 0 (by omega), hz7.c 1 (by omega), hz7.c 2 (by omega), hz7.c 3 (by omega), hz7.c 4 (by omega), hz7.c 5 (by omega)⟩)
    refine hK.out _ _ ?_ (fun hHeld => ?_)
    · exact S7
    clear hK K
    (try simp only [Act.put, List.getElem_toArray, List.getElem_cons_zero, List.getElem_cons_succ, List.setIfInBounds_toArray, List.set_cons_zero, List.set_cons_succ])
    refine wpAnyH_take (i := 35) (v := ?_) rfl (by kernel_rfl) (by kernel_rfl) (by kernel_rfl) (fun _ _ _ h => h) (Or.inl ⟨by rfl, ?_⟩) (by assumption) ?_
    rotate_left
    · (intro w hSw; (try dsimp only at hSw); go_simp; (try with_reducible rfl))
    (try simp only [Act.put, List.getElem_toArray, List.getElem_cons_zero, List.getElem_cons_succ, List.setIfInBounds_toArray, List.set_cons_zero, List.set_cons_succ])
    refine wpAnyH_take (i := 36) (v := ?_) rfl (by kernel_rfl) (by kernel_rfl) (by kernel_rfl) (fun _ _ _ h => h) (Or.inl ⟨by rfl, ?_⟩) (by assumption) ?_
    rotate_left
    · (intro w hSw; (try dsimp only at hSw); go_simp; (try with_reducible rfl))
    (try simp only [Act.put, List.getElem_toArray, List.getElem_cons_zero, List.getElem_cons_succ, List.setIfInBounds_toArray, List.set_cons_zero, List.set_cons_succ])
    refine wpAnyH_take (i := 37) (v := ?_) rfl (by kernel_rfl) (by kernel_rfl) (by kernel_rfl) (fun _ _ _ h => h) (Or.inl ⟨by rfl, ?_⟩) (by assumption) ?_
    rotate_left
    · (intro w hSw; (try dsimp only at hSw); go_simp; (try with_reducible rfl))
    (try simp only [Act.put, List.getElem_toArray, List.getElem_cons_zero, List.getElem_cons_succ, List.setIfInBounds_toArray, List.set_cons_zero, List.set_cons_succ])
    refine wpAnyH_take (i := 38) (v := ?_) rfl (by kernel_rfl) (by kernel_rfl) (by kernel_rfl) (fun _ _ _ h => h) (Or.inl ⟨by rfl, ?_⟩) (by assumption) ?_
    rotate_left
    · (intro w hSw; (try dsimp only at hSw); go_simp; (try with_reducible rfl))
    (try simp only [Act.put, List.getElem_toArray, List.getElem_cons_zero, List.getElem_cons_succ, List.setIfInBounds_toArray, List.set_cons_zero, List.set_cons_succ])
    refine wpAnyH_done (by kernel_rfl) ?_ _
    refine NoPanic.normal ?_
    go_wp2
    go_ret
    exact ⟨rfl, below_then (below_then (below_then (below_then (below_then (hb2.drew) k3) k4.drew) k5) k6) k7⟩)

set_option linter.unusedSimpArgs false in
set_option maxHeartbeats 1600000 in
theorem walk_both (x y z : Nat → Nat) (hx : ∀ i, x i < 256) (hy : ∀ i, y i < 256) (hz : ∀ i, z i < 256) (hxy : Op.bytesLess (addrL x) (addrL y) = true) (hyx : Op.bytesLess (addrL y) (addrL x) = false) (hs : decide (six x = six y) = false) (hyz : Op.bytesLess (addrL y) (addrL z) = true) (hxz : Op.bytesLess (addrL x) (addrL z) = true) (w : World) :
    Calls Try.prog 5 #[addrV x, addrV y, addrV z] w fun e w' => e = .returned (.bool true) ∧ Below w.heap.size w w' := by
  have hx1 : HasA (((w.alloc (.cells #[.int .u8 (x 0), .int .u8 (x 1), .int .u8 (x 2), .int .u8 (x 3), .int .u8 (x 4), .int .u8 (x 5)] 23)).alloc (.cells #[.int .u8 (y 0), .int .u8 (y 1), .int .u8 (y 2), .int .u8 (y 3), .int .u8 (y 4), .int .u8 (y 5)] 23)).alloc (.cells #[.int .u8 (z 0), .int .u8 (z 1), .int .u8 (z 2), .int .u8 (z 3), .int .u8 (z 4), .int .u8 (z 5)] 23)) w.heap.size x := (heap_alloc_old _ _ (by simp; omega)).trans (heap_alloc2_old w _ _)
  have hy1 : HasA (((w.alloc (.cells #[.int .u8 (x 0), .int .u8 (x 1), .int .u8 (x 2), .int .u8 (x 3), .int .u8 (x 4), .int .u8 (x 5)] 23)).alloc (.cells #[.int .u8 (y 0), .int .u8 (y 1), .int .u8 (y 2), .int .u8 (y 3), .int .u8 (y 4), .int .u8 (y 5)] 23)).alloc (.cells #[.int .u8 (z 0), .int .u8 (z 1), .int .u8 (z 2), .int .u8 (z 3), .int .u8 (z 4), .int .u8 (z 5)] 23)) (w.heap.size + 1) y := (heap_alloc_old _ _ (by simp)).trans (heap_alloc2_new w _ _)
  have hz1 : HasA (((w.alloc (.cells #[.int .u8 (x 0), .int .u8 (x 1), .int .u8 (x 2), .int .u8 (x 3), .int .u8 (x 4), .int .u8 (x 5)] 23)).alloc (.cells #[.int .u8 (y 0), .int .u8 (y 1), .int .u8 (y 2), .int .u8 (y 3), .int .u8 (y 4), .int .u8 (y 5)] 23)).alloc (.cells #[.int .u8 (z 0), .int .u8 (z 1), .int .u8 (z 2), .int .u8 (z 3), .int .u8 (z 4), .int .u8 (z 5)] 23)) (w.heap.size + 2) z := by have q := heap_alloc_new ((w.alloc (.cells #[.int .u8 (x 0), .int .u8 (x 1), .int .u8 (x 2), .int .u8 (x 3), .int .u8 (x 4), .int .u8 (x 5)] 23)).alloc (.cells #[.int .u8 (y 0), .int .u8 (y 1), .int .u8 (y 2), .int .u8 (y 3), .int .u8 (y 4), .int .u8 (y 5)] 23)) (.cells #[.int .u8 (z 0), .int .u8 (z 1), .int .u8 (z 2), .int .u8 (z 3), .int .u8 (z 4), .int .u8 (z 5)] 23); rw [show ((w.alloc (.cells #[.int .u8 (x 0), .int .u8 (x 1), .int .u8 (x 2), .int .u8 (x 3), .int .u8 (x 4), .int .u8 (x 5)] 23)).alloc (.cells #[.int .u8 (y 0), .int .u8 (y 1), .int .u8 (y 2), .int .u8 (y 3), .int .u8 (y 4), .int .u8 (y 5)] 23)).heap.size = w.heap.size + 2 by simp] at q; exact q
  have hb1 : Below w.heap.size w (((w.alloc (.cells #[.int .u8 (x 0), .int .u8 (x 1), .int .u8 (x 2), .int .u8 (x 3), .int .u8 (x 4), .int .u8 (x 5)] 23)).alloc (.cells #[.int .u8 (y 0), .int .u8 (y 1), .int .u8 (y 2), .int .u8 (y 3), .int .u8 (y 4), .int .u8 (y 5)] 23)).alloc (.cells #[.int .u8 (z 0), .int .u8 (z 1), .int .u8 (z 2), .int .u8 (z 3), .int .u8 (z 4), .int .u8 (z 5)] 23)) := (((Below.refl _ _).alloc (Nat.le_refl _) _).alloc (by simp) _).alloc (by simp; omega) _
  have hq : ∀ W, (Op.equalIn 10000 23 (.agg #[.int .u8 (x 0), .int .u8 (x 1), .int .u8 (x 2), .int .u8 (x 3), .int .u8 (x 4), .int .u8 (x 5)]) (.agg #[.int .u8 (y 0), .int .u8 (y 1), .int .u8 (y 2), .int .u8 (y 3), .int .u8 (y 4), .int .u8 (y 5)])).run Try.prog W = .ok false W := fun W => by
    have h := run_eql_addr x y hx hy W
    rw [hs] at h
    exact h
  clear hs
  unfold addrV
  go_enter Try.func5, Try.ntmps5
  go_wp2_with fail
  refine (addressed_any _).mono ?_
  rintro e w2 ⟨rfl, k2⟩
  have hb2 := below_then hb1 k2
  have hx2 : HasA w2 _ x := hx1.below k2 hx1.lt
  have hy2 : HasA w2 _ y := hy1.below k2 hy1.lt
  have hz2 : HasA w2 _ z := hz1.below k2 hz1.lt
  clear hb1 hx1 hy1 hz1 k2
  have S2 : w2.cell? ⟨w.heap.size, 0, none⟩ = some (.int .u8 (x 0)) ∧ w2.cell? ⟨w.heap.size, 1, none⟩ = some (.int .u8 (x 1)) ∧ w2.cell? ⟨w.heap.size, 2, none⟩ = some (.int .u8 (x 2)) ∧ w2.cell? ⟨w.heap.size, 3, none⟩ = some (.int .u8 (x 3)) ∧ w2.cell? ⟨w.heap.size, 4, none⟩ = some (.int .u8 (x 4)) ∧ w2.cell? ⟨w.heap.size, 5, none⟩ = some (.int .u8 (x 5)) ∧ w2.cell? ⟨w.heap.size + 1, 0, none⟩ = some (.int .u8 (y 0)) ∧ w2.cell? ⟨w.heap.size + 1, 1, none⟩ = some (.int .u8 (y 1)) ∧ w2.cell? ⟨w.heap.size + 1, 2, none⟩ = some (.int .u8 (y 2)) ∧ w2.cell? ⟨w.heap.size + 1, 3, none⟩ = some (.int .u8 (y 3)) ∧ w2.cell? ⟨w.heap.size + 1, 4, none⟩ = some (.int .u8 (y 4)) ∧ w2.cell? ⟨w.heap.size + 1, 5, none⟩ = some (.int .u8 (y 5)) ∧ w2.cell? ⟨w.heap.size + 2, 0, none⟩ = some (.int .u8 (z 0)) ∧ w2.cell? ⟨w.heap.size + 2, 1, none⟩ = some (.int .u8 (z 1)) ∧ w2.cell? ⟨w.heap.size + 2, 2, none⟩ = some (.int .u8 (z 2)) ∧ w2.cell? ⟨w.heap.size + 2, 3, none⟩ = some (.int .u8 (z 3)) ∧ w2.cell? ⟨w.heap.size + 2, 4, none⟩ = some (.int .u8 (z 4)) ∧ w2.cell? ⟨w.heap.size + 2, 5, none⟩ = some (.int .u8 (z 5)) := ⟨hx2.c 0 (by omega), hx2.c 1 (by omega), hx2.c 2 (by omega), hx2.c 3 (by omega), hx2.c 4 (by omega), hx2.c 5 (by omega), hy2.c 0 (by omega), hy2.c 1 (by omega), hy2.c 2 (by omega), hy2.c 3 (by omega), hy2.c 4 (by omega), hy2.c 5 (by omega), hz2.c 0 (by omega), hz2.c 1 (by omega), hz2.c 2 (by omega), hz2.c 3 (by omega), hz2.c 4 (by omega), hz2.c 5 (by omega)⟩
  go_wp2
  go_region_held3 (fun w' => w'.cell? ⟨w.heap.size, 0, none⟩ = some (.int .u8 (x 0)) ∧ w'.cell? ⟨w.heap.size, 1, none⟩ = some (.int .u8 (x 1)) ∧ w'.cell? ⟨w.heap.size, 2, none⟩ = some (.int .u8 (x 2)) ∧ w'.cell? ⟨w.heap.size, 3, none⟩ = some (.int .u8 (x 3)) ∧ w'.cell? ⟨w.heap.size, 4, none⟩ = some (.int .u8 (x 4)) ∧ w'.cell? ⟨w.heap.size, 5, none⟩ = some (.int .u8 (x 5)) ∧ w'.cell? ⟨w.heap.size + 1, 0, none⟩ = some (.int .u8 (y 0)) ∧ w'.cell? ⟨w.heap.size + 1, 1, none⟩ = some (.int .u8 (y 1)) ∧ w'.cell? ⟨w.heap.size + 1, 2, none⟩ = some (.int .u8 (y 2)) ∧ w'.cell? ⟨w.heap.size + 1, 3, none⟩ = some (.int .u8 (y 3)) ∧ w'.cell? ⟨w.heap.size + 1, 4, none⟩ = some (.int .u8 (y 4)) ∧ w'.cell? ⟨w.heap.size + 1, 5, none⟩ = some (.int .u8 (y 5)) ∧ w'.cell? ⟨w.heap.size + 2, 0, none⟩ = some (.int .u8 (z 0)) ∧ w'.cell? ⟨w.heap.size + 2, 1, none⟩ = some (.int .u8 (z 1)) ∧ w'.cell? ⟨w.heap.size + 2, 2, none⟩ = some (.int .u8 (z 2)) ∧ w'.cell? ⟨w.heap.size + 2, 3, none⟩ = some (.int .u8 (z 3)) ∧ w'.cell? ⟨w.heap.size + 2, 4, none⟩ = some (.int .u8 (z 4)) ∧ w'.cell? ⟨w.heap.size + 2, 5, none⟩ = some (.int .u8 (z 5)))
    (first
      | exact S4
      | exact S3
      | exact S2)
    (first
      | (go_at_call 14; (with_reducible refine (less_lit x y hx hy true hxy _).mono ?_); rintro e w3 ⟨rfl, k3⟩; have hx3 : HasA w3 _ x := HasA.below hx2.drew k3 hx2.lt; have hy3 : HasA w3 _ y := HasA.below hy2.drew k3 hy2.lt; have hz3 : HasA w3 _ z := HasA.below hz2.drew k3 hz2.lt; have S3 : w3.cell? ⟨w.heap.size, 0, none⟩ = some (.int .u8 (x 0)) ∧ w3.cell? ⟨w.heap.size, 1, none⟩ = some (.int .u8 (x 1)) ∧ w3.cell? ⟨w.heap.size, 2, none⟩ = some (.int .u8 (x 2)) ∧ w3.cell? ⟨w.heap.size, 3, none⟩ = some (.int .u8 (x 3)) ∧ w3.cell? ⟨w.heap.size, 4, none⟩ = some (.int .u8 (x 4)) ∧ w3.cell? ⟨w.heap.size, 5, none⟩ = some (.int .u8 (x 5)) ∧ w3.cell? ⟨w.heap.size + 1, 0, none⟩ = some (.int .u8 (y 0)) ∧ w3.cell? ⟨w.heap.size + 1, 1, none⟩ = some (.int .u8 (y 1)) ∧ w3.cell? ⟨w.heap.size + 1, 2, none⟩ = some (.int .u8 (y 2)) ∧ w3.cell? ⟨w.heap.size + 1, 3, none⟩ = some (.int .u8 (y 3)) ∧ w3.cell? ⟨w.heap.size + 1, 4, none⟩ = some (.int .u8 (y 4)) ∧ w3.cell? ⟨w.heap.size + 1, 5, none⟩ = some (.int .u8 (y 5)) ∧ w3.cell? ⟨w.heap.size + 2, 0, none⟩ = some (.int .u8 (z 0)) ∧ w3.cell? ⟨w.heap.size + 2, 1, none⟩ = some (.int .u8 (z 1)) ∧ w3.cell? ⟨w.heap.size + 2, 2, none⟩ = some (.int .u8 (z 2)) ∧ w3.cell? ⟨w.heap.size + 2, 3, none⟩ = some (.int .u8 (z 3)) ∧ w3.cell? ⟨w.heap.size + 2, 4, none⟩ = some (.int .u8 (z 4)) ∧ w3.cell? ⟨w.heap.size + 2, 5, none⟩ = some (.int .u8 (z 5)) := ⟨hx3.c 0 (by omega), hx3.c 1 (by omega), hx3.c 2 (by omega), hx3.c 3 (by omega), hx3.c 4 (by omega), hx3.c 5 (by omega), hy3.c 0 (by omega), hy3.c 1 (by omega), hy3.c 2 (by omega), hy3.c 3 (by omega), hy3.c 4 (by omega), hy3.c 5 (by omega), hz3.c 0 (by omega), hz3.c 1 (by omega), hz3.c 2 (by omega), hz3.c 3 (by omega), hz3.c 4 (by omega), hz3.c 5 (by omega)⟩)
      | (go_at_call 14; (with_reducible refine (less_lit y x hy hx false hyx _).mono ?_); rintro e w4 ⟨rfl, k4⟩; have hx4 : HasA w4 _ x := HasA.below hx3 k4 hx3.lt; have hy4 : HasA w4 _ y := HasA.below hy3 k4 hy3.lt; have hz4 : HasA w4 _ z := HasA.below hz3 k4 hz3.lt; have S4 : w4.cell? ⟨w.heap.size, 0, none⟩ = some (.int .u8 (x 0)) ∧ w4.cell? ⟨w.heap.size, 1, none⟩ = some (.int .u8 (x 1)) ∧ w4.cell? ⟨w.heap.size, 2, none⟩ = some (.int .u8 (x 2)) ∧ w4.cell? ⟨w.heap.size, 3, none⟩ = some (.int .u8 (x 3)) ∧ w4.cell? ⟨w.heap.size, 4, none⟩ = some (.int .u8 (x 4)) ∧ w4.cell? ⟨w.heap.size, 5, none⟩ = some (.int .u8 (x 5)) ∧ w4.cell? ⟨w.heap.size + 1, 0, none⟩ = some (.int .u8 (y 0)) ∧ w4.cell? ⟨w.heap.size + 1, 1, none⟩ = some (.int .u8 (y 1)) ∧ w4.cell? ⟨w.heap.size + 1, 2, none⟩ = some (.int .u8 (y 2)) ∧ w4.cell? ⟨w.heap.size + 1, 3, none⟩ = some (.int .u8 (y 3)) ∧ w4.cell? ⟨w.heap.size + 1, 4, none⟩ = some (.int .u8 (y 4)) ∧ w4.cell? ⟨w.heap.size + 1, 5, none⟩ = some (.int .u8 (y 5)) ∧ w4.cell? ⟨w.heap.size + 2, 0, none⟩ = some (.int .u8 (z 0)) ∧ w4.cell? ⟨w.heap.size + 2, 1, none⟩ = some (.int .u8 (z 1)) ∧ w4.cell? ⟨w.heap.size + 2, 2, none⟩ = some (.int .u8 (z 2)) ∧ w4.cell? ⟨w.heap.size + 2, 3, none⟩ = some (.int .u8 (z 3)) ∧ w4.cell? ⟨w.heap.size + 2, 4, none⟩ = some (.int .u8 (z 4)) ∧ w4.cell? ⟨w.heap.size + 2, 5, none⟩ = some (.int .u8 (z 5)) := ⟨hx4.c 0 (by omega), hx4.c 1 (by omega), hx4.c 2 (by omega), hx4.c 3 (by omega), hx4.c 4 (by omega), hx4.c 5 (by omega), hy4.c 0 (by omega), hy4.c 1 (by omega), hy4.c 2 (by omega), hy4.c 3 (by omega), hy4.c 4 (by omega), hy4.c 5 (by omega), hz4.c 0 (by omega), hz4.c 1 (by omega), hz4.c 2 (by omega), hz4.c 3 (by omega), hz4.c 4 (by omega), hz4.c 5 (by omega)⟩))
  all_goals (
    go_wp2_with fail
    refine wp_region_noPanic ?_
    refine wp_region_held_drew (S := (fun w' => w'.cell? ⟨w.heap.size, 0, none⟩ = some (.int .u8 (x 0)) ∧ w'.cell? ⟨w.heap.size, 1, none⟩ = some (.int .u8 (x 1)) ∧ w'.cell? ⟨w.heap.size, 2, none⟩ = some (.int .u8 (x 2)) ∧ w'.cell? ⟨w.heap.size, 3, none⟩ = some (.int .u8 (x 3)) ∧ w'.cell? ⟨w.heap.size, 4, none⟩ = some (.int .u8 (x 4)) ∧ w'.cell? ⟨w.heap.size, 5, none⟩ = some (.int .u8 (x 5)) ∧ w'.cell? ⟨w.heap.size + 1, 0, none⟩ = some (.int .u8 (y 0)) ∧ w'.cell? ⟨w.heap.size + 1, 1, none⟩ = some (.int .u8 (y 1)) ∧ w'.cell? ⟨w.heap.size + 1, 2, none⟩ = some (.int .u8 (y 2)) ∧ w'.cell? ⟨w.heap.size + 1, 3, none⟩ = some (.int .u8 (y 3)) ∧ w'.cell? ⟨w.heap.size + 1, 4, none⟩ = some (.int .u8 (y 4)) ∧ w'.cell? ⟨w.heap.size + 1, 5, none⟩ = some (.int .u8 (y 5)) ∧ w'.cell? ⟨w.heap.size + 2, 0, none⟩ = some (.int .u8 (z 0)) ∧ w'.cell? ⟨w.heap.size + 2, 1, none⟩ = some (.int .u8 (z 1)) ∧ w'.cell? ⟨w.heap.size + 2, 2, none⟩ = some (.int .u8 (z 2)) ∧ w'.cell? ⟨w.heap.size + 2, 3, none⟩ = some (.int .u8 (z 3)) ∧ w'.cell? ⟨w.heap.size + 2, 4, none⟩ = some (.int .u8 (z 4)) ∧ w'.cell? ⟨w.heap.size + 2, 5, none⟩ = some (.int .u8 (z 5)))) (by kernel_rfl) ?_ (fun hHeld => ?_)
    · exact S4
    refine wpAnyH_take (i := 0) (v := ?_) rfl (by kernel_rfl) (by kernel_rfl) (by kernel_rfl) (fun _ _ _ h => h) (Or.inl ⟨by rfl, ?_⟩) (by assumption) ?_
    rotate_left
    · (intro w hSw; (try dsimp only at hSw); go_simp; (try with_reducible rfl))
    (try simp only [Act.put, List.getElem_toArray, List.getElem_cons_zero, List.getElem_cons_succ, List.setIfInBounds_toArray, List.set_cons_zero, List.set_cons_succ])
    refine wpAnyH_take (i := 1) (v := ?_) rfl (by kernel_rfl) (by kernel_rfl) (by kernel_rfl) (fun _ _ _ h => h) (Or.inl ⟨by rfl, ?_⟩) (by assumption) ?_
    rotate_left
    · (intro w hSw; (try dsimp only at hSw); go_simp; (try with_reducible rfl))
    (try simp only [Act.put, List.getElem_toArray, List.getElem_cons_zero, List.getElem_cons_succ, List.setIfInBounds_toArray, List.set_cons_zero, List.set_cons_succ])
    refine wpAnyH_take (i := 2) (v := ?_) rfl (by kernel_rfl) (by kernel_rfl) (by kernel_rfl) (fun _ _ _ h => h) (Or.inl ⟨by rfl, ?_⟩) (by assumption) ?_
    rotate_left
    · (intro w hSw; (try dsimp only at hSw); go_simp; (try with_reducible rfl))
    (try simp only [Act.put, List.getElem_toArray, List.getElem_cons_zero, List.getElem_cons_succ, List.setIfInBounds_toArray, List.set_cons_zero, List.set_cons_succ])
    refine wpAnyH_take (i := 3) (v := ?_) rfl (by kernel_rfl) (by kernel_rfl) (by kernel_rfl) (fun _ _ _ h => h) (Or.inl ⟨by rfl, ?_⟩) (by assumption) ?_
    rotate_left
    · (intro w hSw; (try dsimp only at hSw); go_simp; (try with_reducible rfl))
    (try simp only [Act.put, List.getElem_toArray, List.getElem_cons_zero, List.getElem_cons_succ, List.setIfInBounds_toArray, List.set_cons_zero, List.set_cons_succ])
    refine wpAnyH_take (i := 4) (v := ?_) rfl (by kernel_rfl) (by kernel_rfl) (by kernel_rfl) (fun _ _ _ h => h) (Or.inl ⟨by rfl, ?_⟩) (by assumption) ?_
    rotate_left
    · (intro w hSw; (try dsimp only at hSw); go_simp; (try with_reducible rfl))
    (try simp only [Act.put, List.getElem_toArray, List.getElem_cons_zero, List.getElem_cons_succ, List.setIfInBounds_toArray, List.set_cons_zero, List.set_cons_succ])
    refine wpAnyH_take (i := 5) (v := ?_) rfl (by kernel_rfl) (by kernel_rfl) (by kernel_rfl) (fun _ _ _ h => h) (Or.inl ⟨by rfl, ?_⟩) (by assumption) ?_
    rotate_left
    · (intro w hSw; (try dsimp only at hSw); go_simp; (try with_reducible rfl))
    (try simp only [Act.put, List.getElem_toArray, List.getElem_cons_zero, List.getElem_cons_succ, List.setIfInBounds_toArray, List.set_cons_zero, List.set_cons_succ])
    refine wpAnyH_take (i := 6) (v := ?_) rfl (by kernel_rfl) (by kernel_rfl) (by kernel_rfl) (fun _ _ _ h => h) (Or.inl ⟨by rfl, ?_⟩) (by assumption) ?_
    rotate_left
    · (intro w hSw; (try dsimp only at hSw); go_simp; (try with_reducible rfl))
    (try simp only [Act.put, List.getElem_toArray, List.getElem_cons_zero, List.getElem_cons_succ, List.setIfInBounds_toArray, List.set_cons_zero, List.set_cons_succ])
    refine wpAnyH_take (i := 7) (v := ?_) rfl (by kernel_rfl) (by kernel_rfl) (by kernel_rfl) (fun _ _ _ h => h) (Or.inl ⟨by rfl, ?_⟩) (by assumption) ?_
    rotate_left
    · (intro w hSw; (try dsimp only at hSw); go_simp; (try with_reducible rfl))
    (try simp only [Act.put, List.getElem_toArray, List.getElem_cons_zero, List.getElem_cons_succ, List.setIfInBounds_toArray, List.set_cons_zero, List.set_cons_succ])
    refine wpAnyH_take (i := 8) (v := ?_) rfl (by kernel_rfl) (by kernel_rfl) (by kernel_rfl) (fun _ _ _ h => h) (Or.inl ⟨by rfl, ?_⟩) (by assumption) ?_
    rotate_left
    · (intro w hSw; (try dsimp only at hSw); go_simp; (try with_reducible rfl))
    (try simp only [Act.put, List.getElem_toArray, List.getElem_cons_zero, List.getElem_cons_succ, List.setIfInBounds_toArray, List.set_cons_zero, List.set_cons_succ])
    refine wpAnyH_take (i := 9) (v := ?_) rfl (by kernel_rfl) (by kernel_rfl) (by kernel_rfl) (fun _ _ _ h => h) (Or.inl ⟨by rfl, ?_⟩) (by assumption) ?_
    rotate_left
    · (intro w hSw; (try dsimp only at hSw); go_simp; (try with_reducible rfl))
    (try simp only [Act.put, List.getElem_toArray, List.getElem_cons_zero, List.getElem_cons_succ, List.setIfInBounds_toArray, List.set_cons_zero, List.set_cons_succ])
    refine wpAnyH_take (i := 10) (v := ?_) rfl (by kernel_rfl) (by kernel_rfl) (by kernel_rfl) (fun _ _ _ h => h) (Or.inl ⟨by rfl, ?_⟩) (by assumption) ?_
    rotate_left
    · (intro w hSw; (try dsimp only at hSw); go_simp; (try with_reducible rfl))
    (try simp only [Act.put, List.getElem_toArray, List.getElem_cons_zero, List.getElem_cons_succ, List.setIfInBounds_toArray, List.set_cons_zero, List.set_cons_succ])
    refine wpAnyH_take (i := 11) (v := ?_) rfl (by kernel_rfl) (by kernel_rfl) (by kernel_rfl) (fun _ _ _ h => h) (Or.inl ⟨by rfl, ?_⟩) (by assumption) ?_
    rotate_left
    · (intro w hSw; (try dsimp only at hSw); go_simp; (try with_reducible rfl))
    (try simp only [Act.put, List.getElem_toArray, List.getElem_cons_zero, List.getElem_cons_succ, List.setIfInBounds_toArray, List.set_cons_zero, List.set_cons_succ])
    refine wpAnyH_take (i := 12) (v := ?_) rfl (by kernel_rfl) (by kernel_rfl) (by kernel_rfl) (fun _ _ _ h => h) (Or.inl ⟨by rfl, ?_⟩) (by assumption) ?_
    rotate_left
    · (intro w hSw; (try dsimp only at hSw); go_simp; (try with_reducible rfl))
    (try simp only [Act.put, List.getElem_toArray, List.getElem_cons_zero, List.getElem_cons_succ, List.setIfInBounds_toArray, List.set_cons_zero, List.set_cons_succ])
    refine wpAnyH_take (i := 13) (v := ?_) rfl (by kernel_rfl) (by kernel_rfl) (by kernel_rfl) (fun _ _ _ h => h) (Or.inl ⟨by rfl, ?_⟩) (by assumption) ?_
    rotate_left
    · (intro w hSw; (try dsimp only at hSw); go_simp; (try with_reducible rfl))
    (try simp only [Act.put, List.getElem_toArray, List.getElem_cons_zero, List.getElem_cons_succ, List.setIfInBounds_toArray, List.set_cons_zero, List.set_cons_succ])
    refine wpAnyH_take (i := 14) (v := ?_) rfl (by kernel_rfl) (by kernel_rfl) (by kernel_rfl) (fun _ _ _ h => h) (Or.inl ⟨by rfl, ?_⟩) (by assumption) ?_
    rotate_left
    · (intro w hSw; (try dsimp only at hSw); go_simp; (try with_reducible rfl))
    (try simp only [Act.put, List.getElem_toArray, List.getElem_cons_zero, List.getElem_cons_succ, List.setIfInBounds_toArray, List.set_cons_zero, List.set_cons_succ])
    refine wpAnyH_take (i := 15) (v := ?_) rfl (by kernel_rfl) (by kernel_rfl) (by kernel_rfl) (fun _ _ _ h => h) (Or.inl ⟨by rfl, ?_⟩) (by assumption) ?_
    rotate_left
    · (intro w hSw; (try dsimp only at hSw); go_simp; (try with_reducible rfl))
    (try simp only [Act.put, List.getElem_toArray, List.getElem_cons_zero, List.getElem_cons_succ, List.setIfInBounds_toArray, List.set_cons_zero, List.set_cons_succ])
    refine wpAnyH_take (i := 16) (v := ?_) rfl (by kernel_rfl) (by kernel_rfl) (by kernel_rfl) (fun _ _ _ h => h) (Or.inl ⟨by rfl, ?_⟩) (by assumption) ?_
    rotate_left
    · (intro w hSw; (try dsimp only at hSw); go_simp; (try with_reducible rfl))
    (try simp only [Act.put, List.getElem_toArray, List.getElem_cons_zero, List.getElem_cons_succ, List.setIfInBounds_toArray, List.set_cons_zero, List.set_cons_succ])
    refine wpAnyH_take (i := 17) (v := ?_) rfl (by kernel_rfl) (by kernel_rfl) (by kernel_rfl) (fun _ _ _ h => h) (Or.inl ⟨by rfl, ?_⟩) (by assumption) ?_
    rotate_left
    · (intro w hSw; (try dsimp only at hSw); go_simp; (try with_reducible rfl))
    (try simp only [Act.put, List.getElem_toArray, List.getElem_cons_zero, List.getElem_cons_succ, List.setIfInBounds_toArray, List.set_cons_zero, List.set_cons_succ])
    refine wpAnyH_take (i := 18) (v := ?_) rfl (by kernel_rfl) (by kernel_rfl) (by kernel_rfl) (fun _ _ _ h => h) (Or.inl ⟨by rfl, ?_⟩) (by assumption) ?_
    rotate_left
    · (intro w hSw; (try dsimp only at hSw); go_simp; (try with_reducible rfl))
    (try simp only [Act.put, List.getElem_toArray, List.getElem_cons_zero, List.getElem_cons_succ, List.setIfInBounds_toArray, List.set_cons_zero, List.set_cons_succ])
    refine wpAnyH_take (i := 19) (v := ?_) rfl (by kernel_rfl) (by kernel_rfl) (by kernel_rfl) (fun _ _ _ h => h) (Or.inl ⟨by rfl, ?_⟩) (by assumption) ?_
    rotate_left
    · (intro w hSw; (try dsimp only at hSw); go_simp; (try with_reducible rfl))
    (try simp only [Act.put, List.getElem_toArray, List.getElem_cons_zero, List.getElem_cons_succ, List.setIfInBounds_toArray, List.set_cons_zero, List.set_cons_succ])
    refine wpAnyH_ready (rs := [20]) (by kernel_rfl) (by simp) ?_
    refine AllReadyH.cons rfl (fun K hK => ?_) AllReadyH.nil
    simp only [List.getElem_toArray, List.getElem_cons_zero, List.getElem_cons_succ]
    go_simp
    (go_at_call 14; (with_reducible refine (less_lit y z hy hz true hyz _).mono ?_); rintro e w5 ⟨rfl, k5⟩; have hx5 : HasA w5 _ x := HasA.below hx4.drew k5 hx4.lt; have hy5 : HasA w5 _ y := HasA.below hy4.drew k5 hy4.lt; have hz5 : HasA w5 _ z := HasA.below hz4.drew k5 hz4.lt; have S5 : w5.cell? ⟨w.heap.size, 0, none⟩ = some (.int .u8 (x 0)) ∧ w5.cell? ⟨w.heap.size, 1, none⟩ = some (.int .u8 (x 1)) ∧ w5.cell? ⟨w.heap.size, 2, none⟩ = some (.int .u8 (x 2)) ∧ w5.cell? ⟨w.heap.size, 3, none⟩ = some (.int .u8 (x 3)) ∧ w5.cell? ⟨w.heap.size, 4, none⟩ = some (.int .u8 (x 4)) ∧ w5.cell? ⟨w.heap.size, 5, none⟩ = some (.int .u8 (x 5)) ∧ w5.cell? ⟨w.heap.size + 1, 0, none⟩ = some (.int .u8 (y 0)) ∧ w5.cell? ⟨w.heap.size + 1, 1, none⟩ = some (.int .u8 (y 1)) ∧ w5.cell? ⟨w.heap.size + 1, 2, none⟩ = some (.int .u8 (y 2)) ∧ w5.cell? ⟨w.heap.size + 1, 3, none⟩ = some (.int .u8 (y 3)) ∧ w5.cell? ⟨w.heap.size + 1, 4, none⟩ = some (.int .u8 (y 4)) ∧ w5.cell? ⟨w.heap.size + 1, 5, none⟩ = some (.int .u8 (y 5)) ∧ w5.cell? ⟨w.heap.size + 2, 0, none⟩ = some (.int .u8 (z 0)) ∧ w5.cell? ⟨w.heap.size + 2, 1, none⟩ = some (.int .u8 (z 1)) ∧ w5.cell? ⟨w.heap.size + 2, 2, none⟩ = some (.int .u8 (z 2)) ∧ w5.cell? ⟨w.heap.size + 2, 3, none⟩ = some (.int .u8 (z 3)) ∧ w5.cell? ⟨w.heap.size + 2, 4, none⟩ = some (.int .u8 (z 4)) ∧ w5.cell? ⟨w.heap.size + 2, 5, none⟩ = some (.int .u8 (z 5)) := ⟨hx5.c 0 (by omega), hx5.c 1 (by omega), hx5.c 2 (by omega), hx5.c 3 (by omega), hx5.c 4 (by omega), hx5.c 5 (by omega), hy5.c 0 (by omega), hy5.c 1 (by omega), hy5.c 2 (by omega), hy5.c 3 (by omega), hy5.c 4 (by omega), hy5.c 5 (by omega), hz5.c 0 (by omega), hz5.c 1 (by omega), hz5.c 2 (by omega), hz5.c 3 (by omega), hz5.c 4 (by omega), hz5.c 5 (by omega)⟩)
    refine hK.out _ _ ?_ (fun hHeld => ?_)
    · exact S5
    clear hK K
    (try simp only [Act.put, List.getElem_toArray, List.getElem_cons_zero, List.getElem_cons_succ, List.setIfInBounds_toArray, List.set_cons_zero, List.set_cons_succ])
    refine wpAnyH_take (i := 21) (v := ?_) rfl (by kernel_rfl) (by kernel_rfl) (by kernel_rfl) (fun _ _ _ h => h) (Or.inl ⟨by rfl, ?_⟩) (by assumption) ?_
    rotate_left
    · (intro w hSw; (try dsimp only at hSw); go_simp; (try with_reducible rfl))
    (try simp only [Act.put, List.getElem_toArray, List.getElem_cons_zero, List.getElem_cons_succ, List.setIfInBounds_toArray, List.set_cons_zero, List.set_cons_succ])
    refine wpAnyH_take (i := 22) (v := ?_) rfl (by kernel_rfl) (by kernel_rfl) (by kernel_rfl) (fun _ _ _ h => h) (Or.inl ⟨by rfl, ?_⟩) (by assumption) ?_
    rotate_left
    · (intro w hSw; (try dsimp only at hSw); go_simp; (try with_reducible rfl))
    (try simp only [Act.put, List.getElem_toArray, List.getElem_cons_zero, List.getElem_cons_succ, List.setIfInBounds_toArray, List.set_cons_zero, List.set_cons_succ])
    refine wpAnyH_take (i := 23) (v := ?_) rfl (by kernel_rfl) (by kernel_rfl) (by kernel_rfl) (fun _ _ _ h => h) (Or.inl ⟨by rfl, ?_⟩) (by assumption) ?_
    rotate_left
    · (intro w hSw; (try dsimp only at hSw); go_simp; (try with_reducible rfl))
    (try simp only [Act.put, List.getElem_toArray, List.getElem_cons_zero, List.getElem_cons_succ, List.setIfInBounds_toArray, List.set_cons_zero, List.set_cons_succ])
    refine wpAnyH_take (i := 24) (v := ?_) rfl (by kernel_rfl) (by kernel_rfl) (by kernel_rfl) (fun _ _ _ h => h) (Or.inl ⟨by rfl, ?_⟩) (by assumption) ?_
    rotate_left
    · (intro w hSw; (try dsimp only at hSw); go_simp; (try with_reducible rfl))
    (try simp only [Act.put, List.getElem_toArray, List.getElem_cons_zero, List.getElem_cons_succ, List.setIfInBounds_toArray, List.set_cons_zero, List.set_cons_succ])
    refine wpAnyH_take (i := 25) (v := ?_) rfl (by kernel_rfl) (by kernel_rfl) (by kernel_rfl) (fun _ _ _ h => h) (Or.inl ⟨by rfl, ?_⟩) (by assumption) ?_
    rotate_left
    · (intro w hSw; (try dsimp only at hSw); go_simp; (try with_reducible rfl))
    (try simp only [Act.put, List.getElem_toArray, List.getElem_cons_zero, List.getElem_cons_succ, List.setIfInBounds_toArray, List.set_cons_zero, List.set_cons_succ])
    refine wpAnyH_ready (rs := [26]) (by kernel_rfl) (by simp) ?_
    refine AllReadyH.cons rfl (fun K hK => ?_) AllReadyH.nil
    simp only [List.getElem_toArray, List.getElem_cons_zero, List.getElem_cons_succ]
    go_simp
    (go_at_call 14; (with_reducible refine (less_lit x z hx hz true hxz _).mono ?_); rintro e w6 ⟨rfl, k6⟩; have hx6 : HasA w6 _ x := HasA.below hx5 k6 hx5.lt; have hy6 : HasA w6 _ y := HasA.below hy5 k6 hy5.lt; have hz6 : HasA w6 _ z := HasA.below hz5 k6 hz5.lt; have S6 : w6.cell? ⟨w.heap.size, 0, none⟩ = some (.int .u8 (x 0)) ∧ w6.cell? ⟨w.heap.size, 1, none⟩ = some (.int .u8 (x 1)) ∧ w6.cell? ⟨w.heap.size, 2, none⟩ = some (.int .u8 (x 2)) ∧ w6.cell? ⟨w.heap.size, 3, none⟩ = some (.int .u8 (x 3)) ∧ w6.cell? ⟨w.heap.size, 4, none⟩ = some (.int .u8 (x 4)) ∧ w6.cell? ⟨w.heap.size, 5, none⟩ = some (.int .u8 (x 5)) ∧ w6.cell? ⟨w.heap.size + 1, 0, none⟩ = some (.int .u8 (y 0)) ∧ w6.cell? ⟨w.heap.size + 1, 1, none⟩ = some (.int .u8 (y 1)) ∧ w6.cell? ⟨w.heap.size + 1, 2, none⟩ = some (.int .u8 (y 2)) ∧ w6.cell? ⟨w.heap.size + 1, 3, none⟩ = some (.int .u8 (y 3)) ∧ w6.cell? ⟨w.heap.size + 1, 4, none⟩ = some (.int .u8 (y 4)) ∧ w6.cell? ⟨w.heap.size + 1, 5, none⟩ = some (.int .u8 (y 5)) ∧ w6.cell? ⟨w.heap.size + 2, 0, none⟩ = some (.int .u8 (z 0)) ∧ w6.cell? ⟨w.heap.size + 2, 1, none⟩ = some (.int .u8 (z 1)) ∧ w6.cell? ⟨w.heap.size + 2, 2, none⟩ = some (.int .u8 (z 2)) ∧ w6.cell? ⟨w.heap.size + 2, 3, none⟩ = some (.int .u8 (z 3)) ∧ w6.cell? ⟨w.heap.size + 2, 4, none⟩ = some (.int .u8 (z 4)) ∧ w6.cell? ⟨w.heap.size + 2, 5, none⟩ = some (.int .u8 (z 5)) := ⟨hx6.c 0 (by omega), hx6.c 1 (by omega), hx6.c 2 (by omega), hx6.c 3 (by omega), hx6.c 4 (by omega), hx6.c 5 (by omega), hy6.c 0 (by omega), hy6.c 1 (by omega), hy6.c 2 (by omega), hy6.c 3 (by omega), hy6.c 4 (by omega), hy6.c 5 (by omega), hz6.c 0 (by omega), hz6.c 1 (by omega), hz6.c 2 (by omega), hz6.c 3 (by omega), hz6.c 4 (by omega), hz6.c 5 (by omega)⟩)
    refine hK.out _ _ ?_ (fun hHeld => ?_)
    · exact S6
    clear hK K
    (try simp only [Act.put, List.getElem_toArray, List.getElem_cons_zero, List.getElem_cons_succ, List.setIfInBounds_toArray, List.set_cons_zero, List.set_cons_succ])
    refine wpAnyH_take (i := 27) (v := ?_) rfl (by kernel_rfl) (by kernel_rfl) (by kernel_rfl) (fun _ _ _ h => h) (Or.inl ⟨by rfl, ?_⟩) (by assumption) ?_
    rotate_left
    · (intro w hSw; (try dsimp only at hSw); go_simp; (try with_reducible rfl))
    (try simp only [Act.put, List.getElem_toArray, List.getElem_cons_zero, List.getElem_cons_succ, List.setIfInBounds_toArray, List.set_cons_zero, List.set_cons_succ])
    refine wpAnyH_take (i := 28) (v := ?_) rfl (by kernel_rfl) (by kernel_rfl) (by kernel_rfl) (fun _ _ _ h => h) (Or.inl ⟨by rfl, ?_⟩) (by assumption) ?_
    rotate_left
    · (intro w hSw; (try dsimp only at hSw); go_simp; (try with_reducible rfl))
    (try simp only [Act.put, List.getElem_toArray, List.getElem_cons_zero, List.getElem_cons_succ, List.setIfInBounds_toArray, List.set_cons_zero, List.set_cons_succ])
    refine wpAnyH_take (i := 29) (v := ?_) rfl (by kernel_rfl) (by kernel_rfl) (by kernel_rfl) (fun _ _ _ h => h) (Or.inl ⟨by rfl, ?_⟩) (by assumption) ?_
    rotate_left
    · (intro w hSw; (try dsimp only at hSw); go_simp; (try with_reducible rfl))
    (try simp only [Act.put, List.getElem_toArray, List.getElem_cons_zero, List.getElem_cons_succ, List.setIfInBounds_toArray, List.set_cons_zero, List.set_cons_succ])
    refine wpAnyH_take (i := 30) (v := ?_) rfl (by kernel_rfl) (by kernel_rfl) (by kernel_rfl) (fun _ _ _ h => h) (Or.inl ⟨by rfl, ?_⟩) (by assumption) ?_
    rotate_left
    · (intro w hSw; (try dsimp only at hSw); go_simp; (try with_reducible rfl))
    (try simp only [Act.put, List.getElem_toArray, List.getElem_cons_zero, List.getElem_cons_succ, List.setIfInBounds_toArray, List.set_cons_zero, List.set_cons_succ])
    refine wpAnyH_take (i := 31) (v := ?_) rfl (by kernel_rfl) (by kernel_rfl) (by kernel_rfl) (fun _ _ _ h => h) (Or.inl ⟨by rfl, ?_⟩) (by assumption) ?_
    rotate_left
    · (intro w hSw; (try dsimp only at hSw); go_simp; (try with_reducible rfl))
    (try simp only [Act.put, List.getElem_toArray, List.getElem_cons_zero, List.getElem_cons_succ, List.setIfInBounds_toArray, List.set_cons_zero, List.set_cons_succ])
    refine wpAnyH_take (i := 33) (v := ?_) rfl (by kernel_rfl) (by kernel_rfl) (by kernel_rfl) (fun _ _ _ h => h) (Or.inl ⟨by rfl, ?_⟩) (by assumption) ?_
    rotate_left
    · (intro w hSw; (try dsimp only at hSw); go_simp; (try with_reducible rfl))
    (try simp only [Act.put, List.getElem_toArray, List.getElem_cons_zero, List.getElem_cons_succ, List.setIfInBounds_toArray, List.set_cons_zero, List.set_cons_succ])
    refine wpAnyH_ready (rs := [32]) (by kernel_rfl) (by simp) ?_
    refine AllReadyH.cons rfl (fun K hK => ?_) AllReadyH.nil
    simp only [List.getElem_toArray, List.getElem_cons_zero, List.getElem_cons_succ]
    go_simp
    (go_at_call 9; (with_reducible refine (text_lit x hx _).mono ?_); rintro e w7 ⟨rfl, k7⟩; have hx7 : HasA w7 _ x := HasA.below hx6 k7 hx6.lt; have hy7 : HasA w7 _ y := HasA.below hy6 k7 hy6.lt; have hz7 : HasA w7 _ z := HasA.below hz6 k7 hz6.lt; have S7 : w7.cell? ⟨w.heap.size, 0, none⟩ = some (.int .u8 (x 0)) ∧ w7.cell? ⟨w.heap.size, 1, none⟩ = some (.int .u8 (x 1)) ∧ w7.cell? ⟨w.heap.size, 2, none⟩ = some (.int .u8 (x 2)) ∧ w7.cell? ⟨w.heap.size, 3, none⟩ = some (.int .u8 (x 3)) ∧ w7.cell? ⟨w.heap.size, 4, none⟩ = some (.int .u8 (x 4)) ∧ w7.cell? ⟨w.heap.size, 5, none⟩ = some (.int .u8 (x 5)) ∧ w7.cell? ⟨w.heap.size + 1, 0, none⟩ = some (.int .u8 (y 0)) ∧ w7.cell? ⟨w.heap.size + 1, 1, none⟩ = some (.int .u8 (y 1)) ∧ w7.cell? ⟨w.heap.size + 1, 2, none⟩ = some (.int .u8 (y 2)) ∧ w7.cell? ⟨w.heap.size + 1, 3, none⟩ = some (.int .u8 (y 3)) ∧ w7.cell? ⟨w.heap.size + 1, 4, none⟩ = some (.int .u8 (y 4)) ∧ w7.cell? ⟨w.heap.size + 1, 5, none⟩ = some (.int .u8 (y 5)) ∧ w7.cell? ⟨w.heap.size + 2, 0, none⟩ = some (.int .u8 (z 0)) ∧ w7.cell? ⟨w.heap.size + 2, 1, none⟩ = some (.int .u8 (z 1)) ∧ w7.cell? ⟨w.heap.size + 2, 2, none⟩ = some (.int .u8 (z 2)) ∧ w7.cell? ⟨w.heap.size + 2, 3, none⟩ = some (.int .u8 (z 3)) ∧ w7.cell? ⟨w.heap.size + 2, 4, none⟩ = some (.int .u8 (z 4)) ∧ w7.cell? ⟨w.heap.size + 2, 5, none⟩ = some (.int .u8 (z 5)) := ⟨hx7.c 0 (by omega), hx7.c 1 (by omega), hx7.c 2 (by omega), hx7.c 3 (by omega), hx7.c 4 (by omega), hx7.c 5 (by omega), hy7.c 0 (by omega), hy7.c 1 (by omega), hy7.c 2 (by omega), hy7.c 3 (by omega), hy7.c 4 (by omega), hy7.c 5 (by omega), hz7.c 0 (by omega), hz7.c 1 (by omega), hz7.c 2 (by omega), hz7.c 3 (by omega), hz7.c 4 (by omega), hz7.c 5 (by omega)⟩)
    refine hK.out _ _ ?_ (fun hHeld => ?_)
    · exact S7
    clear hK K
    (try simp only [Act.put, List.getElem_toArray, List.getElem_cons_zero, List.getElem_cons_succ, List.setIfInBounds_toArray, List.set_cons_zero, List.set_cons_succ])
    refine wpAnyH_ready (rs := [34]) (by kernel_rfl) (by simp) ?_
    refine AllReadyH.cons rfl (fun K hK => ?_) AllReadyH.nil
    simp only [List.getElem_toArray, List.getElem_cons_zero, List.getElem_cons_succ]
    go_simp
    (go_at_call 9; (with_reducible refine (text_lit y hy _).mono ?_); rintro e w8 ⟨rfl, k8⟩; have hx8 : HasA w8 _ x := HasA.below hx7 k8 hx7.lt; have hy8 : HasA w8 _ y := HasA.below hy7 k8 hy7.lt; have hz8 : HasA w8 _ z := HasA.below hz7 k8 hz7.lt; have S8 : w8.cell? ⟨w.heap.size, 0, none⟩ = some (.int .u8 (x 0)) ∧ w8.cell? ⟨w.heap.size, 1, none⟩ = some (.int .u8 (x 1)) ∧ w8.cell? ⟨w.heap.size, 2, none⟩ = some (.int .u8 (x 2)) ∧ w8.cell? ⟨w.heap.size, 3, none⟩ = some (.int .u8 (x 3)) ∧ w8.cell? ⟨w.heap.size, 4, none⟩ = some (.int .u8 (x 4)) ∧ w8.cell? ⟨w.heap.size, 5, none⟩ = some (.int .u8 (x 5)) ∧ w8.cell? ⟨w.heap.size + 1, 0, none⟩ = some (.int .u8 (y 0)) ∧ w8.cell? ⟨w.heap.size + 1, 1, none⟩ = some (.int .u8 (y 1)) ∧ w8.cell? ⟨w.heap.size + 1, 2, none⟩ = some (.int .u8 (y 2)) ∧ w8.cell? ⟨w.heap.size + 1, 3, none⟩ = some (.int .u8 (y 3)) ∧ w8.cell? ⟨w.heap.size + 1, 4, none⟩ = some (.int .u8 (y 4)) ∧ w8.cell? ⟨w.heap.size + 1, 5, none⟩ = some (.int .u8 (y 5)) ∧ w8.cell? ⟨w.heap.size + 2, 0, none⟩ = some (.int .u8 (z 0)) ∧ w8.cell? ⟨w.heap.size + 2, 1, none⟩ = some (.int .u8 (z 1)) ∧ w8.cell? ⟨w.heap.size + 2, 2, none⟩ = some (.int .u8 (z 2)) ∧ w8.cell? ⟨w.heap.size + 2, 3, none⟩ = some (.int .u8 (z 3)) ∧ w8.cell? ⟨w.heap.size + 2, 4, none⟩ = some (.int .u8 (z 4)) ∧ w8.cell? ⟨w.heap.size + 2, 5, none⟩ = some (.int .u8 (z 5)) := ⟨hx8.c 0 (by omega), hx8.c 1 (by omega), hx8.c 2 (by omega), hx8.c 3 (by omega), hx8.c 4 (by omega), hx8.c 5 (by omega), hy8.c 0 (by omega), hy8.c 1 (by omega), hy8.c 2 (by omega), hy8.c 3 (by omega), hy8.c 4 (by omega), hy8.c 5 (by omega), hz8.c 0 (by omega), hz8.c 1 (by omega), hz8.c 2 (by omega), hz8.c 3 (by omega), hz8.c 4 (by omega), hz8.c 5 (by omega)⟩)
    refine hK.out _ _ ?_ (fun hHeld => ?_)
    · exact S8
    clear hK K
    (try simp only [Act.put, List.getElem_toArray, List.getElem_cons_zero, List.getElem_cons_succ, List.setIfInBounds_toArray, List.set_cons_zero, List.set_cons_succ])
    refine wpAnyH_take (i := 35) (v := ?_) rfl (by kernel_rfl) (by kernel_rfl) (by kernel_rfl) (fun _ _ _ h => h) (Or.inl ⟨by rfl, ?_⟩) (by assumption) ?_
    rotate_left
    · (intro w hSw; (try dsimp only at hSw); go_simp; (try with_reducible rfl))
    (try simp only [Act.put, List.getElem_toArray, List.getElem_cons_zero, List.getElem_cons_succ, List.setIfInBounds_toArray, List.set_cons_zero, List.set_cons_succ])
    refine wpAnyH_take (i := 36) (v := ?_) rfl (by kernel_rfl) (by kernel_rfl) (by kernel_rfl) (fun _ _ _ h => h) (Or.inl ⟨by rfl, ?_⟩) (by assumption) ?_
    rotate_left
    · (intro w hSw; (try dsimp only at hSw); go_simp; (try with_reducible rfl))
    (try simp only [Act.put, List.getElem_toArray, List.getElem_cons_zero, List.getElem_cons_succ, List.setIfInBounds_toArray, List.set_cons_zero, List.set_cons_succ])
    refine wpAnyH_take (i := 37) (v := ?_) rfl (by kernel_rfl) (by kernel_rfl) (by kernel_rfl) (fun _ _ _ h => h) (Or.inl ⟨by rfl, ?_⟩) (by assumption) ?_
    rotate_left
    · (intro w hSw; (try dsimp only at hSw); go_simp; (try with_reducible rfl))
    (try simp only [Act.put, List.getElem_toArray, List.getElem_cons_zero, List.getElem_cons_succ, List.setIfInBounds_toArray, List.set_cons_zero, List.set_cons_succ])
    refine wpAnyH_take (i := 38) (v := ?_) rfl (by kernel_rfl) (by kernel_rfl) (by kernel_rfl) (fun _ _ _ h => h) (Or.inl ⟨by rfl, ?_⟩) (by assumption) ?_
    rotate_left
    · (intro w hSw; (try dsimp only at hSw); go_simp; (try with_reducible rfl))
    (try simp only [Act.put, List.getElem_toArray, List.getElem_cons_zero, List.getElem_cons_succ, List.setIfInBounds_toArray, List.set_cons_zero, List.set_cons_succ])
    refine wpAnyH_done (by kernel_rfl) ?_ _
    refine NoPanic.normal ?_
    go_wp2
    go_ret
    exact ⟨rfl, below_then (below_then (below_then (below_then (below_then (below_then (hb2.drew) k3) k4.drew) k5) k6) k7) k8⟩)

theorem walk (x : Nat → Nat) (hx : ∀ i, x i < 256) (y : Nat → Nat) (hy : ∀ i, y i < 256) (z : Nat → Nat) (hz : ∀ i, z i < 256) (w : World) :
    Calls Try.prog 5 #[addrV x, addrV y, addrV z] w fun e w' => e = .returned (.bool true) ∧ Below w.heap.size w w' := by
  have hl : (addrL x).length = (addrL y).length := by rw [addrL_length, addrL_length]
  cases hxy : Op.bytesLess (addrL x) (addrL y) with
  | false =>
    cases hyx : Op.bytesLess (addrL y) (addrL x) with
    | false => exact walk_same x y z hx hy hz hxy hyx (decide_eq_true (addrL_inj hx hy (less_total _ _ hl hxy hyx))) w
    | true =>
      refine walk_more x y z hx hy hz hxy hyx (decide_eq_false fun h => ?_) w
      rw [addrL_six h, less_irrefl] at hyx
      cases hyx
  | true =>
    have hyx := less_asymm _ _ hxy
    have hs : decide (six x = six y) = false := decide_eq_false fun h => by
      rw [addrL_six h, less_irrefl] at hxy
      cases hxy
    cases hyz : Op.bytesLess (addrL y) (addrL z) with
    | false => exact walk_less x y z hx hy hz hxy hyx hs hyz w
    | true => exact walk_both x y z hx hy hz hxy hyx hs hyz (less_trans _ _ _ hxy hyz) w
end Go.Proofs.Ytafmkgdpfjimkaa.macOrder
