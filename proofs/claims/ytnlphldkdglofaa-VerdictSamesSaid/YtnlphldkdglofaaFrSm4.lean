/- frame.Same, some of its ways. -/
import Derived.Test.YtnlphldkdglofaaFrSm0
namespace Go.Proofs.Ytnlphldkdglofaa
open Go.RowKit
attribute [local go_sem ↓] Go.wp_at_zero Go.wp_at_succ
set_option linter.unusedSimpArgs false
set_option linter.unusedVariables false

set_option maxHeartbeats 4000000 in
theorem same_5 (f g : Fr) (w : World) (hf : FrIn w f) (hg : FrIn w g) (h1 : eq6 f.d g.d = true) (h2 : eq6 f.s g.s = true) (h3 : tagsEq f.tl g.tl = true) (h4 : same7 f g = true) (h5 : (f.bo.toList == g.bo.toList) = true) :
    Calls Try.prog 9 #[frV f, frV g] w fun e w' => e = .returned (.bool true) ∧ Below w.heap.size w w' := by
  obtain ⟨hF0, hG0, hb0⟩ := both_boxed w f g
  have hI0 := hf.below hb0
  have hJ0 := hg.below hb0
  have e1 : ∀ W, (Op.equalIn 10000 24 (.agg #[.int .u8 (f.d 0), .int .u8 (f.d 1), .int .u8 (f.d 2), .int .u8 (f.d 3), .int .u8 (f.d 4), .int .u8 (f.d 5)]) (.agg #[.int .u8 (g.d 0), .int .u8 (g.d 1), .int .u8 (g.d 2), .int .u8 (g.d 3), .int .u8 (g.d 4), .int .u8 (g.d 5)])).run Try.prog W = .ok true W := fun W => by have h := run_eql_six f.d g.d W; rw [h1] at h; exact h
  have e2 : ∀ W, (Op.equalIn 10000 24 (.agg #[.int .u8 (f.s 0), .int .u8 (f.s 1), .int .u8 (f.s 2), .int .u8 (f.s 3), .int .u8 (f.s 4), .int .u8 (f.s 5)]) (.agg #[.int .u8 (g.s 0), .int .u8 (g.s 1), .int .u8 (g.s 2), .int .u8 (g.s 3), .int .u8 (g.s 4), .int .u8 (g.s 5)])).run Try.prog W = .ok true W := fun W => by have h := run_eql_six f.s g.s W; rw [h2] at h; exact h
  have HE : Hid (∀ W, TagsIn W f.ta f.tl → TagsIn W g.ta g.tl → Calls Try.prog 21 #[.slice f.ta f.tl.length f.tc, .slice g.ta g.tl.length g.tc] W fun e w' => e = .returned (.bool true) ∧ Below W.heap.size W w') := fun W x y => by have h := equal_any f.ta g.ta f.tc g.tc f.tl g.tl W x y hf.few; rw [h3] at h; exact h
  clear h3
  have HF := Lib.hid (numbers_any f)
  have HG := Lib.hid (numbers_any g)
  have e7 : ∀ W, (Op.equalIn 10000 91 (.agg #[.int .i64 f.k, .int .i64 f.t, .int .i64 f.da, .int .i64 f.sa, .int .i64 f.ct, .int .i64 f.ou, .int .i64 f.pi]) (.agg #[.int .i64 g.k, .int .i64 g.t, .int .i64 g.da, .int .i64 g.sa, .int .i64 g.ct, .int .i64 g.ou, .int .i64 g.pi])).run Try.prog W = .ok true W := fun W => by have h := run_eql_seven f g W; rw [h4] at h; exact h
  clear h4
  clear h1 h2 hf hg
  unfold frV frC at *
  go_enter Try.func9, Try.ntmps9
  go_wp2
  generalize (w.alloc (.cells #[.int .u8 (f.d 0), .int .u8 (f.d 1), .int .u8 (f.d 2), .int .u8 (f.d 3), .int .u8 (f.d 4), .int .u8 (f.d 5), .int .u8 (f.s 0), .int .u8 (f.s 1), .int .u8 (f.s 2), .int .u8 (f.s 3), .int .u8 (f.s 4), .int .u8 (f.s 5), .slice f.ta f.tl.length f.tc, .int .i64 f.k, .int .i64 f.t, .int .i64 f.da, .int .i64 f.sa, .int .i64 f.ct, .int .i64 f.ou, .int .i64 f.pi, .string f.bo] 27)).alloc (.cells #[.int .u8 (g.d 0), .int .u8 (g.d 1), .int .u8 (g.d 2), .int .u8 (g.d 3), .int .u8 (g.d 4), .int .u8 (g.d 5), .int .u8 (g.s 0), .int .u8 (g.s 1), .int .u8 (g.s 2), .int .u8 (g.s 3), .int .u8 (g.s 4), .int .u8 (g.s 5), .slice g.ta g.tl.length g.tc, .int .i64 g.k, .int .i64 g.t, .int .i64 g.da, .int .i64 g.sa, .int .i64 g.ct, .int .i64 g.ou, .int .i64 g.pi, .string g.bo] 27) = w1 at *
  have S1 : HasF w1 w.heap.size f ∧ HasF w1 (w.heap.size + 1) g ∧ w1.cell? ⟨w.heap.size, 0, none⟩ = some (.int .u8 (f.d 0)) ∧ w1.cell? ⟨w.heap.size, 1, none⟩ = some (.int .u8 (f.d 1)) ∧ w1.cell? ⟨w.heap.size, 2, none⟩ = some (.int .u8 (f.d 2)) ∧ w1.cell? ⟨w.heap.size, 3, none⟩ = some (.int .u8 (f.d 3)) ∧ w1.cell? ⟨w.heap.size, 4, none⟩ = some (.int .u8 (f.d 4)) ∧ w1.cell? ⟨w.heap.size, 5, none⟩ = some (.int .u8 (f.d 5)) ∧ w1.cell? ⟨w.heap.size, 6, none⟩ = some (.int .u8 (f.s 0)) ∧ w1.cell? ⟨w.heap.size, 7, none⟩ = some (.int .u8 (f.s 1)) ∧ w1.cell? ⟨w.heap.size, 8, none⟩ = some (.int .u8 (f.s 2)) ∧ w1.cell? ⟨w.heap.size, 9, none⟩ = some (.int .u8 (f.s 3)) ∧ w1.cell? ⟨w.heap.size, 10, none⟩ = some (.int .u8 (f.s 4)) ∧ w1.cell? ⟨w.heap.size, 11, none⟩ = some (.int .u8 (f.s 5)) ∧ w1.cell? ⟨w.heap.size, 12, none⟩ = some (.slice f.ta f.tl.length f.tc) ∧ w1.cell? ⟨w.heap.size, 20, none⟩ = some (.string f.bo) ∧ w1.cell? ⟨w.heap.size + 1, 0, none⟩ = some (.int .u8 (g.d 0)) ∧ w1.cell? ⟨w.heap.size + 1, 1, none⟩ = some (.int .u8 (g.d 1)) ∧ w1.cell? ⟨w.heap.size + 1, 2, none⟩ = some (.int .u8 (g.d 2)) ∧ w1.cell? ⟨w.heap.size + 1, 3, none⟩ = some (.int .u8 (g.d 3)) ∧ w1.cell? ⟨w.heap.size + 1, 4, none⟩ = some (.int .u8 (g.d 4)) ∧ w1.cell? ⟨w.heap.size + 1, 5, none⟩ = some (.int .u8 (g.d 5)) ∧ w1.cell? ⟨w.heap.size + 1, 6, none⟩ = some (.int .u8 (g.s 0)) ∧ w1.cell? ⟨w.heap.size + 1, 7, none⟩ = some (.int .u8 (g.s 1)) ∧ w1.cell? ⟨w.heap.size + 1, 8, none⟩ = some (.int .u8 (g.s 2)) ∧ w1.cell? ⟨w.heap.size + 1, 9, none⟩ = some (.int .u8 (g.s 3)) ∧ w1.cell? ⟨w.heap.size + 1, 10, none⟩ = some (.int .u8 (g.s 4)) ∧ w1.cell? ⟨w.heap.size + 1, 11, none⟩ = some (.int .u8 (g.s 5)) ∧ w1.cell? ⟨w.heap.size + 1, 12, none⟩ = some (.slice g.ta g.tl.length g.tc) ∧ w1.cell? ⟨w.heap.size + 1, 20, none⟩ = some (.string g.bo) := ⟨hF0, hG0, (hF0.c 0).trans rfl, (hF0.c 1).trans rfl, (hF0.c 2).trans rfl, (hF0.c 3).trans rfl, (hF0.c 4).trans rfl, (hF0.c 5).trans rfl, (hF0.c 6).trans rfl, (hF0.c 7).trans rfl, (hF0.c 8).trans rfl, (hF0.c 9).trans rfl, (hF0.c 10).trans rfl, (hF0.c 11).trans rfl, (hF0.c 12).trans rfl, (hF0.c 20).trans rfl, (hG0.c 0).trans rfl, (hG0.c 1).trans rfl, (hG0.c 2).trans rfl, (hG0.c 3).trans rfl, (hG0.c 4).trans rfl, (hG0.c 5).trans rfl, (hG0.c 6).trans rfl, (hG0.c 7).trans rfl, (hG0.c 8).trans rfl, (hG0.c 9).trans rfl, (hG0.c 10).trans rfl, (hG0.c 11).trans rfl, (hG0.c 12).trans rfl, (hG0.c 20).trans rfl⟩
  refine wp_region_noPanic ?_
  refine wp_region_held_drew (S := (fun w' => HasF w' w.heap.size f ∧ HasF w' (w.heap.size + 1) g ∧ w'.cell? ⟨w.heap.size, 0, none⟩ = some (.int .u8 (f.d 0)) ∧ w'.cell? ⟨w.heap.size, 1, none⟩ = some (.int .u8 (f.d 1)) ∧ w'.cell? ⟨w.heap.size, 2, none⟩ = some (.int .u8 (f.d 2)) ∧ w'.cell? ⟨w.heap.size, 3, none⟩ = some (.int .u8 (f.d 3)) ∧ w'.cell? ⟨w.heap.size, 4, none⟩ = some (.int .u8 (f.d 4)) ∧ w'.cell? ⟨w.heap.size, 5, none⟩ = some (.int .u8 (f.d 5)) ∧ w'.cell? ⟨w.heap.size, 6, none⟩ = some (.int .u8 (f.s 0)) ∧ w'.cell? ⟨w.heap.size, 7, none⟩ = some (.int .u8 (f.s 1)) ∧ w'.cell? ⟨w.heap.size, 8, none⟩ = some (.int .u8 (f.s 2)) ∧ w'.cell? ⟨w.heap.size, 9, none⟩ = some (.int .u8 (f.s 3)) ∧ w'.cell? ⟨w.heap.size, 10, none⟩ = some (.int .u8 (f.s 4)) ∧ w'.cell? ⟨w.heap.size, 11, none⟩ = some (.int .u8 (f.s 5)) ∧ w'.cell? ⟨w.heap.size, 12, none⟩ = some (.slice f.ta f.tl.length f.tc) ∧ w'.cell? ⟨w.heap.size, 20, none⟩ = some (.string f.bo) ∧ w'.cell? ⟨w.heap.size + 1, 0, none⟩ = some (.int .u8 (g.d 0)) ∧ w'.cell? ⟨w.heap.size + 1, 1, none⟩ = some (.int .u8 (g.d 1)) ∧ w'.cell? ⟨w.heap.size + 1, 2, none⟩ = some (.int .u8 (g.d 2)) ∧ w'.cell? ⟨w.heap.size + 1, 3, none⟩ = some (.int .u8 (g.d 3)) ∧ w'.cell? ⟨w.heap.size + 1, 4, none⟩ = some (.int .u8 (g.d 4)) ∧ w'.cell? ⟨w.heap.size + 1, 5, none⟩ = some (.int .u8 (g.d 5)) ∧ w'.cell? ⟨w.heap.size + 1, 6, none⟩ = some (.int .u8 (g.s 0)) ∧ w'.cell? ⟨w.heap.size + 1, 7, none⟩ = some (.int .u8 (g.s 1)) ∧ w'.cell? ⟨w.heap.size + 1, 8, none⟩ = some (.int .u8 (g.s 2)) ∧ w'.cell? ⟨w.heap.size + 1, 9, none⟩ = some (.int .u8 (g.s 3)) ∧ w'.cell? ⟨w.heap.size + 1, 10, none⟩ = some (.int .u8 (g.s 4)) ∧ w'.cell? ⟨w.heap.size + 1, 11, none⟩ = some (.int .u8 (g.s 5)) ∧ w'.cell? ⟨w.heap.size + 1, 12, none⟩ = some (.slice g.ta g.tl.length g.tc) ∧ w'.cell? ⟨w.heap.size + 1, 20, none⟩ = some (.string g.bo))) (by kernel_rfl) ?_ (fun hHeld => ?_)
  · exact S1
  refine wpAnyH_take (i := 0) (v := ?_) rfl (by kernel_rfl) (by kernel_rfl) (by kernel_rfl) (fun _ _ _ h => h) (Or.inl ⟨by rfl, ?_⟩) (by assumption) ?_
  rotate_left
  · (intro w hSw; (try dsimp only at hSw); go_simp; (try with_reducible rfl))
  (try simp only [Act.put, List.getElem_toArray, List.getElem_cons_zero, List.getElem_cons_succ, List.setIfInBounds_toArray, List.set_cons_zero, List.set_cons_succ])
  refine wpAnyH_take (i := 1) (v := ?_) rfl (by kernel_rfl) (by kernel_rfl) (by kernel_rfl) (fun _ _ _ h => h) (Or.inl ⟨by rfl, ?_⟩) (by assumption) ?_
  rotate_left
  · (intro w hSw; (try dsimp only at hSw); go_simp; (try with_reducible rfl))
  (try simp only [Act.put, List.getElem_toArray, List.getElem_cons_zero, List.getElem_cons_succ, List.setIfInBounds_toArray, List.set_cons_zero, List.set_cons_succ])
  refine wpAnyH_take (i := 2) (v := ?_) rfl (by kernel_rfl) (by kernel_rfl) (by kernel_rfl) (fun _ _ _ h => h) (Or.inl ⟨by rfl, ?_⟩) (by assumption) ?_
  rotate_left
  · (intro w hSw; (try dsimp only at hSw); go_simp; (try with_reducible rfl))
  (try simp only [Act.put, List.getElem_toArray, List.getElem_cons_zero, List.getElem_cons_succ, List.setIfInBounds_toArray, List.set_cons_zero, List.set_cons_succ])
  refine wpAnyH_take (i := 3) (v := ?_) rfl (by kernel_rfl) (by kernel_rfl) (by kernel_rfl) (fun _ _ _ h => h) (Or.inl ⟨by rfl, ?_⟩) (by assumption) ?_
  rotate_left
  · (intro w hSw; (try dsimp only at hSw); go_simp; (try with_reducible rfl))
  (try simp only [Act.put, List.getElem_toArray, List.getElem_cons_zero, List.getElem_cons_succ, List.setIfInBounds_toArray, List.set_cons_zero, List.set_cons_succ])
  refine wpAnyH_take (i := 4) (v := ?_) rfl (by kernel_rfl) (by kernel_rfl) (by kernel_rfl) (fun _ _ _ h => h) (Or.inl ⟨by rfl, ?_⟩) (by assumption) ?_
  rotate_left
  · (intro w hSw; (try dsimp only at hSw); go_simp; (try with_reducible rfl))
  (try simp only [Act.put, List.getElem_toArray, List.getElem_cons_zero, List.getElem_cons_succ, List.setIfInBounds_toArray, List.set_cons_zero, List.set_cons_succ])
  refine wpAnyH_take (i := 5) (v := ?_) rfl (by kernel_rfl) (by kernel_rfl) (by kernel_rfl) (fun _ _ _ h => h) (Or.inl ⟨by rfl, ?_⟩) (by assumption) ?_
  rotate_left
  · (intro w hSw; (try dsimp only at hSw); go_simp; (try with_reducible rfl))
  (try simp only [Act.put, List.getElem_toArray, List.getElem_cons_zero, List.getElem_cons_succ, List.setIfInBounds_toArray, List.set_cons_zero, List.set_cons_succ])
  refine wpAnyH_take (i := 6) (v := ?_) rfl (by kernel_rfl) (by kernel_rfl) (by kernel_rfl) (fun _ _ _ h => h) (Or.inl ⟨by rfl, ?_⟩) (by assumption) ?_
  rotate_left
  · (intro w hSw; (try dsimp only at hSw); go_simp; (try with_reducible rfl))
  (try simp only [Act.put, List.getElem_toArray, List.getElem_cons_zero, List.getElem_cons_succ, List.setIfInBounds_toArray, List.set_cons_zero, List.set_cons_succ])
  refine wpAnyH_take (i := 7) (v := ?_) rfl (by kernel_rfl) (by kernel_rfl) (by kernel_rfl) (fun _ _ _ h => h) (Or.inl ⟨by rfl, ?_⟩) (by assumption) ?_
  rotate_left
  · (intro w hSw; (try dsimp only at hSw); go_simp; (try with_reducible rfl))
  (try simp only [Act.put, List.getElem_toArray, List.getElem_cons_zero, List.getElem_cons_succ, List.setIfInBounds_toArray, List.set_cons_zero, List.set_cons_succ])
  refine wpAnyH_take (i := 8) (v := ?_) rfl (by kernel_rfl) (by kernel_rfl) (by kernel_rfl) (fun _ _ _ h => h) (Or.inl ⟨by rfl, ?_⟩) (by assumption) ?_
  rotate_left
  · (intro w hSw; (try dsimp only at hSw); go_simp; (try with_reducible rfl))
  (try simp only [Act.put, List.getElem_toArray, List.getElem_cons_zero, List.getElem_cons_succ, List.setIfInBounds_toArray, List.set_cons_zero, List.set_cons_succ])
  refine wpAnyH_take (i := 9) (v := ?_) rfl (by kernel_rfl) (by kernel_rfl) (by kernel_rfl) (fun _ _ _ h => h) (Or.inl ⟨by rfl, ?_⟩) (by assumption) ?_
  rotate_left
  · (intro w hSw; (try dsimp only at hSw); go_simp; (try with_reducible rfl))
  (try simp only [Act.put, List.getElem_toArray, List.getElem_cons_zero, List.getElem_cons_succ, List.setIfInBounds_toArray, List.set_cons_zero, List.set_cons_succ])
  refine wpAnyH_take (i := 10) (v := ?_) rfl (by kernel_rfl) (by kernel_rfl) (by kernel_rfl) (fun _ _ _ h => h) (Or.inl ⟨by rfl, ?_⟩) (by assumption) ?_
  rotate_left
  · (intro w hSw; (try dsimp only at hSw); go_simp; (try with_reducible rfl))
  (try simp only [Act.put, List.getElem_toArray, List.getElem_cons_zero, List.getElem_cons_succ, List.setIfInBounds_toArray, List.set_cons_zero, List.set_cons_succ])
  refine wpAnyH_take (i := 11) (v := ?_) rfl (by kernel_rfl) (by kernel_rfl) (by kernel_rfl) (fun _ _ _ h => h) (Or.inl ⟨by rfl, ?_⟩) (by assumption) ?_
  rotate_left
  · (intro w hSw; (try dsimp only at hSw); go_simp; (try with_reducible rfl))
  (try simp only [Act.put, List.getElem_toArray, List.getElem_cons_zero, List.getElem_cons_succ, List.setIfInBounds_toArray, List.set_cons_zero, List.set_cons_succ])
  refine wpAnyH_take (i := 12) (v := ?_) rfl (by kernel_rfl) (by kernel_rfl) (by kernel_rfl) (fun _ _ _ h => h) (Or.inl ⟨by rfl, ?_⟩) (by assumption) ?_
  rotate_left
  · (intro w hSw; (try dsimp only at hSw); go_simp; (try with_reducible rfl))
  (try simp only [Act.put, List.getElem_toArray, List.getElem_cons_zero, List.getElem_cons_succ, List.setIfInBounds_toArray, List.set_cons_zero, List.set_cons_succ])
  refine wpAnyH_take (i := 13) (v := ?_) rfl (by kernel_rfl) (by kernel_rfl) (by kernel_rfl) (fun _ _ _ h => h) (Or.inl ⟨by rfl, ?_⟩) (by assumption) ?_
  rotate_left
  · (intro w hSw; (try dsimp only at hSw); go_simp; (try with_reducible rfl))
  (try simp only [Act.put, List.getElem_toArray, List.getElem_cons_zero, List.getElem_cons_succ, List.setIfInBounds_toArray, List.set_cons_zero, List.set_cons_succ])
  refine wpAnyH_take (i := 14) (v := ?_) rfl (by kernel_rfl) (by kernel_rfl) (by kernel_rfl) (fun _ _ _ h => h) (Or.inl ⟨by rfl, ?_⟩) (by assumption) ?_
  rotate_left
  · (intro w hSw; (try dsimp only at hSw); go_simp; (try with_reducible rfl))
  (try simp only [Act.put, List.getElem_toArray, List.getElem_cons_zero, List.getElem_cons_succ, List.setIfInBounds_toArray, List.set_cons_zero, List.set_cons_succ])
  refine wpAnyH_take (i := 15) (v := ?_) rfl (by kernel_rfl) (by kernel_rfl) (by kernel_rfl) (fun _ _ _ h => h) (Or.inl ⟨by rfl, ?_⟩) (by assumption) ?_
  rotate_left
  · (intro w hSw; (try dsimp only at hSw); go_simp; (try with_reducible rfl))
  (try simp only [Act.put, List.getElem_toArray, List.getElem_cons_zero, List.getElem_cons_succ, List.setIfInBounds_toArray, List.set_cons_zero, List.set_cons_succ])
  refine wpAnyH_take (i := 16) (v := ?_) rfl (by kernel_rfl) (by kernel_rfl) (by kernel_rfl) (fun _ _ _ h => h) (Or.inl ⟨by rfl, ?_⟩) (by assumption) ?_
  rotate_left
  · (intro w hSw; (try dsimp only at hSw); go_simp; (try with_reducible rfl))
  (try simp only [Act.put, List.getElem_toArray, List.getElem_cons_zero, List.getElem_cons_succ, List.setIfInBounds_toArray, List.set_cons_zero, List.set_cons_succ])
  refine wpAnyH_ready (rs := [17]) (by kernel_rfl) (by simp) ?_
  refine AllReadyH.cons rfl (fun K hK => ?_) AllReadyH.nil
  simp only [List.getElem_toArray, List.getElem_cons_zero, List.getElem_cons_succ]
  go_simp
  go_at_call 21; (with_reducible refine (HE.out _ ?_ ?_).mono ?_); (exact hI0.tags); (exact hJ0.tags); rintro e w2 ⟨rfl, k2⟩; have hF2 : HasF w2 _ f := HasF.below hF0.drew k2 hF0.lt; have hG2 : HasF w2 _ g := HasF.below hG0.drew k2 hG0.lt; have S2 : HasF w2 w.heap.size f ∧ HasF w2 (w.heap.size + 1) g ∧ w2.cell? ⟨w.heap.size, 0, none⟩ = some (.int .u8 (f.d 0)) ∧ w2.cell? ⟨w.heap.size, 1, none⟩ = some (.int .u8 (f.d 1)) ∧ w2.cell? ⟨w.heap.size, 2, none⟩ = some (.int .u8 (f.d 2)) ∧ w2.cell? ⟨w.heap.size, 3, none⟩ = some (.int .u8 (f.d 3)) ∧ w2.cell? ⟨w.heap.size, 4, none⟩ = some (.int .u8 (f.d 4)) ∧ w2.cell? ⟨w.heap.size, 5, none⟩ = some (.int .u8 (f.d 5)) ∧ w2.cell? ⟨w.heap.size, 6, none⟩ = some (.int .u8 (f.s 0)) ∧ w2.cell? ⟨w.heap.size, 7, none⟩ = some (.int .u8 (f.s 1)) ∧ w2.cell? ⟨w.heap.size, 8, none⟩ = some (.int .u8 (f.s 2)) ∧ w2.cell? ⟨w.heap.size, 9, none⟩ = some (.int .u8 (f.s 3)) ∧ w2.cell? ⟨w.heap.size, 10, none⟩ = some (.int .u8 (f.s 4)) ∧ w2.cell? ⟨w.heap.size, 11, none⟩ = some (.int .u8 (f.s 5)) ∧ w2.cell? ⟨w.heap.size, 12, none⟩ = some (.slice f.ta f.tl.length f.tc) ∧ w2.cell? ⟨w.heap.size, 20, none⟩ = some (.string f.bo) ∧ w2.cell? ⟨w.heap.size + 1, 0, none⟩ = some (.int .u8 (g.d 0)) ∧ w2.cell? ⟨w.heap.size + 1, 1, none⟩ = some (.int .u8 (g.d 1)) ∧ w2.cell? ⟨w.heap.size + 1, 2, none⟩ = some (.int .u8 (g.d 2)) ∧ w2.cell? ⟨w.heap.size + 1, 3, none⟩ = some (.int .u8 (g.d 3)) ∧ w2.cell? ⟨w.heap.size + 1, 4, none⟩ = some (.int .u8 (g.d 4)) ∧ w2.cell? ⟨w.heap.size + 1, 5, none⟩ = some (.int .u8 (g.d 5)) ∧ w2.cell? ⟨w.heap.size + 1, 6, none⟩ = some (.int .u8 (g.s 0)) ∧ w2.cell? ⟨w.heap.size + 1, 7, none⟩ = some (.int .u8 (g.s 1)) ∧ w2.cell? ⟨w.heap.size + 1, 8, none⟩ = some (.int .u8 (g.s 2)) ∧ w2.cell? ⟨w.heap.size + 1, 9, none⟩ = some (.int .u8 (g.s 3)) ∧ w2.cell? ⟨w.heap.size + 1, 10, none⟩ = some (.int .u8 (g.s 4)) ∧ w2.cell? ⟨w.heap.size + 1, 11, none⟩ = some (.int .u8 (g.s 5)) ∧ w2.cell? ⟨w.heap.size + 1, 12, none⟩ = some (.slice g.ta g.tl.length g.tc) ∧ w2.cell? ⟨w.heap.size + 1, 20, none⟩ = some (.string g.bo) := ⟨hF2, hG2, (hF2.c 0).trans rfl, (hF2.c 1).trans rfl, (hF2.c 2).trans rfl, (hF2.c 3).trans rfl, (hF2.c 4).trans rfl, (hF2.c 5).trans rfl, (hF2.c 6).trans rfl, (hF2.c 7).trans rfl, (hF2.c 8).trans rfl, (hF2.c 9).trans rfl, (hF2.c 10).trans rfl, (hF2.c 11).trans rfl, (hF2.c 12).trans rfl, (hF2.c 20).trans rfl, (hG2.c 0).trans rfl, (hG2.c 1).trans rfl, (hG2.c 2).trans rfl, (hG2.c 3).trans rfl, (hG2.c 4).trans rfl, (hG2.c 5).trans rfl, (hG2.c 6).trans rfl, (hG2.c 7).trans rfl, (hG2.c 8).trans rfl, (hG2.c 9).trans rfl, (hG2.c 10).trans rfl, (hG2.c 11).trans rfl, (hG2.c 12).trans rfl, (hG2.c 20).trans rfl⟩
  refine hK.out _ _ ?_ (fun hHeld => ?_)
  · exact S2
  clear hK K
  (try simp only [Act.put, List.getElem_toArray, List.getElem_cons_zero, List.getElem_cons_succ, List.setIfInBounds_toArray, List.set_cons_zero, List.set_cons_succ])
  refine wpAnyH_take (i := 18) (v := ?_) rfl (by kernel_rfl) (by kernel_rfl) (by kernel_rfl) (fun _ _ _ h => h) (Or.inl ⟨by rfl, ?_⟩) (by assumption) ?_
  rotate_left
  · (intro w hSw; (try dsimp only at hSw); go_simp; (try with_reducible rfl))
  (try simp only [Act.put, List.getElem_toArray, List.getElem_cons_zero, List.getElem_cons_succ, List.setIfInBounds_toArray, List.set_cons_zero, List.set_cons_succ])
  refine wpAnyH_take (i := 19) (v := ?_) rfl (by kernel_rfl) (by kernel_rfl) (by kernel_rfl) (fun _ _ _ h => h) (Or.inl ⟨by rfl, ?_⟩) (by assumption) ?_
  rotate_left
  · (intro w hSw; (try dsimp only at hSw); go_simp; (try with_reducible rfl))
  (try simp only [Act.put, List.getElem_toArray, List.getElem_cons_zero, List.getElem_cons_succ, List.setIfInBounds_toArray, List.set_cons_zero, List.set_cons_succ])
  refine wpAnyH_take (i := 20) (v := .agg #[.int .u8 (f.d 0), .int .u8 (f.d 1), .int .u8 (f.d 2), .int .u8 (f.d 3), .int .u8 (f.d 4), .int .u8 (f.d 5), .int .u8 (f.s 0), .int .u8 (f.s 1), .int .u8 (f.s 2), .int .u8 (f.s 3), .int .u8 (f.s 4), .int .u8 (f.s 5), .slice f.ta f.tl.length f.tc, .int .i64 f.k, .int .i64 f.t, .int .i64 f.da, .int .i64 f.sa, .int .i64 f.ct, .int .i64 f.ou, .int .i64 f.pi, .string f.bo]) rfl (by kernel_rfl) (by kernel_rfl) (by kernel_rfl) (fun _ _ _ h => h) (Or.inl ⟨by rfl, fun w hSw => exec_load_fr f rfl rfl hSw.1⟩) (by assumption) ?_
  (try simp only [Act.put, List.getElem_toArray, List.getElem_cons_zero, List.getElem_cons_succ, List.setIfInBounds_toArray, List.set_cons_zero, List.set_cons_succ])
  refine wpAnyH_take (i := 22) (v := .agg #[.int .u8 (g.d 0), .int .u8 (g.d 1), .int .u8 (g.d 2), .int .u8 (g.d 3), .int .u8 (g.d 4), .int .u8 (g.d 5), .int .u8 (g.s 0), .int .u8 (g.s 1), .int .u8 (g.s 2), .int .u8 (g.s 3), .int .u8 (g.s 4), .int .u8 (g.s 5), .slice g.ta g.tl.length g.tc, .int .i64 g.k, .int .i64 g.t, .int .i64 g.da, .int .i64 g.sa, .int .i64 g.ct, .int .i64 g.ou, .int .i64 g.pi, .string g.bo]) rfl (by kernel_rfl) (by kernel_rfl) (by kernel_rfl) (fun _ _ _ h => h) (Or.inl ⟨by rfl, fun w hSw => exec_load_fr g rfl rfl hSw.2.1⟩) (by assumption) ?_
  (try simp only [Act.put, List.getElem_toArray, List.getElem_cons_zero, List.getElem_cons_succ, List.setIfInBounds_toArray, List.set_cons_zero, List.set_cons_succ])
  refine wpAnyH_ready (rs := [21]) (by kernel_rfl) (by simp) ?_
  refine AllReadyH.cons rfl (fun K hK => ?_) AllReadyH.nil
  simp only [List.getElem_toArray, List.getElem_cons_zero, List.getElem_cons_succ]
  go_simp
  go_at_call 22; (with_reducible refine (HF.out _).mono ?_); rintro e w3 ⟨rfl, k3⟩; have hF3 : HasF w3 _ f := HasF.below hF2 k3 hF2.lt; have hG3 : HasF w3 _ g := HasF.below hG2 k3 hG2.lt; have S3 : HasF w3 w.heap.size f ∧ HasF w3 (w.heap.size + 1) g ∧ w3.cell? ⟨w.heap.size, 0, none⟩ = some (.int .u8 (f.d 0)) ∧ w3.cell? ⟨w.heap.size, 1, none⟩ = some (.int .u8 (f.d 1)) ∧ w3.cell? ⟨w.heap.size, 2, none⟩ = some (.int .u8 (f.d 2)) ∧ w3.cell? ⟨w.heap.size, 3, none⟩ = some (.int .u8 (f.d 3)) ∧ w3.cell? ⟨w.heap.size, 4, none⟩ = some (.int .u8 (f.d 4)) ∧ w3.cell? ⟨w.heap.size, 5, none⟩ = some (.int .u8 (f.d 5)) ∧ w3.cell? ⟨w.heap.size, 6, none⟩ = some (.int .u8 (f.s 0)) ∧ w3.cell? ⟨w.heap.size, 7, none⟩ = some (.int .u8 (f.s 1)) ∧ w3.cell? ⟨w.heap.size, 8, none⟩ = some (.int .u8 (f.s 2)) ∧ w3.cell? ⟨w.heap.size, 9, none⟩ = some (.int .u8 (f.s 3)) ∧ w3.cell? ⟨w.heap.size, 10, none⟩ = some (.int .u8 (f.s 4)) ∧ w3.cell? ⟨w.heap.size, 11, none⟩ = some (.int .u8 (f.s 5)) ∧ w3.cell? ⟨w.heap.size, 12, none⟩ = some (.slice f.ta f.tl.length f.tc) ∧ w3.cell? ⟨w.heap.size, 20, none⟩ = some (.string f.bo) ∧ w3.cell? ⟨w.heap.size + 1, 0, none⟩ = some (.int .u8 (g.d 0)) ∧ w3.cell? ⟨w.heap.size + 1, 1, none⟩ = some (.int .u8 (g.d 1)) ∧ w3.cell? ⟨w.heap.size + 1, 2, none⟩ = some (.int .u8 (g.d 2)) ∧ w3.cell? ⟨w.heap.size + 1, 3, none⟩ = some (.int .u8 (g.d 3)) ∧ w3.cell? ⟨w.heap.size + 1, 4, none⟩ = some (.int .u8 (g.d 4)) ∧ w3.cell? ⟨w.heap.size + 1, 5, none⟩ = some (.int .u8 (g.d 5)) ∧ w3.cell? ⟨w.heap.size + 1, 6, none⟩ = some (.int .u8 (g.s 0)) ∧ w3.cell? ⟨w.heap.size + 1, 7, none⟩ = some (.int .u8 (g.s 1)) ∧ w3.cell? ⟨w.heap.size + 1, 8, none⟩ = some (.int .u8 (g.s 2)) ∧ w3.cell? ⟨w.heap.size + 1, 9, none⟩ = some (.int .u8 (g.s 3)) ∧ w3.cell? ⟨w.heap.size + 1, 10, none⟩ = some (.int .u8 (g.s 4)) ∧ w3.cell? ⟨w.heap.size + 1, 11, none⟩ = some (.int .u8 (g.s 5)) ∧ w3.cell? ⟨w.heap.size + 1, 12, none⟩ = some (.slice g.ta g.tl.length g.tc) ∧ w3.cell? ⟨w.heap.size + 1, 20, none⟩ = some (.string g.bo) := ⟨hF3, hG3, (hF3.c 0).trans rfl, (hF3.c 1).trans rfl, (hF3.c 2).trans rfl, (hF3.c 3).trans rfl, (hF3.c 4).trans rfl, (hF3.c 5).trans rfl, (hF3.c 6).trans rfl, (hF3.c 7).trans rfl, (hF3.c 8).trans rfl, (hF3.c 9).trans rfl, (hF3.c 10).trans rfl, (hF3.c 11).trans rfl, (hF3.c 12).trans rfl, (hF3.c 20).trans rfl, (hG3.c 0).trans rfl, (hG3.c 1).trans rfl, (hG3.c 2).trans rfl, (hG3.c 3).trans rfl, (hG3.c 4).trans rfl, (hG3.c 5).trans rfl, (hG3.c 6).trans rfl, (hG3.c 7).trans rfl, (hG3.c 8).trans rfl, (hG3.c 9).trans rfl, (hG3.c 10).trans rfl, (hG3.c 11).trans rfl, (hG3.c 12).trans rfl, (hG3.c 20).trans rfl⟩
  refine hK.out _ _ ?_ (fun hHeld => ?_)
  · exact S3
  clear hK K
  (try simp only [Act.put, List.getElem_toArray, List.getElem_cons_zero, List.getElem_cons_succ, List.setIfInBounds_toArray, List.set_cons_zero, List.set_cons_succ])
  refine wpAnyH_ready (rs := [23]) (by kernel_rfl) (by simp) ?_
  refine AllReadyH.cons rfl (fun K hK => ?_) AllReadyH.nil
  simp only [List.getElem_toArray, List.getElem_cons_zero, List.getElem_cons_succ]
  go_simp
  go_at_call 22; (with_reducible refine (HG.out _).mono ?_); rintro e w4 ⟨rfl, k4⟩; have hF4 : HasF w4 _ f := HasF.below hF3 k4 hF3.lt; have hG4 : HasF w4 _ g := HasF.below hG3 k4 hG3.lt; have S4 : HasF w4 w.heap.size f ∧ HasF w4 (w.heap.size + 1) g ∧ w4.cell? ⟨w.heap.size, 0, none⟩ = some (.int .u8 (f.d 0)) ∧ w4.cell? ⟨w.heap.size, 1, none⟩ = some (.int .u8 (f.d 1)) ∧ w4.cell? ⟨w.heap.size, 2, none⟩ = some (.int .u8 (f.d 2)) ∧ w4.cell? ⟨w.heap.size, 3, none⟩ = some (.int .u8 (f.d 3)) ∧ w4.cell? ⟨w.heap.size, 4, none⟩ = some (.int .u8 (f.d 4)) ∧ w4.cell? ⟨w.heap.size, 5, none⟩ = some (.int .u8 (f.d 5)) ∧ w4.cell? ⟨w.heap.size, 6, none⟩ = some (.int .u8 (f.s 0)) ∧ w4.cell? ⟨w.heap.size, 7, none⟩ = some (.int .u8 (f.s 1)) ∧ w4.cell? ⟨w.heap.size, 8, none⟩ = some (.int .u8 (f.s 2)) ∧ w4.cell? ⟨w.heap.size, 9, none⟩ = some (.int .u8 (f.s 3)) ∧ w4.cell? ⟨w.heap.size, 10, none⟩ = some (.int .u8 (f.s 4)) ∧ w4.cell? ⟨w.heap.size, 11, none⟩ = some (.int .u8 (f.s 5)) ∧ w4.cell? ⟨w.heap.size, 12, none⟩ = some (.slice f.ta f.tl.length f.tc) ∧ w4.cell? ⟨w.heap.size, 20, none⟩ = some (.string f.bo) ∧ w4.cell? ⟨w.heap.size + 1, 0, none⟩ = some (.int .u8 (g.d 0)) ∧ w4.cell? ⟨w.heap.size + 1, 1, none⟩ = some (.int .u8 (g.d 1)) ∧ w4.cell? ⟨w.heap.size + 1, 2, none⟩ = some (.int .u8 (g.d 2)) ∧ w4.cell? ⟨w.heap.size + 1, 3, none⟩ = some (.int .u8 (g.d 3)) ∧ w4.cell? ⟨w.heap.size + 1, 4, none⟩ = some (.int .u8 (g.d 4)) ∧ w4.cell? ⟨w.heap.size + 1, 5, none⟩ = some (.int .u8 (g.d 5)) ∧ w4.cell? ⟨w.heap.size + 1, 6, none⟩ = some (.int .u8 (g.s 0)) ∧ w4.cell? ⟨w.heap.size + 1, 7, none⟩ = some (.int .u8 (g.s 1)) ∧ w4.cell? ⟨w.heap.size + 1, 8, none⟩ = some (.int .u8 (g.s 2)) ∧ w4.cell? ⟨w.heap.size + 1, 9, none⟩ = some (.int .u8 (g.s 3)) ∧ w4.cell? ⟨w.heap.size + 1, 10, none⟩ = some (.int .u8 (g.s 4)) ∧ w4.cell? ⟨w.heap.size + 1, 11, none⟩ = some (.int .u8 (g.s 5)) ∧ w4.cell? ⟨w.heap.size + 1, 12, none⟩ = some (.slice g.ta g.tl.length g.tc) ∧ w4.cell? ⟨w.heap.size + 1, 20, none⟩ = some (.string g.bo) := ⟨hF4, hG4, (hF4.c 0).trans rfl, (hF4.c 1).trans rfl, (hF4.c 2).trans rfl, (hF4.c 3).trans rfl, (hF4.c 4).trans rfl, (hF4.c 5).trans rfl, (hF4.c 6).trans rfl, (hF4.c 7).trans rfl, (hF4.c 8).trans rfl, (hF4.c 9).trans rfl, (hF4.c 10).trans rfl, (hF4.c 11).trans rfl, (hF4.c 12).trans rfl, (hF4.c 20).trans rfl, (hG4.c 0).trans rfl, (hG4.c 1).trans rfl, (hG4.c 2).trans rfl, (hG4.c 3).trans rfl, (hG4.c 4).trans rfl, (hG4.c 5).trans rfl, (hG4.c 6).trans rfl, (hG4.c 7).trans rfl, (hG4.c 8).trans rfl, (hG4.c 9).trans rfl, (hG4.c 10).trans rfl, (hG4.c 11).trans rfl, (hG4.c 12).trans rfl, (hG4.c 20).trans rfl⟩
  refine hK.out _ _ ?_ (fun hHeld => ?_)
  · exact S4
  clear hK K
  (try simp only [Act.put, List.getElem_toArray, List.getElem_cons_zero, List.getElem_cons_succ, List.setIfInBounds_toArray, List.set_cons_zero, List.set_cons_succ])
  refine wpAnyH_take (i := 24) (v := ?_) rfl (by kernel_rfl) (by kernel_rfl) (by kernel_rfl) (fun _ _ _ h => h) (Or.inl ⟨by rfl, ?_⟩) (by assumption) ?_
  rotate_left
  · (intro w hSw; (try dsimp only at hSw); go_simp; (try with_reducible rfl))
  (try simp only [Act.put, List.getElem_toArray, List.getElem_cons_zero, List.getElem_cons_succ, List.setIfInBounds_toArray, List.set_cons_zero, List.set_cons_succ])
  refine wpAnyH_take (i := 25) (v := ?_) rfl (by kernel_rfl) (by kernel_rfl) (by kernel_rfl) (fun _ _ _ h => h) (Or.inl ⟨by rfl, ?_⟩) (by assumption) ?_
  rotate_left
  · (intro w hSw; (try dsimp only at hSw); go_simp; (try with_reducible rfl))
  (try simp only [Act.put, List.getElem_toArray, List.getElem_cons_zero, List.getElem_cons_succ, List.setIfInBounds_toArray, List.set_cons_zero, List.set_cons_succ])
  refine wpAnyH_take (i := 26) (v := ?_) rfl (by kernel_rfl) (by kernel_rfl) (by kernel_rfl) (fun _ _ _ h => h) (Or.inl ⟨by rfl, ?_⟩) (by assumption) ?_
  rotate_left
  · (intro w hSw; (try dsimp only at hSw); go_simp; (try with_reducible rfl))
  (try simp only [Act.put, List.getElem_toArray, List.getElem_cons_zero, List.getElem_cons_succ, List.setIfInBounds_toArray, List.set_cons_zero, List.set_cons_succ])
  refine wpAnyH_take (i := 27) (v := ?_) rfl (by kernel_rfl) (by kernel_rfl) (by kernel_rfl) (fun _ _ _ h => h) (Or.inl ⟨by rfl, ?_⟩) (by assumption) ?_
  rotate_left
  · (intro w hSw; (try dsimp only at hSw); go_simp; (try with_reducible rfl))
  (try simp only [Act.put, List.getElem_toArray, List.getElem_cons_zero, List.getElem_cons_succ, List.setIfInBounds_toArray, List.set_cons_zero, List.set_cons_succ])
  refine wpAnyH_take (i := 28) (v := ?_) rfl (by kernel_rfl) (by kernel_rfl) (by kernel_rfl) (fun _ _ _ h => h) (Or.inl ⟨by rfl, ?_⟩) (by assumption) ?_
  rotate_left
  · (intro w hSw; (try dsimp only at hSw); go_simp; (try with_reducible rfl))
  (try simp only [Act.put, List.getElem_toArray, List.getElem_cons_zero, List.getElem_cons_succ, List.setIfInBounds_toArray, List.set_cons_zero, List.set_cons_succ])
  refine wpAnyH_take (i := 29) (v := ?_) rfl (by kernel_rfl) (by kernel_rfl) (by kernel_rfl) (fun _ _ _ h => h) (Or.inl ⟨by rfl, ?_⟩) (by assumption) ?_
  rotate_left
  · (intro w hSw; (try dsimp only at hSw); go_simp; (try with_reducible rfl))
  (try simp only [Act.put, List.getElem_toArray, List.getElem_cons_zero, List.getElem_cons_succ, List.setIfInBounds_toArray, List.set_cons_zero, List.set_cons_succ])
  refine wpAnyH_take (i := 30) (v := ?_) rfl (by kernel_rfl) (by kernel_rfl) (by kernel_rfl) (fun _ _ _ h => h) (Or.inl ⟨by rfl, ?_⟩) (by assumption) ?_
  rotate_left
  · (intro w hSw; (try dsimp only at hSw); go_simp; (try with_reducible rfl))
  (try simp only [Act.put, List.getElem_toArray, List.getElem_cons_zero, List.getElem_cons_succ, List.setIfInBounds_toArray, List.set_cons_zero, List.set_cons_succ])
  refine wpAnyH_take (i := 31) (v := ?_) rfl (by kernel_rfl) (by kernel_rfl) (by kernel_rfl) (fun _ _ _ h => h) (Or.inl ⟨by rfl, ?_⟩) (by assumption) ?_
  rotate_left
  · (intro w hSw; (try dsimp only at hSw); go_simp; (try with_reducible rfl))
  (try simp only [Act.put, List.getElem_toArray, List.getElem_cons_zero, List.getElem_cons_succ, List.setIfInBounds_toArray, List.set_cons_zero, List.set_cons_succ])
  refine wpAnyH_take (i := 32) (v := ?_) rfl (by kernel_rfl) (by kernel_rfl) (by kernel_rfl) (fun _ _ _ h => h) (Or.inl ⟨by rfl, ?_⟩) (by assumption) ?_
  rotate_left
  · (intro w hSw; (try dsimp only at hSw); go_simp; (try with_reducible rfl))
  (try simp only [Act.put, List.getElem_toArray, List.getElem_cons_zero, List.getElem_cons_succ, List.setIfInBounds_toArray, List.set_cons_zero, List.set_cons_succ])
  refine wpAnyH_take (i := 33) (v := ?_) rfl (by kernel_rfl) (by kernel_rfl) (by kernel_rfl) (fun _ _ _ h => h) (Or.inl ⟨by rfl, ?_⟩) (by assumption) ?_
  rotate_left
  · (intro w hSw; (try dsimp only at hSw); go_simp; (try with_reducible rfl))
  (try simp only [Act.put, List.getElem_toArray, List.getElem_cons_zero, List.getElem_cons_succ, List.setIfInBounds_toArray, List.set_cons_zero, List.set_cons_succ])
  refine wpAnyH_done (by kernel_rfl) ?_ _
  refine NoPanic.normal ?_
  have b2 : Below w.heap.size w w2 := hb0.drew.trans (k2.mono hb0.size)
  have b3 : Below w.heap.size w w3 := b2.trans (k3.mono b2.size)
  have b4 : Below w.heap.size w w4 := b3.trans (k4.mono b3.size)
  clear S1 hF0 hG0 hI0 hJ0 hHeld S2 k2 hF2 hG2 HE S3 k3 hF3 hG3 S4 k4 hF4 hG4 HF HG b2 b3
  go_wp2
  go_ret
  exact ⟨rfl, b4⟩

end Go.Proofs.Ytnlphldkdglofaa
