/- switchyardlaw.FrameSames returns true at every two frames, and changes nothing that was there. -/
import Derived.Test.YtopklmnkmdgjoaaFrSm
import Derived.Test.YtopklmnkmdgjoaaFrSame
import Derived.Test.YtopklmnkmdgjoaaFrArg
namespace Go.Proofs.Ytopklmnkmdgjoaa.frameSames
open Go Go.RowKit
attribute [local go_sem ↓] Go.wp_at_zero Go.wp_at_succ
set_option linter.unusedSimpArgs false
set_option linter.unusedVariables false

set_option maxHeartbeats 4000000 in
theorem walk (f g : Fr) (w : World) (hf : FrArg w f) (hg : FrArg w g) (r1 : f.tl.length ≤ reachBytes) (r2 : f.bo.size ≤ reachBytes) (r3 : g.tl.length ≤ reachBytes) (r4 : g.bo.size ≤ reachBytes) :
    Calls Try.prog 4 #[frV f, frV g] w fun e w' => e = .returned (.bool true) ∧ Below w.heap.size w w' := by
  obtain ⟨hF0, hG0, hb0⟩ := both_boxed w f g
  unfold reachBytes at r1 r2 r3 r4
  by_cases ht : f.tl.length + g.tl.length ≤ 20
  · have hd : decide ((20 : Int) < (f.tl.length : Int) + (g.tl.length : Int)) = false := decide_eq_false (by omega)
    by_cases hs : f.bo.size + g.bo.size ≤ 3000
    · have hd2 : decide ((3000 : Int) < (f.bo.size : Int) + (g.bo.size : Int)) = false := decide_eq_false (by omega)
      have hI := hf.in (by omega) (by omega)
      have hJ := hg.in (by omega) (by omega)
      have hI0 := hI.below hb0
      have hJ0 := hJ.below hb0
      have HS : Hid (∀ W, FrIn W f → FrIn W g → Calls Try.prog 9 #[.agg #[.int .u8 (f.d 0), .int .u8 (f.d 1), .int .u8 (f.d 2), .int .u8 (f.d 3), .int .u8 (f.d 4), .int .u8 (f.d 5), .int .u8 (f.s 0), .int .u8 (f.s 1), .int .u8 (f.s 2), .int .u8 (f.s 3), .int .u8 (f.s 4), .int .u8 (f.s 5), .slice f.ta f.tl.length f.tc, .int .i64 f.k, .int .i64 f.t, .int .i64 f.da, .int .i64 f.sa, .int .i64 f.ct, .int .i64 f.ou, .int .i64 f.pi, .string f.bo], .agg #[.int .u8 (g.d 0), .int .u8 (g.d 1), .int .u8 (g.d 2), .int .u8 (g.d 3), .int .u8 (g.d 4), .int .u8 (g.d 5), .int .u8 (g.s 0), .int .u8 (g.s 1), .int .u8 (g.s 2), .int .u8 (g.s 3), .int .u8 (g.s 4), .int .u8 (g.s 5), .slice g.ta g.tl.length g.tc, .int .i64 g.k, .int .i64 g.t, .int .i64 g.da, .int .i64 g.sa, .int .i64 g.ct, .int .i64 g.ou, .int .i64 g.pi, .string g.bo]] W fun e w' => e = .returned (.bool (sameB f g)) ∧ Below W.heap.size W w') := fun W x y => same_any f g W x y
      have HR : Hid (∀ W, FrIn W f → FrIn W g → Calls Try.prog 10 #[.agg #[.int .u8 (f.d 0), .int .u8 (f.d 1), .int .u8 (f.d 2), .int .u8 (f.d 3), .int .u8 (f.d 4), .int .u8 (f.d 5), .int .u8 (f.s 0), .int .u8 (f.s 1), .int .u8 (f.s 2), .int .u8 (f.s 3), .int .u8 (f.s 4), .int .u8 (f.s 5), .slice f.ta f.tl.length f.tc, .int .i64 f.k, .int .i64 f.t, .int .i64 f.da, .int .i64 f.sa, .int .i64 f.ct, .int .i64 f.ou, .int .i64 f.pi, .string f.bo], .agg #[.int .u8 (g.d 0), .int .u8 (g.d 1), .int .u8 (g.d 2), .int .u8 (g.d 3), .int .u8 (g.d 4), .int .u8 (g.d 5), .int .u8 (g.s 0), .int .u8 (g.s 1), .int .u8 (g.s 2), .int .u8 (g.s 3), .int .u8 (g.s 4), .int .u8 (g.s 5), .slice g.ta g.tl.length g.tc, .int .i64 g.k, .int .i64 g.t, .int .i64 g.da, .int .i64 g.sa, .int .i64 g.ct, .int .i64 g.ou, .int .i64 g.pi, .string g.bo]] W fun e w' => e = .returned (.bool (sameB f g)) ∧ Below W.heap.size W w') := fun W x y => refSame_any f g W x y
      generalize sameB f g = b at *
      unfold frV frC at *
      clear hf hg hI hJ
      go_enter Try.func4, Try.ntmps4
      go_wp2
      generalize (w.alloc (.cells #[.int .u8 (f.d 0), .int .u8 (f.d 1), .int .u8 (f.d 2), .int .u8 (f.d 3), .int .u8 (f.d 4), .int .u8 (f.d 5), .int .u8 (f.s 0), .int .u8 (f.s 1), .int .u8 (f.s 2), .int .u8 (f.s 3), .int .u8 (f.s 4), .int .u8 (f.s 5), .slice f.ta f.tl.length f.tc, .int .i64 f.k, .int .i64 f.t, .int .i64 f.da, .int .i64 f.sa, .int .i64 f.ct, .int .i64 f.ou, .int .i64 f.pi, .string f.bo] 26)).alloc (.cells #[.int .u8 (g.d 0), .int .u8 (g.d 1), .int .u8 (g.d 2), .int .u8 (g.d 3), .int .u8 (g.d 4), .int .u8 (g.d 5), .int .u8 (g.s 0), .int .u8 (g.s 1), .int .u8 (g.s 2), .int .u8 (g.s 3), .int .u8 (g.s 4), .int .u8 (g.s 5), .slice g.ta g.tl.length g.tc, .int .i64 g.k, .int .i64 g.t, .int .i64 g.da, .int .i64 g.sa, .int .i64 g.ct, .int .i64 g.ou, .int .i64 g.pi, .string g.bo] 26) = w1 at *
      have hq : (b == b) = true := beq_iff_eq.2 rfl
      refine wp_region_noPanic ?_
      refine wp_region_held_drew (S := (fun w' => HasF w' w.heap.size f ∧ HasF w' (w.heap.size + 1) g)) (by kernel_rfl) ?_ (fun hHeld => ?_)
      · exact ⟨hF0, hG0⟩
      refine wpAnyH_take (i := 0) (v := .agg #[.int .u8 (f.d 0), .int .u8 (f.d 1), .int .u8 (f.d 2), .int .u8 (f.d 3), .int .u8 (f.d 4), .int .u8 (f.d 5), .int .u8 (f.s 0), .int .u8 (f.s 1), .int .u8 (f.s 2), .int .u8 (f.s 3), .int .u8 (f.s 4), .int .u8 (f.s 5), .slice f.ta f.tl.length f.tc, .int .i64 f.k, .int .i64 f.t, .int .i64 f.da, .int .i64 f.sa, .int .i64 f.ct, .int .i64 f.ou, .int .i64 f.pi, .string f.bo]) rfl (by kernel_rfl) (by kernel_rfl) (by kernel_rfl) (fun _ _ _ h => h) (Or.inl ⟨by rfl, fun w hSw => exec_load_fr f rfl rfl hSw.1⟩) (by assumption) ?_
      (try simp only [Act.put, List.getElem_toArray, List.getElem_cons_zero, List.getElem_cons_succ, List.setIfInBounds_toArray, List.set_cons_zero, List.set_cons_succ])
      refine wpAnyH_take (i := 1) (v := .agg #[.int .u8 (g.d 0), .int .u8 (g.d 1), .int .u8 (g.d 2), .int .u8 (g.d 3), .int .u8 (g.d 4), .int .u8 (g.d 5), .int .u8 (g.s 0), .int .u8 (g.s 1), .int .u8 (g.s 2), .int .u8 (g.s 3), .int .u8 (g.s 4), .int .u8 (g.s 5), .slice g.ta g.tl.length g.tc, .int .i64 g.k, .int .i64 g.t, .int .i64 g.da, .int .i64 g.sa, .int .i64 g.ct, .int .i64 g.ou, .int .i64 g.pi, .string g.bo]) rfl (by kernel_rfl) (by kernel_rfl) (by kernel_rfl) (fun _ _ _ h => h) (Or.inl ⟨by rfl, fun w hSw => exec_load_fr g rfl rfl hSw.2⟩) (by assumption) ?_
      (try simp only [Act.put, List.getElem_toArray, List.getElem_cons_zero, List.getElem_cons_succ, List.setIfInBounds_toArray, List.set_cons_zero, List.set_cons_succ])
      refine wpAnyH_take (i := 3) (v := .agg #[.int .u8 (f.d 0), .int .u8 (f.d 1), .int .u8 (f.d 2), .int .u8 (f.d 3), .int .u8 (f.d 4), .int .u8 (f.d 5), .int .u8 (f.s 0), .int .u8 (f.s 1), .int .u8 (f.s 2), .int .u8 (f.s 3), .int .u8 (f.s 4), .int .u8 (f.s 5), .slice f.ta f.tl.length f.tc, .int .i64 f.k, .int .i64 f.t, .int .i64 f.da, .int .i64 f.sa, .int .i64 f.ct, .int .i64 f.ou, .int .i64 f.pi, .string f.bo]) rfl (by kernel_rfl) (by kernel_rfl) (by kernel_rfl) (fun _ _ _ h => h) (Or.inl ⟨by rfl, fun w hSw => exec_load_fr f rfl rfl hSw.1⟩) (by assumption) ?_
      (try simp only [Act.put, List.getElem_toArray, List.getElem_cons_zero, List.getElem_cons_succ, List.setIfInBounds_toArray, List.set_cons_zero, List.set_cons_succ])
      refine wpAnyH_take (i := 4) (v := .agg #[.int .u8 (g.d 0), .int .u8 (g.d 1), .int .u8 (g.d 2), .int .u8 (g.d 3), .int .u8 (g.d 4), .int .u8 (g.d 5), .int .u8 (g.s 0), .int .u8 (g.s 1), .int .u8 (g.s 2), .int .u8 (g.s 3), .int .u8 (g.s 4), .int .u8 (g.s 5), .slice g.ta g.tl.length g.tc, .int .i64 g.k, .int .i64 g.t, .int .i64 g.da, .int .i64 g.sa, .int .i64 g.ct, .int .i64 g.ou, .int .i64 g.pi, .string g.bo]) rfl (by kernel_rfl) (by kernel_rfl) (by kernel_rfl) (fun _ _ _ h => h) (Or.inl ⟨by rfl, fun w hSw => exec_load_fr g rfl rfl hSw.2⟩) (by assumption) ?_
      (try simp only [Act.put, List.getElem_toArray, List.getElem_cons_zero, List.getElem_cons_succ, List.setIfInBounds_toArray, List.set_cons_zero, List.set_cons_succ])
      refine wpAnyH_ready (rs := [2]) (by kernel_rfl) (by simp) ?_
      refine AllReadyH.cons rfl (fun K hK => ?_) AllReadyH.nil
      simp only [List.getElem_toArray, List.getElem_cons_zero, List.getElem_cons_succ]
      go_simp
      go_at_call 9; (with_reducible refine (HS.out _ ?_ ?_).mono ?_); (exact FrIn.drew hI0); (exact FrIn.drew hJ0); rintro e w2 ⟨rfl, k2⟩; have hF2 : HasF w2 _ f := HasF.below hF0.drew k2 hF0.lt; have hG2 : HasF w2 _ g := HasF.below hG0.drew k2 hG0.lt; have S2 : HasF w2 w.heap.size f ∧ HasF w2 (w.heap.size + 1) g := ⟨hF2, hG2⟩; have hI2 : FrIn w2 f := FrIn.below (FrIn.drew hI0) k2; have hJ2 : FrIn w2 g := FrIn.below (FrIn.drew hJ0) k2
      refine hK.out _ _ ?_ (fun hHeld => ?_)
      · exact S2
      clear hK K
      (try simp only [Act.put, List.getElem_toArray, List.getElem_cons_zero, List.getElem_cons_succ, List.setIfInBounds_toArray, List.set_cons_zero, List.set_cons_succ])
      refine wpAnyH_ready (rs := [5]) (by kernel_rfl) (by simp) ?_
      refine AllReadyH.cons rfl (fun K hK => ?_) AllReadyH.nil
      simp only [List.getElem_toArray, List.getElem_cons_zero, List.getElem_cons_succ]
      go_simp
      go_at_call 10; (with_reducible refine (HR.out _ ?_ ?_).mono ?_); (exact hI2); (exact hJ2); rintro e w3 ⟨rfl, k3⟩; have hF3 : HasF w3 _ f := HasF.below hF2 k3 hF2.lt; have hG3 : HasF w3 _ g := HasF.below hG2 k3 hG2.lt; have S3 : HasF w3 w.heap.size f ∧ HasF w3 (w.heap.size + 1) g := ⟨hF3, hG3⟩
      refine hK.out _ _ ?_ (fun hHeld => ?_)
      · exact S3
      clear hK K
      (try simp only [Act.put, List.getElem_toArray, List.getElem_cons_zero, List.getElem_cons_succ, List.setIfInBounds_toArray, List.set_cons_zero, List.set_cons_succ])
      refine wpAnyH_take (i := 6) (v := ?_) rfl (by kernel_rfl) (by kernel_rfl) (by kernel_rfl) (fun _ _ _ h => h) (Or.inl ⟨by rfl, ?_⟩) (by assumption) ?_
      rotate_left
      · (intro w hSw; (try dsimp only at hSw); go_simp; (try with_reducible rfl))
      (try simp only [Act.put, List.getElem_toArray, List.getElem_cons_zero, List.getElem_cons_succ, List.setIfInBounds_toArray, List.set_cons_zero, List.set_cons_succ])
      refine wpAnyH_take (i := 7) (v := ?_) rfl (by kernel_rfl) (by kernel_rfl) (by kernel_rfl) (fun _ _ _ h => h) (Or.inl ⟨by rfl, ?_⟩) (by assumption) ?_
      rotate_left
      · (intro w hSw; (try dsimp only at hSw); go_simp; (try with_reducible rfl))
      (try simp only [Act.put, List.getElem_toArray, List.getElem_cons_zero, List.getElem_cons_succ, List.setIfInBounds_toArray, List.set_cons_zero, List.set_cons_succ])
      refine wpAnyH_done (by kernel_rfl) ?_ _
      refine NoPanic.normal ?_
      have b2 : Below w.heap.size w w2 := hb0.drew.trans (k2.mono hb0.size)
      have b3 : Below w.heap.size w w3 := b2.trans (k3.mono b2.size)
      clear S2 S3 hF0 hG0 hF2 hG2 hF3 hG3 k2 k3 hI0 hJ0 hI2 hJ2 HS HR hHeld b2
      go_wp2
      go_ret
      exact ⟨rfl, b3⟩
    · have hd2 : decide ((3000 : Int) < (f.bo.size : Int) + (g.bo.size : Int)) = true := decide_eq_true (by omega)
      unfold frV frC at *
      go_enter Try.func4, Try.ntmps4
      go_wp2
      go_ret
      exact ⟨rfl, hb0⟩
  · have hd : decide ((20 : Int) < (f.tl.length : Int) + (g.tl.length : Int)) = true := decide_eq_true (by omega)
    unfold frV frC at *
    go_enter Try.func4, Try.ntmps4
    go_wp2
    go_ret
    exact ⟨rfl, hb0⟩
end Go.Proofs.Ytopklmnkmdgjoaa.frameSames
