/- switchyardlaw.FrameRights returns true at every frame, and changes nothing that was there. -/
import Derived.Test.YtmlnkellfbobcaaFrRight
import Derived.Test.YtmlnkellfbobcaaRefRight
import Derived.Test.YtmlnkellfbobcaaFrArg
namespace Go.Proofs.Ytmlnkellfbobcaa.frameRights
open Go Go.RowKit
attribute [local go_sem ↓] Go.wp_at_zero Go.wp_at_succ
set_option linter.unusedSimpArgs false
set_option linter.unusedVariables false

set_option maxHeartbeats 4000000 in
theorem walk (f : Fr) (w : World) (hf : FrArg w f) :
    Calls Try.prog 3 #[frV f] w fun e w' => e = .returned (.bool true) ∧ Below w.heap.size w w' := by
  have hF0 := HasF.new w f
  have hb0 : Below w.heap.size w (w.alloc (.cells (frC f) 26)) := (Below.refl _ _).alloc (Nat.le_refl _) _
  by_cases ht : f.tl.length ≤ 20
  · have hd : decide ((20 : Int) < (f.tl.length : Int)) = false := decide_eq_false (by omega)
    by_cases hs : f.bo.size ≤ 3000
    · have hd2 : decide ((3000 : Int) < (f.bo.size : Int)) = false := decide_eq_false (by omega)
      have hI := hf.in ht hs
      have hI0 := hI.below hb0
      have HS : Hid (∀ W, FrIn W f → Calls Try.prog 4 #[.agg #[.int .u8 (f.d 0), .int .u8 (f.d 1), .int .u8 (f.d 2), .int .u8 (f.d 3), .int .u8 (f.d 4), .int .u8 (f.d 5), .int .u8 (f.s 0), .int .u8 (f.s 1), .int .u8 (f.s 2), .int .u8 (f.s 3), .int .u8 (f.s 4), .int .u8 (f.s 5), .slice f.ta f.tl.length f.tc, .int .i64 f.k, .int .i64 f.t, .int .i64 f.da, .int .i64 f.sa, .int .i64 f.ct, .int .i64 f.ou, .int .i64 f.pi, .string f.bo]] W fun e w' => e = .returned (.bool (rightB f)) ∧ Below W.heap.size W w') := fun W x => right_frame f W x
      have HR : Hid (∀ W, FrIn W f → Calls Try.prog 5 #[.agg #[.int .u8 (f.d 0), .int .u8 (f.d 1), .int .u8 (f.d 2), .int .u8 (f.d 3), .int .u8 (f.d 4), .int .u8 (f.d 5), .int .u8 (f.s 0), .int .u8 (f.s 1), .int .u8 (f.s 2), .int .u8 (f.s 3), .int .u8 (f.s 4), .int .u8 (f.s 5), .slice f.ta f.tl.length f.tc, .int .i64 f.k, .int .i64 f.t, .int .i64 f.da, .int .i64 f.sa, .int .i64 f.ct, .int .i64 f.ou, .int .i64 f.pi, .string f.bo]] W fun e w' => e = .returned (.bool (rightB f)) ∧ Below W.heap.size W w') := fun W x => refFrameRight_any f W x
      have HH : Hid (∀ W, Calls Try.prog 6 #[.agg #[.int .u8 (f.d 0), .int .u8 (f.d 1), .int .u8 (f.d 2), .int .u8 (f.d 3), .int .u8 (f.d 4), .int .u8 (f.d 5), .int .u8 (f.s 0), .int .u8 (f.s 1), .int .u8 (f.s 2), .int .u8 (f.s 3), .int .u8 (f.s 4), .int .u8 (f.s 5), .slice f.ta f.tl.length f.tc, .int .i64 f.k, .int .i64 f.t, .int .i64 f.da, .int .i64 f.sa, .int .i64 f.ct, .int .i64 f.ou, .int .i64 f.pi, .string f.bo]] W fun e w' => e = .returned (.int .i64 (14 + 4 * (f.tl.length : Int) + hdI f.k)) ∧ Below W.heap.size W w') := fun W => head_any f W ht
      have HHR : Hid (∀ W, Calls Try.prog 7 #[.agg #[.int .u8 (f.d 0), .int .u8 (f.d 1), .int .u8 (f.d 2), .int .u8 (f.d 3), .int .u8 (f.d 4), .int .u8 (f.d 5), .int .u8 (f.s 0), .int .u8 (f.s 1), .int .u8 (f.s 2), .int .u8 (f.s 3), .int .u8 (f.s 4), .int .u8 (f.s 5), .slice f.ta f.tl.length f.tc, .int .i64 f.k, .int .i64 f.t, .int .i64 f.da, .int .i64 f.sa, .int .i64 f.ct, .int .i64 f.ou, .int .i64 f.pi, .string f.bo]] W fun e w' => e = .returned (.int .i64 (14 + 4 * (f.tl.length : Int) + hdI f.k)) ∧ Below W.heap.size W w') := fun W => refHead_any f W ht
      generalize rightB f = b at *
      generalize 14 + 4 * (f.tl.length : Int) + hdI f.k = n at *
      unfold frV frC at *
      clear hf hI
      go_enter Try.func3, Try.ntmps3
      go_wp2
      generalize (w.alloc (.cells #[.int .u8 (f.d 0), .int .u8 (f.d 1), .int .u8 (f.d 2), .int .u8 (f.d 3), .int .u8 (f.d 4), .int .u8 (f.d 5), .int .u8 (f.s 0), .int .u8 (f.s 1), .int .u8 (f.s 2), .int .u8 (f.s 3), .int .u8 (f.s 4), .int .u8 (f.s 5), .slice f.ta f.tl.length f.tc, .int .i64 f.k, .int .i64 f.t, .int .i64 f.da, .int .i64 f.sa, .int .i64 f.ct, .int .i64 f.ou, .int .i64 f.pi, .string f.bo] 26)) = w1 at *
      have hq : (b == b) = true := beq_iff_eq.2 rfl
      have hn : (n == n) = true := beq_iff_eq.2 rfl
      refine wp_region_noPanic ?_
      refine wp_region_held_drew (S := (fun w' => HasF w' w.heap.size f)) (by kernel_rfl) ?_ (fun hHeld => ?_)
      · exact hF0
      refine wpAnyH_take (i := 0) (v := .agg #[.int .u8 (f.d 0), .int .u8 (f.d 1), .int .u8 (f.d 2), .int .u8 (f.d 3), .int .u8 (f.d 4), .int .u8 (f.d 5), .int .u8 (f.s 0), .int .u8 (f.s 1), .int .u8 (f.s 2), .int .u8 (f.s 3), .int .u8 (f.s 4), .int .u8 (f.s 5), .slice f.ta f.tl.length f.tc, .int .i64 f.k, .int .i64 f.t, .int .i64 f.da, .int .i64 f.sa, .int .i64 f.ct, .int .i64 f.ou, .int .i64 f.pi, .string f.bo]) rfl (by kernel_rfl) (by kernel_rfl) (by kernel_rfl) (fun _ _ _ h => h) (Or.inl ⟨by rfl, fun w hSw => exec_load_fr f rfl rfl hSw⟩) (by assumption) ?_
      (try simp only [Act.put, List.getElem_toArray, List.getElem_cons_zero, List.getElem_cons_succ, List.setIfInBounds_toArray, List.set_cons_zero, List.set_cons_succ])
      refine wpAnyH_take (i := 2) (v := .agg #[.int .u8 (f.d 0), .int .u8 (f.d 1), .int .u8 (f.d 2), .int .u8 (f.d 3), .int .u8 (f.d 4), .int .u8 (f.d 5), .int .u8 (f.s 0), .int .u8 (f.s 1), .int .u8 (f.s 2), .int .u8 (f.s 3), .int .u8 (f.s 4), .int .u8 (f.s 5), .slice f.ta f.tl.length f.tc, .int .i64 f.k, .int .i64 f.t, .int .i64 f.da, .int .i64 f.sa, .int .i64 f.ct, .int .i64 f.ou, .int .i64 f.pi, .string f.bo]) rfl (by kernel_rfl) (by kernel_rfl) (by kernel_rfl) (fun _ _ _ h => h) (Or.inl ⟨by rfl, fun w hSw => exec_load_fr f rfl rfl hSw⟩) (by assumption) ?_
      (try simp only [Act.put, List.getElem_toArray, List.getElem_cons_zero, List.getElem_cons_succ, List.setIfInBounds_toArray, List.set_cons_zero, List.set_cons_succ])
      refine wpAnyH_ready (rs := [1]) (by kernel_rfl) (by simp) ?_
      refine AllReadyH.cons rfl (fun K hK => ?_) AllReadyH.nil
      simp only [List.getElem_toArray, List.getElem_cons_zero, List.getElem_cons_succ]
      go_simp
      go_at_call 4; (with_reducible refine (HS.out _ ?_).mono ?_); (exact FrIn.drew hI0); rintro e w2 ⟨rfl, k2⟩; have hF2 : HasF w2 _ f := HasF.below hF0.drew k2 hF0.lt; have hI2 : FrIn w2 f := FrIn.below (FrIn.drew hI0) k2
      refine hK.out _ _ ?_ (fun hHeld => ?_)
      · exact hF2
      clear hK K
      (try simp only [Act.put, List.getElem_toArray, List.getElem_cons_zero, List.getElem_cons_succ, List.setIfInBounds_toArray, List.set_cons_zero, List.set_cons_succ])
      refine wpAnyH_ready (rs := [3]) (by kernel_rfl) (by simp) ?_
      refine AllReadyH.cons rfl (fun K hK => ?_) AllReadyH.nil
      simp only [List.getElem_toArray, List.getElem_cons_zero, List.getElem_cons_succ]
      go_simp
      go_at_call 5; (with_reducible refine (HR.out _ ?_).mono ?_); (exact hI2); rintro e w3 ⟨rfl, k3⟩; have hF3 : HasF w3 _ f := HasF.below hF2 k3 hF2.lt
      refine hK.out _ _ ?_ (fun hHeld => ?_)
      · exact hF3
      clear hK K
      (try simp only [Act.put, List.getElem_toArray, List.getElem_cons_zero, List.getElem_cons_succ, List.setIfInBounds_toArray, List.set_cons_zero, List.set_cons_succ])
      refine wpAnyH_take (i := 4) (v := ?_) rfl (by kernel_rfl) (by kernel_rfl) (by kernel_rfl) (fun _ _ _ h => h) (Or.inl ⟨by rfl, ?_⟩) (by assumption) ?_
      rotate_left
      · (intro w hSw; (try dsimp only at hSw); go_simp; (try with_reducible rfl))
      (try simp only [Act.put, List.getElem_toArray, List.getElem_cons_zero, List.getElem_cons_succ, List.setIfInBounds_toArray, List.set_cons_zero, List.set_cons_succ])
      refine wpAnyH_take (i := 5) (v := ?_) rfl (by kernel_rfl) (by kernel_rfl) (by kernel_rfl) (fun _ _ _ h => h) (Or.inl ⟨by rfl, ?_⟩) (by assumption) ?_
      rotate_left
      · (intro w hSw; (try dsimp only at hSw); go_simp; (try with_reducible rfl))
      (try simp only [Act.put, List.getElem_toArray, List.getElem_cons_zero, List.getElem_cons_succ, List.setIfInBounds_toArray, List.set_cons_zero, List.set_cons_succ])
      refine wpAnyH_take (i := 6) (v := .agg #[.int .u8 (f.d 0), .int .u8 (f.d 1), .int .u8 (f.d 2), .int .u8 (f.d 3), .int .u8 (f.d 4), .int .u8 (f.d 5), .int .u8 (f.s 0), .int .u8 (f.s 1), .int .u8 (f.s 2), .int .u8 (f.s 3), .int .u8 (f.s 4), .int .u8 (f.s 5), .slice f.ta f.tl.length f.tc, .int .i64 f.k, .int .i64 f.t, .int .i64 f.da, .int .i64 f.sa, .int .i64 f.ct, .int .i64 f.ou, .int .i64 f.pi, .string f.bo]) rfl (by kernel_rfl) (by kernel_rfl) (by kernel_rfl) (fun _ _ _ h => h) (Or.inl ⟨by rfl, fun w hSw => exec_load_fr f rfl rfl hSw⟩) (by assumption) ?_
      (try simp only [Act.put, List.getElem_toArray, List.getElem_cons_zero, List.getElem_cons_succ, List.setIfInBounds_toArray, List.set_cons_zero, List.set_cons_succ])
      refine wpAnyH_take (i := 8) (v := .agg #[.int .u8 (f.d 0), .int .u8 (f.d 1), .int .u8 (f.d 2), .int .u8 (f.d 3), .int .u8 (f.d 4), .int .u8 (f.d 5), .int .u8 (f.s 0), .int .u8 (f.s 1), .int .u8 (f.s 2), .int .u8 (f.s 3), .int .u8 (f.s 4), .int .u8 (f.s 5), .slice f.ta f.tl.length f.tc, .int .i64 f.k, .int .i64 f.t, .int .i64 f.da, .int .i64 f.sa, .int .i64 f.ct, .int .i64 f.ou, .int .i64 f.pi, .string f.bo]) rfl (by kernel_rfl) (by kernel_rfl) (by kernel_rfl) (fun _ _ _ h => h) (Or.inl ⟨by rfl, fun w hSw => exec_load_fr f rfl rfl hSw⟩) (by assumption) ?_
      (try simp only [Act.put, List.getElem_toArray, List.getElem_cons_zero, List.getElem_cons_succ, List.setIfInBounds_toArray, List.set_cons_zero, List.set_cons_succ])
      refine wpAnyH_ready (rs := [7]) (by kernel_rfl) (by simp) ?_
      refine AllReadyH.cons rfl (fun K hK => ?_) AllReadyH.nil
      simp only [List.getElem_toArray, List.getElem_cons_zero, List.getElem_cons_succ]
      go_simp
      go_at_call 6; (with_reducible refine (HH.out _).mono ?_); rintro e w4 ⟨rfl, k4⟩; have hF4 : HasF w4 _ f := HasF.below hF3 k4 hF3.lt
      refine hK.out _ _ ?_ (fun hHeld => ?_)
      · exact hF4
      clear hK K
      (try simp only [Act.put, List.getElem_toArray, List.getElem_cons_zero, List.getElem_cons_succ, List.setIfInBounds_toArray, List.set_cons_zero, List.set_cons_succ])
      refine wpAnyH_ready (rs := [9]) (by kernel_rfl) (by simp) ?_
      refine AllReadyH.cons rfl (fun K hK => ?_) AllReadyH.nil
      simp only [List.getElem_toArray, List.getElem_cons_zero, List.getElem_cons_succ]
      go_simp
      go_at_call 7; (with_reducible refine (HHR.out _).mono ?_); rintro e w5 ⟨rfl, k5⟩; have hF5 : HasF w5 _ f := HasF.below hF4 k5 hF4.lt
      refine hK.out _ _ ?_ (fun hHeld => ?_)
      · exact hF5
      clear hK K
      (try simp only [Act.put, List.getElem_toArray, List.getElem_cons_zero, List.getElem_cons_succ, List.setIfInBounds_toArray, List.set_cons_zero, List.set_cons_succ])
      refine wpAnyH_take (i := 10) (v := ?_) rfl (by kernel_rfl) (by kernel_rfl) (by kernel_rfl) (fun _ _ _ h => h) (Or.inl ⟨by rfl, ?_⟩) (by assumption) ?_
      rotate_left
      · (intro w hSw; (try dsimp only at hSw); go_simp; (try with_reducible rfl))
      (try simp only [Act.put, List.getElem_toArray, List.getElem_cons_zero, List.getElem_cons_succ, List.setIfInBounds_toArray, List.set_cons_zero, List.set_cons_succ])
      refine wpAnyH_take (i := 11) (v := ?_) rfl (by kernel_rfl) (by kernel_rfl) (by kernel_rfl) (fun _ _ _ h => h) (Or.inl ⟨by rfl, ?_⟩) (by assumption) ?_
      rotate_left
      · (intro w hSw; (try dsimp only at hSw); go_simp; (try with_reducible rfl))
      (try simp only [Act.put, List.getElem_toArray, List.getElem_cons_zero, List.getElem_cons_succ, List.setIfInBounds_toArray, List.set_cons_zero, List.set_cons_succ])
      refine wpAnyH_take (i := 12) (v := ?_) rfl (by kernel_rfl) (by kernel_rfl) (by kernel_rfl) (fun _ _ _ h => h) (Or.inl ⟨by rfl, ?_⟩) (by assumption) ?_
      rotate_left
      · (intro w hSw; (try dsimp only at hSw); go_simp; (try with_reducible rfl))
      (try simp only [Act.put, List.getElem_toArray, List.getElem_cons_zero, List.getElem_cons_succ, List.setIfInBounds_toArray, List.set_cons_zero, List.set_cons_succ])
      refine wpAnyH_done (by kernel_rfl) ?_ _
      refine NoPanic.normal ?_
      have b2 : Below w.heap.size w w2 := hb0.drew.trans (k2.mono hb0.size)
      have b3 : Below w.heap.size w w3 := b2.trans (k3.mono b2.size)
      have b4 : Below w.heap.size w w4 := b3.trans (k4.mono b3.size)
      have b5 : Below w.heap.size w w5 := b4.trans (k5.mono b4.size)
      clear hF0 hF2 hF3 hF4 hF5 k2 k3 k4 k5 hI0 hI2 HS HR HH HHR hHeld b2 b3 b4
      go_wp2
      go_ret
      exact ⟨rfl, b5⟩
    · have hd2 : decide ((3000 : Int) < (f.bo.size : Int)) = true := decide_eq_true (by omega)
      unfold frV frC at *
      go_enter Try.func3, Try.ntmps3
      go_wp2
      go_ret
      exact ⟨rfl, hb0⟩
  · have hd : decide ((20 : Int) < (f.tl.length : Int)) = true := decide_eq_true (by omega)
    unfold frV frC at *
    go_enter Try.func3, Try.ntmps3
    go_wp2
    go_ret
    exact ⟨rfl, hb0⟩

end Go.Proofs.Ytmlnkellfbobcaa.frameRights
