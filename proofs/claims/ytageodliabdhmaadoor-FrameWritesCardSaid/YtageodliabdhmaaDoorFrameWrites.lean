/- switchyardlaw.FrameWrites: every frame as bytes: true, and what was there is as it was. -/
import Derived.Test.YtageodliabdhmaaDoorFWrite
import Derived.Test.YtageodliabdhmaaDoorPadF
import Derived.Test.YtageodliabdhmaaDoorRefRight
import Derived.Test.YtageodliabdhmaaDoorFrArg
import Derived.Test.YtageodliabdhmaaDoorBare
namespace Go.Proofs.YtageodliabdhmaaDoor.frameWrites
open Go.RowKit
attribute [local go_sem ↓] Go.wp_at_zero Go.wp_at_succ
set_option linter.unusedSimpArgs false
set_option linter.unusedVariables false
set_option maxRecDepth 100000

set_option maxHeartbeats 3200000 in
theorem walk_in (f : Fr) (w : World) (hI : FrIn w f) (L M : List UInt8) (e1 : Int) (er : Value) (hE : HasErr w)
    (HV : Hid (∀ W, FrIn W f → Calls Tryd.prog 4 #[frV f] W fun e w' => e = .returned (.tuple #[.string ⟨L.toArray⟩, .int .i64 e1]) ∧ Below W.heap.size W w'))
    (HW : Hid (∀ W, FrIn W f → Calls Tryd.prog 5 #[frV f] W fun e w' => e = .returned (.tuple #[.string ⟨L.toArray⟩, er]) ∧ Below W.heap.size W w'))
    (HP : Hid (∀ W, Calls Tryd.prog 7 #[.string f.bo] W fun e w' => e = .returned (.string ⟨M.toArray⟩) ∧ Below W.heap.size W w'))
    (HQ : Hid (∀ W, Calls Tryd.prog 8 #[.string f.bo] W fun e w' => e = .returned (.string ⟨M.toArray⟩) ∧ Below W.heap.size W w'))
    (hb1 : Bare er e1) :
    Calls Tryd.prog 3 #[frV f] w fun e w' => e = .returned (.bool true) ∧ Below w.heap.size w w' := by
  have hF0 := HasF.new w f
  have hb0 : Below w.heap.size w (w.alloc (.cells (frC f) 26)) := (Below.refl _ _).alloc (Nat.le_refl _) _
  have hI0 := hI.below hb0
  have hd : decide ((20 : Int) < (f.tl.length : Int)) = false := by have := hI.few; exact decide_eq_false (by omega)
  have hd2 : decide ((3000 : Int) < (f.bo.size : Int)) = false := by have := hI.short; exact decide_eq_false (by omega)
  unfold frV frC at *
  go_enter Tryd.func3, Tryd.ntmps3
  go_upto_region 1 with (fail)
  generalize w.alloc (.cells #[.int .u8 (f.d 0), .int .u8 (f.d 1), .int .u8 (f.d 2), .int .u8 (f.d 3), .int .u8 (f.d 4), .int .u8 (f.d 5), .int .u8 (f.s 0), .int .u8 (f.s 1), .int .u8 (f.s 2), .int .u8 (f.s 3), .int .u8 (f.s 4), .int .u8 (f.s 5), .slice f.ta f.tl.length f.tc, .int .i64 f.k, .int .i64 f.t, .int .i64 f.da, .int .i64 f.sa, .int .i64 f.ct, .int .i64 f.ou, .int .i64 f.pi, .string f.bo] 26) = w1 at *
  have c12 : w1.cell? ⟨w.heap.size, 12, none⟩ = some (.slice f.ta f.tl.length f.tc) := (hF0.c 12).trans rfl
  have c20 : w1.cell? ⟨w.heap.size, 20, none⟩ = some (.string f.bo) := (hF0.c 20).trans rfl
  go_upto_region 3 with (fail)
  clear c12 c20 hd hd2
  go_wp2_with (refine load_fr _ f w.heap.size (by rfl) rfl rfl hF0 ?_)
  refine (HV.out _ hI0).mono ?_
  rintro e w2 ⟨rfl, b2⟩
  have hF2 : HasF w2 w.heap.size f := hF0.below b2 hF0.lt
  have B2 := hb0.trans (b2.mono hb0.size)
  have hI2 := hI0.below b2
  clear hF0 hb0 b2 HV hI0
  go_wp2_with (refine load_fr _ f w.heap.size (by rfl) rfl rfl hF2 ?_)
  refine (HW.out _ hI2).mono ?_
  rintro e w3 ⟨rfl, b3⟩
  have hF3 : HasF w3 w.heap.size f := hF2.below b3 hF2.lt
  have B3 := B2.trans (b3.mono B2.size)
  have hL : (L == L) = true := by simp
  have hM : (M == M) = true := by simp
  clear hF2 B2 b3 HW hI2 hI
  go_upto_region 5 with (fail)
  have hF5 := hF3.drew
  have B5 := B3.drew
  refine wp_region_noPanic ?_
  refine wp_region_held_drew (S := (fun w' => w'.cell? ⟨w.heap.size, 20, none⟩ = some (.string f.bo))) (by kernel_rfl) ?_ (fun hHeld => ?_)
  · exact (hF3.c 20).trans rfl
  refine wpAnyH_take (i := 0) (v := ?_) rfl (by kernel_rfl) (by kernel_rfl) (by kernel_rfl) (fun _ _ _ h => h) (Or.inl ⟨by rfl, ?_⟩) (by assumption) ?_
  rotate_left
  · (intro w hSw; (try dsimp only at hSw); go_simp; (try with_reducible rfl))
  (try simp only [Act.put, List.getElem_toArray, List.getElem_cons_zero, List.getElem_cons_succ, List.setIfInBounds_toArray, List.set_cons_zero, List.set_cons_succ])
  refine wpAnyH_take (i := 1) (v := ?_) rfl (by kernel_rfl) (by kernel_rfl) (by kernel_rfl) (fun _ _ _ h => h) (Or.inl ⟨by rfl, ?_⟩) (by assumption) ?_
  rotate_left
  · (intro w hSw; (try dsimp only at hSw); go_simp; (try with_reducible rfl))
  (try simp only [Act.put, List.getElem_toArray, List.getElem_cons_zero, List.getElem_cons_succ, List.setIfInBounds_toArray, List.set_cons_zero, List.set_cons_succ])
  refine wpAnyH_ready (rs := [2]) (by kernel_rfl) (by simp) ?_
  refine AllReadyH.cons rfl (fun K hK => ?_) AllReadyH.nil
  simp only [List.getElem_toArray, List.getElem_cons_zero, List.getElem_cons_succ]
  go_simp
  go_at_call 6; (refine (hb1 _ (hE.below B5)).mono ?_); rintro e w6 ⟨rfl, b6⟩; have hF6 : HasF w6 w.heap.size f := hF5.below b6 hF5.lt; have B6 := B5.trans (b6.mono B5.size)
  refine hK.out _ _ ?_ (fun hHeld => ?_)
  · exact (hF6.c 20).trans rfl
  clear hK K
  (try simp only [Act.put, List.getElem_toArray, List.getElem_cons_zero, List.getElem_cons_succ, List.setIfInBounds_toArray, List.set_cons_zero, List.set_cons_succ])
  refine wpAnyH_take (i := 3) (v := ?_) rfl (by kernel_rfl) (by kernel_rfl) (by kernel_rfl) (fun _ _ _ h => h) (Or.inl ⟨by rfl, ?_⟩) (by assumption) ?_
  rotate_left
  · (intro w hSw; (try dsimp only at hSw); go_simp; (try with_reducible rfl))
  (try simp only [Act.put, List.getElem_toArray, List.getElem_cons_zero, List.getElem_cons_succ, List.setIfInBounds_toArray, List.set_cons_zero, List.set_cons_succ])
  refine wpAnyH_take (i := 4) (v := ?_) rfl (by kernel_rfl) (by kernel_rfl) (by kernel_rfl) (fun _ _ _ h => h) (Or.inl ⟨by rfl, ?_⟩) (by assumption) ?_
  rotate_left
  · (intro w hSw; (try dsimp only at hSw); go_simp; (try with_reducible rfl))
  (try simp only [Act.put, List.getElem_toArray, List.getElem_cons_zero, List.getElem_cons_succ, List.setIfInBounds_toArray, List.set_cons_zero, List.set_cons_succ])
  refine wpAnyH_take (i := 5) (v := ?_) rfl (by kernel_rfl) (by kernel_rfl) (by kernel_rfl) (fun _ _ _ h => h) (Or.inl ⟨by rfl, ?_⟩) (by assumption) ?_
  rotate_left
  · (intro w hSw; (try dsimp only at hSw); go_simp; (try with_reducible rfl))
  (try simp only [Act.put, List.getElem_toArray, List.getElem_cons_zero, List.getElem_cons_succ, List.setIfInBounds_toArray, List.set_cons_zero, List.set_cons_succ])
  refine wpAnyH_take (i := 6) (v := ?_) rfl (by kernel_rfl) (by kernel_rfl) (by kernel_rfl) (fun _ _ _ h => h) (Or.inl ⟨by rfl, ?_⟩) (by assumption) ?_
  rotate_left
  · (intro w hSw; (try dsimp only at hSw); go_simp; (try with_reducible rfl))
  (try simp only [Act.put, List.getElem_toArray, List.getElem_cons_zero, List.getElem_cons_succ, List.setIfInBounds_toArray, List.set_cons_zero, List.set_cons_succ])
  refine wpAnyH_take (i := 7) (v := ?_) rfl (by kernel_rfl) (by kernel_rfl) (by kernel_rfl) (fun _ _ _ h => h) (Or.inl ⟨by rfl, ?_⟩) (by assumption) ?_
  rotate_left
  · (intro w hSw; (try dsimp only at hSw); go_simp; (try with_reducible rfl))
  (try simp only [Act.put, List.getElem_toArray, List.getElem_cons_zero, List.getElem_cons_succ, List.setIfInBounds_toArray, List.set_cons_zero, List.set_cons_succ])
  refine wpAnyH_take (i := 8) (v := ?_) rfl (by kernel_rfl) (by kernel_rfl) (by kernel_rfl) (fun _ _ _ h => h) (Or.inl ⟨by rfl, ?_⟩) (by assumption) ?_
  rotate_left
  · (intro w hSw; (try dsimp only at hSw); go_simp; (try with_reducible rfl))
  (try simp only [Act.put, List.getElem_toArray, List.getElem_cons_zero, List.getElem_cons_succ, List.setIfInBounds_toArray, List.set_cons_zero, List.set_cons_succ])
  refine wpAnyH_take (i := 9) (v := ?_) rfl (by kernel_rfl) (by kernel_rfl) (by kernel_rfl) (fun _ _ _ h => h) (Or.inl ⟨by rfl, ?_⟩) (by assumption) ?_
  rotate_left
  · (intro w hSw; (try dsimp only at hSw); go_simp; (try with_reducible rfl))
  (try simp only [Act.put, List.getElem_toArray, List.getElem_cons_zero, List.getElem_cons_succ, List.setIfInBounds_toArray, List.set_cons_zero, List.set_cons_succ])
  refine wpAnyH_take (i := 10) (v := ?_) rfl (by kernel_rfl) (by kernel_rfl) (by kernel_rfl) (fun _ _ _ h => h) (Or.inl ⟨by rfl, ?_⟩) (by assumption) ?_
  rotate_left
  · (intro w hSw; (try dsimp only at hSw); go_simp; (try with_reducible rfl))
  (try simp only [Act.put, List.getElem_toArray, List.getElem_cons_zero, List.getElem_cons_succ, List.setIfInBounds_toArray, List.set_cons_zero, List.set_cons_succ])
  refine wpAnyH_take (i := 12) (v := ?_) rfl (by kernel_rfl) (by kernel_rfl) (by kernel_rfl) (fun _ _ _ h => h) (Or.inl ⟨by rfl, ?_⟩) (by assumption) ?_
  rotate_left
  · (intro w hSw; (try dsimp only at hSw); go_simp; (try with_reducible rfl))
  (try simp only [Act.put, List.getElem_toArray, List.getElem_cons_zero, List.getElem_cons_succ, List.setIfInBounds_toArray, List.set_cons_zero, List.set_cons_succ])
  refine wpAnyH_take (i := 13) (v := ?_) rfl (by kernel_rfl) (by kernel_rfl) (by kernel_rfl) (fun _ _ _ h => h) (Or.inl ⟨by rfl, ?_⟩) (by assumption) ?_
  rotate_left
  · (intro w hSw; (try dsimp only at hSw); go_simp; (try with_reducible rfl))
  (try simp only [Act.put, List.getElem_toArray, List.getElem_cons_zero, List.getElem_cons_succ, List.setIfInBounds_toArray, List.set_cons_zero, List.set_cons_succ])
  refine wpAnyH_ready (rs := [11]) (by kernel_rfl) (by simp) ?_
  refine AllReadyH.cons rfl (fun K hK => ?_) AllReadyH.nil
  simp only [List.getElem_toArray, List.getElem_cons_zero, List.getElem_cons_succ]
  go_simp
  go_at_call 7; (refine (HP.out _).mono ?_); rintro e w7 ⟨rfl, b7⟩; have hF7 : HasF w7 w.heap.size f := hF6.below b7 hF6.lt; have B7 := B6.trans (b7.mono B6.size)
  refine hK.out _ _ ?_ (fun hHeld => ?_)
  · exact (hF7.c 20).trans rfl
  clear hK K
  (try simp only [Act.put, List.getElem_toArray, List.getElem_cons_zero, List.getElem_cons_succ, List.setIfInBounds_toArray, List.set_cons_zero, List.set_cons_succ])
  refine wpAnyH_ready (rs := [14]) (by kernel_rfl) (by simp) ?_
  refine AllReadyH.cons rfl (fun K hK => ?_) AllReadyH.nil
  simp only [List.getElem_toArray, List.getElem_cons_zero, List.getElem_cons_succ]
  go_simp
  go_at_call 8; (refine (HQ.out _).mono ?_); rintro e w8 ⟨rfl, b8⟩; have hF8 : HasF w8 w.heap.size f := hF7.below b8 hF7.lt; have B8 := B7.trans (b8.mono B7.size)
  refine hK.out _ _ ?_ (fun hHeld => ?_)
  · exact (hF8.c 20).trans rfl
  clear hK K
  (try simp only [Act.put, List.getElem_toArray, List.getElem_cons_zero, List.getElem_cons_succ, List.setIfInBounds_toArray, List.set_cons_zero, List.set_cons_succ])
  refine wpAnyH_take (i := 15) (v := ?_) rfl (by kernel_rfl) (by kernel_rfl) (by kernel_rfl) (fun _ _ _ h => h) (Or.inl ⟨by rfl, ?_⟩) (by assumption) ?_
  rotate_left
  · (intro w hSw; (try dsimp only at hSw); go_simp; (try with_reducible rfl))
  (try simp only [Act.put, List.getElem_toArray, List.getElem_cons_zero, List.getElem_cons_succ, List.setIfInBounds_toArray, List.set_cons_zero, List.set_cons_succ])
  refine wpAnyH_take (i := 16) (v := ?_) rfl (by kernel_rfl) (by kernel_rfl) (by kernel_rfl) (fun _ _ _ h => h) (Or.inl ⟨by rfl, ?_⟩) (by assumption) ?_
  rotate_left
  · (intro w hSw; (try dsimp only at hSw); go_simp; (try with_reducible rfl))
  (try simp only [Act.put, List.getElem_toArray, List.getElem_cons_zero, List.getElem_cons_succ, List.setIfInBounds_toArray, List.set_cons_zero, List.set_cons_succ])
  refine wpAnyH_take (i := 17) (v := ?_) rfl (by kernel_rfl) (by kernel_rfl) (by kernel_rfl) (fun _ _ _ h => h) (Or.inl ⟨by rfl, ?_⟩) (by assumption) ?_
  rotate_left
  · (intro w hSw; (try dsimp only at hSw); go_simp; (try with_reducible rfl))
  (try simp only [Act.put, List.getElem_toArray, List.getElem_cons_zero, List.getElem_cons_succ, List.setIfInBounds_toArray, List.set_cons_zero, List.set_cons_succ])
  refine wpAnyH_done (by kernel_rfl) ?_ _
  refine NoPanic.normal ?_
  go_wp2
  go_ret
  exact ⟨rfl, B8⟩

theorem walk (f : Fr) (w : World) (hx : FrArg w f ∧ (∀ i, f.d i < 256) ∧ ∀ i, f.s i < 256) (hE : HasErr w) :
    Calls Tryd.prog 3 #[frV f] w fun e w' => e = .returned (.bool true) ∧ Below w.heap.size w w' := by
  obtain ⟨hf, hd8, hs8⟩ := hx
  have hF0 := HasF.new w f
  have hb0 : Below w.heap.size w (w.alloc (.cells (frC f) 26)) := (Below.refl _ _).alloc (Nat.le_refl _) _
  by_cases ht : f.tl.length ≤ 20
  · by_cases hs : f.bo.size ≤ 3000
    · have hI := hf.in ht hs
      have hRR : Hid (∀ W, FrIn W f → Calls Tryd.prog 9 #[frV f] W fun e w' => e = .returned (.bool (rightB f)) ∧ Below W.heap.size W w') := fun W x => refFrameRight_any f W x
      have hl : f.bo.data.toList.length ≤ 3000 := by have : f.bo.data.toList.length = f.bo.size := by simp
                                                     omega
      have hP : ∀ W, Calls Tryd.prog 7 #[.string f.bo] W fun e w' => e = .returned (.string ⟨(padL f.bo.data.toList).toArray⟩) ∧ Below W.heap.size W w' := fun W => pad_any f.bo.data.toList W hl
      have hQ : ∀ W, Calls Tryd.prog 8 #[.string f.bo] W fun e w' => e = .returned (.string ⟨(padL f.bo.data.toList).toArray⟩) ∧ Below W.heap.size W w' := fun W => refPad_any f.bo.data.toList W hl
      cases hr : rightB f with
      | true =>
        have hst : stackB f.tl = true := by
          have h := hr
          unfold rightB at h
          simp only [Bool.and_eq_true] at h
          exact h.1
        exact walk_in f w hI (writeL f) _ 0 .nilIface hE (fun W h => refWrite_yes f W h hd8 hs8 hr hst hRR) (fun W h => write_yes f W h hd8 hs8 hr hst) hP hQ Bare.none
      | false => exact walk_in f w hI [] _ 1 (.iface 27 (.int .i64 1)) hE (fun W h => refWrite_no f W h hr hRR) (fun W h => write_no f W h hr) hP hQ (Bare.errno 1)
    · have hd : decide ((20 : Int) < (f.tl.length : Int)) = false := decide_eq_false (by omega)
      have hd2 : decide ((3000 : Int) < (f.bo.size : Int)) = true := decide_eq_true (by omega)
      unfold frV frC at *
      go_enter Tryd.func3, Tryd.ntmps3
      go_wp2
      go_ret
      exact ⟨rfl, hb0⟩
  · have hd : decide ((20 : Int) < (f.tl.length : Int)) = true := decide_eq_true (by omega)
    unfold frV frC at *
    go_enter Tryd.func3, Tryd.ntmps3
    go_wp2
    go_ret
    exact ⟨rfl, hb0⟩

end Go.Proofs.YtageodliabdhmaaDoor.frameWrites
