/- The reference's FrameRight at every frame. -/
import Derived.Test.YtmlnkellfbobcaaFrRight
import Derived.Test.YtmlnkellfbobcaaRefHead
import Derived.Test.YtmlnkellfbobcaaRefStack
import Derived.Test.YtmlnkellfbobcaaFrSame
import Derived.Test.YtmlnkellfbobcaaStFr
import Derived.BigGuard
namespace Go.Proofs.Ytmlnkellfbobcaa
open Go.RowKit
attribute [local go_sem ↓] Go.wp_at_zero Go.wp_at_succ
set_option linter.unusedSimpArgs false
set_option linter.unusedVariables false
set_option maxRecDepth 100000


set_option maxHeartbeats 4000000 in
theorem refRight_snap (f : Fr) (w : World) (hf : FrIn w f) (hst : stackB f.tl = true) (hlg : longB f = false) (hk : f.k = 3) :
    Calls Try.prog 5 #[frV f] w fun e w' => e = .returned (.bool (snapB f && (decide (hdI f.k + f.bo.size ≤ 1500) && upB 0 [f.t, f.da, f.sa, f.ct]))) ∧ Below w.heap.size w w' := by
  have hb0 : Below w.heap.size w (w.alloc (.cells (frC f) 26)) := (Below.refl _ _).alloc (Nat.le_refl _) _
  have hF0 := HasF.new w f
  have hI0 := hf.below hb0
  have hfew := hf.few
  have hshort := hf.short
  have hd := hdI_le f.k
  have HST : Hid (∀ W, TagsIn W f.ta f.tl → Calls Try.prog 14 #[.slice f.ta f.tl.length f.tc] W fun e w' => e = .returned (.bool (stackB f.tl)) ∧ Below W.heap.size W w') := fun W h => refStack_any f.ta f.tc f.tl W h (by omega)
  rw [hst] at HST
  clear hst
  have HHD : Hid (∀ W, Calls Try.prog 7 #[.agg #[.int .u8 (f.d 0), .int .u8 (f.d 1), .int .u8 (f.d 2), .int .u8 (f.d 3), .int .u8 (f.d 4), .int .u8 (f.d 5), .int .u8 (f.s 0), .int .u8 (f.s 1), .int .u8 (f.s 2), .int .u8 (f.s 3), .int .u8 (f.s 4), .int .u8 (f.s 5), .slice f.ta f.tl.length f.tc, .int .i64 f.k, .int .i64 f.t, .int .i64 f.da, .int .i64 f.sa, .int .i64 f.ct, .int .i64 f.ou, .int .i64 f.pi, .string f.bo]] W fun e w' => e = .returned (.int .i64 (14 + 4 * (f.tl.length : Int) + hdI f.k)) ∧ Below W.heap.size W w') := fun W => refHead_any f W hfew
  have h63 : IntKind.i64.wrap (14 + 4 * (f.tl.length : Int) + hdI f.k + (f.bo.size : Int)) = 14 + 4 * (f.tl.length : Int) + hdI f.k + (f.bo.size : Int) := by rw [IntKind.wrap_i64]; omega
  unfold longB at hlg
  have HW : Hid (∀ n lo hi W, Calls Try.prog 15 #[.int .i64 n, .int .i64 lo, .int .i64 hi] W fun e w' => e = .returned (.bool (inB n lo hi)) ∧ W = w') := fun n lo hi W => within_any n lo hi W
  have q1 : (f.k == 1) = false := by rw [hk]; rfl
  have q2 : (f.k == 2) = false := by rw [hk]; rfl
  have q3 : (f.k == 3) = true := by rw [hk]; rfl
  clear hk
  unfold frV frC at *
  go_enter Try.func5, Try.ntmps5
  go_wp2
  generalize w.alloc (.cells #[.int .u8 (f.d 0), .int .u8 (f.d 1), .int .u8 (f.d 2), .int .u8 (f.d 3), .int .u8 (f.d 4), .int .u8 (f.d 5), .int .u8 (f.s 0), .int .u8 (f.s 1), .int .u8 (f.s 2), .int .u8 (f.s 3), .int .u8 (f.s 4), .int .u8 (f.s 5), .slice f.ta f.tl.length f.tc, .int .i64 f.k, .int .i64 f.t, .int .i64 f.da, .int .i64 f.sa, .int .i64 f.ct, .int .i64 f.ou, .int .i64 f.pi, .string f.bo] 26) = w1 at *
  have S1 : HasF w1 w.heap.size f ∧ w1.cell? ⟨w.heap.size, 12, none⟩ = some (.slice f.ta f.tl.length f.tc) ∧ w1.cell? ⟨w.heap.size, 20, none⟩ = some (.string f.bo) := ⟨hF0, (hF0.c 12).trans rfl, (hF0.c 20).trans rfl⟩
  refine wp_region_noPanic ?_
  refine wp_region_held_drew (S := (fun w' => HasF w' w.heap.size f ∧ w'.cell? ⟨w.heap.size, 12, none⟩ = some (.slice f.ta f.tl.length f.tc) ∧ w'.cell? ⟨w.heap.size, 20, none⟩ = some (.string f.bo))) (by kernel_rfl) ?_ (fun hHeld => ?_)
  · exact S1
  refine wpAnyH_take (i := 0) (v := ?_) rfl (by kernel_rfl) (by kernel_rfl) (by kernel_rfl) (fun _ _ _ h => h) (Or.inl ⟨by rfl, ?_⟩) (by assumption) ?_
  rotate_left
  · (intro w hSw; (try dsimp only at hSw); go_simp; (try with_reducible rfl))
  (try simp only [Act.put, List.getElem_toArray, List.getElem_cons_zero, List.getElem_cons_succ, List.setIfInBounds_toArray, List.set_cons_zero, List.set_cons_succ])
  refine wpAnyH_take (i := 1) (v := ?_) rfl (by kernel_rfl) (by kernel_rfl) (by kernel_rfl) (fun _ _ _ h => h) (Or.inl ⟨by rfl, ?_⟩) (by assumption) ?_
  rotate_left
  · (intro w hSw; (try dsimp only at hSw); go_simp; (try with_reducible rfl))
  (try simp only [Act.put, List.getElem_toArray, List.getElem_cons_zero, List.getElem_cons_succ, List.setIfInBounds_toArray, List.set_cons_zero, List.set_cons_succ])
  refine wpAnyH_ready (rs := [2]) (by kernel_rfl) (by simp) ?_
  refine AllReadyH.cons rfl (fun K hK => ?_) AllReadyH.nil
  simp only [List.getElem_toArray, List.getElem_cons_zero, List.getElem_cons_succ]
  go_simp
  go_at_call 14; (with_reducible refine (HST.out _ ?_).mono ?_); (exact hI0.tags); rintro e w2 ⟨rfl, k2⟩; have hF2 : HasF w2 _ f := HasF.below hF0.drew k2 hF0.lt; have S2 : HasF w2 w.heap.size f ∧ w2.cell? ⟨w.heap.size, 12, none⟩ = some (.slice f.ta f.tl.length f.tc) ∧ w2.cell? ⟨w.heap.size, 20, none⟩ = some (.string f.bo) := ⟨hF2, (hF2.c 12).trans rfl, (hF2.c 20).trans rfl⟩
  refine hK.out _ _ ?_ (fun hHeld => ?_)
  · exact S2
  clear hK K
  (try simp only [Act.put, List.getElem_toArray, List.getElem_cons_zero, List.getElem_cons_succ, List.setIfInBounds_toArray, List.set_cons_zero, List.set_cons_succ])
  refine wpAnyH_take (i := 3) (v := ?_) rfl (by kernel_rfl) (by kernel_rfl) (by kernel_rfl) (fun _ _ _ h => h) (Or.inl ⟨by rfl, ?_⟩) (by assumption) ?_
  rotate_left
  · (intro w hSw; (try dsimp only at hSw); go_simp; (try with_reducible rfl))
  (try simp only [Act.put, List.getElem_toArray, List.getElem_cons_zero, List.getElem_cons_succ, List.setIfInBounds_toArray, List.set_cons_zero, List.set_cons_succ])
  refine wpAnyH_take (i := 4) (v := ?_) rfl (by kernel_rfl) (by kernel_rfl) (by kernel_rfl) (fun _ _ _ h => h) (Or.inl ⟨by rfl, ?_⟩) (by assumption) ?_
  rotate_left
  · (intro w hSw; (try dsimp only at hSw); go_simp; (try with_reducible rfl))
  (try simp only [Act.put, List.getElem_toArray, List.getElem_cons_zero, List.getElem_cons_succ, List.setIfInBounds_toArray, List.set_cons_zero, List.set_cons_succ])
  refine wpAnyH_take (i := 5) (v := .agg #[.int .u8 (f.d 0), .int .u8 (f.d 1), .int .u8 (f.d 2), .int .u8 (f.d 3), .int .u8 (f.d 4), .int .u8 (f.d 5), .int .u8 (f.s 0), .int .u8 (f.s 1), .int .u8 (f.s 2), .int .u8 (f.s 3), .int .u8 (f.s 4), .int .u8 (f.s 5), .slice f.ta f.tl.length f.tc, .int .i64 f.k, .int .i64 f.t, .int .i64 f.da, .int .i64 f.sa, .int .i64 f.ct, .int .i64 f.ou, .int .i64 f.pi, .string f.bo]) rfl (by kernel_rfl) (by kernel_rfl) (by kernel_rfl) (fun _ _ _ h => h) (Or.inl ⟨by rfl, fun w hSw => exec_load_fr f rfl rfl hSw.1⟩) (by assumption) ?_
  (try simp only [Act.put, List.getElem_toArray, List.getElem_cons_zero, List.getElem_cons_succ, List.setIfInBounds_toArray, List.set_cons_zero, List.set_cons_succ])
  refine wpAnyH_take (i := 7) (v := ?_) rfl (by kernel_rfl) (by kernel_rfl) (by kernel_rfl) (fun _ _ _ h => h) (Or.inl ⟨by rfl, ?_⟩) (by assumption) ?_
  rotate_left
  · (intro w hSw; (try dsimp only at hSw); go_simp; (try with_reducible rfl))
  (try simp only [Act.put, List.getElem_toArray, List.getElem_cons_zero, List.getElem_cons_succ, List.setIfInBounds_toArray, List.set_cons_zero, List.set_cons_succ])
  refine wpAnyH_take (i := 8) (v := ?_) rfl (by kernel_rfl) (by kernel_rfl) (by kernel_rfl) (fun _ _ _ h => h) (Or.inl ⟨by rfl, ?_⟩) (by assumption) ?_
  rotate_left
  · (intro w hSw; (try dsimp only at hSw); go_simp; (try with_reducible rfl))
  (try simp only [Act.put, List.getElem_toArray, List.getElem_cons_zero, List.getElem_cons_succ, List.setIfInBounds_toArray, List.set_cons_zero, List.set_cons_succ])
  refine wpAnyH_take (i := 9) (v := ?_) rfl (by kernel_rfl) (by kernel_rfl) (by kernel_rfl) (fun _ _ _ h => h) (Or.inl ⟨by rfl, ?_⟩) (by assumption) ?_
  rotate_left
  · (intro w hSw; (try dsimp only at hSw); go_simp; (try with_reducible rfl))
  (try simp only [Act.put, List.getElem_toArray, List.getElem_cons_zero, List.getElem_cons_succ, List.setIfInBounds_toArray, List.set_cons_zero, List.set_cons_succ])
  refine wpAnyH_ready (rs := [6]) (by kernel_rfl) (by simp) ?_
  refine AllReadyH.cons rfl (fun K hK => ?_) AllReadyH.nil
  simp only [List.getElem_toArray, List.getElem_cons_zero, List.getElem_cons_succ]
  go_simp
  go_at_call 7; (with_reducible refine (HHD.out _).mono ?_); rintro e w3 ⟨rfl, k3⟩; have hF3 : HasF w3 _ f := HasF.below hF2 k3 hF2.lt; have S3 : HasF w3 w.heap.size f ∧ w3.cell? ⟨w.heap.size, 12, none⟩ = some (.slice f.ta f.tl.length f.tc) ∧ w3.cell? ⟨w.heap.size, 20, none⟩ = some (.string f.bo) := ⟨hF3, (hF3.c 12).trans rfl, (hF3.c 20).trans rfl⟩
  refine hK.out _ _ ?_ (fun hHeld => ?_)
  · exact S3
  clear hK K
  (try simp only [Act.put, List.getElem_toArray, List.getElem_cons_zero, List.getElem_cons_succ, List.setIfInBounds_toArray, List.set_cons_zero, List.set_cons_succ])
  refine wpAnyH_take (i := 10) (v := ?_) rfl (by kernel_rfl) (by kernel_rfl) (by kernel_rfl) (fun _ _ _ h => h) (Or.inl ⟨by rfl, ?_⟩) (by assumption) ?_
  rotate_left
  · (intro w hSw; (try dsimp only at hSw); go_simp; (try with_reducible rfl))
  (try simp only [Act.put, List.getElem_toArray, List.getElem_cons_zero, List.getElem_cons_succ, List.setIfInBounds_toArray, List.set_cons_zero, List.set_cons_succ])
  refine wpAnyH_take (i := 11) (v := ?_) rfl (by kernel_rfl) (by kernel_rfl) (by kernel_rfl) (fun _ _ _ h => h) (Or.inl ⟨by rfl, ?_⟩) (by assumption) ?_
  rotate_left
  · (intro w hSw; (try dsimp only at hSw); go_simp; (try with_reducible rfl))
  (try simp only [Act.put, List.getElem_toArray, List.getElem_cons_zero, List.getElem_cons_succ, List.setIfInBounds_toArray, List.set_cons_zero, List.set_cons_succ])
  refine wpAnyH_take (i := 12) (v := ?_) rfl (by kernel_rfl) (by kernel_rfl) (by kernel_rfl) (fun _ _ _ h => h) (Or.inl ⟨by rfl, ?_⟩) (by assumption) ?_
  rotate_left
  · (intro w hSw; (try dsimp only at hSw); go_simp; (try with_reducible rfl))
  (try simp only [Act.put, List.getElem_toArray, List.getElem_cons_zero, List.getElem_cons_succ, List.setIfInBounds_toArray, List.set_cons_zero, List.set_cons_succ])
  refine wpAnyH_done (by kernel_rfl) ?_ _
  refine NoPanic.normal ?_
  have b2 : Below w.heap.size w w2 := hb0.drew.trans (k2.mono hb0.size)
  have b3 : Below w.heap.size w w3 := b2.trans (k3.mono b2.size)
  clear S1 S2 S3 k2 k3 hF0 hF2 hHeld hI0 HST HHD b2 h63
  have hmm := @run_makeMap Try.prog
  obtain ⟨w4, w5, w6, hm1, hm2, hm3, hm4, bm5, bm6⟩ := lit_world w3
  have hF6 : HasF w6 _ f := hF3.below bm6 hF3.lt
  have b6 : Below w.heap.size w w6 := b3.trans (bm6.mono b3.size)
  have hm4k := hm4 f.k
  rw [hm1] at hm2
  have c13 : w6.cell? ⟨w.heap.size, 13, none⟩ = some (.int .i64 f.k) := (hF6.c 13).trans rfl
  have c14 : w6.cell? ⟨w.heap.size, 14, none⟩ = some (.int .i64 f.t) := (hF6.c 14).trans rfl
  have c15 : w6.cell? ⟨w.heap.size, 15, none⟩ = some (.int .i64 f.da) := (hF6.c 15).trans rfl
  have c16 : w6.cell? ⟨w.heap.size, 16, none⟩ = some (.int .i64 f.sa) := (hF6.c 16).trans rfl
  have c17 : w6.cell? ⟨w.heap.size, 17, none⟩ = some (.int .i64 f.ct) := (hF6.c 17).trans rfl
  have c18 : w6.cell? ⟨w.heap.size, 18, none⟩ = some (.int .i64 f.ou) := (hF6.c 18).trans rfl
  have c19 : w6.cell? ⟨w.heap.size, 19, none⟩ = some (.int .i64 f.pi) := (hF6.c 19).trans rfl
  have c20 : w6.cell? ⟨w.heap.size, 20, none⟩ = some (.string f.bo) := (hF6.c 20).trans rfl
  have hlt6 := hF6.lt
  clear hm1 hm4 hF3 bm5 bm6 b3
  have HFS : Hid (∀ W, Calls Try.prog 16 #[frV ({ bareF f with ou := 0, pi := 0 }), frV zF] W fun e w' => e = .returned (.bool (sameB ({ bareF f with ou := 0, pi := 0 }) zF)) ∧ Below W.heap.size W w') := fun W => refSame_any _ _ W (frIn_bare W _ rfl rfl) (frIn_bare W _ rfl rfl)
  go_upto_region 4 with (fail)
  refine wp_region_lit ?_
  refine load_fr (.tmp 1) f w.heap.size (by rfl) rfl rfl hF6 ?_
  refine alloc_fr (by rfl) rfl ?_
  refine store_fld (.tmp 4) (.tmp 27) w6.heap.size 0 zF f 26 (frV f) (by rfl) rfl rfl rfl Try.frSize (Nat.le_refl 21) (frC_one f) (by rfl) (HasF.new w6 zF) (fun w7 HR7 b7 => ?_)
  have hF7 : HasF w7 w.heap.size f := (hF6.below ((Below.refl _ _).alloc (Nat.le_refl _) _) hF6.lt).below b7 hF6.lt
  have B7 : Below w.heap.size w w7 := b6.trans ((((Below.refl _ _).alloc (Nat.le_refl _) _).trans (b7.mono (by simp))).mono b6.size)
  clear b7 hF6 b6 hm2 hm3 hm4k
  (try simp only [Act.put, List.getElem_toArray, List.getElem_cons_zero, List.getElem_cons_succ, List.setIfInBounds_toArray, List.set_cons_zero, List.set_cons_succ])
  go_wp2_with (first | ((refine store_fld _ _ w6.heap.size 0 f (bare1 f) 23 (.agg #[.int .u8 0, .int .u8 0, .int .u8 0, .int .u8 0, .int .u8 0, .int .u8 0]) (by rfl) rfl rfl rfl (by kernel_rfl) (by decide) rfl rfl HR7 (fun w8 HR8 b8 => ?_)); have hF8 : HasF w8 w.heap.size f := hF7.below b8 hlt6; have B8 : Below w.heap.size w w8 := B7.trans (b8.mono (Nat.le_of_lt hlt6)); clear HR7 hF7 B7 b8) | ((refine store_fld _ _ w6.heap.size 6 (bare1 f) (bare2 f) 23 (.agg #[.int .u8 0, .int .u8 0, .int .u8 0, .int .u8 0, .int .u8 0, .int .u8 0]) (by rfl) rfl rfl rfl (by kernel_rfl) (by decide) rfl rfl HR8 (fun w9 HR9 b9 => ?_)); have hF9 : HasF w9 w.heap.size f := hF8.below b9 hlt6; have B9 : Below w.heap.size w w9 := B8.trans (b9.mono (Nat.le_of_lt hlt6)); clear HR8 hF8 B8 b9) | ((refine store_fld _ _ w6.heap.size 12 (bare2 f) (bare3 f) 24 (.slice none 0 0) (by rfl) rfl rfl rfl (by kernel_rfl) (by decide) rfl rfl HR9 (fun w10 HR10 b10 => ?_)); have hF10 : HasF w10 w.heap.size f := hF9.below b10 hlt6; have B10 : Below w.heap.size w w10 := B9.trans (b10.mono (Nat.le_of_lt hlt6)); clear HR9 hF9 B9 b10) | ((refine store_fld _ _ w6.heap.size 20 (bare3 f) (bare4 f) 9 (.string ⟨#[]⟩) (by rfl) rfl rfl rfl (by kernel_rfl) (by decide) rfl rfl HR10 (fun w11 HR11 b11 => ?_)); have hF11 : HasF w11 w.heap.size f := hF10.below b11 hlt6; have B11 : Below w.heap.size w w11 := B10.trans (b11.mono (Nat.le_of_lt hlt6)); clear HR10 hF10 B10 b11) | ((refine store_fld _ _ w6.heap.size 13 (bare4 f) (bareF f) 3 (.int .i64 0) (by rfl) rfl rfl rfl (by kernel_rfl) (by decide) rfl rfl HR11 (fun w12 HR12 b12 => ?_)); have hF12 : HasF w12 w.heap.size f := hF11.below b12 hlt6; have B12 : Below w.heap.size w w12 := B11.trans (b12.mono (Nat.le_of_lt hlt6)); clear HR11 hF11 B11 b12; have e12_13 : w12.cell? ⟨w.heap.size, 13, none⟩ = some (.int .i64 f.k) := (hF12.c 13).trans rfl) | ((refine store_fld _ _ w6.heap.size 18 (bareF f) ({ bareF f with ou := 0 }) 3 (.int .i64 0) (by rfl) rfl rfl rfl (by kernel_rfl) (by decide) rfl rfl HR12 (fun w13 HR13 b13 => ?_)); have hF13 : HasF w13 w.heap.size f := hF12.below b13 hlt6; have B13 : Below w.heap.size w w13 := B12.trans (b13.mono (Nat.le_of_lt hlt6)); clear HR12 hF12 B12 b13) | ((refine store_fld _ _ w6.heap.size 19 ({ bareF f with ou := 0 }) ({ bareF f with ou := 0, pi := 0 }) 3 (.int .i64 0) (by rfl) rfl rfl rfl (by kernel_rfl) (by decide) rfl rfl HR13 (fun w14 HR14 b14 => ?_)); have hF14 : HasF w14 w.heap.size f := hF13.below b14 hlt6; have B14 : Below w.heap.size w w14 := B13.trans (b14.mono (Nat.le_of_lt hlt6)); clear HR13 hF13 B13 b14; have e14_18 : w14.cell? ⟨w.heap.size, 18, none⟩ = some (.int .i64 f.ou) := (hF14.c 18).trans rfl; have e14_19 : w14.cell? ⟨w.heap.size, 19, none⟩ = some (.int .i64 f.pi) := (hF14.c 19).trans rfl) | (go_at_call 15; (with_reducible refine (HW.out _ _ _ _).mono ?_); rintro e w9 ⟨rfl, rfl⟩) | (refine load_fr (.tmp 4) ({ bareF f with ou := 0, pi := 0 }) w6.heap.size (by rfl) rfl rfl HR14 ?_) | (go_at_call 16; refine (HFS.out _).mono ?_; rintro e w20 ⟨rfl, b20⟩))
  all_goals go_ret
  all_goals first
    | exact ⟨by rw [snap_no1 f _ (no_of _ ‹_›)]; rfl, B14⟩
    | exact ⟨by rw [snap_no2 f _ (no_of _ ‹_›)]; rfl, B14⟩
    | exact ⟨by rw [inner_no _ _ _ ‹_›]; rfl, B14⟩
    | exact ⟨by rw [snap_yes f _ ‹_› ‹_› ‹_›, same_zero _ rfl rfl rfl rfl rfl]; exact congrArg (fun b => Ending.returned (Value.bool b)) (snap_up _ _ _ _), B14.trans (b20.mono B14.size)⟩

end Go.Proofs.Ytmlnkellfbobcaa
