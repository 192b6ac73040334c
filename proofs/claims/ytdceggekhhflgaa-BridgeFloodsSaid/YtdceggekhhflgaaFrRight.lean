/- frame.Right at every frame. -/
import Derived.Test.YtdceggekhhflgaaFr
namespace Go.Proofs.Ytdceggekhhflgaa
open Go.RowKit
attribute [local go_sem ↓] Go.wp_at_zero Go.wp_at_succ
set_option linter.unusedSimpArgs false

def kindB (f : Fr) : Bool :=
  if f.k = 1 then typB f.t && upB 0 [f.da, f.sa, f.ct, f.ou, f.pi]
  else if f.k = 2 then llcB f && (decide (hdI f.k + f.bo.size ≤ 1500) && upB 0 [f.t, f.ou, f.pi])
  else if f.k = 3 then snapB f && (decide (hdI f.k + f.bo.size ≤ 1500) && upB 0 [f.t, f.da, f.sa, f.ct])
  else false

def longB (f : Fr) : Bool := decide (2000 < 14 + 4 * (f.tl.length : Int) + hdI f.k + f.bo.size)

def rightB (f : Fr) : Bool := stackB f.tl && (!longB f && kindB f)

theorem head_lit (f : Fr) (w : World) (hs : f.tl.length ≤ 20) :
    Calls Try.prog 57 #[.agg #[.int .u8 (f.d 0), .int .u8 (f.d 1), .int .u8 (f.d 2), .int .u8 (f.d 3), .int .u8 (f.d 4), .int .u8 (f.d 5), .int .u8 (f.s 0), .int .u8 (f.s 1), .int .u8 (f.s 2), .int .u8 (f.s 3), .int .u8 (f.s 4), .int .u8 (f.s 5), .slice f.ta f.tl.length f.tc, .int .i64 f.k, .int .i64 f.t, .int .i64 f.da, .int .i64 f.sa, .int .i64 f.ct, .int .i64 f.ou, .int .i64 f.pi, .string f.bo]] w fun e w' => e = .returned (.int .i64 (14 + 4 * (f.tl.length : Int) + hdI f.k)) ∧ Below w.heap.size w w' := head_any f w hs

set_option maxHeartbeats 4000000 in
theorem right_unstacked (f : Fr) (w : World) (hf : FrIn w f) (hst : stackB f.tl = false) :
    Calls Try.prog 33 #[frV f] w fun e w' => e = .returned (.bool false) ∧ Below w.heap.size w w' := by
  have hb0 : Below w.heap.size w (w.alloc (.cells (frC f) 36)) := (Below.refl _ _).alloc (Nat.le_refl _) _
  have hF0 := HasF.new w f
  have hI0 := hf.below hb0
  have hfew := hf.few
  have hshort := hf.short
  have hd := hdI_le f.k
  have HST : Hid (∀ W, TagsIn W f.ta f.tl → Calls Try.prog 56 #[.slice f.ta f.tl.length f.tc] W fun e w' => e = .returned (.bool (stackB f.tl)) ∧ Below W.heap.size W w') := fun W h => stack_any f.ta f.tc f.tl W h (by omega)
  rw [hst] at HST
  clear hst
  unfold frV frC at *
  go_enter Try.func33, Try.ntmps33
  go_wp2
  generalize w.alloc (.cells #[.int .u8 (f.d 0), .int .u8 (f.d 1), .int .u8 (f.d 2), .int .u8 (f.d 3), .int .u8 (f.d 4), .int .u8 (f.d 5), .int .u8 (f.s 0), .int .u8 (f.s 1), .int .u8 (f.s 2), .int .u8 (f.s 3), .int .u8 (f.s 4), .int .u8 (f.s 5), .slice f.ta f.tl.length f.tc, .int .i64 f.k, .int .i64 f.t, .int .i64 f.da, .int .i64 f.sa, .int .i64 f.ct, .int .i64 f.ou, .int .i64 f.pi, .string f.bo] 36) = w1 at *
  have S1 : HasF w1 w.heap.size f ∧ w1.cell? ⟨w.heap.size, 12, none⟩ = some (.slice f.ta f.tl.length f.tc) ∧ w1.cell? ⟨w.heap.size, 20, none⟩ = some (.string f.bo) := ⟨hF0, (hF0.c 12).trans rfl, (hF0.c 20).trans rfl⟩
  refine wp_region_noPanic ?_
  refine wp_region_held_drew (S := (fun w' => HasF w' w.heap.size f ∧ w'.cell? ⟨w.heap.size, 12, none⟩ = some (.slice f.ta f.tl.length f.tc) ∧ w'.cell? ⟨w.heap.size, 20, none⟩ = some (.string f.bo))) (by kernel_rfl) ?_ (fun hHeld => ?_)
  · exact S1
  refine wpAnyH_take (i := 0) (v := ?_) rfl (by kernel_rfl) (by kernel_rfl) (by kernel_rfl) (fun _ _ _ h => h) (Or.inl ⟨by rfl, ?_⟩) (by assumption) ?_
  rotate_left
  · (intro w hSw; (try dsimp only at hSw); go_simp; (try with_reducible rfl))
  (try simp only [Act.put, List.getElem_toArray, List.getElem_cons_zero, List.getElem_cons_succ, List.setIfInBounds_toArray, List.set_cons_zero, List.set_cons_succ])
  refine wpAnyH_take (i := 1) (v := ?_) rfl (by kernel_rfl) (by kernel_rfl) (by kernel_rfl) (fun _ _ _ h => h) (Or.inl ⟨by rfl, ?_⟩) (by assumption) ?_
  rotate_left
  · (intro w hSw; (try dsimp only at hSw); go_simp; (try with_reducible rfl))
  (try simp only [Act.put, List.getElem_toArray, List.getElem_cons_zero, List.getElem_cons_succ, List.setIfInBounds_toArray, List.set_cons_zero, List.set_cons_succ])
  refine wpAnyH_ready (rs := [2]) (by kernel_rfl) (by simp) ?_
  refine AllReadyH.cons rfl (fun K hK => ?_) AllReadyH.nil
  simp only [List.getElem_toArray, List.getElem_cons_zero, List.getElem_cons_succ]
  go_simp
  go_at_call 56; (with_reducible refine (HST.out _ ?_).mono ?_); (exact hI0.tags); rintro e w2 ⟨rfl, k2⟩; have hF2 : HasF w2 _ f := HasF.below hF0.drew k2 hF0.lt; have S2 : HasF w2 w.heap.size f ∧ w2.cell? ⟨w.heap.size, 12, none⟩ = some (.slice f.ta f.tl.length f.tc) ∧ w2.cell? ⟨w.heap.size, 20, none⟩ = some (.string f.bo) := ⟨hF2, (hF2.c 12).trans rfl, (hF2.c 20).trans rfl⟩
  refine hK.out _ _ ?_ (fun hHeld => ?_)
  · exact S2
  clear hK K
  (try simp only [Act.put, List.getElem_toArray, List.getElem_cons_zero, List.getElem_cons_succ, List.setIfInBounds_toArray, List.set_cons_zero, List.set_cons_succ])
  refine wpAnyH_take (i := 3) (v := ?_) rfl (by kernel_rfl) (by kernel_rfl) (by kernel_rfl) (fun _ _ _ h => h) (Or.inl ⟨by rfl, ?_⟩) (by assumption) ?_
  rotate_left
  · (intro w hSw; (try dsimp only at hSw); go_simp; (try with_reducible rfl))
  (try simp only [Act.put, List.getElem_toArray, List.getElem_cons_zero, List.getElem_cons_succ, List.setIfInBounds_toArray, List.set_cons_zero, List.set_cons_succ])
  refine wpAnyH_take (i := 4) (v := ?_) rfl (by kernel_rfl) (by kernel_rfl) (by kernel_rfl) (fun _ _ _ h => h) (Or.inl ⟨by rfl, ?_⟩) (by assumption) ?_
  rotate_left
  · (intro w hSw; (try dsimp only at hSw); go_simp; (try with_reducible rfl))
  (try simp only [Act.put, List.getElem_toArray, List.getElem_cons_zero, List.getElem_cons_succ, List.setIfInBounds_toArray, List.set_cons_zero, List.set_cons_succ])
  refine wpAnyH_take (i := 5) (v := undef) rfl (by kernel_rfl) (by kernel_rfl) (by kernel_rfl) (fun _ _ _ h => h) (Or.inr ⟨by rfl, rfl⟩) (by assumption) ?_
  (try simp only [Act.put, List.getElem_toArray, List.getElem_cons_zero, List.getElem_cons_succ, List.setIfInBounds_toArray, List.set_cons_zero, List.set_cons_succ])
  refine wpAnyH_take (i := 6) (v := undef) rfl (by kernel_rfl) (by kernel_rfl) (by kernel_rfl) (fun _ _ _ h => h) (Or.inr ⟨by rfl, rfl⟩) (by assumption) ?_
  (try simp only [Act.put, List.getElem_toArray, List.getElem_cons_zero, List.getElem_cons_succ, List.setIfInBounds_toArray, List.set_cons_zero, List.set_cons_succ])
  refine wpAnyH_take (i := 7) (v := undef) rfl (by kernel_rfl) (by kernel_rfl) (by kernel_rfl) (fun _ _ _ h => h) (Or.inr ⟨by rfl, rfl⟩) (by assumption) ?_
  (try simp only [Act.put, List.getElem_toArray, List.getElem_cons_zero, List.getElem_cons_succ, List.setIfInBounds_toArray, List.set_cons_zero, List.set_cons_succ])
  refine wpAnyH_take (i := 8) (v := undef) rfl (by kernel_rfl) (by kernel_rfl) (by kernel_rfl) (fun _ _ _ h => h) (Or.inr ⟨by rfl, rfl⟩) (by assumption) ?_
  (try simp only [Act.put, List.getElem_toArray, List.getElem_cons_zero, List.getElem_cons_succ, List.setIfInBounds_toArray, List.set_cons_zero, List.set_cons_succ])
  refine wpAnyH_take (i := 9) (v := undef) rfl (by kernel_rfl) (by kernel_rfl) (by kernel_rfl) (fun _ _ _ h => h) (Or.inr ⟨by rfl, rfl⟩) (by assumption) ?_
  (try simp only [Act.put, List.getElem_toArray, List.getElem_cons_zero, List.getElem_cons_succ, List.setIfInBounds_toArray, List.set_cons_zero, List.set_cons_succ])
  refine wpAnyH_take (i := 10) (v := undef) rfl (by kernel_rfl) (by kernel_rfl) (by kernel_rfl) (fun _ _ _ h => h) (Or.inr ⟨by rfl, rfl⟩) (by assumption) ?_
  (try simp only [Act.put, List.getElem_toArray, List.getElem_cons_zero, List.getElem_cons_succ, List.setIfInBounds_toArray, List.set_cons_zero, List.set_cons_succ])
  refine wpAnyH_take (i := 11) (v := undef) rfl (by kernel_rfl) (by kernel_rfl) (by kernel_rfl) (fun _ _ _ h => h) (Or.inr ⟨by rfl, rfl⟩) (by assumption) ?_
  (try simp only [Act.put, List.getElem_toArray, List.getElem_cons_zero, List.getElem_cons_succ, List.setIfInBounds_toArray, List.set_cons_zero, List.set_cons_succ])
  refine wpAnyH_take (i := 12) (v := ?_) rfl (by kernel_rfl) (by kernel_rfl) (by kernel_rfl) (fun _ _ _ h => h) (Or.inl ⟨by rfl, ?_⟩) (by assumption) ?_
  rotate_left
  · (intro w hSw; (try dsimp only at hSw); go_simp; (try with_reducible rfl))
  (try simp only [Act.put, List.getElem_toArray, List.getElem_cons_zero, List.getElem_cons_succ, List.setIfInBounds_toArray, List.set_cons_zero, List.set_cons_succ])
  refine wpAnyH_done (by kernel_rfl) ?_ _
  refine NoPanic.normal ?_
  have b2 : Below w.heap.size w w2 := hb0.drew.trans (k2.mono hb0.size)
  clear S1 S2 k2 hF0 hF2 hHeld hI0 HST
  go_wp2
  go_ret
  exact ⟨rfl, b2⟩

set_option maxHeartbeats 4000000 in
theorem right_long (f : Fr) (w : World) (hf : FrIn w f) (hst : stackB f.tl = true) (hlg : longB f = true) :
    Calls Try.prog 33 #[frV f] w fun e w' => e = .returned (.bool false) ∧ Below w.heap.size w w' := by
  have hb0 : Below w.heap.size w (w.alloc (.cells (frC f) 36)) := (Below.refl _ _).alloc (Nat.le_refl _) _
  have hF0 := HasF.new w f
  have hI0 := hf.below hb0
  have hfew := hf.few
  have hshort := hf.short
  have hd := hdI_le f.k
  have HST : Hid (∀ W, TagsIn W f.ta f.tl → Calls Try.prog 56 #[.slice f.ta f.tl.length f.tc] W fun e w' => e = .returned (.bool (stackB f.tl)) ∧ Below W.heap.size W w') := fun W h => stack_any f.ta f.tc f.tl W h (by omega)
  rw [hst] at HST
  clear hst
  have HHD : Hid (∀ W, Calls Try.prog 57 #[.agg #[.int .u8 (f.d 0), .int .u8 (f.d 1), .int .u8 (f.d 2), .int .u8 (f.d 3), .int .u8 (f.d 4), .int .u8 (f.d 5), .int .u8 (f.s 0), .int .u8 (f.s 1), .int .u8 (f.s 2), .int .u8 (f.s 3), .int .u8 (f.s 4), .int .u8 (f.s 5), .slice f.ta f.tl.length f.tc, .int .i64 f.k, .int .i64 f.t, .int .i64 f.da, .int .i64 f.sa, .int .i64 f.ct, .int .i64 f.ou, .int .i64 f.pi, .string f.bo]] W fun e w' => e = .returned (.int .i64 (14 + 4 * (f.tl.length : Int) + hdI f.k)) ∧ Below W.heap.size W w') := fun W => head_lit f W hfew
  have h63 : IntKind.i64.wrap (14 + 4 * (f.tl.length : Int) + hdI f.k + (f.bo.size : Int)) = 14 + 4 * (f.tl.length : Int) + hdI f.k + (f.bo.size : Int) := by rw [IntKind.wrap_i64]; omega
  unfold longB at hlg
  unfold frV frC at *
  go_enter Try.func33, Try.ntmps33
  go_wp2
  generalize w.alloc (.cells #[.int .u8 (f.d 0), .int .u8 (f.d 1), .int .u8 (f.d 2), .int .u8 (f.d 3), .int .u8 (f.d 4), .int .u8 (f.d 5), .int .u8 (f.s 0), .int .u8 (f.s 1), .int .u8 (f.s 2), .int .u8 (f.s 3), .int .u8 (f.s 4), .int .u8 (f.s 5), .slice f.ta f.tl.length f.tc, .int .i64 f.k, .int .i64 f.t, .int .i64 f.da, .int .i64 f.sa, .int .i64 f.ct, .int .i64 f.ou, .int .i64 f.pi, .string f.bo] 36) = w1 at *
  have S1 : HasF w1 w.heap.size f ∧ w1.cell? ⟨w.heap.size, 12, none⟩ = some (.slice f.ta f.tl.length f.tc) ∧ w1.cell? ⟨w.heap.size, 20, none⟩ = some (.string f.bo) := ⟨hF0, (hF0.c 12).trans rfl, (hF0.c 20).trans rfl⟩
  refine wp_region_noPanic ?_
  refine wp_region_held_drew (S := (fun w' => HasF w' w.heap.size f ∧ w'.cell? ⟨w.heap.size, 12, none⟩ = some (.slice f.ta f.tl.length f.tc) ∧ w'.cell? ⟨w.heap.size, 20, none⟩ = some (.string f.bo))) (by kernel_rfl) ?_ (fun hHeld => ?_)
  · exact S1
  refine wpAnyH_take (i := 0) (v := ?_) rfl (by kernel_rfl) (by kernel_rfl) (by kernel_rfl) (fun _ _ _ h => h) (Or.inl ⟨by rfl, ?_⟩) (by assumption) ?_
  rotate_left
  · (intro w hSw; (try dsimp only at hSw); go_simp; (try with_reducible rfl))
  (try simp only [Act.put, List.getElem_toArray, List.getElem_cons_zero, List.getElem_cons_succ, List.setIfInBounds_toArray, List.set_cons_zero, List.set_cons_succ])
  refine wpAnyH_take (i := 1) (v := ?_) rfl (by kernel_rfl) (by kernel_rfl) (by kernel_rfl) (fun _ _ _ h => h) (Or.inl ⟨by rfl, ?_⟩) (by assumption) ?_
  rotate_left
  · (intro w hSw; (try dsimp only at hSw); go_simp; (try with_reducible rfl))
  (try simp only [Act.put, List.getElem_toArray, List.getElem_cons_zero, List.getElem_cons_succ, List.setIfInBounds_toArray, List.set_cons_zero, List.set_cons_succ])
  refine wpAnyH_ready (rs := [2]) (by kernel_rfl) (by simp) ?_
  refine AllReadyH.cons rfl (fun K hK => ?_) AllReadyH.nil
  simp only [List.getElem_toArray, List.getElem_cons_zero, List.getElem_cons_succ]
  go_simp
  go_at_call 56; (with_reducible refine (HST.out _ ?_).mono ?_); (exact hI0.tags); rintro e w2 ⟨rfl, k2⟩; have hF2 : HasF w2 _ f := HasF.below hF0.drew k2 hF0.lt; have S2 : HasF w2 w.heap.size f ∧ w2.cell? ⟨w.heap.size, 12, none⟩ = some (.slice f.ta f.tl.length f.tc) ∧ w2.cell? ⟨w.heap.size, 20, none⟩ = some (.string f.bo) := ⟨hF2, (hF2.c 12).trans rfl, (hF2.c 20).trans rfl⟩
  refine hK.out _ _ ?_ (fun hHeld => ?_)
  · exact S2
  clear hK K
  (try simp only [Act.put, List.getElem_toArray, List.getElem_cons_zero, List.getElem_cons_succ, List.setIfInBounds_toArray, List.set_cons_zero, List.set_cons_succ])
  refine wpAnyH_take (i := 3) (v := ?_) rfl (by kernel_rfl) (by kernel_rfl) (by kernel_rfl) (fun _ _ _ h => h) (Or.inl ⟨by rfl, ?_⟩) (by assumption) ?_
  rotate_left
  · (intro w hSw; (try dsimp only at hSw); go_simp; (try with_reducible rfl))
  (try simp only [Act.put, List.getElem_toArray, List.getElem_cons_zero, List.getElem_cons_succ, List.setIfInBounds_toArray, List.set_cons_zero, List.set_cons_succ])
  refine wpAnyH_take (i := 4) (v := ?_) rfl (by kernel_rfl) (by kernel_rfl) (by kernel_rfl) (fun _ _ _ h => h) (Or.inl ⟨by rfl, ?_⟩) (by assumption) ?_
  rotate_left
  · (intro w hSw; (try dsimp only at hSw); go_simp; (try with_reducible rfl))
  (try simp only [Act.put, List.getElem_toArray, List.getElem_cons_zero, List.getElem_cons_succ, List.setIfInBounds_toArray, List.set_cons_zero, List.set_cons_succ])
  refine wpAnyH_take (i := 5) (v := .agg #[.int .u8 (f.d 0), .int .u8 (f.d 1), .int .u8 (f.d 2), .int .u8 (f.d 3), .int .u8 (f.d 4), .int .u8 (f.d 5), .int .u8 (f.s 0), .int .u8 (f.s 1), .int .u8 (f.s 2), .int .u8 (f.s 3), .int .u8 (f.s 4), .int .u8 (f.s 5), .slice f.ta f.tl.length f.tc, .int .i64 f.k, .int .i64 f.t, .int .i64 f.da, .int .i64 f.sa, .int .i64 f.ct, .int .i64 f.ou, .int .i64 f.pi, .string f.bo]) rfl (by kernel_rfl) (by kernel_rfl) (by kernel_rfl) (fun _ _ _ h => h) (Or.inl ⟨by rfl, fun w hSw => exec_load_fr f rfl rfl hSw.1⟩) (by assumption) ?_
  (try simp only [Act.put, List.getElem_toArray, List.getElem_cons_zero, List.getElem_cons_succ, List.setIfInBounds_toArray, List.set_cons_zero, List.set_cons_succ])
  refine wpAnyH_take (i := 7) (v := ?_) rfl (by kernel_rfl) (by kernel_rfl) (by kernel_rfl) (fun _ _ _ h => h) (Or.inl ⟨by rfl, ?_⟩) (by assumption) ?_
  rotate_left
  · (intro w hSw; (try dsimp only at hSw); go_simp; (try with_reducible rfl))
  (try simp only [Act.put, List.getElem_toArray, List.getElem_cons_zero, List.getElem_cons_succ, List.setIfInBounds_toArray, List.set_cons_zero, List.set_cons_succ])
  refine wpAnyH_take (i := 8) (v := ?_) rfl (by kernel_rfl) (by kernel_rfl) (by kernel_rfl) (fun _ _ _ h => h) (Or.inl ⟨by rfl, ?_⟩) (by assumption) ?_
  rotate_left
  · (intro w hSw; (try dsimp only at hSw); go_simp; (try with_reducible rfl))
  (try simp only [Act.put, List.getElem_toArray, List.getElem_cons_zero, List.getElem_cons_succ, List.setIfInBounds_toArray, List.set_cons_zero, List.set_cons_succ])
  refine wpAnyH_take (i := 9) (v := ?_) rfl (by kernel_rfl) (by kernel_rfl) (by kernel_rfl) (fun _ _ _ h => h) (Or.inl ⟨by rfl, ?_⟩) (by assumption) ?_
  rotate_left
  · (intro w hSw; (try dsimp only at hSw); go_simp; (try with_reducible rfl))
  (try simp only [Act.put, List.getElem_toArray, List.getElem_cons_zero, List.getElem_cons_succ, List.setIfInBounds_toArray, List.set_cons_zero, List.set_cons_succ])
  refine wpAnyH_ready (rs := [6]) (by kernel_rfl) (by simp) ?_
  refine AllReadyH.cons rfl (fun K hK => ?_) AllReadyH.nil
  simp only [List.getElem_toArray, List.getElem_cons_zero, List.getElem_cons_succ]
  go_simp
  go_at_call 57; (with_reducible refine (HHD.out _).mono ?_); rintro e w3 ⟨rfl, k3⟩; have hF3 : HasF w3 _ f := HasF.below hF2 k3 hF2.lt; have S3 : HasF w3 w.heap.size f ∧ w3.cell? ⟨w.heap.size, 12, none⟩ = some (.slice f.ta f.tl.length f.tc) ∧ w3.cell? ⟨w.heap.size, 20, none⟩ = some (.string f.bo) := ⟨hF3, (hF3.c 12).trans rfl, (hF3.c 20).trans rfl⟩
  refine hK.out _ _ ?_ (fun hHeld => ?_)
  · exact S3
  clear hK K
  (try simp only [Act.put, List.getElem_toArray, List.getElem_cons_zero, List.getElem_cons_succ, List.setIfInBounds_toArray, List.set_cons_zero, List.set_cons_succ])
  refine wpAnyH_take (i := 10) (v := ?_) rfl (by kernel_rfl) (by kernel_rfl) (by kernel_rfl) (fun _ _ _ h => h) (Or.inl ⟨by rfl, ?_⟩) (by assumption) ?_
  rotate_left
  · (intro w hSw; (try dsimp only at hSw); go_simp; (try with_reducible rfl))
  (try simp only [Act.put, List.getElem_toArray, List.getElem_cons_zero, List.getElem_cons_succ, List.setIfInBounds_toArray, List.set_cons_zero, List.set_cons_succ])
  refine wpAnyH_take (i := 11) (v := ?_) rfl (by kernel_rfl) (by kernel_rfl) (by kernel_rfl) (fun _ _ _ h => h) (Or.inl ⟨by rfl, ?_⟩) (by assumption) ?_
  rotate_left
  · (intro w hSw; (try dsimp only at hSw); go_simp; (try with_reducible rfl))
  (try simp only [Act.put, List.getElem_toArray, List.getElem_cons_zero, List.getElem_cons_succ, List.setIfInBounds_toArray, List.set_cons_zero, List.set_cons_succ])
  refine wpAnyH_take (i := 12) (v := ?_) rfl (by kernel_rfl) (by kernel_rfl) (by kernel_rfl) (fun _ _ _ h => h) (Or.inl ⟨by rfl, ?_⟩) (by assumption) ?_
  rotate_left
  · (intro w hSw; (try dsimp only at hSw); go_simp; (try with_reducible rfl))
  (try simp only [Act.put, List.getElem_toArray, List.getElem_cons_zero, List.getElem_cons_succ, List.setIfInBounds_toArray, List.set_cons_zero, List.set_cons_succ])
  refine wpAnyH_done (by kernel_rfl) ?_ _
  refine NoPanic.normal ?_
  have b2 : Below w.heap.size w w2 := hb0.drew.trans (k2.mono hb0.size)
  have b3 : Below w.heap.size w w3 := b2.trans (k3.mono b2.size)
  clear S1 S2 S3 k2 k3 hF0 hF2 hF3 hHeld hI0 HST HHD b2 h63
  go_wp2
  go_ret
  exact ⟨rfl, b3⟩

set_option maxHeartbeats 4000000 in
theorem right_ether (f : Fr) (w : World) (hf : FrIn w f) (hst : stackB f.tl = true) (hlg : longB f = false) (hk : f.k = 1) :
    Calls Try.prog 33 #[frV f] w fun e w' => e = .returned (.bool (typB f.t && upB 0 [f.da, f.sa, f.ct, f.ou, f.pi])) ∧ Below w.heap.size w w' := by
  have hb0 : Below w.heap.size w (w.alloc (.cells (frC f) 36)) := (Below.refl _ _).alloc (Nat.le_refl _) _
  have hF0 := HasF.new w f
  have hI0 := hf.below hb0
  have hfew := hf.few
  have hshort := hf.short
  have hd := hdI_le f.k
  have HST : Hid (∀ W, TagsIn W f.ta f.tl → Calls Try.prog 56 #[.slice f.ta f.tl.length f.tc] W fun e w' => e = .returned (.bool (stackB f.tl)) ∧ Below W.heap.size W w') := fun W h => stack_any f.ta f.tc f.tl W h (by omega)
  rw [hst] at HST
  clear hst
  have HHD : Hid (∀ W, Calls Try.prog 57 #[.agg #[.int .u8 (f.d 0), .int .u8 (f.d 1), .int .u8 (f.d 2), .int .u8 (f.d 3), .int .u8 (f.d 4), .int .u8 (f.d 5), .int .u8 (f.s 0), .int .u8 (f.s 1), .int .u8 (f.s 2), .int .u8 (f.s 3), .int .u8 (f.s 4), .int .u8 (f.s 5), .slice f.ta f.tl.length f.tc, .int .i64 f.k, .int .i64 f.t, .int .i64 f.da, .int .i64 f.sa, .int .i64 f.ct, .int .i64 f.ou, .int .i64 f.pi, .string f.bo]] W fun e w' => e = .returned (.int .i64 (14 + 4 * (f.tl.length : Int) + hdI f.k)) ∧ Below W.heap.size W w') := fun W => head_lit f W hfew
  have h63 : IntKind.i64.wrap (14 + 4 * (f.tl.length : Int) + hdI f.k + (f.bo.size : Int)) = 14 + 4 * (f.tl.length : Int) + hdI f.k + (f.bo.size : Int) := by rw [IntKind.wrap_i64]; omega
  unfold longB at hlg
  have q1 : (f.k == 1) = true := by rw [hk]; rfl
  clear hk
  have HU : Hid (∀ (W : World) (b : Nat), b = W.heap.size → Calls Try.prog 59 #[.int .i64 0, .slice (some ⟨b, 0, none⟩) 5 5] (W.alloc (.cells #[.int .i64 f.da, .int .i64 f.sa, .int .i64 f.ct, .int .i64 f.ou, .int .i64 f.pi] 3)) fun e w' => e = .returned (.bool (upB 0 [f.da, f.sa, f.ct, f.ou, f.pi])) ∧ (W.alloc (.cells #[.int .i64 f.da, .int .i64 f.sa, .int .i64 f.ct, .int .i64 f.ou, .int .i64 f.pi] 3)) = w') := fun W b hb => by
    rw [hb]
    exact upTo_any 0 [f.da, f.sa, f.ct, f.ou, f.pi] W.heap.size 5 _ (by simp) (ints_new W [f.da, f.sa, f.ct, f.ou, f.pi] _)
  unfold frV frC at *
  go_enter Try.func33, Try.ntmps33
  go_wp2
  generalize w.alloc (.cells #[.int .u8 (f.d 0), .int .u8 (f.d 1), .int .u8 (f.d 2), .int .u8 (f.d 3), .int .u8 (f.d 4), .int .u8 (f.d 5), .int .u8 (f.s 0), .int .u8 (f.s 1), .int .u8 (f.s 2), .int .u8 (f.s 3), .int .u8 (f.s 4), .int .u8 (f.s 5), .slice f.ta f.tl.length f.tc, .int .i64 f.k, .int .i64 f.t, .int .i64 f.da, .int .i64 f.sa, .int .i64 f.ct, .int .i64 f.ou, .int .i64 f.pi, .string f.bo] 36) = w1 at *
  have S1 : HasF w1 w.heap.size f ∧ w1.cell? ⟨w.heap.size, 12, none⟩ = some (.slice f.ta f.tl.length f.tc) ∧ w1.cell? ⟨w.heap.size, 20, none⟩ = some (.string f.bo) := ⟨hF0, (hF0.c 12).trans rfl, (hF0.c 20).trans rfl⟩
  refine wp_region_noPanic ?_
  refine wp_region_held_drew (S := (fun w' => HasF w' w.heap.size f ∧ w'.cell? ⟨w.heap.size, 12, none⟩ = some (.slice f.ta f.tl.length f.tc) ∧ w'.cell? ⟨w.heap.size, 20, none⟩ = some (.string f.bo))) (by kernel_rfl) ?_ (fun hHeld => ?_)
  · exact S1
  refine wpAnyH_take (i := 0) (v := ?_) rfl (by kernel_rfl) (by kernel_rfl) (by kernel_rfl) (fun _ _ _ h => h) (Or.inl ⟨by rfl, ?_⟩) (by assumption) ?_
  rotate_left
  · (intro w hSw; (try dsimp only at hSw); go_simp; (try with_reducible rfl))
  (try simp only [Act.put, List.getElem_toArray, List.getElem_cons_zero, List.getElem_cons_succ, List.setIfInBounds_toArray, List.set_cons_zero, List.set_cons_succ])
  refine wpAnyH_take (i := 1) (v := ?_) rfl (by kernel_rfl) (by kernel_rfl) (by kernel_rfl) (fun _ _ _ h => h) (Or.inl ⟨by rfl, ?_⟩) (by assumption) ?_
  rotate_left
  · (intro w hSw; (try dsimp only at hSw); go_simp; (try with_reducible rfl))
  (try simp only [Act.put, List.getElem_toArray, List.getElem_cons_zero, List.getElem_cons_succ, List.setIfInBounds_toArray, List.set_cons_zero, List.set_cons_succ])
  refine wpAnyH_ready (rs := [2]) (by kernel_rfl) (by simp) ?_
  refine AllReadyH.cons rfl (fun K hK => ?_) AllReadyH.nil
  simp only [List.getElem_toArray, List.getElem_cons_zero, List.getElem_cons_succ]
  go_simp
  go_at_call 56; (with_reducible refine (HST.out _ ?_).mono ?_); (exact hI0.tags); rintro e w2 ⟨rfl, k2⟩; have hF2 : HasF w2 _ f := HasF.below hF0.drew k2 hF0.lt; have S2 : HasF w2 w.heap.size f ∧ w2.cell? ⟨w.heap.size, 12, none⟩ = some (.slice f.ta f.tl.length f.tc) ∧ w2.cell? ⟨w.heap.size, 20, none⟩ = some (.string f.bo) := ⟨hF2, (hF2.c 12).trans rfl, (hF2.c 20).trans rfl⟩
  refine hK.out _ _ ?_ (fun hHeld => ?_)
  · exact S2
  clear hK K
  (try simp only [Act.put, List.getElem_toArray, List.getElem_cons_zero, List.getElem_cons_succ, List.setIfInBounds_toArray, List.set_cons_zero, List.set_cons_succ])
  refine wpAnyH_take (i := 3) (v := ?_) rfl (by kernel_rfl) (by kernel_rfl) (by kernel_rfl) (fun _ _ _ h => h) (Or.inl ⟨by rfl, ?_⟩) (by assumption) ?_
  rotate_left
  · (intro w hSw; (try dsimp only at hSw); go_simp; (try with_reducible rfl))
  (try simp only [Act.put, List.getElem_toArray, List.getElem_cons_zero, List.getElem_cons_succ, List.setIfInBounds_toArray, List.set_cons_zero, List.set_cons_succ])
  refine wpAnyH_take (i := 4) (v := ?_) rfl (by kernel_rfl) (by kernel_rfl) (by kernel_rfl) (fun _ _ _ h => h) (Or.inl ⟨by rfl, ?_⟩) (by assumption) ?_
  rotate_left
  · (intro w hSw; (try dsimp only at hSw); go_simp; (try with_reducible rfl))
  (try simp only [Act.put, List.getElem_toArray, List.getElem_cons_zero, List.getElem_cons_succ, List.setIfInBounds_toArray, List.set_cons_zero, List.set_cons_succ])
  refine wpAnyH_take (i := 5) (v := .agg #[.int .u8 (f.d 0), .int .u8 (f.d 1), .int .u8 (f.d 2), .int .u8 (f.d 3), .int .u8 (f.d 4), .int .u8 (f.d 5), .int .u8 (f.s 0), .int .u8 (f.s 1), .int .u8 (f.s 2), .int .u8 (f.s 3), .int .u8 (f.s 4), .int .u8 (f.s 5), .slice f.ta f.tl.length f.tc, .int .i64 f.k, .int .i64 f.t, .int .i64 f.da, .int .i64 f.sa, .int .i64 f.ct, .int .i64 f.ou, .int .i64 f.pi, .string f.bo]) rfl (by kernel_rfl) (by kernel_rfl) (by kernel_rfl) (fun _ _ _ h => h) (Or.inl ⟨by rfl, fun w hSw => exec_load_fr f rfl rfl hSw.1⟩) (by assumption) ?_
  (try simp only [Act.put, List.getElem_toArray, List.getElem_cons_zero, List.getElem_cons_succ, List.setIfInBounds_toArray, List.set_cons_zero, List.set_cons_succ])
  refine wpAnyH_take (i := 7) (v := ?_) rfl (by kernel_rfl) (by kernel_rfl) (by kernel_rfl) (fun _ _ _ h => h) (Or.inl ⟨by rfl, ?_⟩) (by assumption) ?_
  rotate_left
  · (intro w hSw; (try dsimp only at hSw); go_simp; (try with_reducible rfl))
  (try simp only [Act.put, List.getElem_toArray, List.getElem_cons_zero, List.getElem_cons_succ, List.setIfInBounds_toArray, List.set_cons_zero, List.set_cons_succ])
  refine wpAnyH_take (i := 8) (v := ?_) rfl (by kernel_rfl) (by kernel_rfl) (by kernel_rfl) (fun _ _ _ h => h) (Or.inl ⟨by rfl, ?_⟩) (by assumption) ?_
  rotate_left
  · (intro w hSw; (try dsimp only at hSw); go_simp; (try with_reducible rfl))
  (try simp only [Act.put, List.getElem_toArray, List.getElem_cons_zero, List.getElem_cons_succ, List.setIfInBounds_toArray, List.set_cons_zero, List.set_cons_succ])
  refine wpAnyH_take (i := 9) (v := ?_) rfl (by kernel_rfl) (by kernel_rfl) (by kernel_rfl) (fun _ _ _ h => h) (Or.inl ⟨by rfl, ?_⟩) (by assumption) ?_
  rotate_left
  · (intro w hSw; (try dsimp only at hSw); go_simp; (try with_reducible rfl))
  (try simp only [Act.put, List.getElem_toArray, List.getElem_cons_zero, List.getElem_cons_succ, List.setIfInBounds_toArray, List.set_cons_zero, List.set_cons_succ])
  refine wpAnyH_ready (rs := [6]) (by kernel_rfl) (by simp) ?_
  refine AllReadyH.cons rfl (fun K hK => ?_) AllReadyH.nil
  simp only [List.getElem_toArray, List.getElem_cons_zero, List.getElem_cons_succ]
  go_simp
  go_at_call 57; (with_reducible refine (HHD.out _).mono ?_); rintro e w3 ⟨rfl, k3⟩; have hF3 : HasF w3 _ f := HasF.below hF2 k3 hF2.lt; have S3 : HasF w3 w.heap.size f ∧ w3.cell? ⟨w.heap.size, 12, none⟩ = some (.slice f.ta f.tl.length f.tc) ∧ w3.cell? ⟨w.heap.size, 20, none⟩ = some (.string f.bo) := ⟨hF3, (hF3.c 12).trans rfl, (hF3.c 20).trans rfl⟩
  refine hK.out _ _ ?_ (fun hHeld => ?_)
  · exact S3
  clear hK K
  (try simp only [Act.put, List.getElem_toArray, List.getElem_cons_zero, List.getElem_cons_succ, List.setIfInBounds_toArray, List.set_cons_zero, List.set_cons_succ])
  refine wpAnyH_take (i := 10) (v := ?_) rfl (by kernel_rfl) (by kernel_rfl) (by kernel_rfl) (fun _ _ _ h => h) (Or.inl ⟨by rfl, ?_⟩) (by assumption) ?_
  rotate_left
  · (intro w hSw; (try dsimp only at hSw); go_simp; (try with_reducible rfl))
  (try simp only [Act.put, List.getElem_toArray, List.getElem_cons_zero, List.getElem_cons_succ, List.setIfInBounds_toArray, List.set_cons_zero, List.set_cons_succ])
  refine wpAnyH_take (i := 11) (v := ?_) rfl (by kernel_rfl) (by kernel_rfl) (by kernel_rfl) (fun _ _ _ h => h) (Or.inl ⟨by rfl, ?_⟩) (by assumption) ?_
  rotate_left
  · (intro w hSw; (try dsimp only at hSw); go_simp; (try with_reducible rfl))
  (try simp only [Act.put, List.getElem_toArray, List.getElem_cons_zero, List.getElem_cons_succ, List.setIfInBounds_toArray, List.set_cons_zero, List.set_cons_succ])
  refine wpAnyH_take (i := 12) (v := ?_) rfl (by kernel_rfl) (by kernel_rfl) (by kernel_rfl) (fun _ _ _ h => h) (Or.inl ⟨by rfl, ?_⟩) (by assumption) ?_
  rotate_left
  · (intro w hSw; (try dsimp only at hSw); go_simp; (try with_reducible rfl))
  (try simp only [Act.put, List.getElem_toArray, List.getElem_cons_zero, List.getElem_cons_succ, List.setIfInBounds_toArray, List.set_cons_zero, List.set_cons_succ])
  refine wpAnyH_done (by kernel_rfl) ?_ _
  refine NoPanic.normal ?_
  have b2 : Below w.heap.size w w2 := hb0.drew.trans (k2.mono hb0.size)
  have b3 : Below w.heap.size w w3 := b2.trans (k3.mono b2.size)
  clear S1 S2 S3 k2 k3 hF0 hF2 hHeld hI0 HST HHD b2 h63
  have c13 : w3.cell? ⟨w.heap.size, 13, none⟩ = some (.int .i64 f.k) := (hF3.c 13).trans rfl
  have c14 : w3.cell? ⟨w.heap.size, 14, none⟩ = some (.int .i64 f.t) := (hF3.c 14).trans rfl
  have c15 : w3.cell? ⟨w.heap.size, 15, none⟩ = some (.int .i64 f.da) := (hF3.c 15).trans rfl
  have c16 : w3.cell? ⟨w.heap.size, 16, none⟩ = some (.int .i64 f.sa) := (hF3.c 16).trans rfl
  have c17 : w3.cell? ⟨w.heap.size, 17, none⟩ = some (.int .i64 f.ct) := (hF3.c 17).trans rfl
  have c18 : w3.cell? ⟨w.heap.size, 18, none⟩ = some (.int .i64 f.ou) := (hF3.c 18).trans rfl
  have c19 : w3.cell? ⟨w.heap.size, 19, none⟩ = some (.int .i64 f.pi) := (hF3.c 19).trans rfl
  clear hF3
  go_wp2_with fail
  refine (isType_any _ _).mono ?_
  rintro e w4 ⟨rfl, rfl⟩
  cases ht : typB f.t with
  | false =>
    go_wp2
    go_ret
    exact ⟨by rw [ht]; rfl, b3⟩
  | true =>
    go_wp2_with fail
    refine (HU.out _ _ rfl).mono ?_
    rintro e w5 ⟨rfl, hw5⟩
    subst hw5
    go_wp2
    go_ret
    exact ⟨by rw [ht]; rfl, b3.alloc b3.size _⟩

set_option maxHeartbeats 4000000 in
theorem right_llc (f : Fr) (w : World) (hf : FrIn w f) (hst : stackB f.tl = true) (hlg : longB f = false) (hk : f.k = 2) :
    Calls Try.prog 33 #[frV f] w fun e w' => e = .returned (.bool (llcB f && (decide (hdI f.k + f.bo.size ≤ 1500) && upB 0 [f.t, f.ou, f.pi]))) ∧ Below w.heap.size w w' := by
  have hb0 : Below w.heap.size w (w.alloc (.cells (frC f) 36)) := (Below.refl _ _).alloc (Nat.le_refl _) _
  have hF0 := HasF.new w f
  have hI0 := hf.below hb0
  have hfew := hf.few
  have hshort := hf.short
  have hd := hdI_le f.k
  have HST : Hid (∀ W, TagsIn W f.ta f.tl → Calls Try.prog 56 #[.slice f.ta f.tl.length f.tc] W fun e w' => e = .returned (.bool (stackB f.tl)) ∧ Below W.heap.size W w') := fun W h => stack_any f.ta f.tc f.tl W h (by omega)
  rw [hst] at HST
  clear hst
  have HHD : Hid (∀ W, Calls Try.prog 57 #[.agg #[.int .u8 (f.d 0), .int .u8 (f.d 1), .int .u8 (f.d 2), .int .u8 (f.d 3), .int .u8 (f.d 4), .int .u8 (f.d 5), .int .u8 (f.s 0), .int .u8 (f.s 1), .int .u8 (f.s 2), .int .u8 (f.s 3), .int .u8 (f.s 4), .int .u8 (f.s 5), .slice f.ta f.tl.length f.tc, .int .i64 f.k, .int .i64 f.t, .int .i64 f.da, .int .i64 f.sa, .int .i64 f.ct, .int .i64 f.ou, .int .i64 f.pi, .string f.bo]] W fun e w' => e = .returned (.int .i64 (14 + 4 * (f.tl.length : Int) + hdI f.k)) ∧ Below W.heap.size W w') := fun W => head_lit f W hfew
  have h63 : IntKind.i64.wrap (14 + 4 * (f.tl.length : Int) + hdI f.k + (f.bo.size : Int)) = 14 + 4 * (f.tl.length : Int) + hdI f.k + (f.bo.size : Int) := by rw [IntKind.wrap_i64]; omega
  unfold longB at hlg
  have q1 : (f.k == 1) = false := by rw [hk]; rfl
  have q2 : (f.k == 2) = true := by rw [hk]; rfl
  clear hk
  have HU : Hid (∀ (W : World) (b : Nat), b = W.heap.size → Calls Try.prog 59 #[.int .i64 0, .slice (some ⟨b, 0, none⟩) 3 3] (W.alloc (.cells #[.int .i64 f.t, .int .i64 f.ou, .int .i64 f.pi] 3)) fun e w' => e = .returned (.bool (upB 0 [f.t, f.ou, f.pi])) ∧ (W.alloc (.cells #[.int .i64 f.t, .int .i64 f.ou, .int .i64 f.pi] 3)) = w') := fun W b hb => by
    rw [hb]
    exact upTo_any 0 [f.t, f.ou, f.pi] W.heap.size 3 _ (by simp) (ints_new W [f.t, f.ou, f.pi] _)
  have HX : Hid (∀ W, Calls Try.prog 60 #[.agg #[.int .u8 (f.d 0), .int .u8 (f.d 1), .int .u8 (f.d 2), .int .u8 (f.d 3), .int .u8 (f.d 4), .int .u8 (f.d 5), .int .u8 (f.s 0), .int .u8 (f.s 1), .int .u8 (f.s 2), .int .u8 (f.s 3), .int .u8 (f.s 4), .int .u8 (f.s 5), .slice f.ta f.tl.length f.tc, .int .i64 f.k, .int .i64 f.t, .int .i64 f.da, .int .i64 f.sa, .int .i64 f.ct, .int .i64 f.ou, .int .i64 f.pi, .string f.bo]] W fun e w' => e = .returned (.bool (llcB f)) ∧ Below W.heap.size W w') := fun W => isLlc_any f W
  have HI : Hid (∀ W, Calls Try.prog 61 #[.agg #[.int .u8 (f.d 0), .int .u8 (f.d 1), .int .u8 (f.d 2), .int .u8 (f.d 3), .int .u8 (f.d 4), .int .u8 (f.d 5), .int .u8 (f.s 0), .int .u8 (f.s 1), .int .u8 (f.s 2), .int .u8 (f.s 3), .int .u8 (f.s 4), .int .u8 (f.s 5), .slice f.ta f.tl.length f.tc, .int .i64 f.k, .int .i64 f.t, .int .i64 f.da, .int .i64 f.sa, .int .i64 f.ct, .int .i64 f.ou, .int .i64 f.pi, .string f.bo]] W fun e w' => e = .returned (.int .i64 (hdI f.k + (f.bo.size : Int))) ∧ Below W.heap.size W w') := fun W => inner_any f W hshort
  unfold frV frC at *
  go_enter Try.func33, Try.ntmps33
  go_wp2
  generalize w.alloc (.cells #[.int .u8 (f.d 0), .int .u8 (f.d 1), .int .u8 (f.d 2), .int .u8 (f.d 3), .int .u8 (f.d 4), .int .u8 (f.d 5), .int .u8 (f.s 0), .int .u8 (f.s 1), .int .u8 (f.s 2), .int .u8 (f.s 3), .int .u8 (f.s 4), .int .u8 (f.s 5), .slice f.ta f.tl.length f.tc, .int .i64 f.k, .int .i64 f.t, .int .i64 f.da, .int .i64 f.sa, .int .i64 f.ct, .int .i64 f.ou, .int .i64 f.pi, .string f.bo] 36) = w1 at *
  have S1 : HasF w1 w.heap.size f ∧ w1.cell? ⟨w.heap.size, 12, none⟩ = some (.slice f.ta f.tl.length f.tc) ∧ w1.cell? ⟨w.heap.size, 20, none⟩ = some (.string f.bo) := ⟨hF0, (hF0.c 12).trans rfl, (hF0.c 20).trans rfl⟩
  refine wp_region_noPanic ?_
  refine wp_region_held_drew (S := (fun w' => HasF w' w.heap.size f ∧ w'.cell? ⟨w.heap.size, 12, none⟩ = some (.slice f.ta f.tl.length f.tc) ∧ w'.cell? ⟨w.heap.size, 20, none⟩ = some (.string f.bo))) (by kernel_rfl) ?_ (fun hHeld => ?_)
  · exact S1
  refine wpAnyH_take (i := 0) (v := ?_) rfl (by kernel_rfl) (by kernel_rfl) (by kernel_rfl) (fun _ _ _ h => h) (Or.inl ⟨by rfl, ?_⟩) (by assumption) ?_
  rotate_left
  · (intro w hSw; (try dsimp only at hSw); go_simp; (try with_reducible rfl))
  (try simp only [Act.put, List.getElem_toArray, List.getElem_cons_zero, List.getElem_cons_succ, List.setIfInBounds_toArray, List.set_cons_zero, List.set_cons_succ])
  refine wpAnyH_take (i := 1) (v := ?_) rfl (by kernel_rfl) (by kernel_rfl) (by kernel_rfl) (fun _ _ _ h => h) (Or.inl ⟨by rfl, ?_⟩) (by assumption) ?_
  rotate_left
  · (intro w hSw; (try dsimp only at hSw); go_simp; (try with_reducible rfl))
  (try simp only [Act.put, List.getElem_toArray, List.getElem_cons_zero, List.getElem_cons_succ, List.setIfInBounds_toArray, List.set_cons_zero, List.set_cons_succ])
  refine wpAnyH_ready (rs := [2]) (by kernel_rfl) (by simp) ?_
  refine AllReadyH.cons rfl (fun K hK => ?_) AllReadyH.nil
  simp only [List.getElem_toArray, List.getElem_cons_zero, List.getElem_cons_succ]
  go_simp
  go_at_call 56; (with_reducible refine (HST.out _ ?_).mono ?_); (exact hI0.tags); rintro e w2 ⟨rfl, k2⟩; have hF2 : HasF w2 _ f := HasF.below hF0.drew k2 hF0.lt; have S2 : HasF w2 w.heap.size f ∧ w2.cell? ⟨w.heap.size, 12, none⟩ = some (.slice f.ta f.tl.length f.tc) ∧ w2.cell? ⟨w.heap.size, 20, none⟩ = some (.string f.bo) := ⟨hF2, (hF2.c 12).trans rfl, (hF2.c 20).trans rfl⟩
  refine hK.out _ _ ?_ (fun hHeld => ?_)
  · exact S2
  clear hK K
  (try simp only [Act.put, List.getElem_toArray, List.getElem_cons_zero, List.getElem_cons_succ, List.setIfInBounds_toArray, List.set_cons_zero, List.set_cons_succ])
  refine wpAnyH_take (i := 3) (v := ?_) rfl (by kernel_rfl) (by kernel_rfl) (by kernel_rfl) (fun _ _ _ h => h) (Or.inl ⟨by rfl, ?_⟩) (by assumption) ?_
  rotate_left
  · (intro w hSw; (try dsimp only at hSw); go_simp; (try with_reducible rfl))
  (try simp only [Act.put, List.getElem_toArray, List.getElem_cons_zero, List.getElem_cons_succ, List.setIfInBounds_toArray, List.set_cons_zero, List.set_cons_succ])
  refine wpAnyH_take (i := 4) (v := ?_) rfl (by kernel_rfl) (by kernel_rfl) (by kernel_rfl) (fun _ _ _ h => h) (Or.inl ⟨by rfl, ?_⟩) (by assumption) ?_
  rotate_left
  · (intro w hSw; (try dsimp only at hSw); go_simp; (try with_reducible rfl))
  (try simp only [Act.put, List.getElem_toArray, List.getElem_cons_zero, List.getElem_cons_succ, List.setIfInBounds_toArray, List.set_cons_zero, List.set_cons_succ])
  refine wpAnyH_take (i := 5) (v := .agg #[.int .u8 (f.d 0), .int .u8 (f.d 1), .int .u8 (f.d 2), .int .u8 (f.d 3), .int .u8 (f.d 4), .int .u8 (f.d 5), .int .u8 (f.s 0), .int .u8 (f.s 1), .int .u8 (f.s 2), .int .u8 (f.s 3), .int .u8 (f.s 4), .int .u8 (f.s 5), .slice f.ta f.tl.length f.tc, .int .i64 f.k, .int .i64 f.t, .int .i64 f.da, .int .i64 f.sa, .int .i64 f.ct, .int .i64 f.ou, .int .i64 f.pi, .string f.bo]) rfl (by kernel_rfl) (by kernel_rfl) (by kernel_rfl) (fun _ _ _ h => h) (Or.inl ⟨by rfl, fun w hSw => exec_load_fr f rfl rfl hSw.1⟩) (by assumption) ?_
  (try simp only [Act.put, List.getElem_toArray, List.getElem_cons_zero, List.getElem_cons_succ, List.setIfInBounds_toArray, List.set_cons_zero, List.set_cons_succ])
  refine wpAnyH_take (i := 7) (v := ?_) rfl (by kernel_rfl) (by kernel_rfl) (by kernel_rfl) (fun _ _ _ h => h) (Or.inl ⟨by rfl, ?_⟩) (by assumption) ?_
  rotate_left
  · (intro w hSw; (try dsimp only at hSw); go_simp; (try with_reducible rfl))
  (try simp only [Act.put, List.getElem_toArray, List.getElem_cons_zero, List.getElem_cons_succ, List.setIfInBounds_toArray, List.set_cons_zero, List.set_cons_succ])
  refine wpAnyH_take (i := 8) (v := ?_) rfl (by kernel_rfl) (by kernel_rfl) (by kernel_rfl) (fun _ _ _ h => h) (Or.inl ⟨by rfl, ?_⟩) (by assumption) ?_
  rotate_left
  · (intro w hSw; (try dsimp only at hSw); go_simp; (try with_reducible rfl))
  (try simp only [Act.put, List.getElem_toArray, List.getElem_cons_zero, List.getElem_cons_succ, List.setIfInBounds_toArray, List.set_cons_zero, List.set_cons_succ])
  refine wpAnyH_take (i := 9) (v := ?_) rfl (by kernel_rfl) (by kernel_rfl) (by kernel_rfl) (fun _ _ _ h => h) (Or.inl ⟨by rfl, ?_⟩) (by assumption) ?_
  rotate_left
  · (intro w hSw; (try dsimp only at hSw); go_simp; (try with_reducible rfl))
  (try simp only [Act.put, List.getElem_toArray, List.getElem_cons_zero, List.getElem_cons_succ, List.setIfInBounds_toArray, List.set_cons_zero, List.set_cons_succ])
  refine wpAnyH_ready (rs := [6]) (by kernel_rfl) (by simp) ?_
  refine AllReadyH.cons rfl (fun K hK => ?_) AllReadyH.nil
  simp only [List.getElem_toArray, List.getElem_cons_zero, List.getElem_cons_succ]
  go_simp
  go_at_call 57; (with_reducible refine (HHD.out _).mono ?_); rintro e w3 ⟨rfl, k3⟩; have hF3 : HasF w3 _ f := HasF.below hF2 k3 hF2.lt; have S3 : HasF w3 w.heap.size f ∧ w3.cell? ⟨w.heap.size, 12, none⟩ = some (.slice f.ta f.tl.length f.tc) ∧ w3.cell? ⟨w.heap.size, 20, none⟩ = some (.string f.bo) := ⟨hF3, (hF3.c 12).trans rfl, (hF3.c 20).trans rfl⟩
  refine hK.out _ _ ?_ (fun hHeld => ?_)
  · exact S3
  clear hK K
  (try simp only [Act.put, List.getElem_toArray, List.getElem_cons_zero, List.getElem_cons_succ, List.setIfInBounds_toArray, List.set_cons_zero, List.set_cons_succ])
  refine wpAnyH_take (i := 10) (v := ?_) rfl (by kernel_rfl) (by kernel_rfl) (by kernel_rfl) (fun _ _ _ h => h) (Or.inl ⟨by rfl, ?_⟩) (by assumption) ?_
  rotate_left
  · (intro w hSw; (try dsimp only at hSw); go_simp; (try with_reducible rfl))
  (try simp only [Act.put, List.getElem_toArray, List.getElem_cons_zero, List.getElem_cons_succ, List.setIfInBounds_toArray, List.set_cons_zero, List.set_cons_succ])
  refine wpAnyH_take (i := 11) (v := ?_) rfl (by kernel_rfl) (by kernel_rfl) (by kernel_rfl) (fun _ _ _ h => h) (Or.inl ⟨by rfl, ?_⟩) (by assumption) ?_
  rotate_left
  · (intro w hSw; (try dsimp only at hSw); go_simp; (try with_reducible rfl))
  (try simp only [Act.put, List.getElem_toArray, List.getElem_cons_zero, List.getElem_cons_succ, List.setIfInBounds_toArray, List.set_cons_zero, List.set_cons_succ])
  refine wpAnyH_take (i := 12) (v := ?_) rfl (by kernel_rfl) (by kernel_rfl) (by kernel_rfl) (fun _ _ _ h => h) (Or.inl ⟨by rfl, ?_⟩) (by assumption) ?_
  rotate_left
  · (intro w hSw; (try dsimp only at hSw); go_simp; (try with_reducible rfl))
  (try simp only [Act.put, List.getElem_toArray, List.getElem_cons_zero, List.getElem_cons_succ, List.setIfInBounds_toArray, List.set_cons_zero, List.set_cons_succ])
  refine wpAnyH_done (by kernel_rfl) ?_ _
  refine NoPanic.normal ?_
  have b2 : Below w.heap.size w w2 := hb0.drew.trans (k2.mono hb0.size)
  have b3 : Below w.heap.size w w3 := b2.trans (k3.mono b2.size)
  clear S1 S2 S3 k2 k3 hF0 hF2 hHeld hI0 HST HHD b2 h63
  have c13 : w3.cell? ⟨w.heap.size, 13, none⟩ = some (.int .i64 f.k) := (hF3.c 13).trans rfl
  go_wp2_with ((refine load_fr (.tmp 1) f w.heap.size ?_ ?_ ?_ hF3 ?_); (rfl); (rfl); (rfl))
  refine (HX.out _).mono ?_
  rintro e w4 ⟨rfl, k4⟩
  have b4 : Below w.heap.size w w4 := b3.trans (k4.mono b3.size)
  have hF4 : HasF w4 _ f := HasF.below hF3 k4 hF3.lt
  clear c13 hF3 k4 b3
  cases hx : llcB f with
  | false =>
    go_wp2
    go_ret
    exact ⟨by rw [hx]; rfl, b4⟩
  | true =>
    go_wp2_with ((refine load_fr (.tmp 1) f w.heap.size ?_ ?_ ?_ hF4 ?_); (rfl); (rfl); (rfl))
    refine (HI.out _).mono ?_
    rintro e w5 ⟨rfl, k5⟩
    have b5 : Below w.heap.size w w5 := b4.trans (k5.mono b4.size)
    have hF5 : HasF w5 _ f := HasF.below hF4 k5 hF4.lt
    clear hF4 k5 b4
    have c14 : w5.cell? ⟨w.heap.size, 14, none⟩ = some (.int .i64 f.t) := (hF5.c 14).trans rfl
    have c15 : w5.cell? ⟨w.heap.size, 15, none⟩ = some (.int .i64 f.da) := (hF5.c 15).trans rfl
    have c16 : w5.cell? ⟨w.heap.size, 16, none⟩ = some (.int .i64 f.sa) := (hF5.c 16).trans rfl
    have c17 : w5.cell? ⟨w.heap.size, 17, none⟩ = some (.int .i64 f.ct) := (hF5.c 17).trans rfl
    have c18 : w5.cell? ⟨w.heap.size, 18, none⟩ = some (.int .i64 f.ou) := (hF5.c 18).trans rfl
    have c19 : w5.cell? ⟨w.heap.size, 19, none⟩ = some (.int .i64 f.pi) := (hF5.c 19).trans rfl
    cases hs : decide (hdI f.k + (f.bo.size : Int) ≤ 1500) with
    | false =>
      go_wp2
      go_ret
      exact ⟨by rw [hx, hs]; rfl, b5⟩
    | true =>
      go_wp2_with fail
      refine (HU.out _ _ rfl).mono ?_
      rintro e w6 ⟨rfl, hw6⟩
      subst hw6
      go_wp2
      go_ret
      exact ⟨by rw [hx, hs]; rfl, b5.alloc b5.size _⟩

set_option maxHeartbeats 4000000 in
theorem right_snap (f : Fr) (w : World) (hf : FrIn w f) (hst : stackB f.tl = true) (hlg : longB f = false) (hk : f.k = 3) :
    Calls Try.prog 33 #[frV f] w fun e w' => e = .returned (.bool (snapB f && (decide (hdI f.k + f.bo.size ≤ 1500) && upB 0 [f.t, f.da, f.sa, f.ct]))) ∧ Below w.heap.size w w' := by
  have hb0 : Below w.heap.size w (w.alloc (.cells (frC f) 36)) := (Below.refl _ _).alloc (Nat.le_refl _) _
  have hF0 := HasF.new w f
  have hI0 := hf.below hb0
  have hfew := hf.few
  have hshort := hf.short
  have hd := hdI_le f.k
  have HST : Hid (∀ W, TagsIn W f.ta f.tl → Calls Try.prog 56 #[.slice f.ta f.tl.length f.tc] W fun e w' => e = .returned (.bool (stackB f.tl)) ∧ Below W.heap.size W w') := fun W h => stack_any f.ta f.tc f.tl W h (by omega)
  rw [hst] at HST
  clear hst
  have HHD : Hid (∀ W, Calls Try.prog 57 #[.agg #[.int .u8 (f.d 0), .int .u8 (f.d 1), .int .u8 (f.d 2), .int .u8 (f.d 3), .int .u8 (f.d 4), .int .u8 (f.d 5), .int .u8 (f.s 0), .int .u8 (f.s 1), .int .u8 (f.s 2), .int .u8 (f.s 3), .int .u8 (f.s 4), .int .u8 (f.s 5), .slice f.ta f.tl.length f.tc, .int .i64 f.k, .int .i64 f.t, .int .i64 f.da, .int .i64 f.sa, .int .i64 f.ct, .int .i64 f.ou, .int .i64 f.pi, .string f.bo]] W fun e w' => e = .returned (.int .i64 (14 + 4 * (f.tl.length : Int) + hdI f.k)) ∧ Below W.heap.size W w') := fun W => head_lit f W hfew
  have h63 : IntKind.i64.wrap (14 + 4 * (f.tl.length : Int) + hdI f.k + (f.bo.size : Int)) = 14 + 4 * (f.tl.length : Int) + hdI f.k + (f.bo.size : Int) := by rw [IntKind.wrap_i64]; omega
  unfold longB at hlg
  have q1 : (f.k == 1) = false := by rw [hk]; rfl
  have q2 : (f.k == 2) = false := by rw [hk]; rfl
  have q3 : (f.k == 3) = true := by rw [hk]; rfl
  clear hk
  have HU : Hid (∀ (W : World) (b : Nat), b = W.heap.size → Calls Try.prog 59 #[.int .i64 0, .slice (some ⟨b, 0, none⟩) 4 4] (W.alloc (.cells #[.int .i64 f.t, .int .i64 f.da, .int .i64 f.sa, .int .i64 f.ct] 3)) fun e w' => e = .returned (.bool (upB 0 [f.t, f.da, f.sa, f.ct])) ∧ (W.alloc (.cells #[.int .i64 f.t, .int .i64 f.da, .int .i64 f.sa, .int .i64 f.ct] 3)) = w') := fun W b hb => by
    rw [hb]
    exact upTo_any 0 [f.t, f.da, f.sa, f.ct] W.heap.size 4 _ (by simp) (ints_new W [f.t, f.da, f.sa, f.ct] _)
  have HX : Hid (∀ W, Calls Try.prog 62 #[.agg #[.int .u8 (f.d 0), .int .u8 (f.d 1), .int .u8 (f.d 2), .int .u8 (f.d 3), .int .u8 (f.d 4), .int .u8 (f.d 5), .int .u8 (f.s 0), .int .u8 (f.s 1), .int .u8 (f.s 2), .int .u8 (f.s 3), .int .u8 (f.s 4), .int .u8 (f.s 5), .slice f.ta f.tl.length f.tc, .int .i64 f.k, .int .i64 f.t, .int .i64 f.da, .int .i64 f.sa, .int .i64 f.ct, .int .i64 f.ou, .int .i64 f.pi, .string f.bo]] W fun e w' => e = .returned (.bool (snapB f)) ∧ Below W.heap.size W w') := fun W => isSnap_any f W
  have HI : Hid (∀ W, Calls Try.prog 61 #[.agg #[.int .u8 (f.d 0), .int .u8 (f.d 1), .int .u8 (f.d 2), .int .u8 (f.d 3), .int .u8 (f.d 4), .int .u8 (f.d 5), .int .u8 (f.s 0), .int .u8 (f.s 1), .int .u8 (f.s 2), .int .u8 (f.s 3), .int .u8 (f.s 4), .int .u8 (f.s 5), .slice f.ta f.tl.length f.tc, .int .i64 f.k, .int .i64 f.t, .int .i64 f.da, .int .i64 f.sa, .int .i64 f.ct, .int .i64 f.ou, .int .i64 f.pi, .string f.bo]] W fun e w' => e = .returned (.int .i64 (hdI f.k + (f.bo.size : Int))) ∧ Below W.heap.size W w') := fun W => inner_any f W hshort
  unfold frV frC at *
  go_enter Try.func33, Try.ntmps33
  go_wp2
  generalize w.alloc (.cells #[.int .u8 (f.d 0), .int .u8 (f.d 1), .int .u8 (f.d 2), .int .u8 (f.d 3), .int .u8 (f.d 4), .int .u8 (f.d 5), .int .u8 (f.s 0), .int .u8 (f.s 1), .int .u8 (f.s 2), .int .u8 (f.s 3), .int .u8 (f.s 4), .int .u8 (f.s 5), .slice f.ta f.tl.length f.tc, .int .i64 f.k, .int .i64 f.t, .int .i64 f.da, .int .i64 f.sa, .int .i64 f.ct, .int .i64 f.ou, .int .i64 f.pi, .string f.bo] 36) = w1 at *
  have S1 : HasF w1 w.heap.size f ∧ w1.cell? ⟨w.heap.size, 12, none⟩ = some (.slice f.ta f.tl.length f.tc) ∧ w1.cell? ⟨w.heap.size, 20, none⟩ = some (.string f.bo) := ⟨hF0, (hF0.c 12).trans rfl, (hF0.c 20).trans rfl⟩
  refine wp_region_noPanic ?_
  refine wp_region_held_drew (S := (fun w' => HasF w' w.heap.size f ∧ w'.cell? ⟨w.heap.size, 12, none⟩ = some (.slice f.ta f.tl.length f.tc) ∧ w'.cell? ⟨w.heap.size, 20, none⟩ = some (.string f.bo))) (by kernel_rfl) ?_ (fun hHeld => ?_)
  · exact S1
  refine wpAnyH_take (i := 0) (v := ?_) rfl (by kernel_rfl) (by kernel_rfl) (by kernel_rfl) (fun _ _ _ h => h) (Or.inl ⟨by rfl, ?_⟩) (by assumption) ?_
  rotate_left
  · (intro w hSw; (try dsimp only at hSw); go_simp; (try with_reducible rfl))
  (try simp only [Act.put, List.getElem_toArray, List.getElem_cons_zero, List.getElem_cons_succ, List.setIfInBounds_toArray, List.set_cons_zero, List.set_cons_succ])
  refine wpAnyH_take (i := 1) (v := ?_) rfl (by kernel_rfl) (by kernel_rfl) (by kernel_rfl) (fun _ _ _ h => h) (Or.inl ⟨by rfl, ?_⟩) (by assumption) ?_
  rotate_left
  · (intro w hSw; (try dsimp only at hSw); go_simp; (try with_reducible rfl))
  (try simp only [Act.put, List.getElem_toArray, List.getElem_cons_zero, List.getElem_cons_succ, List.setIfInBounds_toArray, List.set_cons_zero, List.set_cons_succ])
  refine wpAnyH_ready (rs := [2]) (by kernel_rfl) (by simp) ?_
  refine AllReadyH.cons rfl (fun K hK => ?_) AllReadyH.nil
  simp only [List.getElem_toArray, List.getElem_cons_zero, List.getElem_cons_succ]
  go_simp
  go_at_call 56; (with_reducible refine (HST.out _ ?_).mono ?_); (exact hI0.tags); rintro e w2 ⟨rfl, k2⟩; have hF2 : HasF w2 _ f := HasF.below hF0.drew k2 hF0.lt; have S2 : HasF w2 w.heap.size f ∧ w2.cell? ⟨w.heap.size, 12, none⟩ = some (.slice f.ta f.tl.length f.tc) ∧ w2.cell? ⟨w.heap.size, 20, none⟩ = some (.string f.bo) := ⟨hF2, (hF2.c 12).trans rfl, (hF2.c 20).trans rfl⟩
  refine hK.out _ _ ?_ (fun hHeld => ?_)
  · exact S2
  clear hK K
  (try simp only [Act.put, List.getElem_toArray, List.getElem_cons_zero, List.getElem_cons_succ, List.setIfInBounds_toArray, List.set_cons_zero, List.set_cons_succ])
  refine wpAnyH_take (i := 3) (v := ?_) rfl (by kernel_rfl) (by kernel_rfl) (by kernel_rfl) (fun _ _ _ h => h) (Or.inl ⟨by rfl, ?_⟩) (by assumption) ?_
  rotate_left
  · (intro w hSw; (try dsimp only at hSw); go_simp; (try with_reducible rfl))
  (try simp only [Act.put, List.getElem_toArray, List.getElem_cons_zero, List.getElem_cons_succ, List.setIfInBounds_toArray, List.set_cons_zero, List.set_cons_succ])
  refine wpAnyH_take (i := 4) (v := ?_) rfl (by kernel_rfl) (by kernel_rfl) (by kernel_rfl) (fun _ _ _ h => h) (Or.inl ⟨by rfl, ?_⟩) (by assumption) ?_
  rotate_left
  · (intro w hSw; (try dsimp only at hSw); go_simp; (try with_reducible rfl))
  (try simp only [Act.put, List.getElem_toArray, List.getElem_cons_zero, List.getElem_cons_succ, List.setIfInBounds_toArray, List.set_cons_zero, List.set_cons_succ])
  refine wpAnyH_take (i := 5) (v := .agg #[.int .u8 (f.d 0), .int .u8 (f.d 1), .int .u8 (f.d 2), .int .u8 (f.d 3), .int .u8 (f.d 4), .int .u8 (f.d 5), .int .u8 (f.s 0), .int .u8 (f.s 1), .int .u8 (f.s 2), .int .u8 (f.s 3), .int .u8 (f.s 4), .int .u8 (f.s 5), .slice f.ta f.tl.length f.tc, .int .i64 f.k, .int .i64 f.t, .int .i64 f.da, .int .i64 f.sa, .int .i64 f.ct, .int .i64 f.ou, .int .i64 f.pi, .string f.bo]) rfl (by kernel_rfl) (by kernel_rfl) (by kernel_rfl) (fun _ _ _ h => h) (Or.inl ⟨by rfl, fun w hSw => exec_load_fr f rfl rfl hSw.1⟩) (by assumption) ?_
  (try simp only [Act.put, List.getElem_toArray, List.getElem_cons_zero, List.getElem_cons_succ, List.setIfInBounds_toArray, List.set_cons_zero, List.set_cons_succ])
  refine wpAnyH_take (i := 7) (v := ?_) rfl (by kernel_rfl) (by kernel_rfl) (by kernel_rfl) (fun _ _ _ h => h) (Or.inl ⟨by rfl, ?_⟩) (by assumption) ?_
  rotate_left
  · (intro w hSw; (try dsimp only at hSw); go_simp; (try with_reducible rfl))
  (try simp only [Act.put, List.getElem_toArray, List.getElem_cons_zero, List.getElem_cons_succ, List.setIfInBounds_toArray, List.set_cons_zero, List.set_cons_succ])
  refine wpAnyH_take (i := 8) (v := ?_) rfl (by kernel_rfl) (by kernel_rfl) (by kernel_rfl) (fun _ _ _ h => h) (Or.inl ⟨by rfl, ?_⟩) (by assumption) ?_
  rotate_left
  · (intro w hSw; (try dsimp only at hSw); go_simp; (try with_reducible rfl))
  (try simp only [Act.put, List.getElem_toArray, List.getElem_cons_zero, List.getElem_cons_succ, List.setIfInBounds_toArray, List.set_cons_zero, List.set_cons_succ])
  refine wpAnyH_take (i := 9) (v := ?_) rfl (by kernel_rfl) (by kernel_rfl) (by kernel_rfl) (fun _ _ _ h => h) (Or.inl ⟨by rfl, ?_⟩) (by assumption) ?_
  rotate_left
  · (intro w hSw; (try dsimp only at hSw); go_simp; (try with_reducible rfl))
  (try simp only [Act.put, List.getElem_toArray, List.getElem_cons_zero, List.getElem_cons_succ, List.setIfInBounds_toArray, List.set_cons_zero, List.set_cons_succ])
  refine wpAnyH_ready (rs := [6]) (by kernel_rfl) (by simp) ?_
  refine AllReadyH.cons rfl (fun K hK => ?_) AllReadyH.nil
  simp only [List.getElem_toArray, List.getElem_cons_zero, List.getElem_cons_succ]
  go_simp
  go_at_call 57; (with_reducible refine (HHD.out _).mono ?_); rintro e w3 ⟨rfl, k3⟩; have hF3 : HasF w3 _ f := HasF.below hF2 k3 hF2.lt; have S3 : HasF w3 w.heap.size f ∧ w3.cell? ⟨w.heap.size, 12, none⟩ = some (.slice f.ta f.tl.length f.tc) ∧ w3.cell? ⟨w.heap.size, 20, none⟩ = some (.string f.bo) := ⟨hF3, (hF3.c 12).trans rfl, (hF3.c 20).trans rfl⟩
  refine hK.out _ _ ?_ (fun hHeld => ?_)
  · exact S3
  clear hK K
  (try simp only [Act.put, List.getElem_toArray, List.getElem_cons_zero, List.getElem_cons_succ, List.setIfInBounds_toArray, List.set_cons_zero, List.set_cons_succ])
  refine wpAnyH_take (i := 10) (v := ?_) rfl (by kernel_rfl) (by kernel_rfl) (by kernel_rfl) (fun _ _ _ h => h) (Or.inl ⟨by rfl, ?_⟩) (by assumption) ?_
  rotate_left
  · (intro w hSw; (try dsimp only at hSw); go_simp; (try with_reducible rfl))
  (try simp only [Act.put, List.getElem_toArray, List.getElem_cons_zero, List.getElem_cons_succ, List.setIfInBounds_toArray, List.set_cons_zero, List.set_cons_succ])
  refine wpAnyH_take (i := 11) (v := ?_) rfl (by kernel_rfl) (by kernel_rfl) (by kernel_rfl) (fun _ _ _ h => h) (Or.inl ⟨by rfl, ?_⟩) (by assumption) ?_
  rotate_left
  · (intro w hSw; (try dsimp only at hSw); go_simp; (try with_reducible rfl))
  (try simp only [Act.put, List.getElem_toArray, List.getElem_cons_zero, List.getElem_cons_succ, List.setIfInBounds_toArray, List.set_cons_zero, List.set_cons_succ])
  refine wpAnyH_take (i := 12) (v := ?_) rfl (by kernel_rfl) (by kernel_rfl) (by kernel_rfl) (fun _ _ _ h => h) (Or.inl ⟨by rfl, ?_⟩) (by assumption) ?_
  rotate_left
  · (intro w hSw; (try dsimp only at hSw); go_simp; (try with_reducible rfl))
  (try simp only [Act.put, List.getElem_toArray, List.getElem_cons_zero, List.getElem_cons_succ, List.setIfInBounds_toArray, List.set_cons_zero, List.set_cons_succ])
  refine wpAnyH_done (by kernel_rfl) ?_ _
  refine NoPanic.normal ?_
  have b2 : Below w.heap.size w w2 := hb0.drew.trans (k2.mono hb0.size)
  have b3 : Below w.heap.size w w3 := b2.trans (k3.mono b2.size)
  clear S1 S2 S3 k2 k3 hF0 hF2 hHeld hI0 HST HHD b2 h63
  have c13 : w3.cell? ⟨w.heap.size, 13, none⟩ = some (.int .i64 f.k) := (hF3.c 13).trans rfl
  go_wp2_with ((refine load_fr (.tmp 1) f w.heap.size ?_ ?_ ?_ hF3 ?_); (rfl); (rfl); (rfl))
  refine (HX.out _).mono ?_
  rintro e w4 ⟨rfl, k4⟩
  have b4 : Below w.heap.size w w4 := b3.trans (k4.mono b3.size)
  have hF4 : HasF w4 _ f := HasF.below hF3 k4 hF3.lt
  clear c13 hF3 k4 b3
  cases hx : snapB f with
  | false =>
    go_wp2
    go_ret
    exact ⟨by rw [hx]; rfl, b4⟩
  | true =>
    go_wp2_with ((refine load_fr (.tmp 1) f w.heap.size ?_ ?_ ?_ hF4 ?_); (rfl); (rfl); (rfl))
    refine (HI.out _).mono ?_
    rintro e w5 ⟨rfl, k5⟩
    have b5 : Below w.heap.size w w5 := b4.trans (k5.mono b4.size)
    have hF5 : HasF w5 _ f := HasF.below hF4 k5 hF4.lt
    clear hF4 k5 b4
    have c14 : w5.cell? ⟨w.heap.size, 14, none⟩ = some (.int .i64 f.t) := (hF5.c 14).trans rfl
    have c15 : w5.cell? ⟨w.heap.size, 15, none⟩ = some (.int .i64 f.da) := (hF5.c 15).trans rfl
    have c16 : w5.cell? ⟨w.heap.size, 16, none⟩ = some (.int .i64 f.sa) := (hF5.c 16).trans rfl
    have c17 : w5.cell? ⟨w.heap.size, 17, none⟩ = some (.int .i64 f.ct) := (hF5.c 17).trans rfl
    have c18 : w5.cell? ⟨w.heap.size, 18, none⟩ = some (.int .i64 f.ou) := (hF5.c 18).trans rfl
    have c19 : w5.cell? ⟨w.heap.size, 19, none⟩ = some (.int .i64 f.pi) := (hF5.c 19).trans rfl
    cases hs : decide (hdI f.k + (f.bo.size : Int) ≤ 1500) with
    | false =>
      go_wp2
      go_ret
      exact ⟨by rw [hx, hs]; rfl, b5⟩
    | true =>
      go_wp2_with fail
      refine (HU.out _ _ rfl).mono ?_
      rintro e w6 ⟨rfl, hw6⟩
      subst hw6
      go_wp2
      go_ret
      exact ⟨by rw [hx, hs]; rfl, b5.alloc b5.size _⟩

set_option maxHeartbeats 4000000 in
theorem right_else (f : Fr) (w : World) (hf : FrIn w f) (hst : stackB f.tl = true) (hlg : longB f = false) (h1 : (f.k == 1) = false) (h2 : (f.k == 2) = false) (h3 : (f.k == 3) = false) :
    Calls Try.prog 33 #[frV f] w fun e w' => e = .returned (.bool false) ∧ Below w.heap.size w w' := by
  have hb0 : Below w.heap.size w (w.alloc (.cells (frC f) 36)) := (Below.refl _ _).alloc (Nat.le_refl _) _
  have hF0 := HasF.new w f
  have hI0 := hf.below hb0
  have hfew := hf.few
  have hshort := hf.short
  have hd := hdI_le f.k
  have HST : Hid (∀ W, TagsIn W f.ta f.tl → Calls Try.prog 56 #[.slice f.ta f.tl.length f.tc] W fun e w' => e = .returned (.bool (stackB f.tl)) ∧ Below W.heap.size W w') := fun W h => stack_any f.ta f.tc f.tl W h (by omega)
  rw [hst] at HST
  clear hst
  have HHD : Hid (∀ W, Calls Try.prog 57 #[.agg #[.int .u8 (f.d 0), .int .u8 (f.d 1), .int .u8 (f.d 2), .int .u8 (f.d 3), .int .u8 (f.d 4), .int .u8 (f.d 5), .int .u8 (f.s 0), .int .u8 (f.s 1), .int .u8 (f.s 2), .int .u8 (f.s 3), .int .u8 (f.s 4), .int .u8 (f.s 5), .slice f.ta f.tl.length f.tc, .int .i64 f.k, .int .i64 f.t, .int .i64 f.da, .int .i64 f.sa, .int .i64 f.ct, .int .i64 f.ou, .int .i64 f.pi, .string f.bo]] W fun e w' => e = .returned (.int .i64 (14 + 4 * (f.tl.length : Int) + hdI f.k)) ∧ Below W.heap.size W w') := fun W => head_lit f W hfew
  have h63 : IntKind.i64.wrap (14 + 4 * (f.tl.length : Int) + hdI f.k + (f.bo.size : Int)) = 14 + 4 * (f.tl.length : Int) + hdI f.k + (f.bo.size : Int) := by rw [IntKind.wrap_i64]; omega
  unfold longB at hlg
  unfold frV frC at *
  go_enter Try.func33, Try.ntmps33
  go_wp2
  generalize w.alloc (.cells #[.int .u8 (f.d 0), .int .u8 (f.d 1), .int .u8 (f.d 2), .int .u8 (f.d 3), .int .u8 (f.d 4), .int .u8 (f.d 5), .int .u8 (f.s 0), .int .u8 (f.s 1), .int .u8 (f.s 2), .int .u8 (f.s 3), .int .u8 (f.s 4), .int .u8 (f.s 5), .slice f.ta f.tl.length f.tc, .int .i64 f.k, .int .i64 f.t, .int .i64 f.da, .int .i64 f.sa, .int .i64 f.ct, .int .i64 f.ou, .int .i64 f.pi, .string f.bo] 36) = w1 at *
  have S1 : HasF w1 w.heap.size f ∧ w1.cell? ⟨w.heap.size, 12, none⟩ = some (.slice f.ta f.tl.length f.tc) ∧ w1.cell? ⟨w.heap.size, 20, none⟩ = some (.string f.bo) := ⟨hF0, (hF0.c 12).trans rfl, (hF0.c 20).trans rfl⟩
  refine wp_region_noPanic ?_
  refine wp_region_held_drew (S := (fun w' => HasF w' w.heap.size f ∧ w'.cell? ⟨w.heap.size, 12, none⟩ = some (.slice f.ta f.tl.length f.tc) ∧ w'.cell? ⟨w.heap.size, 20, none⟩ = some (.string f.bo))) (by kernel_rfl) ?_ (fun hHeld => ?_)
  · exact S1
  refine wpAnyH_take (i := 0) (v := ?_) rfl (by kernel_rfl) (by kernel_rfl) (by kernel_rfl) (fun _ _ _ h => h) (Or.inl ⟨by rfl, ?_⟩) (by assumption) ?_
  rotate_left
  · (intro w hSw; (try dsimp only at hSw); go_simp; (try with_reducible rfl))
  (try simp only [Act.put, List.getElem_toArray, List.getElem_cons_zero, List.getElem_cons_succ, List.setIfInBounds_toArray, List.set_cons_zero, List.set_cons_succ])
  refine wpAnyH_take (i := 1) (v := ?_) rfl (by kernel_rfl) (by kernel_rfl) (by kernel_rfl) (fun _ _ _ h => h) (Or.inl ⟨by rfl, ?_⟩) (by assumption) ?_
  rotate_left
  · (intro w hSw; (try dsimp only at hSw); go_simp; (try with_reducible rfl))
  (try simp only [Act.put, List.getElem_toArray, List.getElem_cons_zero, List.getElem_cons_succ, List.setIfInBounds_toArray, List.set_cons_zero, List.set_cons_succ])
  refine wpAnyH_ready (rs := [2]) (by kernel_rfl) (by simp) ?_
  refine AllReadyH.cons rfl (fun K hK => ?_) AllReadyH.nil
  simp only [List.getElem_toArray, List.getElem_cons_zero, List.getElem_cons_succ]
  go_simp
  go_at_call 56; (with_reducible refine (HST.out _ ?_).mono ?_); (exact hI0.tags); rintro e w2 ⟨rfl, k2⟩; have hF2 : HasF w2 _ f := HasF.below hF0.drew k2 hF0.lt; have S2 : HasF w2 w.heap.size f ∧ w2.cell? ⟨w.heap.size, 12, none⟩ = some (.slice f.ta f.tl.length f.tc) ∧ w2.cell? ⟨w.heap.size, 20, none⟩ = some (.string f.bo) := ⟨hF2, (hF2.c 12).trans rfl, (hF2.c 20).trans rfl⟩
  refine hK.out _ _ ?_ (fun hHeld => ?_)
  · exact S2
  clear hK K
  (try simp only [Act.put, List.getElem_toArray, List.getElem_cons_zero, List.getElem_cons_succ, List.setIfInBounds_toArray, List.set_cons_zero, List.set_cons_succ])
  refine wpAnyH_take (i := 3) (v := ?_) rfl (by kernel_rfl) (by kernel_rfl) (by kernel_rfl) (fun _ _ _ h => h) (Or.inl ⟨by rfl, ?_⟩) (by assumption) ?_
  rotate_left
  · (intro w hSw; (try dsimp only at hSw); go_simp; (try with_reducible rfl))
  (try simp only [Act.put, List.getElem_toArray, List.getElem_cons_zero, List.getElem_cons_succ, List.setIfInBounds_toArray, List.set_cons_zero, List.set_cons_succ])
  refine wpAnyH_take (i := 4) (v := ?_) rfl (by kernel_rfl) (by kernel_rfl) (by kernel_rfl) (fun _ _ _ h => h) (Or.inl ⟨by rfl, ?_⟩) (by assumption) ?_
  rotate_left
  · (intro w hSw; (try dsimp only at hSw); go_simp; (try with_reducible rfl))
  (try simp only [Act.put, List.getElem_toArray, List.getElem_cons_zero, List.getElem_cons_succ, List.setIfInBounds_toArray, List.set_cons_zero, List.set_cons_succ])
  refine wpAnyH_take (i := 5) (v := .agg #[.int .u8 (f.d 0), .int .u8 (f.d 1), .int .u8 (f.d 2), .int .u8 (f.d 3), .int .u8 (f.d 4), .int .u8 (f.d 5), .int .u8 (f.s 0), .int .u8 (f.s 1), .int .u8 (f.s 2), .int .u8 (f.s 3), .int .u8 (f.s 4), .int .u8 (f.s 5), .slice f.ta f.tl.length f.tc, .int .i64 f.k, .int .i64 f.t, .int .i64 f.da, .int .i64 f.sa, .int .i64 f.ct, .int .i64 f.ou, .int .i64 f.pi, .string f.bo]) rfl (by kernel_rfl) (by kernel_rfl) (by kernel_rfl) (fun _ _ _ h => h) (Or.inl ⟨by rfl, fun w hSw => exec_load_fr f rfl rfl hSw.1⟩) (by assumption) ?_
  (try simp only [Act.put, List.getElem_toArray, List.getElem_cons_zero, List.getElem_cons_succ, List.setIfInBounds_toArray, List.set_cons_zero, List.set_cons_succ])
  refine wpAnyH_take (i := 7) (v := ?_) rfl (by kernel_rfl) (by kernel_rfl) (by kernel_rfl) (fun _ _ _ h => h) (Or.inl ⟨by rfl, ?_⟩) (by assumption) ?_
  rotate_left
  · (intro w hSw; (try dsimp only at hSw); go_simp; (try with_reducible rfl))
  (try simp only [Act.put, List.getElem_toArray, List.getElem_cons_zero, List.getElem_cons_succ, List.setIfInBounds_toArray, List.set_cons_zero, List.set_cons_succ])
  refine wpAnyH_take (i := 8) (v := ?_) rfl (by kernel_rfl) (by kernel_rfl) (by kernel_rfl) (fun _ _ _ h => h) (Or.inl ⟨by rfl, ?_⟩) (by assumption) ?_
  rotate_left
  · (intro w hSw; (try dsimp only at hSw); go_simp; (try with_reducible rfl))
  (try simp only [Act.put, List.getElem_toArray, List.getElem_cons_zero, List.getElem_cons_succ, List.setIfInBounds_toArray, List.set_cons_zero, List.set_cons_succ])
  refine wpAnyH_take (i := 9) (v := ?_) rfl (by kernel_rfl) (by kernel_rfl) (by kernel_rfl) (fun _ _ _ h => h) (Or.inl ⟨by rfl, ?_⟩) (by assumption) ?_
  rotate_left
  · (intro w hSw; (try dsimp only at hSw); go_simp; (try with_reducible rfl))
  (try simp only [Act.put, List.getElem_toArray, List.getElem_cons_zero, List.getElem_cons_succ, List.setIfInBounds_toArray, List.set_cons_zero, List.set_cons_succ])
  refine wpAnyH_ready (rs := [6]) (by kernel_rfl) (by simp) ?_
  refine AllReadyH.cons rfl (fun K hK => ?_) AllReadyH.nil
  simp only [List.getElem_toArray, List.getElem_cons_zero, List.getElem_cons_succ]
  go_simp
  go_at_call 57; (with_reducible refine (HHD.out _).mono ?_); rintro e w3 ⟨rfl, k3⟩; have hF3 : HasF w3 _ f := HasF.below hF2 k3 hF2.lt; have S3 : HasF w3 w.heap.size f ∧ w3.cell? ⟨w.heap.size, 12, none⟩ = some (.slice f.ta f.tl.length f.tc) ∧ w3.cell? ⟨w.heap.size, 20, none⟩ = some (.string f.bo) := ⟨hF3, (hF3.c 12).trans rfl, (hF3.c 20).trans rfl⟩
  refine hK.out _ _ ?_ (fun hHeld => ?_)
  · exact S3
  clear hK K
  (try simp only [Act.put, List.getElem_toArray, List.getElem_cons_zero, List.getElem_cons_succ, List.setIfInBounds_toArray, List.set_cons_zero, List.set_cons_succ])
  refine wpAnyH_take (i := 10) (v := ?_) rfl (by kernel_rfl) (by kernel_rfl) (by kernel_rfl) (fun _ _ _ h => h) (Or.inl ⟨by rfl, ?_⟩) (by assumption) ?_
  rotate_left
  · (intro w hSw; (try dsimp only at hSw); go_simp; (try with_reducible rfl))
  (try simp only [Act.put, List.getElem_toArray, List.getElem_cons_zero, List.getElem_cons_succ, List.setIfInBounds_toArray, List.set_cons_zero, List.set_cons_succ])
  refine wpAnyH_take (i := 11) (v := ?_) rfl (by kernel_rfl) (by kernel_rfl) (by kernel_rfl) (fun _ _ _ h => h) (Or.inl ⟨by rfl, ?_⟩) (by assumption) ?_
  rotate_left
  · (intro w hSw; (try dsimp only at hSw); go_simp; (try with_reducible rfl))
  (try simp only [Act.put, List.getElem_toArray, List.getElem_cons_zero, List.getElem_cons_succ, List.setIfInBounds_toArray, List.set_cons_zero, List.set_cons_succ])
  refine wpAnyH_take (i := 12) (v := ?_) rfl (by kernel_rfl) (by kernel_rfl) (by kernel_rfl) (fun _ _ _ h => h) (Or.inl ⟨by rfl, ?_⟩) (by assumption) ?_
  rotate_left
  · (intro w hSw; (try dsimp only at hSw); go_simp; (try with_reducible rfl))
  (try simp only [Act.put, List.getElem_toArray, List.getElem_cons_zero, List.getElem_cons_succ, List.setIfInBounds_toArray, List.set_cons_zero, List.set_cons_succ])
  refine wpAnyH_done (by kernel_rfl) ?_ _
  refine NoPanic.normal ?_
  have b2 : Below w.heap.size w w2 := hb0.drew.trans (k2.mono hb0.size)
  have b3 : Below w.heap.size w w3 := b2.trans (k3.mono b2.size)
  clear S1 S2 S3 k2 k3 hF0 hF2 hHeld hI0 HST HHD b2 h63
  have c13 : w3.cell? ⟨w.heap.size, 13, none⟩ = some (.int .i64 f.k) := (hF3.c 13).trans rfl
  clear hF3
  go_wp2
  go_ret
  exact ⟨rfl, b3⟩

/-- Right: whether a frame may be. -/
theorem right_frame (f : Fr) (w : World) (hf : FrIn w f) :
    Calls Try.prog 33 #[frV f] w fun e w' => e = .returned (.bool (rightB f)) ∧ Below w.heap.size w w' := by
  unfold rightB
  cases hst : stackB f.tl with
  | false => exact right_unstacked f w hf hst
  | true =>
    cases hlg : longB f with
    | true => exact right_long f w hf hst hlg
    | false =>
      simp only [Bool.true_and, Bool.not_false]
      unfold kindB
      by_cases h1 : f.k = 1
      · rw [if_pos h1]; exact right_ether f w hf hst hlg h1
      · rw [if_neg h1]
        by_cases h2 : f.k = 2
        · rw [if_pos h2]; exact right_llc f w hf hst hlg h2
        · rw [if_neg h2]
          by_cases h3 : f.k = 3
          · rw [if_pos h3]; exact right_snap f w hf hst hlg h3
          · rw [if_neg h3]; exact right_else f w hf hst hlg (beq_eq_false_iff_ne.2 h1) (beq_eq_false_iff_ne.2 h2) (beq_eq_false_iff_ne.2 h3)

end Go.Proofs.Ytdceggekhhflgaa
