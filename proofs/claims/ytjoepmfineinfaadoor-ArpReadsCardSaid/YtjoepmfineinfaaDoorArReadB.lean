/- arp.Read, some of its ways. -/
import Derived.Test.YtjoepmfineinfaaDoorBlk
import Derived.Test.YtjoepmfineinfaaDoorArLay
import Derived.Test.YtjoepmfineinfaaDoorExp
namespace Go.Proofs.YtjoepmfineinfaaDoor
open Go.RowKit
attribute [local go_sem ↓] Go.wp_at_zero Go.wp_at_succ
set_option linter.unusedSimpArgs false
set_option linter.unusedVariables false
set_option maxRecDepth 100000

set_option maxHeartbeats 3200000 in
theorem arRead_ttf (s : ByteArray) (w : World) (hs : s.size ≤ 300) (hhead : (ar1 s.data.toList).1 = arHead) (hr : (arOp s.data.toList = 1 ∨ arOp s.data.toList = 2)) (hz : (ar9 s.data.toList).1 = false) :
    Calls Tryd.prog 9 #[.string s] w fun e w' => ∃ q, e = .returned (.tuple #[.agg (arC zAr), .iface 102 (.pointer (some ⟨q, 0, none⟩))]) ∧ Flt w' q (arE s.data.toList) (arP s.data.toList) ∧ Below w.heap.size w w' := by
  have hL : s.data.toList.length = s.size := by simp
  have hb : 0 + s.size ≤ 281474976710656 := by omega
  have HA0 := Blk.new w 26 (arC zAr)
  have B0 : Below w.heap.size w (w.alloc (.cells (arC zAr) 26)) := (Below.refl _ _).alloc (Nat.le_refl _) _
  have HX : Hid (∀ W g, RdT W g s 0 (0, 0, -1) → Calls Tryd.prog 34 #[.pointer (some ⟨g, 0, none⟩), .string ⟨#[0, 1, 8, 0, 6, 4]⟩, .slice none 0 0] W fun e w' => e = .returned (.string ⟨(exV s.data.toList (0, 0, -1) [0, 1, 8, 0, 6, 4]).toArray⟩) ∧ RdT w' g s 0 (ar2 s.data.toList) ∧ W.grownBy w' (some g)) := fun W g h => exp_t ⟨#[0, 1, 8, 0, 6, 4]⟩ (by decide) (0, 0, -1) W h (Nat.zero_le _) hb
  have l2 : (ar2 s.data.toList).1 ≤ s.size := by have := ar2_le s.data.toList; omega
  have l4 : (ar4 s.data.toList).1 ≤ s.size := by have := ar4_le s.data.toList; omega
  have l5 : (ar5 s.data.toList).2.1 ≤ s.size := by have := ar5_le s.data.toList; omega
  have l6 : (ar6 s.data.toList).2.1 ≤ s.size := by have := ar6_le s.data.toList; omega
  have l7 : (ar7 s.data.toList).2.1 ≤ s.size := by have := ar7_le s.data.toList; omega
  have l8 : (ar8 s.data.toList).2.1 ≤ s.size := by have := ar8_le s.data.toList; omega
  have hop := arOp_lt s.data.toList
  go_enter Tryd.func9, Tryd.ntmps9
  go_upto_region 1 with (refine alloc_blk 26 (arC zAr) (by rfl) rfl Tryd.arZero ?_)
  generalize w.alloc (.cells (arC zAr) 26) = w1 at *
  have hA1 := HA0.lt
  go_wp2_with fail
  refine (new_t s 0 _).mono ?_
  rintro e w2 ⟨rfl, HR2, b2⟩
  have HA2 := HA0.kept b2
  have B2 := B0.trans (b2.mono B0.size)
  generalize w1.heap.size = g at *
  clear HA0 B0 b2
  go_wp2_with fail
  refine (HX.out _ _ HR2).mono ?_
  rintro e w4 ⟨rfl, HR4, g4⟩
  have HA4 := HA2.reads HR2 (by decide : 26 ≠ 104) g4
  have B4 := grown_belowA B2 g4 B2.size (by omega)
  clear HR2 HA2 B2 g4 HX
  go_wp2_with fail
  refine (num_t (ar2 s.data.toList) 2 _ HR4 l2 hb).mono ?_
  rintro e w5 ⟨rfl, HR5', g5⟩
  have HR5 : RdT w5 g s 0 (ar3 s.data.toList).2 := HR5'
  have HA5 := HA4.reads HR4 (by decide : 26 ≠ 104) g5
  have B5 := grown_belowA B4 g5 B4.size (by omega)
  have hwr : wrap64 (beN (tkN s.data.toList 0 (ar2 s.data.toList) 2 true).1) = (arOp s.data.toList : Int) := by
    show wrap64 ((arOp s.data.toList : Nat) : Int) = _
    unfold wrap64
    omega
  rw [hwr]
  clear HR4 HR5' HA4 B4 g5 hwr
  have HR6 := HR5.below ((Below.refl _ _).alloc (Nat.le_refl _) (.cells (arC zAr) 26))
  have HA6 := HA5.alloc (.cells (arC zAr) 26)
  have HV6 := Blk.new w5 26 (arC zAr)
  have B6 := B5.alloc B5.size (.cells (arC zAr) 26)
  have hs5 : w.heap.size < w5.heap.size := HA5.lt
  have hg5 : g < w5.heap.size := HR5.lt
  clear HR5 HA5 B5
  go_upto_region 4 with (first | (refine build_blk (t := 26) (arC ⟨(arOp s.data.toList : Int), z6, z6, z6, z6⟩) (by rfl) rfl (by kernel_rfl) ?_) | (refine alloc_blk 26 (arC zAr) (by rfl) rfl Tryd.arZero ?_) | (refine store_blk (k := 0) 26 (.agg (arC ⟨(arOp s.data.toList : Int), z6, z6, z6, z6⟩)) (arC ⟨(arOp s.data.toList : Int), z6, z6, z6, z6⟩) (by rfl) rfl rfl rfl HV6 (by kernel_rfl) (by exact Nat.le_refl 21) rfl rfl (fun w7 HV7 b7 g7 => ?_)))
  have HR7 := HR6.other HV6 (by decide : 26 ≠ 104) (by decide : 26 ≠ 110) g7
  have HA7 := HA6.grown g7 (by simp; omega)
  have B7 := B6.trans (b7.mono (Nat.le_of_lt hs5))
  generalize w5.heap.size = v at *
  clear HR6 HA6 HV6 B6 g7 b7
  have hright : arRight ⟨(arOp s.data.toList : Int), z6, z6, z6, z6⟩ = true := by
    unfold arRight
    rcases hr with h | h <;> simp [h]
  go_wp2_with (refine load_blk (k := 0) 26 (arC ⟨(arOp s.data.toList : Int), z6, z6, z6, z6⟩) (by rfl) rfl rfl HV7 (by kernel_rfl) (by kernel_rfl) rfl ?_)
  refine (arRight_any ⟨(arOp s.data.toList : Int), z6, z6, z6, z6⟩ _).mono ?_
  rintro e w8 ⟨rfl, b8⟩
  have HR8 := HR7.below b8
  have HA8 := HA7.kept b8
  have HV8 := HV7.kept b8
  have B8 := B7.trans (b8.mono B7.size)
  rw [hright]
  clear HR7 HA7 HV7 B7 b8 hright
  go_wp2_with fail
  have HR9 : RdT w8 g s 0 (ar4 s.data.toList) := by have e : ar4 s.data.toList = (ar3 s.data.toList).2 := if_pos hr; rw [e]; exact HR8
  have HA9 := HA8
  have HV9 := HV8
  have B9 := B8
  generalize w8 = w9 at *
  clear HR8 HA8 HV8 B8
  have hl10 := tkN_short s.data.toList 0 (ar4 s.data.toList) 6 false
  have hn10 := tkN_len s.data.toList 0 (ar4 s.data.toList) 6 false
  refine wp_region_noPanic ?_
  refine wp_region_held_drew (S := (fun _ => True)) (by kernel_rfl) ?_ (fun hHeld => ?_)
  · exact trivial
  refine wpAnyH_take (i := 0) (v := ?_) rfl (by kernel_rfl) (by kernel_rfl) (by kernel_rfl) (fun _ _ _ h => h) (Or.inl ⟨by rfl, ?_⟩) (by assumption) ?_
  rotate_left
  · (intro w hSw; (try dsimp only at hSw); go_simp; (try with_reducible rfl))
  (try simp only [Act.put, List.getElem_toArray, List.getElem_cons_zero, List.getElem_cons_succ, List.setIfInBounds_toArray, List.set_cons_zero, List.set_cons_succ])
  refine wpAnyH_take (i := 1) (v := ?_) rfl (by kernel_rfl) (by kernel_rfl) (by kernel_rfl) (fun _ _ _ h => h) (Or.inl ⟨by rfl, ?_⟩) (by assumption) ?_
  rotate_left
  · (intro w hSw; (try dsimp only at hSw); go_simp; (try with_reducible rfl))
  (try simp only [Act.put, List.getElem_toArray, List.getElem_cons_zero, List.getElem_cons_succ, List.setIfInBounds_toArray, List.set_cons_zero, List.set_cons_succ])
  refine wpAnyH_take (i := 2) (v := ?_) rfl (by kernel_rfl) (by kernel_rfl) (by kernel_rfl) (fun _ _ _ h => h) (Or.inl ⟨by rfl, ?_⟩) (by assumption) ?_
  rotate_left
  · (intro w hSw; (try dsimp only at hSw); go_simp; (try with_reducible rfl))
  (try simp only [Act.put, List.getElem_toArray, List.getElem_cons_zero, List.getElem_cons_succ, List.setIfInBounds_toArray, List.set_cons_zero, List.set_cons_succ])
  refine wpAnyH_ready (rs := [3]) (by kernel_rfl) (by simp) ?_
  refine AllReadyH.cons rfl (fun K hK => ?_) AllReadyH.nil
  simp only [List.getElem_toArray, List.getElem_cons_zero, List.getElem_cons_succ]
  go_simp
  go_at_call 37; (refine (bytes_t (ar4 s.data.toList) 6 _ HR9.drew l4 hb).mono ?_); rintro e w10 ⟨rfl, HR10', g10⟩; have HR10 : RdT w10 g s 0 (ar5 s.data.toList).2 := HR10'; have HV10 := HV9.drew.reads HR9.drew (by decide : 26 ≠ 104) g10
  refine hK.out _ _ ?_ (fun hHeld => ?_)
  · exact trivial
  clear hK K
  (try simp only [Act.put, List.getElem_toArray, List.getElem_cons_zero, List.getElem_cons_succ, List.setIfInBounds_toArray, List.set_cons_zero, List.set_cons_succ])
  refine wpAnyH_ready (rs := [4]) (by kernel_rfl) (by simp) ?_
  refine AllReadyH.cons rfl (fun K hK => ?_) AllReadyH.nil
  simp only [List.getElem_toArray, List.getElem_cons_zero, List.getElem_cons_succ]
  rw [if_pos (by rfl)]
  refine wp_copy_text ⟨(ar5 s.data.toList).1.toArray⟩ (arC ⟨(arOp s.data.toList : Int), (byX (ar5 s.data.toList).1), z6, z6, z6⟩) 5 rfl rfl rfl HV10 Tryd.underlying74 (by kernel_rfl) (by exact hl10) (by have q : (⟨(ar5 s.data.toList).1.toArray⟩ : ByteArray).size ≤ 6 := hl10; show 1 + _ ≤ 21; omega) ?_ (fun w11 HV11 b11 g11 => ?_)
  · exact arCopy_sha _ z6 _ _ _ (ar5 s.data.toList).1 hn10
  have HR11 := HR10.other HV10 (by decide : 26 ≠ 104) (by decide : 26 ≠ 110) g11
  refine hK.out _ _ ?_ (fun hHeld => ?_)
  · trivial
  clear hK K
  (try simp only [Act.put, List.getElem_toArray, List.getElem_cons_zero, List.getElem_cons_succ, List.setIfInBounds_toArray, List.set_cons_zero, List.set_cons_succ])
  refine wpAnyH_done (by kernel_rfl) ?_ _
  refine NoPanic.normal ?_
  have HA10 := HA9.drew.reads HR9.drew (by decide : 26 ≠ 104) g10
  have B10 := grown_belowA B9.drew g10 B9.size (by omega)
  have HA11 := HA10.grown g11 (by simp; omega)
  have B11 := grown_belowA B10 g11 B10.size (by omega)
  clear HR9 HA9 HV9 B9 HR10 HR10' HA10 HV10 B10 g10 g11 b11 hl10 hn10 hHeld
  go_wp2_with fail
  have hl12 := tkN_short s.data.toList 0 (ar5 s.data.toList).2 4 false
  have hn12 := tkN_len s.data.toList 0 (ar5 s.data.toList).2 4 false
  refine wp_region_noPanic ?_
  refine wp_region_held_drew (S := (fun _ => True)) (by kernel_rfl) ?_ (fun hHeld => ?_)
  · exact trivial
  refine wpAnyH_take (i := 0) (v := ?_) rfl (by kernel_rfl) (by kernel_rfl) (by kernel_rfl) (fun _ _ _ h => h) (Or.inl ⟨by rfl, ?_⟩) (by assumption) ?_
  rotate_left
  · (intro w hSw; (try dsimp only at hSw); go_simp; (try with_reducible rfl))
  (try simp only [Act.put, List.getElem_toArray, List.getElem_cons_zero, List.getElem_cons_succ, List.setIfInBounds_toArray, List.set_cons_zero, List.set_cons_succ])
  refine wpAnyH_take (i := 1) (v := ?_) rfl (by kernel_rfl) (by kernel_rfl) (by kernel_rfl) (fun _ _ _ h => h) (Or.inl ⟨by rfl, ?_⟩) (by assumption) ?_
  rotate_left
  · (intro w hSw; (try dsimp only at hSw); go_simp; (try with_reducible rfl))
  (try simp only [Act.put, List.getElem_toArray, List.getElem_cons_zero, List.getElem_cons_succ, List.setIfInBounds_toArray, List.set_cons_zero, List.set_cons_succ])
  refine wpAnyH_take (i := 2) (v := ?_) rfl (by kernel_rfl) (by kernel_rfl) (by kernel_rfl) (fun _ _ _ h => h) (Or.inl ⟨by rfl, ?_⟩) (by assumption) ?_
  rotate_left
  · (intro w hSw; (try dsimp only at hSw); go_simp; (try with_reducible rfl))
  (try simp only [Act.put, List.getElem_toArray, List.getElem_cons_zero, List.getElem_cons_succ, List.setIfInBounds_toArray, List.set_cons_zero, List.set_cons_succ])
  refine wpAnyH_ready (rs := [3]) (by kernel_rfl) (by simp) ?_
  refine AllReadyH.cons rfl (fun K hK => ?_) AllReadyH.nil
  simp only [List.getElem_toArray, List.getElem_cons_zero, List.getElem_cons_succ]
  go_simp
  go_at_call 37; (refine (bytes_t (ar5 s.data.toList).2 4 _ HR11.drew l5 hb).mono ?_); rintro e w12 ⟨rfl, HR12', g12⟩; have HR12 : RdT w12 g s 0 (ar6 s.data.toList).2 := HR12'; have HV12 := HV11.drew.reads HR11.drew (by decide : 26 ≠ 104) g12
  refine hK.out _ _ ?_ (fun hHeld => ?_)
  · exact trivial
  clear hK K
  (try simp only [Act.put, List.getElem_toArray, List.getElem_cons_zero, List.getElem_cons_succ, List.setIfInBounds_toArray, List.set_cons_zero, List.set_cons_succ])
  refine wpAnyH_ready (rs := [4]) (by kernel_rfl) (by simp) ?_
  refine AllReadyH.cons rfl (fun K hK => ?_) AllReadyH.nil
  simp only [List.getElem_toArray, List.getElem_cons_zero, List.getElem_cons_succ]
  rw [if_pos (by rfl)]
  refine wp_copy_text ⟨(ar6 s.data.toList).1.toArray⟩ (arC ⟨(arOp s.data.toList : Int), (byX (ar5 s.data.toList).1), z6, (byX (ar6 s.data.toList).1), z6⟩) 5 rfl rfl rfl HV12 Tryd.underlying74 (by kernel_rfl) (by exact hl12) (by have q : (⟨(ar6 s.data.toList).1.toArray⟩ : ByteArray).size ≤ 4 := hl12; show 13 + _ ≤ 21; omega) ?_ (fun w13 HV13 b13 g13 => ?_)
  · exact arCopy_spa _ _ _ z6 _ (ar6 s.data.toList).1 hn12
  have HR13 := HR12.other HV12 (by decide : 26 ≠ 104) (by decide : 26 ≠ 110) g13
  refine hK.out _ _ ?_ (fun hHeld => ?_)
  · trivial
  clear hK K
  (try simp only [Act.put, List.getElem_toArray, List.getElem_cons_zero, List.getElem_cons_succ, List.setIfInBounds_toArray, List.set_cons_zero, List.set_cons_succ])
  refine wpAnyH_done (by kernel_rfl) ?_ _
  refine NoPanic.normal ?_
  have HA12 := HA11.drew.reads HR11.drew (by decide : 26 ≠ 104) g12
  have B12 := grown_belowA B11.drew g12 B11.size (by omega)
  have HA13 := HA12.grown g13 (by simp; omega)
  have B13 := grown_belowA B12 g13 B12.size (by omega)
  clear HR11 HA11 HV11 B11 HR12 HR12' HA12 HV12 B12 g12 g13 b13 hl12 hn12 hHeld
  go_wp2_with fail
  have hl14 := tkN_short s.data.toList 0 (ar6 s.data.toList).2 6 false
  have hn14 := tkN_len s.data.toList 0 (ar6 s.data.toList).2 6 false
  refine wp_region_noPanic ?_
  refine wp_region_held_drew (S := (fun _ => True)) (by kernel_rfl) ?_ (fun hHeld => ?_)
  · exact trivial
  refine wpAnyH_take (i := 0) (v := ?_) rfl (by kernel_rfl) (by kernel_rfl) (by kernel_rfl) (fun _ _ _ h => h) (Or.inl ⟨by rfl, ?_⟩) (by assumption) ?_
  rotate_left
  · (intro w hSw; (try dsimp only at hSw); go_simp; (try with_reducible rfl))
  (try simp only [Act.put, List.getElem_toArray, List.getElem_cons_zero, List.getElem_cons_succ, List.setIfInBounds_toArray, List.set_cons_zero, List.set_cons_succ])
  refine wpAnyH_take (i := 1) (v := ?_) rfl (by kernel_rfl) (by kernel_rfl) (by kernel_rfl) (fun _ _ _ h => h) (Or.inl ⟨by rfl, ?_⟩) (by assumption) ?_
  rotate_left
  · (intro w hSw; (try dsimp only at hSw); go_simp; (try with_reducible rfl))
  (try simp only [Act.put, List.getElem_toArray, List.getElem_cons_zero, List.getElem_cons_succ, List.setIfInBounds_toArray, List.set_cons_zero, List.set_cons_succ])
  refine wpAnyH_take (i := 2) (v := ?_) rfl (by kernel_rfl) (by kernel_rfl) (by kernel_rfl) (fun _ _ _ h => h) (Or.inl ⟨by rfl, ?_⟩) (by assumption) ?_
  rotate_left
  · (intro w hSw; (try dsimp only at hSw); go_simp; (try with_reducible rfl))
  (try simp only [Act.put, List.getElem_toArray, List.getElem_cons_zero, List.getElem_cons_succ, List.setIfInBounds_toArray, List.set_cons_zero, List.set_cons_succ])
  refine wpAnyH_ready (rs := [3]) (by kernel_rfl) (by simp) ?_
  refine AllReadyH.cons rfl (fun K hK => ?_) AllReadyH.nil
  simp only [List.getElem_toArray, List.getElem_cons_zero, List.getElem_cons_succ]
  go_simp
  go_at_call 37; (refine (bytes_t (ar6 s.data.toList).2 6 _ HR13.drew l6 hb).mono ?_); rintro e w14 ⟨rfl, HR14', g14⟩; have HR14 : RdT w14 g s 0 (ar7 s.data.toList).2 := HR14'; have HV14 := HV13.drew.reads HR13.drew (by decide : 26 ≠ 104) g14
  refine hK.out _ _ ?_ (fun hHeld => ?_)
  · exact trivial
  clear hK K
  (try simp only [Act.put, List.getElem_toArray, List.getElem_cons_zero, List.getElem_cons_succ, List.setIfInBounds_toArray, List.set_cons_zero, List.set_cons_succ])
  refine wpAnyH_ready (rs := [4]) (by kernel_rfl) (by simp) ?_
  refine AllReadyH.cons rfl (fun K hK => ?_) AllReadyH.nil
  simp only [List.getElem_toArray, List.getElem_cons_zero, List.getElem_cons_succ]
  rw [if_pos (by rfl)]
  refine wp_copy_text ⟨(ar7 s.data.toList).1.toArray⟩ (arC ⟨(arOp s.data.toList : Int), (byX (ar5 s.data.toList).1), (byX (ar7 s.data.toList).1), (byX (ar6 s.data.toList).1), z6⟩) 5 rfl rfl rfl HV14 Tryd.underlying74 (by kernel_rfl) (by exact hl14) (by have q : (⟨(ar7 s.data.toList).1.toArray⟩ : ByteArray).size ≤ 6 := hl14; show 7 + _ ≤ 21; omega) ?_ (fun w15 HV15 b15 g15 => ?_)
  · exact arCopy_tha _ _ z6 _ _ (ar7 s.data.toList).1 hn14
  have HR15 := HR14.other HV14 (by decide : 26 ≠ 104) (by decide : 26 ≠ 110) g15
  refine hK.out _ _ ?_ (fun hHeld => ?_)
  · trivial
  clear hK K
  (try simp only [Act.put, List.getElem_toArray, List.getElem_cons_zero, List.getElem_cons_succ, List.setIfInBounds_toArray, List.set_cons_zero, List.set_cons_succ])
  refine wpAnyH_done (by kernel_rfl) ?_ _
  refine NoPanic.normal ?_
  have HA14 := HA13.drew.reads HR13.drew (by decide : 26 ≠ 104) g14
  have B14 := grown_belowA B13.drew g14 B13.size (by omega)
  have HA15 := HA14.grown g15 (by simp; omega)
  have B15 := grown_belowA B14 g15 B14.size (by omega)
  clear HR13 HA13 HV13 B13 HR14 HR14' HA14 HV14 B14 g14 g15 b15 hl14 hn14 hHeld
  go_wp2_with fail
  have hl16 := tkN_short s.data.toList 0 (ar7 s.data.toList).2 4 false
  have hn16 := tkN_len s.data.toList 0 (ar7 s.data.toList).2 4 false
  refine wp_region_noPanic ?_
  refine wp_region_held_drew (S := (fun _ => True)) (by kernel_rfl) ?_ (fun hHeld => ?_)
  · exact trivial
  refine wpAnyH_take (i := 0) (v := ?_) rfl (by kernel_rfl) (by kernel_rfl) (by kernel_rfl) (fun _ _ _ h => h) (Or.inl ⟨by rfl, ?_⟩) (by assumption) ?_
  rotate_left
  · (intro w hSw; (try dsimp only at hSw); go_simp; (try with_reducible rfl))
  (try simp only [Act.put, List.getElem_toArray, List.getElem_cons_zero, List.getElem_cons_succ, List.setIfInBounds_toArray, List.set_cons_zero, List.set_cons_succ])
  refine wpAnyH_take (i := 1) (v := ?_) rfl (by kernel_rfl) (by kernel_rfl) (by kernel_rfl) (fun _ _ _ h => h) (Or.inl ⟨by rfl, ?_⟩) (by assumption) ?_
  rotate_left
  · (intro w hSw; (try dsimp only at hSw); go_simp; (try with_reducible rfl))
  (try simp only [Act.put, List.getElem_toArray, List.getElem_cons_zero, List.getElem_cons_succ, List.setIfInBounds_toArray, List.set_cons_zero, List.set_cons_succ])
  refine wpAnyH_take (i := 2) (v := ?_) rfl (by kernel_rfl) (by kernel_rfl) (by kernel_rfl) (fun _ _ _ h => h) (Or.inl ⟨by rfl, ?_⟩) (by assumption) ?_
  rotate_left
  · (intro w hSw; (try dsimp only at hSw); go_simp; (try with_reducible rfl))
  (try simp only [Act.put, List.getElem_toArray, List.getElem_cons_zero, List.getElem_cons_succ, List.setIfInBounds_toArray, List.set_cons_zero, List.set_cons_succ])
  refine wpAnyH_ready (rs := [3]) (by kernel_rfl) (by simp) ?_
  refine AllReadyH.cons rfl (fun K hK => ?_) AllReadyH.nil
  simp only [List.getElem_toArray, List.getElem_cons_zero, List.getElem_cons_succ]
  go_simp
  go_at_call 37; (refine (bytes_t (ar7 s.data.toList).2 4 _ HR15.drew l7 hb).mono ?_); rintro e w16 ⟨rfl, HR16', g16⟩; have HR16 : RdT w16 g s 0 (ar8 s.data.toList).2 := HR16'; have HV16 := HV15.drew.reads HR15.drew (by decide : 26 ≠ 104) g16
  refine hK.out _ _ ?_ (fun hHeld => ?_)
  · exact trivial
  clear hK K
  (try simp only [Act.put, List.getElem_toArray, List.getElem_cons_zero, List.getElem_cons_succ, List.setIfInBounds_toArray, List.set_cons_zero, List.set_cons_succ])
  refine wpAnyH_ready (rs := [4]) (by kernel_rfl) (by simp) ?_
  refine AllReadyH.cons rfl (fun K hK => ?_) AllReadyH.nil
  simp only [List.getElem_toArray, List.getElem_cons_zero, List.getElem_cons_succ]
  rw [if_pos (by rfl)]
  refine wp_copy_text ⟨(ar8 s.data.toList).1.toArray⟩ (arC ⟨(arOp s.data.toList : Int), (byX (ar5 s.data.toList).1), (byX (ar7 s.data.toList).1), (byX (ar6 s.data.toList).1), (byX (ar8 s.data.toList).1)⟩) 5 rfl rfl rfl HV16 Tryd.underlying74 (by kernel_rfl) (by exact hl16) (by have q : (⟨(ar8 s.data.toList).1.toArray⟩ : ByteArray).size ≤ 4 := hl16; show 17 + _ ≤ 21; omega) ?_ (fun w17 HV17 b17 g17 => ?_)
  · exact arCopy_tpa _ _ _ _ z6 (ar8 s.data.toList).1 hn16
  have HR17 := HR16.other HV16 (by decide : 26 ≠ 104) (by decide : 26 ≠ 110) g17
  refine hK.out _ _ ?_ (fun hHeld => ?_)
  · trivial
  clear hK K
  (try simp only [Act.put, List.getElem_toArray, List.getElem_cons_zero, List.getElem_cons_succ, List.setIfInBounds_toArray, List.set_cons_zero, List.set_cons_succ])
  refine wpAnyH_done (by kernel_rfl) ?_ _
  refine NoPanic.normal ?_
  have HA16 := HA15.drew.reads HR15.drew (by decide : 26 ≠ 104) g16
  have B16 := grown_belowA B15.drew g16 B15.size (by omega)
  have HA17 := HA16.grown g17 (by simp; omega)
  have B17 := grown_belowA B16 g17 B16.size (by omega)
  clear HR15 HA15 HV15 B15 HR16 HR16' HA16 HV16 B16 g16 g17 b17 hl16 hn16 hHeld
  go_wp2_with fail
  refine (zeros_t (ar8 s.data.toList).2 _ HR17 l8 hb).mono ?_
  rintro e w18 ⟨rfl, HR18', g18⟩
  have HR18 : RdT w18 g s 0 (ar9 s.data.toList).2 := HR18'
  have HA18 := HA17.reads HR17 (by decide : 26 ≠ 104) g18
  have HV18 := HV17.reads HR17 (by decide : 26 ≠ 104) g18
  have B18 := grown_belowA B17 g18 B17.size (by omega)
  rw [show (zrR s.data.toList 0 (ar8 s.data.toList).2).1 = false from hz]
  clear HR17 HR18' HA17 HV17 B17 g18
  go_wp2_with (refine build_blk (t := 26) (arC zAr) (by rfl) rfl (by kernel_rfl) ?_)
  refine (err_t (ar9 s.data.toList).2 _ HR18 (zrR_no _ _ _ hz)).mono ?_
  rintro e w19 ⟨rfl, hf, b19⟩
  have HA19 := HA18.kept b19
  have hlt19 : w.heap.size < w18.heap.size := HA18.lt
  have B19 := B18.trans (b19.mono B18.size)
  clear HR18 HA18 HV18 B18 b19
  go_wp2_with (refine store_blk (k := 0) 26 (.agg (arC zAr)) (arC zAr) (by rfl) rfl rfl rfl HA19 (by kernel_rfl) (by exact Nat.le_refl 21) rfl rfl (fun w20 HA20 b20 g20 => ?_))
  have B20 := B19.trans (b20.mono (Nat.le_refl _))
  have hf20 : Flt w20 w18.heap.size (arE s.data.toList) (arP s.data.toList) := hf.kept g20 (by simp; omega)
  exact bodyPost_ret (results_blk_tmp rfl rfl HA20 (by kernel_rfl) (by kernel_rfl)) rfl ⟨_, rfl, hf20, B20⟩

set_option maxHeartbeats 3200000 in
theorem arRead_ttt (s : ByteArray) (w : World) (hs : s.size ≤ 300) (hhead : (ar1 s.data.toList).1 = arHead) (hr : (arOp s.data.toList = 1 ∨ arOp s.data.toList = 2)) (hz : (ar9 s.data.toList).1 = true) :
    Calls Tryd.prog 9 #[.string s] w fun e w' => e = .returned (.tuple #[.agg (arC (arOf s.data.toList)), .nilIface]) ∧ Below w.heap.size w w' := by
  have hL : s.data.toList.length = s.size := by simp
  have hb : 0 + s.size ≤ 281474976710656 := by omega
  have HA0 := Blk.new w 26 (arC zAr)
  have B0 : Below w.heap.size w (w.alloc (.cells (arC zAr) 26)) := (Below.refl _ _).alloc (Nat.le_refl _) _
  have HX : Hid (∀ W g, RdT W g s 0 (0, 0, -1) → Calls Tryd.prog 34 #[.pointer (some ⟨g, 0, none⟩), .string ⟨#[0, 1, 8, 0, 6, 4]⟩, .slice none 0 0] W fun e w' => e = .returned (.string ⟨(exV s.data.toList (0, 0, -1) [0, 1, 8, 0, 6, 4]).toArray⟩) ∧ RdT w' g s 0 (ar2 s.data.toList) ∧ W.grownBy w' (some g)) := fun W g h => exp_t ⟨#[0, 1, 8, 0, 6, 4]⟩ (by decide) (0, 0, -1) W h (Nat.zero_le _) hb
  have l2 : (ar2 s.data.toList).1 ≤ s.size := by have := ar2_le s.data.toList; omega
  have l4 : (ar4 s.data.toList).1 ≤ s.size := by have := ar4_le s.data.toList; omega
  have l5 : (ar5 s.data.toList).2.1 ≤ s.size := by have := ar5_le s.data.toList; omega
  have l6 : (ar6 s.data.toList).2.1 ≤ s.size := by have := ar6_le s.data.toList; omega
  have l7 : (ar7 s.data.toList).2.1 ≤ s.size := by have := ar7_le s.data.toList; omega
  have l8 : (ar8 s.data.toList).2.1 ≤ s.size := by have := ar8_le s.data.toList; omega
  have hop := arOp_lt s.data.toList
  go_enter Tryd.func9, Tryd.ntmps9
  go_upto_region 1 with (refine alloc_blk 26 (arC zAr) (by rfl) rfl Tryd.arZero ?_)
  generalize w.alloc (.cells (arC zAr) 26) = w1 at *
  have hA1 := HA0.lt
  go_wp2_with fail
  refine (new_t s 0 _).mono ?_
  rintro e w2 ⟨rfl, HR2, b2⟩
  have HA2 := HA0.kept b2
  have B2 := B0.trans (b2.mono B0.size)
  generalize w1.heap.size = g at *
  clear HA0 B0 b2
  go_wp2_with fail
  refine (HX.out _ _ HR2).mono ?_
  rintro e w4 ⟨rfl, HR4, g4⟩
  have HA4 := HA2.reads HR2 (by decide : 26 ≠ 104) g4
  have B4 := grown_belowA B2 g4 B2.size (by omega)
  clear HR2 HA2 B2 g4 HX
  go_wp2_with fail
  refine (num_t (ar2 s.data.toList) 2 _ HR4 l2 hb).mono ?_
  rintro e w5 ⟨rfl, HR5', g5⟩
  have HR5 : RdT w5 g s 0 (ar3 s.data.toList).2 := HR5'
  have HA5 := HA4.reads HR4 (by decide : 26 ≠ 104) g5
  have B5 := grown_belowA B4 g5 B4.size (by omega)
  have hwr : wrap64 (beN (tkN s.data.toList 0 (ar2 s.data.toList) 2 true).1) = (arOp s.data.toList : Int) := by
    show wrap64 ((arOp s.data.toList : Nat) : Int) = _
    unfold wrap64
    omega
  rw [hwr]
  clear HR4 HR5' HA4 B4 g5 hwr
  have HR6 := HR5.below ((Below.refl _ _).alloc (Nat.le_refl _) (.cells (arC zAr) 26))
  have HA6 := HA5.alloc (.cells (arC zAr) 26)
  have HV6 := Blk.new w5 26 (arC zAr)
  have B6 := B5.alloc B5.size (.cells (arC zAr) 26)
  have hs5 : w.heap.size < w5.heap.size := HA5.lt
  have hg5 : g < w5.heap.size := HR5.lt
  clear HR5 HA5 B5
  go_upto_region 4 with (first | (refine build_blk (t := 26) (arC ⟨(arOp s.data.toList : Int), z6, z6, z6, z6⟩) (by rfl) rfl (by kernel_rfl) ?_) | (refine alloc_blk 26 (arC zAr) (by rfl) rfl Tryd.arZero ?_) | (refine store_blk (k := 0) 26 (.agg (arC ⟨(arOp s.data.toList : Int), z6, z6, z6, z6⟩)) (arC ⟨(arOp s.data.toList : Int), z6, z6, z6, z6⟩) (by rfl) rfl rfl rfl HV6 (by kernel_rfl) (by exact Nat.le_refl 21) rfl rfl (fun w7 HV7 b7 g7 => ?_)))
  have HR7 := HR6.other HV6 (by decide : 26 ≠ 104) (by decide : 26 ≠ 110) g7
  have HA7 := HA6.grown g7 (by simp; omega)
  have B7 := B6.trans (b7.mono (Nat.le_of_lt hs5))
  generalize w5.heap.size = v at *
  clear HR6 HA6 HV6 B6 g7 b7
  have hright : arRight ⟨(arOp s.data.toList : Int), z6, z6, z6, z6⟩ = true := by
    unfold arRight
    rcases hr with h | h <;> simp [h]
  go_wp2_with (refine load_blk (k := 0) 26 (arC ⟨(arOp s.data.toList : Int), z6, z6, z6, z6⟩) (by rfl) rfl rfl HV7 (by kernel_rfl) (by kernel_rfl) rfl ?_)
  refine (arRight_any ⟨(arOp s.data.toList : Int), z6, z6, z6, z6⟩ _).mono ?_
  rintro e w8 ⟨rfl, b8⟩
  have HR8 := HR7.below b8
  have HA8 := HA7.kept b8
  have HV8 := HV7.kept b8
  have B8 := B7.trans (b8.mono B7.size)
  rw [hright]
  clear HR7 HA7 HV7 B7 b8 hright
  go_wp2_with fail
  have HR9 : RdT w8 g s 0 (ar4 s.data.toList) := by have e : ar4 s.data.toList = (ar3 s.data.toList).2 := if_pos hr; rw [e]; exact HR8
  have HA9 := HA8
  have HV9 := HV8
  have B9 := B8
  generalize w8 = w9 at *
  clear HR8 HA8 HV8 B8
  have hl10 := tkN_short s.data.toList 0 (ar4 s.data.toList) 6 false
  have hn10 := tkN_len s.data.toList 0 (ar4 s.data.toList) 6 false
  refine wp_region_noPanic ?_
  refine wp_region_held_drew (S := (fun _ => True)) (by kernel_rfl) ?_ (fun hHeld => ?_)
  · exact trivial
  refine wpAnyH_take (i := 0) (v := ?_) rfl (by kernel_rfl) (by kernel_rfl) (by kernel_rfl) (fun _ _ _ h => h) (Or.inl ⟨by rfl, ?_⟩) (by assumption) ?_
  rotate_left
  · (intro w hSw; (try dsimp only at hSw); go_simp; (try with_reducible rfl))
  (try simp only [Act.put, List.getElem_toArray, List.getElem_cons_zero, List.getElem_cons_succ, List.setIfInBounds_toArray, List.set_cons_zero, List.set_cons_succ])
  refine wpAnyH_take (i := 1) (v := ?_) rfl (by kernel_rfl) (by kernel_rfl) (by kernel_rfl) (fun _ _ _ h => h) (Or.inl ⟨by rfl, ?_⟩) (by assumption) ?_
  rotate_left
  · (intro w hSw; (try dsimp only at hSw); go_simp; (try with_reducible rfl))
  (try simp only [Act.put, List.getElem_toArray, List.getElem_cons_zero, List.getElem_cons_succ, List.setIfInBounds_toArray, List.set_cons_zero, List.set_cons_succ])
  refine wpAnyH_take (i := 2) (v := ?_) rfl (by kernel_rfl) (by kernel_rfl) (by kernel_rfl) (fun _ _ _ h => h) (Or.inl ⟨by rfl, ?_⟩) (by assumption) ?_
  rotate_left
  · (intro w hSw; (try dsimp only at hSw); go_simp; (try with_reducible rfl))
  (try simp only [Act.put, List.getElem_toArray, List.getElem_cons_zero, List.getElem_cons_succ, List.setIfInBounds_toArray, List.set_cons_zero, List.set_cons_succ])
  refine wpAnyH_ready (rs := [3]) (by kernel_rfl) (by simp) ?_
  refine AllReadyH.cons rfl (fun K hK => ?_) AllReadyH.nil
  simp only [List.getElem_toArray, List.getElem_cons_zero, List.getElem_cons_succ]
  go_simp
  go_at_call 37; (refine (bytes_t (ar4 s.data.toList) 6 _ HR9.drew l4 hb).mono ?_); rintro e w10 ⟨rfl, HR10', g10⟩; have HR10 : RdT w10 g s 0 (ar5 s.data.toList).2 := HR10'; have HV10 := HV9.drew.reads HR9.drew (by decide : 26 ≠ 104) g10
  refine hK.out _ _ ?_ (fun hHeld => ?_)
  · exact trivial
  clear hK K
  (try simp only [Act.put, List.getElem_toArray, List.getElem_cons_zero, List.getElem_cons_succ, List.setIfInBounds_toArray, List.set_cons_zero, List.set_cons_succ])
  refine wpAnyH_ready (rs := [4]) (by kernel_rfl) (by simp) ?_
  refine AllReadyH.cons rfl (fun K hK => ?_) AllReadyH.nil
  simp only [List.getElem_toArray, List.getElem_cons_zero, List.getElem_cons_succ]
  rw [if_pos (by rfl)]
  refine wp_copy_text ⟨(ar5 s.data.toList).1.toArray⟩ (arC ⟨(arOp s.data.toList : Int), (byX (ar5 s.data.toList).1), z6, z6, z6⟩) 5 rfl rfl rfl HV10 Tryd.underlying74 (by kernel_rfl) (by exact hl10) (by have q : (⟨(ar5 s.data.toList).1.toArray⟩ : ByteArray).size ≤ 6 := hl10; show 1 + _ ≤ 21; omega) ?_ (fun w11 HV11 b11 g11 => ?_)
  · exact arCopy_sha _ z6 _ _ _ (ar5 s.data.toList).1 hn10
  have HR11 := HR10.other HV10 (by decide : 26 ≠ 104) (by decide : 26 ≠ 110) g11
  refine hK.out _ _ ?_ (fun hHeld => ?_)
  · trivial
  clear hK K
  (try simp only [Act.put, List.getElem_toArray, List.getElem_cons_zero, List.getElem_cons_succ, List.setIfInBounds_toArray, List.set_cons_zero, List.set_cons_succ])
  refine wpAnyH_done (by kernel_rfl) ?_ _
  refine NoPanic.normal ?_
  have HA10 := HA9.drew.reads HR9.drew (by decide : 26 ≠ 104) g10
  have B10 := grown_belowA B9.drew g10 B9.size (by omega)
  have HA11 := HA10.grown g11 (by simp; omega)
  have B11 := grown_belowA B10 g11 B10.size (by omega)
  clear HR9 HA9 HV9 B9 HR10 HR10' HA10 HV10 B10 g10 g11 b11 hl10 hn10 hHeld
  go_wp2_with fail
  have hl12 := tkN_short s.data.toList 0 (ar5 s.data.toList).2 4 false
  have hn12 := tkN_len s.data.toList 0 (ar5 s.data.toList).2 4 false
  refine wp_region_noPanic ?_
  refine wp_region_held_drew (S := (fun _ => True)) (by kernel_rfl) ?_ (fun hHeld => ?_)
  · exact trivial
  refine wpAnyH_take (i := 0) (v := ?_) rfl (by kernel_rfl) (by kernel_rfl) (by kernel_rfl) (fun _ _ _ h => h) (Or.inl ⟨by rfl, ?_⟩) (by assumption) ?_
  rotate_left
  · (intro w hSw; (try dsimp only at hSw); go_simp; (try with_reducible rfl))
  (try simp only [Act.put, List.getElem_toArray, List.getElem_cons_zero, List.getElem_cons_succ, List.setIfInBounds_toArray, List.set_cons_zero, List.set_cons_succ])
  refine wpAnyH_take (i := 1) (v := ?_) rfl (by kernel_rfl) (by kernel_rfl) (by kernel_rfl) (fun _ _ _ h => h) (Or.inl ⟨by rfl, ?_⟩) (by assumption) ?_
  rotate_left
  · (intro w hSw; (try dsimp only at hSw); go_simp; (try with_reducible rfl))
  (try simp only [Act.put, List.getElem_toArray, List.getElem_cons_zero, List.getElem_cons_succ, List.setIfInBounds_toArray, List.set_cons_zero, List.set_cons_succ])
  refine wpAnyH_take (i := 2) (v := ?_) rfl (by kernel_rfl) (by kernel_rfl) (by kernel_rfl) (fun _ _ _ h => h) (Or.inl ⟨by rfl, ?_⟩) (by assumption) ?_
  rotate_left
  · (intro w hSw; (try dsimp only at hSw); go_simp; (try with_reducible rfl))
  (try simp only [Act.put, List.getElem_toArray, List.getElem_cons_zero, List.getElem_cons_succ, List.setIfInBounds_toArray, List.set_cons_zero, List.set_cons_succ])
  refine wpAnyH_ready (rs := [3]) (by kernel_rfl) (by simp) ?_
  refine AllReadyH.cons rfl (fun K hK => ?_) AllReadyH.nil
  simp only [List.getElem_toArray, List.getElem_cons_zero, List.getElem_cons_succ]
  go_simp
  go_at_call 37; (refine (bytes_t (ar5 s.data.toList).2 4 _ HR11.drew l5 hb).mono ?_); rintro e w12 ⟨rfl, HR12', g12⟩; have HR12 : RdT w12 g s 0 (ar6 s.data.toList).2 := HR12'; have HV12 := HV11.drew.reads HR11.drew (by decide : 26 ≠ 104) g12
  refine hK.out _ _ ?_ (fun hHeld => ?_)
  · exact trivial
  clear hK K
  (try simp only [Act.put, List.getElem_toArray, List.getElem_cons_zero, List.getElem_cons_succ, List.setIfInBounds_toArray, List.set_cons_zero, List.set_cons_succ])
  refine wpAnyH_ready (rs := [4]) (by kernel_rfl) (by simp) ?_
  refine AllReadyH.cons rfl (fun K hK => ?_) AllReadyH.nil
  simp only [List.getElem_toArray, List.getElem_cons_zero, List.getElem_cons_succ]
  rw [if_pos (by rfl)]
  refine wp_copy_text ⟨(ar6 s.data.toList).1.toArray⟩ (arC ⟨(arOp s.data.toList : Int), (byX (ar5 s.data.toList).1), z6, (byX (ar6 s.data.toList).1), z6⟩) 5 rfl rfl rfl HV12 Tryd.underlying74 (by kernel_rfl) (by exact hl12) (by have q : (⟨(ar6 s.data.toList).1.toArray⟩ : ByteArray).size ≤ 4 := hl12; show 13 + _ ≤ 21; omega) ?_ (fun w13 HV13 b13 g13 => ?_)
  · exact arCopy_spa _ _ _ z6 _ (ar6 s.data.toList).1 hn12
  have HR13 := HR12.other HV12 (by decide : 26 ≠ 104) (by decide : 26 ≠ 110) g13
  refine hK.out _ _ ?_ (fun hHeld => ?_)
  · trivial
  clear hK K
  (try simp only [Act.put, List.getElem_toArray, List.getElem_cons_zero, List.getElem_cons_succ, List.setIfInBounds_toArray, List.set_cons_zero, List.set_cons_succ])
  refine wpAnyH_done (by kernel_rfl) ?_ _
  refine NoPanic.normal ?_
  have HA12 := HA11.drew.reads HR11.drew (by decide : 26 ≠ 104) g12
  have B12 := grown_belowA B11.drew g12 B11.size (by omega)
  have HA13 := HA12.grown g13 (by simp; omega)
  have B13 := grown_belowA B12 g13 B12.size (by omega)
  clear HR11 HA11 HV11 B11 HR12 HR12' HA12 HV12 B12 g12 g13 b13 hl12 hn12 hHeld
  go_wp2_with fail
  have hl14 := tkN_short s.data.toList 0 (ar6 s.data.toList).2 6 false
  have hn14 := tkN_len s.data.toList 0 (ar6 s.data.toList).2 6 false
  refine wp_region_noPanic ?_
  refine wp_region_held_drew (S := (fun _ => True)) (by kernel_rfl) ?_ (fun hHeld => ?_)
  · exact trivial
  refine wpAnyH_take (i := 0) (v := ?_) rfl (by kernel_rfl) (by kernel_rfl) (by kernel_rfl) (fun _ _ _ h => h) (Or.inl ⟨by rfl, ?_⟩) (by assumption) ?_
  rotate_left
  · (intro w hSw; (try dsimp only at hSw); go_simp; (try with_reducible rfl))
  (try simp only [Act.put, List.getElem_toArray, List.getElem_cons_zero, List.getElem_cons_succ, List.setIfInBounds_toArray, List.set_cons_zero, List.set_cons_succ])
  refine wpAnyH_take (i := 1) (v := ?_) rfl (by kernel_rfl) (by kernel_rfl) (by kernel_rfl) (fun _ _ _ h => h) (Or.inl ⟨by rfl, ?_⟩) (by assumption) ?_
  rotate_left
  · (intro w hSw; (try dsimp only at hSw); go_simp; (try with_reducible rfl))
  (try simp only [Act.put, List.getElem_toArray, List.getElem_cons_zero, List.getElem_cons_succ, List.setIfInBounds_toArray, List.set_cons_zero, List.set_cons_succ])
  refine wpAnyH_take (i := 2) (v := ?_) rfl (by kernel_rfl) (by kernel_rfl) (by kernel_rfl) (fun _ _ _ h => h) (Or.inl ⟨by rfl, ?_⟩) (by assumption) ?_
  rotate_left
  · (intro w hSw; (try dsimp only at hSw); go_simp; (try with_reducible rfl))
  (try simp only [Act.put, List.getElem_toArray, List.getElem_cons_zero, List.getElem_cons_succ, List.setIfInBounds_toArray, List.set_cons_zero, List.set_cons_succ])
  refine wpAnyH_ready (rs := [3]) (by kernel_rfl) (by simp) ?_
  refine AllReadyH.cons rfl (fun K hK => ?_) AllReadyH.nil
  simp only [List.getElem_toArray, List.getElem_cons_zero, List.getElem_cons_succ]
  go_simp
  go_at_call 37; (refine (bytes_t (ar6 s.data.toList).2 6 _ HR13.drew l6 hb).mono ?_); rintro e w14 ⟨rfl, HR14', g14⟩; have HR14 : RdT w14 g s 0 (ar7 s.data.toList).2 := HR14'; have HV14 := HV13.drew.reads HR13.drew (by decide : 26 ≠ 104) g14
  refine hK.out _ _ ?_ (fun hHeld => ?_)
  · exact trivial
  clear hK K
  (try simp only [Act.put, List.getElem_toArray, List.getElem_cons_zero, List.getElem_cons_succ, List.setIfInBounds_toArray, List.set_cons_zero, List.set_cons_succ])
  refine wpAnyH_ready (rs := [4]) (by kernel_rfl) (by simp) ?_
  refine AllReadyH.cons rfl (fun K hK => ?_) AllReadyH.nil
  simp only [List.getElem_toArray, List.getElem_cons_zero, List.getElem_cons_succ]
  rw [if_pos (by rfl)]
  refine wp_copy_text ⟨(ar7 s.data.toList).1.toArray⟩ (arC ⟨(arOp s.data.toList : Int), (byX (ar5 s.data.toList).1), (byX (ar7 s.data.toList).1), (byX (ar6 s.data.toList).1), z6⟩) 5 rfl rfl rfl HV14 Tryd.underlying74 (by kernel_rfl) (by exact hl14) (by have q : (⟨(ar7 s.data.toList).1.toArray⟩ : ByteArray).size ≤ 6 := hl14; show 7 + _ ≤ 21; omega) ?_ (fun w15 HV15 b15 g15 => ?_)
  · exact arCopy_tha _ _ z6 _ _ (ar7 s.data.toList).1 hn14
  have HR15 := HR14.other HV14 (by decide : 26 ≠ 104) (by decide : 26 ≠ 110) g15
  refine hK.out _ _ ?_ (fun hHeld => ?_)
  · trivial
  clear hK K
  (try simp only [Act.put, List.getElem_toArray, List.getElem_cons_zero, List.getElem_cons_succ, List.setIfInBounds_toArray, List.set_cons_zero, List.set_cons_succ])
  refine wpAnyH_done (by kernel_rfl) ?_ _
  refine NoPanic.normal ?_
  have HA14 := HA13.drew.reads HR13.drew (by decide : 26 ≠ 104) g14
  have B14 := grown_belowA B13.drew g14 B13.size (by omega)
  have HA15 := HA14.grown g15 (by simp; omega)
  have B15 := grown_belowA B14 g15 B14.size (by omega)
  clear HR13 HA13 HV13 B13 HR14 HR14' HA14 HV14 B14 g14 g15 b15 hl14 hn14 hHeld
  go_wp2_with fail
  have hl16 := tkN_short s.data.toList 0 (ar7 s.data.toList).2 4 false
  have hn16 := tkN_len s.data.toList 0 (ar7 s.data.toList).2 4 false
  refine wp_region_noPanic ?_
  refine wp_region_held_drew (S := (fun _ => True)) (by kernel_rfl) ?_ (fun hHeld => ?_)
  · exact trivial
  refine wpAnyH_take (i := 0) (v := ?_) rfl (by kernel_rfl) (by kernel_rfl) (by kernel_rfl) (fun _ _ _ h => h) (Or.inl ⟨by rfl, ?_⟩) (by assumption) ?_
  rotate_left
  · (intro w hSw; (try dsimp only at hSw); go_simp; (try with_reducible rfl))
  (try simp only [Act.put, List.getElem_toArray, List.getElem_cons_zero, List.getElem_cons_succ, List.setIfInBounds_toArray, List.set_cons_zero, List.set_cons_succ])
  refine wpAnyH_take (i := 1) (v := ?_) rfl (by kernel_rfl) (by kernel_rfl) (by kernel_rfl) (fun _ _ _ h => h) (Or.inl ⟨by rfl, ?_⟩) (by assumption) ?_
  rotate_left
  · (intro w hSw; (try dsimp only at hSw); go_simp; (try with_reducible rfl))
  (try simp only [Act.put, List.getElem_toArray, List.getElem_cons_zero, List.getElem_cons_succ, List.setIfInBounds_toArray, List.set_cons_zero, List.set_cons_succ])
  refine wpAnyH_take (i := 2) (v := ?_) rfl (by kernel_rfl) (by kernel_rfl) (by kernel_rfl) (fun _ _ _ h => h) (Or.inl ⟨by rfl, ?_⟩) (by assumption) ?_
  rotate_left
  · (intro w hSw; (try dsimp only at hSw); go_simp; (try with_reducible rfl))
  (try simp only [Act.put, List.getElem_toArray, List.getElem_cons_zero, List.getElem_cons_succ, List.setIfInBounds_toArray, List.set_cons_zero, List.set_cons_succ])
  refine wpAnyH_ready (rs := [3]) (by kernel_rfl) (by simp) ?_
  refine AllReadyH.cons rfl (fun K hK => ?_) AllReadyH.nil
  simp only [List.getElem_toArray, List.getElem_cons_zero, List.getElem_cons_succ]
  go_simp
  go_at_call 37; (refine (bytes_t (ar7 s.data.toList).2 4 _ HR15.drew l7 hb).mono ?_); rintro e w16 ⟨rfl, HR16', g16⟩; have HR16 : RdT w16 g s 0 (ar8 s.data.toList).2 := HR16'; have HV16 := HV15.drew.reads HR15.drew (by decide : 26 ≠ 104) g16
  refine hK.out _ _ ?_ (fun hHeld => ?_)
  · exact trivial
  clear hK K
  (try simp only [Act.put, List.getElem_toArray, List.getElem_cons_zero, List.getElem_cons_succ, List.setIfInBounds_toArray, List.set_cons_zero, List.set_cons_succ])
  refine wpAnyH_ready (rs := [4]) (by kernel_rfl) (by simp) ?_
  refine AllReadyH.cons rfl (fun K hK => ?_) AllReadyH.nil
  simp only [List.getElem_toArray, List.getElem_cons_zero, List.getElem_cons_succ]
  rw [if_pos (by rfl)]
  refine wp_copy_text ⟨(ar8 s.data.toList).1.toArray⟩ (arC ⟨(arOp s.data.toList : Int), (byX (ar5 s.data.toList).1), (byX (ar7 s.data.toList).1), (byX (ar6 s.data.toList).1), (byX (ar8 s.data.toList).1)⟩) 5 rfl rfl rfl HV16 Tryd.underlying74 (by kernel_rfl) (by exact hl16) (by have q : (⟨(ar8 s.data.toList).1.toArray⟩ : ByteArray).size ≤ 4 := hl16; show 17 + _ ≤ 21; omega) ?_ (fun w17 HV17 b17 g17 => ?_)
  · exact arCopy_tpa _ _ _ _ z6 (ar8 s.data.toList).1 hn16
  have HR17 := HR16.other HV16 (by decide : 26 ≠ 104) (by decide : 26 ≠ 110) g17
  refine hK.out _ _ ?_ (fun hHeld => ?_)
  · trivial
  clear hK K
  (try simp only [Act.put, List.getElem_toArray, List.getElem_cons_zero, List.getElem_cons_succ, List.setIfInBounds_toArray, List.set_cons_zero, List.set_cons_succ])
  refine wpAnyH_done (by kernel_rfl) ?_ _
  refine NoPanic.normal ?_
  have HA16 := HA15.drew.reads HR15.drew (by decide : 26 ≠ 104) g16
  have B16 := grown_belowA B15.drew g16 B15.size (by omega)
  have HA17 := HA16.grown g17 (by simp; omega)
  have B17 := grown_belowA B16 g17 B16.size (by omega)
  clear HR15 HA15 HV15 B15 HR16 HR16' HA16 HV16 B16 g16 g17 b17 hl16 hn16 hHeld
  go_wp2_with fail
  refine (zeros_t (ar8 s.data.toList).2 _ HR17 l8 hb).mono ?_
  rintro e w18 ⟨rfl, HR18', g18⟩
  have HR18 : RdT w18 g s 0 (ar9 s.data.toList).2 := HR18'
  have HA18 := HA17.reads HR17 (by decide : 26 ≠ 104) g18
  have HV18 := HV17.reads HR17 (by decide : 26 ≠ 104) g18
  have B18 := grown_belowA B17 g18 B17.size (by omega)
  rw [show (zrR s.data.toList 0 (ar8 s.data.toList).2).1 = true from hz]
  clear HR17 HR18' HA17 HV17 B17 g18
  go_wp2_with (first | (refine load_blk (k := 0) 26 (arC ⟨(arOp s.data.toList : Int), (byX (ar5 s.data.toList).1), (byX (ar7 s.data.toList).1), (byX (ar6 s.data.toList).1), (byX (ar8 s.data.toList).1)⟩) (by rfl) rfl rfl HV18 (by kernel_rfl) (by kernel_rfl) rfl ?_) | (refine store_blk (k := 0) 26 (.agg (arC ⟨(arOp s.data.toList : Int), (byX (ar5 s.data.toList).1), (byX (ar7 s.data.toList).1), (byX (ar6 s.data.toList).1), (byX (ar8 s.data.toList).1)⟩)) (arC ⟨(arOp s.data.toList : Int), (byX (ar5 s.data.toList).1), (byX (ar7 s.data.toList).1), (byX (ar6 s.data.toList).1), (byX (ar8 s.data.toList).1)⟩) (by rfl) rfl rfl rfl HA18 (by kernel_rfl) (by exact Nat.le_refl 21) rfl rfl (fun w20 HA20 b20 g20 => ?_)))
  have B20 := B18.trans (b20.mono (Nat.le_refl _))
  exact bodyPost_ret (results_blk_tmp rfl rfl HA20 (by kernel_rfl) (by kernel_rfl)) rfl ⟨rfl, B20⟩

end Go.Proofs.YtjoepmfineinfaaDoor
