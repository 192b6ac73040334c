/- The reference reads a message of chapter 6, some of its ways. -/
import Derived.Test.YtjoepmfineinfaaDoorBlk
import Derived.Test.YtjoepmfineinfaaDoorArDoor
namespace Go.Proofs.YtjoepmfineinfaaDoor
open Go.RowKit
attribute [local go_sem ↓] Go.wp_at_zero Go.wp_at_succ
set_option linter.unusedSimpArgs false
set_option linter.unusedVariables false
set_option maxRecDepth 100000

set_option maxHeartbeats 3200000 in
theorem refArRead_noughts_1 (s : ByteArray) (w : World) (hs : s.size ≤ 300) (h2 : 28 ≤ s.size) (hop : ((beN ((s.data.toList.drop 6).take 2) : Nat) : Int) = 1) (ht : (s.data.toList.drop 0).take (⟨#[0, 1, 8, 0, 6, 4]⟩ : ByteArray).size = (⟨#[0, 1, 8, 0, 6, 4]⟩ : ByteArray).data.toList) {m : Nat} (h4 : 28 ≤ m) (hms : m < s.size) (hz : ∀ (j : Nat) b, 28 ≤ j → j < m → s.data.toList[j]? = some b → b = 0) (hm : s[m] ≠ 0) :
    Calls Tryd.prog 8 #[.string s] w fun r w' => r = .returned (.tuple #[.agg (arC zAr), .agg (ftC 15 m)]) ∧ Below w.heap.size w w' := by
  have hmf : ∀ (fn : Fn) (first cap : Array Value) (w : World), (Instr.makeFunc fn first cap).run Tryd.prog w = .ok (.func fn first cap) w := fun _ _ _ _ => rfl
  have HA0 := (Blk.new w 26 (arC zAr)).alloc (.cells (ftC 0 0) 29)
  have HE0 : Blk ((w.alloc (.cells (arC zAr) 26)).alloc (.cells (ftC 0 0) 29)) (w.heap.size + 1) 29 (ftC 0 0) := by
    have h := Blk.new (w.alloc (.cells (arC zAr) 26)) 29 (ftC 0 0)
    simpa using h
  have B0 : Below w.heap.size w ((w.alloc (.cells (arC zAr) 26)).alloc (.cells (ftC 0 0) 29)) := ((Below.refl _ _).alloc (Nat.le_refl _) _).alloc (by simp) _
  go_enter_defers Tryd.func8, Tryd.ntmps8
  go_upto_region 1 with (first | (refine alloc_blk 26 (arC zAr) (by rfl) rfl Tryd.arZero ?_) | (refine alloc_blk 29 (ftC 0 0) (by rfl) rfl Tryd.ftZero ?_))
  generalize (w.alloc (.cells (arC zAr) 26)).alloc (.cells (ftC 0 0) 29) = w1 at *
  go_wp2_with fail
  refine (good_any _).mono ?_
  rintro e w2 ⟨rfl, b2⟩
  have HA2 := HA0.kept b2
  have HE2 := HE0.kept b2
  have B2 := B0.trans (b2.mono B0.size)
  clear HA0 HE0 B0 b2
  go_upto_region 4 with (first | (refine store_blk (k := 0) 29 (.agg (ftC 0 (-1))) (ftC 0 (-1)) (by rfl) rfl rfl rfl HE2 (by kernel_rfl) (by exact Nat.le_refl 2) rfl rfl (fun w3 HE3 b3 g3 => ?_)))
  have HA3 := HA2.grown g3 (by simp)
  have B3 : Below w.heap.size w w3 := B2.trans (b3.mono (by omega))
  clear HA2 HE2 B2 b3 g3
  have HA4 := HA3.alloc (.cells #[.string s, .int .i64 (0 : Nat), .int .i64 (0 : Nat)] 69)
  have HE4 := HE3.alloc (.cells #[.string s, .int .i64 (0 : Nat), .int .i64 (0 : Nat)] 69)
  have HC4 : Cur (w3.alloc (.cells #[.string s, .int .i64 (0 : Nat), .int .i64 (0 : Nat)] 69)) w3.heap.size s 0 0 := Blk.new w3 69 _
  have B4 := B3.alloc B3.size (.cells #[.string s, .int .i64 (0 : Nat), .int .i64 (0 : Nat)] 69)
  have hc4 : w.heap.size + 1 < w3.heap.size := HE3.lt
  clear HA3 HE3 B3
  go_upto_region 5 with (refine build_blk (t := 69) #[.string s, .int .i64 (0 : Nat), .int .i64 (0 : Nat)] (by rfl) rfl (by kernel_rfl) ?_)
  generalize w3.alloc (.cells #[.string s, .int .i64 0, .int .i64 0] 69) = w4 at *
  generalize w3.heap.size = c at *
  have hEc : w.heap.size + 1 < c := hc4
  clear hc4
  go_wp2_with fail
  refine (want_ok HC4 (t := ⟨#[0, 1, 8, 0, 6, 4]⟩) (by rw [show (⟨#[0, 1, 8, 0, 6, 4]⟩ : ByteArray).size = 6 from rfl]; omega) ht (by omega)).mono ?_
  rintro e w5 ⟨rfl, HC5', g5⟩
  have HC5 : Cur w5 c s 6 0 := HC5'
  have HA5 := HA4.grown g5 (by simp; omega)
  have HE5 := HE4.grown g5 (by simp; omega)
  have B5 := grown_belowA B4 g5 B4.size (by omega)
  clear HC4 HC5' HA4 HE4 B4 g5
  go_wp2_with fail
  refine (cnum_ok HC5 2 (by decide) (by omega) (by omega)).mono ?_
  rintro e w6 ⟨rfl, HC6, g6⟩
  have HA6 := HA5.grown g6 (by simp; omega)
  have HE6 := HE5.grown g6 (by simp; omega)
  have B6 := grown_belowA B5 g6 B5.size (by omega)
  clear HC5 HA5 HE5 B5 g6
  rw [hop]
  go_upto_region 7 with (refine store_blk (k := 0) 3 (.int .i64 1) (arC ⟨1, z6, z6, z6, z6⟩) (by rfl) rfl rfl rfl HA6 (by kernel_rfl) (by exact (by decide : 1 ≤ 21)) rfl rfl (fun w7 HA7 b7 g7 => ?_))
  have HC7 : Cur w7 c s 8 0 := Blk.grown HC6 g7 (by simp; omega)
  have HE7 := HE6.grown g7 (by simp)
  have B7 := B6.trans b7
  have c0 := HA7.cv 0 (.int .i64 1) rfl
  clear HC6 HA6 HE6 B6 g7 b7
  go_wp2_with fail
  refine (addr_ok HC7 (by omega) (by omega)).mono ?_
  rintro e w8 ⟨rfl, HC8, g8⟩
  have HA8 := HA7.grown g8 (by simp; omega)
  have HE8 := HE7.grown g8 (by simp; omega)
  have B8 := grown_belowA B7 g8 B7.size (by omega)
  clear HC7 HA7 HE7 B7 g8
  go_upto_region 10 with (refine store_blk (k := 1) 23 (.agg (c6 (byX ((s.data.toList.drop 8).take 6)))) (arC ⟨1, (byX ((s.data.toList.drop 8).take 6)), z6, z6, z6⟩) (by rfl) rfl rfl rfl HA8 (by kernel_rfl) (by exact (by decide : 1 + 6 ≤ 21)) rfl rfl (fun w9 HA9 b9 g9 => ?_))
  have HC9 : Cur w9 c s 14 0 := Blk.grown HC8 g9 (by simp; omega)
  have HE9 := HE8.grown g9 (by simp)
  have B9 := B8.trans b9
  clear HC8 HA8 HE8 B8 g9 b9
  have hL10 : ((s.data.toList.drop 14).take 4).length = 4 := by rw [List.length_take, List.length_drop]; simp; omega
  refine wp_region_noPanic ?_
  refine wp_region_held_drew (S := (fun _ => True)) (by kernel_rfl) ?_ (fun hHeld => ?_)
  · exact trivial
  refine wpAnyH_take (i := 0) (v := ?_) rfl (by kernel_rfl) (by kernel_rfl) (by kernel_rfl) (fun _ _ _ h => h) (Or.inl ⟨by rfl, ?_⟩) (by assumption) ?_
  rotate_left
  · (intro w hSw; (try dsimp only at hSw); go_simp; (try with_reducible rfl))
  (try simp only [Act.put, List.getElem_toArray, List.getElem_cons_zero, List.getElem_cons_succ, List.setIfInBounds_toArray, List.set_cons_zero, List.set_cons_succ])
  refine wpAnyH_take (i := 1) (v := ?_) rfl (by kernel_rfl) (by kernel_rfl) (by kernel_rfl) (fun _ _ _ h => h) (Or.inl ⟨by rfl, ?_⟩) (by assumption) ?_
  rotate_left
  · (intro w hSw; (try dsimp only at hSw); go_simp; (try with_reducible rfl))
  (try simp only [Act.put, List.getElem_toArray, List.getElem_cons_zero, List.getElem_cons_succ, List.setIfInBounds_toArray, List.set_cons_zero, List.set_cons_succ])
  refine wpAnyH_take (i := 2) (v := ?_) rfl (by kernel_rfl) (by kernel_rfl) (by kernel_rfl) (fun _ _ _ h => h) (Or.inl ⟨by rfl, ?_⟩) (by assumption) ?_
  rotate_left
  · (intro w hSw; (try dsimp only at hSw); go_simp; (try with_reducible rfl))
  (try simp only [Act.put, List.getElem_toArray, List.getElem_cons_zero, List.getElem_cons_succ, List.setIfInBounds_toArray, List.set_cons_zero, List.set_cons_succ])
  refine wpAnyH_ready (rs := [3]) (by kernel_rfl) (by simp) ?_
  refine AllReadyH.cons rfl (fun K hK => ?_) AllReadyH.nil
  simp only [List.getElem_toArray, List.getElem_cons_zero, List.getElem_cons_succ]
  go_simp
  go_at_call 31; (refine (eat_ok HC9.drew 4 (by omega) (by omega)).mono ?_); rintro e w10 ⟨rfl, HC10, g10⟩; have HA10 := HA9.drew.grown g10 (by simp; omega)
  refine hK.out _ _ ?_ (fun hHeld => ?_)
  · exact trivial
  clear hK K
  (try simp only [Act.put, List.getElem_toArray, List.getElem_cons_zero, List.getElem_cons_succ, List.setIfInBounds_toArray, List.set_cons_zero, List.set_cons_succ])
  refine wpAnyH_ready (rs := [4]) (by kernel_rfl) (by simp) ?_
  refine AllReadyH.cons rfl (fun K hK => ?_) AllReadyH.nil
  simp only [List.getElem_toArray, List.getElem_cons_zero, List.getElem_cons_succ]
  rw [if_pos (by rfl)]
  refine wp_copy_text ⟨((s.data.toList.drop 14).take 4).toArray⟩ (arC ⟨1, (byX ((s.data.toList.drop 8).take 6)), z6, (byX ((s.data.toList.drop 14).take 4)), z6⟩) 5 rfl rfl rfl HA10 Tryd.underlying74 (by kernel_rfl) (by simp [ByteArray.size, hL10]) (by simp [ByteArray.size, hL10, arC]) ?_ (fun w11 HA11 b11 g11 => ?_)
  · rw [byX_c4 _ hL10]; simp [ByteArray.size, hL10, arC, c4]
  have HC11 : Cur w11 c s 18 0 := Blk.grown HC10 g11 (by simp; omega)
  refine hK.out _ _ ?_ (fun hHeld => ?_)
  · trivial
  clear hK K
  (try simp only [Act.put, List.getElem_toArray, List.getElem_cons_zero, List.getElem_cons_succ, List.setIfInBounds_toArray, List.set_cons_zero, List.set_cons_succ])
  refine wpAnyH_done (by kernel_rfl) ?_ _
  refine NoPanic.normal ?_
  have HE10 := HE9.drew.grown g10 (by simp; omega)
  have B10 := grown_belowA B9.drew g10 B9.size (by omega)
  have HE11 := HE10.grown g11 (by simp)
  have B11 := B10.trans b11
  clear HC9 HA9 HE9 B9 HC10 HA10 HE10 B10 g10 g11 b11 hL10 hHeld
  go_wp2_with fail
  refine (addr_ok HC11 (by omega) (by omega)).mono ?_
  rintro e w12 ⟨rfl, HC12, g12⟩
  have HA12 := HA11.grown g12 (by simp; omega)
  have HE12 := HE11.grown g12 (by simp; omega)
  have B12 := grown_belowA B11 g12 B11.size (by omega)
  clear HC11 HA11 HE11 B11 g12
  go_upto_region 12 with (refine store_blk (k := 7) 23 (.agg (c6 (byX ((s.data.toList.drop 18).take 6)))) (arC ⟨1, (byX ((s.data.toList.drop 8).take 6)), (byX ((s.data.toList.drop 18).take 6)), (byX ((s.data.toList.drop 14).take 4)), z6⟩) (by rfl) rfl rfl rfl HA12 (by kernel_rfl) (by exact (by decide : 7 + 6 ≤ 21)) rfl rfl (fun w13 HA13 b13 g13 => ?_))
  have HC13 : Cur w13 c s 24 0 := Blk.grown HC12 g13 (by simp; omega)
  have HE13 := HE12.grown g13 (by simp)
  have B13 := B12.trans b13
  clear HC12 HA12 HE12 B12 g13 b13
  have hL14 : ((s.data.toList.drop 24).take 4).length = 4 := by rw [List.length_take, List.length_drop]; simp; omega
  refine wp_region_noPanic ?_
  refine wp_region_held_drew (S := (fun _ => True)) (by kernel_rfl) ?_ (fun hHeld => ?_)
  · exact trivial
  refine wpAnyH_take (i := 0) (v := ?_) rfl (by kernel_rfl) (by kernel_rfl) (by kernel_rfl) (fun _ _ _ h => h) (Or.inl ⟨by rfl, ?_⟩) (by assumption) ?_
  rotate_left
  · (intro w hSw; (try dsimp only at hSw); go_simp; (try with_reducible rfl))
  (try simp only [Act.put, List.getElem_toArray, List.getElem_cons_zero, List.getElem_cons_succ, List.setIfInBounds_toArray, List.set_cons_zero, List.set_cons_succ])
  refine wpAnyH_take (i := 1) (v := ?_) rfl (by kernel_rfl) (by kernel_rfl) (by kernel_rfl) (fun _ _ _ h => h) (Or.inl ⟨by rfl, ?_⟩) (by assumption) ?_
  rotate_left
  · (intro w hSw; (try dsimp only at hSw); go_simp; (try with_reducible rfl))
  (try simp only [Act.put, List.getElem_toArray, List.getElem_cons_zero, List.getElem_cons_succ, List.setIfInBounds_toArray, List.set_cons_zero, List.set_cons_succ])
  refine wpAnyH_take (i := 2) (v := ?_) rfl (by kernel_rfl) (by kernel_rfl) (by kernel_rfl) (fun _ _ _ h => h) (Or.inl ⟨by rfl, ?_⟩) (by assumption) ?_
  rotate_left
  · (intro w hSw; (try dsimp only at hSw); go_simp; (try with_reducible rfl))
  (try simp only [Act.put, List.getElem_toArray, List.getElem_cons_zero, List.getElem_cons_succ, List.setIfInBounds_toArray, List.set_cons_zero, List.set_cons_succ])
  refine wpAnyH_ready (rs := [3]) (by kernel_rfl) (by simp) ?_
  refine AllReadyH.cons rfl (fun K hK => ?_) AllReadyH.nil
  simp only [List.getElem_toArray, List.getElem_cons_zero, List.getElem_cons_succ]
  go_simp
  go_at_call 31; (refine (eat_ok HC13.drew 4 (by omega) (by omega)).mono ?_); rintro e w14 ⟨rfl, HC14, g14⟩; have HA14 := HA13.drew.grown g14 (by simp; omega)
  refine hK.out _ _ ?_ (fun hHeld => ?_)
  · exact trivial
  clear hK K
  (try simp only [Act.put, List.getElem_toArray, List.getElem_cons_zero, List.getElem_cons_succ, List.setIfInBounds_toArray, List.set_cons_zero, List.set_cons_succ])
  refine wpAnyH_ready (rs := [4]) (by kernel_rfl) (by simp) ?_
  refine AllReadyH.cons rfl (fun K hK => ?_) AllReadyH.nil
  simp only [List.getElem_toArray, List.getElem_cons_zero, List.getElem_cons_succ]
  rw [if_pos (by rfl)]
  refine wp_copy_text ⟨((s.data.toList.drop 24).take 4).toArray⟩ (arC ⟨1, (byX ((s.data.toList.drop 8).take 6)), (byX ((s.data.toList.drop 18).take 6)), (byX ((s.data.toList.drop 14).take 4)), (byX ((s.data.toList.drop 24).take 4))⟩) 5 rfl rfl rfl HA14 Tryd.underlying74 (by kernel_rfl) (by simp [ByteArray.size, hL14]) (by simp [ByteArray.size, hL14, arC]) ?_ (fun w15 HA15 b15 g15 => ?_)
  · rw [byX_c4 _ hL14]; simp [ByteArray.size, hL14, arC, c4]
  have HC15 : Cur w15 c s 28 0 := Blk.grown HC14 g15 (by simp; omega)
  refine hK.out _ _ ?_ (fun hHeld => ?_)
  · trivial
  clear hK K
  (try simp only [Act.put, List.getElem_toArray, List.getElem_cons_zero, List.getElem_cons_succ, List.setIfInBounds_toArray, List.set_cons_zero, List.set_cons_succ])
  refine wpAnyH_done (by kernel_rfl) ?_ _
  refine NoPanic.normal ?_
  have HE14 := HE13.drew.grown g14 (by simp; omega)
  have B14 := grown_belowA B13.drew g14 B13.size (by omega)
  have HE15 := HE14.grown g15 (by simp)
  have B15 := B14.trans b15
  clear HC13 HA13 HE13 B13 HC14 HA14 HE14 B14 g14 g15 b15 hL14 hHeld
  go_wp2_with fail
  refine (noughts_bad HC15 (m := m) (by omega) hms hz hm (by omega)).mono ?_
  rintro e w16 ⟨rfl, g16⟩
  have HA16 := HA15.grown g16 (by simp; omega)
  have HE16 := HE15.grown g16 (by simp; omega)
  have B16 := grown_belowA B15 g16 B15.size (by omega)
  go_wp2
  exact ar_door_bad rfl rfl (by decide) HA16 HE16 (by omega) (Nat.le_refl _) (by omega) B16

set_option maxHeartbeats 3200000 in
theorem refArRead_noughts_2 (s : ByteArray) (w : World) (hs : s.size ≤ 300) (h2 : 28 ≤ s.size) (hop : ((beN ((s.data.toList.drop 6).take 2) : Nat) : Int) = 2) (ht : (s.data.toList.drop 0).take (⟨#[0, 1, 8, 0, 6, 4]⟩ : ByteArray).size = (⟨#[0, 1, 8, 0, 6, 4]⟩ : ByteArray).data.toList) {m : Nat} (h4 : 28 ≤ m) (hms : m < s.size) (hz : ∀ (j : Nat) b, 28 ≤ j → j < m → s.data.toList[j]? = some b → b = 0) (hm : s[m] ≠ 0) :
    Calls Tryd.prog 8 #[.string s] w fun r w' => r = .returned (.tuple #[.agg (arC zAr), .agg (ftC 15 m)]) ∧ Below w.heap.size w w' := by
  have hmf : ∀ (fn : Fn) (first cap : Array Value) (w : World), (Instr.makeFunc fn first cap).run Tryd.prog w = .ok (.func fn first cap) w := fun _ _ _ _ => rfl
  have HA0 := (Blk.new w 26 (arC zAr)).alloc (.cells (ftC 0 0) 29)
  have HE0 : Blk ((w.alloc (.cells (arC zAr) 26)).alloc (.cells (ftC 0 0) 29)) (w.heap.size + 1) 29 (ftC 0 0) := by
    have h := Blk.new (w.alloc (.cells (arC zAr) 26)) 29 (ftC 0 0)
    simpa using h
  have B0 : Below w.heap.size w ((w.alloc (.cells (arC zAr) 26)).alloc (.cells (ftC 0 0) 29)) := ((Below.refl _ _).alloc (Nat.le_refl _) _).alloc (by simp) _
  go_enter_defers Tryd.func8, Tryd.ntmps8
  go_upto_region 1 with (first | (refine alloc_blk 26 (arC zAr) (by rfl) rfl Tryd.arZero ?_) | (refine alloc_blk 29 (ftC 0 0) (by rfl) rfl Tryd.ftZero ?_))
  generalize (w.alloc (.cells (arC zAr) 26)).alloc (.cells (ftC 0 0) 29) = w1 at *
  go_wp2_with fail
  refine (good_any _).mono ?_
  rintro e w2 ⟨rfl, b2⟩
  have HA2 := HA0.kept b2
  have HE2 := HE0.kept b2
  have B2 := B0.trans (b2.mono B0.size)
  clear HA0 HE0 B0 b2
  go_upto_region 4 with (first | (refine store_blk (k := 0) 29 (.agg (ftC 0 (-1))) (ftC 0 (-1)) (by rfl) rfl rfl rfl HE2 (by kernel_rfl) (by exact Nat.le_refl 2) rfl rfl (fun w3 HE3 b3 g3 => ?_)))
  have HA3 := HA2.grown g3 (by simp)
  have B3 : Below w.heap.size w w3 := B2.trans (b3.mono (by omega))
  clear HA2 HE2 B2 b3 g3
  have HA4 := HA3.alloc (.cells #[.string s, .int .i64 (0 : Nat), .int .i64 (0 : Nat)] 69)
  have HE4 := HE3.alloc (.cells #[.string s, .int .i64 (0 : Nat), .int .i64 (0 : Nat)] 69)
  have HC4 : Cur (w3.alloc (.cells #[.string s, .int .i64 (0 : Nat), .int .i64 (0 : Nat)] 69)) w3.heap.size s 0 0 := Blk.new w3 69 _
  have B4 := B3.alloc B3.size (.cells #[.string s, .int .i64 (0 : Nat), .int .i64 (0 : Nat)] 69)
  have hc4 : w.heap.size + 1 < w3.heap.size := HE3.lt
  clear HA3 HE3 B3
  go_upto_region 5 with (refine build_blk (t := 69) #[.string s, .int .i64 (0 : Nat), .int .i64 (0 : Nat)] (by rfl) rfl (by kernel_rfl) ?_)
  generalize w3.alloc (.cells #[.string s, .int .i64 0, .int .i64 0] 69) = w4 at *
  generalize w3.heap.size = c at *
  have hEc : w.heap.size + 1 < c := hc4
  clear hc4
  go_wp2_with fail
  refine (want_ok HC4 (t := ⟨#[0, 1, 8, 0, 6, 4]⟩) (by rw [show (⟨#[0, 1, 8, 0, 6, 4]⟩ : ByteArray).size = 6 from rfl]; omega) ht (by omega)).mono ?_
  rintro e w5 ⟨rfl, HC5', g5⟩
  have HC5 : Cur w5 c s 6 0 := HC5'
  have HA5 := HA4.grown g5 (by simp; omega)
  have HE5 := HE4.grown g5 (by simp; omega)
  have B5 := grown_belowA B4 g5 B4.size (by omega)
  clear HC4 HC5' HA4 HE4 B4 g5
  go_wp2_with fail
  refine (cnum_ok HC5 2 (by decide) (by omega) (by omega)).mono ?_
  rintro e w6 ⟨rfl, HC6, g6⟩
  have HA6 := HA5.grown g6 (by simp; omega)
  have HE6 := HE5.grown g6 (by simp; omega)
  have B6 := grown_belowA B5 g6 B5.size (by omega)
  clear HC5 HA5 HE5 B5 g6
  rw [hop]
  go_upto_region 7 with (refine store_blk (k := 0) 3 (.int .i64 2) (arC ⟨2, z6, z6, z6, z6⟩) (by rfl) rfl rfl rfl HA6 (by kernel_rfl) (by exact (by decide : 1 ≤ 21)) rfl rfl (fun w7 HA7 b7 g7 => ?_))
  have HC7 : Cur w7 c s 8 0 := Blk.grown HC6 g7 (by simp; omega)
  have HE7 := HE6.grown g7 (by simp)
  have B7 := B6.trans b7
  have c0 := HA7.cv 0 (.int .i64 2) rfl
  clear HC6 HA6 HE6 B6 g7 b7
  go_wp2_with fail
  refine (addr_ok HC7 (by omega) (by omega)).mono ?_
  rintro e w8 ⟨rfl, HC8, g8⟩
  have HA8 := HA7.grown g8 (by simp; omega)
  have HE8 := HE7.grown g8 (by simp; omega)
  have B8 := grown_belowA B7 g8 B7.size (by omega)
  clear HC7 HA7 HE7 B7 g8
  go_upto_region 10 with (refine store_blk (k := 1) 23 (.agg (c6 (byX ((s.data.toList.drop 8).take 6)))) (arC ⟨2, (byX ((s.data.toList.drop 8).take 6)), z6, z6, z6⟩) (by rfl) rfl rfl rfl HA8 (by kernel_rfl) (by exact (by decide : 1 + 6 ≤ 21)) rfl rfl (fun w9 HA9 b9 g9 => ?_))
  have HC9 : Cur w9 c s 14 0 := Blk.grown HC8 g9 (by simp; omega)
  have HE9 := HE8.grown g9 (by simp)
  have B9 := B8.trans b9
  clear HC8 HA8 HE8 B8 g9 b9
  have hL10 : ((s.data.toList.drop 14).take 4).length = 4 := by rw [List.length_take, List.length_drop]; simp; omega
  refine wp_region_noPanic ?_
  refine wp_region_held_drew (S := (fun _ => True)) (by kernel_rfl) ?_ (fun hHeld => ?_)
  · exact trivial
  refine wpAnyH_take (i := 0) (v := ?_) rfl (by kernel_rfl) (by kernel_rfl) (by kernel_rfl) (fun _ _ _ h => h) (Or.inl ⟨by rfl, ?_⟩) (by assumption) ?_
  rotate_left
  · (intro w hSw; (try dsimp only at hSw); go_simp; (try with_reducible rfl))
  (try simp only [Act.put, List.getElem_toArray, List.getElem_cons_zero, List.getElem_cons_succ, List.setIfInBounds_toArray, List.set_cons_zero, List.set_cons_succ])
  refine wpAnyH_take (i := 1) (v := ?_) rfl (by kernel_rfl) (by kernel_rfl) (by kernel_rfl) (fun _ _ _ h => h) (Or.inl ⟨by rfl, ?_⟩) (by assumption) ?_
  rotate_left
  · (intro w hSw; (try dsimp only at hSw); go_simp; (try with_reducible rfl))
  (try simp only [Act.put, List.getElem_toArray, List.getElem_cons_zero, List.getElem_cons_succ, List.setIfInBounds_toArray, List.set_cons_zero, List.set_cons_succ])
  refine wpAnyH_take (i := 2) (v := ?_) rfl (by kernel_rfl) (by kernel_rfl) (by kernel_rfl) (fun _ _ _ h => h) (Or.inl ⟨by rfl, ?_⟩) (by assumption) ?_
  rotate_left
  · (intro w hSw; (try dsimp only at hSw); go_simp; (try with_reducible rfl))
  (try simp only [Act.put, List.getElem_toArray, List.getElem_cons_zero, List.getElem_cons_succ, List.setIfInBounds_toArray, List.set_cons_zero, List.set_cons_succ])
  refine wpAnyH_ready (rs := [3]) (by kernel_rfl) (by simp) ?_
  refine AllReadyH.cons rfl (fun K hK => ?_) AllReadyH.nil
  simp only [List.getElem_toArray, List.getElem_cons_zero, List.getElem_cons_succ]
  go_simp
  go_at_call 31; (refine (eat_ok HC9.drew 4 (by omega) (by omega)).mono ?_); rintro e w10 ⟨rfl, HC10, g10⟩; have HA10 := HA9.drew.grown g10 (by simp; omega)
  refine hK.out _ _ ?_ (fun hHeld => ?_)
  · exact trivial
  clear hK K
  (try simp only [Act.put, List.getElem_toArray, List.getElem_cons_zero, List.getElem_cons_succ, List.setIfInBounds_toArray, List.set_cons_zero, List.set_cons_succ])
  refine wpAnyH_ready (rs := [4]) (by kernel_rfl) (by simp) ?_
  refine AllReadyH.cons rfl (fun K hK => ?_) AllReadyH.nil
  simp only [List.getElem_toArray, List.getElem_cons_zero, List.getElem_cons_succ]
  rw [if_pos (by rfl)]
  refine wp_copy_text ⟨((s.data.toList.drop 14).take 4).toArray⟩ (arC ⟨2, (byX ((s.data.toList.drop 8).take 6)), z6, (byX ((s.data.toList.drop 14).take 4)), z6⟩) 5 rfl rfl rfl HA10 Tryd.underlying74 (by kernel_rfl) (by simp [ByteArray.size, hL10]) (by simp [ByteArray.size, hL10, arC]) ?_ (fun w11 HA11 b11 g11 => ?_)
  · rw [byX_c4 _ hL10]; simp [ByteArray.size, hL10, arC, c4]
  have HC11 : Cur w11 c s 18 0 := Blk.grown HC10 g11 (by simp; omega)
  refine hK.out _ _ ?_ (fun hHeld => ?_)
  · trivial
  clear hK K
  (try simp only [Act.put, List.getElem_toArray, List.getElem_cons_zero, List.getElem_cons_succ, List.setIfInBounds_toArray, List.set_cons_zero, List.set_cons_succ])
  refine wpAnyH_done (by kernel_rfl) ?_ _
  refine NoPanic.normal ?_
  have HE10 := HE9.drew.grown g10 (by simp; omega)
  have B10 := grown_belowA B9.drew g10 B9.size (by omega)
  have HE11 := HE10.grown g11 (by simp)
  have B11 := B10.trans b11
  clear HC9 HA9 HE9 B9 HC10 HA10 HE10 B10 g10 g11 b11 hL10 hHeld
  go_wp2_with fail
  refine (addr_ok HC11 (by omega) (by omega)).mono ?_
  rintro e w12 ⟨rfl, HC12, g12⟩
  have HA12 := HA11.grown g12 (by simp; omega)
  have HE12 := HE11.grown g12 (by simp; omega)
  have B12 := grown_belowA B11 g12 B11.size (by omega)
  clear HC11 HA11 HE11 B11 g12
  go_upto_region 12 with (refine store_blk (k := 7) 23 (.agg (c6 (byX ((s.data.toList.drop 18).take 6)))) (arC ⟨2, (byX ((s.data.toList.drop 8).take 6)), (byX ((s.data.toList.drop 18).take 6)), (byX ((s.data.toList.drop 14).take 4)), z6⟩) (by rfl) rfl rfl rfl HA12 (by kernel_rfl) (by exact (by decide : 7 + 6 ≤ 21)) rfl rfl (fun w13 HA13 b13 g13 => ?_))
  have HC13 : Cur w13 c s 24 0 := Blk.grown HC12 g13 (by simp; omega)
  have HE13 := HE12.grown g13 (by simp)
  have B13 := B12.trans b13
  clear HC12 HA12 HE12 B12 g13 b13
  have hL14 : ((s.data.toList.drop 24).take 4).length = 4 := by rw [List.length_take, List.length_drop]; simp; omega
  refine wp_region_noPanic ?_
  refine wp_region_held_drew (S := (fun _ => True)) (by kernel_rfl) ?_ (fun hHeld => ?_)
  · exact trivial
  refine wpAnyH_take (i := 0) (v := ?_) rfl (by kernel_rfl) (by kernel_rfl) (by kernel_rfl) (fun _ _ _ h => h) (Or.inl ⟨by rfl, ?_⟩) (by assumption) ?_
  rotate_left
  · (intro w hSw; (try dsimp only at hSw); go_simp; (try with_reducible rfl))
  (try simp only [Act.put, List.getElem_toArray, List.getElem_cons_zero, List.getElem_cons_succ, List.setIfInBounds_toArray, List.set_cons_zero, List.set_cons_succ])
  refine wpAnyH_take (i := 1) (v := ?_) rfl (by kernel_rfl) (by kernel_rfl) (by kernel_rfl) (fun _ _ _ h => h) (Or.inl ⟨by rfl, ?_⟩) (by assumption) ?_
  rotate_left
  · (intro w hSw; (try dsimp only at hSw); go_simp; (try with_reducible rfl))
  (try simp only [Act.put, List.getElem_toArray, List.getElem_cons_zero, List.getElem_cons_succ, List.setIfInBounds_toArray, List.set_cons_zero, List.set_cons_succ])
  refine wpAnyH_take (i := 2) (v := ?_) rfl (by kernel_rfl) (by kernel_rfl) (by kernel_rfl) (fun _ _ _ h => h) (Or.inl ⟨by rfl, ?_⟩) (by assumption) ?_
  rotate_left
  · (intro w hSw; (try dsimp only at hSw); go_simp; (try with_reducible rfl))
  (try simp only [Act.put, List.getElem_toArray, List.getElem_cons_zero, List.getElem_cons_succ, List.setIfInBounds_toArray, List.set_cons_zero, List.set_cons_succ])
  refine wpAnyH_ready (rs := [3]) (by kernel_rfl) (by simp) ?_
  refine AllReadyH.cons rfl (fun K hK => ?_) AllReadyH.nil
  simp only [List.getElem_toArray, List.getElem_cons_zero, List.getElem_cons_succ]
  go_simp
  go_at_call 31; (refine (eat_ok HC13.drew 4 (by omega) (by omega)).mono ?_); rintro e w14 ⟨rfl, HC14, g14⟩; have HA14 := HA13.drew.grown g14 (by simp; omega)
  refine hK.out _ _ ?_ (fun hHeld => ?_)
  · exact trivial
  clear hK K
  (try simp only [Act.put, List.getElem_toArray, List.getElem_cons_zero, List.getElem_cons_succ, List.setIfInBounds_toArray, List.set_cons_zero, List.set_cons_succ])
  refine wpAnyH_ready (rs := [4]) (by kernel_rfl) (by simp) ?_
  refine AllReadyH.cons rfl (fun K hK => ?_) AllReadyH.nil
  simp only [List.getElem_toArray, List.getElem_cons_zero, List.getElem_cons_succ]
  rw [if_pos (by rfl)]
  refine wp_copy_text ⟨((s.data.toList.drop 24).take 4).toArray⟩ (arC ⟨2, (byX ((s.data.toList.drop 8).take 6)), (byX ((s.data.toList.drop 18).take 6)), (byX ((s.data.toList.drop 14).take 4)), (byX ((s.data.toList.drop 24).take 4))⟩) 5 rfl rfl rfl HA14 Tryd.underlying74 (by kernel_rfl) (by simp [ByteArray.size, hL14]) (by simp [ByteArray.size, hL14, arC]) ?_ (fun w15 HA15 b15 g15 => ?_)
  · rw [byX_c4 _ hL14]; simp [ByteArray.size, hL14, arC, c4]
  have HC15 : Cur w15 c s 28 0 := Blk.grown HC14 g15 (by simp; omega)
  refine hK.out _ _ ?_ (fun hHeld => ?_)
  · trivial
  clear hK K
  (try simp only [Act.put, List.getElem_toArray, List.getElem_cons_zero, List.getElem_cons_succ, List.setIfInBounds_toArray, List.set_cons_zero, List.set_cons_succ])
  refine wpAnyH_done (by kernel_rfl) ?_ _
  refine NoPanic.normal ?_
  have HE14 := HE13.drew.grown g14 (by simp; omega)
  have B14 := grown_belowA B13.drew g14 B13.size (by omega)
  have HE15 := HE14.grown g15 (by simp)
  have B15 := B14.trans b15
  clear HC13 HA13 HE13 B13 HC14 HA14 HE14 B14 g14 g15 b15 hL14 hHeld
  go_wp2_with fail
  refine (noughts_bad HC15 (m := m) (by omega) hms hz hm (by omega)).mono ?_
  rintro e w16 ⟨rfl, g16⟩
  have HA16 := HA15.grown g16 (by simp; omega)
  have HE16 := HE15.grown g16 (by simp; omega)
  have B16 := grown_belowA B15 g16 B15.size (by omega)
  go_wp2
  exact ar_door_bad rfl rfl (by decide) HA16 HE16 (by omega) (Nat.le_refl _) (by omega) B16

end Go.Proofs.YtjoepmfineinfaaDoor
