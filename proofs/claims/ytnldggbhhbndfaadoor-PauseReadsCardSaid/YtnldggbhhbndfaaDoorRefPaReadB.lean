/- The reference reads a message of chapter 7, some of its ways. -/
import Derived.Test.YtnldggbhhbndfaaDoorBlk
import Derived.Test.YtnldggbhhbndfaaDoorPaDoor
namespace Go.Proofs.YtnldggbhhbndfaaDoor
open Go.RowKit
attribute [local go_sem ↓] Go.wp_at_zero Go.wp_at_succ
set_option linter.unusedSimpArgs false
set_option linter.unusedVariables false
set_option maxRecDepth 100000

set_option maxHeartbeats 3200000 in
theorem refPaRead_all_noughts (s : ByteArray) (w : World) (hs : s.size ≤ 300) (h2 : 4 ≤ s.size) (v : Nat) (hv : ((beN ((s.data.toList.drop 2).take 2) : Nat) : Int) = (v : Int)) (hn : ((beN ((s.data.toList.drop 0).take 2) : Nat) : Int) = 1) {q : Nat} (h4 : 4 ≤ q) (hms : q < s.size) (hz : ∀ (j : Nat) b, 4 ≤ j → j < q → s.data.toList[j]? = some b → b = 0) (hm : s[q] ≠ 0) :
    Calls Tryd.prog 28 #[.string s] w fun r w' => r = .returned (.tuple #[.agg (paC zPa), .agg (ftC 15 q)]) ∧ Below w.heap.size w w' := by
  have hmf : ∀ (fn : Fn) (first cap : Array Value) (w : World), (Instr.makeFunc fn first cap).run Tryd.prog w = .ok (.func fn first cap) w := fun _ _ _ _ => rfl
  have HA0 := (Blk.new w 54 (paC zPa)).alloc (.cells (ftC 0 0) 40)
  have HE0 : Blk ((w.alloc (.cells (paC zPa) 54)).alloc (.cells (ftC 0 0) 40)) (w.heap.size + 1) 40 (ftC 0 0) := by
    have h := Blk.new (w.alloc (.cells (paC zPa) 54)) 40 (ftC 0 0)
    simpa using h
  have B0 : Below w.heap.size w ((w.alloc (.cells (paC zPa) 54)).alloc (.cells (ftC 0 0) 40)) := ((Below.refl _ _).alloc (Nat.le_refl _) _).alloc (by simp) _
  go_enter_defers Tryd.func28, Tryd.ntmps28
  go_upto_region 1 with (first | (refine alloc_blk 54 (paC zPa) (by rfl) rfl Tryd.paZero ?_) | (refine alloc_blk 40 (ftC 0 0) (by rfl) rfl Tryd.ftZero ?_))
  generalize (w.alloc (.cells (paC zPa) 54)).alloc (.cells (ftC 0 0) 40) = w1 at *
  go_wp2_with fail
  refine (good_any _).mono ?_
  rintro e w2 ⟨rfl, b2⟩
  have HA2 := HA0.kept b2
  have HE2 := HE0.kept b2
  have B2 := B0.trans (b2.mono B0.size)
  clear HA0 HE0 B0 b2
  go_upto_region 4 with (first | (refine store_blk (k := 0) 40 (.agg (ftC 0 (-1))) (ftC 0 (-1)) (by rfl) rfl rfl rfl HE2 (by kernel_rfl) (by exact Nat.le_refl 2) rfl rfl (fun w3 HE3 b3 g3 => ?_)))
  have HA3 := HA2.grown g3 (by simp)
  have B3 : Below w.heap.size w w3 := B2.trans (b3.mono (by omega))
  clear HA2 HE2 B2 b3 g3
  have HA4 := HA3.alloc (.cells #[.string s, .int .i64 (0 : Nat), .int .i64 (0 : Nat)] 74)
  have HE4 := HE3.alloc (.cells #[.string s, .int .i64 (0 : Nat), .int .i64 (0 : Nat)] 74)
  have HC4 : Cur (w3.alloc (.cells #[.string s, .int .i64 (0 : Nat), .int .i64 (0 : Nat)] 74)) w3.heap.size s 0 0 := Blk.new w3 74 _
  have B4 := B3.alloc B3.size (.cells #[.string s, .int .i64 (0 : Nat), .int .i64 (0 : Nat)] 74)
  have hc4 : w.heap.size + 1 < w3.heap.size := HE3.lt
  clear HA3 HE3 B3
  go_upto_region 5 with (refine build_blk (t := 74) #[.string s, .int .i64 (0 : Nat), .int .i64 (0 : Nat)] (by rfl) rfl (by kernel_rfl) ?_)
  generalize w3.alloc (.cells #[.string s, .int .i64 0, .int .i64 0] 74) = w4 at *
  generalize w3.heap.size = c at *
  have hEc : w.heap.size + 1 < c := hc4
  clear hc4
  go_wp2_with fail
  refine (cnum_ok HC4 2 (by decide) (by omega) (by omega)).mono ?_
  rintro e w5 ⟨rfl, HC5, g5⟩
  have HA5 := HA4.grown g5 (by simp; omega)
  have HE5 := HE4.grown g5 (by simp; omega)
  have B5 := grown_belowA B4 g5 B4.size (by omega)
  clear HC4 HA4 HE4 B4 g5
  rw [hn]
  go_wp2_with fail
  refine (cnum_ok HC5 2 (by decide) (by omega) (by omega)).mono ?_
  rintro e w6 ⟨rfl, HC6, g6⟩
  have HA6 := HA5.grown g6 (by simp; omega)
  have HE6 := HE5.grown g6 (by simp; omega)
  have B6 := grown_belowA B5 g6 B5.size (by omega)
  clear HC5 HA5 HE5 B5 g6
  rw [hv]
  go_upto_region 18 with (refine store_blk (k := 2) 3 (.int .i64 (v : Int)) (paC (paAll (v : Int))) (by rfl) rfl rfl rfl HA6 (by kernel_rfl) (by exact (by decide : 2 + 1 ≤ 10)) rfl rfl (fun w7 HA7 b7 g7 => ?_))
  have HC7 : Cur w7 c s 4 0 := Blk.grown HC6 g7 (by simp; omega)
  have HE7 := HE6.grown g7 (by simp)
  have B7 := B6.trans b7
  clear HC6 HA6 HE6 B6 g7 b7
  go_wp2_with fail
  refine (noughts_bad HC7 (m := q) (by omega) hms hz hm (by omega)).mono ?_
  rintro e w8 ⟨rfl, g8⟩
  have HA8 := HA7.grown g8 (by simp; omega)
  have HE8 := HE7.grown g8 (by simp; omega)
  have B8 := grown_belowA B7 g8 B7.size (by omega)
  go_wp2
  exact pa_door_bad rfl rfl (by decide) HA8 HE8 (by omega) (Nat.le_refl _) (by omega) B8

set_option maxHeartbeats 3200000 in
theorem refPaRead_all_ok (s : ByteArray) (w : World) (hs : s.size ≤ 300) (h2 : 4 ≤ s.size) (v : Nat) (hv : ((beN ((s.data.toList.drop 2).take 2) : Nat) : Int) = (v : Int)) (hn : ((beN ((s.data.toList.drop 0).take 2) : Nat) : Int) = 1) (hz : ∀ (j : Nat) b, 4 ≤ j → s.data.toList[j]? = some b → b = 0) :
    Calls Tryd.prog 28 #[.string s] w fun r w' => r = .returned (.tuple #[.agg (paC (paAll (v : Int))), .agg (ftC 0 (-1))]) ∧ Below w.heap.size w w' := by
  have hmf : ∀ (fn : Fn) (first cap : Array Value) (w : World), (Instr.makeFunc fn first cap).run Tryd.prog w = .ok (.func fn first cap) w := fun _ _ _ _ => rfl
  have HA0 := (Blk.new w 54 (paC zPa)).alloc (.cells (ftC 0 0) 40)
  have HE0 : Blk ((w.alloc (.cells (paC zPa) 54)).alloc (.cells (ftC 0 0) 40)) (w.heap.size + 1) 40 (ftC 0 0) := by
    have h := Blk.new (w.alloc (.cells (paC zPa) 54)) 40 (ftC 0 0)
    simpa using h
  have B0 : Below w.heap.size w ((w.alloc (.cells (paC zPa) 54)).alloc (.cells (ftC 0 0) 40)) := ((Below.refl _ _).alloc (Nat.le_refl _) _).alloc (by simp) _
  go_enter_defers Tryd.func28, Tryd.ntmps28
  go_upto_region 1 with (first | (refine alloc_blk 54 (paC zPa) (by rfl) rfl Tryd.paZero ?_) | (refine alloc_blk 40 (ftC 0 0) (by rfl) rfl Tryd.ftZero ?_))
  generalize (w.alloc (.cells (paC zPa) 54)).alloc (.cells (ftC 0 0) 40) = w1 at *
  go_wp2_with fail
  refine (good_any _).mono ?_
  rintro e w2 ⟨rfl, b2⟩
  have HA2 := HA0.kept b2
  have HE2 := HE0.kept b2
  have B2 := B0.trans (b2.mono B0.size)
  clear HA0 HE0 B0 b2
  go_upto_region 4 with (first | (refine store_blk (k := 0) 40 (.agg (ftC 0 (-1))) (ftC 0 (-1)) (by rfl) rfl rfl rfl HE2 (by kernel_rfl) (by exact Nat.le_refl 2) rfl rfl (fun w3 HE3 b3 g3 => ?_)))
  have HA3 := HA2.grown g3 (by simp)
  have B3 : Below w.heap.size w w3 := B2.trans (b3.mono (by omega))
  clear HA2 HE2 B2 b3 g3
  have HA4 := HA3.alloc (.cells #[.string s, .int .i64 (0 : Nat), .int .i64 (0 : Nat)] 74)
  have HE4 := HE3.alloc (.cells #[.string s, .int .i64 (0 : Nat), .int .i64 (0 : Nat)] 74)
  have HC4 : Cur (w3.alloc (.cells #[.string s, .int .i64 (0 : Nat), .int .i64 (0 : Nat)] 74)) w3.heap.size s 0 0 := Blk.new w3 74 _
  have B4 := B3.alloc B3.size (.cells #[.string s, .int .i64 (0 : Nat), .int .i64 (0 : Nat)] 74)
  have hc4 : w.heap.size + 1 < w3.heap.size := HE3.lt
  clear HA3 HE3 B3
  go_upto_region 5 with (refine build_blk (t := 74) #[.string s, .int .i64 (0 : Nat), .int .i64 (0 : Nat)] (by rfl) rfl (by kernel_rfl) ?_)
  generalize w3.alloc (.cells #[.string s, .int .i64 0, .int .i64 0] 74) = w4 at *
  generalize w3.heap.size = c at *
  have hEc : w.heap.size + 1 < c := hc4
  clear hc4
  go_wp2_with fail
  refine (cnum_ok HC4 2 (by decide) (by omega) (by omega)).mono ?_
  rintro e w5 ⟨rfl, HC5, g5⟩
  have HA5 := HA4.grown g5 (by simp; omega)
  have HE5 := HE4.grown g5 (by simp; omega)
  have B5 := grown_belowA B4 g5 B4.size (by omega)
  clear HC4 HA4 HE4 B4 g5
  rw [hn]
  go_wp2_with fail
  refine (cnum_ok HC5 2 (by decide) (by omega) (by omega)).mono ?_
  rintro e w6 ⟨rfl, HC6, g6⟩
  have HA6 := HA5.grown g6 (by simp; omega)
  have HE6 := HE5.grown g6 (by simp; omega)
  have B6 := grown_belowA B5 g6 B5.size (by omega)
  clear HC5 HA5 HE5 B5 g6
  rw [hv]
  go_upto_region 18 with (refine store_blk (k := 2) 3 (.int .i64 (v : Int)) (paC (paAll (v : Int))) (by rfl) rfl rfl rfl HA6 (by kernel_rfl) (by exact (by decide : 2 + 1 ≤ 10)) rfl rfl (fun w7 HA7 b7 g7 => ?_))
  have HC7 : Cur w7 c s 4 0 := Blk.grown HC6 g7 (by simp; omega)
  have HE7 := HE6.grown g7 (by simp)
  have B7 := B6.trans b7
  clear HC6 HA6 HE6 B6 g7 b7
  go_wp2_with fail
  refine (noughts_ok HC7 (by omega) hz (by omega)).mono ?_
  rintro e w8 ⟨rfl, g8⟩
  have HA8 := HA7.grown g8 (by simp; omega)
  have HE8 := HE7.grown g8 (by simp; omega)
  have B8 := grown_belowA B7 g8 B7.size (by omega)
  clear HC7 HA7 HE7 B7 g8
  go_upto_region 19 with (fail)
  refine wp_region_noPanic ?_
  refine wp_region_held_drew (S := (fun w' => Blk w' w.heap.size 54 (paC (paAll (v : Int))) ∧ Blk w' (w.heap.size + 1) 40 (ftC 0 (-1)))) (by kernel_rfl) ?_ (fun hHeld => ?_)
  · exact ⟨HA8, HE8⟩
  refine wpAnyH_take (i := 0) (v := .agg (paC (paAll (v : Int)))) rfl (by kernel_rfl) (by kernel_rfl) (by kernel_rfl) (fun _ _ _ h => h) (Or.inl ⟨by rfl, fun w hSw => exec_load_blk (k := 0) 54 (paC (paAll (v : Int))) (by rfl) rfl hSw.1 (by kernel_rfl) (by kernel_rfl) rfl⟩) (by assumption) ?_
  (try simp only [Act.put, List.getElem_toArray, List.getElem_cons_zero, List.getElem_cons_succ, List.setIfInBounds_toArray, List.set_cons_zero, List.set_cons_succ])
  refine wpAnyH_take (i := 1) (v := .agg (ftC 0 (-1))) rfl (by kernel_rfl) (by kernel_rfl) (by kernel_rfl) (fun _ _ _ h => h) (Or.inl ⟨by rfl, fun w hSw => exec_load_blk (k := 0) 40 (ftC 0 (-1)) (by rfl) rfl hSw.2 (by kernel_rfl) (by kernel_rfl) rfl⟩) (by assumption) ?_
  (try simp only [Act.put, List.getElem_toArray, List.getElem_cons_zero, List.getElem_cons_succ, List.setIfInBounds_toArray, List.set_cons_zero, List.set_cons_succ])
  have HAd := HA8.drew
  have HEd := HE8.drew
  have Bd := B8.drew
  have hsd : w.heap.size + 1 < w8.drew.heap.size := HEd.lt
  generalize w8.drew = wd at *
  refine wpAnyH_ready (rs := [2]) (by kernel_rfl) (by simp) ?_
  refine (AllReadyH.cons rfl (fun K hK => ?_) AllReadyH.nil)
  · simp only [List.getElem_toArray, List.getElem_cons_zero, List.getElem_cons_succ]
    rw [if_pos (by rfl)]
    refine wp_store_op (k := 0) 54 (.agg (paC (paAll (v : Int)))) (paC (paAll (v : Int))) (by rfl) rfl rfl HAd (by kernel_rfl) (by exact Nat.le_refl 10) rfl rfl (fun wx HAx bx gx => ?_)
    have HEx := HEd.grown gx (by simp)
    have Bx := grown_belowA Bd gx Bd.size (by omega)
    refine hK.out _ _ ?_ (fun hHeld => ?_)
    · exact ⟨HAx, HEx⟩
    clear hK K
    (try simp only [Act.put, List.getElem_toArray, List.getElem_cons_zero, List.getElem_cons_succ, List.setIfInBounds_toArray, List.set_cons_zero, List.set_cons_succ])
    refine wpAnyH_ready (rs := [3]) (by kernel_rfl) (by simp) ?_
    refine (AllReadyH.cons rfl (fun K hK => ?_) AllReadyH.nil)
    simp only [List.getElem_toArray, List.getElem_cons_zero, List.getElem_cons_succ]
    rw [if_pos (by rfl)]
    refine wp_store_op (k := 0) 40 (.agg (ftC 0 (-1))) (ftC 0 (-1)) (by rfl) rfl rfl HEx (by kernel_rfl) (by exact Nat.le_refl 2) rfl rfl (fun wz HEz bz gz => ?_)
    have HAz := HAx.grown gz (by simp)
    have Bz := grown_belowA Bx gz Bx.size (by omega)
    refine hK.out _ _ ?_ (fun hHeld => ?_)
    · exact ⟨HAz, HEz⟩
    clear hK K
    (try simp only [Act.put, List.getElem_toArray, List.getElem_cons_zero, List.getElem_cons_succ, List.setIfInBounds_toArray, List.set_cons_zero, List.set_cons_succ])
    refine wpAnyH_done (by kernel_rfl) ?_ _
    refine NoPanic.normal ?_
    go_wp2
    exact pa_door_ok rfl rfl HAz HEz Bz

end Go.Proofs.YtnldggbhhbndfaaDoor
