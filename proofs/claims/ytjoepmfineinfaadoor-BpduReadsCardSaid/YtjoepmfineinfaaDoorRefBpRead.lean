/- The reference reads a BPDU: every way. -/
import Derived.Test.YtjoepmfineinfaaDoorBpDoor
import Derived.Test.YtjoepmfineinfaaDoorBpOf
import Derived.Test.YtjoepmfineinfaaDoorBpOk
import Derived.Test.YtjoepmfineinfaaDoorRBody
import Derived.Test.YtjoepmfineinfaaDoorBpAt
namespace Go.Proofs.YtjoepmfineinfaaDoor
open Go.RowKit
attribute [local go_sem ↓] Go.wp_at_zero Go.wp_at_succ
set_option linter.unusedSimpArgs false
set_option linter.unusedVariables false
set_option maxRecDepth 100000

theorem cells_bp (b : Bp) : (Value.agg (bpC b)).cells.toList.all (·.oneCell') = true := rfl

set_option maxHeartbeats 3200000 in
theorem refBpRead_short (s : ByteArray) (w : World) (hs : s.size ≤ 300) (h : s.size < 4) :
    Calls Tryd.prog 16 #[.string s] w fun r w' => r = .returned (.tuple #[.agg (bpC zBp), .agg (ftC 7 0)]) ∧ Below w.heap.size w w' := by
  have hmf : ∀ (fn : Fn) (first cap : Array Value) (w : World), (Instr.makeFunc fn first cap).run Tryd.prog w = .ok (.func fn first cap) w := fun _ _ _ _ => rfl
  have HA0 := (Blk.new w 52 (bpC zBp)).alloc (.cells (ftC 0 0) 29)
  have HE0 : Blk ((w.alloc (.cells (bpC zBp) 52)).alloc (.cells (ftC 0 0) 29)) (w.heap.size + 1) 29 (ftC 0 0) := by
    have h := Blk.new (w.alloc (.cells (bpC zBp) 52)) 29 (ftC 0 0)
    simpa using h
  have B0 : Below w.heap.size w ((w.alloc (.cells (bpC zBp) 52)).alloc (.cells (ftC 0 0) 29)) := ((Below.refl _ _).alloc (Nat.le_refl _) _).alloc (by simp) _
  go_enter_defers Tryd.func16, Tryd.ntmps16
  go_upto_region 1 with (first | (refine alloc_blk 52 (bpC zBp) (by rfl) rfl Tryd.bpZero ?_) | (refine alloc_blk 29 (ftC 0 0) (by rfl) rfl Tryd.ftZero ?_))
  generalize (w.alloc (.cells (bpC zBp) 52)).alloc (.cells (ftC 0 0) 29) = w1 at *
  go_wp2_with fail
  refine (good_any _).mono ?_
  rintro e w2 ⟨rfl, b2⟩
  have HA2 := HA0.kept b2
  have HE2 := HE0.kept b2
  have B2 := B0.trans (b2.mono B0.size)
  clear HA0 HE0 B0 b2
  go_upto_region 4 with (first | (refine store_blk (k := 0) 29 (.agg (ftC 0 (-1))) (ftC 0 (-1)) (by rfl) rfl rfl rfl HE2 (by kernel_rfl) (by exact Nat.le_refl 2) rfl rfl (fun w3 HE3 b3 g3 => ?_)))
  have HA3 := HA2.grown g3 (by simp)
  have B3 : Below w.heap.size w w3 := B2.trans (b3.mono (by omega))
  clear HA2 HE2 B2 b3 g3
  have HA4 := HA3.alloc (.cells #[.string s, .int .i64 (0 : Nat), .int .i64 (0 : Nat)] 69)
  have HE4 := HE3.alloc (.cells #[.string s, .int .i64 (0 : Nat), .int .i64 (0 : Nat)] 69)
  have HC4 : Cur (w3.alloc (.cells #[.string s, .int .i64 (0 : Nat), .int .i64 (0 : Nat)] 69)) w3.heap.size s 0 0 := Blk.new w3 69 _
  have B4 := B3.alloc B3.size (.cells #[.string s, .int .i64 (0 : Nat), .int .i64 (0 : Nat)] 69)
  have hc4 : w.heap.size + 1 < w3.heap.size := HE3.lt
  clear HA3 HE3 B3
  go_upto_region 5 with (refine build_blk (t := 69) #[.string s, .int .i64 (0 : Nat), .int .i64 (0 : Nat)] (by rfl) rfl (by kernel_rfl) ?_)
  generalize w3.alloc (.cells #[.string s, .int .i64 0, .int .i64 0] 69) = w4 at *
  generalize w3.heap.size = c at *
  have hEc : w.heap.size + 1 < c := hc4
  clear hc4
  go_wp2_with fail
  refine (eat_bad HC4 4 (by omega) (by omega) (by decide) (by omega)).mono ?_
  rintro e w5 ⟨rfl, b5⟩
  have HA5 := HA4.kept b5
  have HE5 := HE4.kept b5
  have B5 := B4.trans (b5.mono B4.size)
  go_wp2
  exact bp_door_bad rfl rfl (by decide) HA5 HE5 (by omega) (Nat.le_refl _) (by omega) B5

set_option maxHeartbeats 3200000 in
theorem refBpRead_other (s : ByteArray) (w : World) (hs : s.size ≤ 300) (h : ¬ s.size < 4) (h0 : ¬ hdAt s = [0, 0, 0, 0]) (h1 : ¬ hdAt s = [0, 0, 0, 128]) (h2 : ¬ hdAt s = [0, 0, 2, 2]) :
    Calls Tryd.prog 16 #[.string s] w fun r w' => r = .returned (.tuple #[.agg (bpC zBp), .agg (ftC 3 0)]) ∧ Below w.heap.size w w' := by
  obtain ⟨u, hu⟩ : ∃ u : ByteArray, u = ⟨((s.data.toList.drop 0).take 4).toArray⟩ := ⟨_, rfl⟩
  have hul : u.data.toList = hdAt s := by rw [hu]; rfl
  have n0 := isNo (u := u) (l := [0, 0, 0, 0]) (by rw [hul]; exact h0)
  have n1 := isNo (u := u) (l := [0, 0, 0, 128]) (by rw [hul]; exact h1)
  have n2 := isNo (u := u) (l := [0, 0, 2, 2]) (by rw [hul]; exact h2)
  have HEAT : Hid (∀ {c : Nat} {W : World}, Cur W c s 0 0 → Calls Tryd.prog 31 #[.pointer (some ⟨c, 0, none⟩), .int .i64 4] W fun r w' => r = .returned (.string u) ∧ Cur w' c s 4 0 ∧ W.grownBy w' (some c)) := fun {c W} h => by
    rw [hu]
    exact eat_ok h 4 (by omega) (by omega)
  clear hu hul h0 h1 h2
  have hmf : ∀ (fn : Fn) (first cap : Array Value) (w : World), (Instr.makeFunc fn first cap).run Tryd.prog w = .ok (.func fn first cap) w := fun _ _ _ _ => rfl
  have HA0 := (Blk.new w 52 (bpC zBp)).alloc (.cells (ftC 0 0) 29)
  have HE0 : Blk ((w.alloc (.cells (bpC zBp) 52)).alloc (.cells (ftC 0 0) 29)) (w.heap.size + 1) 29 (ftC 0 0) := by
    have h := Blk.new (w.alloc (.cells (bpC zBp) 52)) 29 (ftC 0 0)
    simpa using h
  have B0 : Below w.heap.size w ((w.alloc (.cells (bpC zBp) 52)).alloc (.cells (ftC 0 0) 29)) := ((Below.refl _ _).alloc (Nat.le_refl _) _).alloc (by simp) _
  go_enter_defers Tryd.func16, Tryd.ntmps16
  go_upto_region 1 with (first | (refine alloc_blk 52 (bpC zBp) (by rfl) rfl Tryd.bpZero ?_) | (refine alloc_blk 29 (ftC 0 0) (by rfl) rfl Tryd.ftZero ?_))
  generalize (w.alloc (.cells (bpC zBp) 52)).alloc (.cells (ftC 0 0) 29) = w1 at *
  go_wp2_with fail
  refine (good_any _).mono ?_
  rintro e w2 ⟨rfl, b2⟩
  have HA2 := HA0.kept b2
  have HE2 := HE0.kept b2
  have B2 := B0.trans (b2.mono B0.size)
  clear HA0 HE0 B0 b2
  go_upto_region 4 with (first | (refine store_blk (k := 0) 29 (.agg (ftC 0 (-1))) (ftC 0 (-1)) (by rfl) rfl rfl rfl HE2 (by kernel_rfl) (by exact Nat.le_refl 2) rfl rfl (fun w3 HE3 b3 g3 => ?_)))
  have HA3 := HA2.grown g3 (by simp)
  have B3 : Below w.heap.size w w3 := B2.trans (b3.mono (by omega))
  clear HA2 HE2 B2 b3 g3
  have HA4 := HA3.alloc (.cells #[.string s, .int .i64 (0 : Nat), .int .i64 (0 : Nat)] 69)
  have HE4 := HE3.alloc (.cells #[.string s, .int .i64 (0 : Nat), .int .i64 (0 : Nat)] 69)
  have HC4 : Cur (w3.alloc (.cells #[.string s, .int .i64 (0 : Nat), .int .i64 (0 : Nat)] 69)) w3.heap.size s 0 0 := Blk.new w3 69 _
  have B4 := B3.alloc B3.size (.cells #[.string s, .int .i64 (0 : Nat), .int .i64 (0 : Nat)] 69)
  have hc4 : w.heap.size + 1 < w3.heap.size := HE3.lt
  clear HA3 HE3 B3
  go_upto_region 5 with (refine build_blk (t := 69) #[.string s, .int .i64 (0 : Nat), .int .i64 (0 : Nat)] (by rfl) rfl (by kernel_rfl) ?_)
  generalize w3.alloc (.cells #[.string s, .int .i64 0, .int .i64 0] 69) = w4 at *
  generalize w3.heap.size = c at *
  have hEc : w.heap.size + 1 < c := hc4
  clear hc4
  go_wp2_with fail
  refine (HEAT.out HC4).mono ?_
  rintro e w5 ⟨rfl, HC5, g5⟩
  have HA5 := HA4.grown g5 (by simp; omega)
  have HE5 := HE4.grown g5 (by simp; omega)
  have B5 := grown_belowA B4 g5 B4.size (by omega)
  clear HA4 HE4 B4 HC4 g5
  go_wp2_with fail
  refine (throw_any HC5 3 0 (by decide) (by decide)).mono ?_
  rintro e w6 ⟨rfl, rfl⟩
  go_wp2
  exact bp_door_bad rfl rfl (by decide) HA5 HE5 (by omega) (Nat.le_refl _) (by omega) B5

set_option maxHeartbeats 3200000 in
theorem refBpRead_notice (s : ByteArray) (w : World) (hs : s.size ≤ 300) (h : ¬ s.size < 4) (hh : hdAt s = [0, 0, 0, 128]) :
    Calls Tryd.prog 16 #[.string s] w fun r w' => r = .returned (.tuple #[.agg (bpC nBp), .agg (ftC 0 (-1))]) ∧ Below w.heap.size w w' := by
  have HEAT : Hid (∀ {c : Nat} {W : World}, Cur W c s 0 0 → Calls Tryd.prog 31 #[.pointer (some ⟨c, 0, none⟩), .int .i64 4] W fun r w' => r = .returned (.string ⟨#[0, 0, 0, 128]⟩) ∧ Cur w' c s 4 0 ∧ W.grownBy w' (some c)) := fun {c W} h => by
    have q := eat_ok h 4 (by omega) (by omega)
    rw [show ((s.data.toList.drop 0).take 4) = [0, 0, 0, 128] from hh] at q
    exact q
  have hmf : ∀ (fn : Fn) (first cap : Array Value) (w : World), (Instr.makeFunc fn first cap).run Tryd.prog w = .ok (.func fn first cap) w := fun _ _ _ _ => rfl
  have HA0 := (Blk.new w 52 (bpC zBp)).alloc (.cells (ftC 0 0) 29)
  have HE0 : Blk ((w.alloc (.cells (bpC zBp) 52)).alloc (.cells (ftC 0 0) 29)) (w.heap.size + 1) 29 (ftC 0 0) := by
    have h := Blk.new (w.alloc (.cells (bpC zBp) 52)) 29 (ftC 0 0)
    simpa using h
  have B0 : Below w.heap.size w ((w.alloc (.cells (bpC zBp) 52)).alloc (.cells (ftC 0 0) 29)) := ((Below.refl _ _).alloc (Nat.le_refl _) _).alloc (by simp) _
  go_enter_defers Tryd.func16, Tryd.ntmps16
  go_upto_region 1 with (first | (refine alloc_blk 52 (bpC zBp) (by rfl) rfl Tryd.bpZero ?_) | (refine alloc_blk 29 (ftC 0 0) (by rfl) rfl Tryd.ftZero ?_))
  generalize (w.alloc (.cells (bpC zBp) 52)).alloc (.cells (ftC 0 0) 29) = w1 at *
  go_wp2_with fail
  refine (good_any _).mono ?_
  rintro e w2 ⟨rfl, b2⟩
  have HA2 := HA0.kept b2
  have HE2 := HE0.kept b2
  have B2 := B0.trans (b2.mono B0.size)
  clear HA0 HE0 B0 b2
  go_upto_region 4 with (first | (refine store_blk (k := 0) 29 (.agg (ftC 0 (-1))) (ftC 0 (-1)) (by rfl) rfl rfl rfl HE2 (by kernel_rfl) (by exact Nat.le_refl 2) rfl rfl (fun w3 HE3 b3 g3 => ?_)))
  have HA3 := HA2.grown g3 (by simp)
  have B3 : Below w.heap.size w w3 := B2.trans (b3.mono (by omega))
  clear HA2 HE2 B2 b3 g3
  have HA4 := HA3.alloc (.cells #[.string s, .int .i64 (0 : Nat), .int .i64 (0 : Nat)] 69)
  have HE4 := HE3.alloc (.cells #[.string s, .int .i64 (0 : Nat), .int .i64 (0 : Nat)] 69)
  have HC4 : Cur (w3.alloc (.cells #[.string s, .int .i64 (0 : Nat), .int .i64 (0 : Nat)] 69)) w3.heap.size s 0 0 := Blk.new w3 69 _
  have B4 := B3.alloc B3.size (.cells #[.string s, .int .i64 (0 : Nat), .int .i64 (0 : Nat)] 69)
  have hc4 : w.heap.size + 1 < w3.heap.size := HE3.lt
  clear HA3 HE3 B3
  go_upto_region 5 with (refine build_blk (t := 69) #[.string s, .int .i64 (0 : Nat), .int .i64 (0 : Nat)] (by rfl) rfl (by kernel_rfl) ?_)
  generalize w3.alloc (.cells #[.string s, .int .i64 0, .int .i64 0] 69) = w4 at *
  generalize w3.heap.size = c at *
  have hEc : w.heap.size + 1 < c := hc4
  clear hc4
  go_wp2_with fail
  refine (HEAT.out HC4).mono ?_
  rintro e w5 ⟨rfl, HC5, g5⟩
  have HA5 := HA4.grown g5 (by simp; omega)
  have HE5 := HE4.grown g5 (by simp; omega)
  have B5 := grown_belowA B4 g5 B4.size (by omega)
  clear HA4 HE4 B4 HC4 g5
  go_upto_region 15 with (refine store_blk (k := 0) 3 (.int .i64 2) (bpC nBp) (by rfl) rfl rfl rfl HA5 (by kernel_rfl) (show (0 + 1 : Nat) ≤ 31 by decide) rfl rfl ?_; intro w6 HA6 b6 g6; have HE6 := HE5.grown g6 (by simp); have B6 := grown_belowA B5 g6 B5.size (Nat.le_refl _))
  (try simp only [Act.put, List.setIfInBounds_toArray, List.set_cons_zero, List.set_cons_succ])
  refine wp_region_noPanic ?_
  refine wp_region_held_drew (S := (fun w' => Blk w' w.heap.size 52 (bpC nBp) ∧ Blk w' (w.heap.size + 1) 29 (ftC 0 (-1)))) (by kernel_rfl) ?_ (fun hHeld => ?_)
  · exact ⟨HA6, HE6⟩
  refine wpAnyH_take (i := 0) (v := .agg (bpC nBp)) rfl (by kernel_rfl) (by kernel_rfl) (by kernel_rfl) (fun _ _ _ h => h) (Or.inl ⟨by rfl, fun w hSw => exec_load_blk (k := 0) 52 (bpC nBp) rfl rfl hSw.1 (by kernel_rfl) (by kernel_rfl) rfl⟩) (by assumption) ?_
  (try simp only [Act.put, List.getElem_toArray, List.getElem_cons_zero, List.getElem_cons_succ, List.setIfInBounds_toArray, List.set_cons_zero, List.set_cons_succ])
  refine wpAnyH_take (i := 1) (v := .agg (ftC 0 (-1))) rfl (by kernel_rfl) (by kernel_rfl) (by kernel_rfl) (fun _ _ _ h => h) (Or.inl ⟨by rfl, fun w hSw => exec_load_blk (k := 0) 29 (ftC 0 (-1)) rfl rfl hSw.2 (by kernel_rfl) (by kernel_rfl) rfl⟩) (by assumption) ?_
  (try simp only [Act.put, List.getElem_toArray, List.getElem_cons_zero, List.getElem_cons_succ, List.setIfInBounds_toArray, List.set_cons_zero, List.set_cons_succ])
  have Ad := HA6.drew
  have Ed := HE6.drew
  have Bd := B6.drew
  refine wpAnyH_ready (rs := [2]) (by kernel_rfl) (by simp) ?_
  refine (AllReadyH.cons rfl (fun K hK => ?_) AllReadyH.nil)
  simp only [List.getElem_toArray, List.getElem_cons_zero, List.getElem_cons_succ]
  rw [if_pos (by rfl)]
  refine wp_store_op (k := 0) 52 (.agg (bpC nBp)) (bpC nBp) (by rfl) rfl rfl Ad (by kernel_rfl) (show (31 : Nat) ≤ 31 from Nat.le_refl 31) (by rfl) (st_whole _ _ rfl) (fun wA HAx bA gA => ?_)
  have HEx := Ed.grown gA (by simp)
  have Bx := grown_belowA Bd gA Bd.size (Nat.le_refl _)
  refine hK.out _ _ ?_ (fun hHeld => ?_)
  · exact ⟨HAx, HEx⟩
  clear hK K
  (try simp only [Act.put, List.getElem_toArray, List.getElem_cons_zero, List.getElem_cons_succ, List.setIfInBounds_toArray, List.set_cons_zero, List.set_cons_succ])
  refine wpAnyH_ready (rs := [3]) (by kernel_rfl) (by simp) ?_
  refine (AllReadyH.cons rfl (fun K hK => ?_) AllReadyH.nil)
  simp only [List.getElem_toArray, List.getElem_cons_zero, List.getElem_cons_succ]
  rw [if_pos (by rfl)]
  refine wp_store_op (k := 0) 29 (.agg (ftC 0 (-1))) (ftC 0 (-1)) (by rfl) rfl rfl HEx (by kernel_rfl) (show (2 : Nat) ≤ 2 from Nat.le_refl 2) (by rfl) (st_whole _ _ rfl) (fun wB HEy bB gB => ?_)
  have HAy := HAx.grown gB (by simp)
  have By := grown_belowA Bx gB Bx.size (by omega)
  refine hK.out _ _ ?_ (fun hHeld => ?_)
  · exact ⟨HAy, HEy⟩
  clear hK K
  (try simp only [Act.put, List.getElem_toArray, List.getElem_cons_zero, List.getElem_cons_succ, List.setIfInBounds_toArray, List.set_cons_zero, List.set_cons_succ])
  refine wpAnyH_done (by kernel_rfl) ?_ _
  refine NoPanic.normal ?_
  go_wp2
  (try subst hX)
  exact bp_door_ok rfl rfl HAy HEy By

set_option maxHeartbeats 3200000 in
theorem refBpRead_config_bad (s : ByteArray) (w : World) (hs : s.size ≤ 300) (h : ¬ s.size < 4) (hh : hdAt s = [0, 0, 0, 0]) (e : Int) (x : Nat) (he : bdE s.size 4 (pzAt s (4 + 21)) = some (e, x)) (hne : e ≠ 0) :
    Calls Tryd.prog 16 #[.string s] w fun r w' => r = .returned (.tuple #[.agg (bpC zBp), .agg (ftC e x)]) ∧ Below w.heap.size w w' := by
  have HEAT : Hid (∀ {c : Nat} {W : World}, Cur W c s 0 0 → Calls Tryd.prog 31 #[.pointer (some ⟨c, 0, none⟩), .int .i64 4] W fun r w' => r = .returned (.string ⟨#[0, 0, 0, 0]⟩) ∧ Cur w' c s 4 0 ∧ W.grownBy w' (some c)) := fun {c W} h => by
    have q := eat_ok h 4 (by omega) (by omega)
    rw [show ((s.data.toList.drop 0).take 4) = [0, 0, 0, 0] from hh] at q
    exact q
  have HBD : Hid (∀ {c : Nat} {W : World}, Cur W c s 4 0 → Calls Tryd.prog 51 #[.pointer (some ⟨c, 0, none⟩), .int .i64 1] W (CBody s c 4 0 1 W)) := fun {c W} h => cbody_any 1 h (by omega) (by omega)
  have hmf : ∀ (fn : Fn) (first cap : Array Value) (w : World), (Instr.makeFunc fn first cap).run Tryd.prog w = .ok (.func fn first cap) w := fun _ _ _ _ => rfl
  have HA0 := (Blk.new w 52 (bpC zBp)).alloc (.cells (ftC 0 0) 29)
  have HE0 : Blk ((w.alloc (.cells (bpC zBp) 52)).alloc (.cells (ftC 0 0) 29)) (w.heap.size + 1) 29 (ftC 0 0) := by
    have h := Blk.new (w.alloc (.cells (bpC zBp) 52)) 29 (ftC 0 0)
    simpa using h
  have B0 : Below w.heap.size w ((w.alloc (.cells (bpC zBp) 52)).alloc (.cells (ftC 0 0) 29)) := ((Below.refl _ _).alloc (Nat.le_refl _) _).alloc (by simp) _
  go_enter_defers Tryd.func16, Tryd.ntmps16
  go_upto_region 1 with (first | (refine alloc_blk 52 (bpC zBp) (by rfl) rfl Tryd.bpZero ?_) | (refine alloc_blk 29 (ftC 0 0) (by rfl) rfl Tryd.ftZero ?_))
  generalize (w.alloc (.cells (bpC zBp) 52)).alloc (.cells (ftC 0 0) 29) = w1 at *
  go_wp2_with fail
  refine (good_any _).mono ?_
  rintro e w2 ⟨rfl, b2⟩
  have HA2 := HA0.kept b2
  have HE2 := HE0.kept b2
  have B2 := B0.trans (b2.mono B0.size)
  clear HA0 HE0 B0 b2
  go_upto_region 4 with (first | (refine store_blk (k := 0) 29 (.agg (ftC 0 (-1))) (ftC 0 (-1)) (by rfl) rfl rfl rfl HE2 (by kernel_rfl) (by exact Nat.le_refl 2) rfl rfl (fun w3 HE3 b3 g3 => ?_)))
  have HA3 := HA2.grown g3 (by simp)
  have B3 : Below w.heap.size w w3 := B2.trans (b3.mono (by omega))
  clear HA2 HE2 B2 b3 g3
  have HA4 := HA3.alloc (.cells #[.string s, .int .i64 (0 : Nat), .int .i64 (0 : Nat)] 69)
  have HE4 := HE3.alloc (.cells #[.string s, .int .i64 (0 : Nat), .int .i64 (0 : Nat)] 69)
  have HC4 : Cur (w3.alloc (.cells #[.string s, .int .i64 (0 : Nat), .int .i64 (0 : Nat)] 69)) w3.heap.size s 0 0 := Blk.new w3 69 _
  have B4 := B3.alloc B3.size (.cells #[.string s, .int .i64 (0 : Nat), .int .i64 (0 : Nat)] 69)
  have hc4 : w.heap.size + 1 < w3.heap.size := HE3.lt
  clear HA3 HE3 B3
  go_upto_region 5 with (refine build_blk (t := 69) #[.string s, .int .i64 (0 : Nat), .int .i64 (0 : Nat)] (by rfl) rfl (by kernel_rfl) ?_)
  generalize w3.alloc (.cells #[.string s, .int .i64 0, .int .i64 0] 69) = w4 at *
  generalize w3.heap.size = c at *
  have hEc : w.heap.size + 1 < c := hc4
  clear hc4
  go_wp2_with fail
  refine (HEAT.out HC4).mono ?_
  rintro e w5 ⟨rfl, HC5, g5⟩
  have HA5 := HA4.grown g5 (by simp; omega)
  have HE5 := HE4.grown g5 (by simp; omega)
  have B5 := grown_belowA B4 g5 B4.size (by omega)
  clear HA4 HE4 B4 HC4 g5
  go_wp2_with fail
  refine (HBD.out HC5).mono ?_
  rintro r w6 (⟨e1, x1, q, rfl, g6⟩ | ⟨q, _⟩)
  · rw [he] at q
    obtain ⟨rfl, rfl⟩ : e = e1 ∧ x = x1 := by simpa using q
    have HA6 := HA5.grown g6 (by simp; omega)
    have HE6 := HE5.grown g6 (by simp; omega)
    have B6 := grown_belowA B5 g6 B5.size (by omega)
    go_wp2
    exact bp_door_bad rfl rfl hne HA6 HE6 (by omega) (Nat.le_refl _) (by omega) B6
  · rw [he] at q
    cases q

set_option maxHeartbeats 3200000 in
theorem refBpRead_rapid_bad (s : ByteArray) (w : World) (hs : s.size ≤ 300) (h : ¬ s.size < 4) (hh : hdAt s = [0, 0, 2, 2]) (e : Int) (x : Nat) (he : bdE s.size 4 (pzAt s (4 + 21)) = some (e, x)) (hne : e ≠ 0) :
    Calls Tryd.prog 16 #[.string s] w fun r w' => r = .returned (.tuple #[.agg (bpC zBp), .agg (ftC e x)]) ∧ Below w.heap.size w w' := by
  have HEAT : Hid (∀ {c : Nat} {W : World}, Cur W c s 0 0 → Calls Tryd.prog 31 #[.pointer (some ⟨c, 0, none⟩), .int .i64 4] W fun r w' => r = .returned (.string ⟨#[0, 0, 2, 2]⟩) ∧ Cur w' c s 4 0 ∧ W.grownBy w' (some c)) := fun {c W} h => by
    have q := eat_ok h 4 (by omega) (by omega)
    rw [show ((s.data.toList.drop 0).take 4) = [0, 0, 2, 2] from hh] at q
    exact q
  have HBD : Hid (∀ {c : Nat} {W : World}, Cur W c s 4 0 → Calls Tryd.prog 51 #[.pointer (some ⟨c, 0, none⟩), .int .i64 3] W (CBody s c 4 0 3 W)) := fun {c W} h => cbody_any 3 h (by omega) (by omega)
  have hmf : ∀ (fn : Fn) (first cap : Array Value) (w : World), (Instr.makeFunc fn first cap).run Tryd.prog w = .ok (.func fn first cap) w := fun _ _ _ _ => rfl
  have HA0 := (Blk.new w 52 (bpC zBp)).alloc (.cells (ftC 0 0) 29)
  have HE0 : Blk ((w.alloc (.cells (bpC zBp) 52)).alloc (.cells (ftC 0 0) 29)) (w.heap.size + 1) 29 (ftC 0 0) := by
    have h := Blk.new (w.alloc (.cells (bpC zBp) 52)) 29 (ftC 0 0)
    simpa using h
  have B0 : Below w.heap.size w ((w.alloc (.cells (bpC zBp) 52)).alloc (.cells (ftC 0 0) 29)) := ((Below.refl _ _).alloc (Nat.le_refl _) _).alloc (by simp) _
  go_enter_defers Tryd.func16, Tryd.ntmps16
  go_upto_region 1 with (first | (refine alloc_blk 52 (bpC zBp) (by rfl) rfl Tryd.bpZero ?_) | (refine alloc_blk 29 (ftC 0 0) (by rfl) rfl Tryd.ftZero ?_))
  generalize (w.alloc (.cells (bpC zBp) 52)).alloc (.cells (ftC 0 0) 29) = w1 at *
  go_wp2_with fail
  refine (good_any _).mono ?_
  rintro e w2 ⟨rfl, b2⟩
  have HA2 := HA0.kept b2
  have HE2 := HE0.kept b2
  have B2 := B0.trans (b2.mono B0.size)
  clear HA0 HE0 B0 b2
  go_upto_region 4 with (first | (refine store_blk (k := 0) 29 (.agg (ftC 0 (-1))) (ftC 0 (-1)) (by rfl) rfl rfl rfl HE2 (by kernel_rfl) (by exact Nat.le_refl 2) rfl rfl (fun w3 HE3 b3 g3 => ?_)))
  have HA3 := HA2.grown g3 (by simp)
  have B3 : Below w.heap.size w w3 := B2.trans (b3.mono (by omega))
  clear HA2 HE2 B2 b3 g3
  have HA4 := HA3.alloc (.cells #[.string s, .int .i64 (0 : Nat), .int .i64 (0 : Nat)] 69)
  have HE4 := HE3.alloc (.cells #[.string s, .int .i64 (0 : Nat), .int .i64 (0 : Nat)] 69)
  have HC4 : Cur (w3.alloc (.cells #[.string s, .int .i64 (0 : Nat), .int .i64 (0 : Nat)] 69)) w3.heap.size s 0 0 := Blk.new w3 69 _
  have B4 := B3.alloc B3.size (.cells #[.string s, .int .i64 (0 : Nat), .int .i64 (0 : Nat)] 69)
  have hc4 : w.heap.size + 1 < w3.heap.size := HE3.lt
  clear HA3 HE3 B3
  go_upto_region 5 with (refine build_blk (t := 69) #[.string s, .int .i64 (0 : Nat), .int .i64 (0 : Nat)] (by rfl) rfl (by kernel_rfl) ?_)
  generalize w3.alloc (.cells #[.string s, .int .i64 0, .int .i64 0] 69) = w4 at *
  generalize w3.heap.size = c at *
  have hEc : w.heap.size + 1 < c := hc4
  clear hc4
  go_wp2_with fail
  refine (HEAT.out HC4).mono ?_
  rintro e w5 ⟨rfl, HC5, g5⟩
  have HA5 := HA4.grown g5 (by simp; omega)
  have HE5 := HE4.grown g5 (by simp; omega)
  have B5 := grown_belowA B4 g5 B4.size (by omega)
  clear HA4 HE4 B4 HC4 g5
  go_wp2_with fail
  refine (HBD.out HC5).mono ?_
  rintro r w6 (⟨e1, x1, q, rfl, g6⟩ | ⟨q, _⟩)
  · rw [he] at q
    obtain ⟨rfl, rfl⟩ : e = e1 ∧ x = x1 := by simpa using q
    have HA6 := HA5.grown g6 (by simp; omega)
    have HE6 := HE5.grown g6 (by simp; omega)
    have B6 := grown_belowA B5 g6 B5.size (by omega)
    go_wp2
    exact bp_door_bad rfl rfl hne HA6 HE6 (by omega) (Nat.le_refl _) (by omega) B6
  · rw [he] at q
    cases q

set_option maxHeartbeats 3200000 in
theorem refBpRead_config_ok (s : ByteArray) (w : World) (hs : s.size ≤ 300) (h : ¬ s.size < 4) (hh : hdAt s = [0, 0, 0, 0]) (he : bdE s.size 4 (pzAt s (4 + 21)) = none) :
    Calls Tryd.prog 16 #[.string s] w fun r w' => r = .returned (.tuple #[.agg (bpC (cfB (bpAt s 4 1))), .agg (ftC 0 (-1))]) ∧ Below w.heap.size w w' := by
  have HK : Hid (cfB (bpAt s 4 1) = ⟨(bpAt s 4 1).k, cfF (bpAt s 4 1).f, (bpAt s 4 1).root, (bpAt s 4 1).cost, (bpAt s 4 1).snd, (bpAt s 4 1).pp, (bpAt s 4 1).pn, (bpAt s 4 1).age, (bpAt s 4 1).mx, (bpAt s 4 1).hel, (bpAt s 4 1).wai⟩) := by show _ = _; unfold cfB; rw [if_pos (show (bpAt s 4 1).k = 1 from rfl)]
  rw [HK.out]
  clear HK
  have HEAT : Hid (∀ {c : Nat} {W : World}, Cur W c s 0 0 → Calls Tryd.prog 31 #[.pointer (some ⟨c, 0, none⟩), .int .i64 4] W fun r w' => r = .returned (.string ⟨#[0, 0, 0, 0]⟩) ∧ Cur w' c s 4 0 ∧ W.grownBy w' (some c)) := fun {c W} h => by
    have q := eat_ok h 4 (by omega) (by omega)
    rw [show ((s.data.toList.drop 0).take 4) = [0, 0, 0, 0] from hh] at q
    exact q
  have HBD : Hid (∀ {c : Nat} {W : World}, Cur W c s 4 0 → Calls Tryd.prog 51 #[.pointer (some ⟨c, 0, none⟩), .int .i64 1] W (CBody s c 4 0 1 W)) := fun {c W} h => cbody_any 1 h (by omega) (by omega)
  have hmf : ∀ (fn : Fn) (first cap : Array Value) (w : World), (Instr.makeFunc fn first cap).run Tryd.prog w = .ok (.func fn first cap) w := fun _ _ _ _ => rfl
  have HA0 := (Blk.new w 52 (bpC zBp)).alloc (.cells (ftC 0 0) 29)
  have HE0 : Blk ((w.alloc (.cells (bpC zBp) 52)).alloc (.cells (ftC 0 0) 29)) (w.heap.size + 1) 29 (ftC 0 0) := by
    have h := Blk.new (w.alloc (.cells (bpC zBp) 52)) 29 (ftC 0 0)
    simpa using h
  have B0 : Below w.heap.size w ((w.alloc (.cells (bpC zBp) 52)).alloc (.cells (ftC 0 0) 29)) := ((Below.refl _ _).alloc (Nat.le_refl _) _).alloc (by simp) _
  go_enter_defers Tryd.func16, Tryd.ntmps16
  go_upto_region 1 with (first | (refine alloc_blk 52 (bpC zBp) (by rfl) rfl Tryd.bpZero ?_) | (refine alloc_blk 29 (ftC 0 0) (by rfl) rfl Tryd.ftZero ?_))
  generalize (w.alloc (.cells (bpC zBp) 52)).alloc (.cells (ftC 0 0) 29) = w1 at *
  go_wp2_with fail
  refine (good_any _).mono ?_
  rintro e w2 ⟨rfl, b2⟩
  have HA2 := HA0.kept b2
  have HE2 := HE0.kept b2
  have B2 := B0.trans (b2.mono B0.size)
  clear HA0 HE0 B0 b2
  go_upto_region 4 with (first | (refine store_blk (k := 0) 29 (.agg (ftC 0 (-1))) (ftC 0 (-1)) (by rfl) rfl rfl rfl HE2 (by kernel_rfl) (by exact Nat.le_refl 2) rfl rfl (fun w3 HE3 b3 g3 => ?_)))
  have HA3 := HA2.grown g3 (by simp)
  have B3 : Below w.heap.size w w3 := B2.trans (b3.mono (by omega))
  clear HA2 HE2 B2 b3 g3
  have HA4 := HA3.alloc (.cells #[.string s, .int .i64 (0 : Nat), .int .i64 (0 : Nat)] 69)
  have HE4 := HE3.alloc (.cells #[.string s, .int .i64 (0 : Nat), .int .i64 (0 : Nat)] 69)
  have HC4 : Cur (w3.alloc (.cells #[.string s, .int .i64 (0 : Nat), .int .i64 (0 : Nat)] 69)) w3.heap.size s 0 0 := Blk.new w3 69 _
  have B4 := B3.alloc B3.size (.cells #[.string s, .int .i64 (0 : Nat), .int .i64 (0 : Nat)] 69)
  have hc4 : w.heap.size + 1 < w3.heap.size := HE3.lt
  clear HA3 HE3 B3
  go_upto_region 5 with (refine build_blk (t := 69) #[.string s, .int .i64 (0 : Nat), .int .i64 (0 : Nat)] (by rfl) rfl (by kernel_rfl) ?_)
  generalize w3.alloc (.cells #[.string s, .int .i64 0, .int .i64 0] 69) = w4 at *
  generalize w3.heap.size = c at *
  have hEc : w.heap.size + 1 < c := hc4
  clear hc4
  go_wp2_with fail
  refine (HEAT.out HC4).mono ?_
  rintro e w5 ⟨rfl, HC5, g5⟩
  have HA5 := HA4.grown g5 (by simp; omega)
  have HE5 := HE4.grown g5 (by simp; omega)
  have B5 := grown_belowA B4 g5 B4.size (by omega)
  clear HA4 HE4 B4 HC4 g5
  go_wp2_with fail
  refine (HBD.out HC5).mono ?_
  rintro r w6 (⟨e1, x1, q, rfl, g6⟩ | ⟨q, rfl, HC6, g6⟩)
  · rw [he] at q
    cases q
  have HA6 := HA5.grown g6 (by simp; omega)
  have HE6 := HE5.grown g6 (by simp; omega)
  have B6 := grown_belowA B5 g6 B5.size (by omega)
  clear HA5 HE5 B5 HC5 g6 q
  generalize hX : bpAt s 4 1 = X at *
  go_upto_region 15 with (first | (refine store_blk (k := 0) 52 (.agg (bpC X)) (bpC X) (by rfl) rfl rfl rfl HA6 (by kernel_rfl) (show (31 : Nat) ≤ 31 from Nat.le_refl 31) (by rfl) (st_whole _ _ rfl) ?_; intro w7 HA7 b7 g7; have HE7 := HE6.grown g7 (by simp); have HC7 : Cur w7 c s 35 0 := Blk.grown HC6 g7 (by simp; omega); have B7 := grown_belowA B6 g7 B6.size (Nat.le_refl _); have f0 := HA7.cv 1 (.bool X.f.ch) rfl; have f6 := HA7.cv 7 (.bool X.f.ac) rfl) | (refine build_blk (t := 46) (flC (cfF X.f)) (by rfl) rfl (by kernel_rfl) ?_) | (refine store_blk (k := 1) 46 (.agg (flC (cfF X.f))) (bpC ⟨X.k, cfF X.f, X.root, X.cost, X.snd, X.pp, X.pn, X.age, X.mx, X.hel, X.wai⟩) (by rfl) rfl rfl rfl HA7 (by kernel_rfl) (show (1 + 7 : Nat) ≤ 31 by decide) (by rfl) rfl ?_; intro w8 HA8 b8 g8; have HE8 := HE7.grown g8 (by simp); have B8 := grown_belowA B7 g8 B7.size (Nat.le_refl _)))
  (try simp only [Act.put, List.setIfInBounds_toArray, List.set_cons_zero, List.set_cons_succ])
  refine wp_region_noPanic ?_
  refine wp_region_held_drew (S := (fun w' => Blk w' w.heap.size 52 (bpC ⟨X.k, cfF X.f, X.root, X.cost, X.snd, X.pp, X.pn, X.age, X.mx, X.hel, X.wai⟩) ∧ Blk w' (w.heap.size + 1) 29 (ftC 0 (-1)))) (by kernel_rfl) ?_ (fun hHeld => ?_)
  · exact ⟨HA8, HE8⟩
  refine wpAnyH_take (i := 0) (v := .agg (bpC ⟨X.k, cfF X.f, X.root, X.cost, X.snd, X.pp, X.pn, X.age, X.mx, X.hel, X.wai⟩)) rfl (by kernel_rfl) (by kernel_rfl) (by kernel_rfl) (fun _ _ _ h => h) (Or.inl ⟨by rfl, fun w hSw => exec_load_blk (k := 0) 52 (bpC ⟨X.k, cfF X.f, X.root, X.cost, X.snd, X.pp, X.pn, X.age, X.mx, X.hel, X.wai⟩) rfl rfl hSw.1 (by kernel_rfl) (by kernel_rfl) rfl⟩) (by assumption) ?_
  (try simp only [Act.put, List.getElem_toArray, List.getElem_cons_zero, List.getElem_cons_succ, List.setIfInBounds_toArray, List.set_cons_zero, List.set_cons_succ])
  refine wpAnyH_take (i := 1) (v := .agg (ftC 0 (-1))) rfl (by kernel_rfl) (by kernel_rfl) (by kernel_rfl) (fun _ _ _ h => h) (Or.inl ⟨by rfl, fun w hSw => exec_load_blk (k := 0) 29 (ftC 0 (-1)) rfl rfl hSw.2 (by kernel_rfl) (by kernel_rfl) rfl⟩) (by assumption) ?_
  (try simp only [Act.put, List.getElem_toArray, List.getElem_cons_zero, List.getElem_cons_succ, List.setIfInBounds_toArray, List.set_cons_zero, List.set_cons_succ])
  have Ad := HA8.drew
  have Ed := HE8.drew
  have Bd := B8.drew
  refine wpAnyH_ready (rs := [2]) (by kernel_rfl) (by simp) ?_
  refine (AllReadyH.cons rfl (fun K hK => ?_) AllReadyH.nil)
  simp only [List.getElem_toArray, List.getElem_cons_zero, List.getElem_cons_succ]
  rw [if_pos (by rfl)]
  refine wp_store_op (k := 0) 52 (.agg (bpC ⟨X.k, cfF X.f, X.root, X.cost, X.snd, X.pp, X.pn, X.age, X.mx, X.hel, X.wai⟩)) (bpC ⟨X.k, cfF X.f, X.root, X.cost, X.snd, X.pp, X.pn, X.age, X.mx, X.hel, X.wai⟩) (by rfl) rfl rfl Ad (by kernel_rfl) (show (31 : Nat) ≤ 31 from Nat.le_refl 31) (by rfl) (st_whole _ _ rfl) (fun wA HAx bA gA => ?_)
  have HEx := Ed.grown gA (by simp)
  have Bx := grown_belowA Bd gA Bd.size (Nat.le_refl _)
  refine hK.out _ _ ?_ (fun hHeld => ?_)
  · exact ⟨HAx, HEx⟩
  clear hK K
  (try simp only [Act.put, List.getElem_toArray, List.getElem_cons_zero, List.getElem_cons_succ, List.setIfInBounds_toArray, List.set_cons_zero, List.set_cons_succ])
  refine wpAnyH_ready (rs := [3]) (by kernel_rfl) (by simp) ?_
  refine (AllReadyH.cons rfl (fun K hK => ?_) AllReadyH.nil)
  simp only [List.getElem_toArray, List.getElem_cons_zero, List.getElem_cons_succ]
  rw [if_pos (by rfl)]
  refine wp_store_op (k := 0) 29 (.agg (ftC 0 (-1))) (ftC 0 (-1)) (by rfl) rfl rfl HEx (by kernel_rfl) (show (2 : Nat) ≤ 2 from Nat.le_refl 2) (by rfl) (st_whole _ _ rfl) (fun wB HEy bB gB => ?_)
  have HAy := HAx.grown gB (by simp)
  have By := grown_belowA Bx gB Bx.size (by omega)
  refine hK.out _ _ ?_ (fun hHeld => ?_)
  · exact ⟨HAy, HEy⟩
  clear hK K
  (try simp only [Act.put, List.getElem_toArray, List.getElem_cons_zero, List.getElem_cons_succ, List.setIfInBounds_toArray, List.set_cons_zero, List.set_cons_succ])
  refine wpAnyH_done (by kernel_rfl) ?_ _
  refine NoPanic.normal ?_
  go_wp2
  (try subst hX)
  exact bp_door_ok rfl rfl HAy HEy By

set_option maxHeartbeats 3200000 in
theorem refBpRead_rapid_ok (s : ByteArray) (w : World) (hs : s.size ≤ 300) (h : ¬ s.size < 4) (hh : hdAt s = [0, 0, 2, 2]) (he : bdE s.size 4 (pzAt s (4 + 21)) = none) (h35 : 35 ≤ s.size) (h36 : 36 ≤ s.size) (ht : tlAt s = [0]) :
    Calls Tryd.prog 16 #[.string s] w fun r w' => r = .returned (.tuple #[.agg (bpC (bpAt s 4 3)), .agg (ftC 0 (-1))]) ∧ Below w.heap.size w w' := by
  have HEAT : Hid (∀ {c : Nat} {W : World}, Cur W c s 0 0 → Calls Tryd.prog 31 #[.pointer (some ⟨c, 0, none⟩), .int .i64 4] W fun r w' => r = .returned (.string ⟨#[0, 0, 2, 2]⟩) ∧ Cur w' c s 4 0 ∧ W.grownBy w' (some c)) := fun {c W} h => by
    have q := eat_ok h 4 (by omega) (by omega)
    rw [show ((s.data.toList.drop 0).take 4) = [0, 0, 2, 2] from hh] at q
    exact q
  have HBD : Hid (∀ {c : Nat} {W : World}, Cur W c s 4 0 → Calls Tryd.prog 51 #[.pointer (some ⟨c, 0, none⟩), .int .i64 3] W (CBody s c 4 0 3 W)) := fun {c W} h => cbody_any 3 h (by omega) (by omega)
  have hmf : ∀ (fn : Fn) (first cap : Array Value) (w : World), (Instr.makeFunc fn first cap).run Tryd.prog w = .ok (.func fn first cap) w := fun _ _ _ _ => rfl
  have HA0 := (Blk.new w 52 (bpC zBp)).alloc (.cells (ftC 0 0) 29)
  have HE0 : Blk ((w.alloc (.cells (bpC zBp) 52)).alloc (.cells (ftC 0 0) 29)) (w.heap.size + 1) 29 (ftC 0 0) := by
    have h := Blk.new (w.alloc (.cells (bpC zBp) 52)) 29 (ftC 0 0)
    simpa using h
  have B0 : Below w.heap.size w ((w.alloc (.cells (bpC zBp) 52)).alloc (.cells (ftC 0 0) 29)) := ((Below.refl _ _).alloc (Nat.le_refl _) _).alloc (by simp) _
  go_enter_defers Tryd.func16, Tryd.ntmps16
  go_upto_region 1 with (first | (refine alloc_blk 52 (bpC zBp) (by rfl) rfl Tryd.bpZero ?_) | (refine alloc_blk 29 (ftC 0 0) (by rfl) rfl Tryd.ftZero ?_))
  generalize (w.alloc (.cells (bpC zBp) 52)).alloc (.cells (ftC 0 0) 29) = w1 at *
  go_wp2_with fail
  refine (good_any _).mono ?_
  rintro e w2 ⟨rfl, b2⟩
  have HA2 := HA0.kept b2
  have HE2 := HE0.kept b2
  have B2 := B0.trans (b2.mono B0.size)
  clear HA0 HE0 B0 b2
  go_upto_region 4 with (first | (refine store_blk (k := 0) 29 (.agg (ftC 0 (-1))) (ftC 0 (-1)) (by rfl) rfl rfl rfl HE2 (by kernel_rfl) (by exact Nat.le_refl 2) rfl rfl (fun w3 HE3 b3 g3 => ?_)))
  have HA3 := HA2.grown g3 (by simp)
  have B3 : Below w.heap.size w w3 := B2.trans (b3.mono (by omega))
  clear HA2 HE2 B2 b3 g3
  have HA4 := HA3.alloc (.cells #[.string s, .int .i64 (0 : Nat), .int .i64 (0 : Nat)] 69)
  have HE4 := HE3.alloc (.cells #[.string s, .int .i64 (0 : Nat), .int .i64 (0 : Nat)] 69)
  have HC4 : Cur (w3.alloc (.cells #[.string s, .int .i64 (0 : Nat), .int .i64 (0 : Nat)] 69)) w3.heap.size s 0 0 := Blk.new w3 69 _
  have B4 := B3.alloc B3.size (.cells #[.string s, .int .i64 (0 : Nat), .int .i64 (0 : Nat)] 69)
  have hc4 : w.heap.size + 1 < w3.heap.size := HE3.lt
  clear HA3 HE3 B3
  go_upto_region 5 with (refine build_blk (t := 69) #[.string s, .int .i64 (0 : Nat), .int .i64 (0 : Nat)] (by rfl) rfl (by kernel_rfl) ?_)
  generalize w3.alloc (.cells #[.string s, .int .i64 0, .int .i64 0] 69) = w4 at *
  generalize w3.heap.size = c at *
  have hEc : w.heap.size + 1 < c := hc4
  clear hc4
  go_wp2_with fail
  refine (HEAT.out HC4).mono ?_
  rintro e w5 ⟨rfl, HC5, g5⟩
  have HA5 := HA4.grown g5 (by simp; omega)
  have HE5 := HE4.grown g5 (by simp; omega)
  have B5 := grown_belowA B4 g5 B4.size (by omega)
  clear HA4 HE4 B4 HC4 g5
  go_wp2_with fail
  refine (HBD.out HC5).mono ?_
  rintro r w6 (⟨e1, x1, q, rfl, g6⟩ | ⟨q, rfl, HC6, g6⟩)
  · rw [he] at q
    cases q
  have HA6 := HA5.grown g6 (by simp; omega)
  have HE6 := HE5.grown g6 (by simp; omega)
  have B6 := grown_belowA B5 g6 B5.size (by omega)
  clear HA5 HE5 B5 HC5 g6 q
  generalize hX : bpAt s 4 3 = X at *
  go_wp2_with (refine store_blk (k := 0) 52 (.agg (bpC X)) (bpC X) (by rfl) rfl rfl rfl HA6 (by kernel_rfl) (show (31 : Nat) ≤ 31 from Nat.le_refl 31) (by rfl) (st_whole _ _ rfl) ?_; intro w7 HA7 b7 g7; have HE7 := HE6.grown g7 (by simp); have HC7 : Cur w7 c s 35 0 := Blk.grown HC6 g7 (by simp; omega); have B7 := grown_belowA B6 g7 B6.size (Nat.le_refl _); have f0 := HA7.cv 1 (.bool X.f.ch) rfl; have f6 := HA7.cv 7 (.bool X.f.ac) rfl)
  refine (want_ok (t := ⟨#[0]⟩) HC7 (by show 35 + 1 ≤ _; omega) ht (by omega)).mono ?_
  rintro e w8 ⟨rfl, HC8, g8⟩
  have HA8 := HA7.grown g8 (by simp; omega)
  have HE8 := HE7.grown g8 (by simp; omega)
  have B8 := grown_belowA B7 g8 B7.size (by omega)
  go_upto_region 15 with (fail)
  (try simp only [Act.put, List.setIfInBounds_toArray, List.set_cons_zero, List.set_cons_succ])
  refine wp_region_noPanic ?_
  refine wp_region_held_drew (S := (fun w' => Blk w' w.heap.size 52 (bpC X) ∧ Blk w' (w.heap.size + 1) 29 (ftC 0 (-1)))) (by kernel_rfl) ?_ (fun hHeld => ?_)
  · exact ⟨HA8, HE8⟩
  refine wpAnyH_take (i := 0) (v := .agg (bpC X)) rfl (by kernel_rfl) (by kernel_rfl) (by kernel_rfl) (fun _ _ _ h => h) (Or.inl ⟨by rfl, fun w hSw => exec_load_blk (k := 0) 52 (bpC X) rfl rfl hSw.1 (by kernel_rfl) (by kernel_rfl) rfl⟩) (by assumption) ?_
  (try simp only [Act.put, List.getElem_toArray, List.getElem_cons_zero, List.getElem_cons_succ, List.setIfInBounds_toArray, List.set_cons_zero, List.set_cons_succ])
  refine wpAnyH_take (i := 1) (v := .agg (ftC 0 (-1))) rfl (by kernel_rfl) (by kernel_rfl) (by kernel_rfl) (fun _ _ _ h => h) (Or.inl ⟨by rfl, fun w hSw => exec_load_blk (k := 0) 29 (ftC 0 (-1)) rfl rfl hSw.2 (by kernel_rfl) (by kernel_rfl) rfl⟩) (by assumption) ?_
  (try simp only [Act.put, List.getElem_toArray, List.getElem_cons_zero, List.getElem_cons_succ, List.setIfInBounds_toArray, List.set_cons_zero, List.set_cons_succ])
  have Ad := HA8.drew
  have Ed := HE8.drew
  have Bd := B8.drew
  refine wpAnyH_ready (rs := [2]) (by kernel_rfl) (by simp) ?_
  refine (AllReadyH.cons rfl (fun K hK => ?_) AllReadyH.nil)
  simp only [List.getElem_toArray, List.getElem_cons_zero, List.getElem_cons_succ]
  rw [if_pos (by rfl)]
  refine wp_store_op (k := 0) 52 (.agg (bpC X)) (bpC X) (by rfl) rfl rfl Ad (by kernel_rfl) (show (31 : Nat) ≤ 31 from Nat.le_refl 31) (by rfl) (st_whole _ _ rfl) (fun wA HAx bA gA => ?_)
  have HEx := Ed.grown gA (by simp)
  have Bx := grown_belowA Bd gA Bd.size (Nat.le_refl _)
  refine hK.out _ _ ?_ (fun hHeld => ?_)
  · exact ⟨HAx, HEx⟩
  clear hK K
  (try simp only [Act.put, List.getElem_toArray, List.getElem_cons_zero, List.getElem_cons_succ, List.setIfInBounds_toArray, List.set_cons_zero, List.set_cons_succ])
  refine wpAnyH_ready (rs := [3]) (by kernel_rfl) (by simp) ?_
  refine (AllReadyH.cons rfl (fun K hK => ?_) AllReadyH.nil)
  simp only [List.getElem_toArray, List.getElem_cons_zero, List.getElem_cons_succ]
  rw [if_pos (by rfl)]
  refine wp_store_op (k := 0) 29 (.agg (ftC 0 (-1))) (ftC 0 (-1)) (by rfl) rfl rfl HEx (by kernel_rfl) (show (2 : Nat) ≤ 2 from Nat.le_refl 2) (by rfl) (st_whole _ _ rfl) (fun wB HEy bB gB => ?_)
  have HAy := HAx.grown gB (by simp)
  have By := grown_belowA Bx gB Bx.size (by omega)
  refine hK.out _ _ ?_ (fun hHeld => ?_)
  · exact ⟨HAy, HEy⟩
  clear hK K
  (try simp only [Act.put, List.getElem_toArray, List.getElem_cons_zero, List.getElem_cons_succ, List.setIfInBounds_toArray, List.set_cons_zero, List.set_cons_succ])
  refine wpAnyH_done (by kernel_rfl) ?_ _
  refine NoPanic.normal ?_
  go_wp2
  (try subst hX)
  exact bp_door_ok rfl rfl HAy HEy By

set_option maxHeartbeats 3200000 in
theorem refBpRead_rapid_cut (s : ByteArray) (w : World) (hs : s.size ≤ 300) (h : ¬ s.size < 4) (hh : hdAt s = [0, 0, 2, 2]) (he : bdE s.size 4 (pzAt s (4 + 21)) = none) (h35 : 35 ≤ s.size) (h36 : ¬ 36 ≤ s.size) :
    Calls Tryd.prog 16 #[.string s] w fun r w' => r = .returned (.tuple #[.agg (bpC zBp), .agg (ftC 7 35)]) ∧ Below w.heap.size w w' := by
  have HEAT : Hid (∀ {c : Nat} {W : World}, Cur W c s 0 0 → Calls Tryd.prog 31 #[.pointer (some ⟨c, 0, none⟩), .int .i64 4] W fun r w' => r = .returned (.string ⟨#[0, 0, 2, 2]⟩) ∧ Cur w' c s 4 0 ∧ W.grownBy w' (some c)) := fun {c W} h => by
    have q := eat_ok h 4 (by omega) (by omega)
    rw [show ((s.data.toList.drop 0).take 4) = [0, 0, 2, 2] from hh] at q
    exact q
  have HBD : Hid (∀ {c : Nat} {W : World}, Cur W c s 4 0 → Calls Tryd.prog 51 #[.pointer (some ⟨c, 0, none⟩), .int .i64 3] W (CBody s c 4 0 3 W)) := fun {c W} h => cbody_any 3 h (by omega) (by omega)
  have hmf : ∀ (fn : Fn) (first cap : Array Value) (w : World), (Instr.makeFunc fn first cap).run Tryd.prog w = .ok (.func fn first cap) w := fun _ _ _ _ => rfl
  have HA0 := (Blk.new w 52 (bpC zBp)).alloc (.cells (ftC 0 0) 29)
  have HE0 : Blk ((w.alloc (.cells (bpC zBp) 52)).alloc (.cells (ftC 0 0) 29)) (w.heap.size + 1) 29 (ftC 0 0) := by
    have h := Blk.new (w.alloc (.cells (bpC zBp) 52)) 29 (ftC 0 0)
    simpa using h
  have B0 : Below w.heap.size w ((w.alloc (.cells (bpC zBp) 52)).alloc (.cells (ftC 0 0) 29)) := ((Below.refl _ _).alloc (Nat.le_refl _) _).alloc (by simp) _
  go_enter_defers Tryd.func16, Tryd.ntmps16
  go_upto_region 1 with (first | (refine alloc_blk 52 (bpC zBp) (by rfl) rfl Tryd.bpZero ?_) | (refine alloc_blk 29 (ftC 0 0) (by rfl) rfl Tryd.ftZero ?_))
  generalize (w.alloc (.cells (bpC zBp) 52)).alloc (.cells (ftC 0 0) 29) = w1 at *
  go_wp2_with fail
  refine (good_any _).mono ?_
  rintro e w2 ⟨rfl, b2⟩
  have HA2 := HA0.kept b2
  have HE2 := HE0.kept b2
  have B2 := B0.trans (b2.mono B0.size)
  clear HA0 HE0 B0 b2
  go_upto_region 4 with (first | (refine store_blk (k := 0) 29 (.agg (ftC 0 (-1))) (ftC 0 (-1)) (by rfl) rfl rfl rfl HE2 (by kernel_rfl) (by exact Nat.le_refl 2) rfl rfl (fun w3 HE3 b3 g3 => ?_)))
  have HA3 := HA2.grown g3 (by simp)
  have B3 : Below w.heap.size w w3 := B2.trans (b3.mono (by omega))
  clear HA2 HE2 B2 b3 g3
  have HA4 := HA3.alloc (.cells #[.string s, .int .i64 (0 : Nat), .int .i64 (0 : Nat)] 69)
  have HE4 := HE3.alloc (.cells #[.string s, .int .i64 (0 : Nat), .int .i64 (0 : Nat)] 69)
  have HC4 : Cur (w3.alloc (.cells #[.string s, .int .i64 (0 : Nat), .int .i64 (0 : Nat)] 69)) w3.heap.size s 0 0 := Blk.new w3 69 _
  have B4 := B3.alloc B3.size (.cells #[.string s, .int .i64 (0 : Nat), .int .i64 (0 : Nat)] 69)
  have hc4 : w.heap.size + 1 < w3.heap.size := HE3.lt
  clear HA3 HE3 B3
  go_upto_region 5 with (refine build_blk (t := 69) #[.string s, .int .i64 (0 : Nat), .int .i64 (0 : Nat)] (by rfl) rfl (by kernel_rfl) ?_)
  generalize w3.alloc (.cells #[.string s, .int .i64 0, .int .i64 0] 69) = w4 at *
  generalize w3.heap.size = c at *
  have hEc : w.heap.size + 1 < c := hc4
  clear hc4
  go_wp2_with fail
  refine (HEAT.out HC4).mono ?_
  rintro e w5 ⟨rfl, HC5, g5⟩
  have HA5 := HA4.grown g5 (by simp; omega)
  have HE5 := HE4.grown g5 (by simp; omega)
  have B5 := grown_belowA B4 g5 B4.size (by omega)
  clear HA4 HE4 B4 HC4 g5
  go_wp2_with fail
  refine (HBD.out HC5).mono ?_
  rintro r w6 (⟨e1, x1, q, rfl, g6⟩ | ⟨q, rfl, HC6, g6⟩)
  · rw [he] at q
    cases q
  have HA6 := HA5.grown g6 (by simp; omega)
  have HE6 := HE5.grown g6 (by simp; omega)
  have B6 := grown_belowA B5 g6 B5.size (by omega)
  clear HA5 HE5 B5 HC5 g6 q
  generalize hX : bpAt s 4 3 = X at *
  go_wp2_with (refine store_blk (k := 0) 52 (.agg (bpC X)) (bpC X) (by rfl) rfl rfl rfl HA6 (by kernel_rfl) (show (31 : Nat) ≤ 31 from Nat.le_refl 31) (by rfl) (st_whole _ _ rfl) ?_; intro w7 HA7 b7 g7; have HE7 := HE6.grown g7 (by simp); have HC7 : Cur w7 c s 35 0 := Blk.grown HC6 g7 (by simp; omega); have B7 := grown_belowA B6 g7 B6.size (Nat.le_refl _); have f0 := HA7.cv 1 (.bool X.f.ch) rfl; have f6 := HA7.cv 7 (.bool X.f.ac) rfl)
  refine (want_bad (t := ⟨#[0]⟩) HC7 (by show ¬ 35 + 1 ≤ _; omega) (by omega) (by decide) (by omega)).mono ?_
  rintro e w8 ⟨rfl, b8⟩
  have HA8 := HA7.kept b8
  have HE8 := HE7.kept b8
  have B8 := B7.trans (b8.mono B7.size)
  go_wp2
  exact bp_door_bad rfl rfl (by decide) HA8 HE8 (by omega) (Nat.le_refl _) (by omega) B8

set_option maxHeartbeats 3200000 in
theorem refBpRead_rapid_form (s : ByteArray) (w : World) (hs : s.size ≤ 300) (h : ¬ s.size < 4) (hh : hdAt s = [0, 0, 2, 2]) (he : bdE s.size 4 (pzAt s (4 + 21)) = none) (h35 : 35 ≤ s.size) (h36 : 36 ≤ s.size) (ht : ¬ tlAt s = [0]) :
    Calls Tryd.prog 16 #[.string s] w fun r w' => r = .returned (.tuple #[.agg (bpC zBp), .agg (ftC 3 35)]) ∧ Below w.heap.size w w' := by
  have HEAT : Hid (∀ {c : Nat} {W : World}, Cur W c s 0 0 → Calls Tryd.prog 31 #[.pointer (some ⟨c, 0, none⟩), .int .i64 4] W fun r w' => r = .returned (.string ⟨#[0, 0, 2, 2]⟩) ∧ Cur w' c s 4 0 ∧ W.grownBy w' (some c)) := fun {c W} h => by
    have q := eat_ok h 4 (by omega) (by omega)
    rw [show ((s.data.toList.drop 0).take 4) = [0, 0, 2, 2] from hh] at q
    exact q
  have HBD : Hid (∀ {c : Nat} {W : World}, Cur W c s 4 0 → Calls Tryd.prog 51 #[.pointer (some ⟨c, 0, none⟩), .int .i64 3] W (CBody s c 4 0 3 W)) := fun {c W} h => cbody_any 3 h (by omega) (by omega)
  have hmf : ∀ (fn : Fn) (first cap : Array Value) (w : World), (Instr.makeFunc fn first cap).run Tryd.prog w = .ok (.func fn first cap) w := fun _ _ _ _ => rfl
  have HA0 := (Blk.new w 52 (bpC zBp)).alloc (.cells (ftC 0 0) 29)
  have HE0 : Blk ((w.alloc (.cells (bpC zBp) 52)).alloc (.cells (ftC 0 0) 29)) (w.heap.size + 1) 29 (ftC 0 0) := by
    have h := Blk.new (w.alloc (.cells (bpC zBp) 52)) 29 (ftC 0 0)
    simpa using h
  have B0 : Below w.heap.size w ((w.alloc (.cells (bpC zBp) 52)).alloc (.cells (ftC 0 0) 29)) := ((Below.refl _ _).alloc (Nat.le_refl _) _).alloc (by simp) _
  go_enter_defers Tryd.func16, Tryd.ntmps16
  go_upto_region 1 with (first | (refine alloc_blk 52 (bpC zBp) (by rfl) rfl Tryd.bpZero ?_) | (refine alloc_blk 29 (ftC 0 0) (by rfl) rfl Tryd.ftZero ?_))
  generalize (w.alloc (.cells (bpC zBp) 52)).alloc (.cells (ftC 0 0) 29) = w1 at *
  go_wp2_with fail
  refine (good_any _).mono ?_
  rintro e w2 ⟨rfl, b2⟩
  have HA2 := HA0.kept b2
  have HE2 := HE0.kept b2
  have B2 := B0.trans (b2.mono B0.size)
  clear HA0 HE0 B0 b2
  go_upto_region 4 with (first | (refine store_blk (k := 0) 29 (.agg (ftC 0 (-1))) (ftC 0 (-1)) (by rfl) rfl rfl rfl HE2 (by kernel_rfl) (by exact Nat.le_refl 2) rfl rfl (fun w3 HE3 b3 g3 => ?_)))
  have HA3 := HA2.grown g3 (by simp)
  have B3 : Below w.heap.size w w3 := B2.trans (b3.mono (by omega))
  clear HA2 HE2 B2 b3 g3
  have HA4 := HA3.alloc (.cells #[.string s, .int .i64 (0 : Nat), .int .i64 (0 : Nat)] 69)
  have HE4 := HE3.alloc (.cells #[.string s, .int .i64 (0 : Nat), .int .i64 (0 : Nat)] 69)
  have HC4 : Cur (w3.alloc (.cells #[.string s, .int .i64 (0 : Nat), .int .i64 (0 : Nat)] 69)) w3.heap.size s 0 0 := Blk.new w3 69 _
  have B4 := B3.alloc B3.size (.cells #[.string s, .int .i64 (0 : Nat), .int .i64 (0 : Nat)] 69)
  have hc4 : w.heap.size + 1 < w3.heap.size := HE3.lt
  clear HA3 HE3 B3
  go_upto_region 5 with (refine build_blk (t := 69) #[.string s, .int .i64 (0 : Nat), .int .i64 (0 : Nat)] (by rfl) rfl (by kernel_rfl) ?_)
  generalize w3.alloc (.cells #[.string s, .int .i64 0, .int .i64 0] 69) = w4 at *
  generalize w3.heap.size = c at *
  have hEc : w.heap.size + 1 < c := hc4
  clear hc4
  go_wp2_with fail
  refine (HEAT.out HC4).mono ?_
  rintro e w5 ⟨rfl, HC5, g5⟩
  have HA5 := HA4.grown g5 (by simp; omega)
  have HE5 := HE4.grown g5 (by simp; omega)
  have B5 := grown_belowA B4 g5 B4.size (by omega)
  clear HA4 HE4 B4 HC4 g5
  go_wp2_with fail
  refine (HBD.out HC5).mono ?_
  rintro r w6 (⟨e1, x1, q, rfl, g6⟩ | ⟨q, rfl, HC6, g6⟩)
  · rw [he] at q
    cases q
  have HA6 := HA5.grown g6 (by simp; omega)
  have HE6 := HE5.grown g6 (by simp; omega)
  have B6 := grown_belowA B5 g6 B5.size (by omega)
  clear HA5 HE5 B5 HC5 g6 q
  generalize hX : bpAt s 4 3 = X at *
  go_wp2_with (refine store_blk (k := 0) 52 (.agg (bpC X)) (bpC X) (by rfl) rfl rfl rfl HA6 (by kernel_rfl) (show (31 : Nat) ≤ 31 from Nat.le_refl 31) (by rfl) (st_whole _ _ rfl) ?_; intro w7 HA7 b7 g7; have HE7 := HE6.grown g7 (by simp); have HC7 : Cur w7 c s 35 0 := Blk.grown HC6 g7 (by simp; omega); have B7 := grown_belowA B6 g7 B6.size (Nat.le_refl _); have f0 := HA7.cv 1 (.bool X.f.ch) rfl; have f6 := HA7.cv 7 (.bool X.f.ac) rfl)
  refine (want_form (t := ⟨#[0]⟩) HC7 (by show 35 + 1 ≤ _; omega) ht (by omega)).mono ?_
  rintro e w8 ⟨rfl, g8⟩
  have HA8 := HA7.grown g8 (by simp; omega)
  have HE8 := HE7.grown g8 (by simp; omega)
  have B8 := grown_belowA B7 g8 B7.size (by omega)
  go_wp2
  exact bp_door_bad rfl rfl (by decide) HA8 HE8 (by omega) (Nat.le_refl _) (by omega) B8


end Go.Proofs.YtjoepmfineinfaaDoor
