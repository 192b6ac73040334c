/- lacp.readParty, readEnd in every state of a reader. -/
import Derived.Test.YtocgnbbnaamjjaaDoorLc
import Derived.Test.YtocgnbbnaamjjaaDoorExp
import Derived.Test.YtocgnbbnaamjjaaDoorErrA
namespace Go.Proofs.YtocgnbbnaamjjaaDoor
open Go.RowKit
attribute [local go_sem ↓] Go.wp_at_zero Go.wp_at_succ
set_option linter.unusedSimpArgs false
set_option linter.unusedVariables false
set_option maxRecDepth 100000

theorem byX_nil6 : byX [] = z6 := by
  funext i
  simp [byX, z6]

theorem pyCopy (a b c d e : Int) (l : List UInt8) (h : l = [] ∨ l.length = 6) : ((pyC ⟨a, z6, b, c, d, e⟩).toList.take 1 ++ Lib.byteCells (⟨l.toArray⟩ : ByteArray).data.toList ++ (pyC ⟨a, z6, b, c, d, e⟩).toList.drop (1 + (⟨l.toArray⟩ : ByteArray).size)).toArray = pyC ⟨a, byX l, b, c, d, e⟩ := by
  rcases h with rfl | h
  · rw [byX_nil6]; rfl
  · match l, h with
    | [x0, x1, x2, x3, x4, x5], _ => rfl

theorem mkCopy (a : Bool) (b c : Int) (l : List UInt8) (h : l = [] ∨ l.length = 6) : ((mkC ⟨a, b, z6, c⟩).toList.take 2 ++ Lib.byteCells (⟨l.toArray⟩ : ByteArray).data.toList ++ (mkC ⟨a, b, z6, c⟩).toList.drop (2 + (⟨l.toArray⟩ : ByteArray).size)).toArray = mkC ⟨a, b, byX l, c⟩ := by
  rcases h with rfl | h
  · rw [byX_nil6]; rfl
  · match l, h with
    | [x0, x1, x2, x3, x4, x5], _ => rfl

theorem bytes6 {l : List UInt8} (h : l = [] ∨ l.length = 6) : (⟨l.toArray⟩ : ByteArray).size ≤ 6 := by
  show l.toArray.size ≤ 6
  rw [List.size_toArray]
  rcases h with rfl | h
  · exact Nat.zero_le _
  · omega

set_option maxHeartbeats 6400000 in
theorem readParty_t {g : Nat} {s : ByteArray} (st : RSt) (w : World) (h : RdT w g s 0 st) (P0 : st.1 ≤ s.size) (hb : 0 + s.size ≤ 281474976710656) :
    Calls Tryd.prog 36 #[.pointer (some ⟨g, 0, none⟩)] w fun e w' => e = .returned (.agg (pyC (rdPy s.data.toList st))) ∧ RdT w' g s 0 (py7 s.data.toList st) ∧ w.grownBy w' (some g) := by
  have hls : s.data.toList.length = s.size := by simp
  have hg := h.lt
  have Q0 : st.1 ≤ s.data.toList.length := by omega
  have Q1 : (py1 s.data.toList st).1 ≤ s.data.toList.length := nmS_le _ _ _ _ Q0
  have Q2 : (py2 s.data.toList st).1 ≤ s.data.toList.length := tkN_le _ _ _ _ _ Q1
  have Q3 : (py3 s.data.toList st).1 ≤ s.data.toList.length := nmS_le _ _ _ _ Q2
  have Q4 : (py4 s.data.toList st).1 ≤ s.data.toList.length := nmS_le _ _ _ _ Q3
  have Q5 : (py5 s.data.toList st).1 ≤ s.data.toList.length := nmS_le _ _ _ _ Q4
  have Q6 : (py6 s.data.toList st).1 ≤ s.data.toList.length := nmS_le _ _ _ _ Q5
  have P1 := Q1
  rw [hls] at P1
  have P2 := Q2
  rw [hls] at P2
  have P3 := Q3
  rw [hls] at P3
  have P4 := Q4
  rw [hls] at P4
  have P5 := Q5
  rw [hls] at P5
  have P6 := Q6
  rw [hls] at P6
  have N1 : Hid (∀ {W : World}, RdT W g s 0 st → Calls Tryd.prog 37 #[.pointer (some ⟨g, 0, none⟩), .int .i64 2] W fun e w' => e = .returned (.int .i64 (nmV s.data.toList 0 st 2 : Nat)) ∧ RdT w' g s 0 (py1 s.data.toList st) ∧ W.grownBy w' (some g)) := fun {W} h => numK_t _ 2 (by decide) W h P0 hb
  have N2 : Hid (∀ {W : World}, RdT W g s 0 (py1 s.data.toList st) → Calls Tryd.prog 38 #[.pointer (some ⟨g, 0, none⟩), .int .i64 6] W fun e w' => e = .returned (.string ⟨(tkN s.data.toList 0 (py1 s.data.toList st) 6 false).1.toArray⟩) ∧ RdT w' g s 0 (py2 s.data.toList st) ∧ W.grownBy w' (some g)) := fun {W} h => bytes_t _ 6 W h P1 hb
  have N3 : Hid (∀ {W : World}, RdT W g s 0 (py2 s.data.toList st) → Calls Tryd.prog 37 #[.pointer (some ⟨g, 0, none⟩), .int .i64 2] W fun e w' => e = .returned (.int .i64 (nmV s.data.toList 0 (py2 s.data.toList st) 2 : Nat)) ∧ RdT w' g s 0 (py3 s.data.toList st) ∧ W.grownBy w' (some g)) := fun {W} h => numK_t _ 2 (by decide) W h P2 hb
  have N4 : Hid (∀ {W : World}, RdT W g s 0 (py3 s.data.toList st) → Calls Tryd.prog 37 #[.pointer (some ⟨g, 0, none⟩), .int .i64 2] W fun e w' => e = .returned (.int .i64 (nmV s.data.toList 0 (py3 s.data.toList st) 2 : Nat)) ∧ RdT w' g s 0 (py4 s.data.toList st) ∧ W.grownBy w' (some g)) := fun {W} h => numK_t _ 2 (by decide) W h P3 hb
  have N5 : Hid (∀ {W : World}, RdT W g s 0 (py4 s.data.toList st) → Calls Tryd.prog 37 #[.pointer (some ⟨g, 0, none⟩), .int .i64 2] W fun e w' => e = .returned (.int .i64 (nmV s.data.toList 0 (py4 s.data.toList st) 2 : Nat)) ∧ RdT w' g s 0 (py5 s.data.toList st) ∧ W.grownBy w' (some g)) := fun {W} h => numK_t _ 2 (by decide) W h P4 hb
  have N6 : Hid (∀ {W : World}, RdT W g s 0 (py5 s.data.toList st) → Calls Tryd.prog 37 #[.pointer (some ⟨g, 0, none⟩), .int .i64 1] W fun e w' => e = .returned (.int .i64 (nmV s.data.toList 0 (py5 s.data.toList st) 1 : Nat)) ∧ RdT w' g s 0 (py6 s.data.toList st) ∧ W.grownBy w' (some g)) := fun {W} h => numK_t _ 1 (by decide) W h P5 hb
  have N7 : Hid (∀ {W : World}, RdT W g s 0 (py6 s.data.toList st) → Calls Tryd.prog 38 #[.pointer (some ⟨g, 0, none⟩), .int .i64 3] W fun e w' => e = .returned (.string ⟨(tkN s.data.toList 0 (py6 s.data.toList st) 3 false).1.toArray⟩) ∧ RdT w' g s 0 (py7 s.data.toList st) ∧ W.grownBy w' (some g)) := fun {W} h => bytes_t _ 3 W h P6 hb
  have hl6 := tkN_len s.data.toList 0 (py1 s.data.toList st) 6 false
  have HV : Hid (rdPy s.data.toList st = ⟨(nmV s.data.toList 0 st 2 : Nat), byX (tkN s.data.toList 0 (py1 s.data.toList st) 6 false).1, (nmV s.data.toList 0 (py2 s.data.toList st) 2 : Nat), (nmV s.data.toList 0 (py3 s.data.toList st) 2 : Nat), (nmV s.data.toList 0 (py4 s.data.toList st) 2 : Nat), (nmV s.data.toList 0 (py5 s.data.toList st) 1 : Nat)⟩) := rfl
  replace hl6 : (tkN s.data.toList 0 (py1 s.data.toList st) 6 false).1 = [] ∨ (tkN s.data.toList 0 (py1 s.data.toList st) 6 false).1.length = 6 := hl6
  clear P0 Q0 P1 Q1 P2 Q2 P3 Q3 P4 Q4 P5 Q5 P6 Q6 hb hls
  generalize (tkN s.data.toList 0 (py1 s.data.toList st) 6 false).1 = l6 at *
  generalize nmV s.data.toList 0 (py5 s.data.toList st) 1 = n5 at *
  generalize nmV s.data.toList 0 (py4 s.data.toList st) 2 = n4 at *
  generalize nmV s.data.toList 0 (py3 s.data.toList st) 2 = n3 at *
  generalize nmV s.data.toList 0 (py2 s.data.toList st) 2 = n2 at *
  generalize nmV s.data.toList 0 st 2 = n0 at *
  generalize (tkN s.data.toList 0 (py6 s.data.toList st) 3 false).1 = l3 at *
  generalize py7 s.data.toList st = t7 at *
  generalize py6 s.data.toList st = t6 at *
  generalize py5 s.data.toList st = t5 at *
  generalize py4 s.data.toList st = t4 at *
  generalize py3 s.data.toList st = t3 at *
  generalize py2 s.data.toList st = t2 at *
  generalize py1 s.data.toList st = t1 at *
  have hb6 := Lib.hid (bytes6 hl6)
  have R1 := Blk.new w 25 (pyC zPy)
  have H1 := h.al (.cells (pyC zPy) 25)
  have G1 : w.grownBy (w.alloc (.cells (pyC zPy) 25)) (some g) := World.grownBy_alloc w _ _
  clear h
  go_enter Tryd.func36, Tryd.ntmps36
  go_wp2_with (refine alloc_blk 25 (pyC zPy) (by rfl) rfl Tryd.pyZero ?_)
  generalize w.alloc (.cells (pyC zPy) 25) = w1 at *
  refine (N1.out H1).mono ?_
  rintro e w2 ⟨rfl, H2, g2⟩
  have R2 := R1.grown g2 (by simp; omega)
  have G2 := grown_same G1 g2
  clear R1 H1 G1 g2
  have lt2 : w.heap.size < w2.heap.size := R2.lt
  have hg2 := H2.lt
  go_wp2_with (first
    | (refine build_blk (t := 25) (pyC ⟨(n0 : Nat), z6, 0, 0, 0, 0⟩) (by rfl) rfl (by kernel_rfl) ?_)
    | (refine alloc_blk 25 (pyC zPy) (by rfl) rfl Tryd.pyZero ?_)
    | (refine store_blk (k := 0) 25 (.agg (pyC ⟨(n0 : Nat), z6, 0, 0, 0, 0⟩)) (pyC ⟨(n0 : Nat), z6, 0, 0, 0, 0⟩) (by rfl) rfl rfl rfl (Blk.new w2 _ _) (by kernel_rfl) (show (11 : Nat) ≤ 11 from Nat.le_refl 11) (by rfl) rfl ?_; intro w3 V3 b3 g3; have R3 := (R2.alloc (.cells (pyC zPy) 25)).below b3 lt2; have H3 := (H2.al (.cells (pyC zPy) 25)).other (Blk.new w2 _ _) (by decide) (by decide) g3; have G3 := grown_own (grown_same G2 (World.grownBy_alloc w2 (.cells (pyC zPy) 25) (some g))) g3 (by omega)))
  (try simp only [Act.put, List.setIfInBounds_toArray, List.set_cons_zero, List.set_cons_succ])
  clear R2 H2 G2 b3 g3
  generalize w2.heap.size = A at *
  have hgA : g ≠ A := by omega
  have hgR : g ≠ w.heap.size := by omega
  have hAR : w.heap.size < A := lt2
  clear lt2 hg2
  refine wp_region_noPanic ?_
  refine wp_region_held_drew (S := (fun _ => True)) (by kernel_rfl) ?_ (fun hHeld => ?_)
  · exact trivial
  refine wpAnyH_take (i := 0) (v := ?_) rfl (by kernel_rfl) (by kernel_rfl) (by kernel_rfl) (fun _ _ _ h => h) (Or.inl ⟨by rfl, ?_⟩) (by assumption) ?_
  rotate_left
  · (intro w hSw; (try dsimp only at hSw); go_simp; (try with_reducible rfl))
  (try simp only [Act.put, List.getElem_toArray, List.getElem_cons_zero, List.getElem_cons_succ, List.setIfInBounds_toArray, List.set_cons_zero, List.set_cons_succ])
  refine wpAnyH_take (i := 1) (v := ?_) rfl (by kernel_rfl) (by kernel_rfl) (by kernel_rfl) (fun _ _ _ h => h) (Or.inl ⟨by rfl, ?_⟩) (by assumption) ?_
  rotate_left
  · (intro w hSw; (try dsimp only at hSw); go_simp; (try with_reducible rfl))
  (try simp only [Act.put, List.getElem_toArray, List.getElem_cons_zero, List.getElem_cons_succ, List.setIfInBounds_toArray, List.set_cons_zero, List.set_cons_succ])
  refine wpAnyH_take (i := 2) (v := ?_) rfl (by kernel_rfl) (by kernel_rfl) (by kernel_rfl) (fun _ _ _ h => h) (Or.inl ⟨by rfl, ?_⟩) (by assumption) ?_
  rotate_left
  · (intro w hSw; (try dsimp only at hSw); go_simp; (try with_reducible rfl))
  (try simp only [Act.put, List.getElem_toArray, List.getElem_cons_zero, List.getElem_cons_succ, List.setIfInBounds_toArray, List.set_cons_zero, List.set_cons_succ])
  refine wpAnyH_ready (rs := [3]) (by kernel_rfl) (by simp) ?_
  refine AllReadyH.cons rfl (fun K hK => ?_) AllReadyH.nil
  simp only [List.getElem_toArray, List.getElem_cons_zero, List.getElem_cons_succ]
  go_simp
  go_at_call 38; (refine (N2.out H3.drew).mono ?_); rintro e w4 ⟨rfl, H4, g4⟩; have V4 := V3.drew.grown g4 (by simpa using Ne.symm hgA); have R4 := R3.drew.grown g4 (by simpa using Ne.symm hgR); have G4 := grown_same (rdT_drew G3) g4
  refine hK.out _ _ ?_ (fun hHeld => ?_)
  · exact trivial
  clear hK K
  (try simp only [Act.put, List.getElem_toArray, List.getElem_cons_zero, List.getElem_cons_succ, List.setIfInBounds_toArray, List.set_cons_zero, List.set_cons_succ])
  refine wpAnyH_ready (rs := [4]) (by kernel_rfl) (by simp) ?_
  refine AllReadyH.cons rfl (fun K hK => ?_) AllReadyH.nil
  simp only [List.getElem_toArray, List.getElem_cons_zero, List.getElem_cons_succ]
  rw [if_pos (by rfl)]
  refine wp_copy_text ⟨l6.toArray⟩ (pyC ⟨(n0 : Nat), byX l6, 0, 0, 0, 0⟩) 5 rfl rfl rfl V4 Tryd.underlying50 (by kernel_rfl) (by exact hb6.out) (by have q := hb6.out; show 1 + _ ≤ 11; omega) ?_ (fun w5 V5 b5 g5 => ?_)
  · exact pyCopy _ _ _ _ _ l6 hl6
  have H5 := H4.other V4 (by decide) (by decide) g5
  have R5 := R4.grown g5 (by simp; omega)
  have G5 := grown_own G4 g5 (by omega)
  refine hK.out _ _ ?_ (fun hHeld => ?_)
  · exact trivial
  clear hK K
  (try simp only [Act.put, List.getElem_toArray, List.getElem_cons_zero, List.getElem_cons_succ, List.setIfInBounds_toArray, List.set_cons_zero, List.set_cons_succ])
  refine wpAnyH_done (by kernel_rfl) ?_ _
  refine NoPanic.normal ?_
  clear V3 H3 R3 G3 V4 H4 R4 G4 g4 b5 g5 hHeld
  go_wp2_with fail
  refine (N3.out H5).mono ?_
  rintro e w6 ⟨rfl, H6, g6⟩
  have V6 := V5.grown g6 (by simpa using Ne.symm hgA)
  have R6 := R5.grown g6 (by simpa using Ne.symm hgR)
  have G6 := grown_same G5 g6
  clear V5 H5 R5 G5 g6
  go_wp2_with fail
  refine (N4.out H6).mono ?_
  rintro e w7 ⟨rfl, H7, g7⟩
  have V7 := V6.grown g7 (by simpa using Ne.symm hgA)
  have R7 := R6.grown g7 (by simpa using Ne.symm hgR)
  have G7 := grown_same G6 g7
  clear V6 H6 R6 G6 g7
  go_wp2_with fail
  refine (N5.out H7).mono ?_
  rintro e w8 ⟨rfl, H8, g8⟩
  have V8 := V7.grown g8 (by simpa using Ne.symm hgA)
  have R8 := R7.grown g8 (by simpa using Ne.symm hgR)
  have G8 := grown_same G7 g8
  clear V7 H7 R7 G7 g8
  go_wp2_with (first
    | (refine store_blk (k := 7) 3 (.int .i64 (n2 : Nat)) (pyC ⟨(n0 : Nat), byX l6, (n2 : Nat), 0, 0, 0⟩) (by rfl) rfl rfl rfl V8 (by kernel_rfl) (show (7 + 1 : Nat) ≤ 11 by decide) (by rfl) rfl ?_; intro w9 V9 b9 g9; have H9 := H8.other V8 (by decide) (by decide) g9; have R9 := R8.grown g9 (by simp; omega); have G9 := grown_own G8 g9 (by omega))
    | (refine store_blk (k := 8) 3 (.int .i64 (n3 : Nat)) (pyC ⟨(n0 : Nat), byX l6, (n2 : Nat), (n3 : Nat), 0, 0⟩) (by rfl) rfl rfl rfl V9 (by kernel_rfl) (show (8 + 1 : Nat) ≤ 11 by decide) (by rfl) rfl ?_; intro w10 V10 b10 g10; have H10 := H9.other V9 (by decide) (by decide) g10; have R10 := R9.grown g10 (by simp; omega); have G10 := grown_own G9 g10 (by omega))
    | (refine store_blk (k := 9) 3 (.int .i64 (n4 : Nat)) (pyC ⟨(n0 : Nat), byX l6, (n2 : Nat), (n3 : Nat), (n4 : Nat), 0⟩) (by rfl) rfl rfl rfl V10 (by kernel_rfl) (show (9 + 1 : Nat) ≤ 11 by decide) (by rfl) rfl ?_; intro w11 V11 b11 g11; have H11 := H10.other V10 (by decide) (by decide) g11; have R11 := R10.grown g11 (by simp; omega); have G11 := grown_own G10 g11 (by omega)))
  clear V8 H8 R8 G8 V9 H9 R9 G9 V10 H10 R10 G10 b9 g9 b10 g10 b11 g11
  refine (N6.out H11).mono ?_
  rintro e w12 ⟨rfl, H12, g12⟩
  have V12 := V11.grown g12 (by simpa using Ne.symm hgA)
  have R12 := R11.grown g12 (by simpa using Ne.symm hgR)
  have G12 := grown_same G11 g12
  clear V11 H11 R11 G11 g12
  go_wp2_with (refine store_blk (k := 10) 3 (.int .i64 (n5 : Nat)) (pyC ⟨(n0 : Nat), byX l6, (n2 : Nat), (n3 : Nat), (n4 : Nat), (n5 : Nat)⟩) (by rfl) rfl rfl rfl V12 (by kernel_rfl) (show (10 + 1 : Nat) ≤ 11 by decide) (by rfl) rfl ?_; intro w13 V13 b13 g13; have H13 := H12.other V12 (by decide) (by decide) g13; have R13 := R12.grown g13 (by simp; omega); have G13 := grown_own G12 g13 (by omega))
  clear V12 H12 R12 G12 b13 g13
  refine (N7.out H13).mono ?_
  rintro e w14 ⟨rfl, H14, g14⟩
  have V14 := V13.grown g14 (by simpa using Ne.symm hgA)
  have R14 := R13.grown g14 (by simpa using Ne.symm hgR)
  have G14 := grown_same G13 g14
  clear V13 H13 R13 G13 g14
  go_wp2_with (first
    | (refine load_blk (k := 0) 25 (pyC ⟨(n0 : Nat), byX l6, (n2 : Nat), (n3 : Nat), (n4 : Nat), (n5 : Nat)⟩) (by rfl) rfl rfl V14 (by kernel_rfl) (by kernel_rfl) rfl ?_)
    | (refine store_blk (k := 0) 25 (.agg (pyC ⟨(n0 : Nat), byX l6, (n2 : Nat), (n3 : Nat), (n4 : Nat), (n5 : Nat)⟩)) (pyC ⟨(n0 : Nat), byX l6, (n2 : Nat), (n3 : Nat), (n4 : Nat), (n5 : Nat)⟩) (by rfl) rfl rfl rfl R14 (by kernel_rfl) (show (11 : Nat) ≤ 11 from Nat.le_refl 11) (by rfl) rfl ?_; intro wz RZ bz gz; have HZ := H14.other R14 (by decide) (by decide) gz; have GZ := grown_own G14 gz (Nat.le_refl _)))
  exact bodyPost_ret (results_blk rfl rfl RZ (by kernel_rfl) (by kernel_rfl)) rfl ⟨by rw [HV.out], HZ, GZ⟩

theorem readEnd_t {g : Nat} {s : ByteArray} (n : Nat) (hn : n ≤ 200) (st : RSt) (w : World) (h : RdT w g s 0 st) (P0 : st.1 ≤ s.size) (hb : 0 + s.size ≤ 281474976710656) :
    Calls Tryd.prog 39 #[.pointer (some ⟨g, 0, none⟩), .int .i64 n] w fun e w' => e = .returned (.bool (zrR s.data.toList 0 (tkN s.data.toList 0 (exS s.data.toList st [0, 0]) n false).2).1) ∧ RdT w' g s 0 (zrR s.data.toList 0 (tkN s.data.toList 0 (exS s.data.toList st [0, 0]) n false).2).2 ∧ w.grownBy w' (some g) := by
  have hls : s.data.toList.length = s.size := by simp
  have Q0 : st.1 ≤ s.data.toList.length := by omega
  have Q1 : (exS s.data.toList st [0, 0]).1 ≤ s.data.toList.length := exS_le _ _ _ Q0
  have Q2 : (tkN s.data.toList 0 (exS s.data.toList st [0, 0]) n false).2.1 ≤ s.data.toList.length := tkN_le _ _ _ _ _ Q1
  rw [hls] at Q1 Q2
  have N1 : Hid (∀ {W : World}, RdT W g s 0 st → Calls Tryd.prog 35 #[.pointer (some ⟨g, 0, none⟩), .string ⟨#[0, 0]⟩, .slice none 0 0] W fun e w' => e = .returned (.string ⟨(exV s.data.toList st [0, 0]).toArray⟩) ∧ RdT w' g s 0 (exS s.data.toList st [0, 0]) ∧ W.grownBy w' (some g)) := fun {W} h => exp_t ⟨#[0, 0]⟩ (by decide) st W h P0 hb
  have N2 : Hid (∀ {W : World}, RdT W g s 0 (exS s.data.toList st [0, 0]) → Calls Tryd.prog 38 #[.pointer (some ⟨g, 0, none⟩), .int .i64 n] W fun e w' => e = .returned (.string ⟨(tkN s.data.toList 0 (exS s.data.toList st [0, 0]) n false).1.toArray⟩) ∧ RdT w' g s 0 (tkN s.data.toList 0 (exS s.data.toList st [0, 0]) n false).2 ∧ W.grownBy w' (some g)) := fun {W} h => bytes_t _ (n : Int) W h Q1 hb
  have N3 : Hid (∀ {W : World}, RdT W g s 0 (tkN s.data.toList 0 (exS s.data.toList st [0, 0]) n false).2 → Calls Tryd.prog 51 #[.pointer (some ⟨g, 0, none⟩)] W fun e w' => e = .returned (.bool (zrR s.data.toList 0 (tkN s.data.toList 0 (exS s.data.toList st [0, 0]) n false).2).1) ∧ RdT w' g s 0 (zrR s.data.toList 0 (tkN s.data.toList 0 (exS s.data.toList st [0, 0]) n false).2).2 ∧ W.grownBy w' (some g)) := fun {W} h => zeros_t _ W h Q2 hb
  clear Q0 Q1 Q2 P0 hls hn
  generalize exV s.data.toList st [0, 0] = v1 at *
  generalize (tkN s.data.toList 0 (exS s.data.toList st [0, 0]) n false).2 = t2 at *
  generalize (tkN s.data.toList 0 (exS s.data.toList st [0, 0]) n false).1 = v2 at *
  generalize exS s.data.toList st [0, 0] = t1 at *
  generalize (zrR s.data.toList 0 t2).2 = t3 at *
  generalize (zrR s.data.toList 0 t2).1 = v3 at *
  go_enter Tryd.func39, Tryd.ntmps39
  go_wp2_with fail
  refine (N1.out h).mono ?_
  rintro e w2 ⟨rfl, H2, g2⟩
  go_wp2_with fail
  refine (N2.out H2).mono ?_
  rintro e w3 ⟨rfl, H3, g3⟩
  go_wp2_with fail
  refine (N3.out H3).mono ?_
  rintro e w4 ⟨rfl, H4, g4⟩
  go_wp2
  go_ret
  exact ⟨rfl, H4, grown_same (grown_same g2 g3) g4⟩

end Go.Proofs.YtocgnbbnaamjjaaDoor
