/- lacp.Read at every text. -/
import Derived.Test.YtocgnbbnaamjjaaDoorLcParty
namespace Go.Proofs.YtocgnbbnaamjjaaDoor
open Go.RowKit
attribute [local go_sem ↓] Go.wp_at_zero Go.wp_at_succ
set_option linter.unusedSimpArgs false
set_option linter.unusedVariables false
set_option maxRecDepth 100000

theorem st_wholeL (Z : Array Value) (X : Array Value) (h : Z.size = X.size) : (Z.toList.take 0 ++ (Value.agg X).cells.toList ++ Z.toList.drop (0 + (Value.agg X).cells.toList.length)).toArray = X := by
  have : (Value.agg X).cells = X := rfl
  rw [this]
  apply Array.toList_inj.1
  simp [h]

set_option maxHeartbeats 6400000 in
theorem lcRead_ok (s : ByteArray) (w : World) (hs : s.size ≤ 100000) (h0 : allP s.data.toList lcSt = none) :
    Calls Tryd.prog 21 #[.string s] w fun e w' => e = .returned (.tuple #[.agg (lcC (lcAt s.data.toList)), .nilIface]) ∧ Below w.heap.size w w' := by
  have hb : 0 + s.size ≤ 281474976710656 := by omega
  have hls : s.data.toList.length = s.size := by simp
  have hz : (zrR s.data.toList 0 (lc10 s.data.toList)).1 = true ∧ rdLc s.data.toList = lcAt s.data.toList := by
    rcases all_ans s.data.toList lcSt lcSt_ok with ⟨h1, h2, h3, h4, h5⟩ | ⟨e, x, h1, h2⟩
    · rw [← lc_run, h5]
      exact ⟨rfl, (lc_vals _ h4 h3).1⟩
    · rw [h0] at h1
      cases h1
  obtain ⟨hz, hv⟩ := hz
  rw [← hv]
  have Q1 : (lc1 s.data.toList).1 ≤ s.data.toList.length := exS_le _ _ _ (Nat.zero_le _)
  have Q2 : (lc2 s.data.toList).1 ≤ s.data.toList.length := exS_le _ _ _ Q1
  have Q3 : (lc3 s.data.toList).1 ≤ s.data.toList.length := py7_le _ _ Q2
  have Q4 : (lc4 s.data.toList).1 ≤ s.data.toList.length := exS_le _ _ _ Q3
  have Q5 : (lc5 s.data.toList).1 ≤ s.data.toList.length := py7_le _ _ Q4
  have Q6 : (lc6 s.data.toList).1 ≤ s.data.toList.length := exS_le _ _ _ Q5
  have Q7 : (lc7 s.data.toList).1 ≤ s.data.toList.length := nmS_le _ _ _ _ Q6
  have Q8 : (lc8 s.data.toList).1 ≤ s.data.toList.length := tkN_le _ _ _ _ _ Q7
  have P1 := Q1
  rw [hls] at P1
  have P2 := Q2
  rw [hls] at P2
  have P3 := Q3
  rw [hls] at P3
  have P4 := Q4
  rw [hls] at P4
  have P5 := Q5
  rw [hls] at P5
  have P6 := Q6
  rw [hls] at P6
  have P7 := Q7
  rw [hls] at P7
  have P8 := Q8
  rw [hls] at P8
  have HX1 : Hid (∀ {g : Nat} {W : World}, RdT W g s 0 (0, 0, -1) → Calls Tryd.prog 35 #[.pointer (some ⟨g, 0, none⟩), .string ⟨#[1, 1]⟩, .slice none 0 0] W fun e w' => e = .returned (.string ⟨(exV s.data.toList (0, 0, -1) [1, 1]).toArray⟩) ∧ RdT w' g s 0 (lc1 s.data.toList) ∧ W.grownBy w' (some g)) := fun {g W} h => exp_t ⟨#[1, 1]⟩ (by decide) _ W h (Nat.zero_le _) hb
  have HX2 : Hid (∀ {g : Nat} {W : World}, RdT W g s 0 (lc1 s.data.toList) → Calls Tryd.prog 35 #[.pointer (some ⟨g, 0, none⟩), .string ⟨#[1, 20]⟩, .slice none 0 0] W fun e w' => e = .returned (.string ⟨(exV s.data.toList (lc1 s.data.toList) [1, 20]).toArray⟩) ∧ RdT w' g s 0 (lc2 s.data.toList) ∧ W.grownBy w' (some g)) := fun {g W} h => exp_t ⟨#[1, 20]⟩ (by decide) _ W h P1 hb
  have HX3 : Hid (∀ {g : Nat} {W : World}, RdT W g s 0 (lc2 s.data.toList) → Calls Tryd.prog 36 #[.pointer (some ⟨g, 0, none⟩)] W fun e w' => e = .returned (.agg (pyC (rdPy s.data.toList (lc2 s.data.toList)))) ∧ RdT w' g s 0 (lc3 s.data.toList) ∧ W.grownBy w' (some g)) := fun {g W} h => readParty_t _ W h P2 hb
  have HX4 : Hid (∀ {g : Nat} {W : World}, RdT W g s 0 (lc3 s.data.toList) → Calls Tryd.prog 35 #[.pointer (some ⟨g, 0, none⟩), .string ⟨#[2, 20]⟩, .slice none 0 0] W fun e w' => e = .returned (.string ⟨(exV s.data.toList (lc3 s.data.toList) [2, 20]).toArray⟩) ∧ RdT w' g s 0 (lc4 s.data.toList) ∧ W.grownBy w' (some g)) := fun {g W} h => exp_t ⟨#[2, 20]⟩ (by decide) _ W h P3 hb
  have HX5 : Hid (∀ {g : Nat} {W : World}, RdT W g s 0 (lc4 s.data.toList) → Calls Tryd.prog 36 #[.pointer (some ⟨g, 0, none⟩)] W fun e w' => e = .returned (.agg (pyC (rdPy s.data.toList (lc4 s.data.toList)))) ∧ RdT w' g s 0 (lc5 s.data.toList) ∧ W.grownBy w' (some g)) := fun {g W} h => readParty_t _ W h P4 hb
  have HX6 : Hid (∀ {g : Nat} {W : World}, RdT W g s 0 (lc5 s.data.toList) → Calls Tryd.prog 35 #[.pointer (some ⟨g, 0, none⟩), .string ⟨#[3, 16]⟩, .slice none 0 0] W fun e w' => e = .returned (.string ⟨(exV s.data.toList (lc5 s.data.toList) [3, 16]).toArray⟩) ∧ RdT w' g s 0 (lc6 s.data.toList) ∧ W.grownBy w' (some g)) := fun {g W} h => exp_t ⟨#[3, 16]⟩ (by decide) _ W h P5 hb
  have HX7 : Hid (∀ {g : Nat} {W : World}, RdT W g s 0 (lc6 s.data.toList) → Calls Tryd.prog 37 #[.pointer (some ⟨g, 0, none⟩), .int .i64 2] W fun e w' => e = .returned (.int .i64 (nmV s.data.toList 0 (lc6 s.data.toList) 2 : Nat)) ∧ RdT w' g s 0 (lc7 s.data.toList) ∧ W.grownBy w' (some g)) := fun {g W} h => numK_t _ 2 (by decide) W h P6 hb
  have HX8 : Hid (∀ {g : Nat} {W : World}, RdT W g s 0 (lc7 s.data.toList) → Calls Tryd.prog 38 #[.pointer (some ⟨g, 0, none⟩), .int .i64 12] W fun e w' => e = .returned (.string ⟨(tkN s.data.toList 0 (lc7 s.data.toList) 12 false).1.toArray⟩) ∧ RdT w' g s 0 (lc8 s.data.toList) ∧ W.grownBy w' (some g)) := fun {g W} h => bytes_t _ 12 W h P7 hb
  have HX9 : Hid (∀ {g : Nat} {W : World}, RdT W g s 0 (lc8 s.data.toList) → Calls Tryd.prog 39 #[.pointer (some ⟨g, 0, none⟩), .int .i64 50] W fun e w' => e = .returned (.bool (zrR s.data.toList 0 (lc10 s.data.toList)).1) ∧ RdT w' g s 0 (zrR s.data.toList 0 (lc10 s.data.toList)).2 ∧ W.grownBy w' (some g)) := fun {g W} h => readEnd_t 50 (by decide) _ W h P8 hb
  rw [hz] at HX9
  have HM : Hid (rdLc s.data.toList = ⟨rdPy s.data.toList (lc2 s.data.toList), rdPy s.data.toList (lc4 s.data.toList), (nmV s.data.toList 0 (lc6 s.data.toList) 2 : Nat)⟩) := rfl
  clear hls P1 Q1 P2 Q2 P3 Q3 P4 Q4 P5 Q5 P6 Q6 P7 Q7 P8 Q8 hs hb hz h0 hv
  generalize rdPy s.data.toList (lc2 s.data.toList) = pa at *
  generalize rdPy s.data.toList (lc4 s.data.toList) = pp at *
  generalize nmV s.data.toList 0 (lc6 s.data.toList) 2 = n at *
  generalize (tkN s.data.toList 0 (lc7 s.data.toList) 12 false).1 = l12 at *
  generalize exV s.data.toList (0, 0, -1) [1, 1] = v1 at *
  generalize exV s.data.toList (lc1 s.data.toList) [1, 20] = v2 at *
  generalize exV s.data.toList (lc3 s.data.toList) [2, 20] = v4 at *
  generalize exV s.data.toList (lc5 s.data.toList) [3, 16] = v6 at *
  generalize (zrR s.data.toList 0 (lc10 s.data.toList)).2 = t9 at *
  generalize lc8 s.data.toList = t8 at *
  generalize lc7 s.data.toList = t7 at *
  generalize lc6 s.data.toList = t6 at *
  generalize lc5 s.data.toList = t5 at *
  generalize lc4 s.data.toList = t4 at *
  generalize lc3 s.data.toList = t3 at *
  generalize lc2 s.data.toList = t2 at *
  generalize lc1 s.data.toList = t1 at *
  have HA1 := Blk.new w 27 (lcC zLc)
  have B1 : Below w.heap.size w (w.alloc (.cells (lcC zLc) 27)) := (Below.refl _ _).alloc (Nat.le_refl _) _
  go_enter Tryd.func21, Tryd.ntmps21
  go_upto_region 1 with (refine alloc_blk 27 (lcC zLc) (by rfl) rfl Tryd.lcZero ?_)
  generalize w.alloc (.cells (lcC zLc) 27) = w1 at *
  have hA1 := HA1.lt
  go_wp2_with fail
  refine (new_t s 0 _).mono ?_
  rintro e w2 ⟨rfl, HR2, b2⟩
  have HA2 := HA1.kept b2
  have B2 := B1.trans (b2.mono B1.size)
  have hAg : w.heap.size < w1.heap.size := hA1
  clear HA1 B1 b2
  generalize w1.heap.size = g at *
  clear hA1
  have hgV : g < w2.heap.size := HR2.lt
  have HV3 := Blk.new w2 27 (lcC zLc)
  have HA3 := HA2.alloc (.cells (lcC zLc) 27)
  have HR3 := HR2.al (.cells (lcC zLc) 27)
  have B3 := B2.alloc B2.size (.cells (lcC zLc) 27)
  go_wp2_with (refine alloc_blk 27 (lcC zLc) (by rfl) rfl Tryd.lcZero ?_)
  generalize w2.alloc (.cells (lcC zLc) 27) = w3 at *
  clear HA2 HR2 B2
  generalize w2.heap.size = V at *
  refine (HX1.out HR3).mono ?_
  rintro e w4 ⟨rfl, HR4, g4⟩
  have HA4 := HA3.grown g4 (by simp; omega)
  have HV4 := HV3.grown g4 (by simp; omega)
  have B4 := grown_belowA B3 g4 B3.size (by omega)
  clear HR3 HA3 HV3 B3 g4
  go_wp2_with fail
  refine (HX2.out HR4).mono ?_
  rintro e w5 ⟨rfl, HR5, g5⟩
  have HA5 := HA4.grown g5 (by simp; omega)
  have HV5 := HV4.grown g5 (by simp; omega)
  have B5 := grown_belowA B4 g5 B4.size (by omega)
  clear HR4 HA4 HV4 B4 g5
  go_wp2_with fail
  refine (HX3.out HR5).mono ?_
  rintro e w6 ⟨rfl, HR6, g6⟩
  have HA6 := HA5.grown g6 (by simp; omega)
  have HV6 := HV5.grown g6 (by simp; omega)
  have B6 := grown_belowA B5 g6 B5.size (by omega)
  clear HR5 HA5 HV5 B5 g6
  go_wp2_with (refine store_blk (k := 0) 25 (.agg (pyC pa)) (lcC ⟨pa, zPy, 0⟩) (by rfl) rfl rfl rfl HV6 (by kernel_rfl) (show (0 + 11 : Nat) ≤ 23 by decide) (by rfl) rfl ?_; intro w7 HV7 b7 g7; have HA7 := HA6.below b7 (by omega); have HR7 := HR6.other HV6 (by decide) (by decide) g7; have B7 := B6.trans (b7.mono (by omega)))
  clear HR6 HA6 HV6 B6 b7 g7
  refine (HX4.out HR7).mono ?_
  rintro e w8 ⟨rfl, HR8, g8⟩
  have HA8 := HA7.grown g8 (by simp; omega)
  have HV8 := HV7.grown g8 (by simp; omega)
  have B8 := grown_belowA B7 g8 B7.size (by omega)
  clear HR7 HA7 HV7 B7 g8
  go_wp2_with fail
  refine (HX5.out HR8).mono ?_
  rintro e w9 ⟨rfl, HR9, g9⟩
  have HA9 := HA8.grown g9 (by simp; omega)
  have HV9 := HV8.grown g9 (by simp; omega)
  have B9 := grown_belowA B8 g9 B8.size (by omega)
  clear HR8 HA8 HV8 B8 g9
  go_wp2_with (refine store_blk (k := 11) 25 (.agg (pyC pp)) (lcC ⟨pa, pp, 0⟩) (by rfl) rfl rfl rfl HV9 (by kernel_rfl) (show (11 + 11 : Nat) ≤ 23 by decide) (by rfl) rfl ?_; intro w10 HV10 b10 g10; have HA10 := HA9.below b10 (by omega); have HR10 := HR9.other HV9 (by decide) (by decide) g10; have B10 := B9.trans (b10.mono (by omega)))
  clear HR9 HA9 HV9 B9 b10 g10
  refine (HX6.out HR10).mono ?_
  rintro e w11 ⟨rfl, HR11, g11⟩
  have HA11 := HA10.grown g11 (by simp; omega)
  have HV11 := HV10.grown g11 (by simp; omega)
  have B11 := grown_belowA B10 g11 B10.size (by omega)
  clear HR10 HA10 HV10 B10 g11
  go_wp2_with fail
  refine (HX7.out HR11).mono ?_
  rintro e w12 ⟨rfl, HR12, g12⟩
  have HA12 := HA11.grown g12 (by simp; omega)
  have HV12 := HV11.grown g12 (by simp; omega)
  have B12 := grown_belowA B11 g12 B11.size (by omega)
  clear HR11 HA11 HV11 B11 g12
  go_wp2_with (refine store_blk (k := 22) 3 (.int .i64 (n : Nat)) (lcC ⟨pa, pp, (n : Nat)⟩) (by rfl) rfl rfl rfl HV12 (by kernel_rfl) (show (22 + 1 : Nat) ≤ 23 by decide) (by rfl) rfl ?_; intro w13 HV13 b13 g13; have HA13 := HA12.below b13 (by omega); have HR13 := HR12.other HV12 (by decide) (by decide) g13; have B13 := B12.trans (b13.mono (by omega)))
  clear HR12 HA12 HV12 B12 b13 g13
  refine (HX8.out HR13).mono ?_
  rintro e w14 ⟨rfl, HR14, g14⟩
  have HA14 := HA13.grown g14 (by simp; omega)
  have HV14 := HV13.grown g14 (by simp; omega)
  have B14 := grown_belowA B13 g14 B13.size (by omega)
  clear HR13 HA13 HV13 B13 g14
  go_wp2_with fail
  refine (HX9.out HR14).mono ?_
  rintro e w15 ⟨rfl, HR15, g15⟩
  have HA15 := HA14.grown g15 (by simp; omega)
  have HV15 := HV14.grown g15 (by simp; omega)
  have B15 := grown_belowA B14 g15 B14.size (by omega)
  clear HR14 HA14 HV14 B14 g15
  go_wp2_with (first
    | (refine load_blk (k := 0) 27 (lcC ⟨pa, pp, (n : Nat)⟩) (by rfl) rfl rfl HV15 (by kernel_rfl) (by kernel_rfl) rfl ?_)
    | (refine store_blk (k := 0) 27 (.agg (lcC ⟨pa, pp, (n : Nat)⟩)) (lcC ⟨pa, pp, (n : Nat)⟩) (by rfl) rfl rfl rfl HA15 (by kernel_rfl) (show (23 : Nat) ≤ 23 from Nat.le_refl 23) (by rfl) (st_wholeL _ _ rfl) ?_; intro wz HZ bz gz; have BZ := B15.trans bz))
  exact bodyPost_ret (results_blk_tmp rfl rfl HZ (by kernel_rfl) (by kernel_rfl)) rfl ⟨by rw [HM.out]; rfl, BZ⟩

set_option maxHeartbeats 6400000 in
theorem lcRead_bad (s : ByteArray) (w : World) (hs : s.size ≤ 100000) (e0 : Int) (x0 : Nat) (h0 : allP s.data.toList lcSt = some (e0, x0)) :
    Calls Tryd.prog 21 #[.string s] w (ReadsAs (lcC zLc) e0 x0 w) := by
  have hb : 0 + s.size ≤ 281474976710656 := by omega
  have hls : s.data.toList.length = s.size := by simp
  have hz : e0 ≠ 0 ∧ (zrR s.data.toList 0 (lc10 s.data.toList)).1 = false ∧ (zrR s.data.toList 0 (lc10 s.data.toList)).2.2 = (e0, (x0 : Int)) := by
    rcases all_ans s.data.toList lcSt lcSt_ok with ⟨h1, _⟩ | ⟨e, x, h1, h2, h3, h4⟩
    · rw [h0] at h1
      cases h1
    · rw [h0] at h1
      obtain ⟨rfl, rfl⟩ : e0 = e ∧ x0 = x := by simpa using h1
      rw [← lc_run]
      exact ⟨h2, h3, h4⟩
  obtain ⟨he, hz, hF0⟩ := hz
  have Q1 : (lc1 s.data.toList).1 ≤ s.data.toList.length := exS_le _ _ _ (Nat.zero_le _)
  have Q2 : (lc2 s.data.toList).1 ≤ s.data.toList.length := exS_le _ _ _ Q1
  have Q3 : (lc3 s.data.toList).1 ≤ s.data.toList.length := py7_le _ _ Q2
  have Q4 : (lc4 s.data.toList).1 ≤ s.data.toList.length := exS_le _ _ _ Q3
  have Q5 : (lc5 s.data.toList).1 ≤ s.data.toList.length := py7_le _ _ Q4
  have Q6 : (lc6 s.data.toList).1 ≤ s.data.toList.length := exS_le _ _ _ Q5
  have Q7 : (lc7 s.data.toList).1 ≤ s.data.toList.length := nmS_le _ _ _ _ Q6
  have Q8 : (lc8 s.data.toList).1 ≤ s.data.toList.length := tkN_le _ _ _ _ _ Q7
  have P1 := Q1
  rw [hls] at P1
  have P2 := Q2
  rw [hls] at P2
  have P3 := Q3
  rw [hls] at P3
  have P4 := Q4
  rw [hls] at P4
  have P5 := Q5
  rw [hls] at P5
  have P6 := Q6
  rw [hls] at P6
  have P7 := Q7
  rw [hls] at P7
  have P8 := Q8
  rw [hls] at P8
  have HX1 : Hid (∀ {g : Nat} {W : World}, RdT W g s 0 (0, 0, -1) → Calls Tryd.prog 35 #[.pointer (some ⟨g, 0, none⟩), .string ⟨#[1, 1]⟩, .slice none 0 0] W fun e w' => e = .returned (.string ⟨(exV s.data.toList (0, 0, -1) [1, 1]).toArray⟩) ∧ RdT w' g s 0 (lc1 s.data.toList) ∧ W.grownBy w' (some g)) := fun {g W} h => exp_t ⟨#[1, 1]⟩ (by decide) _ W h (Nat.zero_le _) hb
  have HX2 : Hid (∀ {g : Nat} {W : World}, RdT W g s 0 (lc1 s.data.toList) → Calls Tryd.prog 35 #[.pointer (some ⟨g, 0, none⟩), .string ⟨#[1, 20]⟩, .slice none 0 0] W fun e w' => e = .returned (.string ⟨(exV s.data.toList (lc1 s.data.toList) [1, 20]).toArray⟩) ∧ RdT w' g s 0 (lc2 s.data.toList) ∧ W.grownBy w' (some g)) := fun {g W} h => exp_t ⟨#[1, 20]⟩ (by decide) _ W h P1 hb
  have HX3 : Hid (∀ {g : Nat} {W : World}, RdT W g s 0 (lc2 s.data.toList) → Calls Tryd.prog 36 #[.pointer (some ⟨g, 0, none⟩)] W fun e w' => e = .returned (.agg (pyC (rdPy s.data.toList (lc2 s.data.toList)))) ∧ RdT w' g s 0 (lc3 s.data.toList) ∧ W.grownBy w' (some g)) := fun {g W} h => readParty_t _ W h P2 hb
  have HX4 : Hid (∀ {g : Nat} {W : World}, RdT W g s 0 (lc3 s.data.toList) → Calls Tryd.prog 35 #[.pointer (some ⟨g, 0, none⟩), .string ⟨#[2, 20]⟩, .slice none 0 0] W fun e w' => e = .returned (.string ⟨(exV s.data.toList (lc3 s.data.toList) [2, 20]).toArray⟩) ∧ RdT w' g s 0 (lc4 s.data.toList) ∧ W.grownBy w' (some g)) := fun {g W} h => exp_t ⟨#[2, 20]⟩ (by decide) _ W h P3 hb
  have HX5 : Hid (∀ {g : Nat} {W : World}, RdT W g s 0 (lc4 s.data.toList) → Calls Tryd.prog 36 #[.pointer (some ⟨g, 0, none⟩)] W fun e w' => e = .returned (.agg (pyC (rdPy s.data.toList (lc4 s.data.toList)))) ∧ RdT w' g s 0 (lc5 s.data.toList) ∧ W.grownBy w' (some g)) := fun {g W} h => readParty_t _ W h P4 hb
  have HX6 : Hid (∀ {g : Nat} {W : World}, RdT W g s 0 (lc5 s.data.toList) → Calls Tryd.prog 35 #[.pointer (some ⟨g, 0, none⟩), .string ⟨#[3, 16]⟩, .slice none 0 0] W fun e w' => e = .returned (.string ⟨(exV s.data.toList (lc5 s.data.toList) [3, 16]).toArray⟩) ∧ RdT w' g s 0 (lc6 s.data.toList) ∧ W.grownBy w' (some g)) := fun {g W} h => exp_t ⟨#[3, 16]⟩ (by decide) _ W h P5 hb
  have HX7 : Hid (∀ {g : Nat} {W : World}, RdT W g s 0 (lc6 s.data.toList) → Calls Tryd.prog 37 #[.pointer (some ⟨g, 0, none⟩), .int .i64 2] W fun e w' => e = .returned (.int .i64 (nmV s.data.toList 0 (lc6 s.data.toList) 2 : Nat)) ∧ RdT w' g s 0 (lc7 s.data.toList) ∧ W.grownBy w' (some g)) := fun {g W} h => numK_t _ 2 (by decide) W h P6 hb
  have HX8 : Hid (∀ {g : Nat} {W : World}, RdT W g s 0 (lc7 s.data.toList) → Calls Tryd.prog 38 #[.pointer (some ⟨g, 0, none⟩), .int .i64 12] W fun e w' => e = .returned (.string ⟨(tkN s.data.toList 0 (lc7 s.data.toList) 12 false).1.toArray⟩) ∧ RdT w' g s 0 (lc8 s.data.toList) ∧ W.grownBy w' (some g)) := fun {g W} h => bytes_t _ 12 W h P7 hb
  have HX9 : Hid (∀ {g : Nat} {W : World}, RdT W g s 0 (lc8 s.data.toList) → Calls Tryd.prog 39 #[.pointer (some ⟨g, 0, none⟩), .int .i64 50] W fun e w' => e = .returned (.bool (zrR s.data.toList 0 (lc10 s.data.toList)).1) ∧ RdT w' g s 0 (zrR s.data.toList 0 (lc10 s.data.toList)).2 ∧ W.grownBy w' (some g)) := fun {g W} h => readEnd_t 50 (by decide) _ W h P8 hb
  rw [hz] at HX9
  have hF := Lib.hid hF0
  clear hls P1 Q1 P2 Q2 P3 Q3 P4 Q4 P5 Q5 P6 Q6 P7 Q7 P8 Q8 hs hb hz h0 hF0
  generalize rdPy s.data.toList (lc2 s.data.toList) = pa at *
  generalize rdPy s.data.toList (lc4 s.data.toList) = pp at *
  generalize nmV s.data.toList 0 (lc6 s.data.toList) 2 = n at *
  generalize (tkN s.data.toList 0 (lc7 s.data.toList) 12 false).1 = l12 at *
  generalize exV s.data.toList (0, 0, -1) [1, 1] = v1 at *
  generalize exV s.data.toList (lc1 s.data.toList) [1, 20] = v2 at *
  generalize exV s.data.toList (lc3 s.data.toList) [2, 20] = v4 at *
  generalize exV s.data.toList (lc5 s.data.toList) [3, 16] = v6 at *
  generalize (zrR s.data.toList 0 (lc10 s.data.toList)).2 = t9 at *
  generalize lc8 s.data.toList = t8 at *
  generalize lc7 s.data.toList = t7 at *
  generalize lc6 s.data.toList = t6 at *
  generalize lc5 s.data.toList = t5 at *
  generalize lc4 s.data.toList = t4 at *
  generalize lc3 s.data.toList = t3 at *
  generalize lc2 s.data.toList = t2 at *
  generalize lc1 s.data.toList = t1 at *
  have HA1 := Blk.new w 27 (lcC zLc)
  have B1 : Below w.heap.size w (w.alloc (.cells (lcC zLc) 27)) := (Below.refl _ _).alloc (Nat.le_refl _) _
  go_enter Tryd.func21, Tryd.ntmps21
  go_upto_region 1 with (refine alloc_blk 27 (lcC zLc) (by rfl) rfl Tryd.lcZero ?_)
  generalize w.alloc (.cells (lcC zLc) 27) = w1 at *
  have hA1 := HA1.lt
  go_wp2_with fail
  refine (new_t s 0 _).mono ?_
  rintro e w2 ⟨rfl, HR2, b2⟩
  have HA2 := HA1.kept b2
  have B2 := B1.trans (b2.mono B1.size)
  have hAg : w.heap.size < w1.heap.size := hA1
  clear HA1 B1 b2
  generalize w1.heap.size = g at *
  clear hA1
  have hgV : g < w2.heap.size := HR2.lt
  have HV3 := Blk.new w2 27 (lcC zLc)
  have HA3 := HA2.alloc (.cells (lcC zLc) 27)
  have HR3 := HR2.al (.cells (lcC zLc) 27)
  have B3 := B2.alloc B2.size (.cells (lcC zLc) 27)
  go_wp2_with (refine alloc_blk 27 (lcC zLc) (by rfl) rfl Tryd.lcZero ?_)
  generalize w2.alloc (.cells (lcC zLc) 27) = w3 at *
  clear HA2 HR2 B2
  generalize w2.heap.size = V at *
  refine (HX1.out HR3).mono ?_
  rintro e w4 ⟨rfl, HR4, g4⟩
  have HA4 := HA3.grown g4 (by simp; omega)
  have HV4 := HV3.grown g4 (by simp; omega)
  have B4 := grown_belowA B3 g4 B3.size (by omega)
  clear HR3 HA3 HV3 B3 g4
  go_wp2_with fail
  refine (HX2.out HR4).mono ?_
  rintro e w5 ⟨rfl, HR5, g5⟩
  have HA5 := HA4.grown g5 (by simp; omega)
  have HV5 := HV4.grown g5 (by simp; omega)
  have B5 := grown_belowA B4 g5 B4.size (by omega)
  clear HR4 HA4 HV4 B4 g5
  go_wp2_with fail
  refine (HX3.out HR5).mono ?_
  rintro e w6 ⟨rfl, HR6, g6⟩
  have HA6 := HA5.grown g6 (by simp; omega)
  have HV6 := HV5.grown g6 (by simp; omega)
  have B6 := grown_belowA B5 g6 B5.size (by omega)
  clear HR5 HA5 HV5 B5 g6
  go_wp2_with (refine store_blk (k := 0) 25 (.agg (pyC pa)) (lcC ⟨pa, zPy, 0⟩) (by rfl) rfl rfl rfl HV6 (by kernel_rfl) (show (0 + 11 : Nat) ≤ 23 by decide) (by rfl) rfl ?_; intro w7 HV7 b7 g7; have HA7 := HA6.below b7 (by omega); have HR7 := HR6.other HV6 (by decide) (by decide) g7; have B7 := B6.trans (b7.mono (by omega)))
  clear HR6 HA6 HV6 B6 b7 g7
  refine (HX4.out HR7).mono ?_
  rintro e w8 ⟨rfl, HR8, g8⟩
  have HA8 := HA7.grown g8 (by simp; omega)
  have HV8 := HV7.grown g8 (by simp; omega)
  have B8 := grown_belowA B7 g8 B7.size (by omega)
  clear HR7 HA7 HV7 B7 g8
  go_wp2_with fail
  refine (HX5.out HR8).mono ?_
  rintro e w9 ⟨rfl, HR9, g9⟩
  have HA9 := HA8.grown g9 (by simp; omega)
  have HV9 := HV8.grown g9 (by simp; omega)
  have B9 := grown_belowA B8 g9 B8.size (by omega)
  clear HR8 HA8 HV8 B8 g9
  go_wp2_with (refine store_blk (k := 11) 25 (.agg (pyC pp)) (lcC ⟨pa, pp, 0⟩) (by rfl) rfl rfl rfl HV9 (by kernel_rfl) (show (11 + 11 : Nat) ≤ 23 by decide) (by rfl) rfl ?_; intro w10 HV10 b10 g10; have HA10 := HA9.below b10 (by omega); have HR10 := HR9.other HV9 (by decide) (by decide) g10; have B10 := B9.trans (b10.mono (by omega)))
  clear HR9 HA9 HV9 B9 b10 g10
  refine (HX6.out HR10).mono ?_
  rintro e w11 ⟨rfl, HR11, g11⟩
  have HA11 := HA10.grown g11 (by simp; omega)
  have HV11 := HV10.grown g11 (by simp; omega)
  have B11 := grown_belowA B10 g11 B10.size (by omega)
  clear HR10 HA10 HV10 B10 g11
  go_wp2_with fail
  refine (HX7.out HR11).mono ?_
  rintro e w12 ⟨rfl, HR12, g12⟩
  have HA12 := HA11.grown g12 (by simp; omega)
  have HV12 := HV11.grown g12 (by simp; omega)
  have B12 := grown_belowA B11 g12 B11.size (by omega)
  clear HR11 HA11 HV11 B11 g12
  go_wp2_with (refine store_blk (k := 22) 3 (.int .i64 (n : Nat)) (lcC ⟨pa, pp, (n : Nat)⟩) (by rfl) rfl rfl rfl HV12 (by kernel_rfl) (show (22 + 1 : Nat) ≤ 23 by decide) (by rfl) rfl ?_; intro w13 HV13 b13 g13; have HA13 := HA12.below b13 (by omega); have HR13 := HR12.other HV12 (by decide) (by decide) g13; have B13 := B12.trans (b13.mono (by omega)))
  clear HR12 HA12 HV12 B12 b13 g13
  refine (HX8.out HR13).mono ?_
  rintro e w14 ⟨rfl, HR14, g14⟩
  have HA14 := HA13.grown g14 (by simp; omega)
  have HV14 := HV13.grown g14 (by simp; omega)
  have B14 := grown_belowA B13 g14 B13.size (by omega)
  clear HR13 HA13 HV13 B13 g14
  go_wp2_with fail
  refine (HX9.out HR14).mono ?_
  rintro e w15 ⟨rfl, HR15, g15⟩
  have HA15 := HA14.grown g15 (by simp; omega)
  have HV15 := HV14.grown g15 (by simp; omega)
  have B15 := grown_belowA B14 g15 B14.size (by omega)
  clear HR14 HA14 HV14 B14 g15
  have hne : t9.2.1 ≠ 0 := by rw [hF.out]; exact he
  go_wp2_with (refine build_blk (t := 27) (lcC zLc) (by rfl) rfl (by kernel_rfl) ?_)
  refine (err_t t9 _ HR15 hne).mono ?_
  rintro e wy ⟨rfl, hf, by_⟩
  have HAy := HA15.kept by_
  have By := B15.trans (by_.mono B15.size)
  have hly := Below.size B15
  have hlt : w.heap.size ≠ w15.heap.size := by have := HA15.lt; omega
  rw [hF.out] at hf
  clear HR15 HA15 HV15 B15 by_ hne hF
  go_wp2_with (refine store_blk (k := 0) 27 (.agg (lcC zLc)) (lcC zLc) (by rfl) rfl rfl rfl HAy (by kernel_rfl) (show (23 : Nat) ≤ 23 from Nat.le_refl 23) (by rfl) (st_wholeL _ _ rfl) ?_; intro wz HZ bz gz; have BZ := By.trans bz)
  have hfz := hf.kept gz (by simpa using Ne.symm hlt)
  exact bodyPost_ret (results_blk_tmp rfl rfl HZ (by kernel_rfl) (by kernel_rfl)) rfl ⟨_, rfl, Or.inr ⟨he, _, rfl, hfz⟩, BZ⟩


end Go.Proofs.YtocgnbbnaamjjaaDoor
