/- The reference's cursor.body, everywhere. -/
import Derived.Test.YtjoepmfineinfaaDoorRefNames
import Derived.Test.YtjoepmfineinfaaDoorBpOf
import Derived.Test.YtjoepmfineinfaaDoorBpAt
namespace Go.Proofs.YtjoepmfineinfaaDoor
open Go.RowKit
attribute [local go_sem ↓] Go.wp_at_zero Go.wp_at_succ
set_option linter.unusedSimpArgs false
set_option linter.unusedVariables false
set_option maxRecDepth 100000

/-- What comes of it. -/
def CBody (s : ByteArray) (c p off : Nat) (k : Int) (w : World) (r : Ending) (w' : World) : Prop :=
  (∃ e x, bdE s.size p (pzAt s (p + 21)) = some (e, x) ∧ r = .panicked (Thrown e (off + x)) ∧ w.grownBy w' (some c)) ∨
  (bdE s.size p (pzAt s (p + 21)) = none ∧ r = .returned (.agg (bpC (bpAt s p k))) ∧ Cur w' c s (p + 31) off ∧ w.grownBy w' (some c))

set_option maxHeartbeats 6400000 in
theorem cbody_any {w : World} {c p off : Nat} {s : ByteArray} (k : Int) (h : Cur w c s p off) (hp : p ≤ s.size) (hb : off + s.size ≤ 281474976710656) :
    Calls Tryd.prog 51 #[.pointer (some ⟨c, 0, none⟩), .int .i64 k] w (CBody s c p off k w) := by
  have hN1 := numAt_one s p
  have HQ : Hid (∀ r w', CBody s c p off k w r w' = ((∃ e x, bdE s.size p (pzAt s (p + 21)) = some (e, x) ∧ r = .panicked (Thrown e (off + x)) ∧ w.grownBy w' (some c)) ∨
    (bdE s.size p (pzAt s (p + 21)) = none ∧ r = .returned (.agg (bpC (bpAt s p k))) ∧ Cur w' c s (p + 31) off ∧ w.grownBy w' (some c)))) := fun _ _ => rfl
  have hc := h.lt
  have HC0 : Cur (w.alloc (.cells (bpC zBp) 52)) c s p off := Blk.alloc h _
  have G0 : w.grownBy (w.alloc (.cells (bpC zBp) 52)) (some c) := World.grownBy_alloc w _ _
  clear h
  go_enter Tryd.func51, Tryd.ntmps51
  go_wp2_with (first | (refine alloc_blk 52 (bpC zBp) (by rfl) rfl Tryd.bpZero ?_) | (refine store_blk (k := 0) 3 (.int .i64 k) (bpC ⟨k, zFl, ⟨0, 0, z6b⟩, 0, ⟨0, 0, z6b⟩, 0, 0, 0, 0, 0, 0⟩) (by rfl) rfl rfl rfl (Blk.new w _ _) (by kernel_rfl) (show (0 + 1 : Nat) ≤ 31 by decide) (by rfl) rfl ?_; intro w1 HR1 b1 g1; have HC1 : Cur w1 c s p off := Blk.grown HC0 g1 (by simp; omega); have G1 := grown_own G0 g1 (Nat.le_refl _)))
  clear HC0 G0 b1 g1
  by_cases q0 : s.size < p + 1
  · refine (cnum_bad HC1 1 (by omega) (by omega) (by decide) hb).mono ?_
    rintro e w9 ⟨rfl, g9⟩
    go_wp2
    exact ⟨rfl, Or.inl ⟨7, p, by unfold bdE; simp only [if_pos q0], rfl, grown_belowT G1 g9⟩⟩
  have q0n : p + 1 ≤ s.size := by omega
  refine (cnum_ok HC1 1 (by decide) (by omega) hb).mono ?_
  rintro e w2 ⟨rfl, HC2, g2⟩
  have HR2 := HR1.grown g2 (by simp; omega)
  have G2 := grown_same G1 g2
  clear HR1 HC1 G1 g2
  go_wp2_with fail
  refine (flagsOf_any (numAt s p 1) hN1 _).mono ?_
  rintro e w3 ⟨rfl, k3⟩
  have HR3 := HR2.kept k3
  have HC3 : Cur w3 c s (p + 1) off := HC2.below k3
  have G3 := grown_belowT G2 k3
  clear HR2 HC2 G2 k3
  go_wp2_with (refine store_blk (k := 1) 46 (.agg (flC (ofF (numAt s p 1)))) (bpC ⟨k, (ofF (numAt s p 1)), ⟨0, 0, z6b⟩, 0, ⟨0, 0, z6b⟩, 0, 0, 0, 0, 0, 0⟩) (by rfl) rfl rfl rfl HR3 (by kernel_rfl) (show (1 + 7 : Nat) ≤ 31 by decide) (by rfl) rfl ?_; intro w4 HR4 b4 g4; have HC4 : Cur w4 c s (p + 1) off := Blk.grown HC3 g4 (by simp; omega); have G4 := grown_own G3 g4 (Nat.le_refl _))
  clear HR3 HC3 G3 b4 g4
  by_cases q1 : s.size < p + 3
  · refine (cbridge_bad1 HC4 (by omega) (by omega) hb).mono ?_
    rintro e w9 ⟨rfl, g9⟩
    go_wp2
    exact ⟨rfl, Or.inl ⟨7, p + 1, by unfold bdE; simp only [if_neg q0, if_pos q1], rfl, grown_same G4 g9⟩⟩
  by_cases q3 : s.size < p + 9
  · refine (cbridge_bad2 HC4 (by omega) (by omega) hb).mono ?_
    rintro e w9 ⟨rfl, g9⟩
    go_wp2
    exact ⟨rfl, Or.inl ⟨7, p + 3, by unfold bdE; simp only [if_neg q0, if_neg q1, if_pos q3], rfl, grown_same G4 g9⟩⟩
  refine (cbridge_ok HC4 (by omega) hb).mono ?_
  rintro e w5 ⟨rfl, HC5, g5⟩
  have HR5 := HR4.grown g5 (by simp; omega)
  have G5 := grown_same G4 g5
  clear HR4 HC4 G4 g5
  go_wp2_with (refine store_blk (k := 8) 48 (.agg (brC (brAt s (p + 1)))) (bpC ⟨k, (ofF (numAt s p 1)), (brAt s (p + 1)), 0, ⟨0, 0, z6b⟩, 0, 0, 0, 0, 0, 0⟩) (by rfl) rfl rfl rfl HR5 (by kernel_rfl) (show (8 + 8 : Nat) ≤ 31 by decide) (by rfl) rfl ?_; intro w6 HR6 b6 g6; have HC6 : Cur w6 c s (p + 1 + 8) off := Blk.grown HC5 g6 (by simp; omega); have G6 := grown_own G5 g6 (Nat.le_refl _))
  clear HR5 HC5 G5 b6 g6
  replace HC6 : Cur _ c s (p + 9) off := HC6
  by_cases q9 : s.size < p + 13
  · refine (cnum_bad HC6 4 (by omega) (by omega) (by decide) hb).mono ?_
    rintro e w9 ⟨rfl, g9⟩
    go_wp2
    exact ⟨rfl, Or.inl ⟨7, p + 9, by unfold bdE; simp only [if_neg q0, if_neg q1, if_neg q3, if_pos q9], rfl, grown_belowT G6 g9⟩⟩
  have q9n : p + 13 ≤ s.size := by omega
  refine (cnum_ok HC6 4 (by decide) (by omega) hb).mono ?_
  rintro e w7 ⟨rfl, HC7, g7⟩
  have HR7 := HR6.grown g7 (by simp; omega)
  have G7 := grown_same G6 g7
  clear HR6 HC6 G6 g7
  go_wp2_with (refine store_blk (k := 16) 3 (.int .i64 (numAt s (p + 9) 4 : Int)) (bpC ⟨k, (ofF (numAt s p 1)), (brAt s (p + 1)), (numAt s (p + 9) 4 : Int), ⟨0, 0, z6b⟩, 0, 0, 0, 0, 0, 0⟩) (by rfl) rfl rfl rfl HR7 (by kernel_rfl) (show (16 + 1 : Nat) ≤ 31 by decide) (by rfl) rfl ?_; intro w8 HR8 b8 g8; have HC8 : Cur w8 c s (p + 13) off := Blk.grown HC7 g8 (by simp; omega); have G8 := grown_own G7 g8 (Nat.le_refl _))
  clear HR7 HC7 G7 b8 g8
  by_cases q13 : s.size < p + 15
  · refine (cbridge_bad1 HC8 (by omega) (by omega) hb).mono ?_
    rintro e w9 ⟨rfl, g9⟩
    go_wp2
    exact ⟨rfl, Or.inl ⟨7, p + 13, by unfold bdE; simp only [if_neg q0, if_neg q1, if_neg q3, if_neg q9, if_pos q13], rfl, grown_same G8 g9⟩⟩
  by_cases q15 : s.size < p + 21
  · refine (cbridge_bad2 HC8 (by omega) (by omega) hb).mono ?_
    rintro e w9 ⟨rfl, g9⟩
    go_wp2
    exact ⟨rfl, Or.inl ⟨7, p + 15, by unfold bdE; simp only [if_neg q0, if_neg q1, if_neg q3, if_neg q9, if_neg q13, if_pos q15], rfl, grown_same G8 g9⟩⟩
  refine (cbridge_ok HC8 (by omega) hb).mono ?_
  rintro e w9 ⟨rfl, HC9, g9⟩
  have HR9 := HR8.grown g9 (by simp; omega)
  have G9 := grown_same G8 g9
  clear HR8 HC8 G8 g9
  go_wp2_with (refine store_blk (k := 17) 48 (.agg (brC (brAt s (p + 13)))) (bpC ⟨k, (ofF (numAt s p 1)), (brAt s (p + 1)), (numAt s (p + 9) 4 : Int), (brAt s (p + 13)), 0, 0, 0, 0, 0, 0⟩) (by rfl) rfl rfl rfl HR9 (by kernel_rfl) (show (17 + 8 : Nat) ≤ 31 by decide) (by rfl) rfl ?_; intro w10 HR10 b10 g10; have HC10 : Cur w10 c s (p + 13 + 8) off := Blk.grown HC9 g10 (by simp; omega); have G10 := grown_own G9 g10 (Nat.le_refl _))
  clear HR9 HC9 G9 b10 g10
  replace HC10 : Cur _ c s (p + 21) off := HC10
  by_cases q21 : s.size < p + 23
  · refine (cport_bad1 HC10 (by omega) (by omega) hb).mono ?_
    rintro e w9 ⟨rfl, g9⟩
    go_wp2
    exact ⟨rfl, Or.inl ⟨7, p + 21, by unfold bdE; simp only [if_neg q0, if_neg q1, if_neg q3, if_neg q9, if_neg q13, if_neg q15, if_pos q21], rfl, grown_same G10 g9⟩⟩
  by_cases qz : beAt s (p + 21) % 4096 = 0
  · have qz2 : pzAt s (p + 21) = true := by unfold pzAt; rw [beq_iff_eq]; exact qz
    refine (cport_bad2 HC10 (by omega) qz hb).mono ?_
    rintro e w9 ⟨rfl, g9⟩
    go_wp2
    exact ⟨rfl, Or.inl ⟨2, p + 21, by unfold bdE; simp only [if_neg q0, if_neg q1, if_neg q3, if_neg q9, if_neg q13, if_neg q15, if_neg q21, if_pos qz2], rfl, grown_same G10 g9⟩⟩
  have qz2 : ¬ pzAt s (p + 21) = true := by unfold pzAt; rw [beq_iff_eq]; exact qz
  refine (cport_ok HC10 (by omega) qz hb).mono ?_
  rintro e w11 ⟨rfl, HC11, g11⟩
  have HR11 := HR10.grown g11 (by simp; omega)
  have G11 := grown_same G10 g11
  clear HR10 HC10 G10 g11
  go_wp2_with (refine store_blk (k := 25) 50 (.agg (ptAt s (p + 21))) (bpC ⟨k, (ofF (numAt s p 1)), (brAt s (p + 1)), (numAt s (p + 9) 4 : Int), (brAt s (p + 13)), ((beAt s (p + 21) : Int) / 4096 * 16), ((beAt s (p + 21) : Int) % 4096), 0, 0, 0, 0⟩) (by rfl) rfl rfl rfl HR11 (by kernel_rfl) (show (25 + 2 : Nat) ≤ 31 by decide) (by rfl) rfl ?_; intro w12 HR12 b12 g12; have HC12 : Cur w12 c s (p + 21 + 2) off := Blk.grown HC11 g12 (by simp; omega); have G12 := grown_own G11 g12 (Nat.le_refl _))
  clear HR11 HC11 G11 b12 g12
  replace HC12 : Cur _ c s (p + 23) off := HC12
  by_cases q23 : s.size < p + 25
  · refine (cnum_bad HC12 2 (by omega) (by omega) (by decide) hb).mono ?_
    rintro e w9 ⟨rfl, g9⟩
    go_wp2
    exact ⟨rfl, Or.inl ⟨7, p + 23, by unfold bdE; simp only [if_neg q0, if_neg q1, if_neg q3, if_neg q9, if_neg q13, if_neg q15, if_neg q21, if_neg qz2, if_pos q23], rfl, grown_belowT G12 g9⟩⟩
  have q23n : p + 25 ≤ s.size := by omega
  refine (cnum_ok HC12 2 (by decide) (by omega) hb).mono ?_
  rintro e w13 ⟨rfl, HC13, g13⟩
  have HR13 := HR12.grown g13 (by simp; omega)
  have G13 := grown_same G12 g13
  clear HR12 HC12 G12 g13
  go_wp2_with fail
  by_cases q25 : s.size < p + 27
  · refine (cnum_bad HC13 2 (by omega) (by omega) (by decide) hb).mono ?_
    rintro e w9 ⟨rfl, g9⟩
    go_wp2
    exact ⟨rfl, Or.inl ⟨7, p + 25, by unfold bdE; simp only [if_neg q0, if_neg q1, if_neg q3, if_neg q9, if_neg q13, if_neg q15, if_neg q21, if_neg qz2, if_neg q23, if_pos q25], rfl, grown_belowT G13 g9⟩⟩
  have q25n : p + 27 ≤ s.size := by omega
  refine (cnum_ok HC13 2 (by decide) (by omega) hb).mono ?_
  rintro e w14 ⟨rfl, HC14, g14⟩
  have HR14 := HR13.grown g14 (by simp; omega)
  have G14 := grown_same G13 g14
  clear HR13 HC13 G13 g14
  go_wp2_with fail
  by_cases q27 : s.size < p + 29
  · refine (cnum_bad HC14 2 (by omega) (by omega) (by decide) hb).mono ?_
    rintro e w9 ⟨rfl, g9⟩
    go_wp2
    exact ⟨rfl, Or.inl ⟨7, p + 27, by unfold bdE; simp only [if_neg q0, if_neg q1, if_neg q3, if_neg q9, if_neg q13, if_neg q15, if_neg q21, if_neg qz2, if_neg q23, if_neg q25, if_pos q27], rfl, grown_belowT G14 g9⟩⟩
  have q27n : p + 29 ≤ s.size := by omega
  refine (cnum_ok HC14 2 (by decide) (by omega) hb).mono ?_
  rintro e w15 ⟨rfl, HC15, g15⟩
  have HR15 := HR14.grown g15 (by simp; omega)
  have G15 := grown_same G14 g15
  clear HR14 HC14 G14 g15
  go_wp2_with fail
  by_cases q29 : s.size < p + 31
  · refine (cnum_bad HC15 2 (by omega) (by omega) (by decide) hb).mono ?_
    rintro e w9 ⟨rfl, g9⟩
    go_wp2
    exact ⟨rfl, Or.inl ⟨7, p + 29, by unfold bdE; simp only [if_neg q0, if_neg q1, if_neg q3, if_neg q9, if_neg q13, if_neg q15, if_neg q21, if_neg qz2, if_neg q23, if_neg q25, if_neg q27, if_pos q29], rfl, grown_belowT G15 g9⟩⟩
  have q29n : p + 31 ≤ s.size := by omega
  refine (cnum_ok HC15 2 (by decide) (by omega) hb).mono ?_
  rintro e w16 ⟨rfl, HC16, g16⟩
  have HR16 := HR15.grown g16 (by simp; omega)
  have G16 := grown_same G15 g16
  clear HR15 HC15 G15 g16
  go_wp2_with (first
      | (refine store_blk (k := 27) 3 (.int .i64 (numAt s (p + 23) 2 : Int)) (bpC ⟨k, (ofF (numAt s p 1)), (brAt s (p + 1)), (numAt s (p + 9) 4 : Int), (brAt s (p + 13)), ((beAt s (p + 21) : Int) / 4096 * 16), ((beAt s (p + 21) : Int) % 4096), (numAt s (p + 23) 2 : Int), 0, 0, 0⟩) (by rfl) rfl rfl rfl HR16 (by kernel_rfl) (show (27 + 1 : Nat) ≤ 31 by decide) (by rfl) rfl ?_; intro w17 HR17 b17 g17; have HC17 : Cur w17 c s (p + 31) off := Blk.grown HC16 g17 (by simp; omega); have G17 := grown_own G16 g17 (Nat.le_refl _))
      | (refine store_blk (k := 28) 3 (.int .i64 (numAt s (p + 25) 2 : Int)) (bpC ⟨k, (ofF (numAt s p 1)), (brAt s (p + 1)), (numAt s (p + 9) 4 : Int), (brAt s (p + 13)), ((beAt s (p + 21) : Int) / 4096 * 16), ((beAt s (p + 21) : Int) % 4096), (numAt s (p + 23) 2 : Int), (numAt s (p + 25) 2 : Int), 0, 0⟩) (by rfl) rfl rfl rfl HR17 (by kernel_rfl) (show (28 + 1 : Nat) ≤ 31 by decide) (by rfl) rfl ?_; intro w18 HR18 b18 g18; have HC18 : Cur w18 c s (p + 31) off := Blk.grown HC17 g18 (by simp; omega); have G18 := grown_own G17 g18 (Nat.le_refl _))
      | (refine store_blk (k := 29) 3 (.int .i64 (numAt s (p + 27) 2 : Int)) (bpC ⟨k, (ofF (numAt s p 1)), (brAt s (p + 1)), (numAt s (p + 9) 4 : Int), (brAt s (p + 13)), ((beAt s (p + 21) : Int) / 4096 * 16), ((beAt s (p + 21) : Int) % 4096), (numAt s (p + 23) 2 : Int), (numAt s (p + 25) 2 : Int), (numAt s (p + 27) 2 : Int), 0⟩) (by rfl) rfl rfl rfl HR18 (by kernel_rfl) (show (29 + 1 : Nat) ≤ 31 by decide) (by rfl) rfl ?_; intro w19 HR19 b19 g19; have HC19 : Cur w19 c s (p + 31) off := Blk.grown HC18 g19 (by simp; omega); have G19 := grown_own G18 g19 (Nat.le_refl _))
      | (refine store_blk (k := 30) 3 (.int .i64 (numAt s (p + 29) 2 : Int)) (bpC ⟨k, (ofF (numAt s p 1)), (brAt s (p + 1)), (numAt s (p + 9) 4 : Int), (brAt s (p + 13)), ((beAt s (p + 21) : Int) / 4096 * 16), ((beAt s (p + 21) : Int) % 4096), (numAt s (p + 23) 2 : Int), (numAt s (p + 25) 2 : Int), (numAt s (p + 27) 2 : Int), (numAt s (p + 29) 2 : Int)⟩) (by rfl) rfl rfl rfl HR19 (by kernel_rfl) (show (30 + 1 : Nat) ≤ 31 by decide) (by rfl) rfl ?_; intro w20 HR20 b20 g20; have HC20 : Cur w20 c s (p + 31) off := Blk.grown HC19 g20 (by simp; omega); have G20 := grown_own G19 g20 (Nat.le_refl _))
      | (refine load_blk (k := 0) 52 (bpC (bpAt s p k)) (by rfl) rfl rfl HR20 (by kernel_rfl) (by kernel_rfl) rfl ?_)
      | (refine store_blk (k := 0) 52 (.agg (bpC (bpAt s p k))) (bpC (bpAt s p k)) (by rfl) rfl rfl rfl HR20 (by kernel_rfl) (show (31 : Nat) ≤ 31 from Nat.le_refl 31) (by rfl) (st_whole _ _ rfl) ?_; intro w21 HR21 b21 g21; have HC21 : Cur w21 c s (p + 31) off := Blk.grown HC20 g21 (by simp; omega); have G21 := grown_own G20 g21 (Nat.le_refl _)))
  exact bodyPost_ret (results_blk rfl rfl HR21 (by kernel_rfl) (by kernel_rfl)) rfl (Or.inr ⟨by unfold bdE; simp only [if_neg q0, if_neg q1, if_neg q3, if_neg q9, if_neg q13, if_neg q15, if_neg q21, if_neg qz2, if_neg q23, if_neg q25, if_neg q27, if_neg q29], rfl, HC21, G21⟩)

end Go.Proofs.YtjoepmfineinfaaDoor
