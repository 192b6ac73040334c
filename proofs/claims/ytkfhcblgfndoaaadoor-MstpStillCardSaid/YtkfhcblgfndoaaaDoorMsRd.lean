/- readCount, readInst at every state of a reader. -/
import Derived.Test.YtkfhcblgfndoaaaDoorRBody
import Derived.Test.YtkfhcblgfndoaaaDoorExp
import Derived.Test.YtkfhcblgfndoaaaDoorBpAt
import Derived.Test.YtkfhcblgfndoaaaDoorErrA
import Derived.Test.YtkfhcblgfndoaaaDoorMs
namespace Go.Proofs.YtkfhcblgfndoaaaDoor
open Go.RowKit
attribute [local go_sem ↓] Go.wp_at_zero Go.wp_at_succ
set_option linter.unusedSimpArgs false
set_option linter.unusedVariables false
set_option maxRecDepth 100000

/-- A length that may be. -/
def okLen (v : Nat) : Bool := decide (64 ≤ v) && (decide (v ≤ 1088) && decide (v % 16 = 0))

def rcS (l : List UInt8) (st : RSt) : RSt := if okLen (nmV l 0 st 2) then nmS l 0 st 2 else flR (nmS l 0 st 2) 2 (st.1 : Int)

def rcN (l : List UInt8) (st : RSt) : Nat := if okLen (nmV l 0 st 2) then (nmV l 0 st 2 - 64) / 16 else 0

theorem rcS_le (l : List UInt8) (st : RSt) (h : st.1 ≤ l.length) : (rcS l st).1 ≤ l.length := by
  unfold rcS
  split
  · exact nmS_le l 0 st _ h
  · exact flR_le l _ _ _ (nmS_le l 0 st _ h)

theorem rcN_le (l : List UInt8) (st : RSt) : rcN l st ≤ 64 := by
  unfold rcN okLen
  split
  · next h =>
    simp only [Bool.and_eq_true, decide_eq_true_eq] at h
    omega
  · omega

set_option maxHeartbeats 1600000 in
theorem readCount_t {g : Nat} {s : ByteArray} (st : RSt) (w : World) (h : RdT w g s 0 st) (hp : st.1 ≤ s.size) (hb : 0 + s.size ≤ 281474976710656) :
    Calls Tryd.prog 28 #[.pointer (some ⟨g, 0, none⟩)] w fun e w' => e = .returned (.int .i64 (rcN s.data.toList st : Nat)) ∧ RdT w' g s 0 (rcS s.data.toList st) ∧ w.grownBy w' (some g) := by
  have HY : Hid (∀ W, RdT W g s 0 st → Calls Tryd.prog 31 #[.pointer (some ⟨g, 0, none⟩), .int .i64 2] W fun e w' => e = .returned (.int .i64 (nmV s.data.toList 0 st 2 : Nat)) ∧ RdT w' g s 0 (nmS s.data.toList 0 st 2) ∧ W.grownBy w' (some g)) := fun W h => numK_t st 2 (by decide) W h hp hb
  have HA : Hid (∀ W, RdT W g s 0 st → Calls Tryd.prog 67 #[.pointer (some ⟨g, 0, none⟩)] W fun e w' => e = .returned (.int .i64 (st.1 : Int)) ∧ W = w') := fun W h => by
    have q := at_t st W h
    rw [show ((0 : Nat) : Int) + (st.1 : Int) = (st.1 : Int) by omega] at q
    exact q
  have HV : nmV s.data.toList 0 st 2 < 65536 := nmV_lt s.data.toList 0 st 2
  have HS : Hid (rcS s.data.toList st = if okLen (nmV s.data.toList 0 st 2) then nmS s.data.toList 0 st 2 else flR (nmS s.data.toList 0 st 2) 2 (st.1 : Int)) := rfl
  have HN : Hid (rcN s.data.toList st = if okLen (nmV s.data.toList 0 st 2) then (nmV s.data.toList 0 st 2 - 64) / 16 else 0) := rfl
  generalize nmS s.data.toList 0 st 2 = s2 at *
  generalize nmV s.data.toList 0 st 2 = v at *
  generalize rcS s.data.toList st = s3 at *
  generalize rcN s.data.toList st = n at *
  generalize (st.1 : Int) = pl at *
  clear hp hb
  obtain ⟨u, hu⟩ : ∃ u : Int, (v : Int) - 64 = u := ⟨_, rfl⟩
  have wu : IntKind.i64.wrap ((v : Int) - 64) = u := by rw [IntKind.wrap_i64] <;> omega
  by_cases q0 : u < 0
  · have hk : okLen v = false := by unfold okLen; rw [decide_eq_false (show ¬ 64 ≤ v by omega)]; rfl
    have hS := HS.out
    have hN := HN.out
    rw [hk] at hS hN
    simp only [Bool.false_eq_true, if_false] at hS hN
    subst hS hN
    have d0 : decide (u < 0) = true := decide_eq_true q0
    clear HS HN hk hu
    go_enter Tryd.func28, Tryd.ntmps28
    go_wp2_with fail
    refine (HA.out _ h).mono ?_
    rintro e w1 ⟨rfl, rfl⟩
    go_wp2_with fail
    refine (HY.out _ h).mono ?_
    rintro e w2 ⟨rfl, h2, g2⟩
    go_wp2_with fail
    refine (fail_t s2 2 pl (by decide) _ h2).mono ?_
    rintro e w3 ⟨rfl, h3, g3⟩
    go_wp2
    go_ret
    exact ⟨rfl, h3, grown_same g2 g3⟩
  · have d0 : decide (u < 0) = false := decide_eq_false q0
    by_cases q1 : 1024 < u
    · have hk : okLen v = false := by unfold okLen; rw [decide_eq_false (show ¬ v ≤ 1088 by omega)]; simp
      have hS := HS.out
      have hN := HN.out
      rw [hk] at hS hN
      simp only [Bool.false_eq_true, if_false] at hS hN
      subst hS hN
      have d1 : decide (1024 < u) = true := decide_eq_true q1
      clear HS HN hk hu
      go_enter Tryd.func28, Tryd.ntmps28
      go_wp2_with fail
      refine (HA.out _ h).mono ?_
      rintro e w1 ⟨rfl, rfl⟩
      go_wp2_with fail
      refine (HY.out _ h).mono ?_
      rintro e w2 ⟨rfl, h2, g2⟩
      go_wp2_with fail
      refine (fail_t s2 2 pl (by decide) _ h2).mono ?_
      rintro e w3 ⟨rfl, h3, g3⟩
      go_wp2
      go_ret
      exact ⟨rfl, h3, grown_same g2 g3⟩
    · have d1 : decide (1024 < u) = false := decide_eq_false q1
      have wm : IntKind.i64.wrap (Int.tmod u 16) = u % 16 := by rw [Int.tmod_eq_emod_of_nonneg (by omega), IntKind.wrap_i64] <;> omega
      have wd : IntKind.i64.wrap (Int.tdiv u 16) = u / 16 := by rw [Int.tdiv_eq_ediv_of_nonneg (by omega), IntKind.wrap_i64] <;> omega
      by_cases q2 : u % 16 = 0
      · have hk : okLen v = true := by unfold okLen; rw [decide_eq_true (show 64 ≤ v by omega), decide_eq_true (show v ≤ 1088 by omega), decide_eq_true (show v % 16 = 0 by omega)]; rfl
        have hS := HS.out
        have hN := HN.out
        rw [hk] at hS hN
        simp only [if_true] at hS hN
        subst hS
        have hn : u / 16 = (n : Int) := by omega
        have d2 : (u % 16 != 0) = false := by simp [q2]
        have d3 : (u % 16 == 0) = true := by simp [q2]
        clear HS HN hk hu hN
        go_enter Tryd.func28, Tryd.ntmps28
        go_wp2_with fail
        refine (HA.out _ h).mono ?_
        rintro e w1 ⟨rfl, rfl⟩
        go_wp2_with fail
        refine (HY.out _ h).mono ?_
        rintro e w2 ⟨rfl, h2, g2⟩
        go_wp2
        go_ret
        exact ⟨by rw [← hn]; rfl, h2, g2⟩
      · have hk : okLen v = false := by unfold okLen; rw [decide_eq_false (show ¬ v % 16 = 0 by omega)]; simp
        have hS := HS.out
        have hN := HN.out
        rw [hk] at hS hN
        simp only [Bool.false_eq_true, if_false] at hS hN
        subst hS hN
        have d2 : (u % 16 != 0) = true := by simp [q2]
        have d3 : (u % 16 == 0) = false := by simp [q2]
        clear HS HN hk hu
        go_enter Tryd.func28, Tryd.ntmps28
        go_wp2_with fail
        refine (HA.out _ h).mono ?_
        rintro e w1 ⟨rfl, rfl⟩
        go_wp2_with fail
        refine (HY.out _ h).mono ?_
        rintro e w2 ⟨rfl, h2, g2⟩
        go_wp2_with fail
        refine (fail_t s2 2 pl (by decide) _ h2).mono ?_
        rintro e w3 ⟨rfl, h3, g3⟩
        go_wp2
        go_ret
        exact ⟨rfl, h3, grown_same g2 g3⟩

/-- The states within an instance. -/
def si1 (l : List UInt8) (st : RSt) : RSt := nmS l 0 st 1

def si2 (l : List UInt8) (st : RSt) : RSt := rdBs l 0 (si1 l st)

def si3 (l : List UInt8) (st : RSt) : RSt := nmS l 0 (si2 l st) 4

def si4 (l : List UInt8) (st : RSt) : RSt := nmS l 0 (si3 l st) 1

def si5 (l : List UInt8) (st : RSt) : RSt := nmS l 0 (si4 l st) 1

def si6 (l : List UInt8) (st : RSt) : RSt := nmS l 0 (si5 l st) 1

def riV (l : List UInt8) (st : RSt) : Ins := ⟨ofF (nmV l 0 st 1), rdB l 0 (si1 l st), (nmV l 0 (si2 l st) 4 : Nat), (nmV l 0 (si3 l st) 1 / 16 : Nat), (nmV l 0 (si4 l st) 1 / 16 : Nat), (nmV l 0 (si5 l st) 1 : Nat)⟩

theorem si6_le (l : List UInt8) (st : RSt) (h : st.1 ≤ l.length) : (si6 l st).1 ≤ l.length :=
  nmS_le _ _ _ _ (nmS_le _ _ _ _ (nmS_le _ _ _ _ (nmS_le _ _ _ _ (rdBs_le _ _ _ (nmS_le _ _ _ _ h)))))

set_option maxHeartbeats 3200000 in
theorem readInst_t {g : Nat} {s : ByteArray} (st : RSt) (w : World) (h : RdT w g s 0 st) (hp : st.1 ≤ s.size) (hb : 0 + s.size ≤ 281474976710656) :
    Calls Tryd.prog 33 #[.pointer (some ⟨g, 0, none⟩)] w fun e w' => e = .returned (.agg (inC (riV s.data.toList st))) ∧ RdT w' g s 0 (si6 s.data.toList st) ∧ w.grownBy w' (some g) := by
  have hls : s.data.toList.length = s.size := by simp
  have h0 : st.1 ≤ s.data.toList.length := by rw [hls]; exact hp
  have P1 : (si1 s.data.toList st).1 ≤ s.data.toList.length := nmS_le _ _ _ _ h0
  have P2 : (si2 s.data.toList st).1 ≤ s.data.toList.length := rdBs_le _ _ _ P1
  have P3 : (si3 s.data.toList st).1 ≤ s.data.toList.length := nmS_le _ _ _ _ P2
  have P4 : (si4 s.data.toList st).1 ≤ s.data.toList.length := nmS_le _ _ _ _ P3
  have P5 : (si5 s.data.toList st).1 ≤ s.data.toList.length := nmS_le _ _ _ _ P4
  rw [hls] at P1 P2 P3 P4 P5
  have N1 : Hid (∀ W, RdT W g s 0 st → Calls Tryd.prog 31 #[.pointer (some ⟨g, 0, none⟩), .int .i64 1] W fun e w' => e = .returned (.int .i64 (nmV s.data.toList 0 st 1 : Nat)) ∧ RdT w' g s 0 (si1 s.data.toList st) ∧ W.grownBy w' (some g)) := fun W h => numK_t _ 1 (by decide) W h hp hb
  have N2 : Hid (∀ W, RdT W g s 0 (si1 s.data.toList st) → Calls Tryd.prog 32 #[.pointer (some ⟨g, 0, none⟩)] W fun e w' => e = .returned (.agg (brC (rdB s.data.toList 0 (si1 s.data.toList st)))) ∧ RdT w' g s 0 (si2 s.data.toList st) ∧ W.grownBy w' (some g)) := fun W h => prRead_t _ W h P1 hb
  have N3 : Hid (∀ W, RdT W g s 0 (si2 s.data.toList st) → Calls Tryd.prog 31 #[.pointer (some ⟨g, 0, none⟩), .int .i64 4] W fun e w' => e = .returned (.int .i64 (nmV s.data.toList 0 (si2 s.data.toList st) 4 : Nat)) ∧ RdT w' g s 0 (si3 s.data.toList st) ∧ W.grownBy w' (some g)) := fun W h => numK_t _ 4 (by decide) W h P2 hb
  have N4 : Hid (∀ W, RdT W g s 0 (si3 s.data.toList st) → Calls Tryd.prog 31 #[.pointer (some ⟨g, 0, none⟩), .int .i64 1] W fun e w' => e = .returned (.int .i64 (nmV s.data.toList 0 (si3 s.data.toList st) 1 : Nat)) ∧ RdT w' g s 0 (si4 s.data.toList st) ∧ W.grownBy w' (some g)) := fun W h => numK_t _ 1 (by decide) W h P3 hb
  have N5 : Hid (∀ W, RdT W g s 0 (si4 s.data.toList st) → Calls Tryd.prog 31 #[.pointer (some ⟨g, 0, none⟩), .int .i64 1] W fun e w' => e = .returned (.int .i64 (nmV s.data.toList 0 (si4 s.data.toList st) 1 : Nat)) ∧ RdT w' g s 0 (si5 s.data.toList st) ∧ W.grownBy w' (some g)) := fun W h => numK_t _ 1 (by decide) W h P4 hb
  have N6 : Hid (∀ W, RdT W g s 0 (si5 s.data.toList st) → Calls Tryd.prog 31 #[.pointer (some ⟨g, 0, none⟩), .int .i64 1] W fun e w' => e = .returned (.int .i64 (nmV s.data.toList 0 (si5 s.data.toList st) 1 : Nat)) ∧ RdT w' g s 0 (si6 s.data.toList st) ∧ W.grownBy w' (some g)) := fun W h => numK_t _ 1 (by decide) W h P5 hb
  have L1 : nmV s.data.toList 0 st 1 < 256 := nmV_lt s.data.toList 0 st 1
  have L4 : nmV s.data.toList 0 (si3 s.data.toList st) 1 < 256 := nmV_lt s.data.toList 0 _ 1
  have L5 : nmV s.data.toList 0 (si4 s.data.toList st) 1 < 256 := nmV_lt s.data.toList 0 _ 1
  have HO := Lib.hid (fun W => of_any (nmV s.data.toList 0 st 1) L1 W)
  have HV : Hid (riV s.data.toList st = ⟨ofF (nmV s.data.toList 0 st 1), rdB s.data.toList 0 (si1 s.data.toList st), (nmV s.data.toList 0 (si2 s.data.toList st) 4 : Nat), (nmV s.data.toList 0 (si3 s.data.toList st) 1 / 16 : Nat), (nmV s.data.toList 0 (si4 s.data.toList st) 1 / 16 : Nat), (nmV s.data.toList 0 (si5 s.data.toList st) 1 : Nat)⟩) := rfl
  generalize riV s.data.toList st = rv at *
  generalize nmV s.data.toList 0 st 1 = n1 at *
  generalize rdB s.data.toList 0 (si1 s.data.toList st) = b2 at *
  generalize nmV s.data.toList 0 (si2 s.data.toList st) 4 = n3 at *
  generalize nmV s.data.toList 0 (si3 s.data.toList st) 1 = n4 at *
  generalize nmV s.data.toList 0 (si4 s.data.toList st) 1 = n5 at *
  generalize nmV s.data.toList 0 (si5 s.data.toList st) 1 = n6 at *
  generalize si6 s.data.toList st = t6 at *
  generalize si5 s.data.toList st = t5 at *
  generalize si4 s.data.toList st = t4 at *
  generalize si3 s.data.toList st = t3 at *
  generalize si2 s.data.toList st = t2 at *
  generalize si1 s.data.toList st = t1 at *
  obtain ⟨v4, hv4⟩ : ∃ v : Int, v = ((n4 / 16 : Nat) : Int) := ⟨_, rfl⟩
  obtain ⟨v5, hv5⟩ : ∃ v : Int, v = ((n5 / 16 : Nat) : Int) := ⟨_, rfl⟩
  have w4 : IntKind.i64.wrap (Int.tdiv (n4 : Int) 16) = v4 := by rw [Int.tdiv_eq_ediv_of_nonneg (by omega), IntKind.wrap_i64] <;> omega
  have w5 : IntKind.i64.wrap (Int.tdiv (n5 : Int) 16) = v5 := by rw [Int.tdiv_eq_ediv_of_nonneg (by omega), IntKind.wrap_i64] <;> omega
  have w4b : IntKind.i64.wrap ((n4 : Int) / 16) = v4 := by rw [IntKind.wrap_i64] <;> omega
  have w5b : IntKind.i64.wrap ((n5 : Int) / 16) = v5 := by rw [IntKind.wrap_i64] <;> omega
  rw [← hv4, ← hv5] at HV
  have hg := h.lt
  have R1 := Blk.new w 93 (inC zIns)
  have h00 := h.al (.cells (inC zIns) 93)
  have G0 : w.grownBy (w.alloc (.cells (inC zIns) 93)) (some g) := World.grownBy_alloc w _ _
  clear P1 P2 P3 P4 P5 hp hb h0 hls hv4 hv5 L4 L5 h
  go_enter Tryd.func33, Tryd.ntmps33
  go_wp2_with (refine alloc_blk 93 (inC zIns) (by rfl) rfl Tryd.inZero ?_)
  generalize w.alloc (.cells (inC zIns) 93) = w1 at *
  refine (N1.out _ h00).mono ?_
  rintro e u2 ⟨rfl, h2, g2⟩
  have R2 := R1.grown g2 (by simp; omega)
  have G2 := grown_same G0 g2
  clear R1 h00 G0 g2
  go_wp2_with fail
  refine (HO.out _).mono ?_
  rintro e u3 ⟨rfl, k3⟩
  have R3 := R2.kept k3
  have h3 := h2.below k3
  have G3 := grown_belowT G2 k3
  clear R2 h2 G2 k3
  go_wp2_with fail
  refine (N2.out _ h3).mono ?_
  rintro e u4 ⟨rfl, h4, g4⟩
  have R4 := R3.grown g4 (by simp; omega)
  have G4 := grown_same G3 g4
  clear R3 h3 G3 g4
  go_wp2_with fail
  refine (N3.out _ h4).mono ?_
  rintro e u5 ⟨rfl, h5, g5⟩
  have R5 := R4.grown g5 (by simp; omega)
  have G5 := grown_same G4 g5
  clear R4 h4 G4 g5
  go_wp2_with fail
  refine (N4.out _ h5).mono ?_
  rintro e u6 ⟨rfl, h6, g6⟩
  have R6 := R5.grown g6 (by simp; omega)
  have G6 := grown_same G5 g6
  clear R5 h5 G5 g6
  go_wp2_with fail
  refine (N5.out _ h6).mono ?_
  rintro e u7 ⟨rfl, h7, g7⟩
  have R7 := R6.grown g7 (by simp; omega)
  have G7 := grown_same G6 g7
  clear R6 h6 G6 g7
  go_wp2_with fail
  refine (N6.out _ h7).mono ?_
  rintro e u8 ⟨rfl, h8, g8⟩
  have R8 := R7.grown g8 (by simp; omega)
  have G8 := grown_same G7 g8
  clear R7 h7 G7 g8
  go_wp2_with (first
    | (refine build_blk (t := 93) (inC ⟨ofF n1, b2, (n3 : Int), v4, v5, (n6 : Int)⟩) (by rfl) rfl (by kernel_rfl) ?_)
    | (refine store_blk (k := 0) 93 (.agg (inC ⟨ofF n1, b2, (n3 : Int), v4, v5, (n6 : Int)⟩)) (inC ⟨ofF n1, b2, (n3 : Int), v4, v5, (n6 : Int)⟩) (by rfl) rfl rfl rfl R8 (by kernel_rfl) (show (19 : Nat) ≤ 19 from Nat.le_refl 19) (by rfl) (st_whole _ _ rfl) ?_; intro wz RZ bz gz; have HZ := h8.other R8 (by decide) (by decide) gz; have GZ := grown_own G8 gz (Nat.le_refl _)))
  exact bodyPost_ret (results_blk rfl rfl RZ (by kernel_rfl) (by kernel_rfl)) rfl ⟨by rw [HV.out], HZ, GZ⟩

end Go.Proofs.YtkfhcblgfndoaaaDoor
