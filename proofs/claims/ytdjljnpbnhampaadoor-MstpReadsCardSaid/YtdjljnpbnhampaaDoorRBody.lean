/- bpdu.ReadBody at every state of a reader. -/
import Derived.Test.YtdjljnpbnhampaaDoorPrReadPort
import Derived.Test.YtdjljnpbnhampaaDoorBpOf
import Derived.Test.YtdjljnpbnhampaaDoorNumK
namespace Go.Proofs.YtdjljnpbnhampaaDoor
open Go.RowKit
attribute [local go_sem ↓] Go.wp_at_zero Go.wp_at_succ
set_option linter.unusedSimpArgs false
set_option linter.unusedVariables false
set_option maxRecDepth 100000

/-- A port's name, part by part. -/
def rpP (l : List UInt8) (off : Nat) (st : RSt) : Int := if rdN l off st % 4096 = 0 then 0 else (rdN l off st : Int) / 4096 * 16

def rpN (l : List UInt8) (off : Nat) (st : RSt) : Int := if rdN l off st % 4096 = 0 then 0 else (rdN l off st : Int) % 4096

theorem rpC_parts (l : List UInt8) (off : Nat) (st : RSt) : rpC l off st = ptC (rpP l off st) (rpN l off st) := by
  unfold rpC rpP rpN
  split <;> rfl

/-- The states, one behind the other. -/
def sb1 (l : List UInt8) (off : Nat) (st : RSt) : RSt := nmS l off st 1

def sb2 (l : List UInt8) (off : Nat) (st : RSt) : RSt := rdBs l off (sb1 l off st)

def sb3 (l : List UInt8) (off : Nat) (st : RSt) : RSt := nmS l off (sb2 l off st) 4

def sb4 (l : List UInt8) (off : Nat) (st : RSt) : RSt := rdBs l off (sb3 l off st)

def sb5 (l : List UInt8) (off : Nat) (st : RSt) : RSt := rpSt l off (sb4 l off st)

def sb6 (l : List UInt8) (off : Nat) (st : RSt) : RSt := nmS l off (sb5 l off st) 2

def sb7 (l : List UInt8) (off : Nat) (st : RSt) : RSt := nmS l off (sb6 l off st) 2

def sb8 (l : List UInt8) (off : Nat) (st : RSt) : RSt := nmS l off (sb7 l off st) 2

def sb9 (l : List UInt8) (off : Nat) (st : RSt) : RSt := nmS l off (sb8 l off st) 2

/-- What is read. -/
def rbRaw (l : List UInt8) (off : Nat) (st : RSt) (k : Int) : Bp := ⟨k, ofF (nmV l off st 1), rdB l off (sb1 l off st), (nmV l off (sb2 l off st) 4 : Nat), rdB l off (sb3 l off st), rpP l off (sb4 l off st), rpN l off (sb4 l off st),
  (nmV l off (sb5 l off st) 2 : Nat), (nmV l off (sb6 l off st) 2 : Nat), (nmV l off (sb7 l off st) 2 : Nat), (nmV l off (sb8 l off st) 2 : Nat)⟩

/-- Of a Config, two flags. -/
def cfB (b : Bp) : Bp := if b.k = 1 then ⟨b.k, cfF b.f, b.root, b.cost, b.snd, b.pp, b.pn, b.age, b.mx, b.hel, b.wai⟩ else b

def rbB (l : List UInt8) (off : Nat) (st : RSt) (k : Int) : Bp := if (sb9 l off st).2.1 = 0 then cfB (rbRaw l off st k) else zBp

set_option maxHeartbeats 6400000 in
theorem readBody_t {g : Nat} {s : ByteArray} {off : Nat} (st : RSt) (k : Int) (w : World) (h : RdT w g s off st) (hp : st.1 ≤ s.size) (hb : off + s.size ≤ 281474976710656) :
    Calls Tryd.prog 40 #[.pointer (some ⟨g, 0, none⟩), .int .i64 k] w fun e w' => e = .returned (.agg (bpC (rbB s.data.toList off st k))) ∧ RdT w' g s off (sb9 s.data.toList off st) ∧ w.grownBy w' (some g) := by
  have hls : s.data.toList.length = s.size := by simp
  have hg := h.lt
  have h0 : st.1 ≤ s.data.toList.length := by rw [hls]; exact hp
  have P1 : (sb1 s.data.toList off st).1 ≤ s.data.toList.length := nmS_le _ _ _ _ h0
  have P2 : (sb2 s.data.toList off st).1 ≤ s.data.toList.length := rdBs_le _ _ _ P1
  have P3 : (sb3 s.data.toList off st).1 ≤ s.data.toList.length := nmS_le _ _ _ _ P2
  have P4 : (sb4 s.data.toList off st).1 ≤ s.data.toList.length := rdBs_le _ _ _ P3
  have P5 : (sb5 s.data.toList off st).1 ≤ s.data.toList.length := rpSt_le _ _ _ P4
  have P6 : (sb6 s.data.toList off st).1 ≤ s.data.toList.length := nmS_le _ _ _ _ P5
  have P7 : (sb7 s.data.toList off st).1 ≤ s.data.toList.length := nmS_le _ _ _ _ P6
  have P8 : (sb8 s.data.toList off st).1 ≤ s.data.toList.length := nmS_le _ _ _ _ P7
  rw [hls] at P1 P2 P3 P4 P5 P6 P7 P8
  have N1 : Hid (∀ W, RdT W g s off st → Calls Tryd.prog 44 #[.pointer (some ⟨g, 0, none⟩), .int .i64 1] W fun e w' => e = .returned (.int .i64 (nmV s.data.toList off st 1 : Nat)) ∧ RdT w' g s off (sb1 s.data.toList off st) ∧ W.grownBy w' (some g)) := fun W h => numK_t st 1 (by decide) W h hp hb
  have N2 : Hid (∀ W, RdT W g s off (sb1 s.data.toList off st) → Calls Tryd.prog 45 #[.pointer (some ⟨g, 0, none⟩)] W fun e w' => e = .returned (.agg (brC (rdB s.data.toList off (sb1 s.data.toList off st)))) ∧ RdT w' g s off (sb2 s.data.toList off st) ∧ W.grownBy w' (some g)) := fun W h => prRead_t (sb1 s.data.toList off st) W h P1 hb
  have N3 : Hid (∀ W, RdT W g s off (sb2 s.data.toList off st) → Calls Tryd.prog 44 #[.pointer (some ⟨g, 0, none⟩), .int .i64 4] W fun e w' => e = .returned (.int .i64 (nmV s.data.toList off (sb2 s.data.toList off st) 4 : Nat)) ∧ RdT w' g s off (sb3 s.data.toList off st) ∧ W.grownBy w' (some g)) := fun W h => numK_t (sb2 s.data.toList off st) 4 (by decide) W h P2 hb
  have N4 : Hid (∀ W, RdT W g s off (sb3 s.data.toList off st) → Calls Tryd.prog 45 #[.pointer (some ⟨g, 0, none⟩)] W fun e w' => e = .returned (.agg (brC (rdB s.data.toList off (sb3 s.data.toList off st)))) ∧ RdT w' g s off (sb4 s.data.toList off st) ∧ W.grownBy w' (some g)) := fun W h => prRead_t (sb3 s.data.toList off st) W h P3 hb
  have N5 : Hid (∀ W, RdT W g s off (sb4 s.data.toList off st) → Calls Tryd.prog 75 #[.pointer (some ⟨g, 0, none⟩)] W fun e w' => e = .returned (.agg (ptC (rpP s.data.toList off (sb4 s.data.toList off st)) (rpN s.data.toList off (sb4 s.data.toList off st)))) ∧ RdT w' g s off (sb5 s.data.toList off st) ∧ W.grownBy w' (some g)) := fun W h => by rw [← rpC_parts]; exact prReadPort_t (sb4 s.data.toList off st) W h P4 hb
  have N6 : Hid (∀ W, RdT W g s off (sb5 s.data.toList off st) → Calls Tryd.prog 44 #[.pointer (some ⟨g, 0, none⟩), .int .i64 2] W fun e w' => e = .returned (.int .i64 (nmV s.data.toList off (sb5 s.data.toList off st) 2 : Nat)) ∧ RdT w' g s off (sb6 s.data.toList off st) ∧ W.grownBy w' (some g)) := fun W h => numK_t (sb5 s.data.toList off st) 2 (by decide) W h P5 hb
  have N7 : Hid (∀ W, RdT W g s off (sb6 s.data.toList off st) → Calls Tryd.prog 44 #[.pointer (some ⟨g, 0, none⟩), .int .i64 2] W fun e w' => e = .returned (.int .i64 (nmV s.data.toList off (sb6 s.data.toList off st) 2 : Nat)) ∧ RdT w' g s off (sb7 s.data.toList off st) ∧ W.grownBy w' (some g)) := fun W h => numK_t (sb6 s.data.toList off st) 2 (by decide) W h P6 hb
  have N8 : Hid (∀ W, RdT W g s off (sb7 s.data.toList off st) → Calls Tryd.prog 44 #[.pointer (some ⟨g, 0, none⟩), .int .i64 2] W fun e w' => e = .returned (.int .i64 (nmV s.data.toList off (sb7 s.data.toList off st) 2 : Nat)) ∧ RdT w' g s off (sb8 s.data.toList off st) ∧ W.grownBy w' (some g)) := fun W h => numK_t (sb7 s.data.toList off st) 2 (by decide) W h P7 hb
  have N9 : Hid (∀ W, RdT W g s off (sb8 s.data.toList off st) → Calls Tryd.prog 44 #[.pointer (some ⟨g, 0, none⟩), .int .i64 2] W fun e w' => e = .returned (.int .i64 (nmV s.data.toList off (sb8 s.data.toList off st) 2 : Nat)) ∧ RdT w' g s off (sb9 s.data.toList off st) ∧ W.grownBy w' (some g)) := fun W h => numK_t (sb8 s.data.toList off st) 2 (by decide) W h P8 hb
  have hn0 : nmV s.data.toList off st 1 < 256 := by simpa using nmV_lt s.data.toList off st 1
  have HRB : Hid (rbB s.data.toList off st k = if (sb9 s.data.toList off st).2.1 = 0 then cfB (rbRaw s.data.toList off st k) else zBp) := rfl
  have HRW : Hid (rbRaw s.data.toList off st k = ⟨k, ofF (nmV s.data.toList off st 1), rdB s.data.toList off (sb1 s.data.toList off st), (nmV s.data.toList off (sb2 s.data.toList off st) 4 : Nat), rdB s.data.toList off (sb3 s.data.toList off st), rpP s.data.toList off (sb4 s.data.toList off st), rpN s.data.toList off (sb4 s.data.toList off st),
  (nmV s.data.toList off (sb5 s.data.toList off st) 2 : Nat), (nmV s.data.toList off (sb6 s.data.toList off st) 2 : Nat), (nmV s.data.toList off (sb7 s.data.toList off st) 2 : Nat), (nmV s.data.toList off (sb8 s.data.toList off st) 2 : Nat)⟩) := rfl
  clear P1 P2 P3 P4 P5 P6 P7 P8 h0 hls
  generalize rbB s.data.toList off st k = res at *
  generalize rbRaw s.data.toList off st k = raw at *
  have HO := Lib.hid (fun W => of_any (nmV s.data.toList off st 1) hn0 W)
  clear hn0
  generalize nmV s.data.toList off st 1 = n0 at *
  generalize rdB s.data.toList off (sb1 s.data.toList off st) = b1 at *
  generalize nmV s.data.toList off (sb2 s.data.toList off st) 4 = n2 at *
  generalize rdB s.data.toList off (sb3 s.data.toList off st) = b3 at *
  generalize rpP s.data.toList off (sb4 s.data.toList off st) = p4 at *
  generalize rpN s.data.toList off (sb4 s.data.toList off st) = q4 at *
  generalize nmV s.data.toList off (sb5 s.data.toList off st) 2 = n5 at *
  generalize nmV s.data.toList off (sb6 s.data.toList off st) 2 = n6 at *
  generalize nmV s.data.toList off (sb7 s.data.toList off st) 2 = n7 at *
  generalize nmV s.data.toList off (sb8 s.data.toList off st) 2 = n8 at *
  generalize sb1 s.data.toList off st = t1 at *
  generalize sb2 s.data.toList off st = t2 at *
  generalize sb3 s.data.toList off st = t3 at *
  generalize sb4 s.data.toList off st = t4 at *
  generalize sb5 s.data.toList off st = t5 at *
  generalize sb6 s.data.toList off st = t6 at *
  generalize sb7 s.data.toList off st = t7 at *
  generalize sb8 s.data.toList off st = t8 at *
  generalize sb9 s.data.toList off st = t9 at *
  have R1 := Blk.new w 31 (bpC zBp)
  have H1 := h.al (.cells (bpC zBp) 31)
  have G1 : w.grownBy (w.alloc (.cells (bpC zBp) 31)) (some g) := World.grownBy_alloc w _ _
  clear h
  by_cases c : t9.2.1 = 0
  · rw [if_pos c] at HRB
    by_cases ck : k = 1
    · have d1 : (k == 1) = true := by simpa using ck
      have HCF : Hid (cfB raw = ⟨k, cfF (ofF n0), b1, (n2 : Int), b3, p4, q4, (n5 : Int), (n6 : Int), (n7 : Int), (n8 : Int)⟩) := by show _ = _; rw [HRW.out]; unfold cfB; rw [if_pos ck]
      clear ck
      go_enter Tryd.func40, Tryd.ntmps40
      go_wp2_with (refine alloc_blk 31 (bpC zBp) (by rfl) rfl Tryd.bpZero ?_)
      generalize w.alloc (.cells (bpC zBp) 31) = w1 at *
      refine (N1.out _ H1).mono ?_
      rintro e w2 ⟨rfl, H2, g2⟩
      have R2 := R1.grown g2 (by simp; omega)
      have G2 := grown_same G1 g2
      clear R1 H1 G1 g2
      go_wp2_with fail
      refine (HO.out _).mono ?_
      rintro e w3 ⟨rfl, k3⟩
      have R3 := R2.kept k3
      have H3 := H2.below k3
      have G3 := grown_belowT G2 k3
      clear R2 H2 G2 k3
      go_wp2_with fail
      refine (N2.out _ H3).mono ?_
      rintro e w4 ⟨rfl, H4, g4⟩
      have R4 := R3.grown g4 (by simp; omega)
      have G4 := grown_same G3 g4
      clear R3 H3 G3 g4
      go_wp2_with fail
      refine (N3.out _ H4).mono ?_
      rintro e w5 ⟨rfl, H5, g5⟩
      have R5 := R4.grown g5 (by simp; omega)
      have G5 := grown_same G4 g5
      clear R4 H4 G4 g5
      go_wp2_with fail
      refine (N4.out _ H5).mono ?_
      rintro e w6 ⟨rfl, H6, g6⟩
      have R6 := R5.grown g6 (by simp; omega)
      have G6 := grown_same G5 g6
      clear R5 H5 G5 g6
      go_wp2_with fail
      refine (N5.out _ H6).mono ?_
      rintro e w7 ⟨rfl, H7, g7⟩
      have R7 := R6.grown g7 (by simp; omega)
      have G7 := grown_same G6 g7
      clear R6 H6 G6 g7
      go_wp2_with fail
      refine (N6.out _ H7).mono ?_
      rintro e w8 ⟨rfl, H8, g8⟩
      have R8 := R7.grown g8 (by simp; omega)
      have G8 := grown_same G7 g8
      clear R7 H7 G7 g8
      go_wp2_with fail
      refine (N7.out _ H8).mono ?_
      rintro e w9 ⟨rfl, H9, g9⟩
      have R9 := R8.grown g9 (by simp; omega)
      have G9 := grown_same G8 g9
      clear R8 H8 G8 g9
      go_wp2_with fail
      refine (N8.out _ H9).mono ?_
      rintro e w10 ⟨rfl, H10, g10⟩
      have R10 := R9.grown g10 (by simp; omega)
      have G10 := grown_same G9 g10
      clear R9 H9 G9 g10
      go_wp2_with fail
      refine (N9.out _ H10).mono ?_
      rintro e w11 ⟨rfl, H11, g11⟩
      have R11 := R10.grown g11 (by simp; omega)
      have G11 := grown_same G10 g11
      clear R10 H10 G10 g11
      have lt11 : w.heap.size < w11.heap.size := R11.lt
      go_wp2_with (first
        | (refine build_blk (t := 31) (bpC ⟨k, ofF n0, b1, (n2 : Int), b3, p4, q4, (n5 : Int), (n6 : Int), (n7 : Int), (n8 : Int)⟩) (by rfl) rfl (by kernel_rfl) ?_)
        | (refine alloc_blk 31 (bpC zBp) (by rfl) rfl Tryd.bpZero ?_)
        | (refine store_blk (k := 0) 31 (.agg (bpC ⟨k, ofF n0, b1, (n2 : Int), b3, p4, q4, (n5 : Int), (n6 : Int), (n7 : Int), (n8 : Int)⟩)) (bpC ⟨k, ofF n0, b1, (n2 : Int), b3, p4, q4, (n5 : Int), (n6 : Int), (n7 : Int), (n8 : Int)⟩) (by rfl) rfl rfl rfl (Blk.new w11 _ _) (by kernel_rfl) (show (31 : Nat) ≤ 31 from Nat.le_refl 31) (by rfl) (st_whole _ _ rfl) ?_; intro wv V3 b3' g3; have R3 := (R11.alloc (.cells (bpC zBp) 31)).below b3' lt11; have H3 := (H11.al (.cells (bpC zBp) 31)).other (Blk.new w11 _ _) (by decide) (by decide) g3; have G3 := grown_own (grown_same G11 (World.grownBy_alloc w11 (.cells (bpC zBp) 31) (some g))) g3 (by omega)))
      generalize w11.heap.size = A at *
      have lt3 : A < wv.heap.size := V3.lt
      clear R11 H11 G11 b3' g3
      go_wp2_with fail
      refine (err_ok t9 _ H3 c).mono ?_
      rintro e w6 ⟨rfl, rfl⟩
      go_wp2_with (refine load_blk (k := 1) 23 (flC (ofF n0)) (by rfl) rfl rfl V3 (by kernel_rfl) (by kernel_rfl) rfl ?_)
      refine (ofConfig_any (ofF n0) _).mono ?_
      rintro e w7 ⟨rfl, k7⟩
      have V7 := V3.kept k7
      have RY := R3.kept k7
      have HY := H3.below k7
      have GY := grown_belowT G3 k7
      go_upto_region 6 with (refine store_blk (k := 1) 23 (.agg (flC (cfF (ofF n0)))) (bpC ⟨k, cfF (ofF n0), b1, (n2 : Int), b3, p4, q4, (n5 : Int), (n6 : Int), (n7 : Int), (n8 : Int)⟩) (by rfl) rfl rfl rfl V7 (by kernel_rfl) (show (1 + 7 : Nat) ≤ 31 by decide) (by rfl) rfl ?_; intro w8 V8 b8 g8; have RX := RY.grown g8 (by simp; omega); have HX := HY.other V7 (by decide) (by decide) g8; have GX := grown_own GY g8 (by omega))
      (try simp only [Act.put, List.setIfInBounds_toArray, List.set_cons_zero, List.set_cons_succ])
      go_wp2_with (first
        | (refine load_blk (k := 0) 31 (bpC ⟨k, cfF (ofF n0), b1, (n2 : Int), b3, p4, q4, (n5 : Int), (n6 : Int), (n7 : Int), (n8 : Int)⟩) (by rfl) rfl rfl V8 (by kernel_rfl) (by kernel_rfl) rfl ?_)
        | (refine store_blk (k := 0) 31 (.agg (bpC ⟨k, cfF (ofF n0), b1, (n2 : Int), b3, p4, q4, (n5 : Int), (n6 : Int), (n7 : Int), (n8 : Int)⟩)) (bpC ⟨k, cfF (ofF n0), b1, (n2 : Int), b3, p4, q4, (n5 : Int), (n6 : Int), (n7 : Int), (n8 : Int)⟩) (by rfl) rfl rfl rfl RX (by kernel_rfl) (show (31 : Nat) ≤ 31 from Nat.le_refl 31) (by rfl) (st_whole _ _ rfl) ?_; intro wz RZ bz gz; have HZ := HX.other RX (by decide) (by decide) gz; have GZ := grown_own GX gz (Nat.le_refl _)))
      exact bodyPost_ret (results_blk rfl rfl RZ (by kernel_rfl) (by kernel_rfl)) rfl ⟨by rw [HRB.out, HCF.out], HZ, GZ⟩
    · have d1 : (k == 1) = false := by simpa using ck
      have HCF : Hid (cfB raw = ⟨k, ofF n0, b1, (n2 : Int), b3, p4, q4, (n5 : Int), (n6 : Int), (n7 : Int), (n8 : Int)⟩) := by show _ = _; rw [HRW.out]; unfold cfB; rw [if_neg ck]
      clear ck
      go_enter Tryd.func40, Tryd.ntmps40
      go_wp2_with (refine alloc_blk 31 (bpC zBp) (by rfl) rfl Tryd.bpZero ?_)
      generalize w.alloc (.cells (bpC zBp) 31) = w1 at *
      refine (N1.out _ H1).mono ?_
      rintro e w2 ⟨rfl, H2, g2⟩
      have R2 := R1.grown g2 (by simp; omega)
      have G2 := grown_same G1 g2
      clear R1 H1 G1 g2
      go_wp2_with fail
      refine (HO.out _).mono ?_
      rintro e w3 ⟨rfl, k3⟩
      have R3 := R2.kept k3
      have H3 := H2.below k3
      have G3 := grown_belowT G2 k3
      clear R2 H2 G2 k3
      go_wp2_with fail
      refine (N2.out _ H3).mono ?_
      rintro e w4 ⟨rfl, H4, g4⟩
      have R4 := R3.grown g4 (by simp; omega)
      have G4 := grown_same G3 g4
      clear R3 H3 G3 g4
      go_wp2_with fail
      refine (N3.out _ H4).mono ?_
      rintro e w5 ⟨rfl, H5, g5⟩
      have R5 := R4.grown g5 (by simp; omega)
      have G5 := grown_same G4 g5
      clear R4 H4 G4 g5
      go_wp2_with fail
      refine (N4.out _ H5).mono ?_
      rintro e w6 ⟨rfl, H6, g6⟩
      have R6 := R5.grown g6 (by simp; omega)
      have G6 := grown_same G5 g6
      clear R5 H5 G5 g6
      go_wp2_with fail
      refine (N5.out _ H6).mono ?_
      rintro e w7 ⟨rfl, H7, g7⟩
      have R7 := R6.grown g7 (by simp; omega)
      have G7 := grown_same G6 g7
      clear R6 H6 G6 g7
      go_wp2_with fail
      refine (N6.out _ H7).mono ?_
      rintro e w8 ⟨rfl, H8, g8⟩
      have R8 := R7.grown g8 (by simp; omega)
      have G8 := grown_same G7 g8
      clear R7 H7 G7 g8
      go_wp2_with fail
      refine (N7.out _ H8).mono ?_
      rintro e w9 ⟨rfl, H9, g9⟩
      have R9 := R8.grown g9 (by simp; omega)
      have G9 := grown_same G8 g9
      clear R8 H8 G8 g9
      go_wp2_with fail
      refine (N8.out _ H9).mono ?_
      rintro e w10 ⟨rfl, H10, g10⟩
      have R10 := R9.grown g10 (by simp; omega)
      have G10 := grown_same G9 g10
      clear R9 H9 G9 g10
      go_wp2_with fail
      refine (N9.out _ H10).mono ?_
      rintro e w11 ⟨rfl, H11, g11⟩
      have R11 := R10.grown g11 (by simp; omega)
      have G11 := grown_same G10 g11
      clear R10 H10 G10 g11
      have lt11 : w.heap.size < w11.heap.size := R11.lt
      go_wp2_with (first
        | (refine build_blk (t := 31) (bpC ⟨k, ofF n0, b1, (n2 : Int), b3, p4, q4, (n5 : Int), (n6 : Int), (n7 : Int), (n8 : Int)⟩) (by rfl) rfl (by kernel_rfl) ?_)
        | (refine alloc_blk 31 (bpC zBp) (by rfl) rfl Tryd.bpZero ?_)
        | (refine store_blk (k := 0) 31 (.agg (bpC ⟨k, ofF n0, b1, (n2 : Int), b3, p4, q4, (n5 : Int), (n6 : Int), (n7 : Int), (n8 : Int)⟩)) (bpC ⟨k, ofF n0, b1, (n2 : Int), b3, p4, q4, (n5 : Int), (n6 : Int), (n7 : Int), (n8 : Int)⟩) (by rfl) rfl rfl rfl (Blk.new w11 _ _) (by kernel_rfl) (show (31 : Nat) ≤ 31 from Nat.le_refl 31) (by rfl) (st_whole _ _ rfl) ?_; intro wv V3 b3' g3; have R3 := (R11.alloc (.cells (bpC zBp) 31)).below b3' lt11; have H3 := (H11.al (.cells (bpC zBp) 31)).other (Blk.new w11 _ _) (by decide) (by decide) g3; have G3 := grown_own (grown_same G11 (World.grownBy_alloc w11 (.cells (bpC zBp) 31) (some g))) g3 (by omega)))
      generalize w11.heap.size = A at *
      have lt3 : A < wv.heap.size := V3.lt
      clear R11 H11 G11 b3' g3
      go_wp2_with fail
      refine (err_ok t9 _ H3 c).mono ?_
      rintro e w6 ⟨rfl, rfl⟩
      have RX := R3
      have HX := H3
      have GX := G3
      go_wp2_with (first
        | (refine load_blk (k := 0) 31 (bpC ⟨k, ofF n0, b1, (n2 : Int), b3, p4, q4, (n5 : Int), (n6 : Int), (n7 : Int), (n8 : Int)⟩) (by rfl) rfl rfl V3 (by kernel_rfl) (by kernel_rfl) rfl ?_)
        | (refine store_blk (k := 0) 31 (.agg (bpC ⟨k, ofF n0, b1, (n2 : Int), b3, p4, q4, (n5 : Int), (n6 : Int), (n7 : Int), (n8 : Int)⟩)) (bpC ⟨k, ofF n0, b1, (n2 : Int), b3, p4, q4, (n5 : Int), (n6 : Int), (n7 : Int), (n8 : Int)⟩) (by rfl) rfl rfl rfl RX (by kernel_rfl) (show (31 : Nat) ≤ 31 from Nat.le_refl 31) (by rfl) (st_whole _ _ rfl) ?_; intro wz RZ bz gz; have HZ := HX.other RX (by decide) (by decide) gz; have GZ := grown_own GX gz (Nat.le_refl _)))
      exact bodyPost_ret (results_blk rfl rfl RZ (by kernel_rfl) (by kernel_rfl)) rfl ⟨by rw [HRB.out, HCF.out], HZ, GZ⟩
  · rw [if_neg c] at HRB
    go_enter Tryd.func40, Tryd.ntmps40
    go_wp2_with (refine alloc_blk 31 (bpC zBp) (by rfl) rfl Tryd.bpZero ?_)
    generalize w.alloc (.cells (bpC zBp) 31) = w1 at *
    refine (N1.out _ H1).mono ?_
    rintro e w2 ⟨rfl, H2, g2⟩
    have R2 := R1.grown g2 (by simp; omega)
    have G2 := grown_same G1 g2
    clear R1 H1 G1 g2
    go_wp2_with fail
    refine (HO.out _).mono ?_
    rintro e w3 ⟨rfl, k3⟩
    have R3 := R2.kept k3
    have H3 := H2.below k3
    have G3 := grown_belowT G2 k3
    clear R2 H2 G2 k3
    go_wp2_with fail
    refine (N2.out _ H3).mono ?_
    rintro e w4 ⟨rfl, H4, g4⟩
    have R4 := R3.grown g4 (by simp; omega)
    have G4 := grown_same G3 g4
    clear R3 H3 G3 g4
    go_wp2_with fail
    refine (N3.out _ H4).mono ?_
    rintro e w5 ⟨rfl, H5, g5⟩
    have R5 := R4.grown g5 (by simp; omega)
    have G5 := grown_same G4 g5
    clear R4 H4 G4 g5
    go_wp2_with fail
    refine (N4.out _ H5).mono ?_
    rintro e w6 ⟨rfl, H6, g6⟩
    have R6 := R5.grown g6 (by simp; omega)
    have G6 := grown_same G5 g6
    clear R5 H5 G5 g6
    go_wp2_with fail
    refine (N5.out _ H6).mono ?_
    rintro e w7 ⟨rfl, H7, g7⟩
    have R7 := R6.grown g7 (by simp; omega)
    have G7 := grown_same G6 g7
    clear R6 H6 G6 g7
    go_wp2_with fail
    refine (N6.out _ H7).mono ?_
    rintro e w8 ⟨rfl, H8, g8⟩
    have R8 := R7.grown g8 (by simp; omega)
    have G8 := grown_same G7 g8
    clear R7 H7 G7 g8
    go_wp2_with fail
    refine (N7.out _ H8).mono ?_
    rintro e w9 ⟨rfl, H9, g9⟩
    have R9 := R8.grown g9 (by simp; omega)
    have G9 := grown_same G8 g9
    clear R8 H8 G8 g9
    go_wp2_with fail
    refine (N8.out _ H9).mono ?_
    rintro e w10 ⟨rfl, H10, g10⟩
    have R10 := R9.grown g10 (by simp; omega)
    have G10 := grown_same G9 g10
    clear R9 H9 G9 g10
    go_wp2_with fail
    refine (N9.out _ H10).mono ?_
    rintro e w11 ⟨rfl, H11, g11⟩
    have R11 := R10.grown g11 (by simp; omega)
    have G11 := grown_same G10 g11
    clear R10 H10 G10 g11
    have lt11 : w.heap.size < w11.heap.size := R11.lt
    go_wp2_with (first
      | (refine build_blk (t := 31) (bpC ⟨k, ofF n0, b1, (n2 : Int), b3, p4, q4, (n5 : Int), (n6 : Int), (n7 : Int), (n8 : Int)⟩) (by rfl) rfl (by kernel_rfl) ?_)
      | (refine alloc_blk 31 (bpC zBp) (by rfl) rfl Tryd.bpZero ?_)
      | (refine store_blk (k := 0) 31 (.agg (bpC ⟨k, ofF n0, b1, (n2 : Int), b3, p4, q4, (n5 : Int), (n6 : Int), (n7 : Int), (n8 : Int)⟩)) (bpC ⟨k, ofF n0, b1, (n2 : Int), b3, p4, q4, (n5 : Int), (n6 : Int), (n7 : Int), (n8 : Int)⟩) (by rfl) rfl rfl rfl (Blk.new w11 _ _) (by kernel_rfl) (show (31 : Nat) ≤ 31 from Nat.le_refl 31) (by rfl) (st_whole _ _ rfl) ?_; intro wv V3 b3' g3; have R3 := (R11.alloc (.cells (bpC zBp) 31)).below b3' lt11; have H3 := (H11.al (.cells (bpC zBp) 31)).other (Blk.new w11 _ _) (by decide) (by decide) g3; have G3 := grown_own (grown_same G11 (World.grownBy_alloc w11 (.cells (bpC zBp) 31) (some g))) g3 (by omega)))
    generalize w11.heap.size = A at *
    have lt3 : A < wv.heap.size := V3.lt
    clear R11 H11 G11 b3' g3
    go_wp2_with fail
    refine (err_t t9 _ H3 c).mono ?_
    rintro e w6 ⟨rfl, hf6, k6⟩
    have HX := H3.below k6
    have RX := R3.kept k6
    have GX := grown_belowT G3 k6
    go_wp2_with (first
      | (refine build_blk (t := 31) (bpC zBp) (by rfl) rfl (by kernel_rfl) ?_)
      | (refine store_blk (k := 0) 31 (.agg (bpC zBp)) (bpC zBp) (by rfl) rfl rfl rfl RX (by kernel_rfl) (show (31 : Nat) ≤ 31 from Nat.le_refl 31) (by rfl) (st_whole _ _ rfl) ?_; intro wz RZ bz gz; have HZ := HX.other RX (by decide) (by decide) gz; have GZ := grown_own GX gz (Nat.le_refl _)))
    exact bodyPost_ret (results_blk rfl rfl RZ (by kernel_rfl) (by kernel_rfl)) rfl ⟨by rw [HRB.out], HZ, GZ⟩

end Go.Proofs.YtdjljnpbnhampaaDoor
