/- tag.Pack, tag.Unpack and the reference's, at every argument; nothing that was there is changed. -/
import Derived.Test.YtafmkgdpfjimkaaDoorTagParts
import Derived.Laws.BitsAllLaws
namespace Go.Proofs.YtafmkgdpfjimkaaDoor
open Go.RowKit

/-- A tag as a number. -/
def packN (t : Tg) : Int := 8192 * t.p + t.v + (if t.d then 4096 else 0)

theorem okT_all {t : Tg} (h : okT t = true) : 0 ≤ t.p ∧ t.p ≤ 7 ∧ 0 ≤ t.v ∧ t.v ≤ 4094 := by
  simp only [okT, Bool.and_eq_true, decide_eq_true_eq] at h
  exact ⟨h.1.1, h.1.2, h.2.1, h.2.2⟩

theorem pack_no (t : Tg) (h : okT t = false) (w : World) :
    Calls Tryd.prog 21 #[tagV t] w fun e w' => e = .returned (.tuple #[.int .i64 0, .iface 24 (.int .i64 1)]) ∧ Below w.heap.size w w' := by
  have B0 : Below w.heap.size w (w.alloc (.cells #[.bool t.s, .int .i64 t.p, .bool t.d, .int .i64 t.v] 40)) := (Below.refl _ _).alloc (Nat.le_refl _) _
  unfold tagV
  go_enter Tryd.func21, Tryd.ntmps21
  go_wp2_with fail
  refine (right_any t _).mono ?_
  rintro e w1 ⟨rfl, k1⟩
  rw [h]
  go_wp2
  go_ret2
  exact ⟨rfl, B0.trans (k1.mono (by simp))⟩

theorem refPack_no (t : Tg) (h : okT t = false) (w : World) :
    Calls Tryd.prog 20 #[tagV t] w fun e w' => e = .returned (.tuple #[.int .i64 0, .int .i64 1]) ∧ Below w.heap.size w w' := by
  have B0 : Below w.heap.size w (w.alloc (.cells #[.bool t.s, .int .i64 t.p, .bool t.d, .int .i64 t.v] 40)) := (Below.refl _ _).alloc (Nat.le_refl _) _
  unfold tagV
  go_enter Tryd.func20, Tryd.ntmps20
  go_wp2_with fail
  refine (refRight_any t _).mono ?_
  rintro e w1 ⟨rfl, k1⟩
  rw [h]
  go_wp2
  go_ret2
  exact ⟨rfl, B0.trans (k1.mono (by simp))⟩

/-- A tag lies in a block of its own. -/
def HasT (w : World) (B : Nat) (t : Tg) : Prop := w.heap[B]? = some (.cells #[.bool t.s, .int .i64 t.p, .bool t.d, .int .i64 t.v] 40 (0, 0))

theorem HasT.c0 {w : World} {B : Nat} {t : Tg} (h : HasT w B t) : w.cell? ⟨B, 0, none⟩ = some (.bool t.s) := (Joins.cell_of_block h 0).trans rfl
theorem HasT.c1 {w : World} {B : Nat} {t : Tg} (h : HasT w B t) : w.cell? ⟨B, 1, none⟩ = some (.int .i64 t.p) := (Joins.cell_of_block h 1).trans rfl
theorem HasT.c2 {w : World} {B : Nat} {t : Tg} (h : HasT w B t) : w.cell? ⟨B, 2, none⟩ = some (.bool t.d) := (Joins.cell_of_block h 2).trans rfl
theorem HasT.c3 {w : World} {B : Nat} {t : Tg} (h : HasT w B t) : w.cell? ⟨B, 3, none⟩ = some (.int .i64 t.v) := (Joins.cell_of_block h 3).trans rfl
theorem HasT.lt {w : World} {B : Nat} {t : Tg} (h : HasT w B t) : B < w.heap.size := World.block_lt_of_cell? w _ h.c0
theorem HasT.below {w w' : World} {B C : Nat} {t : Tg} (h : HasT w B t) (hb : Below C w w') (hC : B < C) : HasT w' B t := (hb.block _ hC).trans h
theorem HasT.drew {w : World} {B : Nat} {t : Tg} (h : HasT w B t) : HasT w.drew B t := h

theorem pack_yes (t : Tg) (h : okT t = true) (w : World) :
    Calls Tryd.prog 21 #[tagV t] w fun e w' => e = .returned (.tuple #[.int .i64 (packN t), .nilIface]) ∧ Below w.heap.size w w' := by
  obtain ⟨p0, p7, v0, v1⟩ := okT_all h
  have B0 : Below w.heap.size w (w.alloc (.cells #[.bool t.s, .int .i64 t.p, .bool t.d, .int .i64 t.v] 40)) := (Below.refl _ _).alloc (Nat.le_refl _) _
  have T0 : HasT (w.alloc (.cells #[.bool t.s, .int .i64 t.p, .bool t.d, .int .i64 t.v] 40)) w.heap.size t := heap_alloc_new w _
  obtain ⟨s, p, d, v⟩ := t
  unfold tagV
  go_enter Tryd.func21, Tryd.ntmps21
  go_wp2_with fail
  refine (right_any ⟨s, p, d, v⟩ _).mono ?_
  rintro e w1 ⟨rfl, k1⟩
  rw [h]
  have T1 := T0.below k1 T0.lt
  have c1 := T1.c1
  have c2 := T1.c2
  have c3 := T1.c3
  have B1 := B0.trans (k1.mono (by simp))
  clear k1 T0 T1 B0
  dsimp only at p0 p7 v0 v1 c1 c2 c3
  cases d
  all_goals (
    go_wp2
    go_ret2
    exact ⟨by simp [packN], B1⟩)

theorem refPack_yes (t : Tg) (h : okT t = true) (w : World) :
    Calls Tryd.prog 20 #[tagV t] w fun e w' => e = .returned (.tuple #[.int .i64 (packN t), .int .i64 0]) ∧ Below w.heap.size w w' := by
  obtain ⟨p0, p7, v0, v1⟩ := okT_all h
  have B0 : Below w.heap.size w (w.alloc (.cells #[.bool t.s, .int .i64 t.p, .bool t.d, .int .i64 t.v] 40)) := (Below.refl _ _).alloc (Nat.le_refl _) _
  have T0 : HasT (w.alloc (.cells #[.bool t.s, .int .i64 t.p, .bool t.d, .int .i64 t.v] 40)) w.heap.size t := heap_alloc_new w _
  obtain ⟨s, p, d, v⟩ := t
  unfold tagV
  go_enter Tryd.func20, Tryd.ntmps20
  go_wp2_with fail
  refine (refRight_any ⟨s, p, d, v⟩ _).mono ?_
  rintro e w1 ⟨rfl, k1⟩
  rw [h]
  have T1 := T0.below k1 T0.lt
  have c1 := T1.c1
  have c2 := T1.c2
  have c3 := T1.c3
  have B1 := B0.trans (k1.mono (by simp))
  clear k1 T0 T1 B0
  dsimp only at p0 p7 v0 v1 c1 c2 c3
  cases d
  all_goals (
    go_wp2
    go_ret2
    exact ⟨by simp [packN]; omega, B1⟩)

/-- A number as a tag. -/
def unT (s : Bool) (n : Nat) : Tg := ⟨s, (n / 8192 : Nat), n / 4096 % 2 == 1, (n % 4096 : Nat)⟩
/-- No tag. -/
def noT : Tg := ⟨false, 0, false, 0⟩

theorem unpack_range (s : Bool) (n : Int) (h : n < 0 ∨ 65535 < n) (w : World) :
    Calls Tryd.prog 23 #[.bool s, .int .i64 n] w fun e w' => e = .returned (.tuple #[tagV noT, .iface 24 (.int .i64 2)]) ∧ Below w.heap.size w w' := by
  by_cases h0 : n < 0
  · have h1 : decide (n < 0) = true := decide_eq_true h0
    go_enter Tryd.func23, Tryd.ntmps23
    go_wp2
    exact bodyPost_ret (v := .tuple #[tagV noT, .iface 24 (.int .i64 2)]) (by simp [results, Tryd.results23, go_sem, tagV, noT]) rfl ⟨rfl, (Below.refl _ _).alloc (Nat.le_refl _) _⟩
  · have h1 : decide (n < 0) = false := decide_eq_false h0
    have h2 : decide (65535 < n) = true := decide_eq_true (by omega)
    go_enter Tryd.func23, Tryd.ntmps23
    go_wp2
    exact bodyPost_ret (v := .tuple #[tagV noT, .iface 24 (.int .i64 2)]) (by simp [results, Tryd.results23, go_sem, tagV, noT]) rfl ⟨rfl, (Below.refl _ _).alloc (Nat.le_refl _) _⟩

theorem refUnpack_range (s : Bool) (n : Int) (h : n < 0 ∨ 65535 < n) (w : World) :
    Calls Tryd.prog 22 #[.bool s, .int .i64 n] w fun e w' => e = .returned (.tuple #[tagV noT, .int .i64 2]) ∧ Below w.heap.size w w' := by
  have hw : (decide (0 ≤ n) && decide (n ≤ 65535)) = false := by
    rw [Bool.and_eq_false_iff, decide_eq_false_iff_not, decide_eq_false_iff_not]; omega
  go_enter Tryd.func22, Tryd.ntmps22
  go_wp2_with fail
  refine (within_val n 0 65535 _).mono ?_
  rintro e w1 ⟨rfl, rfl⟩
  rw [hw]
  go_wp2
  exact bodyPost_ret (v := .tuple #[tagV noT, .int .i64 2]) (by simp [results, Tryd.results22, go_sem, tagV, noT]) rfl ⟨rfl, (Below.refl _ _).alloc (Nat.le_refl _) _⟩

theorem i64_and_nat (a b : Nat) (ha : a < 65536) (hb : b < 65536) : bits .and .i64 (a : Int) (b : Int) = ((a &&& b : Nat) : Int) := by
  have hx : a &&& b < 2 ^ 16 := Nat.and_lt_two_pow _ (by omega)
  have h1 : (BitVec.ofInt 64 (a : Int)).toNat = a := by
    rw [BitVec.ofInt_natCast, BitVec.toNat_ofNat]; exact Nat.mod_eq_of_lt (by omega)
  have h2 : (BitVec.ofInt 64 (b : Int)).toNat = b := by
    rw [BitVec.ofInt_natCast, BitVec.toNat_ofNat]; exact Nat.mod_eq_of_lt (by omega)
  show IntKind.i64.wrap ((BitVec.ofInt 64 (a : Int) &&& BitVec.ofInt 64 (b : Int)).toNat : Int) = _
  rw [BitVec.toNat_and, h1, h2, IntKind.wrap_i64]
  omega

theorem and4096 (n : Nat) : n &&& 4096 = 4096 * (n / 4096 % 2) := by
  apply Nat.eq_of_testBit_eq
  intro j
  show (n &&& 2 ^ 12).testBit j = (2 ^ 12 * (n / 2 ^ 12 % 2 ^ 1)).testBit j
  rw [Nat.testBit_and, Nat.testBit_two_pow_mul, Nat.testBit_mod_two_pow, Nat.testBit_div_two_pow, Nat.testBit_two_pow]
  by_cases h : 12 = j
  · subst h; simp
  · by_cases h2 : j ≥ 12
    · have : ¬ j - 12 < 1 := by omega
      simp [h, this]
    · simp [h, h2]

theorem bit12 (n : Nat) (h : n < 65536) : bits .and .i64 (n : Int) 4096 = ((4096 * (n / 4096 % 2) : Nat) : Int) := by
  have e := i64_and_nat n 4096 (by omega) (by omega)
  rw [show ((4096 : Nat) : Int) = 4096 from rfl] at e
  rw [e]
  rw [and4096]

theorem unpack_form (s : Bool) (n : Nat) (h : n < 65536) (hv : n % 4096 = 4095) (w : World) :
    Calls Tryd.prog 23 #[.bool s, .int .i64 n] w fun e w' => e = .returned (.tuple #[tagV noT, .iface 24 (.int .i64 3)]) ∧ Below w.heap.size w w' := by
  have h1 : decide ((n : Int) < 0) = false := decide_eq_false (by omega)
  have h2 : decide ((65535 : Int) < (n : Int)) = false := decide_eq_false (by omega)
  have h3 : (n : Int) % 4096 = 4095 := by omega
  go_enter Tryd.func23, Tryd.ntmps23
  go_wp2
  exact bodyPost_ret (v := .tuple #[tagV noT, .iface 24 (.int .i64 3)]) (by simp [results, Tryd.results23, go_sem, tagV, noT]) rfl ⟨rfl, (Below.refl _ _).alloc (Nat.le_refl _) _⟩

theorem refUnpack_form (s : Bool) (n : Nat) (h : n < 65536) (hv : n % 4096 = 4095) (w : World) :
    Calls Tryd.prog 22 #[.bool s, .int .i64 n] w fun e w' => e = .returned (.tuple #[tagV noT, .int .i64 3]) ∧ Below w.heap.size w w' := by
  have hw : (decide ((0 : Int) ≤ (n : Int)) && decide ((n : Int) ≤ 65535)) = true := by
    rw [Bool.and_eq_true, decide_eq_true_eq, decide_eq_true_eq]; omega
  have h3 : (n : Int) % 4096 = 4095 := by omega
  go_enter Tryd.func22, Tryd.ntmps22
  go_wp2_with fail
  refine (within_val n 0 65535 _).mono ?_
  rintro e w1 ⟨rfl, rfl⟩
  rw [hw]
  go_wp2
  exact bodyPost_ret (v := .tuple #[tagV noT, .int .i64 3]) (by simp [results, Tryd.results22, go_sem, tagV, noT]) rfl ⟨rfl, (Below.refl _ _).alloc (Nat.le_refl _) _⟩

theorem unpack_yes (s : Bool) (n : Nat) (h : n < 65536) (hv : n % 4096 ≠ 4095) (w : World) :
    Calls Tryd.prog 23 #[.bool s, .int .i64 n] w fun e w' => e = .returned (.tuple #[tagV (unT s n), .nilIface]) ∧ Below w.heap.size w w' := by
  have h1 : decide ((n : Int) < 0) = false := decide_eq_false (by omega)
  have h2 : decide ((65535 : Int) < (n : Int)) = false := decide_eq_false (by omega)
  have h3 : decide ((4094 : Int) < (n : Int) % 4096) = false := decide_eq_false (by omega)
  have hb := bit12 n h
  have hd : ((((4096 * (n / 4096 % 2) : Nat) : Int)) != 0) = (n / 4096 % 2 == 1) := by
    rcases Nat.mod_two_eq_zero_or_one (n / 4096) with h | h <;> simp [h]
  rw [← hb] at hd
  clear hb
  go_enter Tryd.func23, Tryd.ntmps23
  go_wp2
  exact bodyPost_ret (v := .tuple #[tagV (unT s n), .nilIface]) (by simp [results, Tryd.results23, go_sem, tagV, unT]) rfl ⟨rfl, (Below.refl _ _).alloc (Nat.le_refl _) _⟩

theorem refUnpack_yes (s : Bool) (n : Nat) (h : n < 65536) (hv : n % 4096 ≠ 4095) (w : World) :
    Calls Tryd.prog 22 #[.bool s, .int .i64 n] w fun e w' => e = .returned (.tuple #[tagV (unT s n), .int .i64 0]) ∧ Below w.heap.size w w' := by
  have hw : (decide ((0 : Int) ≤ (n : Int)) && decide ((n : Int) ≤ 65535)) = true := by
    rw [Bool.and_eq_true, decide_eq_true_eq, decide_eq_true_eq]; omega
  have h3 : ((n : Int) % 4096 == 4095) = false := by rw [beq_eq_false_iff_ne]; omega
  have hd : ((n : Int) / 4096 % 2 == 1) = (n / 4096 % 2 == 1) := by
    rw [Bool.eq_iff_iff]; simp only [beq_iff_eq]; omega
  go_enter Tryd.func22, Tryd.ntmps22
  go_wp2_with fail
  refine (within_val n 0 65535 _).mono ?_
  rintro e w1 ⟨rfl, rfl⟩
  rw [hw]
  go_wp2
  trace_state
  exact bodyPost_ret (v := .tuple #[tagV (unT s n), .int .i64 0]) (by simp [results, Tryd.results22, go_sem, tagV, unT]) rfl ⟨rfl, (Below.refl _ _).alloc (Nat.le_refl _) _⟩
end Go.Proofs.YtafmkgdpfjimkaaDoor
