/- switchyardkeep.TagBack returns true at every tag and every number, and changes nothing that was there. -/
import Derived.Test.YtafmkgdpfjimkaaDoorTagLow
namespace Go.Proofs.YtafmkgdpfjimkaaDoor.tagBack
open Go.RowKit

theorem pack_is (t : Tg) (h : okT t = true) : ∃ N : Nat, packN t = (N : Int) ∧ N < 65536 ∧ N % 4096 ≠ 4095 ∧ unT t.s N = t := by
  obtain ⟨p0, p7, v0, v1⟩ := okT_all h
  obtain ⟨s, p, d, v⟩ := t
  dsimp only at p0 p7 v0 v1
  obtain ⟨P, rfl⟩ := Int.eq_ofNat_of_zero_le p0
  obtain ⟨V, rfl⟩ := Int.eq_ofNat_of_zero_le v0
  cases d
  · refine ⟨8192 * P + V, by simp [packN], by omega, by omega, ?_⟩
    have e1 : (8192 * P + V) / 8192 = P := by omega
    have e2 : (8192 * P + V) / 4096 % 2 = 0 := by omega
    have e3 : (8192 * P + V) % 4096 = V := by omega
    unfold unT
    rw [e1, e2, e3]
    rfl
  · refine ⟨8192 * P + V + 4096, by simp [packN], by omega, by omega, ?_⟩
    have e1 : (8192 * P + V + 4096) / 8192 = P := by omega
    have e2 : (8192 * P + V + 4096) / 4096 % 2 = 1 := by omega
    have e3 : (8192 * P + V + 4096) % 4096 = V := by omega
    unfold unT
    rw [e1, e2, e3]
    rfl

theorem unpack_is (s : Bool) (r : Nat) (h : r < 65536) (hv : r % 4096 ≠ 4095) : okT (unT s r) = true ∧ packN (unT s r) = r := by
  constructor
  · unfold okT unT
    dsimp only
    rw [decide_eq_true (show (0 : Int) ≤ ((r / 8192 : Nat) : Int) by omega), decide_eq_true (show ((r / 8192 : Nat) : Int) ≤ 7 by omega), decide_eq_true (show (0 : Int) ≤ ((r % 4096 : Nat) : Int) by omega), decide_eq_true (show ((r % 4096 : Nat) : Int) ≤ 4094 by omega)]
    rfl
  · unfold packN unT
    dsimp only
    rcases Nat.mod_two_eq_zero_or_one (r / 4096) with e | e
    · rw [e]; simp; omega
    · rw [e]; simp; omega

theorem mask12 (r : Nat) (h : r < 65536) : bits .and .i64 (r : Int) 4095 = ((r % 4096 : Nat) : Int) := by
  have e := i64_and_nat r 4095 h (by omega)
  rw [show ((4095 : Nat) : Int) = 4095 from rfl] at e
  rw [e, show (4095 : Nat) = 2 ^ 12 - 1 from rfl, Nat.and_two_pow_sub_one_eq_mod]

theorem lit_unpack_form (s : Bool) (n : Nat) (h : n < 65536) (hv : n % 4096 = 4095) (w : World) :
    Calls Tryd.prog 23 #[.bool s, .int .i64 n] w fun e w' => e = .returned (.tuple #[.agg #[.bool false, .int .i64 0, .bool false, .int .i64 0], .iface 24 (.int .i64 3)]) ∧ Below w.heap.size w w' := unpack_form s n h hv w

set_option maxHeartbeats 1600000 in
theorem walk (t : Tg) (n : Int) (w : World) (hL : HasLib w) :
    Calls Tryd.prog 7 #[tagV t, .int .i64 n] w fun e w' => e = .returned (.bool true) ∧ Below w.heap.size w w' := by
  have T0 : HasT (w.alloc (.cells #[.bool t.s, .int .i64 t.p, .bool t.d, .int .i64 t.v] 40)) w.heap.size t := heap_alloc_new w _
  have B0 : Below w.heap.size w (w.alloc (.cells #[.bool t.s, .int .i64 t.p, .bool t.d, .int .i64 t.v] 40)) := (Below.refl _ _).alloc (Nat.le_refl _) _
  have L0 := hL.below B0
  have hq : ∀ W, (Op.equalIn 10000 40 (.agg #[.bool t.s, .int .i64 t.p, .bool t.d, .int .i64 t.v]) (.agg #[.bool t.s, .int .i64 t.p, .bool t.d, .int .i64 t.v])).run Tryd.prog W = .ok true W := fun W => by
    have h := run_eql_tag t t W
    rw [eqT_refl] at h
    exact h
  unfold tagV
  go_enter Tryd.func7, Tryd.ntmps7
  go_wp2_with fail
  refine (tagged_any _ L0).mono ?_
  rintro e w1 ⟨rfl, k1⟩
  have B1 := B0.trans (k1.mono B0.size)
  have T1 := T0.below k1 T0.lt
  have L1 := L0.below k1
  have c0 := T1.c0
  have c1 := T1.c1
  have c2 := T1.c2
  have c3 := T1.c3
  clear T0 B0 L0 k1
  go_wp2_with fail
  refine (right_any t _).mono ?_
  rintro e w2 ⟨rfl, k2⟩
  have B2 := B1.trans (k2.mono B1.size)
  have T2 := T1.below k2 T1.lt
  have L2 := L1.below k2
  clear T1 B1 L1 k2 c0 c1 c2 c3
  cases hok : okT t with
  | true =>
    obtain ⟨N, hN, hlt, hv, hu⟩ := pack_is t hok
    have c0 := T2.c0
    have c1 := T2.c1
    have c2 := T2.c2
    have c3 := T2.c3
    have HN := Lib.hid hN
    have HU := Lib.hid hu
    clear hN hu
    go_wp2_with fail
    refine (pack_yes t hok _).mono ?_
    rintro e w3 ⟨rfl, k3⟩
    rw [HN.out]
    have B3 := B2.trans (k3.mono B2.size)
    have T3 := T2.below k3 T2.lt
    have L3 := L2.below k3
    clear T2 B2 L2 k3 c0 c1 c2 c3
    have c0 := T3.c0
    go_wp2_with fail
    refine (unpack_yes t.s N hlt hv _).mono ?_
    rintro e w4 ⟨rfl, k4⟩
    rw [HU.out]
    have B4 := B3.trans (k4.mono B3.size)
    have T4 := T3.below k4 T3.lt
    have L4 := L3.below k4
    clear T3 B3 L3 k4 c0
    unfold tagV
    have U5 : HasT (w4.alloc (.cells #[.bool t.s, .int .i64 t.p, .bool t.d, .int .i64 t.v] 40)) w4.heap.size t := heap_alloc_new _ _
    have T5 : HasT (w4.alloc (.cells #[.bool t.s, .int .i64 t.p, .bool t.d, .int .i64 t.v] 40)) w.heap.size t := (heap_alloc_old _ _ T4.lt).trans T4
    have B5 : Below w.heap.size w (w4.alloc (.cells #[.bool t.s, .int .i64 t.p, .bool t.d, .int .i64 t.v] 40)) := B4.alloc B4.size _
    have L5 := L4.below ((Below.refl _ _).alloc (Nat.le_refl _) (.cells #[.bool t.s, .int .i64 t.p, .bool t.d, .int .i64 t.v] 40))
    clear T4 B4 L4
    have c0 := T5.c0
    have c1 := T5.c1
    have c2 := T5.c2
    have c3 := T5.c3
    go_wp2_with fail
    refine (text_yes t hok _ L5.tab).mono ?_
    rintro e w6 ⟨rfl, k6⟩
    have B6 := B5.trans (k6.mono B5.size)
    have T6 := T5.below k6 T5.lt
    have U6 := U5.below k6 U5.lt
    have L6 := L5.below k6
    clear T5 B5 L5 U5 k6 c0 c1 c2 c3
    go_wp2_with fail
    refine (parse_textT t hok _ L6).mono ?_
    rintro e w7 ⟨rfl, k7⟩
    have B7 := B6.trans (k7.mono B6.size)
    have T7 := T6.below k7 T6.lt
    have U7 := U6.below k7 U6.lt
    clear T6 B6 L6 U6 k7
    unfold tagV
    have V8 : HasT (w7.alloc (.cells #[.bool t.s, .int .i64 t.p, .bool t.d, .int .i64 t.v] 40)) w7.heap.size t := heap_alloc_new _ _
    have T8 : HasT (w7.alloc (.cells #[.bool t.s, .int .i64 t.p, .bool t.d, .int .i64 t.v] 40)) w.heap.size t := (heap_alloc_old _ _ T7.lt).trans T7
    have U8 : HasT (w7.alloc (.cells #[.bool t.s, .int .i64 t.p, .bool t.d, .int .i64 t.v] 40)) w4.heap.size t := (heap_alloc_old _ _ U7.lt).trans U7
    have B8 : Below w.heap.size w (w7.alloc (.cells #[.bool t.s, .int .i64 t.p, .bool t.d, .int .i64 t.v] 40)) := B7.alloc B7.size _
    clear T7 U7 B7
    have c0 := T8.c0
    have c1 := T8.c1
    have c2 := T8.c2
    have c3 := T8.c3
    have d0 := U8.c0
    have d1 := U8.c1
    have d2 := U8.c2
    have d3 := U8.c3
    clear V8
    go_wp2_with fail
    refine (pick_any n 65536 _ (by omega) (by omega)).mono ?_
    rintro e w9 ⟨r, rfl, hr, rfl⟩
    clear d0 d1 d2 d3 U8 c1 c2 c3 hq
    by_cases hm : r % 4096 = 4095
    · have hb : bits .and .i64 (r : Int) 4095 = 4095 := by rw [mask12 r hr, hm]; rfl
      go_wp2_with fail
      refine (lit_unpack_form t.s r hr hm _).mono ?_
      rintro e w10 ⟨rfl, k10⟩
      have B10 := B8.trans (k10.mono B8.size)
      have B11 : Below w.heap.size w (w10.alloc (.cells #[.bool false, .int .i64 0, .bool false, .int .i64 0] 40)) := B10.alloc B10.size _
      go_wp2
      go_ret
      exact ⟨rfl, B11⟩
    · obtain ⟨ho, hp⟩ := unpack_is t.s r hr hm
      have HP := Lib.hid hp
      clear hp
      go_wp2_with fail
      refine (unpack_yes t.s r hr hm _).mono ?_
      rintro e w10 ⟨rfl, k10⟩
      have B10 := B8.trans (k10.mono B8.size)
      generalize unT t.s r = u at *
      have B11 : Below w.heap.size w (w10.alloc (.cells #[.bool u.s, .int .i64 u.p, .bool u.d, .int .i64 u.v] 40)) := B10.alloc B10.size _
      have U11 : HasT (w10.alloc (.cells #[.bool u.s, .int .i64 u.p, .bool u.d, .int .i64 u.v] 40)) w10.heap.size u := heap_alloc_new _ _
      unfold tagV
      go_wp2_with fail
      refine (pack_yes u ho _).mono ?_
      rintro e w12 ⟨rfl, k12⟩
      rw [HP.out]
      have B12 := B11.trans (k12.mono B11.size)
      go_wp2
      go_ret
      exact ⟨rfl, B12⟩
  | false =>
    go_wp2_with fail
    refine (pick_any n 65536 _ (by omega) (by omega)).mono ?_
    rintro e w9 ⟨r, rfl, hr, rfl⟩
    have c0 := T2.c0
    have B8 := B2
    clear hq
    by_cases hm : r % 4096 = 4095
    · have hb : bits .and .i64 (r : Int) 4095 = 4095 := by rw [mask12 r hr, hm]; rfl
      go_wp2_with fail
      refine (lit_unpack_form t.s r hr hm _).mono ?_
      rintro e w10 ⟨rfl, k10⟩
      have B10 := B8.trans (k10.mono B8.size)
      have B11 : Below w.heap.size w (w10.alloc (.cells #[.bool false, .int .i64 0, .bool false, .int .i64 0] 40)) := B10.alloc B10.size _
      go_wp2
      go_ret
      exact ⟨rfl, B11⟩
    · obtain ⟨ho, hp⟩ := unpack_is t.s r hr hm
      have HP := Lib.hid hp
      clear hp
      go_wp2_with fail
      refine (unpack_yes t.s r hr hm _).mono ?_
      rintro e w10 ⟨rfl, k10⟩
      have B10 := B8.trans (k10.mono B8.size)
      generalize unT t.s r = u at *
      have B11 : Below w.heap.size w (w10.alloc (.cells #[.bool u.s, .int .i64 u.p, .bool u.d, .int .i64 u.v] 40)) := B10.alloc B10.size _
      have U11 : HasT (w10.alloc (.cells #[.bool u.s, .int .i64 u.p, .bool u.d, .int .i64 u.v] 40)) w10.heap.size u := heap_alloc_new _ _
      unfold tagV
      go_wp2_with fail
      refine (pack_yes u ho _).mono ?_
      rintro e w12 ⟨rfl, k12⟩
      rw [HP.out]
      have B12 := B11.trans (k12.mono B11.size)
      go_wp2
      go_ret
      exact ⟨rfl, B12⟩
end Go.Proofs.YtafmkgdpfjimkaaDoor.tagBack
