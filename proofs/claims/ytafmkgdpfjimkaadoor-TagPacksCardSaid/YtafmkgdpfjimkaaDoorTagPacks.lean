/- switchyardlaw.TagPacks returns true at every tag, either kind and every number, and changes nothing that was there. -/
import Derived.Test.YtafmkgdpfjimkaaDoorTagNums
import Derived.Test.YtafmkgdpfjimkaaDoorTagEq
import Derived.Test.YtafmkgdpfjimkaaDoorBare
import Derived.Deep.RegionHeld3
import Derived.Deep.DrawnRows
namespace Go.Proofs.YtafmkgdpfjimkaaDoor.tagPacks
open Go.RowKit
attribute [local go_sem ↓] Go.wp_at_zero Go.wp_at_succ

theorem packs_any (t : Tg) : ∃ (n : Int) (er : Value) (ea : Int),
    (∀ w, Calls Tryd.prog 20 #[tagV t] w fun e w' => e = .returned (.tuple #[.int .i64 n, .int .i64 ea]) ∧ Below w.heap.size w w') ∧
    (∀ w, Calls Tryd.prog 21 #[tagV t] w fun e w' => e = .returned (.tuple #[.int .i64 n, er]) ∧ Below w.heap.size w w') ∧ Bare er ea := by
  cases h : okT t with
  | false => exact ⟨0, _, 1, refPack_no t h, pack_no t h, Bare.errno 1⟩
  | true => exact ⟨packN t, .nilIface, 0, refPack_yes t h, pack_yes t h, Bare.none⟩

theorem unpacks_any (s : Bool) (n : Int) : ∃ (u : Tg) (er : Value) (ea : Int),
    (∀ w, Calls Tryd.prog 22 #[.bool s, .int .i64 n] w fun e w' => e = .returned (.tuple #[tagV u, .int .i64 ea]) ∧ Below w.heap.size w w') ∧
    (∀ w, Calls Tryd.prog 23 #[.bool s, .int .i64 n] w fun e w' => e = .returned (.tuple #[tagV u, er]) ∧ Below w.heap.size w w') ∧ Bare er ea := by
  by_cases h : n < 0 ∨ 65535 < n
  · exact ⟨noT, _, 2, refUnpack_range s n h, unpack_range s n h, Bare.errno 2⟩
  · obtain ⟨N, rfl⟩ := Int.eq_ofNat_of_zero_le (show 0 ≤ n by omega)
    by_cases hv : N % 4096 = 4095
    · exact ⟨noT, _, 3, refUnpack_form s N (by omega) hv, unpack_form s N (by omega) hv, Bare.errno 3⟩
    · exact ⟨unT s N, .nilIface, 0, refUnpack_yes s N (by omega) hv, unpack_yes s N (by omega) hv, Bare.none⟩

theorem right_lit (t : Tg) (w : World) :
    Calls Tryd.prog 24 #[.agg #[.bool t.s, .int .i64 t.p, .bool t.d, .int .i64 t.v]] w fun e w' => e = .returned (.bool (okT t)) ∧ Below w.heap.size w w' := right_any t w
theorem refRight_lit (t : Tg) (w : World) :
    Calls Tryd.prog 25 #[.agg #[.bool t.s, .int .i64 t.p, .bool t.d, .int .i64 t.v]] w fun e w' => e = .returned (.bool (okT t)) ∧ Below w.heap.size w w' := refRight_any t w

set_option maxHeartbeats 1600000 in
set_option maxRecDepth 100000 in
theorem walk (t : Tg) (s : Bool) (n : Int) (w : World) (hE : HasErr w) :
    Calls Tryd.prog 5 #[tagV t, .bool s, .int .i64 n] w fun e w' => e = .returned (.bool true) ∧ Below w.heap.size w w' := by
  obtain ⟨m, er, ea, p1, p2, p3⟩ := packs_any t
  obtain ⟨u, fr, fa, q1, q2, q3⟩ := unpacks_any s n
  have P1 := Lib.hid p1
  have P2 := Lib.hid p2
  have P3 : Hid (∀ w, HasErr w → Calls Tryd.prog 14 #[er, .int .i64 ea] w fun e w' => e = .returned (.bool true) ∧ Below w.heap.size w w') := Lib.hid p3
  have Q1 := Lib.hid q1
  have Q2 := Lib.hid q2
  have Q3 : Hid (∀ w, HasErr w → Calls Tryd.prog 14 #[fr, .int .i64 fa] w fun e w' => e = .returned (.bool true) ∧ Below w.heap.size w w') := Lib.hid q3
  clear p1 p2 p3 q1 q2 q3
  have hq : ∀ W, (Op.equalIn 10000 40 (.agg #[.bool u.s, .int .i64 u.p, .bool u.d, .int .i64 u.v]) (.agg #[.bool u.s, .int .i64 u.p, .bool u.d, .int .i64 u.v])).run Tryd.prog W = .ok true W := fun W => by
    have h := run_eql_tag u u W
    rw [eqT_refl] at h
    exact h
  have ht0 : HasT (w.alloc (.cells #[.bool t.s, .int .i64 t.p, .bool t.d, .int .i64 t.v] 40)) w.heap.size t := heap_alloc_new w _
  have hb0 : Below w.heap.size w (w.alloc (.cells #[.bool t.s, .int .i64 t.p, .bool t.d, .int .i64 t.v] 40)) := (Below.refl _ _).alloc (Nat.le_refl _) _
  unfold tagV
  go_enter Tryd.func5, Tryd.ntmps5
  go_wp2_with fail
  refine (P1.out _).mono ?_
  rintro e w3 ⟨rfl, k3⟩
  have hb3 := hb0.trans (k3.mono hb0.size)
  have ht3 := ht0.below k3 ht0.lt
  have c0 := ht3.c0
  have c1 := ht3.c1
  have c2 := ht3.c2
  have c3 := ht3.c3
  clear hb0 k3 ht0
  go_wp2_with fail
  refine (P2.out _).mono ?_
  rintro e w4 ⟨rfl, k4⟩
  have hb4 := hb3.trans (k4.mono hb3.size)
  have ht4 := ht3.below k4 ht3.lt
  clear hb3 k4 ht3 c0 c1 c2 c3
  go_wp2_with fail
  refine (Q1.out _).mono ?_
  rintro e w5 ⟨rfl, k5⟩
  have hb5 := hb4.trans (k5.mono hb4.size)
  have ht5 := ht4.below k5 ht4.lt
  have hs5 := hb5.size
  clear hb4 k5 ht4
  unfold tagV
  have hc5 : HasT (w5.alloc (.cells #[.bool u.s, .int .i64 u.p, .bool u.d, .int .i64 u.v] 40)) w5.heap.size u := heap_alloc_new _ _
  have hd5 : HasT (w5.alloc (.cells #[.bool u.s, .int .i64 u.p, .bool u.d, .int .i64 u.v] 40)) w.heap.size t := (heap_alloc_old _ _ ht5.lt).trans ht5
  have hb5' : Below w.heap.size w (w5.alloc (.cells #[.bool u.s, .int .i64 u.p, .bool u.d, .int .i64 u.v] 40)) := hb5.alloc hs5 _
  clear hb5 ht5
  go_wp2_with fail
  refine (Q2.out _).mono ?_
  rintro e w6 ⟨rfl, k6⟩
  have hb6 := hb5'.trans (k6.mono hb5'.size)
  have ht6 : HasT w6 w.heap.size t := hd5.below k6 hd5.lt
  have hc6 : HasT w6 w5.heap.size u := hc5.below k6 hc5.lt
  have hs6 := hb6.size
  clear hb5' k6 hd5 hc5
  unfold tagV
  have ht7 : HasT (w6.alloc (.cells #[.bool u.s, .int .i64 u.p, .bool u.d, .int .i64 u.v] 40)) w.heap.size t := (heap_alloc_old _ _ ht6.lt).trans ht6
  have hc7 : HasT (w6.alloc (.cells #[.bool u.s, .int .i64 u.p, .bool u.d, .int .i64 u.v] 40)) w5.heap.size u := (heap_alloc_old _ _ hc6.lt).trans hc6
  have hd7 : HasT (w6.alloc (.cells #[.bool u.s, .int .i64 u.p, .bool u.d, .int .i64 u.v] 40)) w6.heap.size u := heap_alloc_new _ _
  have hb7 : Below w.heap.size w (w6.alloc (.cells #[.bool u.s, .int .i64 u.p, .bool u.d, .int .i64 u.v] 40)) := hb6.alloc hs6 _
  clear ht6 hc6 hb6
  go_wp2
  generalize w6.alloc (.cells #[.bool u.s, .int .i64 u.p, .bool u.d, .int .i64 u.v] 40) = w7 at *
  have hE7 := (hE.below hb7)
  have S7 : w7.cell? ⟨w.heap.size, 0, none⟩ = some (.bool t.s) ∧ w7.cell? ⟨w.heap.size, 1, none⟩ = some (.int .i64 t.p) ∧ w7.cell? ⟨w.heap.size, 2, none⟩ = some (.bool t.d) ∧ w7.cell? ⟨w.heap.size, 3, none⟩ = some (.int .i64 t.v) ∧ w7.cell? ⟨w5.heap.size, 0, none⟩ = some (.bool u.s) ∧ w7.cell? ⟨w5.heap.size, 1, none⟩ = some (.int .i64 u.p) ∧ w7.cell? ⟨w5.heap.size, 2, none⟩ = some (.bool u.d) ∧ w7.cell? ⟨w5.heap.size, 3, none⟩ = some (.int .i64 u.v) ∧ w7.cell? ⟨w6.heap.size, 0, none⟩ = some (.bool u.s) ∧ w7.cell? ⟨w6.heap.size, 1, none⟩ = some (.int .i64 u.p) ∧ w7.cell? ⟨w6.heap.size, 2, none⟩ = some (.bool u.d) ∧ w7.cell? ⟨w6.heap.size, 3, none⟩ = some (.int .i64 u.v) := ⟨ht7.c0, ht7.c1, ht7.c2, ht7.c3, hc7.c0, hc7.c1, hc7.c2, hc7.c3, hd7.c0, hd7.c1, hd7.c2, hd7.c3⟩
  go_region_held3 (fun w' => w'.cell? ⟨w.heap.size, 0, none⟩ = some (.bool t.s) ∧ w'.cell? ⟨w.heap.size, 1, none⟩ = some (.int .i64 t.p) ∧ w'.cell? ⟨w.heap.size, 2, none⟩ = some (.bool t.d) ∧ w'.cell? ⟨w.heap.size, 3, none⟩ = some (.int .i64 t.v) ∧ w'.cell? ⟨w5.heap.size, 0, none⟩ = some (.bool u.s) ∧ w'.cell? ⟨w5.heap.size, 1, none⟩ = some (.int .i64 u.p) ∧ w'.cell? ⟨w5.heap.size, 2, none⟩ = some (.bool u.d) ∧ w'.cell? ⟨w5.heap.size, 3, none⟩ = some (.int .i64 u.v) ∧ w'.cell? ⟨w6.heap.size, 0, none⟩ = some (.bool u.s) ∧ w'.cell? ⟨w6.heap.size, 1, none⟩ = some (.int .i64 u.p) ∧ w'.cell? ⟨w6.heap.size, 2, none⟩ = some (.bool u.d) ∧ w'.cell? ⟨w6.heap.size, 3, none⟩ = some (.int .i64 u.v))
    (first
      | exact S11
      | exact S10
      | exact S9
      | exact S8
      | exact S7)
    (first
      | (go_at_call 14; (with_reducible refine (P3.out _ ?_).mono ?_); (exact hE7); rintro e w8 ⟨rfl, k8⟩; have ht8 : HasT w8 _ _ := HasT.below ht7.drew k8 ht7.lt; have hc8 : HasT w8 _ _ := HasT.below hc7.drew k8 hc7.lt; have hd8 : HasT w8 _ _ := HasT.below hd7.drew k8 hd7.lt; have S8 : w8.cell? ⟨w.heap.size, 0, none⟩ = some (.bool t.s) ∧ w8.cell? ⟨w.heap.size, 1, none⟩ = some (.int .i64 t.p) ∧ w8.cell? ⟨w.heap.size, 2, none⟩ = some (.bool t.d) ∧ w8.cell? ⟨w.heap.size, 3, none⟩ = some (.int .i64 t.v) ∧ w8.cell? ⟨w5.heap.size, 0, none⟩ = some (.bool u.s) ∧ w8.cell? ⟨w5.heap.size, 1, none⟩ = some (.int .i64 u.p) ∧ w8.cell? ⟨w5.heap.size, 2, none⟩ = some (.bool u.d) ∧ w8.cell? ⟨w5.heap.size, 3, none⟩ = some (.int .i64 u.v) ∧ w8.cell? ⟨w6.heap.size, 0, none⟩ = some (.bool u.s) ∧ w8.cell? ⟨w6.heap.size, 1, none⟩ = some (.int .i64 u.p) ∧ w8.cell? ⟨w6.heap.size, 2, none⟩ = some (.bool u.d) ∧ w8.cell? ⟨w6.heap.size, 3, none⟩ = some (.int .i64 u.v) := ⟨ht8.c0, ht8.c1, ht8.c2, ht8.c3, hc8.c0, hc8.c1, hc8.c2, hc8.c3, hd8.c0, hd8.c1, hd8.c2, hd8.c3⟩)
      | (go_at_call 14; (with_reducible refine (Q3.out _ ?_).mono ?_); (exact HasErr.below (w := w7.drew) hE7 k8); rintro e w9 ⟨rfl, k9⟩; have ht9 : HasT w9 _ _ := HasT.below ht8 k9 ht8.lt; have hc9 : HasT w9 _ _ := HasT.below hc8 k9 hc8.lt; have hd9 : HasT w9 _ _ := HasT.below hd8 k9 hd8.lt; have S9 : w9.cell? ⟨w.heap.size, 0, none⟩ = some (.bool t.s) ∧ w9.cell? ⟨w.heap.size, 1, none⟩ = some (.int .i64 t.p) ∧ w9.cell? ⟨w.heap.size, 2, none⟩ = some (.bool t.d) ∧ w9.cell? ⟨w.heap.size, 3, none⟩ = some (.int .i64 t.v) ∧ w9.cell? ⟨w5.heap.size, 0, none⟩ = some (.bool u.s) ∧ w9.cell? ⟨w5.heap.size, 1, none⟩ = some (.int .i64 u.p) ∧ w9.cell? ⟨w5.heap.size, 2, none⟩ = some (.bool u.d) ∧ w9.cell? ⟨w5.heap.size, 3, none⟩ = some (.int .i64 u.v) ∧ w9.cell? ⟨w6.heap.size, 0, none⟩ = some (.bool u.s) ∧ w9.cell? ⟨w6.heap.size, 1, none⟩ = some (.int .i64 u.p) ∧ w9.cell? ⟨w6.heap.size, 2, none⟩ = some (.bool u.d) ∧ w9.cell? ⟨w6.heap.size, 3, none⟩ = some (.int .i64 u.v) := ⟨ht9.c0, ht9.c1, ht9.c2, ht9.c3, hc9.c0, hc9.c1, hc9.c2, hc9.c3, hd9.c0, hd9.c1, hd9.c2, hd9.c3⟩)
      | (go_at_call 24; (with_reducible refine (right_lit t _).mono ?_); rintro e w10 ⟨rfl, k10⟩; have ht10 : HasT w10 _ _ := HasT.below ht9 k10 ht9.lt; have hc10 : HasT w10 _ _ := HasT.below hc9 k10 hc9.lt; have hd10 : HasT w10 _ _ := HasT.below hd9 k10 hd9.lt; have S10 : w10.cell? ⟨w.heap.size, 0, none⟩ = some (.bool t.s) ∧ w10.cell? ⟨w.heap.size, 1, none⟩ = some (.int .i64 t.p) ∧ w10.cell? ⟨w.heap.size, 2, none⟩ = some (.bool t.d) ∧ w10.cell? ⟨w.heap.size, 3, none⟩ = some (.int .i64 t.v) ∧ w10.cell? ⟨w5.heap.size, 0, none⟩ = some (.bool u.s) ∧ w10.cell? ⟨w5.heap.size, 1, none⟩ = some (.int .i64 u.p) ∧ w10.cell? ⟨w5.heap.size, 2, none⟩ = some (.bool u.d) ∧ w10.cell? ⟨w5.heap.size, 3, none⟩ = some (.int .i64 u.v) ∧ w10.cell? ⟨w6.heap.size, 0, none⟩ = some (.bool u.s) ∧ w10.cell? ⟨w6.heap.size, 1, none⟩ = some (.int .i64 u.p) ∧ w10.cell? ⟨w6.heap.size, 2, none⟩ = some (.bool u.d) ∧ w10.cell? ⟨w6.heap.size, 3, none⟩ = some (.int .i64 u.v) := ⟨ht10.c0, ht10.c1, ht10.c2, ht10.c3, hc10.c0, hc10.c1, hc10.c2, hc10.c3, hd10.c0, hd10.c1, hd10.c2, hd10.c3⟩)
      | (go_at_call 25; (with_reducible refine (refRight_lit t _).mono ?_); rintro e w11 ⟨rfl, k11⟩; have ht11 : HasT w11 _ _ := HasT.below ht10 k11 ht10.lt; have hc11 : HasT w11 _ _ := HasT.below hc10 k11 hc10.lt; have hd11 : HasT w11 _ _ := HasT.below hd10 k11 hd10.lt; have S11 : w11.cell? ⟨w.heap.size, 0, none⟩ = some (.bool t.s) ∧ w11.cell? ⟨w.heap.size, 1, none⟩ = some (.int .i64 t.p) ∧ w11.cell? ⟨w.heap.size, 2, none⟩ = some (.bool t.d) ∧ w11.cell? ⟨w.heap.size, 3, none⟩ = some (.int .i64 t.v) ∧ w11.cell? ⟨w5.heap.size, 0, none⟩ = some (.bool u.s) ∧ w11.cell? ⟨w5.heap.size, 1, none⟩ = some (.int .i64 u.p) ∧ w11.cell? ⟨w5.heap.size, 2, none⟩ = some (.bool u.d) ∧ w11.cell? ⟨w5.heap.size, 3, none⟩ = some (.int .i64 u.v) ∧ w11.cell? ⟨w6.heap.size, 0, none⟩ = some (.bool u.s) ∧ w11.cell? ⟨w6.heap.size, 1, none⟩ = some (.int .i64 u.p) ∧ w11.cell? ⟨w6.heap.size, 2, none⟩ = some (.bool u.d) ∧ w11.cell? ⟨w6.heap.size, 3, none⟩ = some (.int .i64 u.v) := ⟨ht11.c0, ht11.c1, ht11.c2, ht11.c3, hc11.c0, hc11.c1, hc11.c2, hc11.c3, hd11.c0, hd11.c1, hd11.c2, hd11.c3⟩))
  all_goals (
    go_wp2
    go_ret
    exact ⟨by simp, (((hb7.drew.trans (k8.mono hb7.size)).trans (k9.mono (Nat.le_trans hb7.size k8.size))).trans (k10.mono (Nat.le_trans (Nat.le_trans hb7.size k8.size) k9.size))).trans (k11.mono (Nat.le_trans (Nat.le_trans (Nat.le_trans hb7.size k8.size) k9.size) k10.size))⟩)
end Go.Proofs.YtafmkgdpfjimkaaDoor.tagPacks
