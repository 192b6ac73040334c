/- switchyardlaw.MacKnows returns true at every two addresses and every number, and changes nothing that was there. -/
import Derived.Test.YtafmkgdpfjimkaaDoorRefRes
import Derived.Test.YtafmkgdpfjimkaaDoorMacRes
import Derived.Deep.RegionHeld3
import Derived.Deep.DrawnRows
namespace Go.Proofs.YtafmkgdpfjimkaaDoor.macKnows
open Go.RowKit
attribute [local go_sem ↓] Go.wp_at_zero Go.wp_at_succ

theorem text_ref (x : Nat → Nat) (hx : ∀ i, x i < 256) (w : World) (hz : HasTz w) :
    Calls Tryd.prog 13 #[.agg #[.int .u8 (x 0), .int .u8 (x 1), .int .u8 (x 2), .int .u8 (x 3), .int .u8 (x 4), .int .u8 (x 5)]] w fun e w' => e = .returned (.string ⟨(addrL x).toArray⟩) ∧ Below w.heap.size w w' := refText_any x hx w hz
theorem res_ref (x : Nat → Nat) (hx : ∀ i, x i < 256) (w : World) (hz : HasTz w) :
    Calls Tryd.prog 18 #[.agg #[.int .u8 (x 0), .int .u8 (x 1), .int .u8 (x 2), .int .u8 (x 3), .int .u8 (x 4), .int .u8 (x 5)]] w fun e w' => e = .returned (.int .i64 (resv x)) ∧ Below w.heap.size w w' := refReserved_any x hx w hz
theorem res_lit (x : Nat → Nat) (hx : ∀ i, x i < 256) (w : World) :
    Calls Tryd.prog 17 #[.agg #[.int .u8 (x 0), .int .u8 (x 1), .int .u8 (x 2), .int .u8 (x 3), .int .u8 (x 4), .int .u8 (x 5)]] w fun e w' => e = .returned (.int .i64 (resv x)) ∧ Below w.heap.size w w' := reserved_any x hx w
theorem group_lit (x : Nat → Nat) (hx : ∀ i, x i < 256) (g : Bool) (hg : ((((x 0 : Nat) : Int).tmod 2) == 1) = g) (w : World) :
    Calls Tryd.prog 16 #[.agg #[.int .u8 (x 0), .int .u8 (x 1), .int .u8 (x 2), .int .u8 (x 3), .int .u8 (x 4), .int .u8 (x 5)]] w fun e w' => e = .returned (.bool g) ∧ Below w.heap.size w w' :=
  (group_any x hx w).mono fun e w' h => ⟨by
    rw [h.1, ← hg]
    congr 2
    rw [Int.tmod_eq_emod_of_nonneg (by omega), Bool.eq_iff_iff]
    simp
    omega, h.2⟩
theorem less_lit (x y : Nat → Nat) (hx : ∀ i, x i < 256) (hy : ∀ i, y i < 256) (w : World) :
    Calls Tryd.prog 19 #[.agg #[.int .u8 (x 0), .int .u8 (x 1), .int .u8 (x 2), .int .u8 (x 3), .int .u8 (x 4), .int .u8 (x 5)], .agg #[.int .u8 (y 0), .int .u8 (y 1), .int .u8 (y 2), .int .u8 (y 3), .int .u8 (y 4), .int .u8 (y 5)]] w fun e w' => e = .returned (.bool (Op.bytesLess (addrL x) (addrL y))) ∧ Below w.heap.size w w' := less_any x y hx hy w

/-- The block of a known address. -/
def HasK (w : World) (B : Nat) (n : Int) : Prop := w.heap[B]? = some (.cells #[.int .u8 1, .int .u8 128, .int .u8 194, .int .u8 0, .int .u8 0, .int .u8 (n % 256)] 23 (0, 0))
theorem HasK.c0 {w : World} {B : Nat} {n : Int} (h : HasK w B n) : w.cell? ⟨B, 0, none⟩ = some (.int .u8 1) := (Joins.cell_of_block h 0).trans rfl
theorem HasK.c1 {w : World} {B : Nat} {n : Int} (h : HasK w B n) : w.cell? ⟨B, 1, none⟩ = some (.int .u8 128) := (Joins.cell_of_block h 1).trans rfl
theorem HasK.c2 {w : World} {B : Nat} {n : Int} (h : HasK w B n) : w.cell? ⟨B, 2, none⟩ = some (.int .u8 194) := (Joins.cell_of_block h 2).trans rfl
theorem HasK.c3 {w : World} {B : Nat} {n : Int} (h : HasK w B n) : w.cell? ⟨B, 3, none⟩ = some (.int .u8 0) := (Joins.cell_of_block h 3).trans rfl
theorem HasK.c4 {w : World} {B : Nat} {n : Int} (h : HasK w B n) : w.cell? ⟨B, 4, none⟩ = some (.int .u8 0) := (Joins.cell_of_block h 4).trans rfl
theorem HasK.c5 {w : World} {B : Nat} {n : Int} (h : HasK w B n) : w.cell? ⟨B, 5, none⟩ = some (.int .u8 (n % 256)) := (Joins.cell_of_block h 5).trans rfl
theorem HasK.lt {w : World} {B : Nat} {n : Int} (h : HasK w B n) : B < w.heap.size := World.block_lt_of_cell? w _ h.c0
theorem HasK.below {w w' : World} {B C : Nat} {n : Int} (h : HasK w B n) (hb : Below C w w') (hC : B < C) : HasK w' B n := (hb.block _ hC).trans h
theorem HasK.drew {w : World} {B : Nat} {n : Int} (h : HasK w B n) : HasK w.drew B n := h

theorem known_eq (n : Int) (w : World) : (Op.equalIn 10000 23 (.agg #[.int .u8 1, .int .u8 128, .int .u8 194, .int .u8 0, .int .u8 0, .int .u8 (n % 256)]) (.agg #[.int .u8 1, .int .u8 128, .int .u8 194, .int .u8 0, .int .u8 0, .int .u8 (n % 256)])).run Tryd.prog w = .ok true w := by
  obtain ⟨N, hN⟩ := Int.eq_ofNat_of_zero_le (show 0 ≤ n % 256 by omega)
  have hlt : N < 256 := by omega
  have h := run_eql_addr (knownF N) (knownF N) (knownF_lt N hlt) (knownF_lt N hlt) w
  rw [decide_eq_true rfl] at h
  rw [hN]
  exact h

set_option maxHeartbeats 1600000 in
set_option maxRecDepth 100000 in
theorem walk (x : Nat → Nat) (hx : ∀ i, x i < 256) (y : Nat → Nat) (hy : ∀ i, y i < 256) (n : Int) (w : World) (hz : HasTz w) :
    Calls Tryd.prog 4 #[addrV x, addrV y, .int .i64 n] w fun e w' => e = .returned (.bool true) ∧ Below w.heap.size w w' := by
  have hq := known_eq n
  have hn : IntKind.u8.wrap n = n % 256 := IntKind.wrap_u8 n
  obtain ⟨g, hg⟩ : ∃ g, ((((x 0 : Nat) : Int).tmod 2) == 1) = g := ⟨_, rfl⟩
  have hG := fun w => group_lit x hx g hg w
  have HX := Lib.hid hx
  have HY := Lib.hid hy
  have HG := Lib.hid hG
  clear hx hy hG
  have hx0 : HasA ((w.alloc (.cells #[.int .u8 (x 0), .int .u8 (x 1), .int .u8 (x 2), .int .u8 (x 3), .int .u8 (x 4), .int .u8 (x 5)] 23)).alloc (.cells #[.int .u8 (y 0), .int .u8 (y 1), .int .u8 (y 2), .int .u8 (y 3), .int .u8 (y 4), .int .u8 (y 5)] 23)) w.heap.size x := heap_alloc2_old w _ _
  have hy0 : HasA ((w.alloc (.cells #[.int .u8 (x 0), .int .u8 (x 1), .int .u8 (x 2), .int .u8 (x 3), .int .u8 (x 4), .int .u8 (x 5)] 23)).alloc (.cells #[.int .u8 (y 0), .int .u8 (y 1), .int .u8 (y 2), .int .u8 (y 3), .int .u8 (y 4), .int .u8 (y 5)] 23)) (w.heap.size + 1) y := heap_alloc2_new w _ _
  have hb0 : Below w.heap.size w ((w.alloc (.cells #[.int .u8 (x 0), .int .u8 (x 1), .int .u8 (x 2), .int .u8 (x 3), .int .u8 (x 4), .int .u8 (x 5)] 23)).alloc (.cells #[.int .u8 (y 0), .int .u8 (y 1), .int .u8 (y 2), .int .u8 (y 3), .int .u8 (y 4), .int .u8 (y 5)] 23)) := ((Below.refl _ _).alloc (Nat.le_refl _) _).alloc (by simp) _
  unfold addrV
  go_enter Tryd.func4, Tryd.ntmps4
  go_wp2_with fail
  refine (known_any n _).mono ?_
  rintro e w4 ⟨rfl, k4⟩
  have hb4 := below_then hb0 k4
  have hx4 : HasA w4 w.heap.size x := hx0.below k4 hx0.lt
  have hy4 : HasA w4 (w.heap.size + 1) y := hy0.below k4 hy0.lt
  have hs4 := hb4.size
  clear hb0 k4 hx0 hy0
  have hb5 : Below w.heap.size w (w4.alloc (.cells #[.int .u8 1, .int .u8 128, .int .u8 194, .int .u8 0, .int .u8 0, .int .u8 (n % 256)] 23)) := hb4.alloc hs4 _
  have hx5 : HasA (w4.alloc (.cells #[.int .u8 1, .int .u8 128, .int .u8 194, .int .u8 0, .int .u8 0, .int .u8 (n % 256)] 23)) w.heap.size x := (heap_alloc_old _ _ hx4.lt).trans hx4
  have hy5 : HasA (w4.alloc (.cells #[.int .u8 1, .int .u8 128, .int .u8 194, .int .u8 0, .int .u8 0, .int .u8 (n % 256)] 23)) (w.heap.size + 1) y := (heap_alloc_old _ _ hy4.lt).trans hy4
  have hk5 : HasK (w4.alloc (.cells #[.int .u8 1, .int .u8 128, .int .u8 194, .int .u8 0, .int .u8 0, .int .u8 (n % 256)] 23)) w4.heap.size n := heap_alloc_new _ _
  clear hb4 hx4 hy4
  have hz5 := hz.below hb5
  go_wp2
  generalize w4.alloc (.cells #[.int .u8 1, .int .u8 128, .int .u8 194, .int .u8 0, .int .u8 0, .int .u8 (n % 256)] 23) = w5 at *
  have S5 : w5.cell? ⟨w.heap.size, 0, none⟩ = some (.int .u8 (x 0)) ∧ w5.cell? ⟨w.heap.size, 1, none⟩ = some (.int .u8 (x 1)) ∧ w5.cell? ⟨w.heap.size, 2, none⟩ = some (.int .u8 (x 2)) ∧ w5.cell? ⟨w.heap.size, 3, none⟩ = some (.int .u8 (x 3)) ∧ w5.cell? ⟨w.heap.size, 4, none⟩ = some (.int .u8 (x 4)) ∧ w5.cell? ⟨w.heap.size, 5, none⟩ = some (.int .u8 (x 5)) ∧ w5.cell? ⟨w.heap.size + 1, 0, none⟩ = some (.int .u8 (y 0)) ∧ w5.cell? ⟨w.heap.size + 1, 1, none⟩ = some (.int .u8 (y 1)) ∧ w5.cell? ⟨w.heap.size + 1, 2, none⟩ = some (.int .u8 (y 2)) ∧ w5.cell? ⟨w.heap.size + 1, 3, none⟩ = some (.int .u8 (y 3)) ∧ w5.cell? ⟨w.heap.size + 1, 4, none⟩ = some (.int .u8 (y 4)) ∧ w5.cell? ⟨w.heap.size + 1, 5, none⟩ = some (.int .u8 (y 5)) ∧ w5.cell? ⟨w4.heap.size, 0, none⟩ = some (.int .u8 1) ∧ w5.cell? ⟨w4.heap.size, 1, none⟩ = some (.int .u8 128) ∧ w5.cell? ⟨w4.heap.size, 2, none⟩ = some (.int .u8 194) ∧ w5.cell? ⟨w4.heap.size, 3, none⟩ = some (.int .u8 0) ∧ w5.cell? ⟨w4.heap.size, 4, none⟩ = some (.int .u8 0) ∧ w5.cell? ⟨w4.heap.size, 5, none⟩ = some (.int .u8 (n % 256)) := ⟨hx5.c 0 (by omega), hx5.c 1 (by omega), hx5.c 2 (by omega), hx5.c 3 (by omega), hx5.c 4 (by omega), hx5.c 5 (by omega), hy5.c 0 (by omega), hy5.c 1 (by omega), hy5.c 2 (by omega), hy5.c 3 (by omega), hy5.c 4 (by omega), hy5.c 5 (by omega), hk5.c0, hk5.c1, hk5.c2, hk5.c3, hk5.c4, hk5.c5⟩
  go_region_held3 (fun w' => w'.cell? ⟨w.heap.size, 0, none⟩ = some (.int .u8 (x 0)) ∧ w'.cell? ⟨w.heap.size, 1, none⟩ = some (.int .u8 (x 1)) ∧ w'.cell? ⟨w.heap.size, 2, none⟩ = some (.int .u8 (x 2)) ∧ w'.cell? ⟨w.heap.size, 3, none⟩ = some (.int .u8 (x 3)) ∧ w'.cell? ⟨w.heap.size, 4, none⟩ = some (.int .u8 (x 4)) ∧ w'.cell? ⟨w.heap.size, 5, none⟩ = some (.int .u8 (x 5)) ∧ w'.cell? ⟨w.heap.size + 1, 0, none⟩ = some (.int .u8 (y 0)) ∧ w'.cell? ⟨w.heap.size + 1, 1, none⟩ = some (.int .u8 (y 1)) ∧ w'.cell? ⟨w.heap.size + 1, 2, none⟩ = some (.int .u8 (y 2)) ∧ w'.cell? ⟨w.heap.size + 1, 3, none⟩ = some (.int .u8 (y 3)) ∧ w'.cell? ⟨w.heap.size + 1, 4, none⟩ = some (.int .u8 (y 4)) ∧ w'.cell? ⟨w.heap.size + 1, 5, none⟩ = some (.int .u8 (y 5)) ∧ w'.cell? ⟨w4.heap.size, 0, none⟩ = some (.int .u8 1) ∧ w'.cell? ⟨w4.heap.size, 1, none⟩ = some (.int .u8 128) ∧ w'.cell? ⟨w4.heap.size, 2, none⟩ = some (.int .u8 194) ∧ w'.cell? ⟨w4.heap.size, 3, none⟩ = some (.int .u8 0) ∧ w'.cell? ⟨w4.heap.size, 4, none⟩ = some (.int .u8 0) ∧ w'.cell? ⟨w4.heap.size, 5, none⟩ = some (.int .u8 (n % 256)))
    (first
      | exact S11
      | exact S10
      | exact S9
      | exact S8
      | exact S7
      | exact S6
      | exact S5)
    (first
      | (go_at_call 16; (with_reducible refine (HG.out _).mono ?_); rintro e w6 ⟨rfl, k6⟩; have hx6 : HasA w6 _ _ := HasA.below hx5.drew k6 hx5.lt; have hy6 : HasA w6 _ _ := HasA.below hy5.drew k6 hy5.lt; have hk6 : HasK w6 _ _ := HasK.below hk5.drew k6 hk5.lt; have S6 : w6.cell? ⟨w.heap.size, 0, none⟩ = some (.int .u8 (x 0)) ∧ w6.cell? ⟨w.heap.size, 1, none⟩ = some (.int .u8 (x 1)) ∧ w6.cell? ⟨w.heap.size, 2, none⟩ = some (.int .u8 (x 2)) ∧ w6.cell? ⟨w.heap.size, 3, none⟩ = some (.int .u8 (x 3)) ∧ w6.cell? ⟨w.heap.size, 4, none⟩ = some (.int .u8 (x 4)) ∧ w6.cell? ⟨w.heap.size, 5, none⟩ = some (.int .u8 (x 5)) ∧ w6.cell? ⟨w.heap.size + 1, 0, none⟩ = some (.int .u8 (y 0)) ∧ w6.cell? ⟨w.heap.size + 1, 1, none⟩ = some (.int .u8 (y 1)) ∧ w6.cell? ⟨w.heap.size + 1, 2, none⟩ = some (.int .u8 (y 2)) ∧ w6.cell? ⟨w.heap.size + 1, 3, none⟩ = some (.int .u8 (y 3)) ∧ w6.cell? ⟨w.heap.size + 1, 4, none⟩ = some (.int .u8 (y 4)) ∧ w6.cell? ⟨w.heap.size + 1, 5, none⟩ = some (.int .u8 (y 5)) ∧ w6.cell? ⟨w4.heap.size, 0, none⟩ = some (.int .u8 1) ∧ w6.cell? ⟨w4.heap.size, 1, none⟩ = some (.int .u8 128) ∧ w6.cell? ⟨w4.heap.size, 2, none⟩ = some (.int .u8 194) ∧ w6.cell? ⟨w4.heap.size, 3, none⟩ = some (.int .u8 0) ∧ w6.cell? ⟨w4.heap.size, 4, none⟩ = some (.int .u8 0) ∧ w6.cell? ⟨w4.heap.size, 5, none⟩ = some (.int .u8 (n % 256)) := ⟨hx6.c 0 (by omega), hx6.c 1 (by omega), hx6.c 2 (by omega), hx6.c 3 (by omega), hx6.c 4 (by omega), hx6.c 5 (by omega), hy6.c 0 (by omega), hy6.c 1 (by omega), hy6.c 2 (by omega), hy6.c 3 (by omega), hy6.c 4 (by omega), hy6.c 5 (by omega), hk6.c0, hk6.c1, hk6.c2, hk6.c3, hk6.c4, hk6.c5⟩)
      | (go_at_call 17; (with_reducible refine (res_lit x HX.out _).mono ?_); rintro e w7 ⟨rfl, k7⟩; have hx7 : HasA w7 _ _ := HasA.below hx6 k7 hx6.lt; have hy7 : HasA w7 _ _ := HasA.below hy6 k7 hy6.lt; have hk7 : HasK w7 _ _ := HasK.below hk6 k7 hk6.lt; have S7 : w7.cell? ⟨w.heap.size, 0, none⟩ = some (.int .u8 (x 0)) ∧ w7.cell? ⟨w.heap.size, 1, none⟩ = some (.int .u8 (x 1)) ∧ w7.cell? ⟨w.heap.size, 2, none⟩ = some (.int .u8 (x 2)) ∧ w7.cell? ⟨w.heap.size, 3, none⟩ = some (.int .u8 (x 3)) ∧ w7.cell? ⟨w.heap.size, 4, none⟩ = some (.int .u8 (x 4)) ∧ w7.cell? ⟨w.heap.size, 5, none⟩ = some (.int .u8 (x 5)) ∧ w7.cell? ⟨w.heap.size + 1, 0, none⟩ = some (.int .u8 (y 0)) ∧ w7.cell? ⟨w.heap.size + 1, 1, none⟩ = some (.int .u8 (y 1)) ∧ w7.cell? ⟨w.heap.size + 1, 2, none⟩ = some (.int .u8 (y 2)) ∧ w7.cell? ⟨w.heap.size + 1, 3, none⟩ = some (.int .u8 (y 3)) ∧ w7.cell? ⟨w.heap.size + 1, 4, none⟩ = some (.int .u8 (y 4)) ∧ w7.cell? ⟨w.heap.size + 1, 5, none⟩ = some (.int .u8 (y 5)) ∧ w7.cell? ⟨w4.heap.size, 0, none⟩ = some (.int .u8 1) ∧ w7.cell? ⟨w4.heap.size, 1, none⟩ = some (.int .u8 128) ∧ w7.cell? ⟨w4.heap.size, 2, none⟩ = some (.int .u8 194) ∧ w7.cell? ⟨w4.heap.size, 3, none⟩ = some (.int .u8 0) ∧ w7.cell? ⟨w4.heap.size, 4, none⟩ = some (.int .u8 0) ∧ w7.cell? ⟨w4.heap.size, 5, none⟩ = some (.int .u8 (n % 256)) := ⟨hx7.c 0 (by omega), hx7.c 1 (by omega), hx7.c 2 (by omega), hx7.c 3 (by omega), hx7.c 4 (by omega), hx7.c 5 (by omega), hy7.c 0 (by omega), hy7.c 1 (by omega), hy7.c 2 (by omega), hy7.c 3 (by omega), hy7.c 4 (by omega), hy7.c 5 (by omega), hk7.c0, hk7.c1, hk7.c2, hk7.c3, hk7.c4, hk7.c5⟩)
      | (go_at_call 18; (with_reducible refine (res_ref x HX.out _ ?_).mono ?_); (exact HasTz.below (w := w6) (HasTz.below (w := w5.drew) hz5 k6) k7); rintro e w8 ⟨rfl, k8⟩; have hx8 : HasA w8 _ _ := HasA.below hx7 k8 hx7.lt; have hy8 : HasA w8 _ _ := HasA.below hy7 k8 hy7.lt; have hk8 : HasK w8 _ _ := HasK.below hk7 k8 hk7.lt; have S8 : w8.cell? ⟨w.heap.size, 0, none⟩ = some (.int .u8 (x 0)) ∧ w8.cell? ⟨w.heap.size, 1, none⟩ = some (.int .u8 (x 1)) ∧ w8.cell? ⟨w.heap.size, 2, none⟩ = some (.int .u8 (x 2)) ∧ w8.cell? ⟨w.heap.size, 3, none⟩ = some (.int .u8 (x 3)) ∧ w8.cell? ⟨w.heap.size, 4, none⟩ = some (.int .u8 (x 4)) ∧ w8.cell? ⟨w.heap.size, 5, none⟩ = some (.int .u8 (x 5)) ∧ w8.cell? ⟨w.heap.size + 1, 0, none⟩ = some (.int .u8 (y 0)) ∧ w8.cell? ⟨w.heap.size + 1, 1, none⟩ = some (.int .u8 (y 1)) ∧ w8.cell? ⟨w.heap.size + 1, 2, none⟩ = some (.int .u8 (y 2)) ∧ w8.cell? ⟨w.heap.size + 1, 3, none⟩ = some (.int .u8 (y 3)) ∧ w8.cell? ⟨w.heap.size + 1, 4, none⟩ = some (.int .u8 (y 4)) ∧ w8.cell? ⟨w.heap.size + 1, 5, none⟩ = some (.int .u8 (y 5)) ∧ w8.cell? ⟨w4.heap.size, 0, none⟩ = some (.int .u8 1) ∧ w8.cell? ⟨w4.heap.size, 1, none⟩ = some (.int .u8 128) ∧ w8.cell? ⟨w4.heap.size, 2, none⟩ = some (.int .u8 194) ∧ w8.cell? ⟨w4.heap.size, 3, none⟩ = some (.int .u8 0) ∧ w8.cell? ⟨w4.heap.size, 4, none⟩ = some (.int .u8 0) ∧ w8.cell? ⟨w4.heap.size, 5, none⟩ = some (.int .u8 (n % 256)) := ⟨hx8.c 0 (by omega), hx8.c 1 (by omega), hx8.c 2 (by omega), hx8.c 3 (by omega), hx8.c 4 (by omega), hx8.c 5 (by omega), hy8.c 0 (by omega), hy8.c 1 (by omega), hy8.c 2 (by omega), hy8.c 3 (by omega), hy8.c 4 (by omega), hy8.c 5 (by omega), hk8.c0, hk8.c1, hk8.c2, hk8.c3, hk8.c4, hk8.c5⟩)
      | (go_at_call 19; (with_reducible refine (less_lit x y HX.out HY.out _).mono ?_); rintro e w9 ⟨rfl, k9⟩; have hx9 : HasA w9 _ _ := HasA.below hx8 k9 hx8.lt; have hy9 : HasA w9 _ _ := HasA.below hy8 k9 hy8.lt; have hk9 : HasK w9 _ _ := HasK.below hk8 k9 hk8.lt; have S9 : w9.cell? ⟨w.heap.size, 0, none⟩ = some (.int .u8 (x 0)) ∧ w9.cell? ⟨w.heap.size, 1, none⟩ = some (.int .u8 (x 1)) ∧ w9.cell? ⟨w.heap.size, 2, none⟩ = some (.int .u8 (x 2)) ∧ w9.cell? ⟨w.heap.size, 3, none⟩ = some (.int .u8 (x 3)) ∧ w9.cell? ⟨w.heap.size, 4, none⟩ = some (.int .u8 (x 4)) ∧ w9.cell? ⟨w.heap.size, 5, none⟩ = some (.int .u8 (x 5)) ∧ w9.cell? ⟨w.heap.size + 1, 0, none⟩ = some (.int .u8 (y 0)) ∧ w9.cell? ⟨w.heap.size + 1, 1, none⟩ = some (.int .u8 (y 1)) ∧ w9.cell? ⟨w.heap.size + 1, 2, none⟩ = some (.int .u8 (y 2)) ∧ w9.cell? ⟨w.heap.size + 1, 3, none⟩ = some (.int .u8 (y 3)) ∧ w9.cell? ⟨w.heap.size + 1, 4, none⟩ = some (.int .u8 (y 4)) ∧ w9.cell? ⟨w.heap.size + 1, 5, none⟩ = some (.int .u8 (y 5)) ∧ w9.cell? ⟨w4.heap.size, 0, none⟩ = some (.int .u8 1) ∧ w9.cell? ⟨w4.heap.size, 1, none⟩ = some (.int .u8 128) ∧ w9.cell? ⟨w4.heap.size, 2, none⟩ = some (.int .u8 194) ∧ w9.cell? ⟨w4.heap.size, 3, none⟩ = some (.int .u8 0) ∧ w9.cell? ⟨w4.heap.size, 4, none⟩ = some (.int .u8 0) ∧ w9.cell? ⟨w4.heap.size, 5, none⟩ = some (.int .u8 (n % 256)) := ⟨hx9.c 0 (by omega), hx9.c 1 (by omega), hx9.c 2 (by omega), hx9.c 3 (by omega), hx9.c 4 (by omega), hx9.c 5 (by omega), hy9.c 0 (by omega), hy9.c 1 (by omega), hy9.c 2 (by omega), hy9.c 3 (by omega), hy9.c 4 (by omega), hy9.c 5 (by omega), hk9.c0, hk9.c1, hk9.c2, hk9.c3, hk9.c4, hk9.c5⟩)
      | (go_at_call 13; (with_reducible refine (text_ref x HX.out _ ?_).mono ?_); (exact HasTz.below (w := w8) (HasTz.below (w := w7) (HasTz.below (w := w6) (HasTz.below (w := w5.drew) hz5 k6) k7) k8) k9); rintro e w10 ⟨rfl, k10⟩; have hx10 : HasA w10 _ _ := HasA.below hx9 k10 hx9.lt; have hy10 : HasA w10 _ _ := HasA.below hy9 k10 hy9.lt; have hk10 : HasK w10 _ _ := HasK.below hk9 k10 hk9.lt; have S10 : w10.cell? ⟨w.heap.size, 0, none⟩ = some (.int .u8 (x 0)) ∧ w10.cell? ⟨w.heap.size, 1, none⟩ = some (.int .u8 (x 1)) ∧ w10.cell? ⟨w.heap.size, 2, none⟩ = some (.int .u8 (x 2)) ∧ w10.cell? ⟨w.heap.size, 3, none⟩ = some (.int .u8 (x 3)) ∧ w10.cell? ⟨w.heap.size, 4, none⟩ = some (.int .u8 (x 4)) ∧ w10.cell? ⟨w.heap.size, 5, none⟩ = some (.int .u8 (x 5)) ∧ w10.cell? ⟨w.heap.size + 1, 0, none⟩ = some (.int .u8 (y 0)) ∧ w10.cell? ⟨w.heap.size + 1, 1, none⟩ = some (.int .u8 (y 1)) ∧ w10.cell? ⟨w.heap.size + 1, 2, none⟩ = some (.int .u8 (y 2)) ∧ w10.cell? ⟨w.heap.size + 1, 3, none⟩ = some (.int .u8 (y 3)) ∧ w10.cell? ⟨w.heap.size + 1, 4, none⟩ = some (.int .u8 (y 4)) ∧ w10.cell? ⟨w.heap.size + 1, 5, none⟩ = some (.int .u8 (y 5)) ∧ w10.cell? ⟨w4.heap.size, 0, none⟩ = some (.int .u8 1) ∧ w10.cell? ⟨w4.heap.size, 1, none⟩ = some (.int .u8 128) ∧ w10.cell? ⟨w4.heap.size, 2, none⟩ = some (.int .u8 194) ∧ w10.cell? ⟨w4.heap.size, 3, none⟩ = some (.int .u8 0) ∧ w10.cell? ⟨w4.heap.size, 4, none⟩ = some (.int .u8 0) ∧ w10.cell? ⟨w4.heap.size, 5, none⟩ = some (.int .u8 (n % 256)) := ⟨hx10.c 0 (by omega), hx10.c 1 (by omega), hx10.c 2 (by omega), hx10.c 3 (by omega), hx10.c 4 (by omega), hx10.c 5 (by omega), hy10.c 0 (by omega), hy10.c 1 (by omega), hy10.c 2 (by omega), hy10.c 3 (by omega), hy10.c 4 (by omega), hy10.c 5 (by omega), hk10.c0, hk10.c1, hk10.c2, hk10.c3, hk10.c4, hk10.c5⟩)
      | (go_at_call 13; (with_reducible refine (text_ref y HY.out _ ?_).mono ?_); (exact HasTz.below (w := w9) (HasTz.below (w := w8) (HasTz.below (w := w7) (HasTz.below (w := w6) (HasTz.below (w := w5.drew) hz5 k6) k7) k8) k9) k10); rintro e w11 ⟨rfl, k11⟩; have hx11 : HasA w11 _ _ := HasA.below hx10 k11 hx10.lt; have hy11 : HasA w11 _ _ := HasA.below hy10 k11 hy10.lt; have hk11 : HasK w11 _ _ := HasK.below hk10 k11 hk10.lt; have S11 : w11.cell? ⟨w.heap.size, 0, none⟩ = some (.int .u8 (x 0)) ∧ w11.cell? ⟨w.heap.size, 1, none⟩ = some (.int .u8 (x 1)) ∧ w11.cell? ⟨w.heap.size, 2, none⟩ = some (.int .u8 (x 2)) ∧ w11.cell? ⟨w.heap.size, 3, none⟩ = some (.int .u8 (x 3)) ∧ w11.cell? ⟨w.heap.size, 4, none⟩ = some (.int .u8 (x 4)) ∧ w11.cell? ⟨w.heap.size, 5, none⟩ = some (.int .u8 (x 5)) ∧ w11.cell? ⟨w.heap.size + 1, 0, none⟩ = some (.int .u8 (y 0)) ∧ w11.cell? ⟨w.heap.size + 1, 1, none⟩ = some (.int .u8 (y 1)) ∧ w11.cell? ⟨w.heap.size + 1, 2, none⟩ = some (.int .u8 (y 2)) ∧ w11.cell? ⟨w.heap.size + 1, 3, none⟩ = some (.int .u8 (y 3)) ∧ w11.cell? ⟨w.heap.size + 1, 4, none⟩ = some (.int .u8 (y 4)) ∧ w11.cell? ⟨w.heap.size + 1, 5, none⟩ = some (.int .u8 (y 5)) ∧ w11.cell? ⟨w4.heap.size, 0, none⟩ = some (.int .u8 1) ∧ w11.cell? ⟨w4.heap.size, 1, none⟩ = some (.int .u8 128) ∧ w11.cell? ⟨w4.heap.size, 2, none⟩ = some (.int .u8 194) ∧ w11.cell? ⟨w4.heap.size, 3, none⟩ = some (.int .u8 0) ∧ w11.cell? ⟨w4.heap.size, 4, none⟩ = some (.int .u8 0) ∧ w11.cell? ⟨w4.heap.size, 5, none⟩ = some (.int .u8 (n % 256)) := ⟨hx11.c 0 (by omega), hx11.c 1 (by omega), hx11.c 2 (by omega), hx11.c 3 (by omega), hx11.c 4 (by omega), hx11.c 5 (by omega), hy11.c 0 (by omega), hy11.c 1 (by omega), hy11.c 2 (by omega), hy11.c 3 (by omega), hy11.c 4 (by omega), hy11.c 5 (by omega), hk11.c0, hk11.c1, hk11.c2, hk11.c3, hk11.c4, hk11.c5⟩))
  all_goals (
    go_wp2
    go_ret
    exact ⟨by simp, below_then (below_then (below_then (below_then (below_then (below_then hb5.drew k6) k7) k8) k9) k10) k11⟩)
end Go.Proofs.YtafmkgdpfjimkaaDoor.macKnows
