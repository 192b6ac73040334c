/- Addresses held against each other; mac.Reserved at every argument; nothing that was there is changed. -/
import Derived.Test.YtdceggekhhflgaaMacParts
import Derived.Stop.BytesEq
namespace Go.Proofs.Ytdceggekhhflgaa
open Go.RowKit
attribute [local go_sem ↓] Go.wp_at_zero Go.wp_at_succ

set_option maxRecDepth 100000 in
theorem size_u8 (w : World) : (sizeOf 5).run Try.prog w = .ok 1 w := by kernel_rfl

theorem addr_cells (x : Nat → Nat) (hx : ∀ i, x i < 256) : addrV x = .agg (((six x).map UInt8.ofNat).map Extern.Stop.cell).toArray := by
  simp [addrV, six, Extern.Stop.cell, Nat.mod_eq_of_lt (hx _)]

theorem six_ofNat {x y : Nat → Nat} (hx : ∀ i, x i < 256) (hy : ∀ i, y i < 256) : ((six x).map UInt8.ofNat == (six y).map UInt8.ofNat) = decide (six x = six y) := by
  rw [Bool.eq_iff_iff]
  simp only [beq_iff_eq, decide_eq_true_eq]
  constructor
  · intro h
    have e : ∀ z : Nat → Nat, (∀ i, z i < 256) → ((six z).map UInt8.ofNat).map UInt8.toNat = six z := fun z hz => by
      simp [six, Nat.mod_eq_of_lt (hz _)]
    rw [← e x hx, ← e y hy, h]
  · intro h; rw [h]

/- Two addresses, held against each other. -/

set_option maxRecDepth 100000 in
theorem run_eql_addr (x y : Nat → Nat) (hx : ∀ i, x i < 256) (hy : ∀ i, y i < 256) (w : World) :
    (Op.equalIn 10000 33 (addrV x) (addrV y)).run Try.prog w = .ok (decide (six x = six y)) w := by
  rw [addr_cells x hx, addr_cells y hy, run_equalIn_bytes w 9998 33 5 6 Try.underlying33 Try.underlying5 size_u8 _ _ (by simp [six]) (by simp [six]), six_ofNat hx hy]

/-- The reserved address of a number. -/
def knownF (n : Nat) : Nat → Nat
  | 0 => 1
  | 1 => 128
  | 2 => 194
  | 5 => n
  | _ => 0

theorem knownF_lt (n : Nat) (hn : n < 256) : ∀ i, knownF n i < 256 := by
  intro i
  unfold knownF
  split <;> omega

set_option maxRecDepth 100000 in
theorem known_fits (n : Nat) (hn : n < 256) (w : World) :
    Calls Try.prog 34 #[.int .i64 n] w fun e w' => e = .returned (.agg #[.int .u8 1, .int .u8 128, .int .u8 194, .int .u8 0, .int .u8 0, .int .u8 n]) ∧ Below w.heap.size w w' :=
  (known_any n w).mono fun e w' h => ⟨by rw [h.1, show ((n : Int) % 256) = (n : Int) by omega], h.2⟩

/-- What Reserved says. -/
def resv (x : Nat → Nat) : Int := if x 5 < 16 ∧ six x = six (knownF (x 5)) then x 5 else -1

set_option maxRecDepth 100000 in
theorem reserved_any (x : Nat → Nat) (hx : ∀ i, x i < 256) (w : World) :
    Calls Try.prog 39 #[addrV x] w fun e w' => e = .returned (.int .i64 (resv x)) ∧ Below w.heap.size w w' := by
  have h5 := hx 5
  have B0 : Below w.heap.size w (w.alloc (.cells #[.int .u8 (x 0), .int .u8 (x 1), .int .u8 (x 2), .int .u8 (x 3), .int .u8 (x 4), .int .u8 (x 5)] 33)) := (Below.refl _ _).alloc (Nat.le_refl _) _
  by_cases h16 : x 5 < 16
  · have hd : (decide ((16 : Int) ≤ (x 5 : Int))) = false := decide_eq_false (by omega)
    have hq : ∀ W, (Op.equalIn 10000 33 (.agg #[.int .u8 (x 0), .int .u8 (x 1), .int .u8 (x 2), .int .u8 (x 3), .int .u8 (x 4), .int .u8 (x 5)]) (.agg #[.int .u8 1, .int .u8 128, .int .u8 194, .int .u8 0, .int .u8 0, .int .u8 (x 5)])).run Try.prog W = .ok (decide (six x = six (knownF (x 5)))) W := fun W => run_eql_addr x (knownF (x 5)) hx (knownF_lt _ h5) W
    have hr : resv x = if (decide (six x = six (knownF (x 5)))) = true then (x 5 : Int) else -1 := by simp [resv, h16]
    generalize decide (six x = six (knownF (x 5))) = p at hq hr
    have HR := Lib.hid hr
    clear hr
    have hc : ∀ j (hj : j < 6), (w.alloc (.cells #[.int .u8 (x 0), .int .u8 (x 1), .int .u8 (x 2), .int .u8 (x 3), .int .u8 (x 4), .int .u8 (x 5)] 33)).cell? ⟨w.heap.size, j, none⟩ = some (.int .u8 (x j)) := by
      intro j hj
      rw [World.cell?_alloc_at _ _ _ _ rfl]
      have h : j = 0 ∨ j = 1 ∨ j = 2 ∨ j = 3 ∨ j = 4 ∨ j = 5 := by omega
      rcases h with rfl | rfl | rfl | rfl | rfl | rfl <;> rfl
    have c0 := hc 0 (by omega)
    have c1 := hc 1 (by omega)
    have c2 := hc 2 (by omega)
    have c3 := hc 3 (by omega)
    have c4 := hc 4 (by omega)
    have c5 := hc 5 (by omega)
    clear hc
    unfold addrV
    go_enter Try.func39, Try.ntmps39
    go_wp2
    go_region_held3 (fun w' => w'.cell? ⟨w.heap.size, 0, none⟩ = some (.int .u8 (x 0)) ∧ w'.cell? ⟨w.heap.size, 1, none⟩ = some (.int .u8 (x 1)) ∧ w'.cell? ⟨w.heap.size, 2, none⟩ = some (.int .u8 (x 2)) ∧ w'.cell? ⟨w.heap.size, 3, none⟩ = some (.int .u8 (x 3)) ∧ w'.cell? ⟨w.heap.size, 4, none⟩ = some (.int .u8 (x 4)) ∧ w'.cell? ⟨w.heap.size, 5, none⟩ = some (.int .u8 (x 5)))
      (first
        | exact ⟨c0, c1, c2, c3, c4, c5⟩
        | exact ⟨(hb1.cell (by simp)).trans c0, (hb1.cell (by simp)).trans c1, (hb1.cell (by simp)).trans c2, (hb1.cell (by simp)).trans c3, (hb1.cell (by simp)).trans c4, (hb1.cell (by simp)).trans c5⟩)
      ((go_at_call 34; refine (known_fits (x 5) h5 _).mono ?_; rintro e w1 ⟨rfl, hb1⟩))
    all_goals (
      have hb2 := B0.drew.trans (hb1.mono (by simp))
      clear hq hb1 c0 c1 c2 c3 c4 c5
      cases p
      all_goals (
        go_wp2
        go_ret
        exact ⟨by rw [HR.out]; rfl, hb2⟩))
  · have hd : (decide ((16 : Int) ≤ (x 5 : Int))) = true := decide_eq_true (by omega)
    have HR : Hid (resv x = -1) := by show _ = _; simp [resv, h16]
    unfold addrV
    go_enter Try.func39, Try.ntmps39
    go_wp2
    go_region
    all_goals (
      go_wp2
      go_ret
      exact ⟨by rw [HR.out]; rfl, B0.drew⟩)

end Go.Proofs.Ytdceggekhhflgaa
