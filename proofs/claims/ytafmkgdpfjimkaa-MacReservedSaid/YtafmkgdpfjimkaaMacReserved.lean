/- switchyardkeep.MacReserved returns true at every address and every number, and changes nothing that was there. -/
import Derived.Test.YtafmkgdpfjimkaaMacLow
namespace Go.Proofs.Ytafmkgdpfjimkaa.macReserved
open Go.RowKit
attribute [local go_sem ↓] Go.wp_at_zero Go.wp_at_succ

theorem walk_no (x : Nat → Nat) (hx : ∀ i, x i < 256) (hv0 : resv x = -1) (a1 : Int) (w : World) :
    Calls Try.prog 4 #[addrV x, .int .i64 a1] w fun e w' => e = .returned (.bool true) ∧ Below w.heap.size w w' := by
  have h1 : HasA (w.alloc (.cells #[.int .u8 (x 0), .int .u8 (x 1), .int .u8 (x 2), .int .u8 (x 3), .int .u8 (x 4), .int .u8 (x 5)] 23)) w.heap.size x := heap_alloc_new w _
  have hb1 : Below w.heap.size w (w.alloc (.cells #[.int .u8 (x 0), .int .u8 (x 1), .int .u8 (x 2), .int .u8 (x 3), .int .u8 (x 4), .int .u8 (x 5)] 23)) := (Below.refl _ _).alloc (Nat.le_refl _) _
  unfold addrV
  go_enter Try.func4, Try.ntmps4
  go_wp2_with fail
  refine (addressed_any _).mono ?_
  rintro e w2 ⟨rfl, k2⟩
  have h2 : HasA w2 w.heap.size x := h1.below k2 h1.lt
  have c0 : w2.cell? ⟨w.heap.size, 0, none⟩ = some (.int .u8 (x 0)) := h2.c 0 (by omega)
  have c1 : w2.cell? ⟨w.heap.size, 1, none⟩ = some (.int .u8 (x 1)) := h2.c 1 (by omega)
  have c2 : w2.cell? ⟨w.heap.size, 2, none⟩ = some (.int .u8 (x 2)) := h2.c 2 (by omega)
  have c3 : w2.cell? ⟨w.heap.size, 3, none⟩ = some (.int .u8 (x 3)) := h2.c 3 (by omega)
  have c4 : w2.cell? ⟨w.heap.size, 4, none⟩ = some (.int .u8 (x 4)) := h2.c 4 (by omega)
  have c5 : w2.cell? ⟨w.heap.size, 5, none⟩ = some (.int .u8 (x 5)) := h2.c 5 (by omega)
  go_wp2_with fail
  refine (reserved_any x hx _).mono ?_
  rintro e w3 ⟨rfl, k3⟩
  rw [hv0]
  have HB := (below_then (below_then hb1 k2) k3).drew
  clear k2 k3 hb1 h1 h2 c0 c1 c2 c3 c4 c5
  go_wp2_with fail
  go_region
  all_goals (
    go_wp2_with fail
    refine (pick_any a1 256 _ (by omega) (by omega)).mono ?_
    rintro e w8 ⟨r, rfl, hr, rfl⟩
    go_wp2_with fail
    refine (known_fits r hr _).mono ?_
    rintro e w9 ⟨rfl, k9⟩
    go_wp2_with fail
    refine (reserved_any (knownF r) (knownF_lt r hr) _).mono ?_
    rintro e w10 ⟨rfl, k10⟩
    by_cases h16 : r < 16
    · have hv : resv (knownF r) = r := by simp [resv, knownF, h16]
      rw [hv]
      go_wp2
      go_ret
      exact ⟨rfl, below_then (below_then HB k9) k10⟩
    · have hv : resv (knownF r) = -1 := by simp [resv, knownF, h16]
      have hne : ((-1 : Int) == (r : Int)) = false := by rw [beq_eq_false_iff_ne]; omega
      have hgt : decide ((15 : Int) < (r : Int)) = true := decide_eq_true (by omega)
      rw [hv]
      go_wp2_with fail
      refine (known_fits r hr _).mono ?_
      rintro e w11 ⟨rfl, k11⟩
      go_wp2_with fail
      refine (reserved_any (knownF r) (knownF_lt r hr) _).mono ?_
      rintro e w12 ⟨rfl, k12⟩
      rw [hv]
      go_wp2
      go_ret
      exact ⟨rfl, below_then (below_then (below_then (below_then HB k9) k10) k11) k12⟩)

theorem walk_yes (n : Nat) (hn : n < 16) (a1 : Int) (w : World) :
    Calls Try.prog 4 #[addrV (knownF n), .int .i64 a1] w fun e w' => e = .returned (.bool true) ∧ Below w.heap.size w w' := by
  have hk := knownF_lt n (by omega)
  have h1 : HasA (w.alloc (.cells #[.int .u8 1, .int .u8 128, .int .u8 194, .int .u8 0, .int .u8 0, .int .u8 n] 23)) w.heap.size (knownF n) := heap_alloc_new w _
  have hb1 : Below w.heap.size w (w.alloc (.cells #[.int .u8 1, .int .u8 128, .int .u8 194, .int .u8 0, .int .u8 0, .int .u8 n] 23)) := (Below.refl _ _).alloc (Nat.le_refl _) _
  have hq : ∀ W, (Op.equalIn 10000 23 (.agg #[.int .u8 1, .int .u8 128, .int .u8 194, .int .u8 0, .int .u8 0, .int .u8 n]) (.agg #[.int .u8 1, .int .u8 128, .int .u8 194, .int .u8 0, .int .u8 0, .int .u8 n])).run Try.prog W = .ok true W := fun W => by
    have h := run_eql_addr (knownF n) (knownF n) hk hk W
    rw [decide_eq_true rfl] at h
    exact h
  have hv0 : resv (knownF n) = n := by simp [resv, knownF, hn]
  have hgt : decide ((15 : Int) < (n : Int)) = false := decide_eq_false (by omega)
  change Calls _ _ #[.agg #[.int .u8 1, .int .u8 128, .int .u8 194, .int .u8 0, .int .u8 0, .int .u8 n], .int .i64 a1] _ _
  go_enter Try.func4, Try.ntmps4
  go_wp2_with fail
  refine (addressed_any _).mono ?_
  rintro e w2 ⟨rfl, k2⟩
  have h2 : HasA w2 w.heap.size (knownF n) := h1.below k2 h1.lt
  have c0 : w2.cell? ⟨w.heap.size, 0, none⟩ = some (.int .u8 1) := h2.c 0 (by omega)
  have c1 : w2.cell? ⟨w.heap.size, 1, none⟩ = some (.int .u8 128) := h2.c 1 (by omega)
  have c2 : w2.cell? ⟨w.heap.size, 2, none⟩ = some (.int .u8 194) := h2.c 2 (by omega)
  have c3 : w2.cell? ⟨w.heap.size, 3, none⟩ = some (.int .u8 0) := h2.c 3 (by omega)
  have c4 : w2.cell? ⟨w.heap.size, 4, none⟩ = some (.int .u8 0) := h2.c 4 (by omega)
  have c5 : w2.cell? ⟨w.heap.size, 5, none⟩ = some (.int .u8 n) := h2.c 5 (by omega)
  go_wp2_with fail
  refine (reserved_any (knownF n) hk _).mono ?_
  rintro e w3 ⟨rfl, k3⟩
  rw [hv0]
  have h3 : HasA w3 w.heap.size (knownF n) := h2.below k3 h2.lt
  have HB := (below_then (below_then hb1 k2) k3).drew
  clear k2 k3 hb1 h1 h2 c0 c1 c2 c3 c4 c5
  have S3 : w3.cell? ⟨w.heap.size, 0, none⟩ = some (.int .u8 1) ∧ w3.cell? ⟨w.heap.size, 1, none⟩ = some (.int .u8 128) ∧ w3.cell? ⟨w.heap.size, 2, none⟩ = some (.int .u8 194) ∧ w3.cell? ⟨w.heap.size, 3, none⟩ = some (.int .u8 0) ∧ w3.cell? ⟨w.heap.size, 4, none⟩ = some (.int .u8 0) ∧ w3.cell? ⟨w.heap.size, 5, none⟩ = some (.int .u8 n) := h3.all
  go_wp2_with fail
  go_region_held3 (fun w' => w'.cell? ⟨w.heap.size, 0, none⟩ = some (.int .u8 1) ∧ w'.cell? ⟨w.heap.size, 1, none⟩ = some (.int .u8 128) ∧ w'.cell? ⟨w.heap.size, 2, none⟩ = some (.int .u8 194) ∧ w'.cell? ⟨w.heap.size, 3, none⟩ = some (.int .u8 0) ∧ w'.cell? ⟨w.heap.size, 4, none⟩ = some (.int .u8 0) ∧ w'.cell? ⟨w.heap.size, 5, none⟩ = some (.int .u8 n))
    (first
      | exact S5
      | exact S4
      | exact S3)
    (first
      | (go_at_call 11; refine (known_fits n (by omega) _).mono ?_; rintro e w4 ⟨rfl, k4⟩; have h4 := h3.drew.below k4 h3.lt; have S4 : w4.cell? ⟨w.heap.size, 0, none⟩ = some (.int .u8 1) ∧ w4.cell? ⟨w.heap.size, 1, none⟩ = some (.int .u8 128) ∧ w4.cell? ⟨w.heap.size, 2, none⟩ = some (.int .u8 194) ∧ w4.cell? ⟨w.heap.size, 3, none⟩ = some (.int .u8 0) ∧ w4.cell? ⟨w.heap.size, 4, none⟩ = some (.int .u8 0) ∧ w4.cell? ⟨w.heap.size, 5, none⟩ = some (.int .u8 n) := h4.all)
      | (go_at_call 12; refine (group_any (knownF n) hk _).mono ?_; rintro e w5 ⟨rfl, k5⟩; have h5 := h4.below k5 h4.lt; have S5 : w5.cell? ⟨w.heap.size, 0, none⟩ = some (.int .u8 1) ∧ w5.cell? ⟨w.heap.size, 1, none⟩ = some (.int .u8 128) ∧ w5.cell? ⟨w.heap.size, 2, none⟩ = some (.int .u8 194) ∧ w5.cell? ⟨w.heap.size, 3, none⟩ = some (.int .u8 0) ∧ w5.cell? ⟨w.heap.size, 4, none⟩ = some (.int .u8 0) ∧ w5.cell? ⟨w.heap.size, 5, none⟩ = some (.int .u8 n) := h5.all))
  all_goals (
    have HB := below_then (below_then HB k4) k5
    clear S3 S4 S5 k4 k5 h3 h4 h5
    go_wp2_with fail
    refine (pick_any a1 256 _ (by omega) (by omega)).mono ?_
    rintro e w8 ⟨r, rfl, hr, rfl⟩
    go_wp2_with fail
    refine (known_fits r hr _).mono ?_
    rintro e w9 ⟨rfl, k9⟩
    go_wp2_with fail
    refine (reserved_any (knownF r) (knownF_lt r hr) _).mono ?_
    rintro e w10 ⟨rfl, k10⟩
    by_cases h16 : r < 16
    · have hv : resv (knownF r) = r := by simp [resv, knownF, h16]
      rw [hv]
      go_wp2
      go_ret
      exact ⟨rfl, below_then (below_then HB k9) k10⟩
    · have hv : resv (knownF r) = -1 := by simp [resv, knownF, h16]
      have hne : ((-1 : Int) == (r : Int)) = false := by rw [beq_eq_false_iff_ne]; omega
      have hgt : decide ((15 : Int) < (r : Int)) = true := decide_eq_true (by omega)
      rw [hv]
      go_wp2_with fail
      refine (known_fits r hr _).mono ?_
      rintro e w11 ⟨rfl, k11⟩
      go_wp2_with fail
      refine (reserved_any (knownF r) (knownF_lt r hr) _).mono ?_
      rintro e w12 ⟨rfl, k12⟩
      rw [hv]
      go_wp2
      go_ret
      exact ⟨rfl, below_then (below_then (below_then (below_then HB k9) k10) k11) k12⟩)

theorem walk (x : Nat → Nat) (hx : ∀ i, x i < 256) (a1 : Int) (w : World) :
    Calls Try.prog 4 #[addrV x, .int .i64 a1] w fun e w' => e = .returned (.bool true) ∧ Below w.heap.size w w' := by
  by_cases h : x 5 < 16 ∧ six x = six (knownF (x 5))
  · rw [addrV_six h.2]
    exact walk_yes (x 5) h.1 a1 w
  · exact walk_no x hx (by unfold resv; rw [if_neg h]) a1 w
end Go.Proofs.Ytafmkgdpfjimkaa.macReserved
