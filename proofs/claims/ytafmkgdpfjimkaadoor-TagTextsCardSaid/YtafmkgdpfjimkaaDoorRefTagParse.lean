/- The reference's TagParse at every text: the tag whose text it is, or ErrForm; nothing that was there is changed. -/
import Derived.Test.YtafmkgdpfjimkaaDoorRefTagText
import Derived.Test.YtafmkgdpfjimkaaDoorMacHas
import Derived.Test.YtafmkgdpfjimkaaDoorTagParse
import Derived.Test.YtafmkgdpfjimkaaDoorRefSpec
import Derived.Laws.IdiomStrings
namespace Go.Proofs.YtafmkgdpfjimkaaDoor
open Go.RowKit
attribute [local go_sem ↓] Go.wp_at_zero Go.wp_at_succ

set_option maxRecDepth 100000 in
theorem within_any (a b c : Int) (w : World) :
    Calls Tryd.prog 38 #[.int .i64 a, .int .i64 b, .int .i64 c] w fun e w' => e = .returned (.bool (decide (b ≤ a) && decide (a ≤ c))) ∧ Below w.heap.size w w' := by
  go_enter Tryd.func38, Tryd.ntmps38
  by_cases h1 : b ≤ a
  · have d1 : decide (b ≤ a) = true := decide_eq_true h1
    go_wp2
    all_goals (
      go_ret
      exact ⟨by simp [h1], by first | exact Below.refl _ _ | exact (Below.refl _ _).drew⟩)
  · have d1 : decide (b ≤ a) = false := decide_eq_false h1
    go_wp2
    all_goals (
      go_ret
      exact ⟨by simp, by first | exact Below.refl _ _ | exact (Below.refl _ _).drew⟩)

/-- How the reference's TagParse ends. -/
def ParseTR (l : List UInt8) (e : Ending) : Prop :=
  (∃ t : Tg, okT t = true ∧ textT t = l ∧ e = .returned (.tuple #[tagV t, .int .i64 0])) ∨
  (NoTag l ∧ e = .returned (.tuple #[tagV noT, .int .i64 3]))

set_option maxRecDepth 100000 in
set_option maxHeartbeats 1600000 in
theorem refTagParse_any (s : ByteArray) (w : World) (hT : HasTab w) (hs : s.size ≤ 100) :
    Calls Tryd.prog 28 #[.string s] w fun e w' => ParseTR s.data.toList e ∧ Below w.heap.size w w' := by
  have HS := Lib.hid (sIndexByte_any s 46)
  obtain ⟨i, hi⟩ : ∃ i, i = Lib.indexByte s.data.toList ((46 : Int).toNat.toUInt8) := ⟨_, rfl⟩
  rw [← hi] at HS
  have HI : Hid (i = Lib.indexByte s.data.toList 46) := Lib.hid hi
  clear hi
  have hsl : s.data.toList.length = s.size := by simp
  have R0 : HasT (w.alloc (.cells #[.bool false, .int .i64 0, .bool false, .int .i64 0] 40)) w.heap.size noT := heap_alloc_new _ _
  have B0 : Below w.heap.size w (w.alloc (.cells #[.bool false, .int .i64 0, .bool false, .int .i64 0] 40)) := (Below.refl _ _).alloc (Nat.le_refl _) _
  by_cases h2 : i < 2
  · have d2 : decide (i < 2) = true := decide_eq_true h2
    have hno : Hid (NoTag s.data.toList) := Lib.hid fun t hok he => by
      have := (text_shows t hok _ he).1
      rw [← HI.out] at this
      omega
    go_enter Tryd.func28, Tryd.ntmps28
    go_wp2_with fail
    refine (HS.out _).mono ?_
    rintro e w1 ⟨rfl, rfl⟩
    go_wp2
    refine bodyPost_ret (v := .tuple #[.agg #[.bool false, .int .i64 0, .bool false, .int .i64 0], .int .i64 3]) (by simp [results, Tryd.results28, go_sem]) rfl ⟨Or.inr ⟨hno.out, rfl⟩, B0⟩
  · have d2 : decide (i < 2) = false := decide_eq_false h2
    obtain ⟨I, rfl⟩ : ∃ I : Nat, i = I := Int.eq_ofNat_of_zero_le (by omega)
    have hile : Hid (I < s.size) := Lib.hid (by
      have h1 := Lib.indexByte_some HI.out.symm
      have h3 := (List.getElem?_eq_some_iff.1 h1.1).1
      omega)
    have hile2 := hile.out
    have x0 : IntKind.i64.wrap ((s.size : Int) - (I : Int)) = (s.size : Int) - (I : Int) := by rw [IntKind.wrap_i64]; omega
    by_cases h3 : 6 < (s.size : Int) - (I : Int)
    · have d3 : decide (6 < (s.size : Int) - (I : Int)) = true := decide_eq_true h3
      have hno : Hid (NoTag s.data.toList) := Lib.hid fun t hok he => by
        have := (text_shows t hok _ he).2.1
        rw [← HI.out] at this
        omega
      go_enter Tryd.func28, Tryd.ntmps28
      go_wp2_with fail
      refine (HS.out _).mono ?_
      rintro e w1 ⟨rfl, rfl⟩
      go_wp2
      refine bodyPost_ret (v := .tuple #[.agg #[.bool false, .int .i64 0, .bool false, .int .i64 0], .int .i64 3]) (by simp [results, Tryd.results28, go_sem]) rfl ⟨Or.inr ⟨hno.out, rfl⟩, B0⟩
    · have d3 : decide (6 < (s.size : Int) - (I : Int)) = false := decide_eq_false h3
      have x1 : IntKind.i64.wrap ((I : Int) + 1) = (I : Int) + 1 := by rw [IntKind.wrap_i64]; omega
      have b1 : (0 : Int) ≤ (I : Int) + 1 := by omega
      have b2 : (I : Int) + 1 ≤ (s.size : Int) := by omega
      have hcv := fun (W : World) (r : ByteArray) => run_bytes_of_string (P := Tryd.prog) W 9 67 5 r Tryd.underlying9 Tryd.underlying67 Tryd.underlying5
      go_enter Tryd.func28, Tryd.ntmps28
      go_wp2_with fail
      refine (HS.out _).mono ?_
      rintro e w1 ⟨rfl, rfl⟩
      --LOOP
      obtain ⟨r, hr⟩ : ∃ r, r = s.data.toList.drop (I + 1) := ⟨_, rfl⟩
      have hrl : r.length = s.size - (I + 1) := by rw [hr, List.length_drop, hsl]
      have HR0 : Hid (r = s.data.toList.drop (Lib.indexByte s.data.toList 46 + 1).toNat) := Lib.hid (by rw [hr, ← HI.out]; congr 1)
      have hgetr : ∀ k (hk : k < r.length) cap, (bytesRow (s.extract (I + 1) s.size) cap)[k]? = some (.int .u8 ((r[k]).toNat : Int)) := by
        intro k hk cap
        have hsz : (s.extract (I + 1) s.size).data.size = s.size - (I + 1) := by simp
        rw [bytesRow_at _ _ _ (by rw [hsz]; omega)]
        simp [hr]
      have HG := Lib.hid hgetr
      clear hgetr hr
      go_wp2
      generalize grownCap (w.alloc (.cells #[.bool false, .int .i64 0, .bool false, .int .i64 0] 40)) (s.size - (I + 1)) 0 5 = cap
      have hrow : ∀ k (hk : k < r.length), (((w.alloc (.cells #[.bool false, .int .i64 0, .bool false, .int .i64 0] 40)).alloc (.cells (bytesRow (s.extract (I + 1) s.size) cap) 5 ((bytesRow (s.extract (I + 1) s.size) cap).size, (bytesRow (s.extract (I + 1) s.size) cap).size + 1))).drew).cell? ⟨w.heap.size + 1, k, none⟩ = some (.int .u8 ((r[k]).toNat : Int)) := fun k hk =>
        (Joins.cell_of_block (heap_alloc2_new w _ _) k).trans (HG.out k hk cap)
      have R1 : HasT (((w.alloc (.cells #[.bool false, .int .i64 0, .bool false, .int .i64 0] 40)).alloc (.cells (bytesRow (s.extract (I + 1) s.size) cap) 5 ((bytesRow (s.extract (I + 1) s.size) cap).size, (bytesRow (s.extract (I + 1) s.size) cap).size + 1))).drew) w.heap.size noT := heap_alloc2_old w _ _
      have B1 : Below w.heap.size w (((w.alloc (.cells #[.bool false, .int .i64 0, .bool false, .int .i64 0] 40)).alloc (.cells (bytesRow (s.extract (I + 1) s.size) cap) 5 ((bytesRow (s.extract (I + 1) s.size) cap).size, (bytesRow (s.extract (I + 1) s.size) cap).size + 1))).drew) := (B0.alloc B0.size _).drew
      have hlt1 : w.heap.size + 1 < (((w.alloc (.cells #[.bool false, .int .i64 0, .bool false, .int .i64 0] 40)).alloc (.cells (bytesRow (s.extract (I + 1) s.size) cap) 5 ((bytesRow (s.extract (I + 1) s.size) cap).size, (bytesRow (s.extract (I + 1) s.size) cap).size + 1))).drew).heap.size := by simp
      generalize ((w.alloc (.cells #[.bool false, .int .i64 0, .bool false, .int .i64 0] 40)).alloc (.cells (bytesRow (s.extract (I + 1) s.size) cap) 5 ((bytesRow (s.extract (I + 1) s.size) cap).size, (bytesRow (s.extract (I + 1) s.size) cap).size + 1))).drew = W1 at *
      rw [← hrl]
      have HRL := Lib.hid hrl
      have hr5 : r.length ≤ 5 := by omega
      clear hrl B0 R0 HG hcv x0 x1 b1 b2 d2 d3
      go_loopw [5, 30] (fun v i wr => ∃ k N : Nat, k ≤ r.length ∧ i = .int .i64 k ∧ v = .int .i64 N ∧ Lib.decFrom 0 (r.take k) = some N ∧ N < 10 ^ k ∧ HasT wr w.heap.size noT ∧ Below w.heap.size w wr ∧ Below W1.heap.size W1 wr) (fun _ i _ => r.length - (intOf i).toNat)
      case atStart => exact ⟨0, 0, by omega, rfl, rfl, rfl, by decide, R1, B1, Below.refl _ _⟩
      case round =>
        obtain ⟨k, N, hk, rfl, rfl, hN, hNk, hR, hb, hb1⟩ := hrel
        by_cases hlt : k < r.length
        · have c0 : wr.cell? ⟨w.heap.size + 1, k, none⟩ = some (.int .u8 ((r[k]).toNat : Int)) := (hb1.cell (p := ⟨w.heap.size + 1, k, none⟩) hlt1).trans (hrow k hlt)
          obtain ⟨c, hc⟩ : ∃ c, c = (r[k]).toNat := ⟨_, rfl⟩
          have hc8 : c < 256 := by rw [hc]; exact (r[k]).toNat_lt
          rw [← hc] at c0
          have hp5 : 10 ^ k ≤ 10 ^ 4 := Nat.pow_le_pow_right (by decide) (by omega)
          have hN5 : N < 10000 := by omega
          have y1 : IntKind.i64.wrap (c : Int) = (c : Int) := by rw [IntKind.wrap_i64]; omega
          have y2 : IntKind.i64.wrap ((N : Int) * 10) = (N : Int) * 10 := by rw [IntKind.wrap_i64]; omega
          have y3 : IntKind.i64.wrap ((N : Int) * 10 + (c : Int)) = (N : Int) * 10 + (c : Int) := by rw [IntKind.wrap_i64]; omega
          have y4 : IntKind.i64.wrap ((N : Int) * 10 + (c : Int) - 48) = (N : Int) * 10 + (c : Int) - 48 := by rw [IntKind.wrap_i64]; omega
          have b1 : (k : Int) < (r.length : Int) := by omega
          have HC := Lib.hid hc
          clear hc
          go_wp2_with fail
          refine (within_any c 48 57 _).mono ?_
          rintro e w2 ⟨rfl, k2⟩
          have hb2 := below_then hb k2
          have hb3 := below_then hb1 k2
          have hR2 := hR.below k2 hR.lt
          clear hb hb1 hR k2 c0
          by_cases hd : 48 ≤ c ∧ c ≤ 57
          · have hdd : (decide ((48 : Int) ≤ (c : Int)) && decide ((c : Int) ≤ 57)) = true := by simp; omega
            have hN2 := decFrom_take r k N hlt hN (by rw [← HC.out]; exact hd.1) (by rw [← HC.out]; exact hd.2)
            rw [← HC.out] at hN2
            rw [hdd]
            have HN2 := Lib.hid hN2
            clear hN hN2 hdd
            go_wp2
            go_roundw
            case rel =>
              exact ⟨k + 1, N * 10 + (c - 48), by omega, by go_num, by congr 1; omega, HN2.out, by rw [Nat.pow_succ]; omega, hR2, hb2, hb3⟩
            case measure => simp [intOf]; omega
          · have hdd : (decide ((48 : Int) ≤ (c : Int)) && decide ((c : Int) ≤ 57)) = false := by simp; omega
            have hno : Hid (NoTag s.data.toList) := Lib.hid (no_digit HR0.out k hlt (by rw [← HC.out]; exact hd))
            rw [hdd]
            clear hdd hd
            have r0 := HasT.c0 hR2
            have r1 := HasT.c1 hR2
            have r2 := HasT.c2 hR2
            have r3 := HasT.c3 hR2
            have fz0 : w2.frozen? ⟨w.heap.size, 0, none⟩ = false := Joins.unfrozen_of_block hR2 0
            have fz1 : w2.frozen? ⟨w.heap.size, 1, none⟩ = false := Joins.unfrozen_of_block hR2 1
            have fz2 : w2.frozen? ⟨w.heap.size, 2, none⟩ = false := Joins.unfrozen_of_block hR2 2
            have fz3 : w2.frozen? ⟨w.heap.size, 3, none⟩ = false := Joins.unfrozen_of_block hR2 3
            have HR := Lib.hid hR2
            clear hR2
            go_wp2
            change bodyPost _ _ _ _ _ (set4 w2 w.heap.size noT)
            have z0 : (set4 w2 w.heap.size noT).cell? ⟨w.heap.size, 0, none⟩ = some (.bool false) := (set4_has noT HR.out).c0
            have z1 : (set4 w2 w.heap.size noT).cell? ⟨w.heap.size, 1, none⟩ = some (.int .i64 0) := (set4_has noT HR.out).c1
            have z2 : (set4 w2 w.heap.size noT).cell? ⟨w.heap.size, 2, none⟩ = some (.bool false) := (set4_has noT HR.out).c2
            have z3 : (set4 w2 w.heap.size noT).cell? ⟨w.heap.size, 3, none⟩ = some (.int .i64 0) := (set4_has noT HR.out).c3
            have hb9 := set4_below noT hb2 (Nat.le_refl _)
            generalize set4 w2 w.heap.size noT = W9 at *
            exact bodyPost_ret (v := .tuple #[tagV noT, .int .i64 3]) (by simp [results, Tryd.results28, go_sem, z0, z1, z2, z3, tagV, noT]) rfl ⟨Or.inr ⟨hno.out, rfl⟩, hb9⟩
        · obtain rfl : k = r.length := by omega
          rw [List.take_length] at hN
          clear hrow hb1 hlt1
          --TWO
          have hp5 : 10 ^ r.length ≤ 10 ^ 5 := Nat.pow_le_pow_right (by decide) (by omega)
          have hN5 : N < 100000 := by omega
          have HN := Lib.hid hN
          clear hN hNk hp5
          go_wp2
          have h16 : (wr.alloc (.cells #[.bool true, .int .i64 0, .bool false, .int .i64 N, .bool false, .int .i64 0, .bool false, .int .i64 N, .bool true, .int .i64 0, .bool true, .int .i64 N, .bool false, .int .i64 0, .bool true, .int .i64 N] 40)).heap[wr.heap.size]? = some (.cells #[.bool true, .int .i64 0, .bool false, .int .i64 N, .bool false, .int .i64 0, .bool false, .int .i64 N, .bool true, .int .i64 0, .bool true, .int .i64 N, .bool false, .int .i64 0, .bool true, .int .i64 N] 40 (0, 0)) := heap_alloc_new _ _
          have R4 : HasT (wr.alloc (.cells #[.bool true, .int .i64 0, .bool false, .int .i64 N, .bool false, .int .i64 0, .bool false, .int .i64 N, .bool true, .int .i64 0, .bool true, .int .i64 N, .bool false, .int .i64 0, .bool true, .int .i64 N] 40)) w.heap.size noT := (heap_alloc_old _ _ hR.lt).trans hR
          have B4 : Below w.heap.size w (wr.alloc (.cells #[.bool true, .int .i64 0, .bool false, .int .i64 N, .bool false, .int .i64 0, .bool false, .int .i64 N, .bool true, .int .i64 0, .bool true, .int .i64 N, .bool false, .int .i64 0, .bool true, .int .i64 N] 40)) := hb.alloc hb.size _
          have hl4 : wr.heap.size < (wr.alloc (.cells #[.bool true, .int .i64 0, .bool false, .int .i64 N, .bool false, .int .i64 0, .bool false, .int .i64 N, .bool true, .int .i64 0, .bool true, .int .i64 N, .bool false, .int .i64 0, .bool true, .int .i64 N] 40)).heap.size := by simp
          have hw4 : w.heap.size ≤ wr.heap.size := hb.size
          have hk4 : ∀ j, j < 4 → (wr.alloc (.cells #[.bool true, .int .i64 0, .bool false, .int .i64 N, .bool false, .int .i64 0, .bool false, .int .i64 N, .bool true, .int .i64 0, .bool true, .int .i64 N, .bool false, .int .i64 0, .bool true, .int .i64 N] 40)).cell? ⟨wr.heap.size, j * 4, none⟩ = some (.bool (kindS j)) ∧ (wr.alloc (.cells #[.bool true, .int .i64 0, .bool false, .int .i64 N, .bool false, .int .i64 0, .bool false, .int .i64 N, .bool true, .int .i64 0, .bool true, .int .i64 N, .bool false, .int .i64 0, .bool true, .int .i64 N] 40)).cell? ⟨wr.heap.size, j * 4 + 1, none⟩ = some (.int .i64 0) ∧ (wr.alloc (.cells #[.bool true, .int .i64 0, .bool false, .int .i64 N, .bool false, .int .i64 0, .bool false, .int .i64 N, .bool true, .int .i64 0, .bool true, .int .i64 N, .bool false, .int .i64 0, .bool true, .int .i64 N] 40)).cell? ⟨wr.heap.size, j * 4 + 2, none⟩ = some (.bool (kindD j)) ∧ (wr.alloc (.cells #[.bool true, .int .i64 0, .bool false, .int .i64 N, .bool false, .int .i64 0, .bool false, .int .i64 N, .bool true, .int .i64 0, .bool true, .int .i64 N, .bool false, .int .i64 0, .bool true, .int .i64 N] 40)).cell? ⟨wr.heap.size, j * 4 + 3, none⟩ = some (.int .i64 N) := by
            intro j hj
            have h : j = 0 ∨ j = 1 ∨ j = 2 ∨ j = 3 := by omega
            rcases h with rfl | rfl | rfl | rfl <;> exact ⟨(Joins.cell_of_block h16 _).trans rfl, (Joins.cell_of_block h16 _).trans rfl, (Joins.cell_of_block h16 _).trans rfl, (Joins.cell_of_block h16 _).trans rfl⟩
          obtain ⟨B4k, hB4k⟩ : ∃ B4k, B4k = wr.heap.size := ⟨_, rfl⟩
          rw [← hB4k] at hk4 hl4 hw4
          generalize wr.alloc (.cells #[.bool true, .int .i64 0, .bool false, .int .i64 N, .bool false, .int .i64 0, .bool false, .int .i64 N, .bool true, .int .i64 0, .bool true, .int .i64 N, .bool false, .int .i64 0, .bool true, .int .i64 N] 40) = W4 at *
          rw [← hB4k]
          clear h16 hR hb hB4k
          go_loopw [56] (fun i wr => ∃ j : Nat, j ≤ 4 ∧ i = .int .i64 j ∧ (∀ jj, jj < j → ∀ p : Nat, p < 8 → okT ⟨kindS jj, p, kindD jj, N⟩ = true → textT ⟨kindS jj, p, kindD jj, N⟩ ≠ s.data.toList) ∧ HasT wr w.heap.size noT ∧ Below w.heap.size w wr ∧ Below W4.heap.size W4 wr) (fun i _ => 4 - (intOf i).toNat)
          case atStart => exact ⟨0, by omega, rfl, fun jj h => absurd h (by omega), R4, B4, Below.refl _ _⟩
          case round =>
            obtain ⟨j, hj, rfl, hno, hR, hb, hb4⟩ := hrel
            by_cases hlt : j < 4
            · obtain ⟨q0, q1, q2, q3⟩ := hk4 j hlt
              have c0 := (hb4.cell (p := ⟨B4k, j * 4, none⟩) hl4).trans q0
              have c1 := (hb4.cell (p := ⟨B4k, j * 4 + 1, none⟩) hl4).trans q1
              have c2 := (hb4.cell (p := ⟨B4k, j * 4 + 2, none⟩) hl4).trans q2
              have c3 := (hb4.cell (p := ⟨B4k, j * 4 + 3, none⟩) hl4).trans q3
              obtain ⟨sS, hsS⟩ : ∃ b, b = kindS j := ⟨_, rfl⟩
              obtain ⟨dD, hdD⟩ : ∃ b, b = kindD j := ⟨_, rfl⟩
              rw [← hsS] at c0
              rw [← hdD] at c2
              have HSK := Lib.hid hsS
              have HDK := Lib.hid hdD
              clear q0 q1 q2 q3 hsS hdD
              obtain ⟨wo, rfl⟩ : ∃ wo : World, wo = wr := ⟨_, rfl⟩
              have b1 : (j : Int) < 4 := by omega
              go_wp2
              have T5 : HasT (wo.alloc (.cells #[.bool sS, .int .i64 0, .bool dD, .int .i64 N] 40)) wo.heap.size ⟨sS, (0 : Nat), dD, N⟩ := heap_alloc_new _ _
              have K5 : Below wo.heap.size wo (wo.alloc (.cells #[.bool sS, .int .i64 0, .bool dD, .int .i64 N] 40)) := (Below.refl _ _).alloc (Nat.le_refl _) _
              have hwo : w.heap.size < wo.heap.size := hR.lt
              have hwo4 : W4.heap.size ≤ wo.heap.size := hb4.size
              generalize wo.alloc (.cells #[.bool sS, .int .i64 0, .bool dD, .int .i64 N] 40) = W5 at *
              clear c0 c1 c2 c3 b1
              have HNO := Lib.hid hno
              clear hno
              go_loopw [61] (fun _ wr => ∃ k : Nat, k ≤ 8 ∧ (∀ p : Nat, p < k → okT ⟨sS, p, dD, N⟩ = true → textT ⟨sS, p, dD, N⟩ ≠ s.data.toList) ∧ HasT wr wo.heap.size ⟨sS, k, dD, N⟩ ∧ Below wo.heap.size wo wr) (fun _ wr => 8 - (intOf ((wr.cell? ⟨wo.heap.size, 1, none⟩).getD undef)).toNat)
              case atStart => exact ⟨0, by omega, fun p h => absurd h (by omega), T5, K5⟩
              case round =>
                obtain ⟨k, hk, hnp, hT6, hb6⟩ := hrel
                have c0 : wr.cell? ⟨wo.heap.size, 0, none⟩ = some (.bool sS) := hT6.c0
                have c1 : wr.cell? ⟨wo.heap.size, 1, none⟩ = some (.int .i64 k) := hT6.c1
                have c2 : wr.cell? ⟨wo.heap.size, 2, none⟩ = some (.bool dD) := hT6.c2
                have c3 : wr.cell? ⟨wo.heap.size, 3, none⟩ = some (.int .i64 N) := hT6.c3
                have C1 := Lib.hid c1
                by_cases hlt8 : k < 8
                · have b8 : (k : Int) < 8 := by omega
                  have y5 : IntKind.i64.wrap ((k : Int) + 1) = (k : Int) + 1 := by rw [IntKind.wrap_i64]; omega
                  have hTab : HasTab wr := (hT.below hb).below hb6
                  cases hok : okT ⟨sS, k, dD, N⟩ with
                  | false =>
                    have hnp2 : Hid (∀ p : Nat, p < k + 1 → okT ⟨sS, p, dD, N⟩ = true → textT ⟨sS, p, dD, N⟩ ≠ s.data.toList) := Lib.hid fun p hp ho => by
                      rcases Nat.lt_or_ge p k with h | h
                      · exact hnp p h ho
                      · obtain rfl : p = k := by omega
                        rw [hok] at ho
                        cases ho
                    clear hnp
                    go_wp2_with fail
                    refine (refTagText_no ⟨sS, k, dD, N⟩ hok _).mono ?_
                    rintro e w7 ⟨rfl, k7⟩
                    have hT7 : HasT w7 wo.heap.size ⟨sS, k, dD, N⟩ := hT6.below k7 hT6.lt
                    have hb7 := below_then hb6 k7
                    clear c0 c1 c2 c3 hT6 hb6 k7 hok
                    have c1 : w7.cell? ⟨wo.heap.size, 1, none⟩ = some (.int .i64 k) := hT7.c1
                    have f1 : w7.frozen? ⟨wo.heap.size, 1, none⟩ = false := Joins.unfrozen_of_block hT7 1
                    have hT8 : HasT (w7.setCell ⟨wo.heap.size, 1, none⟩ (.int .i64 (k + 1 : Nat))) wo.heap.size ⟨sS, (k + 1 : Nat), dD, N⟩ := Joins.block_setCell hT7 (i := 1) (.int .i64 (k + 1 : Nat))
                    have hb8 : Below wo.heap.size wo (w7.setCell ⟨wo.heap.size, 1, none⟩ (.int .i64 (k + 1 : Nat))) := hb7.setCell (p := ⟨wo.heap.size, 1, none⟩) (Nat.le_refl _) _
                    have HT8 := Lib.hid hT8
                    clear hT7 hb7 hT8
                    go_wp2
                    go_roundw
                    case rel => exact ⟨k + 1, by omega, hnp2.out, by simpa using HT8.out, by simpa using hb8⟩
                    case measure =>
                      have m1 : (w7.setCell ⟨wo.heap.size, 1, none⟩ (.int .i64 ((k : Int) + 1))).cell? ⟨wo.heap.size, 1, none⟩ = some (.int .i64 ((k : Int) + 1)) := HT8.out.c1
                      rw [m1, C1.out]
                      simp [intOf]
                      omega
                  | true =>
                    go_wp2_with fail
                    refine (refTagText_yes ⟨sS, k, dD, N⟩ hok _ hTab).mono ?_
                    rintro e w7 ⟨rfl, k7⟩
                    have hT7 : HasT w7 wo.heap.size ⟨sS, k, dD, N⟩ := hT6.below k7 hT6.lt
                    have hb7 := below_then hb6 k7
                    clear c0 c1 c2 c3 hT6 hb6 k7
                    by_cases he : textT ⟨sS, k, dD, N⟩ = s.data.toList
                    · have he1 : (textT ⟨sS, k, dD, N⟩ == s.toList) = true := by rw [beq_iff_eq, he, ByteArray.toList_eq]
                      have HE := Lib.hid he
                      have HOK := Lib.hid hok
                      have c0 : w7.cell? ⟨wo.heap.size, 0, none⟩ = some (.bool sS) := hT7.c0
                      have c1 : w7.cell? ⟨wo.heap.size, 1, none⟩ = some (.int .i64 k) := hT7.c1
                      have c2 : w7.cell? ⟨wo.heap.size, 2, none⟩ = some (.bool dD) := hT7.c2
                      have c3 : w7.cell? ⟨wo.heap.size, 3, none⟩ = some (.int .i64 N) := hT7.c3
                      have hR7 : HasT w7 w.heap.size noT := (HasT.below hR (below_then (Below.refl _ _) hb7) hwo)
                      have hb8 : Below w.heap.size w w7 := below_then hb hb7
                      clear he hok hnp hT7 hb7
                      have r0 := HasT.c0 hR7
                      have r1 := HasT.c1 hR7
                      have r2 := HasT.c2 hR7
                      have r3 := HasT.c3 hR7
                      have fz0 : w7.frozen? ⟨w.heap.size, 0, none⟩ = false := Joins.unfrozen_of_block hR7 0
                      have fz1 : w7.frozen? ⟨w.heap.size, 1, none⟩ = false := Joins.unfrozen_of_block hR7 1
                      have fz2 : w7.frozen? ⟨w.heap.size, 2, none⟩ = false := Joins.unfrozen_of_block hR7 2
                      have fz3 : w7.frozen? ⟨w.heap.size, 3, none⟩ = false := Joins.unfrozen_of_block hR7 3
                      have HR := Lib.hid hR7
                      clear hR7
                      go_wp2
                      change bodyPost _ _ _ _ _ (set4 w7 w.heap.size ⟨sS, k, dD, N⟩)
                      have z0 : (set4 w7 w.heap.size ⟨sS, k, dD, N⟩).cell? ⟨w.heap.size, 0, none⟩ = some (.bool sS) := (set4_has ⟨sS, k, dD, N⟩ HR.out).c0
                      have z1 : (set4 w7 w.heap.size ⟨sS, k, dD, N⟩).cell? ⟨w.heap.size, 1, none⟩ = some (.int .i64 k) := (set4_has ⟨sS, k, dD, N⟩ HR.out).c1
                      have z2 : (set4 w7 w.heap.size ⟨sS, k, dD, N⟩).cell? ⟨w.heap.size, 2, none⟩ = some (.bool dD) := (set4_has ⟨sS, k, dD, N⟩ HR.out).c2
                      have z3 : (set4 w7 w.heap.size ⟨sS, k, dD, N⟩).cell? ⟨w.heap.size, 3, none⟩ = some (.int .i64 N) := (set4_has ⟨sS, k, dD, N⟩ HR.out).c3
                      have hb9 := set4_below ⟨sS, k, dD, N⟩ hb8 (Nat.le_refl _)
                      generalize set4 w7 w.heap.size ⟨sS, k, dD, N⟩ = W9 at *
                      exact bodyPost_ret (v := .tuple #[tagV ⟨sS, k, dD, N⟩, .int .i64 0]) (by simp [results, Tryd.results28, go_sem, z0, z1, z2, z3, tagV]) rfl ⟨Or.inl ⟨_, HOK.out, HE.out, rfl⟩, hb9⟩
                    · have he1 : (textT ⟨sS, k, dD, N⟩ == s.toList) = false := by rw [beq_eq_false_iff_ne, ByteArray.toList_eq]; exact he
                      have hnp2 : Hid (∀ p : Nat, p < k + 1 → okT ⟨sS, p, dD, N⟩ = true → textT ⟨sS, p, dD, N⟩ ≠ s.data.toList) := Lib.hid fun p hp ho => by
                        rcases Nat.lt_or_ge p k with h | h
                        · exact hnp p h ho
                        · obtain rfl : p = k := by omega
                          exact he
                      clear hnp he hok
                      have c1 : w7.cell? ⟨wo.heap.size, 1, none⟩ = some (.int .i64 k) := hT7.c1
                      have f1 : w7.frozen? ⟨wo.heap.size, 1, none⟩ = false := Joins.unfrozen_of_block hT7 1
                      have hT8 : HasT (w7.setCell ⟨wo.heap.size, 1, none⟩ (.int .i64 (k + 1 : Nat))) wo.heap.size ⟨sS, (k + 1 : Nat), dD, N⟩ := Joins.block_setCell hT7 (i := 1) (.int .i64 (k + 1 : Nat))
                      have hb8 : Below wo.heap.size wo (w7.setCell ⟨wo.heap.size, 1, none⟩ (.int .i64 (k + 1 : Nat))) := hb7.setCell (p := ⟨wo.heap.size, 1, none⟩) (Nat.le_refl _) _
                      have HT8 := Lib.hid hT8
                      clear hT7 hb7 hT8
                      go_wp2
                      go_roundw
                      case rel => exact ⟨k + 1, by omega, hnp2.out, by simpa using HT8.out, by simpa using hb8⟩
                      case measure =>
                        have m1 : (w7.setCell ⟨wo.heap.size, 1, none⟩ (.int .i64 ((k : Int) + 1))).cell? ⟨wo.heap.size, 1, none⟩ = some (.int .i64 ((k : Int) + 1)) := HT8.out.c1
                        rw [m1, C1.out]
                        simp [intOf]
                        omega
                · obtain rfl : k = 8 := by omega
                  have hno2 : Hid (∀ jj, jj < j + 1 → ∀ p : Nat, p < 8 → okT ⟨kindS jj, p, kindD jj, N⟩ = true → textT ⟨kindS jj, p, kindD jj, N⟩ ≠ s.data.toList) := Lib.hid fun jj hjj => by
                    rcases Nat.lt_or_ge jj j with h | h
                    · exact HNO.out jj h
                    · obtain rfl : jj = j := by omega
                      rw [← HSK.out, ← HDK.out]
                      exact hnp
                  have hR9 : HasT wr w.heap.size noT := HasT.below hR hb6 hwo
                  have hb9 : Below w.heap.size w wr := below_then hb hb6
                  have hb10 : Below W4.heap.size W4 wr := below_then hb4 hb6
                  clear hnp
                  go_wp2
                  go_roundw
                  case rel => exact ⟨j + 1, by omega, by go_num, hno2.out, hR9, hb9, hb10⟩
                  case measure => simp [intOf]; omega
            · obtain rfl : j = 4 := by omega
              have hnt : Hid (NoTag s.data.toList) := Lib.hid (no_kind (by rw [← HR0.out]; exact HN.out) hno)
              clear hno
              have r0 := HasT.c0 hR
              have r1 := HasT.c1 hR
              have r2 := HasT.c2 hR
              have r3 := HasT.c3 hR
              have fz0 : wr.frozen? ⟨w.heap.size, 0, none⟩ = false := Joins.unfrozen_of_block hR 0
              have fz1 : wr.frozen? ⟨w.heap.size, 1, none⟩ = false := Joins.unfrozen_of_block hR 1
              have fz2 : wr.frozen? ⟨w.heap.size, 2, none⟩ = false := Joins.unfrozen_of_block hR 2
              have fz3 : wr.frozen? ⟨w.heap.size, 3, none⟩ = false := Joins.unfrozen_of_block hR 3
              have HR := Lib.hid hR
              clear hR
              go_wp2
              change bodyPost _ _ _ _ _ (set4 wr w.heap.size noT)
              have z0 : (set4 wr w.heap.size noT).cell? ⟨w.heap.size, 0, none⟩ = some (.bool false) := (set4_has noT HR.out).c0
              have z1 : (set4 wr w.heap.size noT).cell? ⟨w.heap.size, 1, none⟩ = some (.int .i64 0) := (set4_has noT HR.out).c1
              have z2 : (set4 wr w.heap.size noT).cell? ⟨w.heap.size, 2, none⟩ = some (.bool false) := (set4_has noT HR.out).c2
              have z3 : (set4 wr w.heap.size noT).cell? ⟨w.heap.size, 3, none⟩ = some (.int .i64 0) := (set4_has noT HR.out).c3
              have hb9 := set4_below noT hb (Nat.le_refl _)
              generalize set4 wr w.heap.size noT = W9 at *
              exact bodyPost_ret (v := .tuple #[tagV noT, .int .i64 3]) (by simp [results, Tryd.results28, go_sem, z0, z1, z2, z3, tagV, noT]) rfl ⟨Or.inr ⟨hnt.out, rfl⟩, hb9⟩
end Go.Proofs.YtafmkgdpfjimkaaDoor
