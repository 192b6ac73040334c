/- placed for what Write answers; much. -/
import Derived.Test.YtikjpcnfldkifaaDoorPlaced
import Derived.Test.YtikjpcnfldkifaaDoorMvWrite
namespace Go.Proofs.YtikjpcnfldkifaaDoor
open Go.RowKit
attribute [local go_sem ↓] Go.wp_at_zero Go.wp_at_succ
set_option linter.unusedSimpArgs false
set_option linter.unusedVariables false
set_option maxRecDepth 100000

theorem placed_errno (x : Int) (w : World) (hE : HasErr w) : Calls Tryd.prog 14 #[.iface 24 (.int .i64 x), .agg (ftC x (-1))] w fun e w' => e = .returned (.bool true) ∧ Below w.heap.size w w' := by
  have hb0 : Below w.heap.size w (w.alloc (.cells (ftC x (-1)) 26)) := (Below.refl _ _).alloc (Nat.le_refl _) _
  have HB := Blk.new w 26 (ftC x (-1))
  have hE1 : HasErr (w.alloc (.cells (ftC x (-1)) 26)) := hE.below hb0
  go_enter Tryd.func14, Tryd.ntmps14
  go_upto_region 1 with (fail)
  generalize w.alloc (.cells (ftC x (-1)) 26) = w1 at *
  go_wp2_with fail
  refine (place_errno x _ hE1).mono ?_
  rintro e w2 ⟨rfl, b2⟩
  have HB2 := HB.kept b2
  have c0 := HB2.cv 0 (.int .i64 x) rfl
  have c1 := HB2.cv 1 (.int .i64 (-1)) rfl
  have e1 : (x == x) = true := by simp
  go_wp2
  go_ret
  exact ⟨rfl, hb0.trans (b2.mono hb0.size)⟩

theorem placed3_any (er : Value) (x y : Int) (w : World) (hE : HasErr w) (h : ErrAs3 w er x y) : Calls Tryd.prog 14 #[er, .agg (ftC x y)] w fun e w' => e = .returned (.bool true) ∧ Below w.heap.size w w' := by
  rcases h with h | ⟨rfl, _, rfl⟩
  · exact placed_any er x y w hE h
  · exact placed_errno x w hE

set_option maxHeartbeats 1600000 in
theorem much_some (a : Option Addr) (c : Nat) (hs : List MvH) (w : World) (h : MvsIn w a hs) (hm : hs.length ≤ maxLen) :
    Calls Tryd.prog 11 #[.slice a hs.length c] w fun e w' => (∃ b, e = .returned (.bool b)) ∧ Below w.heap.size w w' := by
  have k1 : hs.length ≤ 9223372036854775807 := hm
  clear hm
  go_enter Tryd.func11, Tryd.ntmps11
  go_wp2_with fail
  go_loopw [3, 10] (fun v i wr => ∃ k : Nat, k ≤ hs.length ∧ i = .int .i64 k ∧ (∃ x : Int, v = .int .i64 x) ∧ Below w.heap.size w wr) (fun _ i _ => hs.length - (intOf i).toNat)
  case atStart => exact ⟨0, by omega, rfl, ⟨_, rfl⟩, Below.refl _ _⟩
  case round =>
    obtain ⟨k, hk, rfl, ⟨x, rfl⟩, Bk⟩ := hrel
    by_cases hlt : k < hs.length
    · have hI := h.below Bk
      obtain ⟨b, lo, rfl, hbl, hat⟩ := hI.row.at hlt
      have q1 : (k : Int) < (hs.length : Int) := by omega
      have q2 : decide ((k : Int) < (hs.length : Int)) = true := decide_eq_true q1
      have q3 : (0 : Int) ≤ (k : Int) := by omega
      have q4 : IntKind.i64.wrap ((k : Int) + 1) = (k : Int) + 1 := by rw [IntKind.wrap_i64] <;> omega
      have HK := hat k hlt
      have hsw := Bk.size
      generalize hs[k] = y at *
      clear hat hI
      have HA4 := Blk.new wr 36 (mvC zMvH)
      have b4 : Below wr.heap.size wr (wr.alloc (.cells (mvC zMvH) 36)) := (Below.refl _ _).alloc (Nat.le_refl _) _
      go_upto_region 5 with (first
        | (refine load_cells (B := b) (k := lo + k * 3) 36 (mvC y) (by rfl) rfl rfl HK (by kernel_rfl) (by kernel_rfl) ?_)
        | (refine alloc_blk 36 (mvC zMvH) (by rfl) rfl Tryd.mhZero ?_)
        | (refine store_blk (k := 0) 36 (.agg (mvC y)) (mvC y) (by rfl) rfl rfl rfl HA4 (by kernel_rfl) (show (3 : Nat) ≤ 3 from Nat.le_refl 3) (by rfl) (st_whole _ _ rfl) ?_; intro w5 HA5 b5 g5))
      have B5 := Bk.trans ((b4.trans b5).mono hsw)
      clear HA4 b4 b5 g5 HK Bk
      generalize wr.heap.size = G1 at *
      have c2 := HA5.cv 2 (.slice y.a y.x.ev.length y.c) rfl
      obtain ⟨L, hL⟩ : ∃ L, y.x.ev.length = L := ⟨_, rfl⟩
      rw [hL] at c2
      clear hL HA5
      go_wp2
      go_roundw
      case rel => exact ⟨k + 1, by omega, by go_num, ⟨_, rfl⟩, B5⟩
      case measure => simp [intOf]; omega
    · obtain rfl : k = hs.length := by omega
      have q2 : decide ((hs.length : Int) < (hs.length : Int)) = false := decide_eq_false (by omega)
      go_wp2
      go_ret
      exact ⟨⟨_, rfl⟩, Bk⟩


end Go.Proofs.YtikjpcnfldkifaaDoor
