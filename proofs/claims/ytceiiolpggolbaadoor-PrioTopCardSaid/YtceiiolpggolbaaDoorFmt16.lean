/- strconv.FormatInt at base 16, of a byte; nothing that was there is changed. -/
import Derived.Test.YtceiiolpggolbaaDoorProg
import Derived.Test.YtceiiolpggolbaaDoorHexT
import Derived.WalkKit
import Derived.WalkSpells
import Derived.WalkLawsBesides
import Derived.Laws.IdiomStrings
import Derived.Lib.Hide
import Derived.Lib.SmallJoins
import Derived.Laws.Bits64b
namespace Go.Proofs.YtceiiolpggolbaaDoor
open Go.RowKit

/-- Of the library's table for trailing zeros: what stands at 15. -/
def HasTz (w : World) : Prop := w.cell? ⟨6, 15, none⟩ = some (.int .u8 4)

theorem HasTz.lt {w : World} (h : HasTz w) : 6 < w.heap.size := World.block_lt_of_cell? w _ h
theorem HasTz.below {w w' : World} (h : HasTz w) (hb : Below w.heap.size w w') : HasTz w' := (hb.cell (p := ⟨6, 15, none⟩) h.lt).trans h

theorem tz16 (w : World) (h : HasTz w) :
    Calls Tryd.prog 114 #[.int .u64 16] w fun e w' => e = .returned (.int .i64 4) ∧ w = w' := by
  have hc : w.cell? ⟨6, 15, none⟩ = some (.int .u8 4) := h
  have b1 : bits .and .u64 16 (IntKind.u64.wrap (-16)) = 16 := by decide
  have b2 : IntKind.u64.wrap (16 * 285870213051353865) = 4573923408821661840 := by decide
  have b3 : IntKind.u64.wrap 4573923408821661840 = 4573923408821661840 := by decide
  go_enter Tryd.func114, Tryd.ntmps114
  go_wp2
  go_ret
  exact ⟨rfl, rfl⟩

theorem two16 (w : World) : Calls Tryd.prog 113 #[.int .i64 16] w fun e w' => e = .returned (.bool true) ∧ w = w' := by
  have b1 : bits .and .i64 16 15 = 0 := by decide
  go_enter Tryd.func113, Tryd.ntmps113
  go_wp2
  go_ret
  exact ⟨rfl, rfl⟩

/-- A byte in hexadecimal. -/
def hexN (n : Nat) : List UInt8 := if n < 16 then [hexc n] else hex2 n

theorem zero64 : Tryd.zeroCells174[64]? = some (.int .u8 0) := by kernel_rfl
theorem zero63 : Tryd.zeroCells174[63]? = some (.int .u8 0) := by kernel_rfl

theorem low64 (n : Nat) (h : n < 256) : bits .and .u64 (n : Int) 15 = ((n % 16 : Nat) : Int) := by
  have e := bits_and_u64_nat n 15 (by omega) (by omega)
  rw [show ((15 : Nat) : Int) = 15 from rfl] at e
  rw [e, show (15 : Nat) = 2 ^ 4 - 1 from rfl, Nat.and_two_pow_sub_one_eq_mod]

/-- The library's thirty-six digits. -/
def d36 : ByteArray := ⟨#[48, 49, 50, 51, 52, 53, 54, 55, 56, 57, 97, 98, 99, 100, 101, 102, 103, 104, 105, 106, 107, 108, 109, 110, 111, 112, 113, 114, 115, 116, 117, 118, 119, 120, 121, 122]⟩
theorem digit36 (y : Nat) (hy : y < 16) (p : y < d36.size) : d36[y]'p = hexc y := by
  have h : ∀ y : Nat, (hy : y < 16) → (p : y < 36) → ((⟨#[48, 49, 50, 51, 52, 53, 54, 55, 56, 57, 97, 98, 99, 100, 101, 102, 103, 104, 105, 106, 107, 108, 109, 110, 111, 112, 113, 114, 115, 116, 117, 118, 119, 120, 121, 122]⟩ : ByteArray)[y]'p) = hexc y := by decide
  exact h y hy p

set_option maxHeartbeats 1600000 in
set_option maxRecDepth 100000 in
theorem fmt16 (n : Nat) (hn : n < 256) (w : World) (h : HasTz w) :
    Calls Tryd.prog 98 #[.slice none 0 0, .int .u64 n, .int .i64 16, .bool false, .bool false] w fun e w' => e = .returned (.tuple #[.slice none 0 0, .string ⟨(hexN n).toArray⟩]) ∧ Below w.heap.size w w' := by
  have hW : HasTz (w.alloc (.cells Tryd.zeroCells174 174)) := h.below ((Below.refl _ _).alloc (Nat.le_refl _) _)
  have hB : Below w.heap.size w (w.alloc (.cells Tryd.zeroCells174 174)) := (Below.refl _ _).alloc (Nat.le_refl _) _
  have z64 : (w.alloc (.cells Tryd.zeroCells174 174)).cell? ⟨w.heap.size, 64, none⟩ = some (.int .u8 0) := by rw [World.cell?_alloc_at _ _ _ _ rfl]; exact zero64
  have z63 : (w.alloc (.cells Tryd.zeroCells174 174)).cell? ⟨w.heap.size, 63, none⟩ = some (.int .u8 0) := by rw [World.cell?_alloc_at _ _ _ _ rfl]; exact zero63
  have hF : ∀ j, (w.alloc (.cells Tryd.zeroCells174 174)).frozen? ⟨w.heap.size, j, none⟩ = false := fun j => Joins.unfrozen_of_block (heap_alloc_new w _) j
  have f64 := hF 64
  have f63 := hF 63
  clear hF
  go_enter Tryd.func98, Tryd.ntmps98
  go_wp2_with fail
  refine (two16 _).mono ?_
  rintro e w1 ⟨rfl, rfl⟩
  go_wp2_with fail
  refine (tz16 _ hW).mono ?_
  rintro e w1 ⟨rfl, rfl⟩
  go_wp2_with fail
  generalize hw0 : w.alloc (.cells Tryd.zeroCells174 174) = w0 at *
  have HW0 := Lib.hid hw0
  clear hw0 hW
  have HB := Lib.hid hB
  clear hB
  generalize hBB : w.heap.size = B at *
  have HBB := Lib.hid hBB
  clear hBB
  go_loopw [1, 13] (fun u i wr => (u = .int .u64 n ∧ i = .int .i64 65 ∧ wr = w0) ∨ (16 ≤ n ∧ u = .int .u64 ((n / 16 : Nat) : Int) ∧ i = .int .i64 64 ∧ wr = w0.setCell ⟨B, 64, none⟩ (.int .u8 ((hexc (n % 16)).toNat : Int)))) (fun u _ _ => (intOf u).toNat)
  case atStart => exact Or.inl ⟨rfl, rfl, rfl⟩
  case round =>
    rcases hrel with ⟨rfl, rfl, rfl⟩ | ⟨h16, rfl, rfl, rfl⟩
    · by_cases h16 : 16 ≤ n
      · have hlo := low64 n hn
        have d1 : decide ((16 : Int) ≤ (n : Int)) = true := decide_eq_true (by omega)
        go_wp2
        go_roundw
        case rel => exact Or.inr ⟨h16, rfl, rfl, congrArg (fun b : UInt8 => World.setCell _ ⟨B, 64, none⟩ (Value.int .u8 (b.toNat : Int))) (digit36 (n % 16) (by omega) _)⟩
        case measure => simp [intOf]; omega
      · have d1 : decide ((16 : Int) ≤ (n : Int)) = false := decide_eq_false (by omega)
        have HX : Hid (hexN n = [hexc n]) := by show _ = _; rw [hexN, if_pos (by omega)]
        have g1 : ∀ p : n < 36, (⟨#[48, 49, 50, 51, 52, 53, 54, 55, 56, 57, 97, 98, 99, 100, 101, 102, 103, 104, 105, 106, 107, 108, 109, 110, 111, 112, 113, 114, 115, 116, 117, 118, 119, 120, 121, 122]⟩ : ByteArray)[n]'p = hexc n := fun p => digit36 n (by omega) p
        have q64 : (wr.setCell ⟨B, 64, none⟩ (.int .u8 ((hexc n).toNat : Int))).cell? ⟨B, 64, none⟩ = some (.int .u8 ((hexc n).toNat : Int)) := World.cell?_setCell_same _ _ _ z64
        have hback := run_convert_bytes_back (P := Tryd.prog) (wr.setCell ⟨B, 64, none⟩ (.int .u8 ((hexc n).toNat : Int))) 70 9 5 ⟨B, 64, none⟩ 1 [hexc n] Tryd.underlying70 Tryd.underlying5 Tryd.underlying9 (fun j hj => by
          have hj0 : j = 0 := by simpa using hj
          subst hj0
          exact q64)
        replace hback : (convert 70 9 (.slice (some ⟨B, 64, none⟩) 1 1)).run Tryd.prog (wr.setCell ⟨B, 64, none⟩ (.int .u8 ((hexc n).toNat : Int))) = .ok (.string ⟨#[hexc n]⟩) (wr.setCell ⟨B, 64, none⟩ (.int .u8 ((hexc n).toNat : Int))) := hback
        clear q64
        go_wp2
        go_ret2
        exact ⟨by rw [HX.out]; rfl, by rw [HBB.out]; exact HB.out.setCell (p := ⟨B, 64, none⟩) (Nat.le_refl _) _⟩
    · have d1 : decide ((16 : Int) ≤ (n : Int) / 16) = false := decide_eq_false (by omega)
      have HX : Hid (hexN n = [hexc (n / 16), hexc (n % 16)]) := by show _ = _; rw [hexN, if_neg (by omega)]; rfl
      have g1 : ∀ p : n / 16 < 36, (⟨#[48, 49, 50, 51, 52, 53, 54, 55, 56, 57, 97, 98, 99, 100, 101, 102, 103, 104, 105, 106, 107, 108, 109, 110, 111, 112, 113, 114, 115, 116, 117, 118, 119, 120, 121, 122]⟩ : ByteArray)[n / 16]'p = hexc (n / 16) := fun p => digit36 (n / 16) (by omega) p
      have q63 : ((w0.setCell ⟨B, 64, none⟩ (.int .u8 ((hexc (n % 16)).toNat : Int))).setCell ⟨B, 63, none⟩ (.int .u8 ((hexc (n / 16)).toNat : Int))).cell? ⟨B, 63, none⟩ = some (.int .u8 ((hexc (n / 16)).toNat : Int)) := World.cell?_setCell_same _ _ _ ((World.cell?_setCell_other _ _ _ _ (by simp)).trans z63)
      have q64 : ((w0.setCell ⟨B, 64, none⟩ (.int .u8 ((hexc (n % 16)).toNat : Int))).setCell ⟨B, 63, none⟩ (.int .u8 ((hexc (n / 16)).toNat : Int))).cell? ⟨B, 64, none⟩ = some (.int .u8 ((hexc (n % 16)).toNat : Int)) := (World.cell?_setCell_other _ _ _ _ (by simp)).trans (World.cell?_setCell_same _ _ _ z64)
      have hback := run_convert_bytes_back (P := Tryd.prog) ((w0.setCell ⟨B, 64, none⟩ (.int .u8 ((hexc (n % 16)).toNat : Int))).setCell ⟨B, 63, none⟩ (.int .u8 ((hexc (n / 16)).toNat : Int))) 70 9 5 ⟨B, 63, none⟩ 2 [hexc (n / 16), hexc (n % 16)] Tryd.underlying70 Tryd.underlying5 Tryd.underlying9 (fun j hj => by
        have hj0 : j = 0 ∨ j = 1 := by simp at hj; omega
        rcases hj0 with rfl | rfl
        · exact q63
        · exact q64)
      replace hback : (convert 70 9 (.slice (some ⟨B, 63, none⟩) 2 2)).run Tryd.prog ((w0.setCell ⟨B, 64, none⟩ (.int .u8 ((hexc (n % 16)).toNat : Int))).setCell ⟨B, 63, none⟩ (.int .u8 ((hexc (n / 16)).toNat : Int))) = .ok (.string ⟨#[hexc (n / 16), hexc (n % 16)]⟩) ((w0.setCell ⟨B, 64, none⟩ (.int .u8 ((hexc (n % 16)).toNat : Int))).setCell ⟨B, 63, none⟩ (.int .u8 ((hexc (n / 16)).toNat : Int))) := hback
      clear q63 q64
      go_wp2
      go_ret2
      exact ⟨by rw [HX.out]; rfl, by rw [HBB.out]; exact (HB.out.setCell (p := ⟨B, 64, none⟩) (Nat.le_refl _) _).setCell (p := ⟨B, 63, none⟩) (Nat.le_refl _) _⟩

end Go.Proofs.YtceiiolpggolbaaDoor
