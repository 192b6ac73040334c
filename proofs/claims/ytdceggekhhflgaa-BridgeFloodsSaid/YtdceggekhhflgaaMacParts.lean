/- mac.Known, mac.Group, mac.Reserved, mac.Less, mac.digit at every argument; nothing that was there is changed. -/
import Derived.Test.YtdceggekhhflgaaMacText
import Derived.Laws.Externs
import Derived.Laws.Entries
import Derived.Laws.BitsAllLaws
namespace Go.Proofs.Ytdceggekhhflgaa
open Go.RowKit
attribute [local go_sem ↓] Go.wp_at_zero Go.wp_at_succ

theorem run_loadBytesE {P : Program} {w : World} : ∀ (l : List UInt8) (a : Addr) (acc : ByteArray), (∀ j x, l[j]? = some x → w.cell? (a.add j) = some (.int .u8 x.toNat)) →
    (Extern.Bytes.loadBytes a l.length acc).run P w = .ok ⟨acc.data ++ l.toArray⟩ w
  | [], a, acc, _ => by simp [Extern.Bytes.loadBytes]
  | x :: l, a, acc, h => by
    have h0 : w.cell? a = some (.int .u8 x.toNat) := by
      have := h 0 x rfl
      simpa [Addr.add] using this
    have ih := run_loadBytesE (P := P) (w := w) l (a.add 1) (acc.push x) (fun j y hy => by
      have := h (j + 1) y (by simpa using hy)
      have e : (a.add 1).add j = a.add (j + 1) := by
        unfold Addr.add
        by_cases hj : j = 0
        · subst hj; simp
        · simp [hj]; omega
      rw [e]; exact this)
    have hx : ((x.toNat : Int).toNat).toUInt8 = x := by simp
    simp only [List.length_cons, Extern.Bytes.loadBytes, Sem.run_bind, run_load, h0, Result.andThen, hx]
    rw [ih]
    congr 1
    apply ByteArray.ext
    simp [ByteArray.push]

/-- The library's comparison of two slices of bytes whose cells are known. -/
theorem run_compareSlices {P : Program} (w : World) (a b : Addr) (c d : Nat) (l m : List UInt8) (hl : ∀ j x, l[j]? = some x → w.cell? (a.add j) = some (.int .u8 x.toNat)) (hm : ∀ j x, m[j]? = some x → w.cell? (b.add j) = some (.int .u8 x.toNat)) :
    (Extern.BytealgCompare.compare #[.slice (some a) l.length c, .slice (some b) m.length d]).run P w = .ok (.int .i64 (Lib.compareBytes l m)) w := by
  have h1 := run_loadBytesE (P := P) l a .empty hl
  have h2 := run_loadBytesE (P := P) m b .empty hm
  have e : ∀ l : List UInt8, (⟨ByteArray.empty.data ++ l.toArray⟩ : ByteArray) = ⟨l.toArray⟩ := fun l => by
    apply ByteArray.ext
    show (#[] : Array UInt8) ++ l.toArray = l.toArray
    simp
  rw [e] at h1 h2
  change Sem.run P (do pure (goInt (Extern.BytealgCompare.cmp (← Extern.Bytes.bytesOf (.slice (some a) l.length c)) (← Extern.Bytes.bytesOf (.slice (some b) m.length d))))) w = _
  simp only [Extern.Bytes.bytesOf, Sem.run_bind, Sem.run_pure, h1, h2, Result.andThen]
  rw [Lib.cmp_eq]
  rfl





/-- The sixteen digits. -/
def hexD : List UInt8 := [48, 49, 50, 51, 52, 53, 54, 55, 56, 57, 97, 98, 99, 100, 101, 102]

/-- What a digit counts: 255 of what is none. -/
def digN (c : UInt8) : Nat := (Lib.indexByte hexD c % 256).toNat



set_option maxRecDepth 100000 in
theorem known_any (n : Int) (w : World) :
    Calls Try.prog 34 #[.int .i64 n] w fun e w' => e = .returned (.agg #[.int .u8 1, .int .u8 128, .int .u8 194, .int .u8 0, .int .u8 0, .int .u8 (n % 256)]) ∧ Below w.heap.size w w' := by
  go_enter Try.func34, Try.ntmps34
  go_wp2
  exact bodyPost_ret (v := .agg #[.int .u8 1, .int .u8 128, .int .u8 194, .int .u8 0, .int .u8 0, .int .u8 (n % 256)]) (by simp [results, Try.results34, go_sem]) rfl ⟨rfl, (Below.refl _ _).alloc (Nat.le_refl _) _⟩

theorem one_bit : ∀ y : Nat, y < 256 → bits .and .u8 (y : Int) 1 = ((y % 2 : Nat) : Int) := by decide +kernel

set_option maxRecDepth 100000 in
theorem group_any (x : Nat → Nat) (hx : ∀ i, x i < 256) (w : World) :
    Calls Try.prog 40 #[addrV x] w fun e w' => e = .returned (.bool (decide (x 0 % 2 = 1))) ∧ Below w.heap.size w w' := by
  have hb := one_bit (x 0) (hx 0)
  unfold addrV
  go_enter Try.func40, Try.ntmps40
  go_wp2
  go_ret
  refine ⟨?_, (Below.refl _ _).alloc (Nat.le_refl _) _⟩
  show Ending.returned (Value.bool (((x 0 : Nat) : Int) % 2 == 1)) = _
  congr 2
  rw [Bool.eq_iff_iff]
  simp
  omega

theorem six_cells {w : World} {B : Nat} {t : TypeId} (x : Nat → Nat) (hx : ∀ i, x i < 256) (h : w.heap[B]? = some (.cells #[.int .u8 (x 0), .int .u8 (x 1), .int .u8 (x 2), .int .u8 (x 3), .int .u8 (x 4), .int .u8 (x 5)] t (0, 0))) :
    ∀ j b, ((six x).map UInt8.ofNat)[j]? = some b → w.cell? ((⟨B, 0, none⟩ : Addr).add j) = some (.int .u8 b.toNat) := by
  intro j b hb
  refine World.news_of_block h j _ ?_
  show ((six x).map fun n : Nat => Value.int .u8 (n : Int))[j]? = _
  rw [List.getElem?_map] at hb ⊢
  cases hj : (six x)[j]? with
  | none => rw [hj] at hb; cases hb
  | some n =>
    rw [hj] at hb
    simp only [Option.map_some, Option.some.injEq] at hb ⊢
    subst hb
    have := six_lt hx n (List.mem_of_getElem? hj)
    simp [Nat.mod_eq_of_lt this]



end Go.Proofs.Ytdceggekhhflgaa
