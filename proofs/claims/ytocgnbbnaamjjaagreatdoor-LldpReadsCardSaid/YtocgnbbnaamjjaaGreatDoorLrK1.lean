/- Texts one behind the other. Numbers as bytes, the most significant first: the plain lists, their cells, their order and what is read back from them. Nothing of the program stands here. wire.isWidth, wire.Put: what they return at every argument, and that nothing that was there is changed. An *api.At in memory. A wire.Reader in memory, and what New, At, Left, Err, Fail and Bytes do to it: at every argument. (*wire.Reader).Num at every argument. Structs and arrays in blocks of their own, whole and in part: made, loaded, stored, held against each other. A wire.Reader beside the plain answer: what Bytes, Num, Fail, Zeros and Err do in any state. Bytes in memory, as texts. The reference's cursor: what is thrown, eaten, counted, asked for. (apart: wp_copy_text, byX, byX_lt) Worlds that grow. Numbers of a few bytes out of a wire.Reader in any state; where it is. Numbers that fit: plainly. 13.1: records plainly: how they are written. 14.1: what a station tells, plainly. Cells that lie one behind the other in a row: loaded whole. wire.Fits: rows of numbers. A store in a drawn region; an array's element at a variable index; a single cell stored. -/
import Derived.WalkKit
import Derived.Test.YtocgnbbnaamjjaaGreatDoorProg
import Derived.WalkSpells
import Derived.WalkLawsBesides
import Derived.Laws.IdiomStrings
import Derived.BigRegion
import Derived.BigQuiet
import Derived.Deep.QuietTactic
import Derived.Lib.IndexBytes
import Derived.Lib.Hide
import Derived.Below
import Derived.Laws.CopyRow
import Derived.Laws.CopyOwn
import Derived.Laws.Rows
import Derived.Laws.StructEq
import Derived.Deep.WholeRow
import Derived.ChangeKeysEq
import Derived.OrdersHeld
import Derived.Deep.RegionHeld3
import Derived.Deep.DrawnRows
import Derived.IntWalk
import Derived.Deep.Cut
import Derived.BigGuard
import Derived.Lib.BufferWrite
namespace Go.Proofs.YtocgnbbnaamjjaaGreatDoor
open Go.RowKit

/-- X's last n digits to the base 256, the greatest first. -/
def putL (X : Nat) : Nat → List UInt8
  | 0 => []
  | n + 1 => UInt8.ofNat (X / 256 ^ n % 256) :: putL X n

theorem putL_length (X n : Nat) : (putL X n).length = n := by
  induction n with
  | zero => rfl
  | succ n ih => simp [putL, ih]

theorem putL_get (X : Nat) : ∀ (n j : Nat), j < n → (putL X n)[j]? = some (UInt8.ofNat (X / 256 ^ (n - 1 - j) % 256))
  | 0, _, h => by omega
  | n + 1, 0, _ => by simp [putL]
  | n + 1, j + 1, h => by
    have e : n + 1 - 1 - (j + 1) = n - 1 - j := by omega
    rw [e, putL, List.getElem?_cons_succ]
    exact putL_get X n j (by omega)

/-- The cells of the row when k digits are laid, from the end on. -/
def putC (X n k : Nat) : Array Value := ((List.range n).map fun j => Value.int .u8 (if n ≤ k + j then ((X / 256 ^ (n - 1 - j) % 256 : Nat) : Int) else 0)).toArray

theorem putC_size (X n k : Nat) : (putC X n k).size = n := by simp [putC]

theorem putC_get (X n k j : Nat) (h : j < n) : (putC X n k)[j]? = some (Value.int .u8 (if n ≤ k + j then ((X / 256 ^ (n - 1 - j) % 256 : Nat) : Int) else 0)) := by
  simp [putC, h]

theorem putC_zero (X n : Nat) : madeCells #[Value.int .u8 0] n = putC X n 0 := by
  apply Array.ext
  · simp [putC_size, size_madeCells]
  · intro i h1 h2
    have hi : i < n := by simpa [putC_size] using h2
    have e := putC_get X n 0 i hi
    rw [if_neg (by omega)] at e
    have e2 : (putC X n 0)[i] = Value.int .u8 0 := by
      have := Array.getElem?_eq_getElem h2
      rw [this] at e
      exact Option.some.inj e
    rw [e2]
    simp [madeCells, Nat.mod_one]

theorem putC_step (X n k : Nat) (h : k < n) : (putC X n k).setIfInBounds (n - 1 - k) (Value.int .u8 ((X / 256 ^ k % 256 : Nat) : Int)) = putC X n (k + 1) := by
  apply Array.ext
  · simp [putC_size]
  · intro i h1 h2
    have hi : i < n := by simpa [putC_size] using h2
    apply Option.some.inj
    rw [← Array.getElem?_eq_getElem h1, ← Array.getElem?_eq_getElem h2, Array.getElem?_setIfInBounds, putC_get X n (k + 1) i hi, putC_get X n k i hi, putC_size]
    by_cases e : n - 1 - k = i
    · rw [if_pos e, if_pos (by omega), if_pos (by omega), show n - 1 - i = k by omega]
    · rw [if_neg e]
      by_cases c : n ≤ k + i
      · rw [if_pos c, if_pos (by omega)]
      · rw [if_neg c, if_neg (by omega)]

theorem putC_end (X n j : Nat) (h : j < n) : (putC X n n)[j]? = some (Value.int .u8 ((((putL X n)[j]'(by rw [putL_length]; exact h)).toNat : Nat) : Int)) := by
  rw [putC_get X n n j h, if_pos (by omega)]
  have e := putL_get X n j h
  rw [List.getElem?_eq_getElem (by rw [putL_length]; exact h)] at e
  rw [Option.some.inj e, UInt8.toNat_ofNat', Nat.mod_mod]

/-- A shift by 8 k bits. -/
theorem shr_digit (X k : Nat) : X / 2 ^ (8 * k) = X / 256 ^ k := by
  rw [Nat.pow_mul]

/-- The number that bytes are, the most significant first. -/
def beN (l : List UInt8) : Nat := l.foldl (fun x b => x * 256 + b.toNat) 0

theorem beN_snoc (l : List UInt8) (b : UInt8) : beN (l ++ [b]) = beN l * 256 + b.toNat := by simp [beN]

theorem beN_lt (l : List UInt8) : beN l < 256 ^ l.length := by
  have h : ∀ (r : List UInt8) (m : List UInt8), beN m < 256 ^ m.length → beN (m ++ r) < 256 ^ (m ++ r).length := by
    intro r
    induction r with
    | nil => intro m hm; simpa using hm
    | cons b r ih =>
      intro m hm
      have e : m ++ b :: r = (m ++ [b]) ++ r := by simp
      rw [e]
      refine ih (m ++ [b]) ?_
      rw [beN_snoc, List.length_append, List.length_singleton, Nat.pow_succ]
      have := b.toNat_lt
      omega
  have := h l [] (by simp [beN])
  simpa using this

theorem beN_cons (b : UInt8) (l : List UInt8) : beN (b :: l) = b.toNat * 256 ^ l.length + beN l := by
  have h : ∀ (l : List UInt8) (x : Nat), l.foldl (fun x b => x * 256 + b.toNat) x = x * 256 ^ l.length + beN l := by
    intro l
    induction l with
    | nil => intro x; simp [beN]
    | cons c l ih =>
      intro x
      have e := ih (0 * 256 + c.toNat)
      rw [List.foldl_cons, ih, show beN (c :: l) = l.foldl (fun x b => x * 256 + b.toNat) (0 * 256 + c.toNat) from rfl, e, List.length_cons, Nat.pow_succ, Nat.add_mul]
      simp only [Nat.zero_mul, Nat.zero_add]
      rw [Nat.mul_assoc, Nat.mul_comm 256 (256 ^ l.length), Nat.add_assoc]
  have e := h l (0 * 256 + b.toNat)
  rw [show beN (b :: l) = l.foldl (fun x b => x * 256 + b.toNat) (0 * 256 + b.toNat) from rfl, e]
  simp

/-- What was laid down is read back. -/
theorem beN_putL (X n : Nat) : beN (putL X n) = X % 256 ^ n := by
  induction n with
  | zero => simp [putL, beN, Nat.mod_one]
  | succ n ih =>
    rw [putL, beN_cons, putL_length, ih, Nat.mod_pow_succ, UInt8.toNat_ofNat', Nat.mod_mod, Nat.mul_comm, Nat.add_comm]

theorem beN_putL_fits (X n : Nat) (h : X < 256 ^ n) : beN (putL X n) = X := by rw [beN_putL, Nat.mod_eq_of_lt h]

theorem ofNat_lt (a b : Nat) (ha : a < 256) (hb : b < 256) : (UInt8.ofNat a < UInt8.ofNat b) ↔ a < b := by
  rw [UInt8.lt_iff_toNat_lt, UInt8.toNat_ofNat', UInt8.toNat_ofNat', Nat.mod_eq_of_lt ha, Nat.mod_eq_of_lt hb]

theorem ofNat_eq (a b : Nat) (ha : a < 256) (hb : b < 256) : (UInt8.ofNat a = UInt8.ofNat b) ↔ a = b := by
  constructor
  · intro h
    have := congrArg UInt8.toNat h
    rwa [UInt8.toNat_ofNat', UInt8.toNat_ofNat', Nat.mod_eq_of_lt ha, Nat.mod_eq_of_lt hb] at this
  · intro h; rw [h]

/-- The bytes stand in the order of their numbers. -/
theorem less_putL (X Y n : Nat) : Op.bytesLess (putL X n) (putL Y n) = decide (X % 256 ^ n < Y % 256 ^ n) := by
  induction n with
  | zero => simp [putL, Op.bytesLess, Nat.mod_one]
  | succ n ih =>
    have hp : 0 < 256 ^ n := Nat.pow_pos (by omega)
    have a1 := Nat.mod_lt (X / 256 ^ n) (show 0 < 256 by omega)
    have b1 := Nat.mod_lt (Y / 256 ^ n) (show 0 < 256 by omega)
    have a2 := Nat.mod_lt X hp
    have b2 := Nat.mod_lt Y hp
    rw [putL, putL, Op.bytesLess, ih, Nat.mod_pow_succ, Nat.mod_pow_succ]
    generalize X / 256 ^ n % 256 = a at *
    generalize Y / 256 ^ n % 256 = b at *
    generalize X % 256 ^ n = u at *
    generalize Y % 256 ^ n = v at *
    generalize 256 ^ n = p at *
    rw [Bool.eq_iff_iff]
    simp only [Bool.or_eq_true, Bool.and_eq_true, decide_eq_true_eq, beq_iff_eq, ofNat_lt a b a1 b1, ofNat_eq a b a1 b1]
    rcases Nat.lt_trichotomy a b with h | h | h
    · have : p * (a + 1) ≤ p * b := Nat.mul_le_mul_left p h
      rw [Nat.mul_add, Nat.mul_one] at this
      constructor
      · intro _; omega
      · intro _; exact Or.inl h
    · subst h
      constructor
      · rintro (h | ⟨_, h⟩)
        · omega
        · omega
      · intro h; exact Or.inr ⟨rfl, by omega⟩
    · have : p * (b + 1) ≤ p * a := Nat.mul_le_mul_left p h
      rw [Nat.mul_add, Nat.mul_one] at this
      constructor
      · rintro (h' | ⟨h', _⟩)
        · omega
        · omega
      · intro h'; omega

theorem less_putL_fits (X Y n : Nat) (hx : X < 256 ^ n) (hy : Y < 256 ^ n) : Op.bytesLess (putL X n) (putL Y n) = decide (X < Y) := by
  rw [less_putL, Nat.mod_eq_of_lt hx, Nat.mod_eq_of_lt hy]

theorem putL_inj (X Y n : Nat) (hx : X < 256 ^ n) (hy : Y < 256 ^ n) (h : putL X n = putL Y n) : X = Y := by
  rw [← beN_putL_fits X n hx, ← beN_putL_fits Y n hy, h]

/-- What the test 'x>>(8*n) != 0' says. -/
theorem fits_of (X n : Nat) (h : ((X : Int) / 2 ^ (8 * n) != 0) = false) : X < 256 ^ n := by
  have h0 : (X : Int) / 2 ^ (8 * n) = 0 := by simpa using h
  have h1 : X / 2 ^ (8 * n) = 0 := by
    have e : ((X / 2 ^ (8 * n) : Nat) : Int) = (X : Int) / 2 ^ (8 * n) := by simp
    omega
  rw [shr_digit] at h1
  exact Nat.lt_of_div_eq_zero (Nat.pow_pos (by omega)) h1

theorem fits_to (X n : Nat) (h : X < 256 ^ n) : ((X : Int) / 2 ^ (8 * n) != 0) = false := by
  have h1 : X / 256 ^ n = 0 := Nat.div_eq_of_lt h
  rw [← shr_digit] at h1
  have e : ((X / 2 ^ (8 * n) : Nat) : Int) = (X : Int) / 2 ^ (8 * n) := by simp
  rw [← e, h1]
  rfl

theorem fits_not (X n : Nat) (h : ¬ X < 256 ^ n) : ((X : Int) / 2 ^ (8 * n) != 0) = true := by
  cases hc : ((X : Int) / 2 ^ (8 * n) != 0)
  · exact absurd (fits_of X n hc) h
  · rfl

/-- 'x<<8 | b' on uint64, x below 2^56. -/
theorem or_step (X : Nat) (b : UInt8) (h : X < 72057594037927936) : bits BinOp.or IntKind.u64 (IntKind.u64.wrap ((X : Int) * 256)) (IntKind.u64.wrap (b.toNat : Int)) = ((X * 256 + b.toNat : Nat) : Int) := by
  have hb := b.toNat_lt
  have e1 : IntKind.u64.wrap ((X : Int) * 256) = ((X * 256 : Nat) : Int) := by rw [IntKind.wrap_u64]; omega
  have e2 : IntKind.u64.wrap (b.toNat : Int) = ((b.toNat : Nat) : Int) := by rw [IntKind.wrap_u64]; omega
  rw [e1, e2, u64_or_nat _ _ (by omega) (by omega)]
  have e3 := Nat.two_pow_add_eq_or_of_lt (i := 8) (b := b.toNat) (by omega) X
  rw [show X * 256 = 2 ^ 8 * X by omega, ← e3]

theorem take_snoc (l : List UInt8) (k : Nat) (h : k < l.length) : l.take (k + 1) = l.take k ++ [l[k]] := by
  rw [List.take_succ_eq_append_getElem h]


end Go.Proofs.YtocgnbbnaamjjaaGreatDoor

namespace Go.Proofs.YtocgnbbnaamjjaaGreatDoor
open Go.RowKit

theorem Tryz.info5 : (Tryz.prog.info? 5).map (fun i => (i.zero, i.size, i.bytes)) = some (some (.int .u8 0), 1, 1) := by kernel_rfl

/-- isWidth: whether n is from 1 to 8. -/
theorem width_yes (n : Int) (w : World) (h1 : 1 ≤ n) (h8 : n ≤ 8) :
    Calls Tryz.prog 66 #[.int .i64 n] w fun e w' => e = .returned (.bool true) ∧ w = w' := by
  have hd8 : decide (n ≤ 8) = true := decide_eq_true h8
  go_enter Tryz.func66, Tryz.ntmps66
  go_wp2
  go_ret
  exact ⟨rfl, rfl⟩

theorem width_no (n : Int) (w : World) (h : n < 1 ∨ 8 < n) :
    Calls Tryz.prog 66 #[.int .i64 n] w fun e w' => e = .returned (.bool false) ∧ w = w' := by
  by_cases h1 : 1 ≤ n
  · have hd8 : decide (n ≤ 8) = false := decide_eq_false (by omega)
    go_enter Tryz.func66, Tryz.ntmps66
    go_wp2
    go_ret
    exact ⟨rfl, rfl⟩
  · go_enter Tryz.func66, Tryz.ntmps66
    go_wp2
    go_ret
    exact ⟨rfl, rfl⟩

/-- Put, n no width: ErrRange. -/
theorem put_range (x n : Int) (w : World) (h : n < 1 ∨ 8 < n) :
    Calls Tryz.prog 80 #[.int .u64 x, .int .i64 n] w fun e w' => e = .returned (.tuple #[.string ⟨#[]⟩, .iface 30 (.int .i64 2)]) ∧ w = w' := by
  go_enter Tryz.func80, Tryz.ntmps80
  go_wp2_with (go_at_call 66; refine (width_no _ _ h).mono ?_; rintro e w' ⟨rfl, rfl⟩)
  go_ret2
  exact ⟨rfl, rfl⟩

/-- Put, the number has more than n bytes: ErrFull. -/
theorem put_full (X n : Nat) (w : World) (h1 : 1 ≤ n) (h8 : n ≤ 8) (hf : ((X : Int) / 2 ^ (8 * n) != 0) = true) :
    Calls Tryz.prog 80 #[.int .u64 X, .int .i64 n] w fun e w' => e = .returned (.tuple #[.string ⟨#[]⟩, .iface 30 (.int .i64 12)]) ∧ w = w' := by
  go_enter Tryz.func80, Tryz.ntmps80
  go_wp2_with (go_at_call 66; refine (width_yes _ _ (by omega) (by omega)).mono ?_; rintro e w' ⟨rfl, rfl⟩)
  go_ret2
  exact ⟨rfl, rfl⟩

set_option maxHeartbeats 400000 in
/-- Put, the number fits: its n bytes. -/
theorem put_fits (X n : Nat) (w : World) (h1 : 1 ≤ n) (h8 : n ≤ 8) (hf : ((X : Int) / 2 ^ (8 * n) != 0) = false) :
    Calls Tryz.prog 80 #[.int .u64 X, .int .i64 n] w fun e w' => e = .returned (.tuple #[.string ⟨(putL X n).toArray⟩, .nilIface]) ∧ Below w.heap.size w w' := by
  obtain ⟨i0, hi, hz0, hz1, hz2⟩ := info_parts Tryz.info5
  have hmk := run_make (P := Tryz.prog) w 145 5 i0 (.int .u8 0) Tryz.underlying145 hi hz0 .i64 .i64 n n (by omega) (by omega) (by rw [hz2]; omega) (by omega)
  rw [hz1, Int.toNat_natCast, Nat.mul_one, show (Value.int IntKind.u8 0).cells = #[Value.int .u8 0] from rfl, putC_zero X n] at hmk
  clear hi hz0 hz1 hz2
  go_enter Tryz.func80, Tryz.ntmps80
  go_wp2_with (go_at_call 66; refine (width_yes _ _ (by omega) (by omega)).mono ?_; rintro e w' ⟨rfl, rfl⟩)
  go_loopw [22] (fun i wr => ∃ k : Nat, k ≤ n ∧ i = .int .i64 k ∧ wr = w.alloc (.cells (putC X n k) 5)) (fun i _ => n - (intOf i).toNat)
  case atStart => exact ⟨0, by omega, rfl, rfl⟩
  case round =>
    obtain ⟨k, hk, rfl, rfl⟩ := hrel
    clear hmk
    by_cases hlt : k < n
    · have hcell : (w.alloc (.cells (putC X n k) 5)).cell? ⟨w.heap.size, n - 1 - k, none⟩ = some (.int .u8 (if n ≤ k + (n - 1 - k) then ((X / 256 ^ (n - 1 - (n - 1 - k)) % 256 : Nat) : Int) else 0)) := by
        rw [World.cell?_alloc_at _ _ _ _ rfl]; exact putC_get X n k _ (by omega)
      go_wp2
      go_roundw
      case rel =>
        refine ⟨k + 1, by omega, by go_num, ?_⟩
        have e : ((X : Int) / 2 ^ (8 * k) % 256) = ((X / 256 ^ k % 256 : Nat) : Int) := by rw [← shr_digit]; simp
        rw [e, putC_step X n k hlt]
      case measure => simp [intOf]; omega
    · obtain rfl : k = n := by omega
      have hback := run_convert_bytes_back (P := Tryz.prog) (w.alloc (.cells (putC X k k) 5)) 145 9 5 ⟨w.heap.size, 0, none⟩ k (putL X k) Tryz.underlying145 Tryz.underlying5 Tryz.underlying9 (fun j hj => by
        rw [putL_length] at hj
        rw [Addr.add_lit, Nat.zero_add, World.cell?_alloc_at _ _ _ _ rfl]
        exact putC_end X k j hj)
      rw [putL_length] at hback
      go_wp2
      go_ret2
      exact ⟨rfl, (Below.refl _ _).alloc (Nat.le_refl _) _⟩

end Go.Proofs.YtocgnbbnaamjjaaGreatDoor

namespace Go.Proofs.YtocgnbbnaamjjaaGreatDoor
open Go.RowKit

/-- Block p is an error with a place. -/
def Flt (w : World) (p : Nat) (e at_ : Int) : Prop :=
  w.heap[p]? = some (.cells #[.int .i64 e, .int .i64 at_] 99)

section
variable {w w' : World} {p : Nat} {at_ e : Int}

theorem Flt.lt (h : Flt w p e at_) : p < w.heap.size := (Array.getElem?_eq_some_iff.1 h).1

theorem Flt.c0 (h : Flt w p e at_) : w.cell? ⟨p, 0, none⟩ = some (.int .i64 e) := cell_of_row w p 0 _ _ (0, 0) h

theorem Flt.c1 (h : Flt w p e at_) : w.cell? ⟨p, 1, none⟩ = some (.int .i64 at_) := cell_of_row w p 1 _ _ (0, 0) h

theorem Flt.kept {row : Option Nat} (h : Flt w p e at_) (hg : w.grownBy w' row) (hne : some p ≠ row) : Flt w' p e at_ :=
  (hg.block p h.lt hne).trans h

theorem Flt.below (h : Flt w p e at_) (hb : Below w.heap.size w w') : Flt w' p e at_ := (hb.block p h.lt).trans h

theorem Flt.alloc (h : Flt w p e at_) (o : Obj) : Flt (w.alloc o) p e at_ := h.kept (World.grownBy_alloc w o none) (by simp)
end

end Go.Proofs.YtocgnbbnaamjjaaGreatDoor

namespace Go.Proofs.YtocgnbbnaamjjaaGreatDoor
open Go.RowKit

/-- Block g is a Reader that has s left, the next byte's number is at, and what was wrong first lies at f. -/
def Rd (w : World) (g : Nat) (s : ByteArray) (at_ : Int) (f : Option Addr) : Prop :=
  w.heap[g]? = some (.cells #[.string s, .int .i64 at_, .pointer f] 147)

section
variable {w w' : World} {g p : Nat} {s : ByteArray} {at_ e : Int} {f : Option Addr}

theorem Rd.lt (h : Rd w g s at_ f) : g < w.heap.size := (Array.getElem?_eq_some_iff.1 h).1

theorem Rd.c0 (h : Rd w g s at_ f) : w.cell? ⟨g, 0, none⟩ = some (.string s) := cell_of_row w g 0 _ _ (0, 0) h

theorem Rd.c1 (h : Rd w g s at_ f) : w.cell? ⟨g, 1, none⟩ = some (.int .i64 at_) := cell_of_row w g 1 _ _ (0, 0) h

theorem Rd.c2 (h : Rd w g s at_ f) : w.cell? ⟨g, 2, none⟩ = some (.pointer f) := cell_of_row w g 2 _ _ (0, 0) h

theorem Rd.fz (h : Rd w g s at_ f) (o : Nat) : w.frozen? ⟨g, o, none⟩ = false := by
  have h' : w.heap[g]? = some (.cells #[.string s, .int .i64 at_, .pointer f] 147) := h
  simp [World.frozen?, h']

/-- Another block may be written. -/
theorem Rd.kept {row : Option Nat} (h : Rd w g s at_ f) (hg : w.grownBy w' row) (hne : some g ≠ row) : Rd w' g s at_ f :=
  (hg.block g h.lt hne).trans h

theorem Rd.below (h : Rd w g s at_ f) (hb : Below w.heap.size w w') : Rd w' g s at_ f := (hb.block g h.lt).trans h

theorem Rd.alloc (h : Rd w g s at_ f) (o : Obj) : Rd (w.alloc o) g s at_ f := h.kept (World.grownBy_alloc w o none) (by simp)

theorem Rd.set {i : Nat} {v : Value} (h : Rd w g s at_ f) (c : Array Value) (hc : (#[.string s, .int .i64 at_, .pointer f] : Array Value).setIfInBounds i v = c) :
    (w.setCell ⟨g, i, none⟩ v).heap[g]? = some (.cells c 147) := by
  have h' : w.heap[g]? = some (.cells #[.string s, .int .i64 at_, .pointer f] 147) := h
  rw [← hc]
  show (w.heap.modify g _)[g]? = _
  rw [Array.getElem?_modify, if_pos rfl, h']
  rfl

theorem grownBy_setCell (w : World) (g i : Nat) (v : Value) : w.grownBy (w.setCell ⟨g, i, none⟩ v) (some g) :=
  ⟨rfl, rfl, rfl, by simp [World.setCell], fun k _ hne => Below.heap_setCell _ _ _ _ (by intro e; exact hne (by rw [e]))⟩

theorem grownBy_trans {a b c : World} {row : Option Nat} (h : a.grownBy b row) (k : b.grownBy c row) : a.grownBy c row :=
  ⟨k.os.trans h.os, k.tape.trans h.tape, k.output.trans h.output, Nat.le_trans h.size k.size,
    fun i hi hne => (k.block i (Nat.lt_of_lt_of_le hi h.size) hne).trans (h.block i hi hne)⟩
end

theorem extract_list (s : ByteArray) (a b : Nat) : (s.extract a b).data.toList = (s.data.toList.drop a).take (b - a) := Lib.extract_data s a b

/-- Two neighbouring pieces. -/
theorem extract_cat (s : ByteArray) (n m : Nat) (h : n + m ≤ s.size) : s.extract 0 n ++ (s.extract n s.size).extract 0 m = s.extract 0 (n + m) := by
  apply ByteArray.ext
  apply Array.toList_inj.1
  have e : ∀ a b : ByteArray, (a ++ b).data.toList = a.data.toList ++ b.data.toList := fun a b => by simp
  have hl : s.data.toList.length = s.size := by simp
  rw [e, extract_list, extract_list, extract_list, extract_list]
  simp only [Nat.sub_zero, List.drop_zero]
  rw [List.take_add, List.take_take, Nat.min_eq_left (by omega)]

theorem extract_extract (s : ByteArray) (n m : Nat) : (s.extract n s.size).extract m (s.extract n s.size).size = s.extract (n + m) s.size := by
  apply ByteArray.ext
  apply Array.toList_inj.1
  rw [Lib.extract_to_end, Lib.extract_to_end, Lib.extract_to_end, List.drop_drop]

/-- New. -/
theorem new_any (s : ByteArray) (off : Int) (w : World) :
    Calls Tryz.prog 34 #[.string s, .int .i64 off] w fun e w' =>
      e = .returned (.pointer (some ⟨w.heap.size, 0, none⟩)) ∧ w' = w.alloc (.cells #[.string s, .int .i64 off, .pointer none] 147) := by
  go_enter Tryz.func34, Tryz.ntmps34
  go_wp2
  go_ret
  exact ⟨rfl, rfl⟩

theorem at_any {g : Nat} {s : ByteArray} {n : Int} {f : Option Addr} (w : World) (h : Rd w g s n f) :
    Calls Tryz.prog 35 #[.pointer (some ⟨g, 0, none⟩)] w fun e w' => e = .returned (.int .i64 n) ∧ w = w' := by
  have h1 := h.c1
  go_enter Tryz.func35, Tryz.ntmps35
  go_wp2
  go_ret
  exact ⟨rfl, rfl⟩

theorem left_any {g : Nat} {s : ByteArray} {n : Int} {f : Option Addr} (w : World) (h : Rd w g s n f) :
    Calls Tryz.prog 42 #[.pointer (some ⟨g, 0, none⟩)] w fun e w' => e = .returned (.int .i64 s.size) ∧ w = w' := by
  have h1 := h.c0
  go_enter Tryz.func42, Tryz.ntmps42
  go_wp2
  go_ret
  exact ⟨rfl, rfl⟩

theorem err_none {g : Nat} {s : ByteArray} {n : Int} (w : World) (h : Rd w g s n none) :
    Calls Tryz.prog 38 #[.pointer (some ⟨g, 0, none⟩)] w fun e w' => e = .returned .nilIface ∧ w = w' := by
  have h1 := h.c2
  go_enter Tryz.func38, Tryz.ntmps38
  go_wp2
  go_ret
  exact ⟨rfl, rfl⟩

theorem err_some {g p : Nat} {s : ByteArray} {n x y : Int} (w : World) (h : Rd w g s n (some ⟨p, 0, none⟩)) (hf : Flt w p x y) :
    Calls Tryz.prog 38 #[.pointer (some ⟨g, 0, none⟩)] w fun e w' =>
      e = .returned (.iface 97 (.pointer (some ⟨w.heap.size, 0, none⟩))) ∧ w' = w.alloc (.cells #[.int .i64 x, .int .i64 y] 99) := by
  have h1 := h.c2
  have h2 := hf.c0
  have h3 := hf.c1
  go_enter Tryz.func38, Tryz.ntmps38
  go_wp2
  go_ret
  exact ⟨rfl, rfl⟩

/-- Fail: the first. -/
theorem fail_first {g : Nat} {s : ByteArray} {n : Int} (x y : Int) (w : World) (h : Rd w g s n none) :
    Calls Tryz.prog 49 #[.pointer (some ⟨g, 0, none⟩), .int .i64 x, .int .i64 y] w fun e w' => e = .returned (.tuple #[]) ∧
      Rd w' g s n (some ⟨w.heap.size, 0, none⟩) ∧ Flt w' w.heap.size x y ∧ w.grownBy w' (some g) := by
  have h1 := h.c2
  have hz := h.fz 2
  have hlt := h.lt
  have hfin : Hid (Rd ((w.setCell ⟨g, 2, none⟩ (.pointer (some ⟨w.heap.size, 0, none⟩))).alloc (.cells #[.int .i64 x, .int .i64 y] 99)) g s n (some ⟨w.heap.size, 0, none⟩) ∧ Flt ((w.setCell ⟨g, 2, none⟩ (.pointer (some ⟨w.heap.size, 0, none⟩))).alloc (.cells #[.int .i64 x, .int .i64 y] 99)) w.heap.size x y ∧ w.grownBy ((w.setCell ⟨g, 2, none⟩ (.pointer (some ⟨w.heap.size, 0, none⟩))).alloc (.cells #[.int .i64 x, .int .i64 y] 99)) (some g)) := by
    have h2 : Rd (w.setCell ⟨g, 2, none⟩ (.pointer (some ⟨w.heap.size, 0, none⟩))) g s n (some ⟨w.heap.size, 0, none⟩) := h.set _ rfl
    refine ⟨h2.alloc _, ?_, grownBy_trans (grownBy_setCell _ _ _ _) (World.grownBy_alloc _ _ _)⟩
    have e := heap_alloc_new (w.setCell ⟨g, 2, none⟩ (.pointer (some ⟨w.heap.size, 0, none⟩))) (.cells #[.int .i64 x, .int .i64 y] 99)
    have es : (w.setCell ⟨g, 2, none⟩ (.pointer (some ⟨w.heap.size, 0, none⟩))).heap.size = w.heap.size := by simp [World.setCell]
    rw [es] at e
    exact e
  go_enter Tryz.func49, Tryz.ntmps49
  go_wp2
  go_end0
  exact ⟨rfl, hfin.out⟩

/-- Fail: not the first. -/
theorem fail_noted {g : Nat} {s : ByteArray} {n : Int} {p : Addr} (x y : Int) (w : World) (h : Rd w g s n (some p)) :
    Calls Tryz.prog 49 #[.pointer (some ⟨g, 0, none⟩), .int .i64 x, .int .i64 y] w fun e w' => e = .returned (.tuple #[]) ∧ w = w' := by
  have h1 := h.c2
  go_enter Tryz.func49, Tryz.ntmps49
  go_wp2
  go_end0
  exact ⟨rfl, rfl⟩


/-- Bytes, n below 0, nothing noted yet: ErrRange at the next byte. -/
theorem bytes_neg {g : Nat} {s : ByteArray} {a : Int} (n : Int) (w : World) (h : Rd w g s a none) (hn : n < 0) :
    Calls Tryz.prog 39 #[.pointer (some ⟨g, 0, none⟩), .int .i64 n] w fun e w' => e = .returned (.string ⟨#[]⟩) ∧
      Rd w' g s a (some ⟨w.heap.size, 0, none⟩) ∧ Flt w' w.heap.size 2 a ∧ w.grownBy w' (some g) := by
  have h1 := h.c1
  go_enter Tryz.func39, Tryz.ntmps39
  go_wp2_with fail
  refine (fail_first _ _ _ h).mono ?_
  rintro e w' ⟨rfl, hr, hf, hg⟩
  have h2 := hr.c2
  go_wp2
  go_ret
  exact ⟨rfl, hr, hf, hg⟩

/-- Bytes, more than there are, nothing noted yet: ErrMissing at the next byte. -/
theorem bytes_missing {g : Nat} {s : ByteArray} {a : Int} (n : Int) (w : World) (h : Rd w g s a none) (hn : (s.size : Int) < n) :
    Calls Tryz.prog 39 #[.pointer (some ⟨g, 0, none⟩), .int .i64 n] w fun e w' => e = .returned (.string ⟨#[]⟩) ∧
      Rd w' g s a (some ⟨w.heap.size, 0, none⟩) ∧ Flt w' w.heap.size 7 a ∧ w.grownBy w' (some g) := by
  have h0 := h.c0
  have h1 := h.c1
  have hn0 : ¬ n < 0 := by omega
  go_enter Tryz.func39, Tryz.ntmps39
  go_wp2_with fail
  refine (fail_first _ _ _ h).mono ?_
  rintro e w' ⟨rfl, hr, hf, hg⟩
  have h2 := hr.c2
  go_wp2
  go_ret
  exact ⟨rfl, hr, hf, hg⟩

/-- Bytes, something noted already: nothing is read. -/
theorem bytes_noted {g : Nat} {s : ByteArray} {a : Int} {p : Addr} (n : Int) (w : World) (h : Rd w g s a (some p)) :
    Calls Tryz.prog 39 #[.pointer (some ⟨g, 0, none⟩), .int .i64 n] w fun e w' => e = .returned (.string ⟨#[]⟩) ∧ w = w' := by
  have h0 := h.c0
  have h1 := h.c1
  have h2 := h.c2
  by_cases hn0 : n < 0
  · go_enter Tryz.func39, Tryz.ntmps39
    go_wp2_with fail
    refine (fail_noted _ _ _ h).mono ?_
    rintro e w' ⟨rfl, rfl⟩
    go_wp2
    go_ret
    exact ⟨rfl, rfl⟩
  · by_cases hn1 : (s.size : Int) < n
    · go_enter Tryz.func39, Tryz.ntmps39
      go_wp2_with fail
      refine (fail_noted _ _ _ h).mono ?_
      rintro e w' ⟨rfl, rfl⟩
      go_wp2
      go_ret
      exact ⟨rfl, rfl⟩
    · go_enter Tryz.func39, Tryz.ntmps39
      go_wp2
      go_ret
      exact ⟨rfl, rfl⟩

set_option maxHeartbeats 1000000 in
/-- Bytes, they are there. -/
theorem bytes_read {g : Nat} {s : ByteArray} {a : Int} (n : Nat) (w : World) (h : Rd w g s a none) (hn : n ≤ s.size) (ha : 0 ≤ a) (hb : a + s.size ≤ 281474976710656) :
    Calls Tryz.prog 39 #[.pointer (some ⟨g, 0, none⟩), .int .i64 n] w fun e w' => e = .returned (.string (s.extract 0 n)) ∧
      Rd w' g (s.extract n s.size) (a + n) none ∧ w.grownBy w' (some g) := by
  have h0 := h.c0
  have h1 := h.c1
  have h2 := h.c2
  have z0 := h.fz 0
  have z1 := h.fz 1
  have hn0 : ¬ (n : Int) < 0 := by omega
  have hn1 : ¬ (s.size : Int) < n := by omega
  go_enter Tryz.func39, Tryz.ntmps39
  go_wp2
  go_region
  go_wp2
  go_ret
  refine ⟨rfl, ?_, ?_⟩
  · have k0 : Rd (w.setCell ⟨g, 0, none⟩ (.string (s.extract n s.size))) g (s.extract n s.size) a none := h.set _ rfl
    exact k0.set _ rfl
  · have hg := grownBy_trans (grownBy_setCell w g 0 (.string (s.extract n s.size))) (grownBy_setCell _ g 1 (.int .i64 (a + n)))
    exact ⟨hg.os, hg.tape, hg.output, hg.size, hg.block⟩


end Go.Proofs.YtocgnbbnaamjjaaGreatDoor

namespace Go.Proofs.YtocgnbbnaamjjaaGreatDoor
open Go.RowKit

/-- Num, n no width, nothing noted yet: ErrRange at the next byte. -/
theorem num_range {g : Nat} {s : ByteArray} {a : Int} (n : Int) (w : World) (h : Rd w g s a none) (hn : n < 1 ∨ 8 < n) :
    Calls Tryz.prog 48 #[.pointer (some ⟨g, 0, none⟩), .int .i64 n] w fun e w' => e = .returned (.int .i64 0) ∧
      Rd w' g s a (some ⟨w.heap.size, 0, none⟩) ∧ Flt w' w.heap.size 2 a ∧ w.grownBy w' (some g) := by
  have h1 := h.c1
  go_enter Tryz.func48, Tryz.ntmps48
  go_wp2_with fail
  refine (width_no _ _ hn).mono ?_
  rintro e w' ⟨rfl, rfl⟩
  go_wp2_with fail
  refine (fail_first _ _ _ h).mono ?_
  rintro e w' ⟨rfl, hr, hf, hg⟩
  go_wp2
  go_ret
  exact ⟨rfl, hr, hf, hg⟩

theorem num_range_noted {g : Nat} {s : ByteArray} {a : Int} {p : Addr} (n : Int) (w : World) (h : Rd w g s a (some p)) (hn : n < 1 ∨ 8 < n) :
    Calls Tryz.prog 48 #[.pointer (some ⟨g, 0, none⟩), .int .i64 n] w fun e w' => e = .returned (.int .i64 0) ∧ w = w' := by
  have h1 := h.c1
  go_enter Tryz.func48, Tryz.ntmps48
  go_wp2_with fail
  refine (width_no _ _ hn).mono ?_
  rintro e w' ⟨rfl, rfl⟩
  go_wp2_with fail
  refine (fail_noted _ _ _ h).mono ?_
  rintro e w' ⟨rfl, rfl⟩
  go_wp2
  go_ret
  exact ⟨rfl, rfl⟩

/-- The bytes l lie in block b from its head on. -/
def ByteRow (w : World) (b : Nat) (l : List UInt8) : Prop := ∀ k x, l[k]? = some x → w.cell? ⟨b, k, none⟩ = some (.int .u8 (x.toNat : Int))

theorem byteRow_new (W : World) (s : ByteArray) (c : Nat) (E : TypeId) : ByteRow (W.alloc (.cells (bytesRow s c) E ((bytesRow s c).size, (bytesRow s c).size + 1))).drew W.heap.size s.data.toList := by
  intro k x hx
  have e := World.cell?_alloc_mark W (bytesRow s c) E ((bytesRow s c).size, (bytesRow s c).size + 1) k
  refine Eq.trans e ?_
  have hk : k < s.data.size := by
    have := (List.getElem?_eq_some_iff.1 hx).1
    simpa using this
  rw [Array.getElem?_toList] at hx
  rw [bytesRow, Array.getElem?_append_left (by simpa using hk), Array.getElem?_map, hx]
  rfl

set_option maxHeartbeats 1000000 in
theorem num_read {g : Nat} {s : ByteArray} {a : Int} (n : Nat) (w : World) (h : Rd w g s a none) (h1 : 1 ≤ n) (h8 : n ≤ 8) (hn : n ≤ s.size) (ha : 0 ≤ a) (hb : a + s.size ≤ 281474976710656) :
    Calls Tryz.prog 48 #[.pointer (some ⟨g, 0, none⟩), .int .i64 n] w fun e w' => e = .returned (.int .i64 (wrap64 (beN (s.data.toList.take n)))) ∧
      Rd w' g (s.extract n s.size) (a + n) none ∧ w.grownBy w' (some g) := by
  have HT : Hid ((s.extract 0 n).data.toList = s.data.toList.take n) := by show _ = _; rw [Lib.extract_data]; simp
  go_enter Tryz.func48, Tryz.ntmps48
  go_wp2_with fail
  refine (width_yes _ _ (by omega) (by omega)).mono ?_
  rintro e w' ⟨rfl, rfl⟩
  go_wp2_with fail
  refine (bytes_read _ _ h hn ha hb).mono ?_
  rintro e w' ⟨rfl, hr, hg⟩
  have hcv := fun W => run_bytes_of_string (P := Tryz.prog) W 9 145 5 (s.extract 0 n) Tryz.underlying9 Tryz.underlying145 Tryz.underlying5
  go_wp2
  have hB := byteRow_new w' (s.extract 0 n) (grownCap w' n 0 5) 5
  have hR : Rd ((w'.alloc (Obj.cells (bytesRow (s.extract 0 n) (grownCap w' n 0 5)) 5 ((bytesRow (s.extract 0 n) (grownCap w' n 0 5)).size, (bytesRow (s.extract 0 n) (grownCap w' n 0 5)).size + 1))).drew) g (s.extract n s.size) (a + n) none := hr.alloc _
  have hG : w.grownBy ((w'.alloc (Obj.cells (bytesRow (s.extract 0 n) (grownCap w' n 0 5)) 5 ((bytesRow (s.extract 0 n) (grownCap w' n 0 5)).size, (bytesRow (s.extract 0 n) (grownCap w' n 0 5)).size + 1))).drew) (some g) := by
    have k2 := grownBy_trans hg (World.grownBy_alloc w' (Obj.cells (bytesRow (s.extract 0 n) (grownCap w' n 0 5)) 5 ((bytesRow (s.extract 0 n) (grownCap w' n 0 5)).size, (bytesRow (s.extract 0 n) (grownCap w' n 0 5)).size + 1)) (some g))
    exact ⟨k2.os, k2.tape, k2.output, k2.size, k2.block⟩
  have hL : (s.extract 0 n).data.toList.length = n := by simp; omega
  have HL := Lib.hid hL
  clear hL hcv
  generalize ((w'.alloc (Obj.cells (bytesRow (s.extract 0 n) (grownCap w' n 0 5)) 5 ((bytesRow (s.extract 0 n) (grownCap w' n 0 5)).size, (bytesRow (s.extract 0 n) (grownCap w' n 0 5)).size + 1))).drew) = W1 at *
  generalize (s.extract 0 n).data.toList = t at *
  go_loop [5, 22] (fun x i => ∃ k : Nat, k ≤ n ∧ i = .int .i64 k ∧ x = .int .u64 (beN (t.take k))) (fun _ i => n - (intOf i).toNat)
  case atStart => exact ⟨0, by omega, rfl, rfl⟩
  case round =>
    obtain ⟨k, hk, rfl, rfl⟩ := hrel
    by_cases hlt : k < n
    · have hcell := hB k (t[k]'(by rw [HL.out]; exact hlt)) (List.getElem?_eq_getElem _)
      have hX : beN (t.take k) < 72057594037927936 := by
        have h := beN_lt (t.take k)
        have hl : (t.take k).length = k := by rw [List.length_take, HL.out]; omega
        rw [hl] at h
        have h7 : 256 ^ k ≤ 256 ^ 7 := Nat.pow_le_pow_right (by omega) (by omega)
        omega
      have HS := Lib.hid (or_step (beN (t.take k)) (t[k]'(by rw [HL.out]; exact hlt)) hX)
      have HN := Lib.hid (take_snoc t k (by rw [HL.out]; exact hlt))
      clear hX
      go_wp2
      go_round
      case rel => exact ⟨k + 1, by omega, by go_num, by rw [HS.out, HN.out, beN_snoc]⟩
      case measure => simp [intOf]; omega
    · obtain rfl : k = n := by omega
      have HK := Lib.hid (List.take_of_length_le (l := t) (i := k) (by rw [HL.out]; omega))
      go_wp2
      go_ret
      exact ⟨by rw [HK.out, HT.out]; rfl, hR, hG⟩

/-- Num, a width, but there are not so many, nothing noted yet: ErrMissing at the next byte. -/
theorem num_missing {g : Nat} {s : ByteArray} {a : Int} (n : Int) (w : World) (h : Rd w g s a none) (h1 : 1 ≤ n) (h8 : n ≤ 8) (hn : (s.size : Int) < n) :
    Calls Tryz.prog 48 #[.pointer (some ⟨g, 0, none⟩), .int .i64 n] w fun e w' => e = .returned (.int .i64 0) ∧
      Rd w' g s a (some ⟨w.heap.size, 0, none⟩) ∧ Flt w' w.heap.size 7 a ∧ w.grownBy w' (some g) := by
  go_enter Tryz.func48, Tryz.ntmps48
  go_wp2_with fail
  refine (width_yes _ _ h1 h8).mono ?_
  rintro e w' ⟨rfl, rfl⟩
  go_wp2_with fail
  refine (bytes_missing _ _ h hn).mono ?_
  rintro e w' ⟨rfl, hr, hf, hg⟩
  have hcv := fun W => run_bytes_of_string (P := Tryz.prog) W 9 145 5 ⟨#[]⟩ Tryz.underlying9 Tryz.underlying145 Tryz.underlying5
  go_wp2
  refine wp_loop_rounds 1 ?_
  rw [rounds_succ]
  go_wp2
  go_ret
  have k2 := grownBy_trans hg (World.grownBy_alloc w' (.cells (bytesRow ⟨#[]⟩ (grownCap w' 0 0 5)) 5 ((bytesRow ⟨#[]⟩ (grownCap w' 0 0 5)).size, (bytesRow ⟨#[]⟩ (grownCap w' 0 0 5)).size + 1)) (some g))
  exact ⟨rfl, hr.alloc _, hf.alloc _, k2.os, k2.tape, k2.output, k2.size, k2.block⟩

/-- Num, a width, something noted already: nothing is read. -/
theorem num_noted {g : Nat} {s : ByteArray} {a : Int} {p : Addr} (n : Int) (w : World) (h : Rd w g s a (some p)) (h1 : 1 ≤ n) (h8 : n ≤ 8) :
    Calls Tryz.prog 48 #[.pointer (some ⟨g, 0, none⟩), .int .i64 n] w fun e w' => e = .returned (.int .i64 0) ∧
      Rd w' g s a (some p) ∧ w.grownBy w' none := by
  go_enter Tryz.func48, Tryz.ntmps48
  go_wp2_with fail
  refine (width_yes _ _ h1 h8).mono ?_
  rintro e w' ⟨rfl, rfl⟩
  go_wp2_with fail
  refine (bytes_noted _ _ h).mono ?_
  rintro e w' ⟨rfl, rfl⟩
  have hcv := fun W => run_bytes_of_string (P := Tryz.prog) W 9 145 5 ⟨#[]⟩ Tryz.underlying9 Tryz.underlying145 Tryz.underlying5
  go_wp2
  refine wp_loop_rounds 1 ?_
  rw [rounds_succ]
  go_wp2
  go_ret
  have k2 := World.grownBy_alloc w (.cells (bytesRow ⟨#[]⟩ (grownCap w 0 0 5)) 5 ((bytesRow ⟨#[]⟩ (grownCap w 0 0 5)).size, (bytesRow ⟨#[]⟩ (grownCap w 0 0 5)).size + 1)) none
  exact ⟨rfl, h.alloc _, k2.os, k2.tape, k2.output, k2.size, k2.block⟩

end Go.Proofs.YtocgnbbnaamjjaaGreatDoor

namespace Go.Proofs.YtocgnbbnaamjjaaGreatDoor
open Go.RowKit
set_option linter.unusedVariables false

/-- Block B is of type T, and its cells are C. -/
def Blk (w : World) (B : Nat) (T : TypeId) (C : Array Value) : Prop := w.heap[B]? = some (.cells C T (0, 0))

section
variable {w w' : World} {B D : Nat} {T : TypeId} {C : Array Value}

theorem Blk.c (h : Blk w B T C) (j : Nat) : w.cell? ⟨B, j, none⟩ = C[j]? := by
  have h' : w.heap[B]? = some (.cells C T (0, 0)) := h
  simp [World.cell?, h']

theorem Blk.cv (h : Blk w B T C) (j : Nat) (v : Value) (hv : C[j]? = some v) : w.cell? ⟨B, j, none⟩ = some v := (h.c j).trans hv

theorem Blk.fz (h : Blk w B T C) (j : Nat) : w.frozen? ⟨B, j, none⟩ = false := by
  have h' : w.heap[B]? = some (.cells C T (0, 0)) := h
  simp [World.frozen?, h']

theorem Blk.lt (h : Blk w B T C) : B < w.heap.size := (Array.getElem?_eq_some_iff.1 h).1

theorem Blk.below (h : Blk w B T C) (hb : Below D w w') (hD : B < D) : Blk w' B T C := (hb.block _ hD).trans h

theorem Blk.kept (h : Blk w B T C) (hb : Below w.heap.size w w') : Blk w' B T C := h.below hb h.lt

theorem Blk.drew (h : Blk w B T C) : Blk w.drew B T C := h

theorem Blk.new (w : World) (T : TypeId) (C : Array Value) : Blk (w.alloc (.cells C T)) w.heap.size T C := by
  show (w.heap.push _)[w.heap.size]? = _
  simp

theorem Blk.alloc (h : Blk w B T C) (o : Obj) : Blk (w.alloc o) B T C := by
  show (w.heap.push o)[B]? = _
  rw [Array.getElem?_push_lt h.lt]
  exact (Array.getElem?_eq_getElem h.lt).symm.trans h

/-- Another block is written. -/
theorem Blk.grown {row : Option Nat} (h : Blk w B T C) (hg : w.grownBy w' row) (hne : some B ≠ row) : Blk w' B T C := (hg.block B h.lt hne).trans h
end

variable {P : Program}

/-- A part of a block is loaded. -/
theorem run_load_blk (w : World) (B k : Nat) (T t : TypeId) (C X : Array Value) (hB : Blk w B T C) (hu : (match P.underlying t with | some (.struct _) | some (.array _ _) => true | _ => false) = true)
    (hn : (P.info? t).map (·.size) = some X.size) (hC : (C.toList.drop k).take X.size = X.toList) : (loadVar t ⟨B, k, none⟩).run P w = .ok (.agg X) w := by
  have hl : (loadCells ⟨B, k, none⟩ X.toList.length).run P w = .ok X.toList.toArray w :=
    run_loadCells_list (P := P) w ⟨B, k, none⟩ X.toList (fun j v hv => by
      have hadd : (⟨B, k, none⟩ : Addr).add j = ⟨B, k + j, none⟩ := by unfold Addr.add; split <;> simp_all
      rw [hadd, hB.c (k + j)]
      rw [← hC] at hv
      have hj : j < X.size := by
        rcases Nat.lt_or_ge j X.size with h | h
        · exact h
        · rw [List.getElem?_eq_none (by simp; omega)] at hv; cases hv
      rw [List.getElem?_take_of_lt hj, List.getElem?_drop] at hv
      simpa using hv)
  cases hq : P.info? t with
  | none => simp [hq] at hn
  | some i =>
    have hs : i.size = X.toList.length := by simp [hq] at hn; simpa using hn
    cases hd : P.underlying t with
    | none => simp [hd] at hu
    | some d =>
      cases d <;> simp [hd] at hu <;> simp [loadVar, isAgg, run_underlying hd, sizeOf, typeInfo, hq, hs] <;> (simp at hl; simp [hl])

theorem exec_load_blk {a : Act} {o : Oper} {w : World} {x : Operand} {B k : Nat} {T : TypeId} {C : Array Value} (t : TypeId) (X : Array Value) (ho : o.op = .load t x) (hx : a.eval x = .pointer (some ⟨B, k, none⟩)) (hB : Blk w B T C)
    (hu : (match P.underlying t with | some (.struct _) | some (.array _ _) => true | _ => false) = true) (hn : (P.info? t).map (·.size) = some X.size) (hC : (C.toList.drop k).take X.size = X.toList) :
    (execOp a.eval o).run P w = .ok (.value (.agg X)) w := by
  have h := run_load_blk (P := P) w B k T t C X hB hu hn hC
  unfold execOp
  simp only [ho, hx, Instr.loadAt, Instr.sureAddr, Sem.run_bind, Sem.run_pure, Result.andThen_ok, h]

theorem load_blk {ops : Array Oper} {rest : List Oper} {o : Oper} {a : Act} {w : World} {Q : Exit → Act → World → Prop} {x : Operand} {B k : Nat} {T : TypeId} {C : Array Value} (t : TypeId) (X : Array Value) (hw : Region.wanted o (yielded ops a.tmps) = true) (ho : o.op = .load t x)
    (hx : a.eval x = .pointer (some ⟨B, k, none⟩)) (hB : Blk w B T C) (hu : (match P.underlying t with | some (.struct _) | some (.array _ _) => true | _ => false) = true) (hn : (P.info? t).map (·.size) = some X.size)
    (hC : (C.toList.drop k).take X.size = X.toList) (h : wpList P ops Q rest (a.put o.dst (.agg X)) w) : wpList P ops Q (o :: rest) a w :=
  wpList_step fun K hK => by
    rw [if_pos hw]
    have h1 := exec_load_blk (P := P) t X ho hx hB hu hn hC
    unfold Oper.wp
    rw [h1]
    exact hK _ _ h

/-- A new variable. -/
theorem alloc_blk {ops : Array Oper} {rest : List Oper} {o : Oper} {a : Act} {w : World} {Q : Exit → Act → World → Prop} (t : TypeId) (Z : Array Value) (hw : Region.wanted o (yielded ops a.tmps) = true) (ho : o.op = .alloc t) (hz : (P.info? t).map (·.zero) = some (some (.agg Z)))
    (h : wpList P ops Q rest (a.put o.dst (.pointer (some ⟨w.heap.size, 0, none⟩))) (w.alloc (.cells Z t))) : wpList P ops Q (o :: rest) a w :=
  wpList_step fun K hK => by
    have h1 : (Instr.alloc t true (.tuple #[])).run P w = .ok (.pointer (some ⟨w.heap.size, 0, none⟩)) (w.alloc (.cells Z t)) := by
      cases hi : P.info? t with
      | none => rw [hi] at hz; cases hz
      | some i =>
        rw [hi] at hz
        simp only [Option.map_some, Option.some.injEq] at hz
        simp [Instr.alloc, zeroValue, typeInfo, hi, hz, newVar, newRow, newObj, Value.cells]
        rfl
    rw [if_pos hw]
    unfold Oper.wp execOp
    simp only [ho, Sem.run_bind, Sem.run_pure, Result.andThen_ok, h1]
    exact hK _ _ h

/-- A part of a block is stored. -/
theorem run_store_blk (w : World) (B k : Nat) (T t : TypeId) (C C' : Array Value) (v : Value) (hB : Blk w B T C) (hn : (P.info? t).map (·.size) = some v.cells.size) (hk : k + v.cells.toList.length ≤ C.size)
    (h1 : v.cells.toList.all (·.oneCell') = true) (hC : (C.toList.take k ++ v.cells.toList ++ C.toList.drop (k + v.cells.toList.length)).toArray = C') : (storeVar t ⟨B, k, none⟩ v).run P w = .ok () (w.setRow B C') := by
  have h2 := run_storeCells_at (P := P) B k T v.cells.toList 0 C w hB (by simpa using hk) (fun c hc => (List.all_eq_true.1 h1) c hc)
  cases hi : P.info? t with
  | none => rw [hi] at hn; cases hn
  | some i =>
    rw [hi] at hn
    simp only [Option.map_some, Option.some.injEq] at hn
    rw [← hC]
    simp only [Nat.add_zero] at h2
    simp [storeVar, sizeOf, typeInfo, hi, hn, h2]

theorem Blk.setRow {w : World} {B : Nat} {T : TypeId} {C : Array Value} (h : Blk w B T C) (C' : Array Value) : Blk (w.setRow B C') B T C' := setRow_heap w B C C' T (0, 0) h

theorem store_blk {ops : Array Oper} {rest : List Oper} {o : Oper} {a : Act} {w : World} {Q : Exit → Act → World → Prop} {p x : Operand} {B k : Nat} {T : TypeId} {C : Array Value} (t : TypeId) (v : Value) (C' : Array Value) (hw : Region.wanted o (yielded ops a.tmps) = true) (ho : o.op = .store t p x)
    (hp : a.eval p = .pointer (some ⟨B, k, none⟩)) (hx : a.eval x = v) (hB : Blk w B T C) (hn : (P.info? t).map (·.size) = some v.cells.size) (hk : k + v.cells.toList.length ≤ C.size) (h1 : v.cells.toList.all (·.oneCell') = true)
    (hC : (C.toList.take k ++ v.cells.toList ++ C.toList.drop (k + v.cells.toList.length)).toArray = C')
    (h : ∀ w', Blk w' B T C' → Below B w w' → w.grownBy w' (some B) → wpList P ops Q rest (a.put o.dst undef) w') : wpList P ops Q (o :: rest) a w :=
  wpList_step fun K hK => by
    rw [if_pos hw]
    have h3 := run_store_blk (P := P) w B k T t C C' v hB hn hk h1 hC
    have hFr := hB.setRow C'
    have hbl : Below B w (w.setRow B C') := below_setRow (Below.refl _ _) (Nat.le_refl _) _
    have hg : w.grownBy (w.setRow B C') (some B) := ⟨rfl, rfl, rfl, by simp, fun j _ hj => setRow_other w B j C' (by intro e; subst e; exact hj rfl)⟩
    unfold Oper.wp execOp
    simp only [ho, hp, hx, Instr.storeAt, Instr.sureAddr, Sem.run_bind, Sem.run_pure, Result.andThen_ok, h3]
    exact hK _ _ (h _ hFr hbl hg)

/-- A struct is built. -/
theorem build_blk {ops : Array Oper} {rest : List Oper} {o : Oper} {a : Act} {w : World} {Q : Exit → Act → World → Prop} {t : TypeId} {parts : Array (Nat × Operand)} (X : Array Value) (hw : Region.wanted o (yielded ops a.tmps) = true) (ho : o.op = .build t parts)
    (hf : P.built t (parts.map fun (i, x) => (i, a.eval x)).toList = some X) (h : wpList P ops Q rest (a.put o.dst (.agg X)) w) : wpList P ops Q (o :: rest) a w :=
  wpList_step fun K hK => by
    rw [if_pos hw]
    have h1 := run_build (P := P) w t (parts.map fun (i, x) => (i, a.eval x)) X hf
    unfold Oper.wp execOp
    simp only [ho, Sem.run_bind, Result.andThen_ok, h1, Sem.run_pure]
    exact hK _ _ h

/-- Two structs, or two arrays, are held against each other. -/
theorem run_eq_agg (w : World) (op : BinOp) (t : TypeId) (x y : Operand) (X Y : Array Value) (b : Bool) (hop : op = .eql ∨ op = .neq) (hg : P.eqGuardType P.depth t = false) (h : (Op.equalIn 10000 t (.agg X) (.agg Y)).run P w = .ok b w) :
    (do eqGuard op t x y (.agg X) (.agg Y); binOp op t (.agg X) (.agg Y) : Sem Value).run P w = .ok (.bool (if op = .eql then b else !b)) w := by
  have h1 : (eqGuard op t x y (.agg X) (.agg Y)).run P w = .ok () w := by rcases hop with rfl | rfl <;> simp [eqGuard, run_program, hg]
  have h2 : (Op.equal t (.agg X) (.agg Y)).run P w = .ok b w := by simpa [Op.equal, Op.maxDepth] using h
  rcases hop with rfl | rfl <;> simp [h1, binOp, h2]

theorem exec_eq_agg {a : Act} {o : Oper} {w : World} {x y : Operand} {ty : TypeId} (op : BinOp) (t : TypeId) (X Y : Array Value) (b : Bool) (ho : o.op = .binOp op t x y ty) (hop : op = .eql ∨ op = .neq) (hx : a.eval x = .agg X) (hy : a.eval y = .agg Y) (hg : P.eqGuardType P.depth t = false)
    (h : (Op.equalIn 10000 t (.agg X) (.agg Y)).run P w = .ok b w) : (execOp a.eval o).run P w = .ok (.value (.bool (if op = .eql then b else !b))) w := by
  have h1 := run_eq_agg (P := P) w op t x y X Y b hop hg h
  simp only [Sem.run_bind] at h1
  unfold execOp
  simp only [ho, hx, hy, Sem.run_bind, Sem.run_pure, h1, Result.andThen_ok]

theorem eq_blk {ops : Array Oper} {rest : List Oper} {o : Oper} {a : Act} {w : World} {Q : Exit → Act → World → Prop} {x y : Operand} {ty : TypeId} (op : BinOp) (t : TypeId) (X Y : Array Value) (b : Bool) (hw : Region.wanted o (yielded ops a.tmps) = true) (ho : o.op = .binOp op t x y ty) (hop : op = .eql ∨ op = .neq)
    (hx : a.eval x = .agg X) (hy : a.eval y = .agg Y) (hg : P.eqGuardType P.depth t = false) (he : (Op.equalIn 10000 t (.agg X) (.agg Y)).run P w = .ok b w)
    (h : wpList P ops Q rest (a.put o.dst (.bool (if op = .eql then b else !b))) w) : wpList P ops Q (o :: rest) a w :=
  wpList_step fun K hK => by
    rw [if_pos hw]
    have h1 := exec_eq_agg (P := P) op t X Y b ho hop hx hy hg he
    unfold Oper.wp
    rw [h1]
    exact hK _ _ h

/-- Arrays of numbers. -/
theorem run_eqItems_ints {P : Program} (w : World) (d : Nat) (e : TypeId) (k k' : IntKind) (he : P.underlying e = some (.int k')) (xs ys : Nat → Int) (X Y : Array Value) : ∀ is : List Nat,
    (∀ i ∈ is, X[i]? = some (.int k (xs i)) ∧ Y[i]? = some (.int k (ys i))) → (Op.eqItems (d + 1) e 1 X Y is).run P w = .ok (is.all fun i => xs i == ys i) w
  | [], _ => by simp [Op.eqItems]
  | i :: is, h => by
    obtain ⟨h1, h2⟩ := h i (by simp)
    have p1 : (part e X (i * 1)).run P w = .ok (.int k (xs i)) w := by simp [part, isAgg, run_underlying he, h1]
    have p2 : (part e Y (i * 1)).run P w = .ok (.int k (ys i)) w := by simp [part, isAgg, run_underlying he, h2]
    have ih := run_eqItems_ints w d e k k' he xs ys X Y is (fun j hj => h j (by simp [hj]))
    have q := run_equalIn_int (P := P) w d e k k' (xs i) (ys i) he
    simp only [Op.eqItems, Sem.run_bind, p1, p2, q, Result.andThen_ok, List.all_cons]
    cases (xs i == ys i)
    · simp
    · simpa using ih

theorem run_eql_ints {P : Program} (w : World) (d n : Nat) (t e : TypeId) (k k' : IntKind) (i : TypeInfo) (ht : P.underlying t = some (.array n e)) (he : P.underlying e = some (.int k')) (hi : P.info? e = some i) (hc : P.cellsOf e = 1) (xs ys : Nat → Int) (X Y : Array Value)
    (h : ∀ j, j < n → X[j]? = some (.int k (xs j)) ∧ Y[j]? = some (.int k (ys j))) : (Op.equalIn (d + 2) t (.agg X) (.agg Y)).run P w = .ok ((List.range n).all fun i => xs i == ys i) w := by
  rw [run_equalIn_array w (d + 1) _ _ ht hi, hc]
  exact run_eqItems_ints w d e k k' he xs ys X Y (List.range n) (fun j hj => h j (List.mem_range.1 hj))

/-- The fields of two structs, one behind the other. -/
theorem run_eqFields_nil {P : Program} (w : World) (d : Nat) (xs ys : Array Value) : (Op.eqFields d xs ys []).run P w = .ok true w := by simp [Op.eqFields]

theorem run_eqFields_cons {P : Program} (w : World) (d : Nat) (xs ys : Array Value) (f : Field) (fs : List Field) (t : TypeId) (k : Nat) (x y : Value) (b r : Bool) (hf : (f.name == "_", f.type, f.offset) = (false, t, k)) (px : (part t xs k).run P w = .ok x w) (py : (part t ys k).run P w = .ok y w)
    (he : (Op.equalIn d t x y).run P w = .ok b w) (hr : (Op.eqFields d xs ys fs).run P w = .ok r w) : (Op.eqFields d xs ys (f :: fs)).run P w = .ok (b && r) w := by
  simp only [Prod.mk.injEq, beq_eq_false_iff_ne, ne_eq] at hf
  obtain ⟨hn, rfl, rfl⟩ := hf
  simp only [Op.eqFields, ne_eq, hn, not_false_eq_true, if_true, Sem.run_bind, px, py, he, Result.andThen_ok]
  cases b <;> simp [hr]

/-- A part of a row. -/
theorem run_part_agg {P : Program} (w : World) (t : TypeId) (xs : Array Value) (k n : Nat) (X : Array Value) (hu : (match P.underlying t with | some (.struct _) | some (.array _ _) => true | _ => false) = true) (hn : (P.info? t).map (·.size) = some n) (hX : xs.extract k (k + n) = X) : (part t xs k).run P w = .ok (.agg X) w := by
  cases hq : P.info? t with
  | none => simp [hq] at hn
  | some i =>
    have hs : i.size = n := by simpa [hq] using hn
    cases hd : P.underlying t with
    | none => simp [hd] at hu
    | some d => cases d <;> simp [hd] at hu <;> simp [part, isAgg, run_underlying hd, sizeOf, typeInfo, hq, hs, hX]

theorem run_part_one {P : Program} (w : World) (t : TypeId) (xs : Array Value) (k : Nat) (v : Value) (hu : (match P.underlying t with | some (.struct _) | some (.array _ _) => true | some _ => false | none => true) = false) (hX : xs[k]? = some v) : (part t xs k).run P w = .ok v w := by
  cases hd : P.underlying t with
  | none => simp [hd] at hu
  | some d => cases d <;> simp [hd] at hu <;> simp [part, isAgg, run_underlying hd, hX]

/-- Results that lie in memory. -/
theorem results_blk {P : Program} {fn : Func} {tmps : Array Value} {w : World} {a t B : Nat} {T : TypeId} {X : Array Value} (h : fn.results = #[.cell a t]) (ha : tmps.getD a undef = .pointer (some ⟨B, 0, none⟩)) (hB : Blk w B T X)
    (hu : (match P.underlying t with | some (.struct _) | some (.array _ _) => true | _ => false) = true) (hn : (P.info? t).map (·.size) = some X.size) : (results fn tmps).run P w = .ok (.agg X) w := by
  have h1 := run_load_blk (P := P) w B 0 T t X X hB hu hn (by rw [List.drop_zero]; exact List.take_of_length_le (by simp))
  rw [Array.getD_eq_getD_getElem?] at ha
  simp only [results, h]
  simp [ha, asAddr, h1]

theorem results_blk_tmp {P : Program} {fn : Func} {tmps : Array Value} {w : World} {a t u B : Nat} {T : TypeId} {X : Array Value} (h : fn.results = #[.cell a t, .tmp u]) (ha : tmps.getD a undef = .pointer (some ⟨B, 0, none⟩)) (hB : Blk w B T X)
    (hu : (match P.underlying t with | some (.struct _) | some (.array _ _) => true | _ => false) = true) (hn : (P.info? t).map (·.size) = some X.size) : (results fn tmps).run P w = .ok (.tuple #[.agg X, tmps.getD u undef]) w := by
  have h1 := run_load_blk (P := P) w B 0 T t X X hB hu hn (by rw [List.drop_zero]; exact List.take_of_length_le (by simp))
  rw [Array.getD_eq_getD_getElem?] at ha
  simp only [results, h]
  simp [ha, asAddr, h1]

theorem results_blk2 {P : Program} {fn : Func} {tmps : Array Value} {w : World} {a t b u B D : Nat} {T U : TypeId} {X Y : Array Value} (h : fn.results = #[.cell a t, .cell b u]) (ha : tmps.getD a undef = .pointer (some ⟨B, 0, none⟩)) (hb : tmps.getD b undef = .pointer (some ⟨D, 0, none⟩)) (hB : Blk w B T X) (hD : Blk w D U Y)
    (hu : (match P.underlying t with | some (.struct _) | some (.array _ _) => true | _ => false) = true) (hn : (P.info? t).map (·.size) = some X.size) (hu2 : (match P.underlying u with | some (.struct _) | some (.array _ _) => true | _ => false) = true) (hn2 : (P.info? u).map (·.size) = some Y.size) :
    (results fn tmps).run P w = .ok (.tuple #[.agg X, .agg Y]) w := by
  have h1 := run_load_blk (P := P) w B 0 T t X X hB hu hn (by rw [List.drop_zero]; exact List.take_of_length_le (by simp))
  have h2 := run_load_blk (P := P) w D 0 U u Y Y hD hu2 hn2 (by rw [List.drop_zero]; exact List.take_of_length_le (by simp))
  rw [Array.getD_eq_getD_getElem?] at ha hb
  simp only [results, h]
  simp [ha, hb, asAddr, h1, h2]

end Go.Proofs.YtocgnbbnaamjjaaGreatDoor

namespace Go.Proofs.YtocgnbbnaamjjaaGreatDoor
open Go.RowKit
set_option linter.unusedVariables false

/-- How much is read; what was wrong first (0: nothing), and where (-1: nowhere). -/
abbrev RSt := Nat × Int × Int

/-- The next n bytes (num: of a number). -/
def tkN (s : List UInt8) (off : Nat) (st : RSt) (n : Int) (num : Bool) : List UInt8 × RSt :=
  if st.2.1 ≠ 0 then ([], st)
  else if n < 0 ∨ (num = true ∧ (n < 1 ∨ 8 < n)) then ([], st.1, 2, (off : Int) + st.1)
  else if (s.length : Int) - st.1 < n then ([], st.1, 7, (off : Int) + st.1)
  else ((s.drop st.1).take n.toNat, st.1 + n.toNat, st.2)

/-- What is wrong is noted, if it is the first. -/
def flR (st : RSt) (e pl : Int) : RSt := if st.2.1 ≠ 0 then st else (st.1, e, pl)

theorem tkN_le (s : List UInt8) (off : Nat) (st : RSt) (n : Int) (num : Bool) (h : st.1 ≤ s.length) : (tkN s off st n num).2.1 ≤ s.length := by
  unfold tkN
  split
  · exact h
  · split
    · exact h
    · split
      · exact h
      · show st.1 + n.toNat ≤ s.length
        omega

theorem flR_le (s : List UInt8) (st : RSt) (e pl : Int) (h : st.1 ≤ s.length) : (flR st e pl).1 ≤ s.length := by
  unfold flR
  split <;> exact h

/-- Once noted, always noted. -/
theorem tkN_bad (s : List UInt8) (off : Nat) (st : RSt) (n : Int) (num : Bool) (h : st.2.1 ≠ 0) : tkN s off st n num = ([], st) := by unfold tkN; rw [if_pos h]

theorem flR_bad (st : RSt) (e pl : Int) (h : st.2.1 ≠ 0) : flR st e pl = st := by unfold flR; rw [if_pos h]

theorem flR_ne (st : RSt) (e pl : Int) (he : e ≠ 0) : (flR st e pl).2.1 ≠ 0 := by
  unfold flR
  split
  · assumption
  · exact he

/-- Bytes come if nothing was wrong before, and they are there. -/
theorem tkN_ok (s : List UInt8) (off : Nat) (st : RSt) (n : Nat) (num : Bool) (h : (tkN s off st n num).2.2.1 = 0) : st.2.1 = 0 ∧ st.1 + n ≤ s.length ∧ tkN s off st n num = ((s.drop st.1).take n, st.1 + n, st.2) := by
  unfold tkN at h ⊢
  by_cases h1 : st.2.1 ≠ 0
  · rw [if_pos h1] at h; exact absurd h h1
  · rw [if_neg h1] at h ⊢
    by_cases h2 : (n : Int) < 0 ∨ (num = true ∧ ((n : Int) < 1 ∨ 8 < (n : Int)))
    · rw [if_pos h2] at h; exact absurd (show (2 : Int) = 0 from h) (by decide)
    · rw [if_neg h2] at h ⊢
      by_cases h3 : (s.length : Int) - st.1 < n
      · rw [if_pos h3] at h; exact absurd (show (7 : Int) = 0 from h) (by decide)
      · rw [if_neg h3]
        exact ⟨by simpa using h1, by omega, by simp⟩

theorem tkN_go (s : List UInt8) (off : Nat) (st : RSt) (n : Nat) (num : Bool) (h : st.2.1 = 0) (hn : st.1 + n ≤ s.length) (hw : num = true → 1 ≤ n ∧ n ≤ 8) : tkN s off st n num = ((s.drop st.1).take n, st.1 + n, st.2) := by
  unfold tkN
  rw [if_neg (by simpa using h), if_neg (by intro q; rcases q with q | ⟨q, q2⟩; omega; have := hw q; omega), if_neg (by omega)]
  simp

theorem tkN_miss (s : List UInt8) (off : Nat) (st : RSt) (n : Nat) (num : Bool) (h : st.2.1 = 0) (hn : ¬ st.1 + n ≤ s.length) (hp : st.1 ≤ s.length) (hw : num = true → 1 ≤ n ∧ n ≤ 8) : tkN s off st n num = ([], st.1, 7, (off : Int) + st.1) := by
  unfold tkN
  rw [if_neg (by simpa using h), if_neg (by intro q; rcases q with q | ⟨q, q2⟩; omega; have := hw q; omega), if_pos (by omega)]

/-- All of them, or none. -/
theorem tkN_len (s : List UInt8) (off : Nat) (st : RSt) (n : Nat) (num : Bool) : (tkN s off st n num).1 = [] ∨ (tkN s off st n num).1.length = n := by
  unfold tkN
  split
  · exact Or.inl rfl
  · split
    · exact Or.inl rfl
    · split
      · exact Or.inl rfl
      · right
        show ((s.drop st.1).take (n : Int).toNat).length = n
        rw [List.length_take, List.length_drop]
        omega

/-- What is noted (e, at pl) lies at f. -/
def FsT (w : World) (e pl : Int) (f : Option Addr) : Prop := (e = 0 ∧ f = none) ∨ (e ≠ 0 ∧ ∃ q, f = some ⟨q, 0, none⟩ ∧ Flt w q e pl)

/-- Reader g is where st says. -/
def RdT (w : World) (g : Nat) (s : ByteArray) (off : Nat) (st : RSt) : Prop := ∃ f, Rd w g (s.extract st.1 s.size) ((off : Int) + (st.1 : Int)) f ∧ FsT w st.2.1 st.2.2 f

theorem rdT_ne_flt {w : World} {g q : Nat} {s : ByteArray} {a e pl : Int} {f : Option Addr} (h : Rd w g s a f) (hf : Flt w q e pl) : q ≠ g := by
  intro e0
  subst e0
  have h1 : w.heap[q]? = some (.cells #[.string s, .int .i64 a, .pointer f] 147) := h
  have h2 : w.heap[q]? = some (.cells #[.int .i64 e, .int .i64 pl] 99) := hf
  have h3 := h1.symm.trans h2
  injection h3 with h3
  injection h3 with h3 h4
  exact absurd h4 (by decide)

theorem FsT.kept {w w' : World} {g : Nat} {s : ByteArray} {a e pl : Int} {f f' : Option Addr} (h : FsT w e pl f) (hr : Rd w g s a f') (hg : w.grownBy w' (some g)) : FsT w' e pl f := by
  rcases h with h | ⟨he, q, hq, hf⟩
  · exact Or.inl h
  · exact Or.inr ⟨he, q, hq, hf.kept hg (by intro e1; cases e1; exact rdT_ne_flt hr hf rfl)⟩

theorem FsT.below {w w' : World} {e pl : Int} {f : Option Addr} (h : FsT w e pl f) (hb : Below w.heap.size w w') : FsT w' e pl f := by
  rcases h with h | ⟨he, q, hq, hf⟩
  · exact Or.inl h
  · exact Or.inr ⟨he, q, hq, hf.below hb⟩

theorem RdT.below {w w' : World} {g : Nat} {s : ByteArray} {off : Nat} {st : RSt} (h : RdT w g s off st) (hb : Below w.heap.size w w') : RdT w' g s off st := by
  obtain ⟨f, hr, hf⟩ := h
  exact ⟨f, hr.below hb, hf.below hb⟩

theorem RdT.lt {w : World} {g : Nat} {s : ByteArray} {off : Nat} {st : RSt} (h : RdT w g s off st) : g < w.heap.size := by
  obtain ⟨f, hr, hf⟩ := h
  exact hr.lt

theorem RdT.drew {w : World} {g : Nat} {s : ByteArray} {off : Nat} {st : RSt} (h : RdT w g s off st) : RdT w.drew g s off st := h

theorem RdT.ne {w : World} {g B : Nat} {s : ByteArray} {off : Nat} {st : RSt} {T : TypeId} {C : Array Value} (h : RdT w g s off st) (hB : Blk w B T C) (hT : T ≠ 147) : B ≠ g := by
  intro e0
  subst e0
  obtain ⟨f, hr, _⟩ := h
  have h1 : w.heap[B]? = some (.cells _ 147 (0, 0)) := hr
  have h2 : w.heap[B]? = some (.cells C T (0, 0)) := hB
  have h3 := h1.symm.trans h2
  injection h3 with h3
  injection h3 with h3 h4
  exact hT h4.symm

/-- Another block of another type is written. -/
theorem RdT.other {w w' : World} {g B : Nat} {s : ByteArray} {off : Nat} {st : RSt} {T : TypeId} {C : Array Value} (h : RdT w g s off st) (hB : Blk w B T C) (hT : T ≠ 147) (hT2 : T ≠ 99) (hg : w.grownBy w' (some B)) : RdT w' g s off st := by
  have hne := h.ne hB hT
  obtain ⟨f, hr, hf⟩ := h
  refine ⟨f, hr.kept hg (by simpa using Ne.symm hne), ?_⟩
  rcases hf with hf | ⟨he, q, hq, hf⟩
  · exact Or.inl hf
  · refine Or.inr ⟨he, q, hq, hf.kept hg ?_⟩
    intro e1
    have e1 : q = B := by simpa using e1
    subst e1
    have h1 : w.heap[q]? = some (.cells #[.int .i64 st.2.1, .int .i64 st.2.2] 99) := hf
    have h2 : w.heap[q]? = some (.cells C T (0, 0)) := hB
    have h3 := h1.symm.trans h2
    injection h3 with h3
    injection h3 with h3 h4
    exact hT2 h4.symm

/-- A block of another type stays while the reader reads. -/
theorem Blk.reads {w w' : World} {g B : Nat} {s : ByteArray} {off : Nat} {st : RSt} {T : TypeId} {C : Array Value} (hB : Blk w B T C) (h : RdT w g s off st) (hT : T ≠ 147) (hg : w.grownBy w' (some g)) : Blk w' B T C :=
  hB.grown hg (by simpa using h.ne hB hT)

theorem bytesT_of (s : ByteArray) (p n : Nat) : (s.extract p s.size).extract 0 n = ⟨((s.data.toList.drop p).take n).toArray⟩ := by
  apply ByteArray.ext
  apply Array.toList_inj.1
  rw [extract_list, Lib.extract_to_end]
  simp

theorem restT_size (s : ByteArray) (p : Nat) (hp : p ≤ s.size) : (s.extract p s.size).size = s.size - p := by rw [ByteArray.size_extract]; omega

theorem new_t (s : ByteArray) (off : Nat) (w : World) :
    Calls Tryz.prog 34 #[.string s, .int .i64 off] w fun e w' =>
      e = .returned (.pointer (some ⟨w.heap.size, 0, none⟩)) ∧ RdT w' w.heap.size s off (0, 0, -1) ∧ Below w.heap.size w w' := by
  refine (new_any s off w).mono ?_
  rintro e w' ⟨rfl, rfl⟩
  refine ⟨rfl, ⟨none, ?_, Or.inl ⟨rfl, rfl⟩⟩, (Below.refl _ _).alloc (Nat.le_refl _) _⟩
  have e1 : s.extract 0 s.size = s := by
    apply ByteArray.ext
    apply Array.toList_inj.1
    rw [extract_list, List.drop_zero, List.take_of_length_le (by simp)]
  show Rd _ _ (s.extract 0 s.size) ((off : Int) + ((0 : Nat) : Int)) none
  rw [e1, show (off : Int) + ((0 : Nat) : Int) = (off : Int) by omega]
  show (w.heap.push _)[w.heap.size]? = _
  simp

theorem bytes_t {g : Nat} {s : ByteArray} {off : Nat} (st : RSt) (n : Int) (w : World) (h : RdT w g s off st) (hp : st.1 ≤ s.size) (hb : off + s.size ≤ 281474976710656) :
    Calls Tryz.prog 39 #[.pointer (some ⟨g, 0, none⟩), .int .i64 n] w fun e w' => e = .returned (.string ⟨(tkN s.data.toList off st n false).1.toArray⟩) ∧
      RdT w' g s off (tkN s.data.toList off st n false).2 ∧ w.grownBy w' (some g) := by
  obtain ⟨p, e0, pl⟩ := st
  obtain ⟨f, hr, hf⟩ := h
  have hz := restT_size s p hp
  have hLs : s.data.toList.length = s.size := by simp
  have hp' : p ≤ s.size := hp
  rcases hf with ⟨h0, rfl⟩ | ⟨h0, q, rfl, hq⟩
  · have h0' : e0 = 0 := h0
    subst h0'
    by_cases hn : n < 0
    · have HS : tkN s.data.toList off (p, 0, pl) n false = ([], p, 2, (off : Int) + p) := by simp [tkN, hn]
      rw [HS]
      refine (bytes_neg n w hr hn).mono ?_
      rintro e w' ⟨rfl, hr', hf', hg⟩
      exact ⟨rfl, ⟨_, hr', Or.inr ⟨(show (2 : Int) ≠ 0 by decide), _, rfl, hf'⟩⟩, hg⟩
    · by_cases hm : (s.size : Int) - p < n
      · have HS : tkN s.data.toList off (p, 0, pl) n false = ([], p, 7, (off : Int) + p) := by
          unfold tkN
          rw [if_neg (by simp), if_neg (by simp; omega), if_pos (by rw [hLs]; exact hm)]
        rw [HS]
        refine (bytes_missing n w hr (by rw [hz]; omega)).mono ?_
        rintro e w' ⟨rfl, hr', hf', hg⟩
        exact ⟨rfl, ⟨_, hr', Or.inr ⟨(show (7 : Int) ≠ 0 by decide), _, rfl, hf'⟩⟩, hg⟩
      · have HS : tkN s.data.toList off (p, 0, pl) n false = ((s.data.toList.drop p).take n.toNat, p + n.toNat, 0, pl) := by
          unfold tkN
          rw [if_neg (by simp), if_neg (by simp; omega), if_neg (by rw [hLs]; exact hm)]
        rw [HS]
        have hnn : n = ((n.toNat : Nat) : Int) := by omega
        rw [hnn]
        refine (bytes_read n.toNat w hr (by rw [hz]; omega) (by show (0 : Int) ≤ (off : Int) + (p : Int); omega) (by rw [hz]; show (off : Int) + (p : Int) + _ ≤ _; omega)).mono ?_
        rintro e w' ⟨rfl, hr', hg⟩
        refine ⟨?_, ⟨none, ?_, Or.inl ⟨rfl, rfl⟩⟩, hg⟩
        · rw [← bytesT_of, Int.toNat_natCast]
        · have e1 := extract_extract s p n.toNat
          rw [Int.toNat_natCast]
          have e2 : (off : Int) + ((p + n.toNat : Nat) : Int) = (off : Int) + (p : Int) + (n.toNat : Int) := by omega
          show Rd w' g (s.extract (p + n.toNat) s.size) ((off : Int) + ((p + n.toNat : Nat) : Int)) none
          rw [e2, ← e1]
          exact hr'
  · have h0' : e0 ≠ 0 := h0
    have HS : tkN s.data.toList off (p, e0, pl) n false = ([], p, e0, pl) := by simp [tkN, h0']
    rw [HS]
    refine (bytes_noted n w hr).mono ?_
    rintro e w' ⟨rfl, rfl⟩
    exact ⟨rfl, ⟨_, hr, Or.inr ⟨h0, q, rfl, hq⟩⟩, World.grownBy.refl _ _⟩

theorem num_t {g : Nat} {s : ByteArray} {off : Nat} (st : RSt) (n : Int) (w : World) (h : RdT w g s off st) (hp : st.1 ≤ s.size) (hb : off + s.size ≤ 281474976710656) :
    Calls Tryz.prog 48 #[.pointer (some ⟨g, 0, none⟩), .int .i64 n] w fun e w' => e = .returned (.int .i64 (wrap64 (beN (tkN s.data.toList off st n true).1))) ∧
      RdT w' g s off (tkN s.data.toList off st n true).2 ∧ w.grownBy w' (some g) := by
  obtain ⟨p, e0, pl⟩ := st
  obtain ⟨f, hr, hf⟩ := h
  have hz := restT_size s p hp
  have hLs : s.data.toList.length = s.size := by simp
  have hp' : p ≤ s.size := hp
  have hnil : wrap64 (beN []) = 0 := by simp [beN, wrap64]
  rcases hf with ⟨h0, rfl⟩ | ⟨h0, q, rfl, hq⟩
  · have h0' : e0 = 0 := h0
    subst h0'
    by_cases hn : n < 1 ∨ 8 < n
    · have HS : tkN s.data.toList off (p, 0, pl) n true = ([], p, 2, (off : Int) + p) := by
        unfold tkN
        rw [if_neg (by simp), if_pos (Or.inr ⟨rfl, hn⟩)]
      rw [HS]
      refine (num_range n w hr hn).mono ?_
      rintro e w' ⟨rfl, hr', hf', hg⟩
      exact ⟨by rw [hnil], ⟨_, hr', Or.inr ⟨(show (2 : Int) ≠ 0 by decide), _, rfl, hf'⟩⟩, hg⟩
    · by_cases hm : (s.size : Int) - p < n
      · have HS : tkN s.data.toList off (p, 0, pl) n true = ([], p, 7, (off : Int) + p) := by
          unfold tkN
          rw [if_neg (by simp), if_neg (by intro q; rcases q with q | ⟨_, q⟩; omega; exact hn q), if_pos (by rw [hLs]; exact hm)]
        rw [HS]
        refine (num_missing n w hr (by omega) (by omega) (by rw [hz]; omega)).mono ?_
        rintro e w' ⟨rfl, hr', hf', hg⟩
        exact ⟨by rw [hnil], ⟨_, hr', Or.inr ⟨(show (7 : Int) ≠ 0 by decide), _, rfl, hf'⟩⟩, hg⟩
      · have HS : tkN s.data.toList off (p, 0, pl) n true = ((s.data.toList.drop p).take n.toNat, p + n.toNat, 0, pl) := by
          unfold tkN
          rw [if_neg (by simp), if_neg (by intro q; rcases q with q | ⟨_, q⟩; omega; exact hn q), if_neg (by rw [hLs]; exact hm)]
        rw [HS]
        have hnn : n = ((n.toNat : Nat) : Int) := by omega
        rw [hnn]
        refine (num_read n.toNat w hr (by omega) (by omega) (by rw [hz]; omega) (by show (0 : Int) ≤ (off : Int) + (p : Int); omega) (by rw [hz]; show (off : Int) + (p : Int) + _ ≤ _; omega)).mono ?_
        rintro e w' ⟨rfl, hr', hg⟩
        refine ⟨?_, ⟨none, ?_, Or.inl ⟨rfl, rfl⟩⟩, hg⟩
        · rw [Lib.extract_to_end, Int.toNat_natCast]
        · have e1 := extract_extract s p n.toNat
          rw [Int.toNat_natCast]
          have e2 : (off : Int) + ((p + n.toNat : Nat) : Int) = (off : Int) + (p : Int) + (n.toNat : Int) := by omega
          show Rd w' g (s.extract (p + n.toNat) s.size) ((off : Int) + ((p + n.toNat : Nat) : Int)) none
          rw [e2, ← e1]
          exact hr'
  · have h0' : e0 ≠ 0 := h0
    have HS : tkN s.data.toList off (p, e0, pl) n true = ([], p, e0, pl) := by simp [tkN, h0']
    rw [HS]
    by_cases hn : n < 1 ∨ 8 < n
    · refine (num_range_noted n w hr hn).mono ?_
      rintro e w' ⟨rfl, rfl⟩
      exact ⟨by rw [hnil], ⟨_, hr, Or.inr ⟨h0, q, rfl, hq⟩⟩, World.grownBy.refl _ _⟩
    · refine (num_noted n w hr (by omega) (by omega)).mono ?_
      rintro e w' ⟨rfl, hr', hg⟩
      exact ⟨by rw [hnil], ⟨_, hr', Or.inr ⟨h0, q, rfl, hq.kept hg (by simp)⟩⟩, ⟨hg.os, hg.tape, hg.output, hg.size, fun k hk _ => hg.block k hk (by simp)⟩⟩

theorem fail_t {g : Nat} {s : ByteArray} {off : Nat} (st : RSt) (e1 x2 : Int) (he : e1 ≠ 0) (w : World) (h : RdT w g s off st) :
    Calls Tryz.prog 49 #[.pointer (some ⟨g, 0, none⟩), .int .i64 e1, .int .i64 x2] w fun e w' => e = .returned (.tuple #[]) ∧ RdT w' g s off (flR st e1 x2) ∧ w.grownBy w' (some g) := by
  obtain ⟨p, e0, pl⟩ := st
  obtain ⟨f, hr, hf⟩ := h
  rcases hf with ⟨h0, rfl⟩ | ⟨h0, q, rfl, hq⟩
  · have h0' : e0 = 0 := h0
    subst h0'
    have HS : flR (p, 0, pl) e1 x2 = (p, e1, x2) := by simp [flR]
    rw [HS]
    refine (fail_first e1 x2 w hr).mono ?_
    rintro e w' ⟨rfl, hr', hf', hg⟩
    exact ⟨rfl, ⟨_, hr', Or.inr ⟨he, _, rfl, hf'⟩⟩, hg⟩
  · have h0' : e0 ≠ 0 := h0
    have HS : flR (p, e0, pl) e1 x2 = (p, e0, pl) := by simp [flR, h0']
    rw [HS]
    refine (fail_noted e1 x2 w hr).mono ?_
    rintro e w' ⟨rfl, rfl⟩
    exact ⟨rfl, ⟨_, hr, Or.inr ⟨h0, q, rfl, hq⟩⟩, World.grownBy.refl _ _⟩

theorem err_t {g : Nat} {s : ByteArray} {off : Nat} (st : RSt) (w : World) (h : RdT w g s off st) (he : st.2.1 ≠ 0) :
    Calls Tryz.prog 38 #[.pointer (some ⟨g, 0, none⟩)] w fun r w' => r = .returned (.iface 97 (.pointer (some ⟨w.heap.size, 0, none⟩))) ∧ Flt w' w.heap.size st.2.1 st.2.2 ∧ Below w.heap.size w w' := by
  obtain ⟨f, hr, hf⟩ := h
  rcases hf with ⟨h0, rfl⟩ | ⟨h0, q, rfl, hq⟩
  · exact absurd h0 he
  · exact (err_some w hr hq).mono (by rintro e w' ⟨rfl, rfl⟩; exact ⟨rfl, heap_alloc_new _ _, (Below.refl _ _).alloc (Nat.le_refl _) _⟩)

theorem err_ok {g : Nat} {s : ByteArray} {off : Nat} (st : RSt) (w : World) (h : RdT w g s off st) (he : st.2.1 = 0) :
    Calls Tryz.prog 38 #[.pointer (some ⟨g, 0, none⟩)] w fun r w' => r = .returned .nilIface ∧ w = w' := by
  obtain ⟨f, hr, hf⟩ := h
  rcases hf with ⟨_, rfl⟩ | ⟨h0, _⟩
  · exact err_none w hr
  · exact absurd he h0

end Go.Proofs.YtocgnbbnaamjjaaGreatDoor

namespace Go.Proofs.YtocgnbbnaamjjaaGreatDoor
open Go.RowKit
attribute [local go_sem ↓] Go.wp_at_zero Go.wp_at_succ
set_option linter.unusedSimpArgs false
set_option linter.unusedVariables false
set_option maxRecDepth 100000

/-- The cells of six, and of four bytes. -/
def c6 (x : Nat → Nat) : Array Value := #[.int .u8 (x 0), .int .u8 (x 1), .int .u8 (x 2), .int .u8 (x 3), .int .u8 (x 4), .int .u8 (x 5)]

def c4 (x : Nat → Nat) : Array Value := #[.int .u8 (x 0), .int .u8 (x 1), .int .u8 (x 2), .int .u8 (x 3)]

def z6 : Nat → Nat := fun _ => 0

/-- The first n of them. -/
def nb (n : Nat) (x : Nat → Nat) : List UInt8 := (List.range n).map fun i => UInt8.ofNat (x i)

theorem nb_len (n : Nat) (x : Nat → Nat) : (nb n x).length = n := by simp [nb]

theorem run_text (W : World) (B o n : Nat) (x : Nat → Nat) (hx : ∀ i, x i < 256) (hc : ∀ j, j < n → W.cell? ⟨B, o + j, none⟩ = some (.int .u8 (x j))) :
    (convert 145 9 (.slice (some ⟨B, o, none⟩) n n)).run Tryz.prog W = .ok (.string ⟨(nb n x).toArray⟩) W := by
  have h := run_convert_bytes_back (P := Tryz.prog) W 145 9 5 ⟨B, o, none⟩ n (nb n x) Tryz.underlying145 Tryz.underlying5 Tryz.underlying9 (fun j hj => by
    have hj6 : j < n := by simpa [nb] using hj
    rw [Addr.add_lit, hc j hj6]
    have e : ((UInt8.ofNat (x j)).toNat : Int) = (x j : Int) := by have := hx j; rw [UInt8.toNat_ofNat']; omega
    simp only [nb, List.getElem_map, List.getElem_range]
    rw [e])
  rw [nb_len] at h
  exact h

theorem exec_text {a : Act} {o : Oper} {w : World} {x : Operand} {B k n : Nat} (y : Nat → Nat) (ho : o.op = .convert 145 9 x) (hx : a.eval x = .slice (some ⟨B, k, none⟩) n n) (hy : ∀ i, y i < 256) (hc : ∀ j, j < n → w.cell? ⟨B, k + j, none⟩ = some (.int .u8 (y j))) :
    (execOp a.eval o).run Tryz.prog w = .ok (.value (.string ⟨(nb n y).toArray⟩)) w := by
  have h := run_text w B k n y hy hc
  unfold execOp
  simp only [ho, hx, Sem.run_bind, Sem.run_pure, Result.andThen_ok, h]

theorem six_of {w : World} {B k : Nat} {T : TypeId} {C : Array Value} {x : Nat → Nat} (h : Blk w B T C) (hC : (C.toList.drop k).take 6 = (c6 x).toList) (j : Nat) (hj : j < 6) : w.cell? ⟨B, k + j, none⟩ = some (.int .u8 (x j)) := by
  rw [h.c (k + j)]
  have e : C[k + j]? = (c6 x).toList[j]? := by rw [← hC, List.getElem?_take_of_lt hj, List.getElem?_drop]; simp
  rw [e]
  have : j = 0 ∨ j = 1 ∨ j = 2 ∨ j = 3 ∨ j = 4 ∨ j = 5 := by omega
  rcases this with rfl | rfl | rfl | rfl | rfl | rfl <;> rfl

theorem four_of {w : World} {B k : Nat} {T : TypeId} {C : Array Value} {x : Nat → Nat} (h : Blk w B T C) (hC : (C.toList.drop k).take 4 = (c4 x).toList) (j : Nat) (hj : j < 4) : w.cell? ⟨B, k + j, none⟩ = some (.int .u8 (x j)) := by
  rw [h.c (k + j)]
  have e : C[k + j]? = (c4 x).toList[j]? := by rw [← hC, List.getElem?_take_of_lt hj, List.getElem?_drop]; simp
  rw [e]
  have : j = 0 ∨ j = 1 ∨ j = 2 ∨ j = 3 := by omega
  rcases this with rfl | rfl | rfl | rfl <;> rfl

def eqN (n : Nat) (x y : Nat → Nat) : Bool := (List.range n).all fun i => ((x i : Int) == (y i : Int))

theorem eqN_refl (n : Nat) (x : Nat → Nat) : eqN n x x = true := by simp [eqN]

theorem Tryz.u8one : Tryz.prog.cellsOf 5 = 1 := by kernel_rfl

theorem Tryz.u8info : ∃ i, Tryz.prog.info? 5 = some i := Option.isSome_iff_exists.1 (by kernel_rfl)

theorem run_eql_c6 (d : Nat) (x y : Nat → Nat) (w : World) : (Op.equalIn (d + 2) 42 (.agg (c6 x)) (.agg (c6 y))).run Tryz.prog w = .ok (eqN 6 x y) w := by
  obtain ⟨i, hi⟩ := Tryz.u8info
  refine run_eql_ints w d 6 42 5 .u8 .u8 i Tryz.underlying42 Tryz.underlying5 hi Tryz.u8one (fun i => (x i : Int)) (fun i => (y i : Int)) _ _ (fun j hj => ?_)
  have : j = 0 ∨ j = 1 ∨ j = 2 ∨ j = 3 ∨ j = 4 ∨ j = 5 := by omega
  rcases this with rfl | rfl | rfl | rfl | rfl | rfl <;> exact ⟨rfl, rfl⟩

theorem run_eql_c4 (d : Nat) (x y : Nat → Nat) (w : World) : (Op.equalIn (d + 2) 46 (.agg (c4 x)) (.agg (c4 y))).run Tryz.prog w = .ok (eqN 4 x y) w := by
  obtain ⟨i, hi⟩ := Tryz.u8info
  refine run_eql_ints w d 4 46 5 .u8 .u8 i Tryz.underlying46 Tryz.underlying5 hi Tryz.u8one (fun i => (x i : Int)) (fun i => (y i : Int)) _ _ (fun j hj => ?_)
  have : j = 0 ∨ j = 1 ∨ j = 2 ∨ j = 3 := by omega
  rcases this with rfl | rfl | rfl | rfl <;> exact ⟨rfl, rfl⟩

end Go.Proofs.YtocgnbbnaamjjaaGreatDoor

namespace Go.Proofs.YtocgnbbnaamjjaaGreatDoor
open Go.RowKit
attribute [local go_sem ↓] Go.wp_at_zero Go.wp_at_succ
set_option linter.unusedSimpArgs false
set_option linter.unusedVariables false
set_option maxRecDepth 100000

/-- A text is copied into a part of a block, at a step of a region that draws its order. -/
theorem wp_copy_text {P : Program} {o : Oper} {a : Act} {w : World} {K : Act → World → Prop} {Q : Exit → Act → World → Prop} {d x : Operand} {dT sT : TypeId} {B k dLen dCap : Nat} {T : TypeId} {C : Array Value} (t : ByteArray) (C' : Array Value) (elem : TypeId)
    (hop : o.op = Op.call { callee := Callee.builtin Builtin.copy, args := #[d, x], argTypes := #[dT, sT] }) (hd : a.eval d = .slice (some ⟨B, k, none⟩) dLen dCap) (hx : a.eval x = .string t) (hB : Blk w B T C)
    (hu : P.underlying dT = some (.slice elem)) (hs : (P.info? elem).map (·.size) = some 1) (hle : t.size ≤ dLen) (hfit : k + t.size ≤ C.size) (hC : (C.toList.take k ++ Lib.byteCells t.data.toList ++ C.toList.drop (k + t.size)).toArray = C')
    (hK : ∀ w', Blk w' B T C' → Below B w w' → w.grownBy w' (some B) → K (a.put o.dst (goInt t.size)) w') : Oper.wp P o a w K Q := by
  have hrun := Lib.run_copy_row_string (P := P) w dT sT o.type elem B k dLen dCap t C T hu hs hB hle hfit
  rw [hC] at hrun
  have hFr := hB.setRow C'
  have hbl : Below B w (w.setRow B C') := below_setRow (Below.refl _ _) (Nat.le_refl _) _
  have hgr : w.grownBy (w.setRow B C') (some B) := ⟨rfl, rfl, rfl, by simp, fun j _ hj => setRow_other w B j C' (by intro e; subst e; exact hj rfl)⟩
  unfold Oper.wp
  simp [execOp, hop, resolve, invoke, builtin, hd, hx, hrun, Result.andThen]
  exact hK _ hFr hbl hgr

/-- Bytes of a list, by number. -/
def byX (l : List UInt8) : Nat → Nat := fun i => (l.getD i 0).toNat

theorem byX_lt (l : List UInt8) (i : Nat) : byX l i < 256 := (l.getD i 0).toNat_lt

theorem byX_c6 (l : List UInt8) (h : l.length = 6) : Lib.byteCells l = (c6 (byX l)).toList := by
  match l, h with
  | [a, b, c, d, e, f], _ => rfl

theorem byX_c4 (l : List UInt8) (h : l.length = 4) : Lib.byteCells l = (c4 (byX l)).toList := by
  match l, h with
  | [a, b, c, d], _ => rfl


end Go.Proofs.YtocgnbbnaamjjaaGreatDoor

namespace Go.Proofs.YtocgnbbnaamjjaaGreatDoor
open Go.RowKit
attribute [local go_sem ↓] Go.wp_at_zero Go.wp_at_succ
set_option linter.unusedSimpArgs false
set_option linter.unusedVariables false
set_option maxRecDepth 100000

theorem grown_then {w w1 w2 : World} {r r' : Option Nat} (h1 : w.grownBy w1 r) (h2 : w1.grownBy w2 r') (h : ∀ k, k < w.heap.size → some k ≠ r → some k ≠ r') : w.grownBy w2 r :=
  ⟨h2.os.trans h1.os, h2.tape.trans h1.tape, h2.output.trans h1.output, Nat.le_trans h1.size h2.size, fun k hk hne => (h2.block k (Nat.lt_of_lt_of_le hk h1.size) (h k hk hne)).trans (h1.block k hk hne)⟩

theorem grown_same {w w1 w2 : World} {r : Option Nat} (h1 : w.grownBy w1 r) (h2 : w1.grownBy w2 r) : w.grownBy w2 r := grown_then h1 h2 (fun _ _ h => h)

theorem grown_own {w w1 w2 : World} {r : Option Nat} {B : Nat} (h1 : w.grownBy w1 r) (h2 : w1.grownBy w2 (some B)) (hB : w.heap.size ≤ B) : w.grownBy w2 r := grown_then h1 h2 (fun k hk _ e => by
  simp only [Option.some.injEq] at e
  omega)

theorem grown_belowT {w w1 w2 : World} {r : Option Nat} (h1 : w.grownBy w1 r) (h2 : Below w1.heap.size w1 w2) : w.grownBy w2 r :=
  ⟨h2.os.trans h1.os, h2.tape.trans h1.tape, h2.output.trans h1.output, Nat.le_trans h1.size h2.size, fun k hk hne => (h2.block k (Nat.lt_of_lt_of_le hk h1.size)).trans (h1.block k hk hne)⟩

theorem grown_belowA {B g : Nat} {a w w' : World} (h : Below B a w) (hg : w.grownBy w' (some g)) (hB : B ≤ w.heap.size) (hr : B ≤ g) : Below B a w' :=
  h.grown hg hB fun k e => by cases e; exact hr

theorem RdT.al {w : World} {g : Nat} {s : ByteArray} {off : Nat} {st : RSt} (h : RdT w g s off st) (o : Obj) : RdT (w.alloc o) g s off st := h.below ((Below.refl _ _).alloc (Nat.le_refl _) o)

theorem rdT_drew {w w1 : World} {r : Option Nat} (h : w.grownBy w1 r) : w.grownBy w1.drew r := ⟨h.os, h.tape, h.output, h.size, h.block⟩


end Go.Proofs.YtocgnbbnaamjjaaGreatDoor

namespace Go.Proofs.YtocgnbbnaamjjaaGreatDoor
open Go.RowKit
attribute [local go_sem ↓] Go.wp_at_zero Go.wp_at_succ
set_option linter.unusedSimpArgs false
set_option linter.unusedVariables false
set_option maxRecDepth 100000

/-- A number of a few bytes, as it is read. -/
def nmV (l : List UInt8) (off : Nat) (st : RSt) (n : Int) : Nat := beN (tkN l off st n true).1

def nmS (l : List UInt8) (off : Nat) (st : RSt) (n : Int) : RSt := (tkN l off st n true).2

theorem nmV_lt (l : List UInt8) (off : Nat) (st : RSt) (n : Nat) : nmV l off st n < 256 ^ n := by
  unfold nmV
  have h := beN_lt (tkN l off st n true).1
  rcases tkN_len l off st n true with q | q
  · rw [q]; exact Nat.pow_pos (by decide)
  · rw [q] at h; exact h

theorem nmS_le (l : List UInt8) (off : Nat) (st : RSt) (n : Int) (h : st.1 ≤ l.length) : (nmS l off st n).1 ≤ l.length := tkN_le l off st n true h

theorem numK_t {g : Nat} {s : ByteArray} {off : Nat} (st : RSt) (n : Nat) (hn : n ≤ 7) (w : World) (h : RdT w g s off st) (hp : st.1 ≤ s.size) (hb : off + s.size ≤ 281474976710656) :
    Calls Tryz.prog 48 #[.pointer (some ⟨g, 0, none⟩), .int .i64 n] w fun e w' => e = .returned (.int .i64 (nmV s.data.toList off st n : Nat)) ∧
      RdT w' g s off (nmS s.data.toList off st n) ∧ w.grownBy w' (some g) := by
  have h1 := num_t st n w h hp hb
  have hl := nmV_lt s.data.toList off st n
  have h3 : 256 ^ n ≤ 256 ^ 7 := Nat.pow_le_pow_right (by decide) hn
  have e : wrap64 (beN (tkN s.data.toList off st n true).1) = ((nmV s.data.toList off st n : Nat) : Int) := by
    show wrap64 ((nmV s.data.toList off st n : Nat) : Int) = _
    unfold wrap64
    omega
  rw [e] at h1
  exact h1

theorem nm_go (l : List UInt8) (st : RSt) (n : Nat) (h1 : 1 ≤ n) (h8 : n ≤ 8) (h : st.2.1 = 0) (hn : st.1 + n ≤ l.length) : nmS l 0 st n = (st.1 + n, st.2) ∧ nmV l 0 st n = beN ((l.drop st.1).take n) := by
  have e := tkN_go l 0 st n true h hn (by intro _; omega)
  unfold nmS nmV
  rw [e]
  exact ⟨rfl, rfl⟩

theorem nm_miss (l : List UInt8) (st : RSt) (n : Nat) (h1 : 1 ≤ n) (h8 : n ≤ 8) (h : st.2.1 = 0) (hn : ¬ st.1 + n ≤ l.length) (hp : st.1 ≤ l.length) : nmS l 0 st n = (st.1, 7, (st.1 : Int)) := by
  have e := tkN_miss l 0 st n true h hn hp (by intro _; omega)
  unfold nmS
  rw [e]
  simp

theorem nm_bad (l : List UInt8) (st : RSt) (n : Int) (h : ¬ st.2.1 = 0) : nmS l 0 st n = st := by
  unfold nmS
  rw [tkN_bad l 0 st n true h]

theorem atT {g : Nat} {s : ByteArray} {off : Nat} (st : RSt) (w : World) (h : RdT w g s off st) :
    Calls Tryz.prog 35 #[.pointer (some ⟨g, 0, none⟩)] w fun e w' => e = .returned (.int .i64 ((off : Int) + (st.1 : Int))) ∧ w = w' := by
  obtain ⟨f, hr, hf⟩ := h
  exact at_any w hr

theorem errT_none {g : Nat} {s : ByteArray} {off : Nat} (st : RSt) (w : World) (h : RdT w g s off st) (he : st.2.1 = 0) :
    Calls Tryz.prog 38 #[.pointer (some ⟨g, 0, none⟩)] w fun r w' => r = .returned .nilIface ∧ w = w' := by
  obtain ⟨f, hr, hf⟩ := h
  rcases hf with ⟨h0, rfl⟩ | ⟨h0, q, rfl, hq⟩
  · exact err_none w hr
  · exact absurd he h0

theorem leftT {g : Nat} {s : ByteArray} {off : Nat} (st : RSt) (w : World) (h : RdT w g s off st) (hp : st.1 ≤ s.size) :
    Calls Tryz.prog 42 #[.pointer (some ⟨g, 0, none⟩)] w fun e w' => e = .returned (.int .i64 ((s.size - st.1 : Nat) : Int)) ∧ w = w' := by
  obtain ⟨f, hr, hf⟩ := h
  have q := left_any w hr
  rw [restT_size s st.1 hp] at q
  exact q

/-- How far a reader is; whether it has noted something. -/
def rdPos (w : World) (g : Nat) : Nat := match w.cell? ⟨g, 1, none⟩ with | some (.int _ n) => n.toNat | _ => 0

def rdNote (w : World) (g : Nat) : Bool := match w.cell? ⟨g, 2, none⟩ with | some (.pointer (some _)) => true | _ => false

def rdLeft (n : Nat) (w : World) (g : Nat) : Nat := if rdNote w g = true then 0 else n + 1 - rdPos w g

theorem rdLeft_ok {n g p : Nat} {x : Int} {s : ByteArray} {w : World} (h : RdT w g s 0 (p, 0, x)) : rdLeft n w g = n + 1 - p := by
  obtain ⟨f, hr, hf⟩ := h
  rcases hf with ⟨_, rfl⟩ | ⟨h0, _⟩
  · have e1 : rdNote w g = false := by unfold rdNote; rw [hr.c2]
    have e2 : rdPos w g = p := by
      unfold rdPos
      rw [hr.c1]
      show (((0 : Nat) : Int) + ((p : Nat) : Int)).toNat = p
      omega
    unfold rdLeft
    rw [e1, e2]
    rfl
  · exact absurd rfl h0

theorem rdLeft_bad {n g p : Nat} {e x : Int} {s : ByteArray} {w : World} (h : RdT w g s 0 (p, e, x)) (he : e ≠ 0) : rdLeft n w g = 0 := by
  obtain ⟨f, hr, hf⟩ := h
  rcases hf with ⟨h0, _⟩ | ⟨_, q, rfl, _⟩
  · exact absurd h0 he
  · have e1 : rdNote w g = true := by unfold rdNote; rw [hr.c2]
    unfold rdLeft
    rw [if_pos e1]

end Go.Proofs.YtocgnbbnaamjjaaGreatDoor

namespace Go.Proofs.YtocgnbbnaamjjaaGreatDoor
set_option linter.unusedVariables false

def fitI (n : Nat) (v : Int) : Bool := decide (0 ≤ v) && decide (v < 256 ^ n)

theorem fitI_all {n : Nat} {v : Int} (h : fitI n v = true) : 0 ≤ v ∧ v < 256 ^ n := by simpa [fitI] using h

/-- A number of 64 bits. -/
def i64R (v : Int) : Prop := -9223372036854775808 ≤ v ∧ v ≤ 9223372036854775807


end Go.Proofs.YtocgnbbnaamjjaaGreatDoor

namespace Go.Proofs.YtocgnbbnaamjjaaGreatDoor
set_option linter.unusedVariables false

structure Tl where
  k : Int
  t : ByteArray

instance : Inhabited Tl := ⟨⟨0, ⟨#[]⟩⟩⟩

def zTl : Tl := ⟨0, ⟨#[]⟩⟩

/-- What may be. -/
def okTl (x : Tl) : Bool := decide (0 < x.k) && (decide (x.k ≤ 127) && decide ((x.t.size : Int) ≤ 511))

theorem okTl_all {x : Tl} (h : okTl x = true) : 0 < x.k ∧ x.k ≤ 127 ∧ x.t.size ≤ 511 := by
  simp only [okTl, Bool.and_eq_true, decide_eq_true_eq] at h
  omega

/-- A record's head. -/
def hdT (x : Tl) : Nat := 512 * x.k.toNat + x.t.size

theorem hdT_lt {x : Tl} (h : okTl x = true) : hdT x < 65536 := by
  have := okTl_all h
  unfold hdT
  omega

def tlW (x : Tl) : List UInt8 := putL (hdT x) 2 ++ x.t.data.toList

theorem tlW_len (x : Tl) : (tlW x).length = 2 + x.t.size := by
  unfold tlW
  rw [List.length_append, putL_length]
  simp

def tlWs (l : List Tl) : List UInt8 := l.flatMap tlW

theorem tlWs_cons (x : Tl) (l : List Tl) : tlWs (x :: l) = tlW x ++ tlWs l := by simp [tlWs]

theorem tlWs_app (l m : List Tl) : tlWs (l ++ m) = tlWs l ++ tlWs m := by simp [tlWs]

theorem tlWs_take (l : List Tl) (k : Nat) (hk : k < l.length) : tlWs (l.take (k + 1)) = tlWs (l.take k) ++ tlW l[k] := by
  rw [List.take_add_one, List.getElem?_eq_getElem hk, tlWs_app]
  simp [tlWs]

theorem tlWs_le (l : List Tl) (h : ∀ x ∈ l, okTl x = true) : (tlWs l).length ≤ 513 * l.length := by
  induction l with
  | nil => simp [tlWs]
  | cons x l ih =>
    have h1 := okTl_all (h x (by simp))
    have h2 := ih (fun y hy => h y (by simp [hy]))
    rw [tlWs_cons, List.length_append, tlW_len, List.length_cons]
    omega

def tlWrite (l : List Tl) : List UInt8 := tlWs l ++ [0, 0]

/-- Where each begins. -/
def offs : Nat → List Tl → List Nat
  | _, [] => []
  | p, x :: l => p :: offs (p + 2 + x.t.size) l

theorem offs_len : ∀ (l : List Tl) (p : Nat), (offs p l).length = l.length
  | [], _ => rfl
  | x :: l, p => by simp [offs, offs_len l]

/-- All may be; or the kth may not, and all ahead may. -/
theorem all_or : ∀ (l : List Tl), (∀ x ∈ l, okTl x = true) ∨ ∃ k, ∃ hk : k < l.length, okTl l[k] = false ∧ ∀ x ∈ l.take k, okTl x = true
  | [] => Or.inl (by simp)
  | x :: l => by
    cases hx : okTl x with
    | false => exact Or.inr ⟨0, by simp, by simpa using hx, by simp⟩
    | true =>
      rcases all_or l with h | ⟨k, hk, h1, h2⟩
      · exact Or.inl (by simpa [hx] using h)
      · refine Or.inr ⟨k + 1, by simpa using hk, by simpa using h1, ?_⟩
        simpa [hx] using h2

end Go.Proofs.YtocgnbbnaamjjaaGreatDoor

namespace Go.Proofs.YtocgnbbnaamjjaaGreatDoor
set_option linter.unusedVariables false

structure Nm where
  su : Int
  id : ByteArray

instance : Inhabited Nm := ⟨⟨0, ⟨#[]⟩⟩⟩

def zNm : Nm := ⟨0, ⟨#[]⟩⟩

structure Cp where
  h : Int
  o : Int

instance : Inhabited Cp := ⟨⟨0, 0⟩⟩

def zCp : Cp := ⟨0, 0⟩

structure Mg where
  asb : Int
  ai : ByteArray
  fs : Int
  fi : Int
  oid : ByteArray

instance : Inhabited Mg := ⟨⟨0, ⟨#[]⟩, 0, 0, ⟨#[]⟩⟩⟩

def zMg : Mg := ⟨0, ⟨#[]⟩, 0, 0, ⟨#[]⟩⟩

structure Og where
  ou : Int
  su : Int
  nf : ByteArray

instance : Inhabited Og := ⟨⟨0, 0, ⟨#[]⟩⟩⟩

def zOg : Og := ⟨0, 0, ⟨#[]⟩⟩

def wthn (x a b : Int) : Bool := decide (a ≤ x) && decide (x ≤ b)

/-- Which may be. -/
def okNm (x : Nm) : Bool := wthn x.su 1 7 && wthn x.id.size 1 255

def okSt (x : ByteArray) : Bool := decide ((x.size : Int) ≤ 255)

def okCp (x : Cp) : Bool := [x.h, x.o].all (fitI 2) && (bits .andNot .i64 x.o x.h == 0)

def okMg (x : Mg) : Bool := fitI 1 x.asb && (wthn x.ai.size 1 31 && (wthn x.fs 1 3 && (fitI 4 x.fi && decide ((x.oid.size : Int) ≤ 128))))

def okOg (x : Og) : Bool := fitI 3 x.ou && (fitI 1 x.su && decide ((x.nf.size : Int) ≤ 507))

structure Ld where
  ch : Nm
  po : Nm
  tt : Int
  de : List ByteArray
  ho : List ByteArray
  sy : List ByteArray
  ca : List Cp
  ma : List Mg
  og : List Og

def zLd : Ld := ⟨zNm, zNm, 0, [], [], [], [], [], []⟩

def few {α : Type} (ok : α → Bool) (l : List α) : Bool := decide ((l.length : Int) ≤ 1) && l.all ok

def okLd (x : Ld) : Bool := okNm x.ch && (okNm x.po && (fitI 2 x.tt && (few okSt x.de && (few okSt x.ho && (few okSt x.sy && (few okCp x.ca && (decide ((x.ma.length : Int) ≤ 20) && (x.ma.all okMg && (decide ((x.og.length : Int) ≤ 20) && x.og.all okOg)))))))))

end Go.Proofs.YtocgnbbnaamjjaaGreatDoor

namespace Go.Proofs.YtocgnbbnaamjjaaGreatDoor
open Go.RowKit
attribute [local go_sem ↓] Go.wp_at_zero Go.wp_at_succ
set_option linter.unusedSimpArgs false
set_option linter.unusedVariables false
set_option maxRecDepth 100000

/-- These cells lie one behind the other. -/
def CellsAt (w : World) (B o : Nat) (X : Array Value) : Prop := ∀ (k : Nat) (c : Value), X[k]? = some c → w.cell? ⟨B, o + k, none⟩ = some c

theorem CellsAt.below {w w' : World} {B o D : Nat} {X : Array Value} (h : CellsAt w B o X) (hb : Below D w w') (hB : B < D) : CellsAt w' B o X := by
  intro k c hc
  have h1 := h k c hc
  have hk : w'.heap[B]? = w.heap[B]? := hb.block B hB
  unfold World.cell? at h1 ⊢
  simp only at h1 ⊢
  rw [hk]
  exact h1

theorem run_load_cells {P : Program} (w : World) (B k : Nat) (t : TypeId) (X : Array Value) (hB : CellsAt w B k X) (hu : (match P.underlying t with | some (.struct _) | some (.array _ _) => true | _ => false) = true)
    (hn : (P.info? t).map (·.size) = some X.size) : (loadVar t ⟨B, k, none⟩).run P w = .ok (.agg X) w := by
  have hl : (loadCells ⟨B, k, none⟩ X.toList.length).run P w = .ok X.toList.toArray w :=
    run_loadCells_list (P := P) w ⟨B, k, none⟩ X.toList (fun j v hv => by
      have hadd : (⟨B, k, none⟩ : Addr).add j = ⟨B, k + j, none⟩ := by unfold Addr.add; split <;> simp_all
      rw [hadd]
      exact hB j v (by simpa using hv))
  cases hq : P.info? t with
  | none => simp [hq] at hn
  | some i =>
    have hs : i.size = X.toList.length := by simp [hq] at hn; simpa using hn
    cases hd : P.underlying t with
    | none => simp [hd] at hu
    | some d =>
      cases d <;> simp [hd] at hu <;> simp [loadVar, isAgg, run_underlying hd, sizeOf, typeInfo, hq, hs] <;> (simp at hl; simp [hl])

theorem exec_load_cells {P : Program} {a : Act} {o : Oper} {w : World} {x : Operand} {B k : Nat} (t : TypeId) (X : Array Value) (ho : o.op = .load t x) (hx : a.eval x = .pointer (some ⟨B, k, none⟩)) (hB : CellsAt w B k X)
    (hu : (match P.underlying t with | some (.struct _) | some (.array _ _) => true | _ => false) = true) (hn : (P.info? t).map (·.size) = some X.size) :
    (execOp a.eval o).run P w = .ok (.value (.agg X)) w := by
  have h := run_load_cells (P := P) w B k t X hB hu hn
  unfold execOp
  simp only [ho, hx, Instr.loadAt, Instr.sureAddr, Sem.run_bind, Sem.run_pure, Result.andThen_ok, h]

theorem load_cells {P : Program} {ops : Array Oper} {rest : List Oper} {o : Oper} {a : Act} {w : World} {Q : Exit → Act → World → Prop} {x : Operand} {B k : Nat} (t : TypeId) (X : Array Value) (hw : Region.wanted o (yielded ops a.tmps) = true) (ho : o.op = .load t x)
    (hx : a.eval x = .pointer (some ⟨B, k, none⟩)) (hB : CellsAt w B k X) (hu : (match P.underlying t with | some (.struct _) | some (.array _ _) => true | _ => false) = true) (hn : (P.info? t).map (·.size) = some X.size)
    (h : wpList P ops Q rest (a.put o.dst (.agg X)) w) : wpList P ops Q (o :: rest) a w :=
  wpList_step fun K hK => by
    rw [if_pos hw]
    have h1 := exec_load_cells (P := P) t X ho hx hB hu hn
    unfold Oper.wp
    rw [h1]
    exact hK _ _ h

theorem st_whole (Z : Array Value) (X : Array Value) (h : Z.size = X.size) : (Z.toList.take 0 ++ (Value.agg X).cells.toList ++ Z.toList.drop (0 + (Value.agg X).cells.toList.length)).toArray = X := by
  have : (Value.agg X).cells = X := rfl
  rw [this]
  apply Array.toList_inj.1
  simp [h]

end Go.Proofs.YtocgnbbnaamjjaaGreatDoor

namespace Go.Proofs.YtocgnbbnaamjjaaGreatDoor
open Go.RowKit
attribute [local go_sem ↓] Go.wp_at_zero Go.wp_at_succ
set_option linter.unusedSimpArgs false
set_option linter.unusedVariables false
set_option maxRecDepth 100000

/-- Block g begins with these numbers. -/
def IRow (w : World) (g : Nat) (l : List Int) : Prop := g < w.heap.size ∧ ∀ (j : Nat) v, l[j]? = some v → w.cell? ⟨g, j, none⟩ = some (.int .i64 v)

theorem IRow.belowAt {w w' : World} {g B : Nat} {l : List Int} (h : IRow w g l) (hb : Below B w w') (hg : g < B) : IRow w' g l := by
  refine ⟨Nat.lt_of_lt_of_le h.1 (Nat.le_trans (Nat.le_refl _) hb.size), fun j v hv => ?_⟩
  have hc := h.2 j v hv
  have hk : w'.heap[g]? = w.heap[g]? := hb.block g hg
  unfold World.cell? at hc ⊢
  simp only at hc ⊢
  rw [hk]
  exact hc

theorem IRow.below {w w' : World} {g : Nat} {l : List Int} (h : IRow w g l) (hb : Below w.heap.size w w') : IRow w' g l := h.belowAt hb h.1

theorem IRow.drew {w : World} {g : Nat} {l : List Int} (h : IRow w g l) : IRow w.drew g l := h

theorem IRow.new (w : World) (l : List Int) (T : TypeId) (C : Array Value) (hC : ∀ (j : Nat) v, l[j]? = some v → C[j]? = some (.int .i64 v)) : IRow (w.alloc (.cells C T)) w.heap.size l :=
  ⟨by simp, fun j v hv => (Blk.new w T C).cv j _ (hC j v hv)⟩

theorem IRow.new1 (w : World) (a : Int) (T : TypeId) : IRow (w.alloc (.cells #[.int .i64 a] T)) w.heap.size [a] :=
  IRow.new w _ T _ fun j v hv => by match j, hv with | 0, hv => cases hv; rfl

theorem IRow.new4 (w : World) (a b c d : Int) (T : TypeId) : IRow (w.alloc (.cells #[.int .i64 a, .int .i64 b, .int .i64 c, .int .i64 d] T)) w.heap.size [a, b, c, d] :=
  IRow.new w _ T _ fun j v hv => by match j, hv with | 0, hv | 1, hv | 2, hv | 3, hv => cases hv; rfl

theorem div_ne {v M : Int} (hM : 0 < M) (h : M ≤ v) : ¬ v / M = 0 := by
  intro q
  have h1 := Int.emod_lt_of_pos v hM
  have h2 := Int.mul_ediv_add_emod v M
  rw [q] at h2
  omega

/-- Whether it fits, as Put sees it. -/
theorem fit_put (n : Nat) (hn7 : n ≤ 7) (v : Int) (hb : i64R v) : ∃ X : Nat, IntKind.u64.wrap v = (X : Int) ∧
    ((fitI n v = true ∧ (((X : Int) / 2 ^ (8 * n) != 0) = false) ∧ decide (v < 0) = false) ∨ (fitI n v = false ∧ (((X : Int) / 2 ^ (8 * n) != 0) = true))) := by
  obtain ⟨hb0, hb1⟩ := hb
  have e : (2 : Int) ^ (8 * n) = 256 ^ n := by rw [Int.pow_mul]; rfl
  have hp : (256 : Int) ^ n ≤ 256 ^ 7 := by
    have h1 : 256 ^ n ≤ 256 ^ 7 := Nat.pow_le_pow_right (by decide) hn7
    have h2 : ((256 ^ n : Nat) : Int) = 256 ^ n := by simp
    omega
  have hp0 : (0 : Int) < 256 ^ n := Int.pow_pos (by decide)
  have hfit : fitI n v = (decide (0 ≤ v) && decide (v < 256 ^ n)) := rfl
  rw [e, IntKind.wrap_u64, hfit]
  clear hfit e
  generalize (256 : Int) ^ n = M at *
  by_cases h0 : 0 ≤ v
  · refine ⟨v.toNat, by omega, ?_⟩
    rw [show ((v.toNat : Nat) : Int) = v by omega, decide_eq_true h0]
    by_cases h1 : v < M
    · left
      rw [decide_eq_true h1, Int.ediv_eq_zero_of_lt h0 h1]
      exact ⟨rfl, rfl, decide_eq_false (by omega)⟩
    · right
      rw [decide_eq_false h1]
      refine ⟨rfl, ?_⟩
      rw [bne_iff_ne]
      intro q
      exact div_ne hp0 (by omega) q
  · refine ⟨(v + 18446744073709551616).toNat, by omega, Or.inr ?_⟩
    rw [decide_eq_false h0]
    refine ⟨rfl, ?_⟩
    rw [bne_iff_ne]
    intro q
    exact div_ne hp0 (by omega) q

theorem all_take {l : List Int} {n k : Nat} (h : ∀ v ∈ l.take k, fitI n v = true) {v : Int} (hv : l[k]? = some v) (hf : fitI n v = true) : ∀ v ∈ l.take (k + 1), fitI n v = true := by
  intro u hu
  rw [List.take_add_one, hv] at hu
  rcases List.mem_append.1 hu with q | q
  · exact h u q
  · simp at q
    rw [q]
    exact hf

set_option maxHeartbeats 1600000 in
/-- Fits, of numbers in memory. -/
theorem fits_any (n : Nat) (hn1 : 1 ≤ n) (hn7 : n ≤ 7) (l : List Int) (hl : l.length ≤ 1000) (hr : ∀ v ∈ l, i64R v) (g : Nat) (w : World) (h : IRow w g l) :
    Calls Tryz.prog 72 #[.int .i64 n, .slice (some ⟨g, 0, none⟩) l.length l.length] w fun e w' => e = .returned (.bool (l.all (fitI n))) ∧ Below w.heap.size w w' := by
  have HR := Lib.hid hr
  have HL := Lib.hid hl
  clear hr
  go_enter Tryz.func72, Tryz.ntmps72
  go_wp2_with fail
  go_loopw [6, 7, 8, 11] (fun a b c i wr => ∃ k : Nat, k ≤ l.length ∧ i = .int .i64 k ∧ (∀ v ∈ l.take k, fitI n v = true) ∧ Below w.heap.size w wr) (fun _ _ _ i _ => l.length - (intOf i).toNat)
  case atStart => exact ⟨0, by omega, rfl, by simp, Below.refl _ _⟩
  case round =>
    obtain ⟨k, hk, rfl, hall, hb⟩ := hrel
    by_cases hlt : k < l.length
    · obtain ⟨v, hv⟩ : ∃ v, l[k]? = some v := ⟨l[k], List.getElem?_eq_getElem hlt⟩
      have hc : wr.cell? ⟨g, k, none⟩ = some (.int .i64 v) := (h.below hb).2 k v hv
      obtain ⟨X, hX, hcs⟩ := fit_put n hn7 v (HR.out v (List.mem_of_getElem? hv))
      rcases hcs with ⟨hf, hq, hneg⟩ | ⟨hf, hq⟩
      · have HA := Lib.hid (all_take hall hv hf)
        clear hall hv
        go_wp2_with fail
        refine (put_fits X n _ hn1 (by omega) hq).mono ?_
        rintro e w' ⟨rfl, kb⟩
        go_wp2
        go_roundw
        case rel => exact ⟨k + 1, by omega, by go_num, HA.out, hb.trans (kb.mono hb.size)⟩
        case measure => simp [intOf]; omega
      · have HF : Hid (l.all (fitI n) = false) := by
          show _ = _
          rw [Bool.eq_false_iff]
          intro q
          rw [List.all_eq_true] at q
          have := q v (List.mem_of_getElem? hv)
          rw [hf] at this
          cases this
        clear hall hv
        go_wp2_with fail
        refine (put_full X n _ hn1 (by omega) hq).mono ?_
        rintro e w' ⟨rfl, rfl⟩
        go_wp2
        go_ret
        exact ⟨by rw [HF.out]; rfl, hb⟩
    · obtain rfl : k = l.length := by omega
      have HF : Hid (l.all (fitI n) = true) := by
        show _ = _
        rw [List.all_eq_true]
        rw [List.take_length] at hall
        exact hall
      clear hall
      go_wp2
      go_ret
      exact ⟨by rw [HF.out]; rfl, hb⟩

theorem fitsI1 (n : Nat) (hn1 : 1 ≤ n) (hn7 : n ≤ 7) (a : Int) (hr : i64R a) (g : Nat) (w : World) (h : IRow w g [a]) :
    Calls Tryz.prog 72 #[.int .i64 n, .slice (some ⟨g, 0, none⟩) 1 1] w fun e w' => e = .returned (.bool (fitI n a)) ∧ Below w.heap.size w w' := by
  have q := fits_any n hn1 hn7 [a] (by simp) (by simpa using hr) g w h
  rw [show [a].all (fitI n) = fitI n a by simp] at q
  exact q

theorem fits4 (n : Nat) (hn1 : 1 ≤ n) (hn7 : n ≤ 7) (a b c d : Int) (ha : i64R a) (hb : i64R b) (hc : i64R c) (hd : i64R d) (g : Nat) (w : World) (h : IRow w g [a, b, c, d]) :
    Calls Tryz.prog 72 #[.int .i64 n, .slice (some ⟨g, 0, none⟩) 4 4] w fun e w' => e = .returned (.bool (fitI n a && (fitI n b && (fitI n c && fitI n d)))) ∧ Below w.heap.size w w' := by
  have q := fits_any n hn1 hn7 [a, b, c, d] (by simp) (by intro v hv; simp only [List.mem_cons, List.not_mem_nil, or_false] at hv; rcases hv with rfl | rfl | rfl | rfl <;> assumption) g w h
  rw [show [a, b, c, d].all (fitI n) = (fitI n a && (fitI n b && (fitI n c && fitI n d))) by simp] at q
  exact q


end Go.Proofs.YtocgnbbnaamjjaaGreatDoor

namespace Go.Proofs.YtocgnbbnaamjjaaGreatDoor
open Go.RowKit
attribute [local go_sem ↓] Go.wp_at_zero Go.wp_at_succ
set_option linter.unusedSimpArgs false
set_option linter.unusedVariables false
set_option maxRecDepth 100000

theorem wp_store_op {P : Program} {o : Oper} {a : Act} {w : World} {K : Act → World → Prop} {Q : Exit → Act → World → Prop} {p x : Operand} {B k : Nat} {T : TypeId} {C : Array Value} (t : TypeId) (v : Value) (C' : Array Value) (ho : o.op = .store t p x)
    (hp : a.eval p = .pointer (some ⟨B, k, none⟩)) (hx : a.eval x = v) (hB : Blk w B T C) (hn : (P.info? t).map (·.size) = some v.cells.size) (hk : k + v.cells.toList.length ≤ C.size) (h1 : v.cells.toList.all (·.oneCell') = true)
    (hC : (C.toList.take k ++ v.cells.toList ++ C.toList.drop (k + v.cells.toList.length)).toArray = C')
    (hK : ∀ w', Blk w' B T C' → Below B w w' → w.grownBy w' (some B) → K (a.put o.dst undef) w') : Oper.wp P o a w K Q := by
  have h3 := run_store_blk (P := P) w B k T t C C' v hB hn hk h1 hC
  have hFr := hB.setRow C'
  have hbl : Below B w (w.setRow B C') := below_setRow (Below.refl _ _) (Nat.le_refl _) _
  have hg : w.grownBy (w.setRow B C') (some B) := ⟨rfl, rfl, rfl, by simp, fun j _ hj => setRow_other w B j C' (by intro e; subst e; exact hj rfl)⟩
  unfold Oper.wp execOp
  simp only [ho, hp, hx, Instr.storeAt, Instr.sureAddr, Sem.run_bind, Sem.run_pure, Result.andThen_ok, h3]
  exact hK _ hFr hbl hg

theorem run_index_arr {P : Program} (w : World) (t e : TypeId) (n k : Nat) (X : Array Value) (v : Value) (ht : P.underlying t = some (.array n e)) (hs : (P.info? e).map (·.size) = some 1) (hk : k < n)
    (hu : (match P.underlying e with | some (.struct _) | some (.array _ _) => true | some _ => false | none => true) = false) (hv : X[k]? = some v) : (Instr.index t (.agg X) (.int .i64 k)).run P w = .ok v w := by
  have h1 := run_part_one (P := P) w e X (k * 1) v hu (by rw [Nat.mul_one]; exact hv)
  cases hq : P.info? e with
  | none => simp [hq] at hs
  | some i =>
    have hs' : i.size = 1 := by simpa [hq] using hs
    have hk' : (0 : Int) ≤ (k : Int) ∧ (k : Int) < (n : Int) := by omega
    rw [Nat.mul_one] at h1
    simp only [Instr.index, asIntOf, Sem.run_bind, Sem.run_pure, run_underlying ht, Result.andThen_ok, if_pos hk', Int.toNat_natCast, sizeOf, typeInfo, hq, hs', h1]
    simp [hq, hs', h1]

theorem index_blk {P : Program} {ops : Array Oper} {rest : List Oper} {o : Oper} {a : Act} {w : World} {Q : Exit → Act → World → Prop} {x i : Operand} {t : TypeId} {k : Nat} (X : Array Value) (v : Value) (hw : Region.wanted o (yielded ops a.tmps) = true) (ho : o.op = .index t x i)
    (hx : a.eval x = .agg X) (hi : a.eval i = .int .i64 k) (hr : (Instr.index t (.agg X) (.int .i64 k)).run P w = .ok v w) (h : wpList P ops Q rest (a.put o.dst v) w) : wpList P ops Q (o :: rest) a w :=
  wpList_step fun K hK => by
    rw [if_pos hw]
    unfold Oper.wp execOp
    simp only [ho, hx, hi, Sem.run_bind, Sem.run_pure, Result.andThen_ok, hr]
    exact hK _ _ h

theorem wp_load_op {P : Program} {o : Oper} {a : Act} {w : World} {K : Act → World → Prop} {Q : Exit → Act → World → Prop} {x : Operand} {B k : Nat} {T : TypeId} {C : Array Value} (t : TypeId) (X : Array Value) (ho : o.op = .load t x) (hx : a.eval x = .pointer (some ⟨B, k, none⟩)) (hB : Blk w B T C)
    (hu : (match P.underlying t with | some (.struct _) | some (.array _ _) => true | _ => false) = true) (hn : (P.info? t).map (·.size) = some X.size) (hC : (C.toList.drop k).take X.size = X.toList)
    (hK : K (a.put o.dst (.agg X)) w) : Oper.wp P o a w K Q := by
  have h1 := exec_load_blk (P := P) t X ho hx hB hu hn hC
  unfold Oper.wp
  rw [h1]
  exact hK

/-- One cell of a block is stored. -/
theorem st_cell (C C' : Array Value) (q : Nat) (v : Value) (hv : v.cells = #[v]) (hq : q < C.size) (h : C.setIfInBounds q v = C') : (C.toList.take q ++ v.cells.toList ++ C.toList.drop (q + v.cells.toList.length)).toArray = C' := by
  rw [hv, ← h]
  apply Array.toList_inj.1
  show C.toList.take q ++ [v] ++ C.toList.drop (q + 1) = _
  rw [Array.toList_setIfInBounds, List.set_eq_take_append_cons_drop, if_pos (by simpa using hq), List.append_assoc]
  rfl

end Go.Proofs.YtocgnbbnaamjjaaGreatDoor

