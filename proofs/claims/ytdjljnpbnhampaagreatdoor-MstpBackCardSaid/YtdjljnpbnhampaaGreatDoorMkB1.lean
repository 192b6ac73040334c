/- Texts one behind the other. A wire.Reader in memory, and what New, At, Left, Err, Fail and Bytes do to it: at every argument. (*wire.Reader).Num at every argument. A wire.Reader beside the plain answer: what Bytes, Num, Fail, Zeros and Err do in any state. Worlds that grow. prio.isPrio, Right, Port; the reference's within, BridgeRight, PortRight. prio.Read at every state of a reader. prio.ReadPort at every state of a reader. bpdu.Flags, ofConfig; the closures of Of and FlagsOf. A store in a drawn region; an array's element at a variable index; a single cell stored. bpdu.Of at every byte; the reference's FlagsOf. Numbers of a few bytes out of a wire.Reader in any state; where it is. bpdu.ReadBody at every state of a reader. What the code's reader makes of a body, beside what the reference's cursor makes of it: plain. The small functions that the laws share: pick (some number below n) and wired (a fact on package wire). DERIVED: THE SHELF's CONTRACTS AT THIS DUMP, IN PLAIN WORDS (tools/lay-plain.mjs out of 'TryzShelf.lean', which tools/lay-shelf.mjs wrote): THE SAME DECLARATIONS UNDER THE SAME NAMES: 'import', 'namespace', 'open', 'def', 'theorem' AND NOTHING ELSE: no command of the shelf's: FOR A HAND-IN. Each laying: the table of numbers ('.._ren') and one theorem, a field a fact of the dump's own or the kernel's comparison; each contract: ONE APPLICATION. (*wire.Reader).Zeros at every argument. A wire.Reader beside the plain answer: what Bytes, Num, Fail, Zeros and Err do in any state. (apart: zrR, leadT_le, zrR_le) How many noughts stand ahead: each of them is one, and the next byte is none. Reading in steps, plainly: bytes that are always the same, bytes that are passed over, numbers. wire.Reader.Expect in every state of a reader; slices.Contains of no and of one text. switchyardlaw.placed: an error that is this one, at this place. (apart: ErrAs, ErrAs.below, ErrAs.nil) 12.1, 12.2: messages of many trees plainly: nothing of the program. Cells that lie one behind the other in a row: loaded whole. Instances and messages of many trees as values. readCount, readInst at every state of a reader. -/
import Derived.Test.YtdjljnpbnhampaaGreatDoorPut
import Derived.Test.YtdjljnpbnhampaaGreatDoorFlt
import Derived.BigRegion
import Derived.BigQuiet
import Derived.Deep.QuietTactic
import Derived.Lib.IndexBytes
import Derived.Lib.Hide
import Derived.Test.YtdjljnpbnhampaaGreatDoorBlk
import Derived.Test.YtdjljnpbnhampaaGreatDoorCopyT
import Derived.Test.YtdjljnpbnhampaaGreatDoorBrS
import Derived.Test.YtdjljnpbnhampaaGreatDoorVecs
import Derived.Test.YtdjljnpbnhampaaGreatDoorBp
import Derived.Test.YtdjljnpbnhampaaGreatDoorBpFits
import Derived.Test.YtdjljnpbnhampaaGreatDoorBy
import Derived.Test.YtdjljnpbnhampaaGreatDoorBpAt
import Derived.Shelf.Strings.Builder1
import Derived.Shelf.Strings.Builder2
import Derived.Shelf.Strings.Trim
import Derived.Shelf.Small.Utf8
import Derived.Shelf.Small.Strs
import Derived.Shelf.Strings.BuilderF
import Derived.Shelf.Strings.BuilderK
import Derived.Shelf.Strings.Builder2Cap
import Derived.Shelf.Strings.Search1
import Derived.Shelf.Strings.Prefix
import Derived.Shelf.Unicode.Decode
import Derived.Shelf.Strings.Runes
import Derived.Shelf.Strings.AsciiSet
import Derived.Shelf.Bits.Mul64
import Derived.Shelf.Strings.Repeat
import Derived.Shelf.Unicode.DecodeSlow
import Derived.Shelf.Unicode.DecodeAny
import Derived.Shelf.Unicode.DecodeLast
import Derived.Shelf.Strings.BuilderCap
import Derived.Test.YtdjljnpbnhampaaGreatDoorProg
import Derived.Lib.TrimByte
import Derived.Test.YtdjljnpbnhampaaGreatDoorBpPlain
namespace Go.Proofs.YtdjljnpbnhampaaGreatDoor
open Go.RowKit

/-- Block g is a Reader that has s left, the next byte's number is at, and what was wrong first lies at f. -/
def Rd (w : World) (g : Nat) (s : ByteArray) (at_ : Int) (f : Option Addr) : Prop :=
  w.heap[g]? = some (.cells #[.string s, .int .i64 at_, .pointer f] 114)

section
variable {w w' : World} {g p : Nat} {s : ByteArray} {at_ e : Int} {f : Option Addr}

theorem Rd.lt (h : Rd w g s at_ f) : g < w.heap.size := (Array.getElem?_eq_some_iff.1 h).1

theorem Rd.c0 (h : Rd w g s at_ f) : w.cell? ⟨g, 0, none⟩ = some (.string s) := cell_of_row w g 0 _ _ (0, 0) h

theorem Rd.c1 (h : Rd w g s at_ f) : w.cell? ⟨g, 1, none⟩ = some (.int .i64 at_) := cell_of_row w g 1 _ _ (0, 0) h

theorem Rd.c2 (h : Rd w g s at_ f) : w.cell? ⟨g, 2, none⟩ = some (.pointer f) := cell_of_row w g 2 _ _ (0, 0) h

theorem Rd.fz (h : Rd w g s at_ f) (o : Nat) : w.frozen? ⟨g, o, none⟩ = false := by
  have h' : w.heap[g]? = some (.cells #[.string s, .int .i64 at_, .pointer f] 114) := h
  simp [World.frozen?, h']

/-- Another block may be written. -/
theorem Rd.kept {row : Option Nat} (h : Rd w g s at_ f) (hg : w.grownBy w' row) (hne : some g ≠ row) : Rd w' g s at_ f :=
  (hg.block g h.lt hne).trans h

theorem Rd.below (h : Rd w g s at_ f) (hb : Below w.heap.size w w') : Rd w' g s at_ f := (hb.block g h.lt).trans h

theorem Rd.alloc (h : Rd w g s at_ f) (o : Obj) : Rd (w.alloc o) g s at_ f := h.kept (World.grownBy_alloc w o none) (by simp)

theorem Rd.set {i : Nat} {v : Value} (h : Rd w g s at_ f) (c : Array Value) (hc : (#[.string s, .int .i64 at_, .pointer f] : Array Value).setIfInBounds i v = c) :
    (w.setCell ⟨g, i, none⟩ v).heap[g]? = some (.cells c 114) := by
  have h' : w.heap[g]? = some (.cells #[.string s, .int .i64 at_, .pointer f] 114) := h
  rw [← hc]
  show (w.heap.modify g _)[g]? = _
  rw [Array.getElem?_modify, if_pos rfl, h']
  rfl

theorem grownBy_setCell (w : World) (g i : Nat) (v : Value) : w.grownBy (w.setCell ⟨g, i, none⟩ v) (some g) :=
  ⟨rfl, rfl, rfl, by simp [World.setCell], fun k _ hne => Below.heap_setCell _ _ _ _ (by intro e; exact hne (by rw [e]))⟩

theorem grownBy_trans {a b c : World} {row : Option Nat} (h : a.grownBy b row) (k : b.grownBy c row) : a.grownBy c row :=
  ⟨k.os.trans h.os, k.tape.trans h.tape, k.output.trans h.output, Nat.le_trans h.size k.size,
    fun i hi hne => (k.block i (Nat.lt_of_lt_of_le hi h.size) hne).trans (h.block i hi hne)⟩
end

theorem extract_list (s : ByteArray) (a b : Nat) : (s.extract a b).data.toList = (s.data.toList.drop a).take (b - a) := Lib.extract_data s a b

/-- Two neighbouring pieces. -/
theorem extract_cat (s : ByteArray) (n m : Nat) (h : n + m ≤ s.size) : s.extract 0 n ++ (s.extract n s.size).extract 0 m = s.extract 0 (n + m) := by
  apply ByteArray.ext
  apply Array.toList_inj.1
  have e : ∀ a b : ByteArray, (a ++ b).data.toList = a.data.toList ++ b.data.toList := fun a b => by simp
  have hl : s.data.toList.length = s.size := by simp
  rw [e, extract_list, extract_list, extract_list, extract_list]
  simp only [Nat.sub_zero, List.drop_zero]
  rw [List.take_add, List.take_take, Nat.min_eq_left (by omega)]

theorem extract_extract (s : ByteArray) (n m : Nat) : (s.extract n s.size).extract m (s.extract n s.size).size = s.extract (n + m) s.size := by
  apply ByteArray.ext
  apply Array.toList_inj.1
  rw [Lib.extract_to_end, Lib.extract_to_end, Lib.extract_to_end, List.drop_drop]

/-- New. -/
theorem new_any (s : ByteArray) (off : Int) (w : World) :
    Calls Tryz.prog 27 #[.string s, .int .i64 off] w fun e w' =>
      e = .returned (.pointer (some ⟨w.heap.size, 0, none⟩)) ∧ w' = w.alloc (.cells #[.string s, .int .i64 off, .pointer none] 114) := by
  go_enter Tryz.func27, Tryz.ntmps27
  go_wp2
  go_ret
  exact ⟨rfl, rfl⟩

theorem at_any {g : Nat} {s : ByteArray} {n : Int} {f : Option Addr} (w : World) (h : Rd w g s n f) :
    Calls Tryz.prog 61 #[.pointer (some ⟨g, 0, none⟩)] w fun e w' => e = .returned (.int .i64 n) ∧ w = w' := by
  have h1 := h.c1
  go_enter Tryz.func61, Tryz.ntmps61
  go_wp2
  go_ret
  exact ⟨rfl, rfl⟩



theorem err_none {g : Nat} {s : ByteArray} {n : Int} (w : World) (h : Rd w g s n none) :
    Calls Tryz.prog 36 #[.pointer (some ⟨g, 0, none⟩)] w fun e w' => e = .returned .nilIface ∧ w = w' := by
  have h1 := h.c2
  go_enter Tryz.func36, Tryz.ntmps36
  go_wp2
  go_ret
  exact ⟨rfl, rfl⟩

theorem err_some {g p : Nat} {s : ByteArray} {n x y : Int} (w : World) (h : Rd w g s n (some ⟨p, 0, none⟩)) (hf : Flt w p x y) :
    Calls Tryz.prog 36 #[.pointer (some ⟨g, 0, none⟩)] w fun e w' =>
      e = .returned (.iface 112 (.pointer (some ⟨w.heap.size, 0, none⟩))) ∧ w' = w.alloc (.cells #[.int .i64 x, .int .i64 y] 128) := by
  have h1 := h.c2
  have h2 := hf.c0
  have h3 := hf.c1
  go_enter Tryz.func36, Tryz.ntmps36
  go_wp2
  go_ret
  exact ⟨rfl, rfl⟩

/-- Fail: the first. -/
theorem fail_first {g : Nat} {s : ByteArray} {n : Int} (x y : Int) (w : World) (h : Rd w g s n none) :
    Calls Tryz.prog 58 #[.pointer (some ⟨g, 0, none⟩), .int .i64 x, .int .i64 y] w fun e w' => e = .returned (.tuple #[]) ∧
      Rd w' g s n (some ⟨w.heap.size, 0, none⟩) ∧ Flt w' w.heap.size x y ∧ w.grownBy w' (some g) := by
  have h1 := h.c2
  have hz := h.fz 2
  have hlt := h.lt
  have hfin : Hid (Rd ((w.setCell ⟨g, 2, none⟩ (.pointer (some ⟨w.heap.size, 0, none⟩))).alloc (.cells #[.int .i64 x, .int .i64 y] 128)) g s n (some ⟨w.heap.size, 0, none⟩) ∧ Flt ((w.setCell ⟨g, 2, none⟩ (.pointer (some ⟨w.heap.size, 0, none⟩))).alloc (.cells #[.int .i64 x, .int .i64 y] 128)) w.heap.size x y ∧ w.grownBy ((w.setCell ⟨g, 2, none⟩ (.pointer (some ⟨w.heap.size, 0, none⟩))).alloc (.cells #[.int .i64 x, .int .i64 y] 128)) (some g)) := by
    have h2 : Rd (w.setCell ⟨g, 2, none⟩ (.pointer (some ⟨w.heap.size, 0, none⟩))) g s n (some ⟨w.heap.size, 0, none⟩) := h.set _ rfl
    refine ⟨h2.alloc _, ?_, grownBy_trans (grownBy_setCell _ _ _ _) (World.grownBy_alloc _ _ _)⟩
    have e := heap_alloc_new (w.setCell ⟨g, 2, none⟩ (.pointer (some ⟨w.heap.size, 0, none⟩))) (.cells #[.int .i64 x, .int .i64 y] 128)
    have es : (w.setCell ⟨g, 2, none⟩ (.pointer (some ⟨w.heap.size, 0, none⟩))).heap.size = w.heap.size := by simp [World.setCell]
    rw [es] at e
    exact e
  go_enter Tryz.func58, Tryz.ntmps58
  go_wp2
  go_end0
  exact ⟨rfl, hfin.out⟩

/-- Fail: not the first. -/
theorem fail_noted {g : Nat} {s : ByteArray} {n : Int} {p : Addr} (x y : Int) (w : World) (h : Rd w g s n (some p)) :
    Calls Tryz.prog 58 #[.pointer (some ⟨g, 0, none⟩), .int .i64 x, .int .i64 y] w fun e w' => e = .returned (.tuple #[]) ∧ w = w' := by
  have h1 := h.c2
  go_enter Tryz.func58, Tryz.ntmps58
  go_wp2
  go_end0
  exact ⟨rfl, rfl⟩


/-- Bytes, n below 0, nothing noted yet: ErrRange at the next byte. -/
theorem bytes_neg {g : Nat} {s : ByteArray} {a : Int} (n : Int) (w : World) (h : Rd w g s a none) (hn : n < 0) :
    Calls Tryz.prog 32 #[.pointer (some ⟨g, 0, none⟩), .int .i64 n] w fun e w' => e = .returned (.string ⟨#[]⟩) ∧
      Rd w' g s a (some ⟨w.heap.size, 0, none⟩) ∧ Flt w' w.heap.size 2 a ∧ w.grownBy w' (some g) := by
  have h1 := h.c1
  go_enter Tryz.func32, Tryz.ntmps32
  go_wp2_with fail
  refine (fail_first _ _ _ h).mono ?_
  rintro e w' ⟨rfl, hr, hf, hg⟩
  have h2 := hr.c2
  go_wp2
  go_ret
  exact ⟨rfl, hr, hf, hg⟩

/-- Bytes, more than there are, nothing noted yet: ErrMissing at the next byte. -/
theorem bytes_missing {g : Nat} {s : ByteArray} {a : Int} (n : Int) (w : World) (h : Rd w g s a none) (hn : (s.size : Int) < n) :
    Calls Tryz.prog 32 #[.pointer (some ⟨g, 0, none⟩), .int .i64 n] w fun e w' => e = .returned (.string ⟨#[]⟩) ∧
      Rd w' g s a (some ⟨w.heap.size, 0, none⟩) ∧ Flt w' w.heap.size 7 a ∧ w.grownBy w' (some g) := by
  have h0 := h.c0
  have h1 := h.c1
  have hn0 : ¬ n < 0 := by omega
  go_enter Tryz.func32, Tryz.ntmps32
  go_wp2_with fail
  refine (fail_first _ _ _ h).mono ?_
  rintro e w' ⟨rfl, hr, hf, hg⟩
  have h2 := hr.c2
  go_wp2
  go_ret
  exact ⟨rfl, hr, hf, hg⟩

/-- Bytes, something noted already: nothing is read. -/
theorem bytes_noted {g : Nat} {s : ByteArray} {a : Int} {p : Addr} (n : Int) (w : World) (h : Rd w g s a (some p)) :
    Calls Tryz.prog 32 #[.pointer (some ⟨g, 0, none⟩), .int .i64 n] w fun e w' => e = .returned (.string ⟨#[]⟩) ∧ w = w' := by
  have h0 := h.c0
  have h1 := h.c1
  have h2 := h.c2
  by_cases hn0 : n < 0
  · go_enter Tryz.func32, Tryz.ntmps32
    go_wp2_with fail
    refine (fail_noted _ _ _ h).mono ?_
    rintro e w' ⟨rfl, rfl⟩
    go_wp2
    go_ret
    exact ⟨rfl, rfl⟩
  · by_cases hn1 : (s.size : Int) < n
    · go_enter Tryz.func32, Tryz.ntmps32
      go_wp2_with fail
      refine (fail_noted _ _ _ h).mono ?_
      rintro e w' ⟨rfl, rfl⟩
      go_wp2
      go_ret
      exact ⟨rfl, rfl⟩
    · go_enter Tryz.func32, Tryz.ntmps32
      go_wp2
      go_ret
      exact ⟨rfl, rfl⟩

set_option maxHeartbeats 1000000 in
/-- Bytes, they are there. -/
theorem bytes_read {g : Nat} {s : ByteArray} {a : Int} (n : Nat) (w : World) (h : Rd w g s a none) (hn : n ≤ s.size) (ha : 0 ≤ a) (hb : a + s.size ≤ 281474976710656) :
    Calls Tryz.prog 32 #[.pointer (some ⟨g, 0, none⟩), .int .i64 n] w fun e w' => e = .returned (.string (s.extract 0 n)) ∧
      Rd w' g (s.extract n s.size) (a + n) none ∧ w.grownBy w' (some g) := by
  have h0 := h.c0
  have h1 := h.c1
  have h2 := h.c2
  have z0 := h.fz 0
  have z1 := h.fz 1
  have hn0 : ¬ (n : Int) < 0 := by omega
  have hn1 : ¬ (s.size : Int) < n := by omega
  go_enter Tryz.func32, Tryz.ntmps32
  go_wp2
  go_region
  go_wp2
  go_ret
  refine ⟨rfl, ?_, ?_⟩
  · have k0 : Rd (w.setCell ⟨g, 0, none⟩ (.string (s.extract n s.size))) g (s.extract n s.size) a none := h.set _ rfl
    exact k0.set _ rfl
  · have hg := grownBy_trans (grownBy_setCell w g 0 (.string (s.extract n s.size))) (grownBy_setCell _ g 1 (.int .i64 (a + n)))
    exact ⟨hg.os, hg.tape, hg.output, hg.size, hg.block⟩


end Go.Proofs.YtdjljnpbnhampaaGreatDoor

namespace Go.Proofs.YtdjljnpbnhampaaGreatDoor
open Go.RowKit

/-- Num, n no width, nothing noted yet: ErrRange at the next byte. -/
theorem num_range {g : Nat} {s : ByteArray} {a : Int} (n : Int) (w : World) (h : Rd w g s a none) (hn : n < 1 ∨ 8 < n) :
    Calls Tryz.prog 33 #[.pointer (some ⟨g, 0, none⟩), .int .i64 n] w fun e w' => e = .returned (.int .i64 0) ∧
      Rd w' g s a (some ⟨w.heap.size, 0, none⟩) ∧ Flt w' w.heap.size 2 a ∧ w.grownBy w' (some g) := by
  have h1 := h.c1
  go_enter Tryz.func33, Tryz.ntmps33
  go_wp2_with fail
  refine (width_no _ _ hn).mono ?_
  rintro e w' ⟨rfl, rfl⟩
  go_wp2_with fail
  refine (fail_first _ _ _ h).mono ?_
  rintro e w' ⟨rfl, hr, hf, hg⟩
  go_wp2
  go_ret
  exact ⟨rfl, hr, hf, hg⟩

theorem num_range_noted {g : Nat} {s : ByteArray} {a : Int} {p : Addr} (n : Int) (w : World) (h : Rd w g s a (some p)) (hn : n < 1 ∨ 8 < n) :
    Calls Tryz.prog 33 #[.pointer (some ⟨g, 0, none⟩), .int .i64 n] w fun e w' => e = .returned (.int .i64 0) ∧ w = w' := by
  have h1 := h.c1
  go_enter Tryz.func33, Tryz.ntmps33
  go_wp2_with fail
  refine (width_no _ _ hn).mono ?_
  rintro e w' ⟨rfl, rfl⟩
  go_wp2_with fail
  refine (fail_noted _ _ _ h).mono ?_
  rintro e w' ⟨rfl, rfl⟩
  go_wp2
  go_ret
  exact ⟨rfl, rfl⟩

/-- The bytes l lie in block b from its head on. -/
def ByteRow (w : World) (b : Nat) (l : List UInt8) : Prop := ∀ k x, l[k]? = some x → w.cell? ⟨b, k, none⟩ = some (.int .u8 (x.toNat : Int))

theorem byteRow_new (W : World) (s : ByteArray) (c : Nat) (E : TypeId) : ByteRow (W.alloc (.cells (bytesRow s c) E ((bytesRow s c).size, (bytesRow s c).size + 1))).drew W.heap.size s.data.toList := by
  intro k x hx
  have e := World.cell?_alloc_mark W (bytesRow s c) E ((bytesRow s c).size, (bytesRow s c).size + 1) k
  refine Eq.trans e ?_
  have hk : k < s.data.size := by
    have := (List.getElem?_eq_some_iff.1 hx).1
    simpa using this
  rw [Array.getElem?_toList] at hx
  rw [bytesRow, Array.getElem?_append_left (by simpa using hk), Array.getElem?_map, hx]
  rfl

set_option maxHeartbeats 1000000 in
theorem num_read {g : Nat} {s : ByteArray} {a : Int} (n : Nat) (w : World) (h : Rd w g s a none) (h1 : 1 ≤ n) (h8 : n ≤ 8) (hn : n ≤ s.size) (ha : 0 ≤ a) (hb : a + s.size ≤ 281474976710656) :
    Calls Tryz.prog 33 #[.pointer (some ⟨g, 0, none⟩), .int .i64 n] w fun e w' => e = .returned (.int .i64 (wrap64 (beN (s.data.toList.take n)))) ∧
      Rd w' g (s.extract n s.size) (a + n) none ∧ w.grownBy w' (some g) := by
  have HT : Hid ((s.extract 0 n).data.toList = s.data.toList.take n) := by show _ = _; rw [Lib.extract_data]; simp
  go_enter Tryz.func33, Tryz.ntmps33
  go_wp2_with fail
  refine (width_yes _ _ (by omega) (by omega)).mono ?_
  rintro e w' ⟨rfl, rfl⟩
  go_wp2_with fail
  refine (bytes_read _ _ h hn ha hb).mono ?_
  rintro e w' ⟨rfl, hr, hg⟩
  have hcv := fun W => run_bytes_of_string (P := Tryz.prog) W 9 51 5 (s.extract 0 n) Tryz.underlying9 Tryz.underlying51 Tryz.underlying5
  go_wp2
  have hB := byteRow_new w' (s.extract 0 n) (grownCap w' n 0 5) 5
  have hR : Rd ((w'.alloc (Obj.cells (bytesRow (s.extract 0 n) (grownCap w' n 0 5)) 5 ((bytesRow (s.extract 0 n) (grownCap w' n 0 5)).size, (bytesRow (s.extract 0 n) (grownCap w' n 0 5)).size + 1))).drew) g (s.extract n s.size) (a + n) none := hr.alloc _
  have hG : w.grownBy ((w'.alloc (Obj.cells (bytesRow (s.extract 0 n) (grownCap w' n 0 5)) 5 ((bytesRow (s.extract 0 n) (grownCap w' n 0 5)).size, (bytesRow (s.extract 0 n) (grownCap w' n 0 5)).size + 1))).drew) (some g) := by
    have k2 := grownBy_trans hg (World.grownBy_alloc w' (Obj.cells (bytesRow (s.extract 0 n) (grownCap w' n 0 5)) 5 ((bytesRow (s.extract 0 n) (grownCap w' n 0 5)).size, (bytesRow (s.extract 0 n) (grownCap w' n 0 5)).size + 1)) (some g))
    exact ⟨k2.os, k2.tape, k2.output, k2.size, k2.block⟩
  have hL : (s.extract 0 n).data.toList.length = n := by simp; omega
  have HL := Lib.hid hL
  clear hL hcv
  generalize ((w'.alloc (Obj.cells (bytesRow (s.extract 0 n) (grownCap w' n 0 5)) 5 ((bytesRow (s.extract 0 n) (grownCap w' n 0 5)).size, (bytesRow (s.extract 0 n) (grownCap w' n 0 5)).size + 1))).drew) = W1 at *
  generalize (s.extract 0 n).data.toList = t at *
  go_loop [5, 22] (fun x i => ∃ k : Nat, k ≤ n ∧ i = .int .i64 k ∧ x = .int .u64 (beN (t.take k))) (fun _ i => n - (intOf i).toNat)
  case atStart => exact ⟨0, by omega, rfl, rfl⟩
  case round =>
    obtain ⟨k, hk, rfl, rfl⟩ := hrel
    by_cases hlt : k < n
    · have hcell := hB k (t[k]'(by rw [HL.out]; exact hlt)) (List.getElem?_eq_getElem _)
      have hX : beN (t.take k) < 72057594037927936 := by
        have h := beN_lt (t.take k)
        have hl : (t.take k).length = k := by rw [List.length_take, HL.out]; omega
        rw [hl] at h
        have h7 : 256 ^ k ≤ 256 ^ 7 := Nat.pow_le_pow_right (by omega) (by omega)
        omega
      have HS := Lib.hid (or_step (beN (t.take k)) (t[k]'(by rw [HL.out]; exact hlt)) hX)
      have HN := Lib.hid (take_snoc t k (by rw [HL.out]; exact hlt))
      clear hX
      go_wp2
      go_round
      case rel => exact ⟨k + 1, by omega, by go_num, by rw [HS.out, HN.out, beN_snoc]⟩
      case measure => simp [intOf]; omega
    · obtain rfl : k = n := by omega
      have HK := Lib.hid (List.take_of_length_le (l := t) (i := k) (by rw [HL.out]; omega))
      go_wp2
      go_ret
      exact ⟨by rw [HK.out, HT.out]; rfl, hR, hG⟩

/-- Num, a width, but there are not so many, nothing noted yet: ErrMissing at the next byte. -/
theorem num_missing {g : Nat} {s : ByteArray} {a : Int} (n : Int) (w : World) (h : Rd w g s a none) (h1 : 1 ≤ n) (h8 : n ≤ 8) (hn : (s.size : Int) < n) :
    Calls Tryz.prog 33 #[.pointer (some ⟨g, 0, none⟩), .int .i64 n] w fun e w' => e = .returned (.int .i64 0) ∧
      Rd w' g s a (some ⟨w.heap.size, 0, none⟩) ∧ Flt w' w.heap.size 7 a ∧ w.grownBy w' (some g) := by
  go_enter Tryz.func33, Tryz.ntmps33
  go_wp2_with fail
  refine (width_yes _ _ h1 h8).mono ?_
  rintro e w' ⟨rfl, rfl⟩
  go_wp2_with fail
  refine (bytes_missing _ _ h hn).mono ?_
  rintro e w' ⟨rfl, hr, hf, hg⟩
  have hcv := fun W => run_bytes_of_string (P := Tryz.prog) W 9 51 5 ⟨#[]⟩ Tryz.underlying9 Tryz.underlying51 Tryz.underlying5
  go_wp2
  refine wp_loop_rounds 1 ?_
  rw [rounds_succ]
  go_wp2
  go_ret
  have k2 := grownBy_trans hg (World.grownBy_alloc w' (.cells (bytesRow ⟨#[]⟩ (grownCap w' 0 0 5)) 5 ((bytesRow ⟨#[]⟩ (grownCap w' 0 0 5)).size, (bytesRow ⟨#[]⟩ (grownCap w' 0 0 5)).size + 1)) (some g))
  exact ⟨rfl, hr.alloc _, hf.alloc _, k2.os, k2.tape, k2.output, k2.size, k2.block⟩

/-- Num, a width, something noted already: nothing is read. -/
theorem num_noted {g : Nat} {s : ByteArray} {a : Int} {p : Addr} (n : Int) (w : World) (h : Rd w g s a (some p)) (h1 : 1 ≤ n) (h8 : n ≤ 8) :
    Calls Tryz.prog 33 #[.pointer (some ⟨g, 0, none⟩), .int .i64 n] w fun e w' => e = .returned (.int .i64 0) ∧
      Rd w' g s a (some p) ∧ w.grownBy w' none := by
  go_enter Tryz.func33, Tryz.ntmps33
  go_wp2_with fail
  refine (width_yes _ _ h1 h8).mono ?_
  rintro e w' ⟨rfl, rfl⟩
  go_wp2_with fail
  refine (bytes_noted _ _ h).mono ?_
  rintro e w' ⟨rfl, rfl⟩
  have hcv := fun W => run_bytes_of_string (P := Tryz.prog) W 9 51 5 ⟨#[]⟩ Tryz.underlying9 Tryz.underlying51 Tryz.underlying5
  go_wp2
  refine wp_loop_rounds 1 ?_
  rw [rounds_succ]
  go_wp2
  go_ret
  have k2 := World.grownBy_alloc w (.cells (bytesRow ⟨#[]⟩ (grownCap w 0 0 5)) 5 ((bytesRow ⟨#[]⟩ (grownCap w 0 0 5)).size, (bytesRow ⟨#[]⟩ (grownCap w 0 0 5)).size + 1)) none
  exact ⟨rfl, h.alloc _, k2.os, k2.tape, k2.output, k2.size, k2.block⟩

end Go.Proofs.YtdjljnpbnhampaaGreatDoor

namespace Go.Proofs.YtdjljnpbnhampaaGreatDoor
open Go.RowKit
set_option linter.unusedVariables false

/-- How much is read; what was wrong first (0: nothing), and where (-1: nowhere). -/
abbrev RSt := Nat × Int × Int

/-- The next n bytes (num: of a number). -/
def tkN (s : List UInt8) (off : Nat) (st : RSt) (n : Int) (num : Bool) : List UInt8 × RSt :=
  if st.2.1 ≠ 0 then ([], st)
  else if n < 0 ∨ (num = true ∧ (n < 1 ∨ 8 < n)) then ([], st.1, 2, (off : Int) + st.1)
  else if (s.length : Int) - st.1 < n then ([], st.1, 7, (off : Int) + st.1)
  else ((s.drop st.1).take n.toNat, st.1 + n.toNat, st.2)

/-- What is wrong is noted, if it is the first. -/
def flR (st : RSt) (e pl : Int) : RSt := if st.2.1 ≠ 0 then st else (st.1, e, pl)

theorem tkN_le (s : List UInt8) (off : Nat) (st : RSt) (n : Int) (num : Bool) (h : st.1 ≤ s.length) : (tkN s off st n num).2.1 ≤ s.length := by
  unfold tkN
  split
  · exact h
  · split
    · exact h
    · split
      · exact h
      · show st.1 + n.toNat ≤ s.length
        omega

theorem flR_le (s : List UInt8) (st : RSt) (e pl : Int) (h : st.1 ≤ s.length) : (flR st e pl).1 ≤ s.length := by
  unfold flR
  split <;> exact h

/-- Once noted, always noted. -/
theorem tkN_bad (s : List UInt8) (off : Nat) (st : RSt) (n : Int) (num : Bool) (h : st.2.1 ≠ 0) : tkN s off st n num = ([], st) := by unfold tkN; rw [if_pos h]

theorem flR_bad (st : RSt) (e pl : Int) (h : st.2.1 ≠ 0) : flR st e pl = st := by unfold flR; rw [if_pos h]

theorem flR_ne (st : RSt) (e pl : Int) (he : e ≠ 0) : (flR st e pl).2.1 ≠ 0 := by
  unfold flR
  split
  · assumption
  · exact he

/-- Bytes come if nothing was wrong before, and they are there. -/
theorem tkN_ok (s : List UInt8) (off : Nat) (st : RSt) (n : Nat) (num : Bool) (h : (tkN s off st n num).2.2.1 = 0) : st.2.1 = 0 ∧ st.1 + n ≤ s.length ∧ tkN s off st n num = ((s.drop st.1).take n, st.1 + n, st.2) := by
  unfold tkN at h ⊢
  by_cases h1 : st.2.1 ≠ 0
  · rw [if_pos h1] at h; exact absurd h h1
  · rw [if_neg h1] at h ⊢
    by_cases h2 : (n : Int) < 0 ∨ (num = true ∧ ((n : Int) < 1 ∨ 8 < (n : Int)))
    · rw [if_pos h2] at h; exact absurd (show (2 : Int) = 0 from h) (by decide)
    · rw [if_neg h2] at h ⊢
      by_cases h3 : (s.length : Int) - st.1 < n
      · rw [if_pos h3] at h; exact absurd (show (7 : Int) = 0 from h) (by decide)
      · rw [if_neg h3]
        exact ⟨by simpa using h1, by omega, by simp⟩

theorem tkN_go (s : List UInt8) (off : Nat) (st : RSt) (n : Nat) (num : Bool) (h : st.2.1 = 0) (hn : st.1 + n ≤ s.length) (hw : num = true → 1 ≤ n ∧ n ≤ 8) : tkN s off st n num = ((s.drop st.1).take n, st.1 + n, st.2) := by
  unfold tkN
  rw [if_neg (by simpa using h), if_neg (by intro q; rcases q with q | ⟨q, q2⟩; omega; have := hw q; omega), if_neg (by omega)]
  simp

theorem tkN_miss (s : List UInt8) (off : Nat) (st : RSt) (n : Nat) (num : Bool) (h : st.2.1 = 0) (hn : ¬ st.1 + n ≤ s.length) (hp : st.1 ≤ s.length) (hw : num = true → 1 ≤ n ∧ n ≤ 8) : tkN s off st n num = ([], st.1, 7, (off : Int) + st.1) := by
  unfold tkN
  rw [if_neg (by simpa using h), if_neg (by intro q; rcases q with q | ⟨q, q2⟩; omega; have := hw q; omega), if_pos (by omega)]

/-- All of them, or none. -/
theorem tkN_len (s : List UInt8) (off : Nat) (st : RSt) (n : Nat) (num : Bool) : (tkN s off st n num).1 = [] ∨ (tkN s off st n num).1.length = n := by
  unfold tkN
  split
  · exact Or.inl rfl
  · split
    · exact Or.inl rfl
    · split
      · exact Or.inl rfl
      · right
        show ((s.drop st.1).take (n : Int).toNat).length = n
        rw [List.length_take, List.length_drop]
        omega

/-- What is noted (e, at pl) lies at f. -/
def FsT (w : World) (e pl : Int) (f : Option Addr) : Prop := (e = 0 ∧ f = none) ∨ (e ≠ 0 ∧ ∃ q, f = some ⟨q, 0, none⟩ ∧ Flt w q e pl)

/-- Reader g is where st says. -/
def RdT (w : World) (g : Nat) (s : ByteArray) (off : Nat) (st : RSt) : Prop := ∃ f, Rd w g (s.extract st.1 s.size) ((off : Int) + (st.1 : Int)) f ∧ FsT w st.2.1 st.2.2 f

theorem rdT_ne_flt {w : World} {g q : Nat} {s : ByteArray} {a e pl : Int} {f : Option Addr} (h : Rd w g s a f) (hf : Flt w q e pl) : q ≠ g := by
  intro e0
  subst e0
  have h1 : w.heap[q]? = some (.cells #[.string s, .int .i64 a, .pointer f] 114) := h
  have h2 : w.heap[q]? = some (.cells #[.int .i64 e, .int .i64 pl] 128) := hf
  have h3 := h1.symm.trans h2
  injection h3 with h3
  injection h3 with h3 h4
  exact absurd h4 (by decide)

theorem FsT.kept {w w' : World} {g : Nat} {s : ByteArray} {a e pl : Int} {f f' : Option Addr} (h : FsT w e pl f) (hr : Rd w g s a f') (hg : w.grownBy w' (some g)) : FsT w' e pl f := by
  rcases h with h | ⟨he, q, hq, hf⟩
  · exact Or.inl h
  · exact Or.inr ⟨he, q, hq, hf.kept hg (by intro e1; cases e1; exact rdT_ne_flt hr hf rfl)⟩

theorem FsT.below {w w' : World} {e pl : Int} {f : Option Addr} (h : FsT w e pl f) (hb : Below w.heap.size w w') : FsT w' e pl f := by
  rcases h with h | ⟨he, q, hq, hf⟩
  · exact Or.inl h
  · exact Or.inr ⟨he, q, hq, hf.below hb⟩

theorem RdT.below {w w' : World} {g : Nat} {s : ByteArray} {off : Nat} {st : RSt} (h : RdT w g s off st) (hb : Below w.heap.size w w') : RdT w' g s off st := by
  obtain ⟨f, hr, hf⟩ := h
  exact ⟨f, hr.below hb, hf.below hb⟩

theorem RdT.lt {w : World} {g : Nat} {s : ByteArray} {off : Nat} {st : RSt} (h : RdT w g s off st) : g < w.heap.size := by
  obtain ⟨f, hr, hf⟩ := h
  exact hr.lt

theorem RdT.drew {w : World} {g : Nat} {s : ByteArray} {off : Nat} {st : RSt} (h : RdT w g s off st) : RdT w.drew g s off st := h

theorem RdT.ne {w : World} {g B : Nat} {s : ByteArray} {off : Nat} {st : RSt} {T : TypeId} {C : Array Value} (h : RdT w g s off st) (hB : Blk w B T C) (hT : T ≠ 114) : B ≠ g := by
  intro e0
  subst e0
  obtain ⟨f, hr, _⟩ := h
  have h1 : w.heap[B]? = some (.cells _ 114 (0, 0)) := hr
  have h2 : w.heap[B]? = some (.cells C T (0, 0)) := hB
  have h3 := h1.symm.trans h2
  injection h3 with h3
  injection h3 with h3 h4
  exact hT h4.symm

/-- Another block of another type is written. -/
theorem RdT.other {w w' : World} {g B : Nat} {s : ByteArray} {off : Nat} {st : RSt} {T : TypeId} {C : Array Value} (h : RdT w g s off st) (hB : Blk w B T C) (hT : T ≠ 114) (hT2 : T ≠ 128) (hg : w.grownBy w' (some B)) : RdT w' g s off st := by
  have hne := h.ne hB hT
  obtain ⟨f, hr, hf⟩ := h
  refine ⟨f, hr.kept hg (by simpa using Ne.symm hne), ?_⟩
  rcases hf with hf | ⟨he, q, hq, hf⟩
  · exact Or.inl hf
  · refine Or.inr ⟨he, q, hq, hf.kept hg ?_⟩
    intro e1
    have e1 : q = B := by simpa using e1
    subst e1
    have h1 : w.heap[q]? = some (.cells #[.int .i64 st.2.1, .int .i64 st.2.2] 128) := hf
    have h2 : w.heap[q]? = some (.cells C T (0, 0)) := hB
    have h3 := h1.symm.trans h2
    injection h3 with h3
    injection h3 with h3 h4
    exact hT2 h4.symm

/-- A block of another type stays while the reader reads. -/
theorem Blk.reads {w w' : World} {g B : Nat} {s : ByteArray} {off : Nat} {st : RSt} {T : TypeId} {C : Array Value} (hB : Blk w B T C) (h : RdT w g s off st) (hT : T ≠ 114) (hg : w.grownBy w' (some g)) : Blk w' B T C :=
  hB.grown hg (by simpa using h.ne hB hT)

theorem bytesT_of (s : ByteArray) (p n : Nat) : (s.extract p s.size).extract 0 n = ⟨((s.data.toList.drop p).take n).toArray⟩ := by
  apply ByteArray.ext
  apply Array.toList_inj.1
  rw [extract_list, Lib.extract_to_end]
  simp

theorem restT_size (s : ByteArray) (p : Nat) (hp : p ≤ s.size) : (s.extract p s.size).size = s.size - p := by rw [ByteArray.size_extract]; omega

theorem new_t (s : ByteArray) (off : Nat) (w : World) :
    Calls Tryz.prog 27 #[.string s, .int .i64 off] w fun e w' =>
      e = .returned (.pointer (some ⟨w.heap.size, 0, none⟩)) ∧ RdT w' w.heap.size s off (0, 0, -1) ∧ Below w.heap.size w w' := by
  refine (new_any s off w).mono ?_
  rintro e w' ⟨rfl, rfl⟩
  refine ⟨rfl, ⟨none, ?_, Or.inl ⟨rfl, rfl⟩⟩, (Below.refl _ _).alloc (Nat.le_refl _) _⟩
  have e1 : s.extract 0 s.size = s := by
    apply ByteArray.ext
    apply Array.toList_inj.1
    rw [extract_list, List.drop_zero, List.take_of_length_le (by simp)]
  show Rd _ _ (s.extract 0 s.size) ((off : Int) + ((0 : Nat) : Int)) none
  rw [e1, show (off : Int) + ((0 : Nat) : Int) = (off : Int) by omega]
  show (w.heap.push _)[w.heap.size]? = _
  simp

theorem bytes_t {g : Nat} {s : ByteArray} {off : Nat} (st : RSt) (n : Int) (w : World) (h : RdT w g s off st) (hp : st.1 ≤ s.size) (hb : off + s.size ≤ 281474976710656) :
    Calls Tryz.prog 32 #[.pointer (some ⟨g, 0, none⟩), .int .i64 n] w fun e w' => e = .returned (.string ⟨(tkN s.data.toList off st n false).1.toArray⟩) ∧
      RdT w' g s off (tkN s.data.toList off st n false).2 ∧ w.grownBy w' (some g) := by
  obtain ⟨p, e0, pl⟩ := st
  obtain ⟨f, hr, hf⟩ := h
  have hz := restT_size s p hp
  have hLs : s.data.toList.length = s.size := by simp
  have hp' : p ≤ s.size := hp
  rcases hf with ⟨h0, rfl⟩ | ⟨h0, q, rfl, hq⟩
  · have h0' : e0 = 0 := h0
    subst h0'
    by_cases hn : n < 0
    · have HS : tkN s.data.toList off (p, 0, pl) n false = ([], p, 2, (off : Int) + p) := by simp [tkN, hn]
      rw [HS]
      refine (bytes_neg n w hr hn).mono ?_
      rintro e w' ⟨rfl, hr', hf', hg⟩
      exact ⟨rfl, ⟨_, hr', Or.inr ⟨(show (2 : Int) ≠ 0 by decide), _, rfl, hf'⟩⟩, hg⟩
    · by_cases hm : (s.size : Int) - p < n
      · have HS : tkN s.data.toList off (p, 0, pl) n false = ([], p, 7, (off : Int) + p) := by
          unfold tkN
          rw [if_neg (by simp), if_neg (by simp; omega), if_pos (by rw [hLs]; exact hm)]
        rw [HS]
        refine (bytes_missing n w hr (by rw [hz]; omega)).mono ?_
        rintro e w' ⟨rfl, hr', hf', hg⟩
        exact ⟨rfl, ⟨_, hr', Or.inr ⟨(show (7 : Int) ≠ 0 by decide), _, rfl, hf'⟩⟩, hg⟩
      · have HS : tkN s.data.toList off (p, 0, pl) n false = ((s.data.toList.drop p).take n.toNat, p + n.toNat, 0, pl) := by
          unfold tkN
          rw [if_neg (by simp), if_neg (by simp; omega), if_neg (by rw [hLs]; exact hm)]
        rw [HS]
        have hnn : n = ((n.toNat : Nat) : Int) := by omega
        rw [hnn]
        refine (bytes_read n.toNat w hr (by rw [hz]; omega) (by show (0 : Int) ≤ (off : Int) + (p : Int); omega) (by rw [hz]; show (off : Int) + (p : Int) + _ ≤ _; omega)).mono ?_
        rintro e w' ⟨rfl, hr', hg⟩
        refine ⟨?_, ⟨none, ?_, Or.inl ⟨rfl, rfl⟩⟩, hg⟩
        · rw [← bytesT_of, Int.toNat_natCast]
        · have e1 := extract_extract s p n.toNat
          rw [Int.toNat_natCast]
          have e2 : (off : Int) + ((p + n.toNat : Nat) : Int) = (off : Int) + (p : Int) + (n.toNat : Int) := by omega
          show Rd w' g (s.extract (p + n.toNat) s.size) ((off : Int) + ((p + n.toNat : Nat) : Int)) none
          rw [e2, ← e1]
          exact hr'
  · have h0' : e0 ≠ 0 := h0
    have HS : tkN s.data.toList off (p, e0, pl) n false = ([], p, e0, pl) := by simp [tkN, h0']
    rw [HS]
    refine (bytes_noted n w hr).mono ?_
    rintro e w' ⟨rfl, rfl⟩
    exact ⟨rfl, ⟨_, hr, Or.inr ⟨h0, q, rfl, hq⟩⟩, World.grownBy.refl _ _⟩

theorem num_t {g : Nat} {s : ByteArray} {off : Nat} (st : RSt) (n : Int) (w : World) (h : RdT w g s off st) (hp : st.1 ≤ s.size) (hb : off + s.size ≤ 281474976710656) :
    Calls Tryz.prog 33 #[.pointer (some ⟨g, 0, none⟩), .int .i64 n] w fun e w' => e = .returned (.int .i64 (wrap64 (beN (tkN s.data.toList off st n true).1))) ∧
      RdT w' g s off (tkN s.data.toList off st n true).2 ∧ w.grownBy w' (some g) := by
  obtain ⟨p, e0, pl⟩ := st
  obtain ⟨f, hr, hf⟩ := h
  have hz := restT_size s p hp
  have hLs : s.data.toList.length = s.size := by simp
  have hp' : p ≤ s.size := hp
  have hnil : wrap64 (beN []) = 0 := by simp [beN, wrap64]
  rcases hf with ⟨h0, rfl⟩ | ⟨h0, q, rfl, hq⟩
  · have h0' : e0 = 0 := h0
    subst h0'
    by_cases hn : n < 1 ∨ 8 < n
    · have HS : tkN s.data.toList off (p, 0, pl) n true = ([], p, 2, (off : Int) + p) := by
        unfold tkN
        rw [if_neg (by simp), if_pos (Or.inr ⟨rfl, hn⟩)]
      rw [HS]
      refine (num_range n w hr hn).mono ?_
      rintro e w' ⟨rfl, hr', hf', hg⟩
      exact ⟨by rw [hnil], ⟨_, hr', Or.inr ⟨(show (2 : Int) ≠ 0 by decide), _, rfl, hf'⟩⟩, hg⟩
    · by_cases hm : (s.size : Int) - p < n
      · have HS : tkN s.data.toList off (p, 0, pl) n true = ([], p, 7, (off : Int) + p) := by
          unfold tkN
          rw [if_neg (by simp), if_neg (by intro q; rcases q with q | ⟨_, q⟩; omega; exact hn q), if_pos (by rw [hLs]; exact hm)]
        rw [HS]
        refine (num_missing n w hr (by omega) (by omega) (by rw [hz]; omega)).mono ?_
        rintro e w' ⟨rfl, hr', hf', hg⟩
        exact ⟨by rw [hnil], ⟨_, hr', Or.inr ⟨(show (7 : Int) ≠ 0 by decide), _, rfl, hf'⟩⟩, hg⟩
      · have HS : tkN s.data.toList off (p, 0, pl) n true = ((s.data.toList.drop p).take n.toNat, p + n.toNat, 0, pl) := by
          unfold tkN
          rw [if_neg (by simp), if_neg (by intro q; rcases q with q | ⟨_, q⟩; omega; exact hn q), if_neg (by rw [hLs]; exact hm)]
        rw [HS]
        have hnn : n = ((n.toNat : Nat) : Int) := by omega
        rw [hnn]
        refine (num_read n.toNat w hr (by omega) (by omega) (by rw [hz]; omega) (by show (0 : Int) ≤ (off : Int) + (p : Int); omega) (by rw [hz]; show (off : Int) + (p : Int) + _ ≤ _; omega)).mono ?_
        rintro e w' ⟨rfl, hr', hg⟩
        refine ⟨?_, ⟨none, ?_, Or.inl ⟨rfl, rfl⟩⟩, hg⟩
        · rw [Lib.extract_to_end, Int.toNat_natCast]
        · have e1 := extract_extract s p n.toNat
          rw [Int.toNat_natCast]
          have e2 : (off : Int) + ((p + n.toNat : Nat) : Int) = (off : Int) + (p : Int) + (n.toNat : Int) := by omega
          show Rd w' g (s.extract (p + n.toNat) s.size) ((off : Int) + ((p + n.toNat : Nat) : Int)) none
          rw [e2, ← e1]
          exact hr'
  · have h0' : e0 ≠ 0 := h0
    have HS : tkN s.data.toList off (p, e0, pl) n true = ([], p, e0, pl) := by simp [tkN, h0']
    rw [HS]
    by_cases hn : n < 1 ∨ 8 < n
    · refine (num_range_noted n w hr hn).mono ?_
      rintro e w' ⟨rfl, rfl⟩
      exact ⟨by rw [hnil], ⟨_, hr, Or.inr ⟨h0, q, rfl, hq⟩⟩, World.grownBy.refl _ _⟩
    · refine (num_noted n w hr (by omega) (by omega)).mono ?_
      rintro e w' ⟨rfl, hr', hg⟩
      exact ⟨by rw [hnil], ⟨_, hr', Or.inr ⟨h0, q, rfl, hq.kept hg (by simp)⟩⟩, ⟨hg.os, hg.tape, hg.output, hg.size, fun k hk _ => hg.block k hk (by simp)⟩⟩

theorem fail_t {g : Nat} {s : ByteArray} {off : Nat} (st : RSt) (e1 x2 : Int) (he : e1 ≠ 0) (w : World) (h : RdT w g s off st) :
    Calls Tryz.prog 58 #[.pointer (some ⟨g, 0, none⟩), .int .i64 e1, .int .i64 x2] w fun e w' => e = .returned (.tuple #[]) ∧ RdT w' g s off (flR st e1 x2) ∧ w.grownBy w' (some g) := by
  obtain ⟨p, e0, pl⟩ := st
  obtain ⟨f, hr, hf⟩ := h
  rcases hf with ⟨h0, rfl⟩ | ⟨h0, q, rfl, hq⟩
  · have h0' : e0 = 0 := h0
    subst h0'
    have HS : flR (p, 0, pl) e1 x2 = (p, e1, x2) := by simp [flR]
    rw [HS]
    refine (fail_first e1 x2 w hr).mono ?_
    rintro e w' ⟨rfl, hr', hf', hg⟩
    exact ⟨rfl, ⟨_, hr', Or.inr ⟨he, _, rfl, hf'⟩⟩, hg⟩
  · have h0' : e0 ≠ 0 := h0
    have HS : flR (p, e0, pl) e1 x2 = (p, e0, pl) := by simp [flR, h0']
    rw [HS]
    refine (fail_noted e1 x2 w hr).mono ?_
    rintro e w' ⟨rfl, rfl⟩
    exact ⟨rfl, ⟨_, hr, Or.inr ⟨h0, q, rfl, hq⟩⟩, World.grownBy.refl _ _⟩

theorem err_t {g : Nat} {s : ByteArray} {off : Nat} (st : RSt) (w : World) (h : RdT w g s off st) (he : st.2.1 ≠ 0) :
    Calls Tryz.prog 36 #[.pointer (some ⟨g, 0, none⟩)] w fun r w' => r = .returned (.iface 112 (.pointer (some ⟨w.heap.size, 0, none⟩))) ∧ Flt w' w.heap.size st.2.1 st.2.2 ∧ Below w.heap.size w w' := by
  obtain ⟨f, hr, hf⟩ := h
  rcases hf with ⟨h0, rfl⟩ | ⟨h0, q, rfl, hq⟩
  · exact absurd h0 he
  · exact (err_some w hr hq).mono (by rintro e w' ⟨rfl, rfl⟩; exact ⟨rfl, heap_alloc_new _ _, (Below.refl _ _).alloc (Nat.le_refl _) _⟩)

theorem err_ok {g : Nat} {s : ByteArray} {off : Nat} (st : RSt) (w : World) (h : RdT w g s off st) (he : st.2.1 = 0) :
    Calls Tryz.prog 36 #[.pointer (some ⟨g, 0, none⟩)] w fun r w' => r = .returned .nilIface ∧ w = w' := by
  obtain ⟨f, hr, hf⟩ := h
  rcases hf with ⟨_, rfl⟩ | ⟨h0, _⟩
  · exact err_none w hr
  · exact absurd he h0

end Go.Proofs.YtdjljnpbnhampaaGreatDoor

namespace Go.Proofs.YtdjljnpbnhampaaGreatDoor
open Go.RowKit
attribute [local go_sem ↓] Go.wp_at_zero Go.wp_at_succ
set_option linter.unusedSimpArgs false
set_option linter.unusedVariables false
set_option maxRecDepth 100000

theorem grown_then {w w1 w2 : World} {r r' : Option Nat} (h1 : w.grownBy w1 r) (h2 : w1.grownBy w2 r') (h : ∀ k, k < w.heap.size → some k ≠ r → some k ≠ r') : w.grownBy w2 r :=
  ⟨h2.os.trans h1.os, h2.tape.trans h1.tape, h2.output.trans h1.output, Nat.le_trans h1.size h2.size, fun k hk hne => (h2.block k (Nat.lt_of_lt_of_le hk h1.size) (h k hk hne)).trans (h1.block k hk hne)⟩

theorem grown_same {w w1 w2 : World} {r : Option Nat} (h1 : w.grownBy w1 r) (h2 : w1.grownBy w2 r) : w.grownBy w2 r := grown_then h1 h2 (fun _ _ h => h)

theorem grown_own {w w1 w2 : World} {r : Option Nat} {B : Nat} (h1 : w.grownBy w1 r) (h2 : w1.grownBy w2 (some B)) (hB : w.heap.size ≤ B) : w.grownBy w2 r := grown_then h1 h2 (fun k hk _ e => by
  simp only [Option.some.injEq] at e
  omega)

theorem grown_belowT {w w1 w2 : World} {r : Option Nat} (h1 : w.grownBy w1 r) (h2 : Below w1.heap.size w1 w2) : w.grownBy w2 r :=
  ⟨h2.os.trans h1.os, h2.tape.trans h1.tape, h2.output.trans h1.output, Nat.le_trans h1.size h2.size, fun k hk hne => (h2.block k (Nat.lt_of_lt_of_le hk h1.size)).trans (h1.block k hk hne)⟩

theorem grown_belowA {B g : Nat} {a w w' : World} (h : Below B a w) (hg : w.grownBy w' (some g)) (hB : B ≤ w.heap.size) (hr : B ≤ g) : Below B a w' :=
  h.grown hg hB fun k e => by cases e; exact hr

theorem RdT.al {w : World} {g : Nat} {s : ByteArray} {off : Nat} {st : RSt} (h : RdT w g s off st) (o : Obj) : RdT (w.alloc o) g s off st := h.below ((Below.refl _ _).alloc (Nat.le_refl _) o)

theorem rdT_drew {w w1 : World} {r : Option Nat} (h : w.grownBy w1 r) : w.grownBy w1.drew r := ⟨h.os, h.tape, h.output, h.size, h.block⟩


end Go.Proofs.YtdjljnpbnhampaaGreatDoor

namespace Go.Proofs.YtdjljnpbnhampaaGreatDoor
open Go.RowKit
attribute [local go_sem ↓] Go.wp_at_zero Go.wp_at_succ
set_option linter.unusedSimpArgs false
set_option linter.unusedVariables false
set_option maxRecDepth 100000

set_option maxHeartbeats 1600000 in
theorem isPrio_any (x top step : Int) (hs : (step = 4096 ∧ top = 61440) ∨ (step = 16 ∧ top = 240)) (w : World) :
    Calls Tryz.prog 50 #[.int .i64 x, .int .i64 step] w fun e w' => e = .returned (.bool (prB x top step)) ∧ w = w' := by
  have HW : IntKind.i64.wrap (15 * step) = top := by rcases hs with ⟨rfl, rfl⟩ | ⟨rfl, rfl⟩ <;> decide
  have h0 : ¬ step = 0 := by rcases hs with ⟨rfl, rfl⟩ | ⟨rfl, rfl⟩ <;> decide
  have hp : 0 < step := by rcases hs with ⟨rfl, rfl⟩ | ⟨rfl, rfl⟩ <;> decide
  unfold prB
  by_cases c1 : 0 ≤ x
  · have d1 : decide (0 ≤ x) = true := decide_eq_true c1
    by_cases c2 : x ≤ top
    · have d2 : decide (x ≤ top) = true := decide_eq_true c2
      rw [d1, d2, Bool.true_and, Bool.true_and]
      go_enter Tryz.func50, Tryz.ntmps50
      go_wp2
      go_ret
      exact ⟨rfl, rfl⟩
    · have d2 : decide (x ≤ top) = false := decide_eq_false c2
      rw [d1, d2, Bool.true_and, Bool.false_and]
      go_enter Tryz.func50, Tryz.ntmps50
      go_wp2
      go_ret
      exact ⟨rfl, rfl⟩
  · have d1 : decide (0 ≤ x) = false := decide_eq_false c1
    rw [d1, Bool.false_and]
    go_enter Tryz.func50, Tryz.ntmps50
    go_wp2
    go_ret
    exact ⟨rfl, rfl⟩



set_option maxHeartbeats 1600000 in
theorem right_any (b : Br) (w : World) :
    Calls Tryz.prog 22 #[.agg (brC b)] w fun e w' => e = .returned (.bool (okB b)) ∧ Below w.heap.size w w' := by
  have HA := Blk.new w 27 (brC b)
  have B0 : Below w.heap.size w (w.alloc (.cells (brC b) 27)) := (Below.refl _ _).alloc (Nat.le_refl _) _
  have c0 := HA.cv 0 (.int .i64 b.p) rfl
  have c1 := HA.cv 1 (.int .i64 b.e) rfl
  have HI := Lib.hid (fun W => isPrio_any b.p 61440 4096 (by decide) W)
  have HR : okB b = (prB b.p 61440 4096 && (decide (0 ≤ b.e) && decide (b.e ≤ 4095))) := rfl
  rw [HR]
  generalize prB b.p 61440 4096 = z at *
  clear HR
  cases z with
  | false =>
    rw [Bool.false_and]
    go_enter Tryz.func22, Tryz.ntmps22
    go_upto_region 1 with (fail)
    generalize (w.alloc (.cells (brC b) 27)) = w1 at *
    go_wp2_with fail
    refine (HI.out _).mono ?_
    rintro e w2 ⟨rfl, rfl⟩
    go_wp2
    go_ret
    exact ⟨rfl, B0⟩
  | true =>
    rw [Bool.true_and]
    by_cases q1 : (0 : Int) ≤ b.e
    · have d1 : decide ((0 : Int) ≤ b.e) = true := decide_eq_true q1
      rw [d1, Bool.true_and]
      go_enter Tryz.func22, Tryz.ntmps22
      go_upto_region 1 with (fail)
      generalize (w.alloc (.cells (brC b) 27)) = w1 at *
      go_wp2_with fail
      refine (HI.out _).mono ?_
      rintro e w2 ⟨rfl, rfl⟩
      go_wp2
      go_ret
      exact ⟨rfl, B0⟩
    · have d1 : decide ((0 : Int) ≤ b.e) = false := decide_eq_false q1
      rw [d1, Bool.false_and]
      go_enter Tryz.func22, Tryz.ntmps22
      go_upto_region 1 with (fail)
      generalize (w.alloc (.cells (brC b) 27)) = w1 at *
      go_wp2_with fail
      refine (HI.out _).mono ?_
      rintro e w2 ⟨rfl, rfl⟩
      go_wp2
      go_ret
      exact ⟨rfl, B0⟩

set_option maxHeartbeats 1600000 in
theorem port_any (p n : Int) (w : World) :
    Calls Tryz.prog 72 #[.agg (ptC p n)] w fun e w' => e = .returned (.bool (okPt p n)) ∧ Below w.heap.size w w' := by
  have HA := Blk.new w 29 (ptC p n)
  have B0 : Below w.heap.size w (w.alloc (.cells (ptC p n) 29)) := (Below.refl _ _).alloc (Nat.le_refl _) _
  have c0 := HA.cv 0 (.int .i64 p) rfl
  have c1 := HA.cv 1 (.int .i64 n) rfl
  have HI := Lib.hid (fun W => isPrio_any p 240 16 (by decide) W)
  have HR : okPt p n = (prB p 240 16 && (decide (1 ≤ n) && decide (n ≤ 4095))) := rfl
  rw [HR]
  generalize prB p 240 16 = z at *
  clear HR
  cases z with
  | false =>
    rw [Bool.false_and]
    go_enter Tryz.func72, Tryz.ntmps72
    go_upto_region 1 with (fail)
    generalize (w.alloc (.cells (ptC p n) 29)) = w1 at *
    go_wp2_with fail
    refine (HI.out _).mono ?_
    rintro e w2 ⟨rfl, rfl⟩
    go_wp2
    go_ret
    exact ⟨rfl, B0⟩
  | true =>
    rw [Bool.true_and]
    by_cases q1 : (1 : Int) ≤ n
    · have d1 : decide ((1 : Int) ≤ n) = true := decide_eq_true q1
      rw [d1, Bool.true_and]
      go_enter Tryz.func72, Tryz.ntmps72
      go_upto_region 1 with (fail)
      generalize (w.alloc (.cells (ptC p n) 29)) = w1 at *
      go_wp2_with fail
      refine (HI.out _).mono ?_
      rintro e w2 ⟨rfl, rfl⟩
      go_wp2
      go_ret
      exact ⟨rfl, B0⟩
    · have d1 : decide ((1 : Int) ≤ n) = false := decide_eq_false q1
      rw [d1, Bool.false_and]
      go_enter Tryz.func72, Tryz.ntmps72
      go_upto_region 1 with (fail)
      generalize (w.alloc (.cells (ptC p n) 29)) = w1 at *
      go_wp2_with fail
      refine (HI.out _).mono ?_
      rintro e w2 ⟨rfl, rfl⟩
      go_wp2
      go_ret
      exact ⟨rfl, B0⟩





end Go.Proofs.YtdjljnpbnhampaaGreatDoor

namespace Go.Proofs.YtdjljnpbnhampaaGreatDoor
open Go.RowKit
attribute [local go_sem ↓] Go.wp_at_zero Go.wp_at_succ
set_option linter.unusedSimpArgs false
set_option linter.unusedVariables false
set_option maxRecDepth 100000

/-- What Num(2) and Bytes(6) find. -/
def rdN (l : List UInt8) (off : Nat) (st : RSt) : Nat := beN (tkN l off st 2 true).1

def rdS1 (l : List UInt8) (off : Nat) (st : RSt) : RSt := (tkN l off st 2 true).2

def rdA (l : List UInt8) (off : Nat) (st : RSt) : List UInt8 := (tkN l off (rdS1 l off st) 6 false).1

/-- The state behind a name, and the name. -/
def rdBs (l : List UInt8) (off : Nat) (st : RSt) : RSt := (tkN l off (rdS1 l off st) 6 false).2

def rdB (l : List UInt8) (off : Nat) (st : RSt) : Br := if (rdBs l off st).2.1 = 0 then ⟨(rdN l off st : Int) / 4096 * 4096, (rdN l off st : Int) % 4096, byX (rdA l off st)⟩ else zBr

theorem rdN_lt (l : List UInt8) (off : Nat) (st : RSt) : rdN l off st < 65536 := by
  unfold rdN
  have h := beN_lt (tkN l off st 2 true).1
  have q : (tkN l off st 2 true).1 = [] ∨ (tkN l off st 2 true).1.length = 2 := tkN_len l off st 2 true
  rcases q with q | q
  · rw [q]; decide
  · rw [q] at h; exact h

theorem rdA_ok (l : List UInt8) (off : Nat) (st : RSt) (h : (rdBs l off st).2.1 = 0) : (rdA l off st).length = 6 := by
  obtain ⟨h0, h1, h2⟩ := tkN_ok l off (rdS1 l off st) 6 false h
  unfold rdA
  rw [show ((6 : Int)) = ((6 : Nat) : Int) from rfl, h2]
  simp only [List.length_take, List.length_drop]
  omega

theorem rdA_bad (l : List UInt8) (off : Nat) (st : RSt) (h : ¬ (rdBs l off st).2.1 = 0) : rdA l off st = [] := by
  unfold rdBs at h
  unfold rdA
  by_cases h1 : (rdS1 l off st).2.1 = 0
  · by_cases h2 : (rdS1 l off st).1 + 6 ≤ l.length
    · have e := tkN_go l off (rdS1 l off st) 6 false h1 h2 (by simp)
      rw [show ((6 : Int)) = ((6 : Nat) : Int) from rfl, e] at h
      exact absurd h1 h
    · unfold tkN
      rw [if_neg (by simp [h1]), if_neg (by simp), if_pos (by omega)]
  · rw [tkN_bad l off _ 6 false h1]

theorem rdS1_le (l : List UInt8) (off : Nat) (st : RSt) (h : st.1 ≤ l.length) : (rdS1 l off st).1 ≤ l.length := tkN_le l off st 2 true h

theorem rdBs_le (l : List UInt8) (off : Nat) (st : RSt) (h : st.1 ≤ l.length) : (rdBs l off st).1 ≤ l.length := tkN_le l off _ 6 false (rdS1_le l off st h)

theorem byX_nil : brC ⟨0, 0, byX []⟩ = brC zBr := rfl

set_option maxHeartbeats 6400000 in
theorem prRead_t {g : Nat} {s : ByteArray} {off : Nat} (st : RSt) (w : World) (h : RdT w g s off st) (hp : st.1 ≤ s.size) (hb : off + s.size ≤ 281474976710656) :
    Calls Tryz.prog 34 #[.pointer (some ⟨g, 0, none⟩)] w fun e w' => e = .returned (.agg (brC (rdB s.data.toList off st))) ∧ RdT w' g s off (rdBs s.data.toList off st) ∧ w.grownBy w' (some g) := by
  have hls : s.data.toList.length = s.size := by simp
  have hg := h.lt
  have HP1 := rdS1_le s.data.toList off st (by rw [hls]; exact hp)
  have HP2 := rdBs_le s.data.toList off st (by rw [hls]; exact hp)
  rw [hls] at HP1 HP2
  have N1 := Lib.hid (fun W (h : RdT W g s off st) => num_t st 2 W h hp hb)
  have N2 := Lib.hid (fun W (h : RdT W g s off (rdS1 s.data.toList off st)) => bytes_t (rdS1 s.data.toList off st) 6 W h HP1 hb)
  have hN := rdN_lt s.data.toList off st
  have hnw : wrap64 (beN (tkN s.data.toList off st 2 true).1) = ((rdN s.data.toList off st : Nat) : Int) := by
    show wrap64 ((rdN s.data.toList off st : Nat) : Int) = _
    unfold wrap64
    omega
  have hAok := rdA_ok s.data.toList off st
  have hAbad := rdA_bad s.data.toList off st
  rw [hnw] at N1
  have e1 : (tkN s.data.toList off st 2 true).2 = rdS1 s.data.toList off st := rfl
  have e2 : (tkN s.data.toList off (rdS1 s.data.toList off st) 6 false).1 = rdA s.data.toList off st := rfl
  have e3 : (tkN s.data.toList off (rdS1 s.data.toList off st) 6 false).2 = rdBs s.data.toList off st := rfl
  rw [e1] at N1
  rw [e2, e3] at N2
  clear e1 e2 e3 hnw
  have hres : rdB s.data.toList off st = if (rdBs s.data.toList off st).2.1 = 0 then ⟨(rdN s.data.toList off st : Int) / 4096 * 4096, (rdN s.data.toList off st : Int) % 4096, byX (rdA s.data.toList off st)⟩ else zBr := rfl
  obtain ⟨r, hr⟩ : ∃ r, r = rdB s.data.toList off st := ⟨_, rfl⟩
  rw [← hr]
  rw [hres] at hr
  clear hres
  have HR := Lib.hid hr
  clear hr
  generalize rdN s.data.toList off st = n at *
  generalize rdS1 s.data.toList off st = s1 at *
  generalize rdA s.data.toList off st = t at *
  generalize rdBs s.data.toList off st = s2 at *
  have R1 := Blk.new w 27 (brC zBr)
  have H1 := h.al (.cells (brC zBr) 27)
  have G1 : w.grownBy (w.alloc (.cells (brC zBr) 27)) (some g) := World.grownBy_alloc w _ _
  go_enter Tryz.func34, Tryz.ntmps34
  go_wp2_with (refine alloc_blk 27 (brC zBr) (by rfl) rfl Tryz.brZero ?_)
  generalize w.alloc (.cells (brC zBr) 27) = w1 at *
  refine (N1.out _ H1).mono ?_
  rintro e w2 ⟨rfl, H2, g2⟩
  have R2 := R1.grown g2 (by simp; omega)
  have G2 := grown_same G1 g2
  have lt2 : w.heap.size < w2.heap.size := R2.lt
  clear R1 H1 G1 g2
  have B0 : ∃ b, b = (⟨(n : Int) / 4096 * 4096, (n : Int) % 4096, z6⟩ : Br) := ⟨_, rfl⟩
  go_upto_region 3 with (first
    | (refine build_blk (t := 27) (brC ⟨(n : Int) / 4096 * 4096, (n : Int) % 4096, z6⟩) (by rfl) rfl (by kernel_rfl) ?_)
    | (refine alloc_blk 27 (brC zBr) (by rfl) rfl Tryz.brZero ?_)
    | (refine store_blk (k := 0) 27 (.agg (brC ⟨(n : Int) / 4096 * 4096, (n : Int) % 4096, z6⟩)) (brC ⟨(n : Int) / 4096 * 4096, (n : Int) % 4096, z6⟩) (by rfl) rfl rfl rfl (Blk.new w2 _ _) (by kernel_rfl) (show (8 : Nat) ≤ 8 from Nat.le_refl 8) (by rfl) (st_whole _ _ rfl) ?_; intro w3 V3 b3 g3; have R3 := (R2.alloc (.cells (brC zBr) 27)).below b3 lt2; have H3 := (H2.al (.cells (brC zBr) 27)).other (Blk.new w2 _ _) (by decide) (by decide) g3; have G3 := grown_own (grown_same G2 (World.grownBy_alloc w2 (.cells (brC zBr) 27) (some g))) g3 (by omega)))
  (try simp only [Act.put, List.setIfInBounds_toArray, List.set_cons_zero, List.set_cons_succ])
  generalize w2.heap.size = A at *
  have lt3 : A < w3.heap.size := V3.lt
  clear R2 H2 G2 b3 g3
  by_cases c : s2.2.1 = 0
  · rw [if_pos c] at HR
    have HL := Lib.hid (hAok c)
    clear hAok hAbad
    refine wp_region_noPanic ?_
    refine wp_region_held_drew (S := (fun w' => Blk w' w.heap.size 27 (brC zBr))) (by kernel_rfl) ?_ (fun hHeld => ?_)
    · exact R3
    refine wpAnyH_take (i := 0) (v := ?_) rfl (by kernel_rfl) (by kernel_rfl) (by kernel_rfl) (fun _ _ _ h => h) (Or.inl ⟨by rfl, ?_⟩) (by assumption) ?_
    rotate_left
    · (intro w hSw; (try dsimp only at hSw); go_simp; (try with_reducible rfl))
    (try simp only [Act.put, List.getElem_toArray, List.getElem_cons_zero, List.getElem_cons_succ, List.setIfInBounds_toArray, List.set_cons_zero, List.set_cons_succ])
    refine wpAnyH_take (i := 1) (v := ?_) rfl (by kernel_rfl) (by kernel_rfl) (by kernel_rfl) (fun _ _ _ h => h) (Or.inl ⟨by rfl, ?_⟩) (by assumption) ?_
    rotate_left
    · (intro w hSw; (try dsimp only at hSw); go_simp; (try with_reducible rfl))
    (try simp only [Act.put, List.getElem_toArray, List.getElem_cons_zero, List.getElem_cons_succ, List.setIfInBounds_toArray, List.set_cons_zero, List.set_cons_succ])
    refine wpAnyH_take (i := 2) (v := ?_) rfl (by kernel_rfl) (by kernel_rfl) (by kernel_rfl) (fun _ _ _ h => h) (Or.inl ⟨by rfl, ?_⟩) (by assumption) ?_
    rotate_left
    · (intro w hSw; (try dsimp only at hSw); go_simp; (try with_reducible rfl))
    (try simp only [Act.put, List.getElem_toArray, List.getElem_cons_zero, List.getElem_cons_succ, List.setIfInBounds_toArray, List.set_cons_zero, List.set_cons_succ])
    refine wpAnyH_ready (rs := [3]) (by kernel_rfl) (by simp) ?_
    refine AllReadyH.cons rfl (fun K hK => ?_) AllReadyH.nil
    simp only [List.getElem_toArray, List.getElem_cons_zero, List.getElem_cons_succ]
    go_simp
    with_reducible refine (N2.out _ H3.drew).mono ?_
    rintro e w4 ⟨rfl, H4, g4⟩
    have V4 := V3.drew.grown g4 (by simp; omega)
    have R4 := R3.drew.grown g4 (by simp; omega)
    have G4 := grown_same (rdT_drew G3) g4
    refine hK.out _ _ ?_ (fun hHeld => ?_)
    · exact R4
    clear hK K
    (try simp only [Act.put, List.getElem_toArray, List.getElem_cons_zero, List.getElem_cons_succ, List.setIfInBounds_toArray, List.set_cons_zero, List.set_cons_succ])
    refine wpAnyH_ready (rs := [4]) (by kernel_rfl) (by simp) ?_
    refine AllReadyH.cons rfl (fun K hK => ?_) AllReadyH.nil
    simp only [List.getElem_toArray, List.getElem_cons_zero, List.getElem_cons_succ]
    rw [if_pos (by rfl)]
    refine wp_copy_text ⟨t.toArray⟩ (brC ⟨(n : Int) / 4096 * 4096, (n : Int) % 4096, byX t⟩) 5 rfl rfl rfl V4 Tryz.underlying51 (by kernel_rfl) (by simp [ByteArray.size, HL.out]) (by simp [ByteArray.size, HL.out, brC]) ?_ (fun w5 V5 b5 g5 => ?_)
    · rw [byX_c6 t HL.out]; simp [ByteArray.size, HL.out, brC, c6]
    have H5 := H4.other V4 (by decide) (by decide) g5
    have R5 := R4.grown g5 (by simp; omega)
    have G5 := grown_own G4 g5 (by omega)
    refine hK.out _ _ ?_ (fun hHeld => ?_)
    · exact R5
    clear hK K
    (try simp only [Act.put, List.getElem_toArray, List.getElem_cons_zero, List.getElem_cons_succ, List.setIfInBounds_toArray, List.set_cons_zero, List.set_cons_succ])
    refine wpAnyH_done (by kernel_rfl) ?_ _
    refine NoPanic.normal ?_
    clear V4 R4 G4 H4 b5 g5 V3 R3 G3 H3 g4
    go_wp2_with fail
    refine (err_ok s2 _ H5 c).mono ?_
    rintro e w6 ⟨rfl, rfl⟩
    go_wp2_with (first
      | (refine load_blk (k := 0) 27 (brC ⟨(n : Int) / 4096 * 4096, (n : Int) % 4096, byX t⟩) (by rfl) rfl rfl V5 (by kernel_rfl) (by kernel_rfl) rfl ?_)
      | (refine store_blk (k := 0) 27 (.agg (brC ⟨(n : Int) / 4096 * 4096, (n : Int) % 4096, byX t⟩)) (brC ⟨(n : Int) / 4096 * 4096, (n : Int) % 4096, byX t⟩) (by rfl) rfl rfl rfl R5 (by kernel_rfl) (show (8 : Nat) ≤ 8 from Nat.le_refl 8) (by rfl) (st_whole _ _ rfl) ?_; intro w7 R7 b7 g7; have H7 := H5.other R5 (by decide) (by decide) g7; have G7 := grown_own G5 g7 (Nat.le_refl _)))
    exact bodyPost_ret (results_blk rfl rfl R7 (by kernel_rfl) (by kernel_rfl)) rfl ⟨by rw [HR.out], H7, G7⟩
  · rw [if_neg c] at HR
    have ht := hAbad c
    subst ht
    clear hAok hAbad
    refine wp_region_noPanic ?_
    refine wp_region_held_drew (S := (fun w' => Blk w' w.heap.size 27 (brC zBr))) (by kernel_rfl) ?_ (fun hHeld => ?_)
    · exact R3
    refine wpAnyH_take (i := 0) (v := ?_) rfl (by kernel_rfl) (by kernel_rfl) (by kernel_rfl) (fun _ _ _ h => h) (Or.inl ⟨by rfl, ?_⟩) (by assumption) ?_
    rotate_left
    · (intro w hSw; (try dsimp only at hSw); go_simp; (try with_reducible rfl))
    (try simp only [Act.put, List.getElem_toArray, List.getElem_cons_zero, List.getElem_cons_succ, List.setIfInBounds_toArray, List.set_cons_zero, List.set_cons_succ])
    refine wpAnyH_take (i := 1) (v := ?_) rfl (by kernel_rfl) (by kernel_rfl) (by kernel_rfl) (fun _ _ _ h => h) (Or.inl ⟨by rfl, ?_⟩) (by assumption) ?_
    rotate_left
    · (intro w hSw; (try dsimp only at hSw); go_simp; (try with_reducible rfl))
    (try simp only [Act.put, List.getElem_toArray, List.getElem_cons_zero, List.getElem_cons_succ, List.setIfInBounds_toArray, List.set_cons_zero, List.set_cons_succ])
    refine wpAnyH_take (i := 2) (v := ?_) rfl (by kernel_rfl) (by kernel_rfl) (by kernel_rfl) (fun _ _ _ h => h) (Or.inl ⟨by rfl, ?_⟩) (by assumption) ?_
    rotate_left
    · (intro w hSw; (try dsimp only at hSw); go_simp; (try with_reducible rfl))
    (try simp only [Act.put, List.getElem_toArray, List.getElem_cons_zero, List.getElem_cons_succ, List.setIfInBounds_toArray, List.set_cons_zero, List.set_cons_succ])
    refine wpAnyH_ready (rs := [3]) (by kernel_rfl) (by simp) ?_
    refine AllReadyH.cons rfl (fun K hK => ?_) AllReadyH.nil
    simp only [List.getElem_toArray, List.getElem_cons_zero, List.getElem_cons_succ]
    go_simp
    with_reducible refine (N2.out _ H3.drew).mono ?_
    rintro e w4 ⟨rfl, H4, g4⟩
    have V4 := V3.drew.grown g4 (by simp; omega)
    have R4 := R3.drew.grown g4 (by simp; omega)
    have G4 := grown_same (rdT_drew G3) g4
    refine hK.out _ _ ?_ (fun hHeld => ?_)
    · exact R4
    clear hK K
    (try simp only [Act.put, List.getElem_toArray, List.getElem_cons_zero, List.getElem_cons_succ, List.setIfInBounds_toArray, List.set_cons_zero, List.set_cons_succ])
    refine wpAnyH_ready (rs := [4]) (by kernel_rfl) (by simp) ?_
    refine AllReadyH.cons rfl (fun K hK => ?_) AllReadyH.nil
    simp only [List.getElem_toArray, List.getElem_cons_zero, List.getElem_cons_succ]
    rw [if_pos (by rfl)]
    refine wp_copy_text ⟨#[]⟩ (brC ⟨(n : Int) / 4096 * 4096, (n : Int) % 4096, z6⟩) 5 rfl rfl rfl V4 Tryz.underlying51 (by kernel_rfl) (by decide) (by simp [ByteArray.size, brC]) ?_ (fun w5 V5 b5 g5 => ?_)
    · simp [ByteArray.size, brC, Lib.byteCells]
    have H5 := H4.other V4 (by decide) (by decide) g5
    have R5 := R4.grown g5 (by simp; omega)
    have G5 := grown_own G4 g5 (by omega)
    refine hK.out _ _ ?_ (fun hHeld => ?_)
    · exact R5
    clear hK K
    (try simp only [Act.put, List.getElem_toArray, List.getElem_cons_zero, List.getElem_cons_succ, List.setIfInBounds_toArray, List.set_cons_zero, List.set_cons_succ])
    refine wpAnyH_done (by kernel_rfl) ?_ _
    refine NoPanic.normal ?_
    clear V4 R4 G4 H4 b5 g5 V3 R3 G3 H3 g4
    go_wp2_with fail
    refine (err_t s2 _ H5 c).mono ?_
    rintro e w6 ⟨rfl, hf6, k6⟩
    have H6 := H5.below k6
    have R6 := R5.kept k6
    have G6 := grown_belowT G5 k6
    go_wp2_with (first
      | (refine build_blk (t := 27) (brC zBr) (by rfl) rfl (by kernel_rfl) ?_)
      | (refine store_blk (k := 0) 27 (.agg (brC zBr)) (brC zBr) (by rfl) rfl rfl rfl R6 (by kernel_rfl) (show (8 : Nat) ≤ 8 from Nat.le_refl 8) (by rfl) (st_whole _ _ rfl) ?_; intro w7 R7 b7 g7; have H7 := H6.other R6 (by decide) (by decide) g7; have G7 := grown_own G6 g7 (Nat.le_refl _)))
    exact bodyPost_ret (results_blk rfl rfl R7 (by kernel_rfl) (by kernel_rfl)) rfl ⟨by rw [HR.out], H7, G7⟩

end Go.Proofs.YtdjljnpbnhampaaGreatDoor

namespace Go.Proofs.YtdjljnpbnhampaaGreatDoor
open Go.RowKit
attribute [local go_sem ↓] Go.wp_at_zero Go.wp_at_succ
set_option linter.unusedSimpArgs false
set_option linter.unusedVariables false
set_option maxRecDepth 100000

theorem Tryz.ptZero : (Tryz.prog.info? 29).map (·.zero) = some (some (.agg (ptC 0 0))) := by kernel_rfl

theorem at_t {g : Nat} {s : ByteArray} {off : Nat} (st : RSt) (w : World) (h : RdT w g s off st) :
    Calls Tryz.prog 61 #[.pointer (some ⟨g, 0, none⟩)] w fun e w' => e = .returned (.int .i64 ((off : Int) + (st.1 : Int))) ∧ w = w' := by
  obtain ⟨f, hr, hf⟩ := h
  exact at_any w hr

/-- The state behind a port's name, and the name. -/
def rpSt (l : List UInt8) (off : Nat) (st : RSt) : RSt := if rdN l off st % 4096 = 0 then flR (rdS1 l off st) 2 ((off : Int) + (st.1 : Int)) else rdS1 l off st

def rpC (l : List UInt8) (off : Nat) (st : RSt) : Array Value := if rdN l off st % 4096 = 0 then ptC 0 0 else ptC ((rdN l off st : Int) / 4096 * 16) ((rdN l off st : Int) % 4096)

theorem rdN_bad (l : List UInt8) (off : Nat) (st : RSt) (h : ¬ (rdS1 l off st).2.1 = 0) : rdN l off st = 0 := by
  unfold rdS1 at h
  unfold rdN
  by_cases h1 : st.2.1 = 0
  · by_cases h2 : st.1 + 2 ≤ l.length
    · have e := tkN_go l off st 2 true h1 h2 (by simp)
      rw [show ((2 : Int)) = ((2 : Nat) : Int) from rfl, e] at h
      exact absurd h1 h
    · unfold tkN
      rw [if_neg (by simp [h1]), if_neg (by simp), if_pos (by omega)]
      rfl
  · rw [tkN_bad l off st 2 true h1]
    rfl

theorem rpSt_le (l : List UInt8) (off : Nat) (st : RSt) (h : st.1 ≤ l.length) : (rpSt l off st).1 ≤ l.length := by
  unfold rpSt
  split
  · exact flR_le l _ _ _ (rdS1_le l off st h)
  · exact rdS1_le l off st h

set_option maxHeartbeats 6400000 in
theorem prReadPort_t {g : Nat} {s : ByteArray} {off : Nat} (st : RSt) (w : World) (h : RdT w g s off st) (hp : st.1 ≤ s.size) (hb : off + s.size ≤ 281474976710656) :
    Calls Tryz.prog 60 #[.pointer (some ⟨g, 0, none⟩)] w fun e w' => e = .returned (.agg (rpC s.data.toList off st)) ∧ RdT w' g s off (rpSt s.data.toList off st) ∧ w.grownBy w' (some g) := by
  have hls : s.data.toList.length = s.size := by simp
  have hg := h.lt
  have N0 := Lib.hid (fun W (h : RdT W g s off st) => at_t st W h)
  have N1 := Lib.hid (fun W (h : RdT W g s off st) => num_t st 2 W h hp hb)
  have hN := rdN_lt s.data.toList off st
  have hNb := rdN_bad s.data.toList off st
  have hnw : wrap64 (beN (tkN s.data.toList off st 2 true).1) = ((rdN s.data.toList off st : Nat) : Int) := by
    show wrap64 ((rdN s.data.toList off st : Nat) : Int) = _
    unfold wrap64
    omega
  rw [hnw] at N1
  have e1 : (tkN s.data.toList off st 2 true).2 = rdS1 s.data.toList off st := rfl
  rw [e1] at N1
  clear e1 hnw
  unfold rpC rpSt
  generalize rdN s.data.toList off st = n at *
  generalize rdS1 s.data.toList off st = s1 at *
  generalize (off : Int) + (st.1 : Int) = pl at *
  have q4 : IntKind.i64.wrap ((n : Int) / 4096 * 16) = (n : Int) / 4096 * 16 := by rw [IntKind.wrap_i64]; omega
  have R1 := Blk.new w 29 (ptC 0 0)
  have H1 := h.al (.cells (ptC 0 0) 29)
  have G1 : w.grownBy (w.alloc (.cells (ptC 0 0) 29)) (some g) := World.grownBy_alloc w _ _
  have lt1 : w.heap.size < (w.alloc (.cells (ptC 0 0) 29)).heap.size := by simp
  by_cases c : n % 4096 = 0
  · rw [if_pos c, if_pos c]
    have c1 : ((n : Int) % 4096 == 0) = true := by rw [beq_iff_eq]; omega
    clear hNb
    go_enter Tryz.func60, Tryz.ntmps60
    go_wp2_with (refine alloc_blk 29 (ptC 0 0) (by rfl) rfl Tryz.ptZero ?_)
    generalize w.alloc (.cells (ptC 0 0) 29) = w1 at *
    refine (N0.out _ H1).mono ?_
    rintro e w1' ⟨rfl, rfl⟩
    go_wp2_with fail
    refine (N1.out _ H1).mono ?_
    rintro e w2 ⟨rfl, H2, g2⟩
    have R2 := R1.grown g2 (by simp; omega)
    have G2 := grown_same G1 g2
    have lt2 : w.heap.size < w2.heap.size := R2.lt
    clear R1 H1 G1 g2 lt1
    go_upto_region 4 with (first
      | (refine build_blk (t := 29) (ptC ((n : Int) / 4096 * 16) ((n : Int) % 4096)) (by rfl) rfl (by kernel_rfl) ?_)
      | (refine alloc_blk 29 (ptC 0 0) (by rfl) rfl Tryz.ptZero ?_)
      | (refine store_blk (k := 0) 29 (.agg (ptC ((n : Int) / 4096 * 16) ((n : Int) % 4096))) (ptC ((n : Int) / 4096 * 16) ((n : Int) % 4096)) (by rfl) rfl rfl rfl (Blk.new w2 _ _) (by kernel_rfl) (show (2 : Nat) ≤ 2 from Nat.le_refl 2) (by rfl) (st_whole _ _ rfl) ?_; intro w3 V3 b3 g3; have R3 := (R2.alloc (.cells (ptC 0 0) 29)).below b3 lt2; have H3 := (H2.al (.cells (ptC 0 0) 29)).other (Blk.new w2 _ _) (by decide) (by decide) g3; have G3 := grown_own (grown_same G2 (World.grownBy_alloc w2 (.cells (ptC 0 0) 29) (some g))) g3 (by omega)))
    (try simp only [Act.put, List.setIfInBounds_toArray, List.set_cons_zero, List.set_cons_succ])
    generalize w2.heap.size = A at *
    have lt3 : A < w3.heap.size := V3.lt
    have v1 := V3.cv 1 (.int .i64 ((n : Int) % 4096)) rfl
    clear R2 H2 G2 b3 g3
    go_wp2_with fail
    refine (fail_t s1 2 pl (by decide) _ H3).mono ?_
    rintro e w4 ⟨rfl, H4, g4⟩
    have R4 := R3.grown g4 (by simp; omega)
    have G4 := grown_same G3 g4
    clear R3 H3 G3 g4 v1
    go_wp2_with fail
    refine (err_t _ _ H4 (flR_ne s1 2 pl (by decide))).mono ?_
    rintro e w6 ⟨rfl, hf6, k6⟩
    have H6 := H4.below k6
    have R6 := R4.kept k6
    have G6 := grown_belowT G4 k6
    go_wp2_with (first
      | (refine build_blk (t := 29) (ptC 0 0) (by rfl) rfl (by kernel_rfl) ?_)
      | (refine store_blk (k := 0) 29 (.agg (ptC 0 0)) (ptC 0 0) (by rfl) rfl rfl rfl R6 (by kernel_rfl) (show (2 : Nat) ≤ 2 from Nat.le_refl 2) (by rfl) (st_whole _ _ rfl) ?_; intro w7 R7 b7 g7; have H7 := H6.other R6 (by decide) (by decide) g7; have G7 := grown_own G6 g7 (Nat.le_refl _)))
    exact bodyPost_ret (results_blk rfl rfl R7 (by kernel_rfl) (by kernel_rfl)) rfl ⟨rfl, H7, G7⟩
  · rw [if_neg c, if_neg c]
    have c1 : ((n : Int) % 4096 == 0) = false := by rw [beq_eq_false_iff_ne]; omega
    have hs0 : s1.2.1 = 0 := by
      by_cases hs : s1.2.1 = 0
      · exact hs
      · exact absurd (by rw [hNb hs]) c
    clear hNb
    go_enter Tryz.func60, Tryz.ntmps60
    go_wp2_with (refine alloc_blk 29 (ptC 0 0) (by rfl) rfl Tryz.ptZero ?_)
    generalize w.alloc (.cells (ptC 0 0) 29) = w1 at *
    refine (N0.out _ H1).mono ?_
    rintro e w1' ⟨rfl, rfl⟩
    go_wp2_with fail
    refine (N1.out _ H1).mono ?_
    rintro e w2 ⟨rfl, H2, g2⟩
    have R2 := R1.grown g2 (by simp; omega)
    have G2 := grown_same G1 g2
    have lt2 : w.heap.size < w2.heap.size := R2.lt
    clear R1 H1 G1 g2 lt1
    go_upto_region 4 with (first
      | (refine build_blk (t := 29) (ptC ((n : Int) / 4096 * 16) ((n : Int) % 4096)) (by rfl) rfl (by kernel_rfl) ?_)
      | (refine alloc_blk 29 (ptC 0 0) (by rfl) rfl Tryz.ptZero ?_)
      | (refine store_blk (k := 0) 29 (.agg (ptC ((n : Int) / 4096 * 16) ((n : Int) % 4096))) (ptC ((n : Int) / 4096 * 16) ((n : Int) % 4096)) (by rfl) rfl rfl rfl (Blk.new w2 _ _) (by kernel_rfl) (show (2 : Nat) ≤ 2 from Nat.le_refl 2) (by rfl) (st_whole _ _ rfl) ?_; intro w3 V3 b3 g3; have R3 := (R2.alloc (.cells (ptC 0 0) 29)).below b3 lt2; have H3 := (H2.al (.cells (ptC 0 0) 29)).other (Blk.new w2 _ _) (by decide) (by decide) g3; have G3 := grown_own (grown_same G2 (World.grownBy_alloc w2 (.cells (ptC 0 0) 29) (some g))) g3 (by omega)))
    (try simp only [Act.put, List.setIfInBounds_toArray, List.set_cons_zero, List.set_cons_succ])
    generalize w2.heap.size = A at *
    have lt3 : A < w3.heap.size := V3.lt
    have v1 := V3.cv 1 (.int .i64 ((n : Int) % 4096)) rfl
    clear R2 H2 G2 b3 g3
    go_wp2_with fail
    refine (err_ok s1 _ H3 hs0).mono ?_
    rintro e w6 ⟨rfl, rfl⟩
    go_wp2_with (first
      | (refine load_blk (k := 0) 29 (ptC ((n : Int) / 4096 * 16) ((n : Int) % 4096)) (by rfl) rfl rfl V3 (by kernel_rfl) (by kernel_rfl) rfl ?_)
      | (refine store_blk (k := 0) 29 (.agg (ptC ((n : Int) / 4096 * 16) ((n : Int) % 4096))) (ptC ((n : Int) / 4096 * 16) ((n : Int) % 4096)) (by rfl) rfl rfl rfl R3 (by kernel_rfl) (show (2 : Nat) ≤ 2 from Nat.le_refl 2) (by rfl) (st_whole _ _ rfl) ?_; intro w7 R7 b7 g7; have H7 := H3.other R3 (by decide) (by decide) g7; have G7 := grown_own G3 g7 (Nat.le_refl _)))
    exact bodyPost_ret (results_blk rfl rfl R7 (by kernel_rfl) (by kernel_rfl)) rfl ⟨rfl, H7, G7⟩

end Go.Proofs.YtdjljnpbnhampaaGreatDoor

namespace Go.Proofs.YtdjljnpbnhampaaGreatDoor
open Go.RowKit
attribute [local go_sem ↓] Go.wp_at_zero Go.wp_at_succ
set_option linter.unusedSimpArgs false
set_option linter.unusedVariables false
set_option maxRecDepth 100000

theorem flags_any (f : Fl) (w : World) :
    Calls Tryz.prog 46 #[.agg (flC f)] w fun e w' => e = .returned (.bool (okF f)) ∧ Below w.heap.size w w' := by
  have HA := Blk.new w 23 (flC f)
  have B0 : Below w.heap.size w (w.alloc (.cells (flC f) 23)) := (Below.refl _ _).alloc (Nat.le_refl _) _
  have c2 := HA.cv 2 (.int .i64 f.ro) rfl
  unfold okF
  by_cases q0 : (0 : Int) ≤ f.ro
  · have d0 : decide ((0 : Int) ≤ f.ro) = true := decide_eq_true q0
    rw [d0, Bool.true_and]
    go_enter Tryz.func46, Tryz.ntmps46
    go_upto_region 1 with (fail)
    generalize (w.alloc (.cells (flC f) 23)) = w1 at *
    go_wp2
    go_ret
    exact ⟨rfl, B0⟩
  · have d0 : decide ((0 : Int) ≤ f.ro) = false := decide_eq_false q0
    rw [d0, Bool.false_and]
    go_enter Tryz.func46, Tryz.ntmps46
    go_upto_region 1 with (fail)
    generalize (w.alloc (.cells (flC f) 23)) = w1 at *
    go_wp2
    go_ret
    exact ⟨rfl, B0⟩

theorem ofConfig_any (f : Fl) (w : World) :
    Calls Tryz.prog 47 #[.agg (flC f)] w fun e w' => e = .returned (.agg (flC (cfF f))) ∧ Below w.heap.size w w' := by
  obtain ⟨HA, HB, B0⟩ := two_blks w 23 23 (flC f) (flC zFl)
  have c0 := HA.cv 0 (.bool f.ch) rfl
  have c6 := HA.cv 6 (.bool f.ac) rfl
  go_enter Tryz.func47, Tryz.ntmps47
  go_upto_region 1 with (refine alloc_blk 23 (flC zFl) (by rfl) rfl Tryz.flZero ?_)
  generalize ((w.alloc (.cells (flC f) 23)).alloc (.cells (flC zFl) 23)) = w1 at *
  go_wp2_with (first
    | (refine build_blk (t := 23) (flC (cfF f)) (by rfl) rfl (by kernel_rfl) ?_)
    | (refine store_blk (k := 0) 23 (.agg (flC (cfF f))) (flC (cfF f)) (by rfl) rfl rfl rfl HB (by kernel_rfl) (show (7 : Nat) ≤ 7 from Nat.le_refl 7) (by rfl) (st_whole _ _ rfl) ?_; intro w7 R7 b7 g7))
  exact bodyPost_ret (results_blk rfl rfl R7 (by kernel_rfl) (by kernel_rfl)) rfl ⟨rfl, B0.trans (b7.mono (by simp))⟩

/-- A number in a cell of its own. -/
def One (w : World) (B : Nat) (n : Int) : Prop := Blk w B 3 #[.int .i64 n]

theorem and1 : ∀ y : Nat, y < 256 → bits .and .i64 (y : Int) 1 = ((y % 2 : Nat) : Int) := by decide +kernel

theorem and3 : ∀ y : Nat, y < 256 → bits .and .i64 (y : Int) 3 = ((y % 4 : Nat) : Int) := by decide +kernel

theorem cast_one (a : Nat) : (((a % 2 : Nat) : Int) == 1) = (a % 2 == 1) := by
  rcases Nat.mod_two_eq_zero_or_one a with h | h <;> rw [h] <;> rfl

/-- A bit, as the code takes it. -/
theorem bit_code (B : Nat) (n i : Nat) (hn : n < 256) (hi : i ≤ 7) (w : World) (h : One w B n) :
    Calls Tryz.prog 77 #[.int .i64 i, .pointer (some ⟨B, 0, none⟩)] w fun e w' => e = .returned (.bool (n / 2 ^ i % 2 == 1)) ∧ w = w' := by
  have c0 := h.cv 0 (.int .i64 n) rfl
  have HB : Hid ((bits BinOp.and IntKind.i64 ((n : Int) / 2 ^ i) 1 == 1) = (n / 2 ^ i % 2 == 1)) := by
    show _ = _
    have e : ((n : Int) / 2 ^ i) = ((n / 2 ^ i : Nat) : Int) := by simp
    rw [e, and1 _ (Nat.lt_of_le_of_lt (Nat.div_le_self _ _) hn), cast_one]
  go_enter Tryz.func77, Tryz.ntmps77
  go_wp2
  go_ret
  refine ⟨?_, rfl⟩
  show Ending.returned (.bool (bits BinOp.and IntKind.i64 ((n : Int) / 2 ^ i) 1 == 1)) = _
  rw [HB.out]



end Go.Proofs.YtdjljnpbnhampaaGreatDoor

namespace Go.Proofs.YtdjljnpbnhampaaGreatDoor
open Go.RowKit
attribute [local go_sem ↓] Go.wp_at_zero Go.wp_at_succ
set_option linter.unusedSimpArgs false
set_option linter.unusedVariables false
set_option maxRecDepth 100000

theorem wp_store_op {P : Program} {o : Oper} {a : Act} {w : World} {K : Act → World → Prop} {Q : Exit → Act → World → Prop} {p x : Operand} {B k : Nat} {T : TypeId} {C : Array Value} (t : TypeId) (v : Value) (C' : Array Value) (ho : o.op = .store t p x)
    (hp : a.eval p = .pointer (some ⟨B, k, none⟩)) (hx : a.eval x = v) (hB : Blk w B T C) (hn : (P.info? t).map (·.size) = some v.cells.size) (hk : k + v.cells.toList.length ≤ C.size) (h1 : v.cells.toList.all (·.oneCell') = true)
    (hC : (C.toList.take k ++ v.cells.toList ++ C.toList.drop (k + v.cells.toList.length)).toArray = C')
    (hK : ∀ w', Blk w' B T C' → Below B w w' → w.grownBy w' (some B) → K (a.put o.dst undef) w') : Oper.wp P o a w K Q := by
  have h3 := run_store_blk (P := P) w B k T t C C' v hB hn hk h1 hC
  have hFr := hB.setRow C'
  have hbl : Below B w (w.setRow B C') := below_setRow (Below.refl _ _) (Nat.le_refl _) _
  have hg : w.grownBy (w.setRow B C') (some B) := ⟨rfl, rfl, rfl, by simp, fun j _ hj => setRow_other w B j C' (by intro e; subst e; exact hj rfl)⟩
  unfold Oper.wp execOp
  simp only [ho, hp, hx, Instr.storeAt, Instr.sureAddr, Sem.run_bind, Sem.run_pure, Result.andThen_ok, h3]
  exact hK _ hFr hbl hg

theorem run_index_arr {P : Program} (w : World) (t e : TypeId) (n k : Nat) (X : Array Value) (v : Value) (ht : P.underlying t = some (.array n e)) (hs : (P.info? e).map (·.size) = some 1) (hk : k < n)
    (hu : (match P.underlying e with | some (.struct _) | some (.array _ _) => true | some _ => false | none => true) = false) (hv : X[k]? = some v) : (Instr.index t (.agg X) (.int .i64 k)).run P w = .ok v w := by
  have h1 := run_part_one (P := P) w e X (k * 1) v hu (by rw [Nat.mul_one]; exact hv)
  cases hq : P.info? e with
  | none => simp [hq] at hs
  | some i =>
    have hs' : i.size = 1 := by simpa [hq] using hs
    have hk' : (0 : Int) ≤ (k : Int) ∧ (k : Int) < (n : Int) := by omega
    rw [Nat.mul_one] at h1
    simp only [Instr.index, asIntOf, Sem.run_bind, Sem.run_pure, run_underlying ht, Result.andThen_ok, if_pos hk', Int.toNat_natCast, sizeOf, typeInfo, hq, hs', h1]
    simp [hq, hs', h1]

theorem index_blk {P : Program} {ops : Array Oper} {rest : List Oper} {o : Oper} {a : Act} {w : World} {Q : Exit → Act → World → Prop} {x i : Operand} {t : TypeId} {k : Nat} (X : Array Value) (v : Value) (hw : Region.wanted o (yielded ops a.tmps) = true) (ho : o.op = .index t x i)
    (hx : a.eval x = .agg X) (hi : a.eval i = .int .i64 k) (hr : (Instr.index t (.agg X) (.int .i64 k)).run P w = .ok v w) (h : wpList P ops Q rest (a.put o.dst v) w) : wpList P ops Q (o :: rest) a w :=
  wpList_step fun K hK => by
    rw [if_pos hw]
    unfold Oper.wp execOp
    simp only [ho, hx, hi, Sem.run_bind, Sem.run_pure, Result.andThen_ok, hr]
    exact hK _ _ h

theorem wp_load_op {P : Program} {o : Oper} {a : Act} {w : World} {K : Act → World → Prop} {Q : Exit → Act → World → Prop} {x : Operand} {B k : Nat} {T : TypeId} {C : Array Value} (t : TypeId) (X : Array Value) (ho : o.op = .load t x) (hx : a.eval x = .pointer (some ⟨B, k, none⟩)) (hB : Blk w B T C)
    (hu : (match P.underlying t with | some (.struct _) | some (.array _ _) => true | _ => false) = true) (hn : (P.info? t).map (·.size) = some X.size) (hC : (C.toList.drop k).take X.size = X.toList)
    (hK : K (a.put o.dst (.agg X)) w) : Oper.wp P o a w K Q := by
  have h1 := exec_load_blk (P := P) t X ho hx hB hu hn hC
  unfold Oper.wp
  rw [h1]
  exact hK

/-- One cell of a block is stored. -/
theorem st_cell (C C' : Array Value) (q : Nat) (v : Value) (hv : v.cells = #[v]) (hq : q < C.size) (h : C.setIfInBounds q v = C') : (C.toList.take q ++ v.cells.toList ++ C.toList.drop (q + v.cells.toList.length)).toArray = C' := by
  rw [hv, ← h]
  apply Array.toList_inj.1
  show C.toList.take q ++ [v] ++ C.toList.drop (q + 1) = _
  rw [Array.toList_setIfInBounds, List.set_eq_take_append_cons_drop, if_pos (by simpa using hq), List.append_assoc]
  rfl

end Go.Proofs.YtdjljnpbnhampaaGreatDoor

namespace Go.Proofs.YtdjljnpbnhampaaGreatDoor
open Go.RowKit
attribute [local go_sem ↓] Go.wp_at_zero Go.wp_at_succ
set_option linter.unusedSimpArgs false
set_option linter.unusedVariables false
set_option maxRecDepth 100000

theorem exec_build_blk {P : Program} {a : Act} {o : Oper} {w : World} {t : TypeId} {parts : Array (Nat × Operand)} (X : Array Value) (ho : o.op = .build t parts)
    (hf : P.built t (parts.map fun (i, x) => (i, a.eval x)).toList = some X) : (execOp a.eval o).run P w = .ok (.value (.agg X)) w := by
  have h1 := run_build (P := P) w t (parts.map fun (i, x) => (i, a.eval x)) X hf
  unfold execOp
  simp only [ho, Sem.run_bind, Result.andThen_ok, h1, Sem.run_pure]



set_option maxHeartbeats 3200000 in
theorem of_any (n : Nat) (hn : n < 256) (w : World) :
    Calls Tryz.prog 59 #[.int .i64 n] w fun e w' => e = .returned (.agg (flC (ofF n))) ∧ Below w.heap.size w w' := by
  have R0 : Hid (∀ (W : World), One W w.heap.size n → Calls Tryz.prog 77 #[.int .i64 0, .pointer (some ⟨w.heap.size, 0, none⟩)] W fun e w' => e = .returned (.bool (n % 2 == 1)) ∧ W = w') := fun W h => by simpa using bit_code w.heap.size n 0 hn (by decide) W h
  have R1 : Hid (∀ (W : World), One W w.heap.size n → Calls Tryz.prog 77 #[.int .i64 1, .pointer (some ⟨w.heap.size, 0, none⟩)] W fun e w' => e = .returned (.bool (n / 2 % 2 == 1)) ∧ W = w') := fun W h => by simpa using bit_code w.heap.size n 1 hn (by decide) W h
  have R2 : Hid (∀ (W : World), One W w.heap.size n → Calls Tryz.prog 77 #[.int .i64 4, .pointer (some ⟨w.heap.size, 0, none⟩)] W fun e w' => e = .returned (.bool (n / 16 % 2 == 1)) ∧ W = w') := fun W h => by simpa using bit_code w.heap.size n 4 hn (by decide) W h
  have R3 : Hid (∀ (W : World), One W w.heap.size n → Calls Tryz.prog 77 #[.int .i64 5, .pointer (some ⟨w.heap.size, 0, none⟩)] W fun e w' => e = .returned (.bool (n / 32 % 2 == 1)) ∧ W = w') := fun W h => by simpa using bit_code w.heap.size n 5 hn (by decide) W h
  have R4 : Hid (∀ (W : World), One W w.heap.size n → Calls Tryz.prog 77 #[.int .i64 6, .pointer (some ⟨w.heap.size, 0, none⟩)] W fun e w' => e = .returned (.bool (n / 64 % 2 == 1)) ∧ W = w') := fun W h => by simpa using bit_code w.heap.size n 6 hn (by decide) W h
  have R5 : Hid (∀ (W : World), One W w.heap.size n → Calls Tryz.prog 77 #[.int .i64 7, .pointer (some ⟨w.heap.size, 0, none⟩)] W fun e w' => e = .returned (.bool (n / 128 % 2 == 1)) ∧ W = w') := fun W h => by simpa using bit_code w.heap.size n 7 hn (by decide) W h
  have hq : bits BinOp.and IntKind.i64 ((n : Int) / 4) 3 = (n : Int) / 4 % 4 := by
    have e := and3 (n / 4) (by omega)
    have e2 : ((n / 4 : Nat) : Int) = (n : Int) / 4 := by simp
    rw [e2] at e
    rw [e]
    simp
  have HF := Lib.hid (fun (g : Nat) (W : World) (h : IRow W g [(n : Int)]) => fitsI1 1 (by decide) (by decide) n ⟨by omega, by omega⟩ g W h)
  rw [show fitI 1 (n : Int) = true by simp [fitI]; omega] at HF
  have ⟨H1, H2, B0⟩ := two_blks w 3 23 #[.int .i64 n] (flC zFl)
  have c1 := H1.cv 0 (.int .i64 n) rfl
  go_enter Tryz.func59, Tryz.ntmps59
  go_upto_region 1 with (refine alloc_blk 23 (flC zFl) (by rfl) rfl Tryz.flZero ?_)
  generalize ((w.alloc (.cells #[.int .i64 (n : Int)] 3)).alloc (.cells (flC zFl) 23)) = w0 at *
  go_wp2_with fail
  refine (HF.out w0.heap.size _ (IRow.new1 w0 n _)).mono ?_
  rintro e w1 ⟨rfl, k1⟩
  have b01 : Below w0.heap.size w0 w1 := ((Below.refl _ _).alloc (Nat.le_refl _) _).trans (k1.mono (by simp))
  replace H1 := H1.kept b01
  replace H2 := H2.kept b01
  replace B0 := B0.trans (b01.mono B0.size)
  clear k1 b01
  go_upto_region 4 with (fail)
  have K5 : ∀ w5, Below (w.heap.size + 1) w1.drew w5 → w5.cell? ⟨w.heap.size, 0, none⟩ = some (.int .i64 n) := fun w5 b5 => (H1.drew.below b5 (by omega)).cv 0 (.int .i64 n) rfl
  have H1d : One w1.drew w.heap.size n := H1.drew
  have c2 := H1.cv 0 (.int .i64 n) rfl
  refine wp_region_noPanic ?_
  refine wp_region_held_drew (S := (fun w' => w'.cell? ⟨w.heap.size, 0, none⟩ = some (.int .i64 n))) (by kernel_rfl) ?_ (fun hHeld => ?_)
  · exact c2
  refine wpAnyH_take (i := 0) (v := ?_) rfl (by kernel_rfl) (by kernel_rfl) (by kernel_rfl) (fun _ _ _ h => h) (Or.inl ⟨by rfl, ?_⟩) (by assumption) ?_
  rotate_left
  · (intro w hSw; (try dsimp only at hSw); go_simp; (try with_reducible rfl))
  (try simp only [Act.put, List.getElem_toArray, List.getElem_cons_zero, List.getElem_cons_succ, List.setIfInBounds_toArray, List.set_cons_zero, List.set_cons_succ])
  refine wpAnyH_take (i := 2) (v := ?_) rfl (by kernel_rfl) (by kernel_rfl) (by kernel_rfl) (fun _ _ _ h => h) (Or.inl ⟨by rfl, ?_⟩) (by assumption) ?_
  rotate_left
  · (intro w hSw; (try dsimp only at hSw); go_simp; (try with_reducible rfl))
  (try simp only [Act.put, List.getElem_toArray, List.getElem_cons_zero, List.getElem_cons_succ, List.setIfInBounds_toArray, List.set_cons_zero, List.set_cons_succ])
  refine wpAnyH_take (i := 7) (v := ?_) rfl (by kernel_rfl) (by kernel_rfl) (by kernel_rfl) (fun _ _ _ h => h) (Or.inl ⟨by rfl, ?_⟩) (by assumption) ?_
  rotate_left
  · (intro w hSw; (try dsimp only at hSw); go_simp; (try with_reducible rfl))
  (try simp only [Act.put, List.getElem_toArray, List.getElem_cons_zero, List.getElem_cons_succ, List.setIfInBounds_toArray, List.set_cons_zero, List.set_cons_succ])
  refine wpAnyH_take (i := 9) (v := ?_) rfl (by kernel_rfl) (by kernel_rfl) (by kernel_rfl) (fun _ _ _ h => h) (Or.inl ⟨by rfl, ?_⟩) (by assumption) ?_
  rotate_left
  · (intro w hSw; (try dsimp only at hSw); go_simp; (try with_reducible rfl))
  (try simp only [Act.put, List.getElem_toArray, List.getElem_cons_zero, List.getElem_cons_succ, List.setIfInBounds_toArray, List.set_cons_zero, List.set_cons_succ])
  refine wpAnyH_take (i := 11) (v := ?_) rfl (by kernel_rfl) (by kernel_rfl) (by kernel_rfl) (fun _ _ _ h => h) (Or.inl ⟨by rfl, ?_⟩) (by assumption) ?_
  rotate_left
  · (intro w hSw; (try dsimp only at hSw); go_simp; (try with_reducible rfl))
  (try simp only [Act.put, List.getElem_toArray, List.getElem_cons_zero, List.getElem_cons_succ, List.setIfInBounds_toArray, List.set_cons_zero, List.set_cons_succ])
  refine wpAnyH_take (i := 13) (v := ?_) rfl (by kernel_rfl) (by kernel_rfl) (by kernel_rfl) (fun _ _ _ h => h) (Or.inl ⟨by rfl, ?_⟩) (by assumption) ?_
  rotate_left
  · (intro w hSw; (try dsimp only at hSw); go_simp; (try with_reducible rfl))
  (try simp only [Act.put, List.getElem_toArray, List.getElem_cons_zero, List.getElem_cons_succ, List.setIfInBounds_toArray, List.set_cons_zero, List.set_cons_succ])
  refine wpAnyH_take (i := 4) (v := ?_) rfl (by kernel_rfl) (by kernel_rfl) (by kernel_rfl) (fun _ _ _ h => h) (Or.inl ⟨by rfl, ?_⟩) (by assumption) ?_
  rotate_left
  · (intro w hSw; (try dsimp only at hSw); go_simp; (try with_reducible rfl))
  (try simp only [Act.put, List.getElem_toArray, List.getElem_cons_zero, List.getElem_cons_succ, List.setIfInBounds_toArray, List.set_cons_zero, List.set_cons_succ])
  refine wpAnyH_take (i := 5) (v := ?_) rfl (by kernel_rfl) (by kernel_rfl) (by kernel_rfl) (fun _ _ _ h => h) (Or.inl ⟨by rfl, ?_⟩) (by assumption) ?_
  rotate_left
  · (intro w hSw; (try dsimp only at hSw); go_simp; (try with_reducible rfl))
  (try simp only [Act.put, List.getElem_toArray, List.getElem_cons_zero, List.getElem_cons_succ, List.setIfInBounds_toArray, List.set_cons_zero, List.set_cons_succ])
  refine wpAnyH_take (i := 6) (v := .int .i64 ((n / 4 % 4 : Nat) : Int)) rfl (by kernel_rfl) (by kernel_rfl) (by kernel_rfl) (fun _ _ _ h => h) (Or.inl ⟨by rfl, fun w hSw => by go_simp⟩) (by assumption) ?_
  (try simp only [Act.put, List.getElem_toArray, List.getElem_cons_zero, List.getElem_cons_succ, List.setIfInBounds_toArray, List.set_cons_zero, List.set_cons_succ])
  refine wpAnyH_ready (rs := [1]) (by kernel_rfl) (by simp) ?_
  refine AllReadyH.cons rfl (fun K hK => ?_) AllReadyH.nil
  simp only [List.getElem_toArray, List.getElem_cons_zero, List.getElem_cons_succ]
  go_simp
  with_reducible refine (R0.out _ H1d).mono ?_
  rintro e w' ⟨rfl, rfl⟩
  refine hK.out _ _ ?_ (fun hHeld => ?_)
  · exact c2
  clear hK K
  (try simp only [Act.put, List.getElem_toArray, List.getElem_cons_zero, List.getElem_cons_succ, List.setIfInBounds_toArray, List.set_cons_zero, List.set_cons_succ])
  refine wpAnyH_ready (rs := [3]) (by kernel_rfl) (by simp) ?_
  refine AllReadyH.cons rfl (fun K hK => ?_) AllReadyH.nil
  simp only [List.getElem_toArray, List.getElem_cons_zero, List.getElem_cons_succ]
  go_simp
  with_reducible refine (R1.out _ H1d).mono ?_
  rintro e w' ⟨rfl, rfl⟩
  refine hK.out _ _ ?_ (fun hHeld => ?_)
  · exact c2
  clear hK K
  (try simp only [Act.put, List.getElem_toArray, List.getElem_cons_zero, List.getElem_cons_succ, List.setIfInBounds_toArray, List.set_cons_zero, List.set_cons_succ])
  refine wpAnyH_ready (rs := [8]) (by kernel_rfl) (by simp) ?_
  refine AllReadyH.cons rfl (fun K hK => ?_) AllReadyH.nil
  simp only [List.getElem_toArray, List.getElem_cons_zero, List.getElem_cons_succ]
  go_simp
  with_reducible refine (R2.out _ H1d).mono ?_
  rintro e w' ⟨rfl, rfl⟩
  refine hK.out _ _ ?_ (fun hHeld => ?_)
  · exact c2
  clear hK K
  (try simp only [Act.put, List.getElem_toArray, List.getElem_cons_zero, List.getElem_cons_succ, List.setIfInBounds_toArray, List.set_cons_zero, List.set_cons_succ])
  refine wpAnyH_ready (rs := [10]) (by kernel_rfl) (by simp) ?_
  refine AllReadyH.cons rfl (fun K hK => ?_) AllReadyH.nil
  simp only [List.getElem_toArray, List.getElem_cons_zero, List.getElem_cons_succ]
  go_simp
  with_reducible refine (R3.out _ H1d).mono ?_
  rintro e w' ⟨rfl, rfl⟩
  refine hK.out _ _ ?_ (fun hHeld => ?_)
  · exact c2
  clear hK K
  (try simp only [Act.put, List.getElem_toArray, List.getElem_cons_zero, List.getElem_cons_succ, List.setIfInBounds_toArray, List.set_cons_zero, List.set_cons_succ])
  refine wpAnyH_ready (rs := [12]) (by kernel_rfl) (by simp) ?_
  refine AllReadyH.cons rfl (fun K hK => ?_) AllReadyH.nil
  simp only [List.getElem_toArray, List.getElem_cons_zero, List.getElem_cons_succ]
  go_simp
  with_reducible refine (R4.out _ H1d).mono ?_
  rintro e w' ⟨rfl, rfl⟩
  refine hK.out _ _ ?_ (fun hHeld => ?_)
  · exact c2
  clear hK K
  (try simp only [Act.put, List.getElem_toArray, List.getElem_cons_zero, List.getElem_cons_succ, List.setIfInBounds_toArray, List.set_cons_zero, List.set_cons_succ])
  refine wpAnyH_ready (rs := [14]) (by kernel_rfl) (by simp) ?_
  refine AllReadyH.cons rfl (fun K hK => ?_) AllReadyH.nil
  simp only [List.getElem_toArray, List.getElem_cons_zero, List.getElem_cons_succ]
  go_simp
  with_reducible refine (R5.out _ H1d).mono ?_
  rintro e w' ⟨rfl, rfl⟩
  refine hK.out _ _ ?_ (fun hHeld => ?_)
  · exact c2
  clear hK K
  (try simp only [Act.put, List.getElem_toArray, List.getElem_cons_zero, List.getElem_cons_succ, List.setIfInBounds_toArray, List.set_cons_zero, List.set_cons_succ])
  refine wpAnyH_take (i := 15) (v := .agg (flC ⟨n % 2 == 1, n / 2 % 2 == 1, ((n / 4 % 4 : Nat) : Int), n / 16 % 2 == 1, n / 32 % 2 == 1, n / 64 % 2 == 1, n / 128 % 2 == 1⟩)) rfl (by kernel_rfl) (by kernel_rfl) (by kernel_rfl) (fun _ _ _ h => h) (Or.inl ⟨by rfl, fun w hSw => exec_build_blk (t := 23) (flC ⟨n % 2 == 1, n / 2 % 2 == 1, ((n / 4 % 4 : Nat) : Int), n / 16 % 2 == 1, n / 32 % 2 == 1, n / 64 % 2 == 1, n / 128 % 2 == 1⟩) rfl (by kernel_rfl)⟩) (by assumption) ?_
  (try simp only [Act.put, List.getElem_toArray, List.getElem_cons_zero, List.getElem_cons_succ, List.setIfInBounds_toArray, List.set_cons_zero, List.set_cons_succ])
  refine wpAnyH_ready (rs := [16]) (by kernel_rfl) (by simp) ?_
  refine AllReadyH.cons rfl (fun K hK => ?_) AllReadyH.nil
  simp only [List.getElem_toArray, List.getElem_cons_zero, List.getElem_cons_succ]
  rw [if_pos (by rfl)]
  refine wp_store_op (k := 0) 23 (.agg (flC ⟨n % 2 == 1, n / 2 % 2 == 1, ((n / 4 % 4 : Nat) : Int), n / 16 % 2 == 1, n / 32 % 2 == 1, n / 64 % 2 == 1, n / 128 % 2 == 1⟩)) (flC ⟨n % 2 == 1, n / 2 % 2 == 1, ((n / 4 % 4 : Nat) : Int), n / 16 % 2 == 1, n / 32 % 2 == 1, n / 64 % 2 == 1, n / 128 % 2 == 1⟩) (by rfl) rfl rfl H2 (by kernel_rfl) (show (7 : Nat) ≤ 7 from Nat.le_refl 7) (by rfl) (st_whole _ _ rfl) (fun w5 R5 b5 g5 => ?_)
  refine hK.out _ _ ?_ (fun hHeld => ?_)
  · exact K5 w5 b5
  clear hK K
  (try simp only [Act.put, List.getElem_toArray, List.getElem_cons_zero, List.getElem_cons_succ, List.setIfInBounds_toArray, List.set_cons_zero, List.set_cons_succ])
  refine wpAnyH_done (by kernel_rfl) ?_ _
  refine NoPanic.normal ?_
  go_wp2
  exact bodyPost_ret (results_blk rfl rfl R5 (by kernel_rfl) (by kernel_rfl)) rfl ⟨rfl, B0.drew.trans (b5.mono (by omega))⟩

end Go.Proofs.YtdjljnpbnhampaaGreatDoor

namespace Go.Proofs.YtdjljnpbnhampaaGreatDoor
open Go.RowKit
attribute [local go_sem ↓] Go.wp_at_zero Go.wp_at_succ
set_option linter.unusedSimpArgs false
set_option linter.unusedVariables false
set_option maxRecDepth 100000

/-- A number of a few bytes, as it is read. -/
def nmV (l : List UInt8) (off : Nat) (st : RSt) (n : Int) : Nat := beN (tkN l off st n true).1

def nmS (l : List UInt8) (off : Nat) (st : RSt) (n : Int) : RSt := (tkN l off st n true).2

theorem nmV_lt (l : List UInt8) (off : Nat) (st : RSt) (n : Nat) : nmV l off st n < 256 ^ n := by
  unfold nmV
  have h := beN_lt (tkN l off st n true).1
  rcases tkN_len l off st n true with q | q
  · rw [q]; exact Nat.pow_pos (by decide)
  · rw [q] at h; exact h

theorem nmS_le (l : List UInt8) (off : Nat) (st : RSt) (n : Int) (h : st.1 ≤ l.length) : (nmS l off st n).1 ≤ l.length := tkN_le l off st n true h

theorem numK_t {g : Nat} {s : ByteArray} {off : Nat} (st : RSt) (n : Nat) (hn : n ≤ 7) (w : World) (h : RdT w g s off st) (hp : st.1 ≤ s.size) (hb : off + s.size ≤ 281474976710656) :
    Calls Tryz.prog 33 #[.pointer (some ⟨g, 0, none⟩), .int .i64 n] w fun e w' => e = .returned (.int .i64 (nmV s.data.toList off st n : Nat)) ∧
      RdT w' g s off (nmS s.data.toList off st n) ∧ w.grownBy w' (some g) := by
  have h1 := num_t st n w h hp hb
  have hl := nmV_lt s.data.toList off st n
  have h3 : 256 ^ n ≤ 256 ^ 7 := Nat.pow_le_pow_right (by decide) hn
  have e : wrap64 (beN (tkN s.data.toList off st n true).1) = ((nmV s.data.toList off st n : Nat) : Int) := by
    show wrap64 ((nmV s.data.toList off st n : Nat) : Int) = _
    unfold wrap64
    omega
  rw [e] at h1
  exact h1

theorem nm_go (l : List UInt8) (st : RSt) (n : Nat) (h1 : 1 ≤ n) (h8 : n ≤ 8) (h : st.2.1 = 0) (hn : st.1 + n ≤ l.length) : nmS l 0 st n = (st.1 + n, st.2) ∧ nmV l 0 st n = beN ((l.drop st.1).take n) := by
  have e := tkN_go l 0 st n true h hn (by intro _; omega)
  unfold nmS nmV
  rw [e]
  exact ⟨rfl, rfl⟩

theorem nm_miss (l : List UInt8) (st : RSt) (n : Nat) (h1 : 1 ≤ n) (h8 : n ≤ 8) (h : st.2.1 = 0) (hn : ¬ st.1 + n ≤ l.length) (hp : st.1 ≤ l.length) : nmS l 0 st n = (st.1, 7, (st.1 : Int)) := by
  have e := tkN_miss l 0 st n true h hn hp (by intro _; omega)
  unfold nmS
  rw [e]
  simp

theorem nm_bad (l : List UInt8) (st : RSt) (n : Int) (h : ¬ st.2.1 = 0) : nmS l 0 st n = st := by
  unfold nmS
  rw [tkN_bad l 0 st n true h]

theorem atT {g : Nat} {s : ByteArray} {off : Nat} (st : RSt) (w : World) (h : RdT w g s off st) :
    Calls Tryz.prog 61 #[.pointer (some ⟨g, 0, none⟩)] w fun e w' => e = .returned (.int .i64 ((off : Int) + (st.1 : Int))) ∧ w = w' := by
  obtain ⟨f, hr, hf⟩ := h
  exact at_any w hr

theorem errT_none {g : Nat} {s : ByteArray} {off : Nat} (st : RSt) (w : World) (h : RdT w g s off st) (he : st.2.1 = 0) :
    Calls Tryz.prog 36 #[.pointer (some ⟨g, 0, none⟩)] w fun r w' => r = .returned .nilIface ∧ w = w' := by
  obtain ⟨f, hr, hf⟩ := h
  rcases hf with ⟨h0, rfl⟩ | ⟨h0, q, rfl, hq⟩
  · exact err_none w hr
  · exact absurd he h0



/-- How far a reader is; whether it has noted something. -/
def rdPos (w : World) (g : Nat) : Nat := match w.cell? ⟨g, 1, none⟩ with | some (.int _ n) => n.toNat | _ => 0

def rdNote (w : World) (g : Nat) : Bool := match w.cell? ⟨g, 2, none⟩ with | some (.pointer (some _)) => true | _ => false

def rdLeft (n : Nat) (w : World) (g : Nat) : Nat := if rdNote w g = true then 0 else n + 1 - rdPos w g

theorem rdLeft_ok {n g p : Nat} {x : Int} {s : ByteArray} {w : World} (h : RdT w g s 0 (p, 0, x)) : rdLeft n w g = n + 1 - p := by
  obtain ⟨f, hr, hf⟩ := h
  rcases hf with ⟨_, rfl⟩ | ⟨h0, _⟩
  · have e1 : rdNote w g = false := by unfold rdNote; rw [hr.c2]
    have e2 : rdPos w g = p := by
      unfold rdPos
      rw [hr.c1]
      show (((0 : Nat) : Int) + ((p : Nat) : Int)).toNat = p
      omega
    unfold rdLeft
    rw [e1, e2]
    rfl
  · exact absurd rfl h0

theorem rdLeft_bad {n g p : Nat} {e x : Int} {s : ByteArray} {w : World} (h : RdT w g s 0 (p, e, x)) (he : e ≠ 0) : rdLeft n w g = 0 := by
  obtain ⟨f, hr, hf⟩ := h
  rcases hf with ⟨h0, _⟩ | ⟨_, q, rfl, _⟩
  · exact absurd h0 he
  · have e1 : rdNote w g = true := by unfold rdNote; rw [hr.c2]
    unfold rdLeft
    rw [if_pos e1]

end Go.Proofs.YtdjljnpbnhampaaGreatDoor

namespace Go.Proofs.YtdjljnpbnhampaaGreatDoor
open Go.RowKit
attribute [local go_sem ↓] Go.wp_at_zero Go.wp_at_succ
set_option linter.unusedSimpArgs false
set_option linter.unusedVariables false
set_option maxRecDepth 100000

/-- A port's name, part by part. -/
def rpP (l : List UInt8) (off : Nat) (st : RSt) : Int := if rdN l off st % 4096 = 0 then 0 else (rdN l off st : Int) / 4096 * 16

def rpN (l : List UInt8) (off : Nat) (st : RSt) : Int := if rdN l off st % 4096 = 0 then 0 else (rdN l off st : Int) % 4096

theorem rpC_parts (l : List UInt8) (off : Nat) (st : RSt) : rpC l off st = ptC (rpP l off st) (rpN l off st) := by
  unfold rpC rpP rpN
  split <;> rfl

/-- The states, one behind the other. -/
def sb1 (l : List UInt8) (off : Nat) (st : RSt) : RSt := nmS l off st 1

def sb2 (l : List UInt8) (off : Nat) (st : RSt) : RSt := rdBs l off (sb1 l off st)

def sb3 (l : List UInt8) (off : Nat) (st : RSt) : RSt := nmS l off (sb2 l off st) 4

def sb4 (l : List UInt8) (off : Nat) (st : RSt) : RSt := rdBs l off (sb3 l off st)

def sb5 (l : List UInt8) (off : Nat) (st : RSt) : RSt := rpSt l off (sb4 l off st)

def sb6 (l : List UInt8) (off : Nat) (st : RSt) : RSt := nmS l off (sb5 l off st) 2

def sb7 (l : List UInt8) (off : Nat) (st : RSt) : RSt := nmS l off (sb6 l off st) 2

def sb8 (l : List UInt8) (off : Nat) (st : RSt) : RSt := nmS l off (sb7 l off st) 2

def sb9 (l : List UInt8) (off : Nat) (st : RSt) : RSt := nmS l off (sb8 l off st) 2

/-- What is read. -/
def rbRaw (l : List UInt8) (off : Nat) (st : RSt) (k : Int) : Bp := ⟨k, ofF (nmV l off st 1), rdB l off (sb1 l off st), (nmV l off (sb2 l off st) 4 : Nat), rdB l off (sb3 l off st), rpP l off (sb4 l off st), rpN l off (sb4 l off st),
  (nmV l off (sb5 l off st) 2 : Nat), (nmV l off (sb6 l off st) 2 : Nat), (nmV l off (sb7 l off st) 2 : Nat), (nmV l off (sb8 l off st) 2 : Nat)⟩

/-- Of a Config, two flags. -/
def cfB (b : Bp) : Bp := if b.k = 1 then ⟨b.k, cfF b.f, b.root, b.cost, b.snd, b.pp, b.pn, b.age, b.mx, b.hel, b.wai⟩ else b

def rbB (l : List UInt8) (off : Nat) (st : RSt) (k : Int) : Bp := if (sb9 l off st).2.1 = 0 then cfB (rbRaw l off st k) else zBp

set_option maxHeartbeats 6400000 in
theorem readBody_t {g : Nat} {s : ByteArray} {off : Nat} (st : RSt) (k : Int) (w : World) (h : RdT w g s off st) (hp : st.1 ≤ s.size) (hb : off + s.size ≤ 281474976710656) :
    Calls Tryz.prog 29 #[.pointer (some ⟨g, 0, none⟩), .int .i64 k] w fun e w' => e = .returned (.agg (bpC (rbB s.data.toList off st k))) ∧ RdT w' g s off (sb9 s.data.toList off st) ∧ w.grownBy w' (some g) := by
  have hls : s.data.toList.length = s.size := by simp
  have hg := h.lt
  have h0 : st.1 ≤ s.data.toList.length := by rw [hls]; exact hp
  have P1 : (sb1 s.data.toList off st).1 ≤ s.data.toList.length := nmS_le _ _ _ _ h0
  have P2 : (sb2 s.data.toList off st).1 ≤ s.data.toList.length := rdBs_le _ _ _ P1
  have P3 : (sb3 s.data.toList off st).1 ≤ s.data.toList.length := nmS_le _ _ _ _ P2
  have P4 : (sb4 s.data.toList off st).1 ≤ s.data.toList.length := rdBs_le _ _ _ P3
  have P5 : (sb5 s.data.toList off st).1 ≤ s.data.toList.length := rpSt_le _ _ _ P4
  have P6 : (sb6 s.data.toList off st).1 ≤ s.data.toList.length := nmS_le _ _ _ _ P5
  have P7 : (sb7 s.data.toList off st).1 ≤ s.data.toList.length := nmS_le _ _ _ _ P6
  have P8 : (sb8 s.data.toList off st).1 ≤ s.data.toList.length := nmS_le _ _ _ _ P7
  rw [hls] at P1 P2 P3 P4 P5 P6 P7 P8
  have N1 : Hid (∀ W, RdT W g s off st → Calls Tryz.prog 33 #[.pointer (some ⟨g, 0, none⟩), .int .i64 1] W fun e w' => e = .returned (.int .i64 (nmV s.data.toList off st 1 : Nat)) ∧ RdT w' g s off (sb1 s.data.toList off st) ∧ W.grownBy w' (some g)) := fun W h => numK_t st 1 (by decide) W h hp hb
  have N2 : Hid (∀ W, RdT W g s off (sb1 s.data.toList off st) → Calls Tryz.prog 34 #[.pointer (some ⟨g, 0, none⟩)] W fun e w' => e = .returned (.agg (brC (rdB s.data.toList off (sb1 s.data.toList off st)))) ∧ RdT w' g s off (sb2 s.data.toList off st) ∧ W.grownBy w' (some g)) := fun W h => prRead_t (sb1 s.data.toList off st) W h P1 hb
  have N3 : Hid (∀ W, RdT W g s off (sb2 s.data.toList off st) → Calls Tryz.prog 33 #[.pointer (some ⟨g, 0, none⟩), .int .i64 4] W fun e w' => e = .returned (.int .i64 (nmV s.data.toList off (sb2 s.data.toList off st) 4 : Nat)) ∧ RdT w' g s off (sb3 s.data.toList off st) ∧ W.grownBy w' (some g)) := fun W h => numK_t (sb2 s.data.toList off st) 4 (by decide) W h P2 hb
  have N4 : Hid (∀ W, RdT W g s off (sb3 s.data.toList off st) → Calls Tryz.prog 34 #[.pointer (some ⟨g, 0, none⟩)] W fun e w' => e = .returned (.agg (brC (rdB s.data.toList off (sb3 s.data.toList off st)))) ∧ RdT w' g s off (sb4 s.data.toList off st) ∧ W.grownBy w' (some g)) := fun W h => prRead_t (sb3 s.data.toList off st) W h P3 hb
  have N5 : Hid (∀ W, RdT W g s off (sb4 s.data.toList off st) → Calls Tryz.prog 60 #[.pointer (some ⟨g, 0, none⟩)] W fun e w' => e = .returned (.agg (ptC (rpP s.data.toList off (sb4 s.data.toList off st)) (rpN s.data.toList off (sb4 s.data.toList off st)))) ∧ RdT w' g s off (sb5 s.data.toList off st) ∧ W.grownBy w' (some g)) := fun W h => by rw [← rpC_parts]; exact prReadPort_t (sb4 s.data.toList off st) W h P4 hb
  have N6 : Hid (∀ W, RdT W g s off (sb5 s.data.toList off st) → Calls Tryz.prog 33 #[.pointer (some ⟨g, 0, none⟩), .int .i64 2] W fun e w' => e = .returned (.int .i64 (nmV s.data.toList off (sb5 s.data.toList off st) 2 : Nat)) ∧ RdT w' g s off (sb6 s.data.toList off st) ∧ W.grownBy w' (some g)) := fun W h => numK_t (sb5 s.data.toList off st) 2 (by decide) W h P5 hb
  have N7 : Hid (∀ W, RdT W g s off (sb6 s.data.toList off st) → Calls Tryz.prog 33 #[.pointer (some ⟨g, 0, none⟩), .int .i64 2] W fun e w' => e = .returned (.int .i64 (nmV s.data.toList off (sb6 s.data.toList off st) 2 : Nat)) ∧ RdT w' g s off (sb7 s.data.toList off st) ∧ W.grownBy w' (some g)) := fun W h => numK_t (sb6 s.data.toList off st) 2 (by decide) W h P6 hb
  have N8 : Hid (∀ W, RdT W g s off (sb7 s.data.toList off st) → Calls Tryz.prog 33 #[.pointer (some ⟨g, 0, none⟩), .int .i64 2] W fun e w' => e = .returned (.int .i64 (nmV s.data.toList off (sb7 s.data.toList off st) 2 : Nat)) ∧ RdT w' g s off (sb8 s.data.toList off st) ∧ W.grownBy w' (some g)) := fun W h => numK_t (sb7 s.data.toList off st) 2 (by decide) W h P7 hb
  have N9 : Hid (∀ W, RdT W g s off (sb8 s.data.toList off st) → Calls Tryz.prog 33 #[.pointer (some ⟨g, 0, none⟩), .int .i64 2] W fun e w' => e = .returned (.int .i64 (nmV s.data.toList off (sb8 s.data.toList off st) 2 : Nat)) ∧ RdT w' g s off (sb9 s.data.toList off st) ∧ W.grownBy w' (some g)) := fun W h => numK_t (sb8 s.data.toList off st) 2 (by decide) W h P8 hb
  have hn0 : nmV s.data.toList off st 1 < 256 := by simpa using nmV_lt s.data.toList off st 1
  have HRB : Hid (rbB s.data.toList off st k = if (sb9 s.data.toList off st).2.1 = 0 then cfB (rbRaw s.data.toList off st k) else zBp) := rfl
  have HRW : Hid (rbRaw s.data.toList off st k = ⟨k, ofF (nmV s.data.toList off st 1), rdB s.data.toList off (sb1 s.data.toList off st), (nmV s.data.toList off (sb2 s.data.toList off st) 4 : Nat), rdB s.data.toList off (sb3 s.data.toList off st), rpP s.data.toList off (sb4 s.data.toList off st), rpN s.data.toList off (sb4 s.data.toList off st),
  (nmV s.data.toList off (sb5 s.data.toList off st) 2 : Nat), (nmV s.data.toList off (sb6 s.data.toList off st) 2 : Nat), (nmV s.data.toList off (sb7 s.data.toList off st) 2 : Nat), (nmV s.data.toList off (sb8 s.data.toList off st) 2 : Nat)⟩) := rfl
  clear P1 P2 P3 P4 P5 P6 P7 P8 h0 hls
  generalize rbB s.data.toList off st k = res at *
  generalize rbRaw s.data.toList off st k = raw at *
  have HO := Lib.hid (fun W => of_any (nmV s.data.toList off st 1) hn0 W)
  clear hn0
  generalize nmV s.data.toList off st 1 = n0 at *
  generalize rdB s.data.toList off (sb1 s.data.toList off st) = b1 at *
  generalize nmV s.data.toList off (sb2 s.data.toList off st) 4 = n2 at *
  generalize rdB s.data.toList off (sb3 s.data.toList off st) = b3 at *
  generalize rpP s.data.toList off (sb4 s.data.toList off st) = p4 at *
  generalize rpN s.data.toList off (sb4 s.data.toList off st) = q4 at *
  generalize nmV s.data.toList off (sb5 s.data.toList off st) 2 = n5 at *
  generalize nmV s.data.toList off (sb6 s.data.toList off st) 2 = n6 at *
  generalize nmV s.data.toList off (sb7 s.data.toList off st) 2 = n7 at *
  generalize nmV s.data.toList off (sb8 s.data.toList off st) 2 = n8 at *
  generalize sb1 s.data.toList off st = t1 at *
  generalize sb2 s.data.toList off st = t2 at *
  generalize sb3 s.data.toList off st = t3 at *
  generalize sb4 s.data.toList off st = t4 at *
  generalize sb5 s.data.toList off st = t5 at *
  generalize sb6 s.data.toList off st = t6 at *
  generalize sb7 s.data.toList off st = t7 at *
  generalize sb8 s.data.toList off st = t8 at *
  generalize sb9 s.data.toList off st = t9 at *
  have R1 := Blk.new w 31 (bpC zBp)
  have H1 := h.al (.cells (bpC zBp) 31)
  have G1 : w.grownBy (w.alloc (.cells (bpC zBp) 31)) (some g) := World.grownBy_alloc w _ _
  clear h
  by_cases c : t9.2.1 = 0
  · rw [if_pos c] at HRB
    by_cases ck : k = 1
    · have d1 : (k == 1) = true := by simpa using ck
      have HCF : Hid (cfB raw = ⟨k, cfF (ofF n0), b1, (n2 : Int), b3, p4, q4, (n5 : Int), (n6 : Int), (n7 : Int), (n8 : Int)⟩) := by show _ = _; rw [HRW.out]; unfold cfB; rw [if_pos ck]
      clear ck
      go_enter Tryz.func29, Tryz.ntmps29
      go_wp2_with (refine alloc_blk 31 (bpC zBp) (by rfl) rfl Tryz.bpZero ?_)
      generalize w.alloc (.cells (bpC zBp) 31) = w1 at *
      refine (N1.out _ H1).mono ?_
      rintro e w2 ⟨rfl, H2, g2⟩
      have R2 := R1.grown g2 (by simp; omega)
      have G2 := grown_same G1 g2
      clear R1 H1 G1 g2
      go_wp2_with fail
      refine (HO.out _).mono ?_
      rintro e w3 ⟨rfl, k3⟩
      have R3 := R2.kept k3
      have H3 := H2.below k3
      have G3 := grown_belowT G2 k3
      clear R2 H2 G2 k3
      go_wp2_with fail
      refine (N2.out _ H3).mono ?_
      rintro e w4 ⟨rfl, H4, g4⟩
      have R4 := R3.grown g4 (by simp; omega)
      have G4 := grown_same G3 g4
      clear R3 H3 G3 g4
      go_wp2_with fail
      refine (N3.out _ H4).mono ?_
      rintro e w5 ⟨rfl, H5, g5⟩
      have R5 := R4.grown g5 (by simp; omega)
      have G5 := grown_same G4 g5
      clear R4 H4 G4 g5
      go_wp2_with fail
      refine (N4.out _ H5).mono ?_
      rintro e w6 ⟨rfl, H6, g6⟩
      have R6 := R5.grown g6 (by simp; omega)
      have G6 := grown_same G5 g6
      clear R5 H5 G5 g6
      go_wp2_with fail
      refine (N5.out _ H6).mono ?_
      rintro e w7 ⟨rfl, H7, g7⟩
      have R7 := R6.grown g7 (by simp; omega)
      have G7 := grown_same G6 g7
      clear R6 H6 G6 g7
      go_wp2_with fail
      refine (N6.out _ H7).mono ?_
      rintro e w8 ⟨rfl, H8, g8⟩
      have R8 := R7.grown g8 (by simp; omega)
      have G8 := grown_same G7 g8
      clear R7 H7 G7 g8
      go_wp2_with fail
      refine (N7.out _ H8).mono ?_
      rintro e w9 ⟨rfl, H9, g9⟩
      have R9 := R8.grown g9 (by simp; omega)
      have G9 := grown_same G8 g9
      clear R8 H8 G8 g9
      go_wp2_with fail
      refine (N8.out _ H9).mono ?_
      rintro e w10 ⟨rfl, H10, g10⟩
      have R10 := R9.grown g10 (by simp; omega)
      have G10 := grown_same G9 g10
      clear R9 H9 G9 g10
      go_wp2_with fail
      refine (N9.out _ H10).mono ?_
      rintro e w11 ⟨rfl, H11, g11⟩
      have R11 := R10.grown g11 (by simp; omega)
      have G11 := grown_same G10 g11
      clear R10 H10 G10 g11
      have lt11 : w.heap.size < w11.heap.size := R11.lt
      go_wp2_with (first
        | (refine build_blk (t := 31) (bpC ⟨k, ofF n0, b1, (n2 : Int), b3, p4, q4, (n5 : Int), (n6 : Int), (n7 : Int), (n8 : Int)⟩) (by rfl) rfl (by kernel_rfl) ?_)
        | (refine alloc_blk 31 (bpC zBp) (by rfl) rfl Tryz.bpZero ?_)
        | (refine store_blk (k := 0) 31 (.agg (bpC ⟨k, ofF n0, b1, (n2 : Int), b3, p4, q4, (n5 : Int), (n6 : Int), (n7 : Int), (n8 : Int)⟩)) (bpC ⟨k, ofF n0, b1, (n2 : Int), b3, p4, q4, (n5 : Int), (n6 : Int), (n7 : Int), (n8 : Int)⟩) (by rfl) rfl rfl rfl (Blk.new w11 _ _) (by kernel_rfl) (show (31 : Nat) ≤ 31 from Nat.le_refl 31) (by rfl) (st_whole _ _ rfl) ?_; intro wv V3 b3' g3; have R3 := (R11.alloc (.cells (bpC zBp) 31)).below b3' lt11; have H3 := (H11.al (.cells (bpC zBp) 31)).other (Blk.new w11 _ _) (by decide) (by decide) g3; have G3 := grown_own (grown_same G11 (World.grownBy_alloc w11 (.cells (bpC zBp) 31) (some g))) g3 (by omega)))
      generalize w11.heap.size = A at *
      have lt3 : A < wv.heap.size := V3.lt
      clear R11 H11 G11 b3' g3
      go_wp2_with fail
      refine (err_ok t9 _ H3 c).mono ?_
      rintro e w6 ⟨rfl, rfl⟩
      go_wp2_with (refine load_blk (k := 1) 23 (flC (ofF n0)) (by rfl) rfl rfl V3 (by kernel_rfl) (by kernel_rfl) rfl ?_)
      refine (ofConfig_any (ofF n0) _).mono ?_
      rintro e w7 ⟨rfl, k7⟩
      have V7 := V3.kept k7
      have RY := R3.kept k7
      have HY := H3.below k7
      have GY := grown_belowT G3 k7
      go_upto_region 6 with (refine store_blk (k := 1) 23 (.agg (flC (cfF (ofF n0)))) (bpC ⟨k, cfF (ofF n0), b1, (n2 : Int), b3, p4, q4, (n5 : Int), (n6 : Int), (n7 : Int), (n8 : Int)⟩) (by rfl) rfl rfl rfl V7 (by kernel_rfl) (show (1 + 7 : Nat) ≤ 31 by decide) (by rfl) rfl ?_; intro w8 V8 b8 g8; have RX := RY.grown g8 (by simp; omega); have HX := HY.other V7 (by decide) (by decide) g8; have GX := grown_own GY g8 (by omega))
      (try simp only [Act.put, List.setIfInBounds_toArray, List.set_cons_zero, List.set_cons_succ])
      go_wp2_with (first
        | (refine load_blk (k := 0) 31 (bpC ⟨k, cfF (ofF n0), b1, (n2 : Int), b3, p4, q4, (n5 : Int), (n6 : Int), (n7 : Int), (n8 : Int)⟩) (by rfl) rfl rfl V8 (by kernel_rfl) (by kernel_rfl) rfl ?_)
        | (refine store_blk (k := 0) 31 (.agg (bpC ⟨k, cfF (ofF n0), b1, (n2 : Int), b3, p4, q4, (n5 : Int), (n6 : Int), (n7 : Int), (n8 : Int)⟩)) (bpC ⟨k, cfF (ofF n0), b1, (n2 : Int), b3, p4, q4, (n5 : Int), (n6 : Int), (n7 : Int), (n8 : Int)⟩) (by rfl) rfl rfl rfl RX (by kernel_rfl) (show (31 : Nat) ≤ 31 from Nat.le_refl 31) (by rfl) (st_whole _ _ rfl) ?_; intro wz RZ bz gz; have HZ := HX.other RX (by decide) (by decide) gz; have GZ := grown_own GX gz (Nat.le_refl _)))
      exact bodyPost_ret (results_blk rfl rfl RZ (by kernel_rfl) (by kernel_rfl)) rfl ⟨by rw [HRB.out, HCF.out], HZ, GZ⟩
    · have d1 : (k == 1) = false := by simpa using ck
      have HCF : Hid (cfB raw = ⟨k, ofF n0, b1, (n2 : Int), b3, p4, q4, (n5 : Int), (n6 : Int), (n7 : Int), (n8 : Int)⟩) := by show _ = _; rw [HRW.out]; unfold cfB; rw [if_neg ck]
      clear ck
      go_enter Tryz.func29, Tryz.ntmps29
      go_wp2_with (refine alloc_blk 31 (bpC zBp) (by rfl) rfl Tryz.bpZero ?_)
      generalize w.alloc (.cells (bpC zBp) 31) = w1 at *
      refine (N1.out _ H1).mono ?_
      rintro e w2 ⟨rfl, H2, g2⟩
      have R2 := R1.grown g2 (by simp; omega)
      have G2 := grown_same G1 g2
      clear R1 H1 G1 g2
      go_wp2_with fail
      refine (HO.out _).mono ?_
      rintro e w3 ⟨rfl, k3⟩
      have R3 := R2.kept k3
      have H3 := H2.below k3
      have G3 := grown_belowT G2 k3
      clear R2 H2 G2 k3
      go_wp2_with fail
      refine (N2.out _ H3).mono ?_
      rintro e w4 ⟨rfl, H4, g4⟩
      have R4 := R3.grown g4 (by simp; omega)
      have G4 := grown_same G3 g4
      clear R3 H3 G3 g4
      go_wp2_with fail
      refine (N3.out _ H4).mono ?_
      rintro e w5 ⟨rfl, H5, g5⟩
      have R5 := R4.grown g5 (by simp; omega)
      have G5 := grown_same G4 g5
      clear R4 H4 G4 g5
      go_wp2_with fail
      refine (N4.out _ H5).mono ?_
      rintro e w6 ⟨rfl, H6, g6⟩
      have R6 := R5.grown g6 (by simp; omega)
      have G6 := grown_same G5 g6
      clear R5 H5 G5 g6
      go_wp2_with fail
      refine (N5.out _ H6).mono ?_
      rintro e w7 ⟨rfl, H7, g7⟩
      have R7 := R6.grown g7 (by simp; omega)
      have G7 := grown_same G6 g7
      clear R6 H6 G6 g7
      go_wp2_with fail
      refine (N6.out _ H7).mono ?_
      rintro e w8 ⟨rfl, H8, g8⟩
      have R8 := R7.grown g8 (by simp; omega)
      have G8 := grown_same G7 g8
      clear R7 H7 G7 g8
      go_wp2_with fail
      refine (N7.out _ H8).mono ?_
      rintro e w9 ⟨rfl, H9, g9⟩
      have R9 := R8.grown g9 (by simp; omega)
      have G9 := grown_same G8 g9
      clear R8 H8 G8 g9
      go_wp2_with fail
      refine (N8.out _ H9).mono ?_
      rintro e w10 ⟨rfl, H10, g10⟩
      have R10 := R9.grown g10 (by simp; omega)
      have G10 := grown_same G9 g10
      clear R9 H9 G9 g10
      go_wp2_with fail
      refine (N9.out _ H10).mono ?_
      rintro e w11 ⟨rfl, H11, g11⟩
      have R11 := R10.grown g11 (by simp; omega)
      have G11 := grown_same G10 g11
      clear R10 H10 G10 g11
      have lt11 : w.heap.size < w11.heap.size := R11.lt
      go_wp2_with (first
        | (refine build_blk (t := 31) (bpC ⟨k, ofF n0, b1, (n2 : Int), b3, p4, q4, (n5 : Int), (n6 : Int), (n7 : Int), (n8 : Int)⟩) (by rfl) rfl (by kernel_rfl) ?_)
        | (refine alloc_blk 31 (bpC zBp) (by rfl) rfl Tryz.bpZero ?_)
        | (refine store_blk (k := 0) 31 (.agg (bpC ⟨k, ofF n0, b1, (n2 : Int), b3, p4, q4, (n5 : Int), (n6 : Int), (n7 : Int), (n8 : Int)⟩)) (bpC ⟨k, ofF n0, b1, (n2 : Int), b3, p4, q4, (n5 : Int), (n6 : Int), (n7 : Int), (n8 : Int)⟩) (by rfl) rfl rfl rfl (Blk.new w11 _ _) (by kernel_rfl) (show (31 : Nat) ≤ 31 from Nat.le_refl 31) (by rfl) (st_whole _ _ rfl) ?_; intro wv V3 b3' g3; have R3 := (R11.alloc (.cells (bpC zBp) 31)).below b3' lt11; have H3 := (H11.al (.cells (bpC zBp) 31)).other (Blk.new w11 _ _) (by decide) (by decide) g3; have G3 := grown_own (grown_same G11 (World.grownBy_alloc w11 (.cells (bpC zBp) 31) (some g))) g3 (by omega)))
      generalize w11.heap.size = A at *
      have lt3 : A < wv.heap.size := V3.lt
      clear R11 H11 G11 b3' g3
      go_wp2_with fail
      refine (err_ok t9 _ H3 c).mono ?_
      rintro e w6 ⟨rfl, rfl⟩
      have RX := R3
      have HX := H3
      have GX := G3
      go_wp2_with (first
        | (refine load_blk (k := 0) 31 (bpC ⟨k, ofF n0, b1, (n2 : Int), b3, p4, q4, (n5 : Int), (n6 : Int), (n7 : Int), (n8 : Int)⟩) (by rfl) rfl rfl V3 (by kernel_rfl) (by kernel_rfl) rfl ?_)
        | (refine store_blk (k := 0) 31 (.agg (bpC ⟨k, ofF n0, b1, (n2 : Int), b3, p4, q4, (n5 : Int), (n6 : Int), (n7 : Int), (n8 : Int)⟩)) (bpC ⟨k, ofF n0, b1, (n2 : Int), b3, p4, q4, (n5 : Int), (n6 : Int), (n7 : Int), (n8 : Int)⟩) (by rfl) rfl rfl rfl RX (by kernel_rfl) (show (31 : Nat) ≤ 31 from Nat.le_refl 31) (by rfl) (st_whole _ _ rfl) ?_; intro wz RZ bz gz; have HZ := HX.other RX (by decide) (by decide) gz; have GZ := grown_own GX gz (Nat.le_refl _)))
      exact bodyPost_ret (results_blk rfl rfl RZ (by kernel_rfl) (by kernel_rfl)) rfl ⟨by rw [HRB.out, HCF.out], HZ, GZ⟩
  · rw [if_neg c] at HRB
    go_enter Tryz.func29, Tryz.ntmps29
    go_wp2_with (refine alloc_blk 31 (bpC zBp) (by rfl) rfl Tryz.bpZero ?_)
    generalize w.alloc (.cells (bpC zBp) 31) = w1 at *
    refine (N1.out _ H1).mono ?_
    rintro e w2 ⟨rfl, H2, g2⟩
    have R2 := R1.grown g2 (by simp; omega)
    have G2 := grown_same G1 g2
    clear R1 H1 G1 g2
    go_wp2_with fail
    refine (HO.out _).mono ?_
    rintro e w3 ⟨rfl, k3⟩
    have R3 := R2.kept k3
    have H3 := H2.below k3
    have G3 := grown_belowT G2 k3
    clear R2 H2 G2 k3
    go_wp2_with fail
    refine (N2.out _ H3).mono ?_
    rintro e w4 ⟨rfl, H4, g4⟩
    have R4 := R3.grown g4 (by simp; omega)
    have G4 := grown_same G3 g4
    clear R3 H3 G3 g4
    go_wp2_with fail
    refine (N3.out _ H4).mono ?_
    rintro e w5 ⟨rfl, H5, g5⟩
    have R5 := R4.grown g5 (by simp; omega)
    have G5 := grown_same G4 g5
    clear R4 H4 G4 g5
    go_wp2_with fail
    refine (N4.out _ H5).mono ?_
    rintro e w6 ⟨rfl, H6, g6⟩
    have R6 := R5.grown g6 (by simp; omega)
    have G6 := grown_same G5 g6
    clear R5 H5 G5 g6
    go_wp2_with fail
    refine (N5.out _ H6).mono ?_
    rintro e w7 ⟨rfl, H7, g7⟩
    have R7 := R6.grown g7 (by simp; omega)
    have G7 := grown_same G6 g7
    clear R6 H6 G6 g7
    go_wp2_with fail
    refine (N6.out _ H7).mono ?_
    rintro e w8 ⟨rfl, H8, g8⟩
    have R8 := R7.grown g8 (by simp; omega)
    have G8 := grown_same G7 g8
    clear R7 H7 G7 g8
    go_wp2_with fail
    refine (N7.out _ H8).mono ?_
    rintro e w9 ⟨rfl, H9, g9⟩
    have R9 := R8.grown g9 (by simp; omega)
    have G9 := grown_same G8 g9
    clear R8 H8 G8 g9
    go_wp2_with fail
    refine (N8.out _ H9).mono ?_
    rintro e w10 ⟨rfl, H10, g10⟩
    have R10 := R9.grown g10 (by simp; omega)
    have G10 := grown_same G9 g10
    clear R9 H9 G9 g10
    go_wp2_with fail
    refine (N9.out _ H10).mono ?_
    rintro e w11 ⟨rfl, H11, g11⟩
    have R11 := R10.grown g11 (by simp; omega)
    have G11 := grown_same G10 g11
    clear R10 H10 G10 g11
    have lt11 : w.heap.size < w11.heap.size := R11.lt
    go_wp2_with (first
      | (refine build_blk (t := 31) (bpC ⟨k, ofF n0, b1, (n2 : Int), b3, p4, q4, (n5 : Int), (n6 : Int), (n7 : Int), (n8 : Int)⟩) (by rfl) rfl (by kernel_rfl) ?_)
      | (refine alloc_blk 31 (bpC zBp) (by rfl) rfl Tryz.bpZero ?_)
      | (refine store_blk (k := 0) 31 (.agg (bpC ⟨k, ofF n0, b1, (n2 : Int), b3, p4, q4, (n5 : Int), (n6 : Int), (n7 : Int), (n8 : Int)⟩)) (bpC ⟨k, ofF n0, b1, (n2 : Int), b3, p4, q4, (n5 : Int), (n6 : Int), (n7 : Int), (n8 : Int)⟩) (by rfl) rfl rfl rfl (Blk.new w11 _ _) (by kernel_rfl) (show (31 : Nat) ≤ 31 from Nat.le_refl 31) (by rfl) (st_whole _ _ rfl) ?_; intro wv V3 b3' g3; have R3 := (R11.alloc (.cells (bpC zBp) 31)).below b3' lt11; have H3 := (H11.al (.cells (bpC zBp) 31)).other (Blk.new w11 _ _) (by decide) (by decide) g3; have G3 := grown_own (grown_same G11 (World.grownBy_alloc w11 (.cells (bpC zBp) 31) (some g))) g3 (by omega)))
    generalize w11.heap.size = A at *
    have lt3 : A < wv.heap.size := V3.lt
    clear R11 H11 G11 b3' g3
    go_wp2_with fail
    refine (err_t t9 _ H3 c).mono ?_
    rintro e w6 ⟨rfl, hf6, k6⟩
    have HX := H3.below k6
    have RX := R3.kept k6
    have GX := grown_belowT G3 k6
    go_wp2_with (first
      | (refine build_blk (t := 31) (bpC zBp) (by rfl) rfl (by kernel_rfl) ?_)
      | (refine store_blk (k := 0) 31 (.agg (bpC zBp)) (bpC zBp) (by rfl) rfl rfl rfl RX (by kernel_rfl) (show (31 : Nat) ≤ 31 from Nat.le_refl 31) (by rfl) (st_whole _ _ rfl) ?_; intro wz RZ bz gz; have HZ := HX.other RX (by decide) (by decide) gz; have GZ := grown_own GX gz (Nat.le_refl _)))
    exact bodyPost_ret (results_blk rfl rfl RZ (by kernel_rfl) (by kernel_rfl)) rfl ⟨by rw [HRB.out], HZ, GZ⟩

end Go.Proofs.YtdjljnpbnhampaaGreatDoor

namespace Go.Proofs.YtdjljnpbnhampaaGreatDoor
open Go.RowKit
set_option linter.unusedVariables false
set_option linter.unusedSimpArgs false

theorem br_go (l : List UInt8) (st : RSt) (h : st.2.1 = 0) (hn : st.1 + 8 ≤ l.length) : rdBs l 0 st = (st.1 + 8, st.2) ∧ rdB l 0 st = ⟨(beN ((l.drop st.1).take 2) : Int) / 4096 * 4096, (beN ((l.drop st.1).take 2) : Int) % 4096, byX ((l.drop (st.1 + 2)).take 6)⟩ := by
  obtain ⟨a1, a2⟩ := nm_go l st 2 (by decide) (by decide) h (by omega)
  have a1' : rdS1 l 0 st = (st.1 + 2, st.2) := a1
  have a2' : rdN l 0 st = beN ((l.drop st.1).take 2) := a2
  have e := tkN_go l 0 (rdS1 l 0 st) 6 false (by rw [a1']; exact h) (by rw [a1']; show st.1 + 2 + 6 ≤ _; omega) (by simp)
  have e1 : rdBs l 0 st = (st.1 + 8, st.2) := by
    unfold rdBs
    rw [show ((6 : Int)) = ((6 : Nat) : Int) from rfl, e, a1']
  have e2 : rdA l 0 st = (l.drop (st.1 + 2)).take 6 := by
    unfold rdA
    rw [show ((6 : Int)) = ((6 : Nat) : Int) from rfl, e, a1']
  refine ⟨e1, ?_⟩
  unfold rdB
  rw [e1, if_pos h, e2, a2']

theorem br_miss1 (l : List UInt8) (st : RSt) (h : st.2.1 = 0) (hn : ¬ st.1 + 2 ≤ l.length) (hp : st.1 ≤ l.length) : rdBs l 0 st = (st.1, 7, (st.1 : Int)) := by
  have a1 : rdS1 l 0 st = (st.1, 7, (st.1 : Int)) := nm_miss l st 2 (by decide) (by decide) h hn hp
  unfold rdBs
  rw [a1, tkN_bad l 0 _ 6 false (by simp)]

theorem br_miss2 (l : List UInt8) (st : RSt) (h : st.2.1 = 0) (hn : st.1 + 2 ≤ l.length) (hn2 : ¬ st.1 + 8 ≤ l.length) : rdBs l 0 st = (st.1 + 2, 7, ((st.1 + 2 : Nat) : Int)) := by
  have a1 : rdS1 l 0 st = (st.1 + 2, st.2) := (nm_go l st 2 (by decide) (by decide) h hn).1
  have e := tkN_miss l 0 (rdS1 l 0 st) 6 false (by rw [a1]; exact h) (by rw [a1]; show ¬ st.1 + 2 + 6 ≤ _; omega) (by rw [a1]; exact hn) (by simp)
  unfold rdBs
  rw [show ((6 : Int)) = ((6 : Nat) : Int) from rfl, e, a1]
  simp

theorem br_bad (l : List UInt8) (st : RSt) (h : ¬ st.2.1 = 0) : rdBs l 0 st = st := by
  have e1 : rdS1 l 0 st = st := nm_bad l st 2 h
  unfold rdBs
  rw [e1, tkN_bad l 0 st 6 false h]

theorem rp_bad (l : List UInt8) (st : RSt) (h : ¬ st.2.1 = 0) : rpSt l 0 st = st := by
  have e1 : rdS1 l 0 st = st := nm_bad l st 2 h
  have e2 : rdN l 0 st = 0 := rdN_bad l 0 st (by rw [e1]; exact h)
  unfold rpSt
  rw [e1, e2, if_pos (by decide), flR_bad st 2 _ h]

theorem rp_miss (l : List UInt8) (st : RSt) (h : st.2.1 = 0) (hn : ¬ st.1 + 2 ≤ l.length) (hp : st.1 ≤ l.length) : rpSt l 0 st = (st.1, 7, (st.1 : Int)) := by
  have a1 : rdS1 l 0 st = (st.1, 7, (st.1 : Int)) := nm_miss l st 2 (by decide) (by decide) h hn hp
  have e2 : rdN l 0 st = 0 := rdN_bad l 0 st (by rw [a1]; simp)
  unfold rpSt
  rw [a1, e2, if_pos (by decide), flR_bad _ 2 _ (by simp)]

theorem rp_zero (l : List UInt8) (st : RSt) (h : st.2.1 = 0) (hn : st.1 + 2 ≤ l.length) (hz : beN ((l.drop st.1).take 2) % 4096 = 0) : (rpSt l 0 st).2 = (2, (st.1 : Int)) := by
  obtain ⟨a1, a2⟩ := nm_go l st 2 (by decide) (by decide) h hn
  have a1' : rdS1 l 0 st = (st.1 + 2, st.2) := a1
  have a2' : rdN l 0 st = beN ((l.drop st.1).take 2) := a2
  unfold rpSt
  rw [a2', if_pos hz, a1']
  unfold flR
  rw [if_neg (by simpa using h)]
  simp

theorem rp_go (l : List UInt8) (st : RSt) (h : st.2.1 = 0) (hn : st.1 + 2 ≤ l.length) (hz : ¬ beN ((l.drop st.1).take 2) % 4096 = 0) : rpSt l 0 st = (st.1 + 2, st.2) ∧ rpP l 0 st = (beN ((l.drop st.1).take 2) : Int) / 4096 * 16 ∧ rpN l 0 st = (beN ((l.drop st.1).take 2) : Int) % 4096 := by
  obtain ⟨a1, a2⟩ := nm_go l st 2 (by decide) (by decide) h hn
  have a1' : rdS1 l 0 st = (st.1 + 2, st.2) := a1
  have a2' : rdN l 0 st = beN ((l.drop st.1).take 2) := a2
  unfold rpSt rpP rpN
  rw [a2', if_neg hz, if_neg hz, if_neg hz, a1']
  exact ⟨rfl, rfl, rfl⟩

section
variable (l : List UInt8) (st : RSt)

theorem bad8 (h : ¬ (sb8 l 0 st).2.1 = 0) : sb9 l 0 st = sb8 l 0 st := nm_bad l _ 2 h

theorem bad7 (h : ¬ (sb7 l 0 st).2.1 = 0) : sb9 l 0 st = sb7 l 0 st := by
  have e : sb8 l 0 st = sb7 l 0 st := nm_bad l _ 2 h
  rw [bad8 l st (by rw [e]; exact h), e]

theorem bad6 (h : ¬ (sb6 l 0 st).2.1 = 0) : sb9 l 0 st = sb6 l 0 st := by
  have e : sb7 l 0 st = sb6 l 0 st := nm_bad l _ 2 h
  rw [bad7 l st (by rw [e]; exact h), e]

theorem bad5 (h : ¬ (sb5 l 0 st).2.1 = 0) : sb9 l 0 st = sb5 l 0 st := by
  have e : sb6 l 0 st = sb5 l 0 st := nm_bad l _ 2 h
  rw [bad6 l st (by rw [e]; exact h), e]

theorem bad4 (h : ¬ (sb4 l 0 st).2.1 = 0) : sb9 l 0 st = sb4 l 0 st := by
  have e : sb5 l 0 st = sb4 l 0 st := rp_bad l _ h
  rw [bad5 l st (by rw [e]; exact h), e]

theorem bad3 (h : ¬ (sb3 l 0 st).2.1 = 0) : sb9 l 0 st = sb3 l 0 st := by
  have e : sb4 l 0 st = sb3 l 0 st := br_bad l _ h
  rw [bad4 l st (by rw [e]; exact h), e]

theorem bad2 (h : ¬ (sb2 l 0 st).2.1 = 0) : sb9 l 0 st = sb2 l 0 st := by
  have e : sb3 l 0 st = sb2 l 0 st := nm_bad l _ 4 h
  rw [bad3 l st (by rw [e]; exact h), e]

theorem bad1 (h : ¬ (sb1 l 0 st).2.1 = 0) : sb9 l 0 st = sb1 l 0 st := by
  have e : sb2 l 0 st = sb1 l 0 st := br_bad l _ h
  rw [bad2 l st (by rw [e]; exact h), e]
end

/-- Both are one. -/
theorem sb_ways (s : ByteArray) (p : Nat) (hp : p ≤ s.size) (k : Int) :
    (∃ e x, bdE s.size p (pzAt s (p + 21)) = some (e, x) ∧ e ≠ 0 ∧ (sb9 s.data.toList 0 (p, 0, -1)).2 = (e, (x : Int))) ∨
    (bdE s.size p (pzAt s (p + 21)) = none ∧ sb9 s.data.toList 0 (p, 0, -1) = (p + 31, 0, -1) ∧ rbRaw s.data.toList 0 (p, 0, -1) k = bpAt s p k) := by
  have hl : s.data.toList.length = s.size := by simp
  generalize hL : s.data.toList = l at *
  have hbe : ∀ q, beAt s q = beN ((l.drop q).take 2) := fun q => by unfold beAt; rw [hL]
  have hnu : ∀ q n, numAt s q n = beN ((l.drop q).take n) := fun q n => by unfold numAt; rw [hL]
  by_cases q0 : s.size < p + 1
  · refine Or.inl ⟨7, p, by unfold bdE; simp only [if_pos q0], by decide, ?_⟩
    have e : sb1 l 0 (p, 0, -1) = (p, 7, ((p : Nat) : Int)) := by
      have e := nm_miss l (p, 0, -1) 1 (by decide) (by decide) rfl (by show ¬ p + 1 ≤ l.length; omega) (by show p ≤ l.length; omega)
      exact e
    rw [bad1 l _ (by rw [e]; simp), e]
    try rfl
  obtain ⟨e1, v1⟩ := nm_go l (p, 0, -1) 1 (by decide) (by decide) rfl (by show p + 1 ≤ l.length; omega)
  replace e1 : sb1 l 0 (p, 0, -1) = (p + 1, 0, -1) := e1
  by_cases q1 : s.size < p + 3
  · refine Or.inl ⟨7, p + 1, by unfold bdE; simp only [if_neg q0, if_pos q1], by decide, ?_⟩
    have e : sb2 l 0 (p, 0, -1) = (p + 1, 7, ((p + 1 : Nat) : Int)) := by
      have e := br_miss1 l (sb1 l 0 (p, 0, -1)) (by rw [e1]) (by rw [e1]; show ¬ p + 1 + 2 ≤ l.length; omega) (by rw [e1]; show p + 1 ≤ l.length; omega)
      rw [e1] at e
      unfold sb2; rw [e1]; exact e
    rw [bad2 l _ (by rw [e]; simp), e]
    try rfl
  by_cases q3 : s.size < p + 9
  · refine Or.inl ⟨7, p + 3, by unfold bdE; simp only [if_neg q0, if_neg q1, if_pos q3], by decide, ?_⟩
    have e : sb2 l 0 (p, 0, -1) = (p + 3, 7, ((p + 3 : Nat) : Int)) := by
      have e := br_miss2 l (sb1 l 0 (p, 0, -1)) (by rw [e1]) (by rw [e1]; show p + 1 + 2 ≤ l.length; omega) (by rw [e1]; show ¬ p + 1 + 8 ≤ l.length; omega)
      rw [e1] at e
      unfold sb2; rw [e1]; exact e
    rw [bad2 l _ (by rw [e]; simp), e]
    try rfl
  obtain ⟨e2, v2⟩ := br_go l (sb1 l 0 (p, 0, -1)) (by rw [e1]) (by rw [e1]; show p + 1 + 8 ≤ l.length; omega)
  rw [e1] at e2 v2
  replace e2 : sb2 l 0 (p, 0, -1) = (p + 9, 0, -1) := by unfold sb2; rw [e1]; exact e2
  by_cases q9 : s.size < p + 13
  · refine Or.inl ⟨7, p + 9, by unfold bdE; simp only [if_neg q0, if_neg q1, if_neg q3, if_pos q9], by decide, ?_⟩
    have e : sb3 l 0 (p, 0, -1) = (p + 9, 7, ((p + 9 : Nat) : Int)) := by
      have e := nm_miss l (sb2 l 0 (p, 0, -1)) 4 (by decide) (by decide) (by rw [e2]) (by rw [e2]; show ¬ p + 9 + 4 ≤ l.length; omega) (by rw [e2]; show p + 9 ≤ l.length; omega)
      rw [e2] at e
      unfold sb3; rw [e2]; exact e
    rw [bad3 l _ (by rw [e]; simp), e]
    try rfl
  obtain ⟨e3, v3⟩ := nm_go l (sb2 l 0 (p, 0, -1)) 4 (by decide) (by decide) (by rw [e2]) (by rw [e2]; show p + 9 + 4 ≤ l.length; omega)
  rw [e2] at e3 v3
  replace e3 : sb3 l 0 (p, 0, -1) = (p + 13, 0, -1) := by unfold sb3; rw [e2]; exact e3
  by_cases q13 : s.size < p + 15
  · refine Or.inl ⟨7, p + 13, by unfold bdE; simp only [if_neg q0, if_neg q1, if_neg q3, if_neg q9, if_pos q13], by decide, ?_⟩
    have e : sb4 l 0 (p, 0, -1) = (p + 13, 7, ((p + 13 : Nat) : Int)) := by
      have e := br_miss1 l (sb3 l 0 (p, 0, -1)) (by rw [e3]) (by rw [e3]; show ¬ p + 13 + 2 ≤ l.length; omega) (by rw [e3]; show p + 13 ≤ l.length; omega)
      rw [e3] at e
      unfold sb4; rw [e3]; exact e
    rw [bad4 l _ (by rw [e]; simp), e]
    try rfl
  by_cases q15 : s.size < p + 21
  · refine Or.inl ⟨7, p + 15, by unfold bdE; simp only [if_neg q0, if_neg q1, if_neg q3, if_neg q9, if_neg q13, if_pos q15], by decide, ?_⟩
    have e : sb4 l 0 (p, 0, -1) = (p + 15, 7, ((p + 15 : Nat) : Int)) := by
      have e := br_miss2 l (sb3 l 0 (p, 0, -1)) (by rw [e3]) (by rw [e3]; show p + 13 + 2 ≤ l.length; omega) (by rw [e3]; show ¬ p + 13 + 8 ≤ l.length; omega)
      rw [e3] at e
      unfold sb4; rw [e3]; exact e
    rw [bad4 l _ (by rw [e]; simp), e]
    try rfl
  obtain ⟨e4, v4⟩ := br_go l (sb3 l 0 (p, 0, -1)) (by rw [e3]) (by rw [e3]; show p + 13 + 8 ≤ l.length; omega)
  rw [e3] at e4 v4
  replace e4 : sb4 l 0 (p, 0, -1) = (p + 21, 0, -1) := by unfold sb4; rw [e3]; exact e4
  by_cases q21 : s.size < p + 23
  · refine Or.inl ⟨7, p + 21, by unfold bdE; simp only [if_neg q0, if_neg q1, if_neg q3, if_neg q9, if_neg q13, if_neg q15, if_pos q21], by decide, ?_⟩
    have e : sb5 l 0 (p, 0, -1) = (p + 21, 7, ((p + 21 : Nat) : Int)) := by
      have e := rp_miss l (sb4 l 0 (p, 0, -1)) (by rw [e4]) (by rw [e4]; show ¬ p + 21 + 2 ≤ l.length; omega) (by rw [e4]; show p + 21 ≤ l.length; omega)
      rw [e4] at e
      unfold sb5; rw [e4]; exact e
    rw [bad5 l _ (by rw [e]; simp), e]
    try rfl
  by_cases qz : pzAt s (p + 21) = true
  · refine Or.inl ⟨2, p + 21, by unfold bdE; simp only [if_neg q0, if_neg q1, if_neg q3, if_neg q9, if_neg q13, if_neg q15, if_neg q21, if_pos qz], by decide, ?_⟩
    have hz : beN ((l.drop (p + 21)).take 2) % 4096 = 0 := by unfold pzAt at qz; rw [beq_iff_eq, hbe] at qz; exact qz
    have e := rp_zero l (sb4 l 0 (p, 0, -1)) (by rw [e4]) (by rw [e4]; show p + 21 + 2 ≤ l.length; omega) (by rw [e4]; exact hz)
    rw [e4] at e
    have e5 : (sb5 l 0 (p, 0, -1)).2 = (2, ((p + 21 : Nat) : Int)) := by unfold sb5; rw [e4]; exact e
    rw [bad5 l _ (by rw [e5]; simp), e5]
  have hz : ¬ beN ((l.drop (p + 21)).take 2) % 4096 = 0 := by unfold pzAt at qz; rw [beq_iff_eq, hbe] at qz; exact qz
  obtain ⟨e5, v5, u5⟩ := rp_go l (sb4 l 0 (p, 0, -1)) (by rw [e4]) (by rw [e4]; show p + 21 + 2 ≤ l.length; omega) (by rw [e4]; exact hz)
  rw [e4] at e5 v5 u5
  replace e5 : sb5 l 0 (p, 0, -1) = (p + 23, 0, -1) := by unfold sb5; rw [e4]; exact e5
  by_cases q23 : s.size < p + 25
  · refine Or.inl ⟨7, p + 23, by unfold bdE; simp only [if_neg q0, if_neg q1, if_neg q3, if_neg q9, if_neg q13, if_neg q15, if_neg q21, if_neg qz, if_pos q23], by decide, ?_⟩
    have e : sb6 l 0 (p, 0, -1) = (p + 23, 7, ((p + 23 : Nat) : Int)) := by
      have e := nm_miss l (sb5 l 0 (p, 0, -1)) 2 (by decide) (by decide) (by rw [e5]) (by rw [e5]; show ¬ p + 23 + 2 ≤ l.length; omega) (by rw [e5]; show p + 23 ≤ l.length; omega)
      rw [e5] at e
      unfold sb6; rw [e5]; exact e
    rw [bad6 l _ (by rw [e]; simp), e]
    try rfl
  obtain ⟨e6, v6⟩ := nm_go l (sb5 l 0 (p, 0, -1)) 2 (by decide) (by decide) (by rw [e5]) (by rw [e5]; show p + 23 + 2 ≤ l.length; omega)
  rw [e5] at e6 v6
  replace e6 : sb6 l 0 (p, 0, -1) = (p + 25, 0, -1) := by unfold sb6; rw [e5]; exact e6
  by_cases q25 : s.size < p + 27
  · refine Or.inl ⟨7, p + 25, by unfold bdE; simp only [if_neg q0, if_neg q1, if_neg q3, if_neg q9, if_neg q13, if_neg q15, if_neg q21, if_neg qz, if_neg q23, if_pos q25], by decide, ?_⟩
    have e : sb7 l 0 (p, 0, -1) = (p + 25, 7, ((p + 25 : Nat) : Int)) := by
      have e := nm_miss l (sb6 l 0 (p, 0, -1)) 2 (by decide) (by decide) (by rw [e6]) (by rw [e6]; show ¬ p + 25 + 2 ≤ l.length; omega) (by rw [e6]; show p + 25 ≤ l.length; omega)
      rw [e6] at e
      unfold sb7; rw [e6]; exact e
    rw [bad7 l _ (by rw [e]; simp), e]
    try rfl
  obtain ⟨e7, v7⟩ := nm_go l (sb6 l 0 (p, 0, -1)) 2 (by decide) (by decide) (by rw [e6]) (by rw [e6]; show p + 25 + 2 ≤ l.length; omega)
  rw [e6] at e7 v7
  replace e7 : sb7 l 0 (p, 0, -1) = (p + 27, 0, -1) := by unfold sb7; rw [e6]; exact e7
  by_cases q27 : s.size < p + 29
  · refine Or.inl ⟨7, p + 27, by unfold bdE; simp only [if_neg q0, if_neg q1, if_neg q3, if_neg q9, if_neg q13, if_neg q15, if_neg q21, if_neg qz, if_neg q23, if_neg q25, if_pos q27], by decide, ?_⟩
    have e : sb8 l 0 (p, 0, -1) = (p + 27, 7, ((p + 27 : Nat) : Int)) := by
      have e := nm_miss l (sb7 l 0 (p, 0, -1)) 2 (by decide) (by decide) (by rw [e7]) (by rw [e7]; show ¬ p + 27 + 2 ≤ l.length; omega) (by rw [e7]; show p + 27 ≤ l.length; omega)
      rw [e7] at e
      unfold sb8; rw [e7]; exact e
    rw [bad8 l _ (by rw [e]; simp), e]
    try rfl
  obtain ⟨e8, v8⟩ := nm_go l (sb7 l 0 (p, 0, -1)) 2 (by decide) (by decide) (by rw [e7]) (by rw [e7]; show p + 27 + 2 ≤ l.length; omega)
  rw [e7] at e8 v8
  replace e8 : sb8 l 0 (p, 0, -1) = (p + 29, 0, -1) := by unfold sb8; rw [e7]; exact e8
  by_cases q29 : s.size < p + 31
  · refine Or.inl ⟨7, p + 29, by unfold bdE; simp only [if_neg q0, if_neg q1, if_neg q3, if_neg q9, if_neg q13, if_neg q15, if_neg q21, if_neg qz, if_neg q23, if_neg q25, if_neg q27, if_pos q29], by decide, ?_⟩
    have e : sb9 l 0 (p, 0, -1) = (p + 29, 7, ((p + 29 : Nat) : Int)) := by
      have e := nm_miss l (sb8 l 0 (p, 0, -1)) 2 (by decide) (by decide) (by rw [e8]) (by rw [e8]; show ¬ p + 29 + 2 ≤ l.length; omega) (by rw [e8]; show p + 29 ≤ l.length; omega)
      rw [e8] at e
      unfold sb9; rw [e8]; exact e
    rw [e]
    try rfl
  obtain ⟨e9, v9⟩ := nm_go l (sb8 l 0 (p, 0, -1)) 2 (by decide) (by decide) (by rw [e8]) (by rw [e8]; show p + 29 + 2 ≤ l.length; omega)
  rw [e8] at e9 v9
  replace e9 : sb9 l 0 (p, 0, -1) = (p + 31, 0, -1) := by unfold sb9; rw [e8]; exact e9
  refine Or.inr ⟨by unfold bdE; simp only [if_neg q0, if_neg q1, if_neg q3, if_neg q9, if_neg q13, if_neg q15, if_neg q21, if_neg qz, if_neg q23, if_neg q25, if_neg q27, if_neg q29], e9, ?_⟩
  unfold rbRaw bpAt
  rw [e1, e2, e3, e4, e5, e6, e7, e8]
  have w1 : nmV l 0 (p, 0, -1) 1 = numAt s p 1 := by rw [hnu]; exact v1
  have w2 : rdB l 0 (p + 1, 0, -1) = brAt s (p + 1) := by unfold brAt; rw [hbe, hL]; exact v2
  have w3 : nmV l 0 (p + 9, 0, -1) 4 = numAt s (p + 9) 4 := by rw [hnu]; exact v3
  have w4 : rdB l 0 (p + 13, 0, -1) = brAt s (p + 13) := by unfold brAt; rw [hbe, hL]; exact v4
  have w6 : nmV l 0 (p + 23, 0, -1) 2 = numAt s (p + 23) 2 := by rw [hnu]; exact v6
  have w7 : nmV l 0 (p + 25, 0, -1) 2 = numAt s (p + 25) 2 := by rw [hnu]; exact v7
  have w8 : nmV l 0 (p + 27, 0, -1) 2 = numAt s (p + 27) 2 := by rw [hnu]; exact v8
  have w9 : nmV l 0 (p + 29, 0, -1) 2 = numAt s (p + 29) 2 := by rw [hnu]; exact v9
  rw [w1, w2, w3, w4, v5, u5, w6, w7, w8, w9, hbe]

end Go.Proofs.YtdjljnpbnhampaaGreatDoor

namespace Go.Proofs.YtdjljnpbnhampaaGreatDoor
open Go.RowKit

/-- What 'pick' comes to. -/
theorem pick_val (a : Int) (n : Nat) (h1 : 1 ≤ n) (hn : n ≤ 281474976710656) : ∃ r : Nat, wrap64 ((IntKind.u64.wrap a).tmod (n : Int)) = (r : Int) ∧ r < n := by
  have hw := wrap_u64_nonneg a
  have e : (IntKind.u64.wrap a).tmod (n : Int) = IntKind.u64.wrap a % (n : Int) := Int.tmod_eq_emod_of_nonneg hw
  have h0 := Int.emod_nonneg (IntKind.u64.wrap a) (show (n : Int) ≠ 0 by omega)
  have h2 := Int.emod_lt_of_pos (IntKind.u64.wrap a) (show (0 : Int) < n by omega)
  rw [e]
  generalize IntKind.u64.wrap a % (n : Int) = z at h0 h2
  refine ⟨z.toNat, ?_, by omega⟩
  unfold wrap64
  omega



theorem grown_below {B g : Nat} {a w w' : World} (h : Below B a w) (hg : w.grownBy w' (some g)) (hB : B ≤ w.heap.size) (hr : B ≤ g) : Below B a w' :=
  h.grown hg hB fun k e => by cases e; exact hr



end Go.Proofs.YtdjljnpbnhampaaGreatDoor

namespace Go.Proofs
open Go.Shelf
def Tryz.lays170_ren : Go.Shelf.Ren := ⟨fun | 170 => 41 | n => n, fun | 70 => 50 | 3 => 3 | 0 => 0 | 72 => 53 | 37 => 51 | 5 => 5 | n => n, fun | n => n⟩
theorem Tryz.lays170 : Go.Proofs.Lays.n170 Tryz.prog Tryz.lays170_ren := {
  mixed := by kernel_rfl
  f170 := Tryz.func41.trans (congrArg some (by kernel_rfl))
  t0 := Tryz.underlying0
  a0 := Tryz.isAgg0
  z0 := Tryz.sizeOf0
  v0 := Tryz.zeroValue0
  t3 := Tryz.underlying3
  a3 := Tryz.isAgg3
  z3 := Tryz.sizeOf3
  v3 := Tryz.zeroValue3
  t37 := Tryz.underlying51
  a37 := Tryz.isAgg51
  z37 := Tryz.sizeOf51
  v37 := Tryz.zeroValue51
  t70 := Tryz.underlying50
  a70 := Tryz.isAgg50
  z70 := Tryz.sizeOf50
  v70 := Tryz.zeroValue50
  t72 := Tryz.underlying53
  a72 := Tryz.isAgg53
  z72 := Tryz.sizeOf53
  v72 := Tryz.zeroValue53 }
open Go.RowKit in
/-- (*strings.Builder).Len: "Len returns the number of accumulated bytes; b.Len() == len(b.String()).": the world is as it was. (LAID: no walk: one application.) -/
theorem Tryz.Builder_Len (B b : Nat) (bs : List Value) (w : World) (h : Lib.IsBuilder 53 5 B b bs w) :
    Calls Tryz.prog 41 #[.pointer (some ⟨b, 0, none⟩)] w fun e w' => e = .returned (.int .i64 bs.length) ∧ w' = w := Any.Builder_Len Tryz.lays170 B b bs w h
def Tryz.lays169_ren : Go.Shelf.Ren := ⟨fun | 169 => 18 | n => n, fun | 70 => 50 | 9 => 9 | 0 => 0 | 72 => 53 | 37 => 51 | 127 => 94 | 3 => 3 | 5 => 5 | n => n, fun | n => n⟩
theorem Tryz.lays169 : Go.Proofs.Lays.n169 Tryz.prog Tryz.lays169_ren := {
  mixed := by kernel_rfl
  f169 := Tryz.func18.trans (congrArg some (by kernel_rfl))
  t0 := Tryz.underlying0
  a0 := Tryz.isAgg0
  z0 := Tryz.sizeOf0
  v0 := Tryz.zeroValue0
  t3 := Tryz.underlying3
  a3 := Tryz.isAgg3
  z3 := Tryz.sizeOf3
  v3 := Tryz.zeroValue3
  t9 := Tryz.underlying9
  a9 := Tryz.isAgg9
  z9 := Tryz.sizeOf9
  v9 := Tryz.zeroValue9
  t37 := Tryz.underlying51
  a37 := Tryz.isAgg51
  z37 := Tryz.sizeOf51
  v37 := Tryz.zeroValue51
  t70 := Tryz.underlying50
  a70 := Tryz.isAgg50
  z70 := Tryz.sizeOf50
  v70 := Tryz.zeroValue50
  t72 := Tryz.underlying53
  a72 := Tryz.isAgg53
  z72 := Tryz.sizeOf53
  v72 := Tryz.zeroValue53
  t127 := Tryz.underlying94
  a127 := Tryz.isAgg94
  z127 := Tryz.sizeOf94
  v127 := Tryz.zeroValue94 }
theorem Tryz.Builder_Extra_169 : Builder.Extra Tryz.prog Tryz.lays169_ren := {
  sizeBuilder := by kernel_rfl
  liesBuilder := by kernel_rfl
  t5 := Tryz.underlying5
  a5 := Tryz.isAgg5
  z5 := Tryz.sizeOf5
  v5 := Tryz.zeroValue5
  infoByte := by kernel_rfl
  cellsByte := by kernel_rfl
  sizeByte := by kernel_rfl
  neB5 := by decide }
open Go.RowKit in
/-- (*strings.Builder).String: "String returns the accumulated string.": OF A BUILDER THAT HOLDS AT LEAST ONE BYTE. ✋ THE MODEL FREEZES THOSE BYTES IN THE BUFFER (unsafe.String): a later write INTO them ends the model's run without an answer; a later append BEHIND them goes on. The statement's order of evaluation is drawn: one draw. (LAID: no walk: one application.) -/
theorem Tryz.Builder_String (B b : Nat) (l : List UInt8) (w : World) (h : Lib.IsBuilder 53 5 B b (Lib.byteCells l) w) (h0 : l ≠ []) :
    Calls Tryz.prog 18 #[.pointer (some ⟨b, 0, none⟩)] w fun e w' => e = .returned (.string ⟨l.toArray⟩) ∧ Below B w w' := Any.Builder_String Tryz.lays169 Tryz.Builder_Extra_169 B b l w h h0
open Go.RowKit in
/-- (*strings.Builder).String OF A BUILDER THAT HOLDS NO BYTE: the empty string. (Its buffer is nil, or a row of which it has taken nothing yet; where that row has NO capacity the model lays one new block for unsafe.SliceData's 'some address'.) One draw. (LAID: no walk: one application.) -/
theorem Tryz.Builder_String_empty (B b : Nat) (w : World) (h : Lib.IsBuilder 53 5 B b [] w) (hBw : B ≤ w.heap.size) :
    Calls Tryz.prog 18 #[.pointer (some ⟨b, 0, none⟩)] w fun e w' => e = .returned (.string ⟨#[]⟩) ∧ Below B w w' := Any.Builder_String_empty Tryz.lays169 Tryz.Builder_Extra_169 B b w h hBw
open Go.RowKit in
/-- (*strings.Builder).String: "String returns the accumulated string.": WHATEVER THE BUILDER HOLDS. (LAID: no walk: one application.) -/
theorem Tryz.Builder_String_any (B b : Nat) (l : List UInt8) (w : World) (h : Lib.IsBuilder 53 5 B b (Lib.byteCells l) w) (hBw : B ≤ w.heap.size) :
    Calls Tryz.prog 18 #[.pointer (some ⟨b, 0, none⟩)] w fun e w' => e = .returned (.string ⟨l.toArray⟩) ∧ Below B w w' := Any.Builder_String_any Tryz.lays169 Tryz.Builder_Extra_169 B b l w h hBw
def Tryz.lays241_ren : Go.Shelf.Ren := ⟨fun | 241 => 70 | 277 => 81 | n => n, fun | 70 => 50 | 3 => 3 | 0 => 0 | 72 => 53 | 37 => 51 | 5 => 5 | n => n, fun | n => n⟩
theorem Tryz.lays241 : Go.Proofs.Lays.n241 Tryz.prog Tryz.lays241_ren := {
  mixed := by kernel_rfl
  f241 := Tryz.func70.trans (congrArg some (by kernel_rfl))
  f277 := Tryz.func81.trans (congrArg some (by kernel_rfl))
  t0 := Tryz.underlying0
  a0 := Tryz.isAgg0
  z0 := Tryz.sizeOf0
  v0 := Tryz.zeroValue0
  t3 := Tryz.underlying3
  a3 := Tryz.isAgg3
  z3 := Tryz.sizeOf3
  v3 := Tryz.zeroValue3
  t37 := Tryz.underlying51
  a37 := Tryz.isAgg51
  z37 := Tryz.sizeOf51
  v37 := Tryz.zeroValue51
  t70 := Tryz.underlying50
  a70 := Tryz.isAgg50
  z70 := Tryz.sizeOf50
  v70 := Tryz.zeroValue50
  t72 := Tryz.underlying53
  a72 := Tryz.isAgg53
  z72 := Tryz.sizeOf53
  v72 := Tryz.zeroValue53 }
theorem Tryz.Builder_Extra_241 : Builder.Extra Tryz.prog Tryz.lays241_ren := {
  sizeBuilder := by kernel_rfl
  liesBuilder := by kernel_rfl
  t5 := Tryz.underlying5
  a5 := Tryz.isAgg5
  z5 := Tryz.sizeOf5
  v5 := Tryz.zeroValue5
  infoByte := by kernel_rfl
  cellsByte := by kernel_rfl
  sizeByte := by kernel_rfl
  neB5 := by decide }
open Go.RowKit in
/-- (*strings.Builder).grow (no doc but "grow copies the buffer to a new, larger buffer so that there are at least n bytes of capacity beyond len(b.buf)."): AT A BUILDER WITHOUT A BUFFER: a new row of whatever bytes for its buffer, none of them its own yet. Three draws. (LAID: no walk: one application.) -/
theorem Tryz.Builder_grow_fresh (B b n : Nat) (w : World) (hB : B ≤ b) (hbk : w.heap[b]? = some (.cells #[.pointer (some ⟨b, 0, none⟩), .slice none 0 0] 53 (0, 0))) (hBw : B ≤ w.heap.size) (hn : n ≤ 281474976710656) :
    Calls Tryz.prog 70 #[.pointer (some ⟨b, 0, none⟩), .int .i64 n] w fun e w' => e = .returned (.tuple #[]) ∧ (Lib.BuilderAt 53 5 B b (.pointer (some ⟨b, 0, none⟩)) [] w' ∧ Below B w w') := Any.Builder_grow_fresh Tryz.lays241 Tryz.Builder_Extra_241 B b n w hB hbk hBw hn
def Tryz.lays165_ren : Go.Shelf.Ren := ⟨fun | 165 => 40 | 240 => 42 | 241 => 70 | 276 => 71 | 277 => 81 | n => n, fun | 70 => 50 | 3 => 3 | 0 => 0 | 4 => 4 | 9 => 9 | 20 => 20 | 72 => 53 | 37 => 51 | 164 => 100 | 5 => 5 | n => n, fun | n => n⟩
theorem Tryz.lays165 : Go.Proofs.Lays.n165 Tryz.prog Tryz.lays165_ren := {
  mixed := by kernel_rfl
  f165 := Tryz.func40.trans (congrArg some (by kernel_rfl))
  f240 := Tryz.func42.trans (congrArg some (by kernel_rfl))
  f241 := Tryz.func70.trans (congrArg some (by kernel_rfl))
  f276 := Tryz.func71.trans (congrArg some (by kernel_rfl))
  f277 := Tryz.func81.trans (congrArg some (by kernel_rfl))
  t0 := Tryz.underlying0
  a0 := Tryz.isAgg0
  z0 := Tryz.sizeOf0
  v0 := Tryz.zeroValue0
  t3 := Tryz.underlying3
  a3 := Tryz.isAgg3
  z3 := Tryz.sizeOf3
  v3 := Tryz.zeroValue3
  t4 := Tryz.underlying4
  a4 := Tryz.isAgg4
  z4 := Tryz.sizeOf4
  v4 := Tryz.zeroValue4
  t9 := Tryz.underlying9
  a9 := Tryz.isAgg9
  z9 := Tryz.sizeOf9
  v9 := Tryz.zeroValue9
  t20 := Tryz.underlying20
  a20 := Tryz.isAgg20
  z20 := Tryz.sizeOf20
  v20 := Tryz.zeroValue20
  t37 := Tryz.underlying51
  a37 := Tryz.isAgg51
  z37 := Tryz.sizeOf51
  v37 := Tryz.zeroValue51
  t70 := Tryz.underlying50
  a70 := Tryz.isAgg50
  z70 := Tryz.sizeOf50
  v70 := Tryz.zeroValue50
  t72 := Tryz.underlying53
  a72 := Tryz.isAgg53
  z72 := Tryz.sizeOf53
  v72 := Tryz.zeroValue53
  t164 := Tryz.underlying100
  a164 := Tryz.isAgg100
  z164 := Tryz.sizeOf100
  v164 := Tryz.zeroValue100 }
theorem Tryz.Builder_Extra_165 : Builder.Extra Tryz.prog Tryz.lays165_ren := {
  sizeBuilder := by kernel_rfl
  liesBuilder := by kernel_rfl
  t5 := Tryz.underlying5
  a5 := Tryz.isAgg5
  z5 := Tryz.sizeOf5
  v5 := Tryz.zeroValue5
  infoByte := by kernel_rfl
  cellsByte := by kernel_rfl
  sizeByte := by kernel_rfl
  neB5 := by decide }
open Go.RowKit in
/-- (*strings.Builder).Grow AT A BUILDER THAT HAS NOT BEEN WRITTEN ('var b strings.Builder; b.Grow(n)'): "Grow grows b's capacity, if necessary, to guarantee space for another n bytes.": it holds no byte behind it as before it. (LAID: no walk: one application.) -/
theorem Tryz.Builder_Grow_fresh (B b n : Nat) (w : World) (hB : B ≤ b) (hbk : w.heap[b]? = some (.cells #[.pointer none, .slice none 0 0] 53 (0, 0))) (hBw : B ≤ w.heap.size) (hn : n ≤ 281474976710656) :
    Calls Tryz.prog 40 #[.pointer (some ⟨b, 0, none⟩), .int .i64 n] w fun e w' => e = .returned (.tuple #[]) ∧ (Lib.BuilderAt 53 5 B b (.pointer (some ⟨b, 0, none⟩)) [] w' ∧ Below B w w') := Any.Builder_Grow_fresh Tryz.lays165 Tryz.Builder_Extra_165 B b n w hB hbk hBw hn
def Tryz.lays232_ren : Go.Shelf.Ren := ⟨fun | 232 => 62 | n => n, fun | 9 => 9 | 5 => 5 | 3 => 3 | 4 => 4 | n => n, fun | n => n⟩
theorem Tryz.lays232 : Go.Proofs.Lays.n232 Tryz.prog Tryz.lays232_ren := {
  mixed := by kernel_rfl
  f232 := Tryz.func62.trans (congrArg some (by kernel_rfl))
  t3 := Tryz.underlying3
  a3 := Tryz.isAgg3
  z3 := Tryz.sizeOf3
  v3 := Tryz.zeroValue3
  t4 := Tryz.underlying4
  a4 := Tryz.isAgg4
  z4 := Tryz.sizeOf4
  v4 := Tryz.zeroValue4
  t5 := Tryz.underlying5
  a5 := Tryz.isAgg5
  z5 := Tryz.sizeOf5
  v5 := Tryz.zeroValue5
  t9 := Tryz.underlying9
  a9 := Tryz.isAgg9
  z9 := Tryz.sizeOf9
  v9 := Tryz.zeroValue9 }
open Go.RowKit in
/-- strings.trimRightByte (no doc; what TrimRight and Trim call at a cutset of one ASCII byte): the trailing bytes that are c are cut off. The world is as it was. ('hs': a string's length is a number that an int holds.) (LAID: no walk: one application.) -/
theorem Tryz.strings_trimRightByte (s : ByteArray) (c : UInt8) (w : World) (hs : s.size ≤ 9223372036854775807) :
    Calls Tryz.prog 62 #[.string s, .int .u8 c.toNat] w fun e w' => e = .returned (.string ⟨(Lib.trimRightB s.data.toList c).toArray⟩) ∧ w' = w := Any.strings_trimRightByte Tryz.lays232 s c w hs
def Tryz.lays162_ren : Go.Shelf.Ren := ⟨fun | 162 => 31 | 232 => 62 | 227 => 63 | 234 => 64 | 236 => 65 | 228 => 78 | 271 => 79 | 151 => 80 | 120 => 82 | 197 => 83 | 152 => 84 | 260 => 85 | 137 => 86 | 119 => 87 | 224 => 88 | 225 => 89 | 217 => 90 | 266 => 91 | n => n, fun | 9 => 9 | 4 => 4 | 3 => 3 | 5 => 5 | 117 => 123 | 116 => 122 | 0 => 0 | 124 => 126 | 21 => 21 | 105 => 151 | 46 => 83 | 119 => 159 | 139 => 162 | 138 => 161 | n => n, fun | 3 => 2 | 4 => 3 | n => n⟩
theorem Tryz.lays162 : Go.Proofs.Lays.n162 Tryz.prog Tryz.lays162_ren := {
  mixed := by kernel_rfl
  f119 := Tryz.func87.trans (congrArg some (by kernel_rfl))
  f120 := Tryz.func82.trans (congrArg some (by kernel_rfl))
  f137 := Tryz.func86.trans (congrArg some (by kernel_rfl))
  f151 := Tryz.func80.trans (congrArg some (by kernel_rfl))
  f152 := Tryz.func84.trans (congrArg some (by kernel_rfl))
  f162 := Tryz.func31.trans (congrArg some (by kernel_rfl))
  f197 := Tryz.func83.trans (congrArg some (by kernel_rfl))
  f217 := Tryz.func90.trans (congrArg some (by kernel_rfl))
  f224 := Tryz.func88.trans (congrArg some (by kernel_rfl))
  f225 := Tryz.func89.trans (congrArg some (by kernel_rfl))
  f227 := Tryz.func63.trans (congrArg some (by kernel_rfl))
  f228 := Tryz.func78.trans (congrArg some (by kernel_rfl))
  f232 := Tryz.func62.trans (congrArg some (by kernel_rfl))
  f234 := Tryz.func64.trans (congrArg some (by kernel_rfl))
  f236 := Tryz.func65.trans (congrArg some (by kernel_rfl))
  f260 := Tryz.func85.trans (congrArg some (by kernel_rfl))
  f266 := Tryz.func91.trans (congrArg some (by kernel_rfl))
  f271 := Tryz.func79.trans (congrArg some (by kernel_rfl))
  t0 := Tryz.underlying0
  a0 := Tryz.isAgg0
  z0 := Tryz.sizeOf0
  v0 := Tryz.zeroValue0
  t3 := Tryz.underlying3
  a3 := Tryz.isAgg3
  z3 := Tryz.sizeOf3
  v3 := Tryz.zeroValue3
  t4 := Tryz.underlying4
  a4 := Tryz.isAgg4
  z4 := Tryz.sizeOf4
  v4 := Tryz.zeroValue4
  t5 := Tryz.underlying5
  a5 := Tryz.isAgg5
  z5 := Tryz.sizeOf5
  v5 := Tryz.zeroValue5
  t9 := Tryz.underlying9
  a9 := Tryz.isAgg9
  z9 := Tryz.sizeOf9
  v9 := Tryz.zeroValue9
  t21 := Tryz.underlying21
  a21 := Tryz.isAgg21
  z21 := Tryz.sizeOf21
  v21 := Tryz.zeroValue21
  t46 := Tryz.underlying83
  a46 := Tryz.isAgg83
  z46 := Tryz.sizeOf83
  v46 := Tryz.zeroValue83
  t105 := Tryz.underlying151
  a105 := Tryz.isAgg151
  z105 := Tryz.sizeOf151
  v105 := Tryz.zeroValue151
  t116 := Tryz.underlying122
  a116 := Tryz.isAgg122
  z116 := Tryz.sizeOf122
  t117 := Tryz.underlying123
  a117 := Tryz.isAgg123
  z117 := Tryz.sizeOf123
  v117 := Tryz.zeroValue123
  t119 := Tryz.underlying159
  a119 := Tryz.isAgg159
  z119 := Tryz.sizeOf159
  t124 := Tryz.underlying126
  a124 := Tryz.isAgg126
  z124 := Tryz.sizeOf126
  v124 := Tryz.zeroValue126
  t138 := Tryz.underlying161
  a138 := Tryz.isAgg161
  z138 := Tryz.sizeOf161
  v138 := Tryz.zeroValue161
  t139 := Tryz.underlying162
  a139 := Tryz.isAgg162
  z139 := Tryz.sizeOf162
  v139 := Tryz.zeroValue162
  g3 := by kernel_rfl
  g4 := by kernel_rfl }
open Go.RowKit in
/-- strings.TrimRight: "TrimRight returns a slice of the string s, with all trailing Unicode code points contained in cutset removed.": AT A cutset OF ONE ASCII BYTE. The world is as it was. (LAID: no walk: one application.) -/
theorem Tryz.strings_TrimRight_one (s : ByteArray) (c : UInt8) (hc : c.toNat < 128) (w : World) (hs : s.size ≤ 9223372036854775807) :
    Calls Tryz.prog 31 #[.string s, .string ⟨#[c]⟩] w fun e w' => e = .returned (.string ⟨(Lib.trimRightB s.data.toList c).toArray⟩) ∧ w' = w := Any.strings_TrimRight_one Tryz.lays162 s c hc w hs
def Tryz.lays119_ren : Go.Shelf.Ren := ⟨fun | 119 => 87 | n => n, fun | 21 => 21 | 4 => 4 | n => n, fun | n => n⟩
theorem Tryz.lays119 : Go.Proofs.Lays.n119 Tryz.prog Tryz.lays119_ren := {
  mixed := by kernel_rfl
  f119 := Tryz.func87.trans (congrArg some (by kernel_rfl))
  t4 := Tryz.underlying4
  a4 := Tryz.isAgg4
  z4 := Tryz.sizeOf4
  v4 := Tryz.zeroValue4
  t21 := Tryz.underlying21
  a21 := Tryz.isAgg21
  z21 := Tryz.sizeOf21
  v21 := Tryz.zeroValue21 }
/-- utf8.ValidRune: "ValidRune reports whether r can be legally encoded as UTF-8. Code points that are out of range or a surrogate half are illegal.": IT RETURNS 'Lib.validRune r'; the world is as it was. (LAID: no walk: one application.) -/
theorem Tryz.utf8_ValidRune (r : Int) (w : World) :
    Calls Tryz.prog 87 #[.int .i32 r] w fun e w' => e = .returned (.bool (Lib.validRune r)) ∧ w' = w := Any.utf8_ValidRune Tryz.lays119 r w
def Tryz.lays120_ren : Go.Shelf.Ren := ⟨fun | 120 => 82 | n => n, fun | 5 => 5 | 4 => 4 | n => n, fun | n => n⟩
theorem Tryz.lays120 : Go.Proofs.Lays.n120 Tryz.prog Tryz.lays120_ren := {
  mixed := by kernel_rfl
  f120 := Tryz.func82.trans (congrArg some (by kernel_rfl))
  t4 := Tryz.underlying4
  a4 := Tryz.isAgg4
  z4 := Tryz.sizeOf4
  v4 := Tryz.zeroValue4
  t5 := Tryz.underlying5
  a5 := Tryz.isAgg5
  z5 := Tryz.sizeOf5
  v5 := Tryz.zeroValue5 }
/-- utf8.RuneStart: "RuneStart reports whether the byte could be the first byte of an encoded, possibly invalid rune. Second and subsequent bytes always have the top two bits set to 10.": IT RETURNS 'Lib.runeStart b'; the world is as it was. ('h0', 'h1': b is a byte: a caller has it of every byte that it was handed.) (LAID: no walk: one application.) -/
theorem Tryz.utf8_RuneStart (b : Int) (w : World) (h0 : 0 ≤ b) (h1 : b < 256) :
    Calls Tryz.prog 82 #[.int .u8 b] w fun e w' => e = .returned (.bool (Lib.runeStart b)) ∧ w' = w := Any.utf8_RuneStart Tryz.lays120 b w h0 h1
def Tryz.lays137_ren : Go.Shelf.Ren := ⟨fun | 137 => 86 | 217 => 90 | 266 => 91 | n => n, fun | 9 => 9 | 5 => 5 | 3 => 3 | n => n, fun | n => n⟩
theorem Tryz.lays137 : Go.Proofs.Lays.n137 Tryz.prog Tryz.lays137_ren := {
  mixed := by kernel_rfl
  f137 := Tryz.func86.trans (congrArg some (by kernel_rfl))
  f217 := Tryz.func90.trans (congrArg some (by kernel_rfl))
  f266 := Tryz.func91.trans (congrArg some (by kernel_rfl))
  t3 := Tryz.underlying3
  a3 := Tryz.isAgg3
  z3 := Tryz.sizeOf3
  v3 := Tryz.zeroValue3
  t5 := Tryz.underlying5
  a5 := Tryz.isAgg5
  z5 := Tryz.sizeOf5
  v5 := Tryz.zeroValue5
  t9 := Tryz.underlying9
  a9 := Tryz.isAgg9
  z9 := Tryz.sizeOf9
  v9 := Tryz.zeroValue9 }
open Go.RowKit in
/-- strings.IndexByte: "IndexByte returns the index of the first instance of c in s, or -1 if c is not present in s.": IT RETURNS 'Lib.indexByte s c'; the world is as it was. (LAID: no walk: one application.) -/
theorem Tryz.strings_IndexByte (s : ByteArray) (c : Int) (w : World) :
    Calls Tryz.prog 86 #[.string s, .int .u8 c] w fun e w' => e = .returned (.int .i64 (Lib.indexByte s.data.toList c.toNat.toUInt8)) ∧ w' = w := Any.strings_IndexByte Tryz.lays137 s c w
open Go.RowKit in
/-- (*strings.Builder).Len: "Len returns the number of accumulated bytes; b.Len() == len(b.String()).": the world is as it was. (THE FORM '_f': 'Lib.IsBuilderF'.) (LAID: no walk: one application.) -/
theorem Tryz.Builder_Len_f (B b : Nat) (bs : List Value) (w : World) (h : Lib.IsBuilderF 53 5 B b bs w) :
    Calls Tryz.prog 41 #[.pointer (some ⟨b, 0, none⟩)] w fun e w' => e = .returned (.int .i64 bs.length) ∧ w' = w := Any.Builder_Len_f Tryz.lays170 B b bs w h
open Go.RowKit in
/-- (*strings.Builder).String: "String returns the accumulated string.": OF A BUILDER THAT HOLDS AT LEAST ONE BYTE. ✋ THE MODEL FREEZES THOSE BYTES IN THE BUFFER (unsafe.String): a later write INTO them ends the model's run without an answer; a later append BEHIND them goes on. The statement's order of evaluation is drawn: one draw. THE FORM '_f': IT SAYS BESIDES THAT THE BUILDER IS A BUILDER STILL ('Lib.IsBuilderF', the same bytes): SO IT CAN BE WRITTEN ON: 'b.WriteString(b.String()[:k])'. (LAID: no walk: one application.) -/
theorem Tryz.Builder_String_f (B b : Nat) (l : List UInt8) (w : World) (h : Lib.IsBuilderF 53 5 B b (Lib.byteCells l) w) (h0 : l ≠ []) :
    Calls Tryz.prog 18 #[.pointer (some ⟨b, 0, none⟩)] w fun e w' => e = .returned (.string ⟨l.toArray⟩) ∧ (Lib.IsBuilderF 53 5 B b (Lib.byteCells l) w' ∧ Below B w w') := Any.Builder_String_f Tryz.lays169 Tryz.Builder_Extra_169 B b l w h h0
open Go.RowKit in
/-- (*strings.Builder).String OF A BUILDER THAT HOLDS NO BYTE: the empty string; THE FORM '_f': a builder still. (LAID: no walk: one application.) -/
theorem Tryz.Builder_String_empty_f (B b : Nat) (w : World) (h : Lib.IsBuilderF 53 5 B b [] w) (hBw : B ≤ w.heap.size) :
    Calls Tryz.prog 18 #[.pointer (some ⟨b, 0, none⟩)] w fun e w' => e = .returned (.string ⟨#[]⟩) ∧ (Lib.IsBuilderF 53 5 B b [] w' ∧ Below B w w') := Any.Builder_String_empty_f Tryz.lays169 Tryz.Builder_Extra_169 B b w h hBw
open Go.RowKit in
/-- (*strings.Builder).String: "String returns the accumulated string.": WHATEVER THE BUILDER HOLDS; THE FORM '_f': OF A BUILDER THAT MAY HAVE BEEN READ BEFORE; AND IT IS A BUILDER STILL, holding the same bytes: it can be written on. (LAID: no walk: one application.) -/
theorem Tryz.Builder_String_any_f (B b : Nat) (l : List UInt8) (w : World) (h : Lib.IsBuilderF 53 5 B b (Lib.byteCells l) w) (hBw : B ≤ w.heap.size) :
    Calls Tryz.prog 18 #[.pointer (some ⟨b, 0, none⟩)] w fun e w' => e = .returned (.string ⟨l.toArray⟩) ∧ (Lib.IsBuilderF 53 5 B b (Lib.byteCells l) w' ∧ Below B w w') := Any.Builder_String_any_f Tryz.lays169 Tryz.Builder_Extra_169 B b l w h hBw
open Go.RowKit in
/-- (*strings.Builder).String: "String returns the accumulated string.": OF A BUILDER THAT HOLDS AT LEAST ONE BYTE. ✋ THE MODEL FREEZES THOSE BYTES IN THE BUFFER (unsafe.String): a later write INTO them ends the model's run without an answer; a later append BEHIND them goes on. The statement's order of evaluation is drawn: one draw. THE FORM '_k': OVER 'Lib.IsBuilderF' (a builder that 'String()' may have read), AND WITH THE FRAME THAT REACHES ABOVE THE BUILDER: 'Lib.OthersKept': every block that is not b and is no row of uint8's stands as it stood: the iterator of a range among them. (LAID: no walk: one application.) -/
theorem Tryz.Builder_String_k (B b : Nat) (l : List UInt8) (w : World) (h : Lib.IsBuilderF 53 5 B b (Lib.byteCells l) w) (h0 : l ≠ []) :
    Calls Tryz.prog 18 #[.pointer (some ⟨b, 0, none⟩)] w fun e w' => e = .returned (.string ⟨l.toArray⟩) ∧ (Lib.IsBuilderF 53 5 B b (Lib.byteCells l) w' ∧ Below B w w' ∧ Lib.OthersKept 5 (some b) w w') := Any.Builder_String_k Tryz.lays169 Tryz.Builder_Extra_169 B b l w h h0
open Go.RowKit in
/-- (*strings.Builder).String OF A BUILDER THAT HOLDS NO BYTE: the empty string; THE FORM '_k': OVER 'Lib.IsBuilderF' (a builder that 'String()' may have read), AND WITH THE FRAME THAT REACHES ABOVE THE BUILDER: 'Lib.OthersKept': every block that is not b and is no row of uint8's stands as it stood: the iterator of a range among them. (LAID: no walk: one application.) -/
theorem Tryz.Builder_String_empty_k (B b : Nat) (w : World) (h : Lib.IsBuilderF 53 5 B b [] w) (hBw : B ≤ w.heap.size) :
    Calls Tryz.prog 18 #[.pointer (some ⟨b, 0, none⟩)] w fun e w' => e = .returned (.string ⟨#[]⟩) ∧ (Lib.IsBuilderF 53 5 B b [] w' ∧ Below B w w' ∧ Lib.OthersKept 5 (some b) w w') := Any.Builder_String_empty_k Tryz.lays169 Tryz.Builder_Extra_169 B b w h hBw
open Go.RowKit in
/-- (*strings.Builder).String: "String returns the accumulated string.": WHATEVER THE BUILDER HOLDS; THE FORM '_k': OVER 'Lib.IsBuilderF' (a builder that 'String()' may have read), AND WITH THE FRAME THAT REACHES ABOVE THE BUILDER: 'Lib.OthersKept': every block that is not b and is no row of uint8's stands as it stood: the iterator of a range among them. (LAID: no walk: one application.) -/
theorem Tryz.Builder_String_any_k (B b : Nat) (l : List UInt8) (w : World) (h : Lib.IsBuilderF 53 5 B b (Lib.byteCells l) w) (hBw : B ≤ w.heap.size) :
    Calls Tryz.prog 18 #[.pointer (some ⟨b, 0, none⟩)] w fun e w' => e = .returned (.string ⟨l.toArray⟩) ∧ (Lib.IsBuilderF 53 5 B b (Lib.byteCells l) w' ∧ Below B w w' ∧ Lib.OthersKept 5 (some b) w w') := Any.Builder_String_any_k Tryz.lays169 Tryz.Builder_Extra_169 B b l w h hBw
open Go.RowKit in
/-- (*strings.Builder).grow (no doc but "grow copies the buffer to a new, larger buffer so that there are at least n bytes of capacity beyond len(b.buf)."): AT A BUILDER WITHOUT A BUFFER: a new row of whatever bytes for its buffer, none of them its own yet. Three draws. (LAID: no walk: one application.) -/
theorem Tryz.Builder_grow_fresh_cap (B b n : Nat) (w : World) (hB : B ≤ b) (hbk : w.heap[b]? = some (.cells #[.pointer (some ⟨b, 0, none⟩), .slice none 0 0] 53 (0, 0))) (hBw : B ≤ w.heap.size) (hn : n ≤ 281474976710656) :
    Calls Tryz.prog 70 #[.pointer (some ⟨b, 0, none⟩), .int .i64 n] w fun e w' => e = .returned (.tuple #[]) ∧ (Lib.BuilderAt 53 5 B b (.pointer (some ⟨b, 0, none⟩)) [] w' ∧ Below B w w') ∧ ∃ p cap, w'.cell? ⟨b, 1, none⟩ = some (.slice p 0 cap) ∧ n ≤ cap := Any.Builder_grow_fresh_cap Tryz.lays241 Tryz.Builder_Extra_241 B b n w hB hbk hBw hn
open Go.RowKit in
/-- (*strings.Builder).Grow AT A BUILDER THAT HAS NOT BEEN WRITTEN ('var b strings.Builder; b.Grow(n)'): "Grow grows b's capacity, if necessary, to guarantee space for another n bytes.": it holds no byte behind it as before it. (LAID: no walk: one application.) -/
theorem Tryz.Builder_Grow_fresh_cap (B b n : Nat) (w : World) (hB : B ≤ b) (hbk : w.heap[b]? = some (.cells #[.pointer none, .slice none 0 0] 53 (0, 0))) (hBw : B ≤ w.heap.size) (hn : n ≤ 281474976710656) :
    Calls Tryz.prog 40 #[.pointer (some ⟨b, 0, none⟩), .int .i64 n] w fun e w' => e = .returned (.tuple #[]) ∧ (Lib.BuilderAt 53 5 B b (.pointer (some ⟨b, 0, none⟩)) [] w' ∧ Below B w w') ∧ ∃ p cap, w'.cell? ⟨b, 1, none⟩ = some (.slice p 0 cap) ∧ n ≤ cap := Any.Builder_Grow_fresh_cap Tryz.lays165 Tryz.Builder_Extra_165 B b n w hB hbk hBw hn
def Tryz.lays217_ren : Go.Shelf.Ren := ⟨fun | 217 => 90 | 266 => 91 | n => n, fun | 9 => 9 | 5 => 5 | 3 => 3 | n => n, fun | n => n⟩
theorem Tryz.lays217 : Go.Proofs.Lays.n217 Tryz.prog Tryz.lays217_ren := {
  mixed := by kernel_rfl
  f217 := Tryz.func90.trans (congrArg some (by kernel_rfl))
  f266 := Tryz.func91.trans (congrArg some (by kernel_rfl))
  t3 := Tryz.underlying3
  a3 := Tryz.isAgg3
  z3 := Tryz.sizeOf3
  v3 := Tryz.zeroValue3
  t5 := Tryz.underlying5
  a5 := Tryz.isAgg5
  z5 := Tryz.sizeOf5
  v5 := Tryz.zeroValue5
  t9 := Tryz.underlying9
  a9 := Tryz.isAgg9
  z9 := Tryz.sizeOf9
  v9 := Tryz.zeroValue9 }
open Go.RowKit Go.Lib in
/-- internal/stringslite.IndexByte (what strings.IndexByte calls): IT RETURNS 'Lib.indexByte s c'; the world is as it was. (LAID: no walk: one application.) -/
theorem Tryz.stringslite_IndexByte (s : ByteArray) (c : Int) (w : World) :
    Calls Tryz.prog 90 #[.string s, .int .u8 c] w fun e w' => e = .returned (.int .i64 (Lib.indexByte s.data.toList c.toNat.toUInt8)) ∧ w' = w := Any.stringslite_IndexByte Tryz.lays217 s c w
def Tryz.lays224_ren : Go.Shelf.Ren := ⟨fun | 224 => 88 | n => n, fun | 3 => 3 | n => n, fun | n => n⟩
theorem Tryz.lays224 : Go.Proofs.Lays.n224 Tryz.prog Tryz.lays224_ren := {
  mixed := by kernel_rfl
  f224 := Tryz.func88.trans (congrArg some (by kernel_rfl))
  t3 := Tryz.underlying3
  a3 := Tryz.isAgg3
  z3 := Tryz.sizeOf3
  v3 := Tryz.zeroValue3 }
open Go.RowKit Go.Lib in
/-- internal/bytealg.Cutover: "Cutover reports the number of failures of IndexByte we should tolerate before switching over to Index. n is the number of bytes processed so far.": on amd64: (n + 16) / 8. (LAID: no walk: one application.) -/
theorem Tryz.bytealg_Cutover (n : Int) (h0 : 0 ≤ n) (h1 : n < 4611686018427387904) (w : World) :
    Calls Tryz.prog 88 #[.int .i64 n] w fun e w' => e = .returned (.int .i64 ((n + 16) / 8)) ∧ w' = w := Any.bytealg_Cutover Tryz.lays224 n h0 h1 w
def Tryz.lays206_ren : Go.Shelf.Ren := ⟨fun | 206 => 69 | n => n, fun | 9 => 9 | 4 => 4 | 3 => 3 | n => n, fun | n => n⟩
theorem Tryz.lays206 : Go.Proofs.Lays.n206 Tryz.prog Tryz.lays206_ren := {
  mixed := by kernel_rfl
  f206 := Tryz.func69.trans (congrArg some (by kernel_rfl))
  t3 := Tryz.underlying3
  a3 := Tryz.isAgg3
  z3 := Tryz.sizeOf3
  v3 := Tryz.zeroValue3
  t4 := Tryz.underlying4
  a4 := Tryz.isAgg4
  z4 := Tryz.sizeOf4
  v4 := Tryz.zeroValue4
  t9 := Tryz.underlying9
  a9 := Tryz.isAgg9
  z9 := Tryz.sizeOf9
  v9 := Tryz.zeroValue9 }
open Go.RowKit Go.Lib in
/-- internal/stringslite.HasPrefix (what strings.HasPrefix calls). (LAID: no walk: one application.) -/
theorem Tryz.stringslite_HasPrefix (s p : ByteArray) (w : World) :
    Calls Tryz.prog 69 #[.string s, .string p] w fun e w' => e = .returned (.bool (Lib.hasPrefix s.data.toList p.data.toList)) ∧ w' = w := Any.stringslite_HasPrefix Tryz.lays206 s p w
def Tryz.lays99_ren : Go.Shelf.Ren := ⟨fun | 99 => 39 | 206 => 69 | n => n, fun | 9 => 9 | 4 => 4 | 3 => 3 | n => n, fun | n => n⟩
theorem Tryz.lays99 : Go.Proofs.Lays.n99 Tryz.prog Tryz.lays99_ren := {
  mixed := by kernel_rfl
  f99 := Tryz.func39.trans (congrArg some (by kernel_rfl))
  f206 := Tryz.func69.trans (congrArg some (by kernel_rfl))
  t3 := Tryz.underlying3
  a3 := Tryz.isAgg3
  z3 := Tryz.sizeOf3
  v3 := Tryz.zeroValue3
  t4 := Tryz.underlying4
  a4 := Tryz.isAgg4
  z4 := Tryz.sizeOf4
  v4 := Tryz.zeroValue4
  t9 := Tryz.underlying9
  a9 := Tryz.isAgg9
  z9 := Tryz.sizeOf9
  v9 := Tryz.zeroValue9 }
open Go.RowKit Go.Lib in
/-- strings.HasPrefix: "HasPrefix reports whether the string s begins with prefix.": IT RETURNS 'Lib.hasPrefix s prefix'; the world is as it was. (LAID: no walk: one application.) -/
theorem Tryz.strings_HasPrefix (s p : ByteArray) (w : World) :
    Calls Tryz.prog 39 #[.string s, .string p] w fun e w' => e = .returned (.bool (Lib.hasPrefix s.data.toList p.data.toList)) ∧ w' = w := Any.strings_HasPrefix Tryz.lays99 s p w
def Tryz.lays207_ren : Go.Shelf.Ren := ⟨fun | 207 => 49 | n => n, fun | 9 => 9 | 4 => 4 | 3 => 3 | n => n, fun | n => n⟩
theorem Tryz.lays207 : Go.Proofs.Lays.n207 Tryz.prog Tryz.lays207_ren := {
  mixed := by kernel_rfl
  f207 := Tryz.func49.trans (congrArg some (by kernel_rfl))
  t3 := Tryz.underlying3
  a3 := Tryz.isAgg3
  z3 := Tryz.sizeOf3
  v3 := Tryz.zeroValue3
  t4 := Tryz.underlying4
  a4 := Tryz.isAgg4
  z4 := Tryz.sizeOf4
  v4 := Tryz.zeroValue4
  t9 := Tryz.underlying9
  a9 := Tryz.isAgg9
  z9 := Tryz.sizeOf9
  v9 := Tryz.zeroValue9 }
open Go.RowKit Go.Lib in
/-- internal/stringslite.HasSuffix (what strings.HasSuffix calls). (LAID: no walk: one application.) -/
theorem Tryz.stringslite_HasSuffix (s p : ByteArray) (w : World) (hs : s.size ≤ 9223372036854775807) :
    Calls Tryz.prog 49 #[.string s, .string p] w fun e w' => e = .returned (.bool (Lib.hasSuffix s.data.toList p.data.toList)) ∧ w' = w := Any.stringslite_HasSuffix Tryz.lays207 s p w hs
def Tryz.lays100_ren : Go.Shelf.Ren := ⟨fun | 100 => 20 | 207 => 49 | n => n, fun | 9 => 9 | 4 => 4 | 3 => 3 | n => n, fun | n => n⟩
theorem Tryz.lays100 : Go.Proofs.Lays.n100 Tryz.prog Tryz.lays100_ren := {
  mixed := by kernel_rfl
  f100 := Tryz.func20.trans (congrArg some (by kernel_rfl))
  f207 := Tryz.func49.trans (congrArg some (by kernel_rfl))
  t3 := Tryz.underlying3
  a3 := Tryz.isAgg3
  z3 := Tryz.sizeOf3
  v3 := Tryz.zeroValue3
  t4 := Tryz.underlying4
  a4 := Tryz.isAgg4
  z4 := Tryz.sizeOf4
  v4 := Tryz.zeroValue4
  t9 := Tryz.underlying9
  a9 := Tryz.isAgg9
  z9 := Tryz.sizeOf9
  v9 := Tryz.zeroValue9 }
open Go.RowKit Go.Lib in
/-- strings.HasSuffix: "HasSuffix reports whether the string s ends with suffix.": IT RETURNS 'Lib.hasSuffix s suffix'; the world is as it was. ('hs': no Go string is longer: a caller has it of every string that it was handed.) (LAID: no walk: one application.) -/
theorem Tryz.strings_HasSuffix (s p : ByteArray) (w : World) (hs : s.size ≤ 9223372036854775807) :
    Calls Tryz.prog 20 #[.string s, .string p] w fun e w' => e = .returned (.bool (Lib.hasSuffix s.data.toList p.data.toList)) ∧ w' = w := Any.strings_HasSuffix Tryz.lays100 s p w hs
def Tryz.lays197_ren : Go.Shelf.Ren := ⟨fun | 197 => 83 | 260 => 85 | n => n, fun | 9 => 9 | 21 => 21 | 3 => 3 | 4 => 4 | 5 => 5 | 105 => 151 | 119 => 159 | 0 => 0 | 46 => 83 | 139 => 162 | 138 => 161 | n => n, fun | 3 => 2 | 4 => 3 | n => n⟩
theorem Tryz.lays197 : Go.Proofs.Lays.n197 Tryz.prog Tryz.lays197_ren := {
  mixed := by kernel_rfl
  f197 := Tryz.func83.trans (congrArg some (by kernel_rfl))
  f260 := Tryz.func85.trans (congrArg some (by kernel_rfl))
  t0 := Tryz.underlying0
  a0 := Tryz.isAgg0
  z0 := Tryz.sizeOf0
  v0 := Tryz.zeroValue0
  t3 := Tryz.underlying3
  a3 := Tryz.isAgg3
  z3 := Tryz.sizeOf3
  v3 := Tryz.zeroValue3
  t4 := Tryz.underlying4
  a4 := Tryz.isAgg4
  z4 := Tryz.sizeOf4
  v4 := Tryz.zeroValue4
  t5 := Tryz.underlying5
  a5 := Tryz.isAgg5
  z5 := Tryz.sizeOf5
  v5 := Tryz.zeroValue5
  t9 := Tryz.underlying9
  a9 := Tryz.isAgg9
  z9 := Tryz.sizeOf9
  v9 := Tryz.zeroValue9
  t21 := Tryz.underlying21
  a21 := Tryz.isAgg21
  z21 := Tryz.sizeOf21
  v21 := Tryz.zeroValue21
  t46 := Tryz.underlying83
  a46 := Tryz.isAgg83
  z46 := Tryz.sizeOf83
  v46 := Tryz.zeroValue83
  t105 := Tryz.underlying151
  a105 := Tryz.isAgg151
  z105 := Tryz.sizeOf151
  v105 := Tryz.zeroValue151
  t119 := Tryz.underlying159
  a119 := Tryz.isAgg159
  z119 := Tryz.sizeOf159
  t138 := Tryz.underlying161
  a138 := Tryz.isAgg161
  z138 := Tryz.sizeOf161
  v138 := Tryz.zeroValue161
  t139 := Tryz.underlying162
  a139 := Tryz.isAgg162
  z139 := Tryz.sizeOf162
  v139 := Tryz.zeroValue162
  g3 := by kernel_rfl
  g4 := by kernel_rfl }
open Go.RowKit Go.Lib in
/-- unicode/utf8.DecodeRuneInString: "DecodeRuneInString is like DecodeRune but its input is a string.": ("DecodeRune unpacks the first UTF-8 encoding in p and returns the rune and its width in bytes."): WHERE s BEGINS WITH AN ASCII BYTE x: (x, 1). (LAID: no walk: one application.) -/
theorem Tryz.utf8_DecodeRuneInString_ascii (s : ByteArray) (x : UInt8) (w : World) (h0 : s.data.toList[0]? = some x) (hx : x.toNat < 128) :
    Calls Tryz.prog 83 #[.string s] w fun e w' => e = .returned (.tuple #[.int .i32 x.toNat, .int .i64 1]) ∧ w' = w := Any.utf8_DecodeRuneInString_ascii Tryz.lays197 s x w h0 hx
def Tryz.lays152_ren : Go.Shelf.Ren := ⟨fun | 152 => 84 | 137 => 86 | 119 => 87 | 224 => 88 | 225 => 89 | 217 => 90 | 266 => 91 | n => n, fun | 9 => 9 | 21 => 21 | 3 => 3 | 4 => 4 | 5 => 5 | 0 => 0 | 46 => 83 | n => n, fun | n => n⟩
theorem Tryz.lays152 : Go.Proofs.Lays.n152 Tryz.prog Tryz.lays152_ren := {
  mixed := by kernel_rfl
  f119 := Tryz.func87.trans (congrArg some (by kernel_rfl))
  f137 := Tryz.func86.trans (congrArg some (by kernel_rfl))
  f152 := Tryz.func84.trans (congrArg some (by kernel_rfl))
  f217 := Tryz.func90.trans (congrArg some (by kernel_rfl))
  f224 := Tryz.func88.trans (congrArg some (by kernel_rfl))
  f225 := Tryz.func89.trans (congrArg some (by kernel_rfl))
  f266 := Tryz.func91.trans (congrArg some (by kernel_rfl))
  t0 := Tryz.underlying0
  a0 := Tryz.isAgg0
  z0 := Tryz.sizeOf0
  v0 := Tryz.zeroValue0
  t3 := Tryz.underlying3
  a3 := Tryz.isAgg3
  z3 := Tryz.sizeOf3
  v3 := Tryz.zeroValue3
  t4 := Tryz.underlying4
  a4 := Tryz.isAgg4
  z4 := Tryz.sizeOf4
  v4 := Tryz.zeroValue4
  t5 := Tryz.underlying5
  a5 := Tryz.isAgg5
  z5 := Tryz.sizeOf5
  v5 := Tryz.zeroValue5
  t9 := Tryz.underlying9
  a9 := Tryz.isAgg9
  z9 := Tryz.sizeOf9
  v9 := Tryz.zeroValue9
  t21 := Tryz.underlying21
  a21 := Tryz.isAgg21
  z21 := Tryz.sizeOf21
  v21 := Tryz.zeroValue21
  t46 := Tryz.underlying83
  a46 := Tryz.isAgg83
  z46 := Tryz.sizeOf83
  v46 := Tryz.zeroValue83 }
open Go.RowKit Go.Lib in
theorem Tryz.strings_IndexRune_ascii (s : ByteArray) (r : Int) (w : World) (h0 : 0 ≤ r) (h1 : r < 128) :
    Calls Tryz.prog 84 #[.string s, .int .i32 r] w fun e w' => e = .returned (.int .i64 (Lib.indexByte s.data.toList r.toNat.toUInt8)) ∧ w' = w := Any.strings_IndexRune_ascii Tryz.lays152 s r w h0 h1
def Tryz.lays151_ren : Go.Shelf.Ren := ⟨fun | 151 => 80 | 152 => 84 | 137 => 86 | 119 => 87 | 224 => 88 | 225 => 89 | 217 => 90 | 266 => 91 | n => n, fun | 9 => 9 | 21 => 21 | 4 => 4 | 3 => 3 | 5 => 5 | 0 => 0 | 46 => 83 | n => n, fun | n => n⟩
theorem Tryz.lays151 : Go.Proofs.Lays.n151 Tryz.prog Tryz.lays151_ren := {
  mixed := by kernel_rfl
  f119 := Tryz.func87.trans (congrArg some (by kernel_rfl))
  f137 := Tryz.func86.trans (congrArg some (by kernel_rfl))
  f151 := Tryz.func80.trans (congrArg some (by kernel_rfl))
  f152 := Tryz.func84.trans (congrArg some (by kernel_rfl))
  f217 := Tryz.func90.trans (congrArg some (by kernel_rfl))
  f224 := Tryz.func88.trans (congrArg some (by kernel_rfl))
  f225 := Tryz.func89.trans (congrArg some (by kernel_rfl))
  f266 := Tryz.func91.trans (congrArg some (by kernel_rfl))
  t0 := Tryz.underlying0
  a0 := Tryz.isAgg0
  z0 := Tryz.sizeOf0
  v0 := Tryz.zeroValue0
  t3 := Tryz.underlying3
  a3 := Tryz.isAgg3
  z3 := Tryz.sizeOf3
  v3 := Tryz.zeroValue3
  t4 := Tryz.underlying4
  a4 := Tryz.isAgg4
  z4 := Tryz.sizeOf4
  v4 := Tryz.zeroValue4
  t5 := Tryz.underlying5
  a5 := Tryz.isAgg5
  z5 := Tryz.sizeOf5
  v5 := Tryz.zeroValue5
  t9 := Tryz.underlying9
  a9 := Tryz.isAgg9
  z9 := Tryz.sizeOf9
  v9 := Tryz.zeroValue9
  t21 := Tryz.underlying21
  a21 := Tryz.isAgg21
  z21 := Tryz.sizeOf21
  v21 := Tryz.zeroValue21
  t46 := Tryz.underlying83
  a46 := Tryz.isAgg83
  z46 := Tryz.sizeOf83
  v46 := Tryz.zeroValue83 }
open Go.RowKit Go.Lib in
theorem Tryz.strings_ContainsRune_ascii (s : ByteArray) (r : Int) (w : World) (h0 : 0 ≤ r) (h1 : r < 128) :
    Calls Tryz.prog 80 #[.string s, .int .i32 r] w fun e w' => e = .returned (.bool (decide (0 ≤ Lib.indexByte s.data.toList r.toNat.toUInt8))) ∧ w' = w := Any.strings_ContainsRune_ascii Tryz.lays151 s r w h0 h1
def Tryz.lays227_ren : Go.Shelf.Ren := ⟨fun | 227 => 63 | n => n, fun | 9 => 9 | 116 => 122 | 4 => 4 | 0 => 0 | 3 => 3 | 5 => 5 | n => n, fun | n => n⟩
theorem Tryz.lays227 : Go.Proofs.Lays.n227 Tryz.prog Tryz.lays227_ren := {
  mixed := by kernel_rfl
  f227 := Tryz.func63.trans (congrArg some (by kernel_rfl))
  t0 := Tryz.underlying0
  a0 := Tryz.isAgg0
  z0 := Tryz.sizeOf0
  v0 := Tryz.zeroValue0
  t3 := Tryz.underlying3
  a3 := Tryz.isAgg3
  z3 := Tryz.sizeOf3
  v3 := Tryz.zeroValue3
  t4 := Tryz.underlying4
  a4 := Tryz.isAgg4
  z4 := Tryz.sizeOf4
  v4 := Tryz.zeroValue4
  t5 := Tryz.underlying5
  a5 := Tryz.isAgg5
  z5 := Tryz.sizeOf5
  v5 := Tryz.zeroValue5
  t9 := Tryz.underlying9
  a9 := Tryz.isAgg9
  z9 := Tryz.sizeOf9
  v9 := Tryz.zeroValue9
  t116 := Tryz.underlying122
  a116 := Tryz.isAgg122
  z116 := Tryz.sizeOf122 }
open Go.RowKit Go.Lib in
theorem Tryz.strings_makeASCIISet (hv116 : ∀ w, (zeroValue 122).run Tryz.prog w = .ok (.agg (Array.replicate 256 (.bool false))) w) (chars : ByteArray) (w : World) (hs : chars.size < 4294967281) (hascii : ∀ (j : Nat) b, chars.data.toList[j]? = some b → b.toNat < 128) :
    Calls Tryz.prog 63 #[.string chars] w fun e w' => e = .returned (.tuple #[.agg (Lib.setCells chars.data.toList), .bool true]) ∧ w' = w.alloc (.cells (Lib.setCells chars.data.toList) 122) := Any.strings_makeASCIISet Tryz.lays227 hv116 (by kernel_rfl) chars w hs hascii
def Tryz.lays228_ren : Go.Shelf.Ren := ⟨fun | 228 => 78 | n => n, fun | 124 => 126 | 5 => 5 | 4 => 4 | 0 => 0 | 116 => 122 | n => n, fun | n => n⟩
theorem Tryz.lays228 : Go.Proofs.Lays.n228 Tryz.prog Tryz.lays228_ren := {
  mixed := by kernel_rfl
  f228 := Tryz.func78.trans (congrArg some (by kernel_rfl))
  t0 := Tryz.underlying0
  a0 := Tryz.isAgg0
  z0 := Tryz.sizeOf0
  v0 := Tryz.zeroValue0
  t4 := Tryz.underlying4
  a4 := Tryz.isAgg4
  z4 := Tryz.sizeOf4
  v4 := Tryz.zeroValue4
  t5 := Tryz.underlying5
  a5 := Tryz.isAgg5
  z5 := Tryz.sizeOf5
  v5 := Tryz.zeroValue5
  t116 := Tryz.underlying122
  a116 := Tryz.isAgg122
  z116 := Tryz.sizeOf122
  t124 := Tryz.underlying126
  a124 := Tryz.isAgg126
  z124 := Tryz.sizeOf126
  v124 := Tryz.zeroValue126 }
open Go.RowKit Go.Lib in
/-- '(as *asciiSet) contains(c)': 'as[c]': the set lies at block b, whole. (LAID: no walk: one application.) -/
theorem Tryz.asciiSet_contains (b : Nat) (x : UInt8) (v : Bool) (w : World) (hc : w.cell? ⟨b, x.toNat, none⟩ = some (.bool v)) :
    Calls Tryz.prog 78 #[.pointer (some ⟨b, 0, none⟩), .int .u8 x.toNat] w fun e w' => e = .returned (.bool v) ∧ w' = w := Any.asciiSet_contains Tryz.lays228 b x v w hc
def Tryz.lays264_ren : Go.Shelf.Ren := ⟨fun | 264 => 68 | n => n, fun | 53 => 89 | 46 => 83 | n => n, fun | n => n⟩
theorem Tryz.lays264 : Go.Proofs.Lays.n264 Tryz.prog Tryz.lays264_ren := {
  mixed := by kernel_rfl
  f264 := Tryz.func68.trans (congrArg some (by kernel_rfl))
  t46 := Tryz.underlying83
  a46 := Tryz.isAgg83
  z46 := Tryz.sizeOf83
  v46 := Tryz.zeroValue83
  t53 := Tryz.underlying89
  a53 := Tryz.isAgg89
  z53 := Tryz.sizeOf89
  v53 := Tryz.zeroValue89 }
open Go.RowKit Go.Lib in
theorem Tryz.bits_Mul64 (x y : Nat) (hx : x < 18446744073709551616) (hy : y < 18446744073709551616) (w : World) :
    Calls Tryz.prog 68 #[.int .u64 x, .int .u64 y] w fun e w' => e = .returned (.tuple #[.int .u64 ((x * y / 18446744073709551616 : Nat) : Int), .int .u64 ((x * y % 18446744073709551616 : Nat) : Int)]) ∧ w' = w := Any.bits_Mul64 Tryz.lays264 x y hx hy w
def Tryz.lays212_ren : Go.Shelf.Ren := ⟨fun | 212 => 38 | 263 => 67 | 264 => 68 | n => n, fun | 46 => 83 | 51 => 129 | 146 => 130 | 53 => 89 | 148 => 132 | n => n, fun | n => n⟩
theorem Tryz.lays212 : Go.Proofs.Lays.n212 Tryz.prog Tryz.lays212_ren := {
  mixed := by kernel_rfl
  f212 := Tryz.func38.trans (congrArg some (by kernel_rfl))
  f263 := Tryz.func67.trans (congrArg some (by kernel_rfl))
  f264 := Tryz.func68.trans (congrArg some (by kernel_rfl))
  t46 := Tryz.underlying83
  a46 := Tryz.isAgg83
  z46 := Tryz.sizeOf83
  v46 := Tryz.zeroValue83
  t51 := Tryz.underlying129
  a51 := Tryz.isAgg129
  z51 := Tryz.sizeOf129
  v51 := Tryz.zeroValue129
  t53 := Tryz.underlying89
  a53 := Tryz.isAgg89
  z53 := Tryz.sizeOf89
  v53 := Tryz.zeroValue89
  t146 := Tryz.underlying130
  a146 := Tryz.isAgg130
  z146 := Tryz.sizeOf130
  v146 := Tryz.zeroValue130
  t148 := Tryz.underlying132
  a148 := Tryz.isAgg132
  z148 := Tryz.sizeOf132
  v148 := Tryz.zeroValue132 }
open Go.RowKit Go.Lib in
/-- math/bits.Mul: "Mul returns the full-width product of x and y": on a machine of 64 bits: Mul64's. (LAID: no walk: one application.) -/
theorem Tryz.bits_Mul (x y : Nat) (hx : x < 18446744073709551616) (hy : y < 18446744073709551616) (w : World) :
    Calls Tryz.prog 38 #[.int .u64 x, .int .u64 y] w fun e w' => e = .returned (.tuple #[.int .u64 ((x * y / 18446744073709551616 : Nat) : Int), .int .u64 ((x * y % 18446744073709551616 : Nat) : Int)]) ∧ w' = w := Any.bits_Mul Tryz.lays212 x y hx hy w
def Tryz.lays105_ren : Go.Shelf.Ren := ⟨fun | 105 => 10 | 212 => 38 | 99 => 39 | 165 => 40 | 166 => 12 | 170 => 41 | 169 => 18 | 263 => 67 | 264 => 68 | 206 => 69 | 240 => 42 | 241 => 70 | 276 => 71 | 277 => 81 | n => n, fun | 9 => 9 | 3 => 3 | 4 => 4 | 20 => 20 | 0 => 0 | 46 => 83 | 109 => 84 | 5 => 5 | 72 => 53 | 76 => 54 | 51 => 129 | 146 => 130 | 53 => 89 | 148 => 132 | 70 => 50 | 37 => 51 | 75 => 37 | 127 => 94 | 164 => 100 | 80 => 62 | n => n, fun | n => n⟩
theorem Tryz.lays105 : Go.Proofs.Lays.n105 Tryz.prog Tryz.lays105_ren := {
  mixed := by kernel_rfl
  f99 := Tryz.func39.trans (congrArg some (by kernel_rfl))
  f105 := Tryz.func10.trans (congrArg some (by kernel_rfl))
  f165 := Tryz.func40.trans (congrArg some (by kernel_rfl))
  f166 := Tryz.func12.trans (congrArg some (by kernel_rfl))
  f169 := Tryz.func18.trans (congrArg some (by kernel_rfl))
  f170 := Tryz.func41.trans (congrArg some (by kernel_rfl))
  f206 := Tryz.func69.trans (congrArg some (by kernel_rfl))
  f212 := Tryz.func38.trans (congrArg some (by kernel_rfl))
  f240 := Tryz.func42.trans (congrArg some (by kernel_rfl))
  f241 := Tryz.func70.trans (congrArg some (by kernel_rfl))
  f263 := Tryz.func67.trans (congrArg some (by kernel_rfl))
  f264 := Tryz.func68.trans (congrArg some (by kernel_rfl))
  f276 := Tryz.func71.trans (congrArg some (by kernel_rfl))
  f277 := Tryz.func81.trans (congrArg some (by kernel_rfl))
  t0 := Tryz.underlying0
  a0 := Tryz.isAgg0
  z0 := Tryz.sizeOf0
  v0 := Tryz.zeroValue0
  t3 := Tryz.underlying3
  a3 := Tryz.isAgg3
  z3 := Tryz.sizeOf3
  v3 := Tryz.zeroValue3
  t4 := Tryz.underlying4
  a4 := Tryz.isAgg4
  z4 := Tryz.sizeOf4
  v4 := Tryz.zeroValue4
  t5 := Tryz.underlying5
  a5 := Tryz.isAgg5
  z5 := Tryz.sizeOf5
  v5 := Tryz.zeroValue5
  t9 := Tryz.underlying9
  a9 := Tryz.isAgg9
  z9 := Tryz.sizeOf9
  v9 := Tryz.zeroValue9
  t20 := Tryz.underlying20
  a20 := Tryz.isAgg20
  z20 := Tryz.sizeOf20
  v20 := Tryz.zeroValue20
  t37 := Tryz.underlying51
  a37 := Tryz.isAgg51
  z37 := Tryz.sizeOf51
  v37 := Tryz.zeroValue51
  t46 := Tryz.underlying83
  a46 := Tryz.isAgg83
  z46 := Tryz.sizeOf83
  v46 := Tryz.zeroValue83
  t51 := Tryz.underlying129
  a51 := Tryz.isAgg129
  z51 := Tryz.sizeOf129
  v51 := Tryz.zeroValue129
  t53 := Tryz.underlying89
  a53 := Tryz.isAgg89
  z53 := Tryz.sizeOf89
  v53 := Tryz.zeroValue89
  t70 := Tryz.underlying50
  a70 := Tryz.isAgg50
  z70 := Tryz.sizeOf50
  v70 := Tryz.zeroValue50
  t72 := Tryz.underlying53
  a72 := Tryz.isAgg53
  z72 := Tryz.sizeOf53
  v72 := Tryz.zeroValue53
  t75 := Tryz.underlying37
  a75 := Tryz.isAgg37
  z75 := Tryz.sizeOf37
  v75 := Tryz.zeroValue37
  t76 := Tryz.underlying54
  a76 := Tryz.isAgg54
  z76 := Tryz.sizeOf54
  v76 := Tryz.zeroValue54
  t109 := Tryz.underlying84
  a109 := Tryz.isAgg84
  z109 := Tryz.sizeOf84
  v109 := Tryz.zeroValue84
  t127 := Tryz.underlying94
  a127 := Tryz.isAgg94
  z127 := Tryz.sizeOf94
  v127 := Tryz.zeroValue94
  t146 := Tryz.underlying130
  a146 := Tryz.isAgg130
  z146 := Tryz.sizeOf130
  v146 := Tryz.zeroValue130
  t148 := Tryz.underlying132
  a148 := Tryz.isAgg132
  z148 := Tryz.sizeOf132
  v148 := Tryz.zeroValue132
  t164 := Tryz.underlying100
  a164 := Tryz.isAgg100
  z164 := Tryz.sizeOf100
  v164 := Tryz.zeroValue100 }
theorem Tryz.Builder_Extra_105 : Builder.Extra Tryz.prog Tryz.lays105_ren := {
  sizeBuilder := by kernel_rfl
  liesBuilder := by kernel_rfl
  t5 := Tryz.underlying5
  a5 := Tryz.isAgg5
  z5 := Tryz.sizeOf5
  v5 := Tryz.zeroValue5
  infoByte := by kernel_rfl
  cellsByte := by kernel_rfl
  sizeByte := by kernel_rfl
  neB5 := by decide }
open Go.RowKit Go.Lib in
/-- THE MAIN CASE: at least two copies of a string that is not empty. (LAID: no walk: one application.) -/
theorem Tryz.strings_Repeat_main (s : ByteArray) (c : Nat) (w : World) (hc2 : 2 ≤ c) (hc : c ≤ 9223372036854775807) (hlen : s.size * c ≤ 140737488355328) (h0 : 0 < s.size) :
    Calls Tryz.prog 10 #[.string s, .int .i64 c] w fun e w' => e = .returned (.string ⟨(Lib.repeatL s.data.toList c).toArray⟩) ∧ Below w.heap.size w w' := Any.strings_Repeat_main Tryz.lays105 Tryz.Builder_Extra_105 s c w hc2 hc hlen h0
open Go.RowKit Go.Lib in
theorem Tryz.strings_Repeat_zero (s : ByteArray) (w : World) :
    Calls Tryz.prog 10 #[.string s, .int .i64 0] w fun e w' => e = .returned (.string ⟨#[]⟩) ∧ w' = w := Any.strings_Repeat_zero Tryz.lays105 s w
open Go.RowKit Go.Lib in
theorem Tryz.strings_Repeat_one (s : ByteArray) (w : World) :
    Calls Tryz.prog 10 #[.string s, .int .i64 1] w fun e w' => e = .returned (.string s) ∧ w' = w := Any.strings_Repeat_one Tryz.lays105 s w
open Go.RowKit Go.Lib in
/-- Copies of the empty string. (LAID: no walk: one application.) -/
theorem Tryz.strings_Repeat_empty (s : ByteArray) (c : Nat) (w : World) (hc2 : 2 ≤ c) (hc : c ≤ 9223372036854775807) (h0 : s.size = 0) :
    Calls Tryz.prog 10 #[.string s, .int .i64 c] w fun e w' => e = .returned (.string ⟨#[]⟩) ∧ w' = w := Any.strings_Repeat_empty Tryz.lays105 s c w hc2 hc h0
open Go.RowKit Go.Lib in
/-- count < 0: "It panics if count is negative". (LAID: no walk: one application.) -/
theorem Tryz.strings_Repeat_negative (s : ByteArray) (c : Int) (w : World) (hc : c < 0) :
    Calls Tryz.prog 10 #[.string s, .int .i64 c] w fun e w' => e = .panicked [{ v := repeatPanic Tryz.lays105_ren "strings: negative Repeat count", recovered := false }] ∧ w' = w := Any.strings_Repeat_negative Tryz.lays105 s c w hc
open Go.RowKit Go.Lib in
/-- len(s) * count is no int: ".. or if the result of (len(s) * count) overflows". (LAID: no walk: one application.) -/
theorem Tryz.strings_Repeat_overflow (s : ByteArray) (c : Nat) (w : World) (hc : c ≤ 9223372036854775807) (hs : s.size ≤ 9223372036854775807) (hbig : 9223372036854775807 < s.size * c) :
    Calls Tryz.prog 10 #[.string s, .int .i64 c] w fun e w' => e = .panicked [{ v := repeatPanic Tryz.lays105_ren "strings: Repeat output length overflow", recovered := false }] ∧ w' = w := Any.strings_Repeat_overflow Tryz.lays105 s c w hc hs hbig
open Go.RowKit Go.Lib in
/-- **strings.Repeat: count ≥ 0, the result within one allocation: count copies of s.** (LAID: no walk: one application.) -/
theorem Tryz.strings_Repeat (s : ByteArray) (c : Nat) (w : World) (hc : c ≤ 9223372036854775807) (hlen : s.size * c ≤ 140737488355328) :
    Calls Tryz.prog 10 #[.string s, .int .i64 c] w fun e w' => e = .returned (.string ⟨(Lib.repeatL s.data.toList c).toArray⟩) ∧ Below w.heap.size w w' := Any.strings_Repeat Tryz.lays105 Tryz.Builder_Extra_105 s c w hc hlen
def Tryz.lays260_ren : Go.Shelf.Ren := ⟨fun | 260 => 85 | n => n, fun | 9 => 9 | 21 => 21 | 3 => 3 | 4 => 4 | 5 => 5 | 119 => 159 | 0 => 0 | 46 => 83 | 139 => 162 | 138 => 161 | n => n, fun | 3 => 2 | 4 => 3 | n => n⟩
theorem Tryz.lays260 : Go.Proofs.Lays.n260 Tryz.prog Tryz.lays260_ren := {
  mixed := by kernel_rfl
  f260 := Tryz.func85.trans (congrArg some (by kernel_rfl))
  t0 := Tryz.underlying0
  a0 := Tryz.isAgg0
  z0 := Tryz.sizeOf0
  v0 := Tryz.zeroValue0
  t3 := Tryz.underlying3
  a3 := Tryz.isAgg3
  z3 := Tryz.sizeOf3
  v3 := Tryz.zeroValue3
  t4 := Tryz.underlying4
  a4 := Tryz.isAgg4
  z4 := Tryz.sizeOf4
  v4 := Tryz.zeroValue4
  t5 := Tryz.underlying5
  a5 := Tryz.isAgg5
  z5 := Tryz.sizeOf5
  v5 := Tryz.zeroValue5
  t9 := Tryz.underlying9
  a9 := Tryz.isAgg9
  z9 := Tryz.sizeOf9
  v9 := Tryz.zeroValue9
  t21 := Tryz.underlying21
  a21 := Tryz.isAgg21
  z21 := Tryz.sizeOf21
  v21 := Tryz.zeroValue21
  t46 := Tryz.underlying83
  a46 := Tryz.isAgg83
  z46 := Tryz.sizeOf83
  v46 := Tryz.zeroValue83
  t119 := Tryz.underlying159
  a119 := Tryz.isAgg159
  z119 := Tryz.sizeOf159
  t138 := Tryz.underlying161
  a138 := Tryz.isAgg161
  z138 := Tryz.sizeOf161
  v138 := Tryz.zeroValue161
  t139 := Tryz.underlying162
  a139 := Tryz.isAgg162
  z139 := Tryz.sizeOf162
  v139 := Tryz.zeroValue162
  g3 := by kernel_rfl
  g4 := by kernel_rfl }
open Go.RowKit Go.Lib in
theorem Tryz.utf8_decodeRuneInStringSlow (s : ByteArray) (w : World) (hT : Lib.Utf8Tabs 2 3 w) :
    Calls Tryz.prog 85 #[.string s] w fun e w' => e = .returned (.tuple #[.int .i32 (Lib.decodeGo s).1, .int .i64 (Lib.decodeGo s).2]) ∧ Below w.heap.size w w' := Any.utf8_decodeRuneInStringSlow Tryz.lays260 s w hT
open Go.RowKit Go.Lib in
/-- **unicode/utf8.DecodeRuneInString AT EVERY STRING.** (LAID: no walk: one application.) -/
theorem Tryz.utf8_DecodeRuneInString (s : ByteArray) (w : World) (hT : Lib.Utf8Tabs 2 3 w) :
    Calls Tryz.prog 83 #[.string s] w fun e w' => e = .returned (.tuple #[.int .i32 (Lib.decodeGo s).1, .int .i64 (Lib.decodeGo s).2]) ∧ Below w.heap.size w w' := Any.utf8_DecodeRuneInString Tryz.lays197 s w hT
def Tryz.lays271_ren : Go.Shelf.Ren := ⟨fun | 271 => 79 | 120 => 82 | 197 => 83 | 260 => 85 | n => n, fun | 9 => 9 | 21 => 21 | 3 => 3 | 4 => 4 | 5 => 5 | 105 => 151 | 119 => 159 | 0 => 0 | 46 => 83 | 139 => 162 | 138 => 161 | n => n, fun | 3 => 2 | 4 => 3 | n => n⟩
theorem Tryz.lays271 : Go.Proofs.Lays.n271 Tryz.prog Tryz.lays271_ren := {
  mixed := by kernel_rfl
  f120 := Tryz.func82.trans (congrArg some (by kernel_rfl))
  f197 := Tryz.func83.trans (congrArg some (by kernel_rfl))
  f260 := Tryz.func85.trans (congrArg some (by kernel_rfl))
  f271 := Tryz.func79.trans (congrArg some (by kernel_rfl))
  t0 := Tryz.underlying0
  a0 := Tryz.isAgg0
  z0 := Tryz.sizeOf0
  v0 := Tryz.zeroValue0
  t3 := Tryz.underlying3
  a3 := Tryz.isAgg3
  z3 := Tryz.sizeOf3
  v3 := Tryz.zeroValue3
  t4 := Tryz.underlying4
  a4 := Tryz.isAgg4
  z4 := Tryz.sizeOf4
  v4 := Tryz.zeroValue4
  t5 := Tryz.underlying5
  a5 := Tryz.isAgg5
  z5 := Tryz.sizeOf5
  v5 := Tryz.zeroValue5
  t9 := Tryz.underlying9
  a9 := Tryz.isAgg9
  z9 := Tryz.sizeOf9
  v9 := Tryz.zeroValue9
  t21 := Tryz.underlying21
  a21 := Tryz.isAgg21
  z21 := Tryz.sizeOf21
  v21 := Tryz.zeroValue21
  t46 := Tryz.underlying83
  a46 := Tryz.isAgg83
  z46 := Tryz.sizeOf83
  v46 := Tryz.zeroValue83
  t105 := Tryz.underlying151
  a105 := Tryz.isAgg151
  z105 := Tryz.sizeOf151
  v105 := Tryz.zeroValue151
  t119 := Tryz.underlying159
  a119 := Tryz.isAgg159
  z119 := Tryz.sizeOf159
  t138 := Tryz.underlying161
  a138 := Tryz.isAgg161
  z138 := Tryz.sizeOf161
  v138 := Tryz.zeroValue161
  t139 := Tryz.underlying162
  a139 := Tryz.isAgg162
  z139 := Tryz.sizeOf162
  v139 := Tryz.zeroValue162
  g3 := by kernel_rfl
  g4 := by kernel_rfl }
open Go.RowKit Go.Lib in
/-- **unicode/utf8.DecodeLastRuneInString AT EVERY STRING.** (LAID: no walk: one application.) -/
theorem Tryz.utf8_DecodeLastRuneInString (s : ByteArray) (w : World) (hs : s.size ≤ 9223372036854775807) (hT : Lib.Utf8Tabs 2 3 w) :
    Calls Tryz.prog 79 #[.string s] w fun e w' => e = .returned (.tuple #[.int .i32 (Lib.decodeLastL s.data.toList).1, .int .i64 (Lib.decodeLastL s.data.toList).2]) ∧ Below w.heap.size w w' := Any.utf8_DecodeLastRuneInString Tryz.lays271 s w hs hT
end Go.Proofs

namespace Go.Proofs.YtdjljnpbnhampaaGreatDoor
open Go.RowKit

/-- How many noughts stand ahead. -/
def lead (l : List UInt8) : Nat := l.length - (Lib.trimLeftB l 0).length

theorem trim_le (l : List UInt8) : (Lib.trimLeftB l 0).length ≤ l.length := by
  induction l with
  | nil => exact Nat.le_refl _
  | cons b l ih =>
    show ((b :: l).dropWhile (· == 0)).length ≤ _
    have ih' : (l.dropWhile (· == 0)).length ≤ l.length := ih
    cases hb : (b == 0) with
    | true => simp only [List.dropWhile, hb, List.length_cons]; omega
    | false => simp only [List.dropWhile, hb, List.length_cons]; omega

theorem trim_drop (l : List UInt8) : Lib.trimLeftB l 0 = l.drop (lead l) := by
  induction l with
  | nil => rfl
  | cons b l ih =>
    have hl := trim_le l
    cases hb : (b == 0) with
    | true =>
      have e : Lib.trimLeftB (b :: l) 0 = Lib.trimLeftB l 0 := by
        show (b :: l).dropWhile (· == 0) = l.dropWhile (· == 0)
        simp only [List.dropWhile, hb]
      have e2 : lead (b :: l) = lead l + 1 := by unfold lead; rw [e, List.length_cons]; omega
      rw [e, e2, List.drop_succ_cons]
      exact ih
    | false =>
      have e : Lib.trimLeftB (b :: l) 0 = b :: l := by
        show (b :: l).dropWhile (· == 0) = b :: l
        simp only [List.dropWhile, hb]
      have e2 : lead (b :: l) = 0 := by unfold lead; rw [e]; omega
      rw [e, e2, List.drop_zero]







end Go.Proofs.YtdjljnpbnhampaaGreatDoor

namespace Go.Proofs.YtdjljnpbnhampaaGreatDoor
open Go.RowKit
set_option linter.unusedVariables false

/-- Only noughts are left. -/
def zrR (s : List UInt8) (off : Nat) (st : RSt) : Bool × RSt :=
  if st.2.1 ≠ 0 then (false, st)
  else if st.1 + lead (s.drop st.1) = s.length then (true, s.length, st.2)
  else (false, st.1 + lead (s.drop st.1), 15, (off : Int) + (st.1 + lead (s.drop st.1) : Nat))

theorem leadT_le (l : List UInt8) : lead l ≤ l.length := by unfold lead; omega

theorem zrR_le (s : List UInt8) (off : Nat) (st : RSt) (h : st.1 ≤ s.length) : (zrR s off st).2.1 ≤ s.length := by
  have h3 := leadT_le (s.drop st.1)
  rw [List.length_drop] at h3
  unfold zrR
  split
  · exact h
  · split
    · exact Nat.le_refl _
    · show st.1 + lead (s.drop st.1) ≤ s.length
      omega

theorem zrR_bad (s : List UInt8) (off : Nat) (st : RSt) (h : st.2.1 ≠ 0) : zrR s off st = (false, st) := by unfold zrR; rw [if_pos h]

theorem zrR_no (s : List UInt8) (off : Nat) (st : RSt) (h : (zrR s off st).1 = false) : (zrR s off st).2.2.1 ≠ 0 := by
  unfold zrR at h ⊢
  split
  · assumption
  · rename_i h1
    rw [if_neg h1] at h
    split
    · rename_i h2
      rw [if_pos h2] at h
      cases h
    · exact (show (15 : Int) ≠ 0 by decide)

theorem zrR_yes (s : List UInt8) (off : Nat) (st : RSt) (h : (zrR s off st).1 = true) : st.2.1 = 0 ∧ st.1 + lead (s.drop st.1) = s.length ∧ (zrR s off st).2 = (s.length, st.2) := by
  unfold zrR at h ⊢
  by_cases h1 : st.2.1 ≠ 0
  · rw [if_pos h1] at h; cases h
  · rw [if_neg h1] at h ⊢
    by_cases h2 : st.1 + lead (s.drop st.1) = s.length
    · rw [if_pos h2]
      exact ⟨by simpa using h1, h2, rfl⟩
    · rw [if_neg h2] at h; cases h




end Go.Proofs.YtdjljnpbnhampaaGreatDoor

namespace Go.Proofs.YtdjljnpbnhampaaGreatDoor
open Go.RowKit

theorem lead_cons0 (l : List UInt8) : lead (0 :: l) = lead l + 1 := by
  have hl := trim_le l
  have e : Lib.trimLeftB (0 :: l) 0 = Lib.trimLeftB l 0 := by
    show (0 :: l).dropWhile (· == 0) = l.dropWhile (· == 0)
    simp [List.dropWhile]
  unfold lead
  rw [e, List.length_cons]
  omega

theorem lead_cons1 (b : UInt8) (l : List UInt8) (h : b ≠ 0) : lead (b :: l) = 0 := by
  have hb : (b == 0) = false := by simp [h]
  have e : Lib.trimLeftB (b :: l) 0 = b :: l := by
    show (b :: l).dropWhile (· == 0) = b :: l
    simp only [List.dropWhile, hb]
  unfold lead
  rw [e]
  omega

theorem lead_spec (l : List UInt8) : (∀ (j : Nat) b, j < lead l → l[j]? = some b → b = 0) ∧ (∀ b, l[lead l]? = some b → b ≠ 0) := by
  induction l with
  | nil => exact ⟨fun j b hj => by simp [lead, Lib.trimLeftB] at hj, fun b hb => by simp at hb⟩
  | cons x l ih =>
    by_cases hx : x = 0
    · subst hx
      rw [lead_cons0]
      refine ⟨fun j b hj hb => ?_, fun b hb => ?_⟩
      · cases j with
        | zero => simpa using hb.symm
        | succ j => exact ih.1 j b (by omega) (by simpa using hb)
      · exact ih.2 b (by simpa using hb)
    · rw [lead_cons1 x l hx]
      exact ⟨fun j b hj => by omega, fun b hb => by simp at hb; rw [← hb]; exact hx⟩

/-- Behind p only noughts, or another byte at m. -/
theorem zrR_ways (s : ByteArray) (p : Nat) (pl : Int) (hp : p ≤ s.size) :
    ((∀ (j : Nat) b, p ≤ j → s.data.toList[j]? = some b → b = 0) ∧ zrR s.data.toList 0 (p, 0, pl) = (true, s.data.toList.length, 0, pl)) ∨
    (∃ m, ∃ hm : m < s.size, p ≤ m ∧ (∀ (j : Nat) b, p ≤ j → j < m → s.data.toList[j]? = some b → b = 0) ∧ s[m] ≠ 0 ∧ zrR s.data.toList 0 (p, 0, pl) = (false, m, 15, (m : Int))) := by
  obtain ⟨h1, h2⟩ := lead_spec (s.data.toList.drop p)
  have hL : s.data.toList.length = s.size := by simp
  have hle := leadT_le (s.data.toList.drop p)
  rw [List.length_drop, hL] at hle
  by_cases hc : p + lead (s.data.toList.drop p) = s.data.toList.length
  · refine Or.inl ⟨fun j b hj hb => ?_, ?_⟩
    · have hjl : j < s.data.toList.length := (List.getElem?_eq_some_iff.1 hb).1
      exact h1 (j - p) b (by omega) (by rw [List.getElem?_drop, show p + (j - p) = j by omega]; exact hb)
    · simp only [zrR]
      rw [if_neg (by decide), if_pos hc]
  · have hm : p + lead (s.data.toList.drop p) < s.size := by omega
    refine Or.inr ⟨p + lead (s.data.toList.drop p), hm, by omega, fun j b hj hj2 hb => ?_, ?_, ?_⟩
    · exact h1 (j - p) b (by omega) (by rw [List.getElem?_drop, show p + (j - p) = j by omega]; exact hb)
    · exact h2 _ (by rw [List.getElem?_drop, Array.getElem?_toList]; exact Array.getElem?_eq_getElem hm)
    · simp only [zrR]
      rw [if_neg (by decide), if_neg hc]
      simp

end Go.Proofs.YtdjljnpbnhampaaGreatDoor

namespace Go.Proofs.YtdjljnpbnhampaaGreatDoor
open Go.RowKit
set_option linter.unusedVariables false
set_option linter.unusedSimpArgs false

/-- Behind bytes that are always the same. -/
def exS (l : List UInt8) (st : RSt) (z : List UInt8) : RSt := if (tkN l 0 st (z.length : Nat) false).1 = z then (tkN l 0 st (z.length : Nat) false).2 else flR (tkN l 0 st (z.length : Nat) false).2 3 (st.1 : Int)

theorem exS_le (l : List UInt8) (st : RSt) (z : List UInt8) (h : st.1 ≤ l.length) : (exS l st z).1 ≤ l.length := by
  unfold exS
  split
  · exact tkN_le l 0 st _ false h
  · exact flR_le l _ _ _ (tkN_le l 0 st _ false h)

theorem ex_go (l : List UInt8) (st : RSt) (z : List UInt8) (h : st.2.1 = 0) (hn : st.1 + z.length ≤ l.length) (hz : (l.drop st.1).take z.length = z) : exS l st z = (st.1 + z.length, st.2) := by
  have e := tkN_go l 0 st z.length false h hn (by simp)
  unfold exS
  rw [e, if_pos hz]

theorem ex_form (l : List UInt8) (st : RSt) (z : List UInt8) (h : st.2.1 = 0) (hn : st.1 + z.length ≤ l.length) (hz : ¬ (l.drop st.1).take z.length = z) : (exS l st z).2 = (3, (st.1 : Int)) := by
  have e := tkN_go l 0 st z.length false h hn (by simp)
  unfold exS
  rw [e, if_neg hz]
  unfold flR
  rw [if_neg (by simpa using h)]

theorem ex_miss (l : List UInt8) (st : RSt) (z : List UInt8) (hz : z ≠ []) (h : st.2.1 = 0) (hn : ¬ st.1 + z.length ≤ l.length) (hp : st.1 ≤ l.length) : exS l st z = (st.1, 7, (st.1 : Int)) := by
  have e := tkN_miss l 0 st z.length false h hn hp (by simp)
  unfold exS
  rw [e, if_neg (fun q => hz q.symm), flR_bad _ 3 _ (by simp)]
  simp

theorem ex_bad (l : List UInt8) (st : RSt) (z : List UInt8) (hz : z ≠ []) (h : ¬ st.2.1 = 0) : exS l st z = st := by
  unfold exS
  rw [tkN_bad l 0 st _ false h, if_neg (fun q => hz q.symm), flR_bad st 3 _ h]

/-- This text, or another one as long. -/
def exS2 (l : List UInt8) (st : RSt) (z y : List UInt8) : RSt := if (tkN l 0 st (z.length : Nat) false).1 = z ∨ (tkN l 0 st (z.length : Nat) false).1 = y then (tkN l 0 st (z.length : Nat) false).2 else flR (tkN l 0 st (z.length : Nat) false).2 3 (st.1 : Int)

/-- What they are. -/
def exV2 (l : List UInt8) (st : RSt) (z y : List UInt8) : List UInt8 := if (tkN l 0 st (z.length : Nat) false).1 = z ∨ (tkN l 0 st (z.length : Nat) false).1 = y then (tkN l 0 st (z.length : Nat) false).1 else []

theorem exS2_le (l : List UInt8) (st : RSt) (z y : List UInt8) (h : st.1 ≤ l.length) : (exS2 l st z y).1 ≤ l.length := by
  unfold exS2
  split
  · exact tkN_le l 0 st _ false h
  · exact flR_le l _ _ _ (tkN_le l 0 st _ false h)

inductive Stp where
  | want (z : List UInt8)
  | alt (z y : List UInt8)
  | eat (n : Nat)
  | num (n : Nat)

/-- What is wrong first, and where. -/
def runP (l : List UInt8) : List Stp → Nat → Option (Int × Nat)
  | [], _ => none
  | .want z :: r, p => if l.length < p + z.length then some (7, p) else if (l.drop p).take z.length = z then runP l r (p + z.length) else some (3, p)
  | .alt z y :: r, p => if l.length < p + z.length then some (7, p) else if (l.drop p).take z.length = z ∨ (l.drop p).take z.length = y then runP l r (p + z.length) else some (3, p)
  | .eat n :: r, p => if l.length < p + n then some (7, p) else runP l r (p + n)
  | .num n :: r, p => if l.length < p + n then some (7, p) else runP l r (p + n)

/-- How many bytes. -/
def lenP : List Stp → Nat
  | [] => 0
  | .want z :: r => z.length + lenP r
  | .alt z y :: r => z.length + lenP r
  | .eat n :: r => n + lenP r
  | .num n :: r => n + lenP r

/-- What a reader notes. -/
def runS (l : List UInt8) : List Stp → RSt → RSt
  | [], st => st
  | .want z :: r, st => runS l r (exS l st z)
  | .alt z y :: r, st => runS l r (exS2 l st z y)
  | .eat n :: r, st => runS l r (tkN l 0 st (n : Nat) false).2
  | .num n :: r, st => runS l r (nmS l 0 st (n : Nat))

def okP : List Stp → Bool
  | [] => true
  | .want z :: r => !z.isEmpty && okP r
  | .alt z y :: r => !z.isEmpty && (!y.isEmpty && okP r)
  | .eat n :: r => okP r
  | .num n :: r => decide (1 ≤ n) && (decide (n ≤ 7) && okP r)

theorem runS_app (l : List UInt8) (a b : List Stp) (st : RSt) : runS l (a ++ b) st = runS l b (runS l a st) := by
  induction a generalizing st with
  | nil => rfl
  | cons x a ih => cases x <;> exact ih _

theorem runS_le (l : List UInt8) (r : List Stp) (st : RSt) (h : st.1 ≤ l.length) : (runS l r st).1 ≤ l.length := by
  induction r generalizing st with
  | nil => exact h
  | cons x r ih =>
    cases x with
    | want z => exact ih _ (exS_le l st z h)
    | alt z y => exact ih _ (exS2_le l st z y h)
    | eat n => exact ih _ (tkN_le l 0 st _ false h)
    | num n => exact ih _ (nmS_le l 0 st _ h)

/-- Once noted, always noted. -/
theorem runS_bad (l : List UInt8) (r : List Stp) (hr : okP r = true) (st : RSt) (h : ¬ st.2.1 = 0) : runS l r st = st := by
  induction r with
  | nil => rfl
  | cons x r ih =>
    cases x with
    | want z =>
      simp only [okP, Bool.and_eq_true, Bool.not_eq_true', List.isEmpty_eq_false_iff] at hr
      show runS l r (exS l st z) = st
      rw [ex_bad l st z hr.1 h]
      exact ih hr.2
    | alt z y =>
      simp only [okP, Bool.and_eq_true, Bool.not_eq_true', List.isEmpty_eq_false_iff] at hr
      show runS l r (exS2 l st z y) = st
      have e : exS2 l st z y = st := by
        unfold exS2
        rw [tkN_bad l 0 st _ false h, if_neg (fun q => q.elim (fun q => hr.1 q.symm) (fun q => hr.2.1 q.symm)), flR_bad st 3 _ h]
      rw [e]
      exact ih hr.2.2
    | eat n =>
      show runS l r (tkN l 0 st (n : Nat) false).2 = st
      rw [tkN_bad l 0 st _ false h]
      exact ih hr
    | num n =>
      simp only [okP, Bool.and_eq_true] at hr
      show runS l r (nmS l 0 st (n : Nat)) = st
      rw [nm_bad l st _ h]
      exact ih hr.2.2

/-- What a reader notes is what is wrong. -/
theorem runS_spec (l : List UInt8) (r : List Stp) (hr : okP r = true) (st : RSt) (h : st.2.1 = 0) (hp : st.1 ≤ l.length) :
    (runP l r st.1 = none ∧ runS l r st = (st.1 + lenP r, st.2) ∧ st.1 + lenP r ≤ l.length) ∨ (∃ e x, runP l r st.1 = some (e, x) ∧ e ≠ 0 ∧ (runS l r st).2 = (e, (x : Int))) := by
  have bad : ∀ (r : List Stp) (st' : RSt) (e : Int) (x : Nat), okP r = true → st'.2 = (e, (x : Int)) → e ≠ 0 → (runS l r st').2 = (e, (x : Int)) := by
    intro r st' e x hr h2 he
    rw [runS_bad l r hr st' (by rw [h2]; exact he)]
    exact h2
  induction r generalizing st with
  | nil => exact Or.inl ⟨rfl, rfl, hp⟩
  | cons x r ih =>
    cases x with
    | want z =>
      simp only [okP, Bool.and_eq_true, Bool.not_eq_true', List.isEmpty_eq_false_iff] at hr
      by_cases c : l.length < st.1 + z.length
      · refine Or.inr ⟨7, st.1, by simp only [runP]; rw [if_pos c], by decide, ?_⟩
        exact bad r _ 7 st.1 hr.2 (by rw [ex_miss l st z hr.1 h (by omega) hp]) (by decide)
      · by_cases q : (l.drop st.1).take z.length = z
        · have e := ex_go l st z h (by omega) q
          have i := ih hr.2 (exS l st z) (by rw [e]; exact h) (by rw [e]; show st.1 + z.length ≤ _; omega)
          have e1 : runP l (.want z :: r) st.1 = runP l r (exS l st z).1 := by simp only [runP]; rw [if_neg c, if_pos q, e]
          have e2 : runS l (.want z :: r) st = runS l r (exS l st z) := rfl
          rw [e1, e2]
          rcases i with ⟨i1, i2, i3⟩ | i
          · refine Or.inl ⟨i1, ?_, ?_⟩
            · rw [i2, e]
              show (st.1 + z.length + lenP r, st.2) = (st.1 + (z.length + lenP r), st.2)
              rw [Nat.add_assoc]
            · rw [e] at i3
              have i4 : st.1 + z.length + lenP r ≤ l.length := i3
              show st.1 + (z.length + lenP r) ≤ _
              omega
          · exact Or.inr i
        · refine Or.inr ⟨3, st.1, by simp only [runP]; rw [if_neg c, if_neg q], by decide, ?_⟩
          exact bad r _ 3 st.1 hr.2 (ex_form l st z h (by omega) q) (by decide)
    | alt z y =>
      simp only [okP, Bool.and_eq_true, Bool.not_eq_true', List.isEmpty_eq_false_iff] at hr
      by_cases c : l.length < st.1 + z.length
      · refine Or.inr ⟨7, st.1, by simp only [runP]; rw [if_pos c], by decide, ?_⟩
        refine bad r _ 7 st.1 hr.2.2 ?_ (by decide)
        have e := tkN_miss l 0 st z.length false h (by omega) hp (by simp)
        unfold exS2
        rw [e, if_neg (fun q => q.elim (fun q => hr.1 q.symm) (fun q => hr.2.1 q.symm)), flR_bad _ 3 _ (by simp)]
        simp
      · have e0 := tkN_go l 0 st z.length false h (by omega) (by simp)
        by_cases q : (l.drop st.1).take z.length = z ∨ (l.drop st.1).take z.length = y
        · have e : exS2 l st z y = (st.1 + z.length, st.2) := by
            unfold exS2
            rw [e0, if_pos q]
          have i := ih hr.2.2 (exS2 l st z y) (by rw [e]; exact h) (by rw [e]; show st.1 + z.length ≤ _; omega)
          have e1 : runP l (.alt z y :: r) st.1 = runP l r (exS2 l st z y).1 := by simp only [runP]; rw [if_neg c, if_pos q, e]
          have e2 : runS l (.alt z y :: r) st = runS l r (exS2 l st z y) := rfl
          rw [e1, e2]
          rcases i with ⟨i1, i2, i3⟩ | i
          · refine Or.inl ⟨i1, ?_, ?_⟩
            · rw [i2, e]
              show (st.1 + z.length + lenP r, st.2) = (st.1 + (z.length + lenP r), st.2)
              rw [Nat.add_assoc]
            · rw [e] at i3
              have i4 : st.1 + z.length + lenP r ≤ l.length := i3
              show st.1 + (z.length + lenP r) ≤ _
              omega
          · exact Or.inr i
        · refine Or.inr ⟨3, st.1, by simp only [runP]; rw [if_neg c, if_neg q], by decide, ?_⟩
          refine bad r _ 3 st.1 hr.2.2 ?_ (by decide)
          unfold exS2
          rw [e0, if_neg q]
          unfold flR
          rw [if_neg (by simpa using h)]
    | eat n =>
      have hr' : okP r = true := hr
      by_cases c : l.length < st.1 + n
      · refine Or.inr ⟨7, st.1, by simp only [runP]; rw [if_pos c], by decide, ?_⟩
        refine bad r _ 7 st.1 hr' ?_ (by decide)
        rw [tkN_miss l 0 st n false h (by omega) hp (by simp)]
        simp
      · have e : (tkN l 0 st (n : Nat) false).2 = (st.1 + n, st.2) := by rw [tkN_go l 0 st n false h (by omega) (by simp)]
        have i := ih hr' (tkN l 0 st (n : Nat) false).2 (by rw [e]; exact h) (by rw [e]; show st.1 + n ≤ _; omega)
        have e1 : runP l (.eat n :: r) st.1 = runP l r (tkN l 0 st (n : Nat) false).2.1 := by simp only [runP]; rw [if_neg c, e]
        have e2 : runS l (.eat n :: r) st = runS l r (tkN l 0 st (n : Nat) false).2 := rfl
        rw [e1, e2]
        rcases i with ⟨i1, i2, i3⟩ | i
        · refine Or.inl ⟨i1, ?_, ?_⟩
          · rw [i2, e]
            show (st.1 + n + lenP r, st.2) = (st.1 + (n + lenP r), st.2)
            rw [Nat.add_assoc]
          · rw [e] at i3
            have i4 : st.1 + n + lenP r ≤ l.length := i3
            show st.1 + (n + lenP r) ≤ _
            omega
        · exact Or.inr i
    | num n =>
      simp only [okP, Bool.and_eq_true, decide_eq_true_eq] at hr
      by_cases c : l.length < st.1 + n
      · refine Or.inr ⟨7, st.1, by simp only [runP]; rw [if_pos c], by decide, ?_⟩
        exact bad r _ 7 st.1 hr.2.2 (by rw [nm_miss l st n hr.1 (by omega) h (by omega) hp]) (by decide)
      · have e : nmS l 0 st (n : Nat) = (st.1 + n, st.2) := (nm_go l st n hr.1 (by omega) h (by omega)).1
        have i := ih hr.2.2 (nmS l 0 st (n : Nat)) (by rw [e]; exact h) (by rw [e]; show st.1 + n ≤ _; omega)
        have e1 : runP l (.num n :: r) st.1 = runP l r (nmS l 0 st (n : Nat)).1 := by simp only [runP]; rw [if_neg c, e]
        have e2 : runS l (.num n :: r) st = runS l r (nmS l 0 st (n : Nat)) := rfl
        rw [e1, e2]
        rcases i with ⟨i1, i2, i3⟩ | i
        · refine Or.inl ⟨i1, ?_, ?_⟩
          · rw [i2, e]
            show (st.1 + n + lenP r, st.2) = (st.1 + (n + lenP r), st.2)
            rw [Nat.add_assoc]
          · rw [e] at i3
            have i4 : st.1 + n + lenP r ≤ l.length := i3
            show st.1 + (n + lenP r) ≤ _
            omega
        · exact Or.inr i

/-- What is wrong first in all of it, behind which only noughts stand. -/
def allP (l : List UInt8) (r : List Stp) : Option (Int × Nat) :=
  match runP l r 0 with
  | some x => some x
  | none => if lenP r + lead (l.drop (lenP r)) = l.length then none else some (15, lenP r + lead (l.drop (lenP r)))

theorem all_ans (l : List UInt8) (r : List Stp) (hr : okP r = true) :
    (allP l r = none ∧ runP l r 0 = none ∧ lenP r ≤ l.length ∧ runS l r (0, 0, -1) = (lenP r, 0, -1) ∧ zrR l 0 (runS l r (0, 0, -1)) = (true, l.length, 0, -1)) ∨
    (∃ e x, allP l r = some (e, x) ∧ e ≠ 0 ∧ (zrR l 0 (runS l r (0, 0, -1))).1 = false ∧ (zrR l 0 (runS l r (0, 0, -1))).2.2 = (e, (x : Int))) := by
  rcases runS_spec l r hr (0, 0, -1) rfl (Nat.zero_le _) with ⟨h1, h2, h3⟩ | ⟨e, x, h1, h2, h3⟩
  · have h1' : runP l r 0 = none := h1
    rw [Nat.zero_add] at h2 h3
    by_cases c : lenP r + lead (l.drop (lenP r)) = l.length
    · refine Or.inl ⟨by unfold allP; rw [h1']; exact if_pos c, h1', h3, h2, ?_⟩
      rw [h2]
      unfold zrR
      rw [if_neg (by simp), if_pos c]
    · refine Or.inr ⟨15, lenP r + lead (l.drop (lenP r)), by unfold allP; rw [h1']; exact if_neg c, by decide, ?_, ?_⟩
      · rw [h2]
        unfold zrR
        rw [if_neg (by simp), if_neg c]
      · rw [h2]
        unfold zrR
        rw [if_neg (by simp), if_neg c]
        simp
  · have h1' : runP l r 0 = some (e, x) := h1
    have hb : zrR l 0 (runS l r (0, 0, -1)) = (false, runS l r (0, 0, -1)) := zrR_bad _ _ _ (by rw [h3]; exact h2)
    exact Or.inr ⟨e, x, by unfold allP; rw [h1'], h2, by rw [hb], by rw [hb]; exact h3⟩

/-- One step of it. -/
theorem runP_want {l z : List UInt8} {r : List Stp} {p : Nat} (h : p + z.length ≤ l.length) (hz : (l.drop p).take z.length = z) : runP l (.want z :: r) p = runP l r (p + z.length) := by
  simp only [runP]; rw [if_neg (by omega), if_pos hz]

theorem runP_wantM {l z : List UInt8} {r : List Stp} {p : Nat} (h : ¬ p + z.length ≤ l.length) : runP l (.want z :: r) p = some (7, p) := by
  simp only [runP]; rw [if_pos (by omega)]

theorem runP_wantF {l z : List UInt8} {r : List Stp} {p : Nat} (h : p + z.length ≤ l.length) (hz : ¬ (l.drop p).take z.length = z) : runP l (.want z :: r) p = some (3, p) := by
  simp only [runP]; rw [if_neg (by omega), if_neg hz]

theorem runP_alt {l z y : List UInt8} {r : List Stp} {p : Nat} (h : p + z.length ≤ l.length) (hz : (l.drop p).take z.length = z ∨ (l.drop p).take z.length = y) : runP l (.alt z y :: r) p = runP l r (p + z.length) := by
  simp only [runP]; rw [if_neg (by omega), if_pos hz]

theorem runP_altM {l z y : List UInt8} {r : List Stp} {p : Nat} (h : ¬ p + z.length ≤ l.length) : runP l (.alt z y :: r) p = some (7, p) := by
  simp only [runP]; rw [if_pos (by omega)]

theorem runP_altF {l z y : List UInt8} {r : List Stp} {p : Nat} (h : p + z.length ≤ l.length) (hz : ¬ ((l.drop p).take z.length = z ∨ (l.drop p).take z.length = y)) : runP l (.alt z y :: r) p = some (3, p) := by
  simp only [runP]; rw [if_neg (by omega), if_neg hz]

theorem runP_eat {l : List UInt8} {r : List Stp} {p n : Nat} (h : p + n ≤ l.length) : runP l (.eat n :: r) p = runP l r (p + n) := by
  simp only [runP]; rw [if_neg (by omega)]

theorem runP_eatM {l : List UInt8} {r : List Stp} {p n : Nat} (h : ¬ p + n ≤ l.length) : runP l (.eat n :: r) p = some (7, p) := by
  simp only [runP]; rw [if_pos (by omega)]

theorem runP_num {l : List UInt8} {r : List Stp} {p n : Nat} (h : p + n ≤ l.length) : runP l (.num n :: r) p = runP l r (p + n) := by
  simp only [runP]; rw [if_neg (by omega)]

theorem runP_numM {l : List UInt8} {r : List Stp} {p n : Nat} (h : ¬ p + n ≤ l.length) : runP l (.num n :: r) p = some (7, p) := by
  simp only [runP]; rw [if_pos (by omega)]

theorem allP_some {l : List UInt8} {r : List Stp} {e : Int} {x : Nat} (h : runP l r 0 = some (e, x)) : allP l r = some (e, x) := by unfold allP; rw [h]

theorem allP_none {l : List UInt8} {r : List Stp} (h : runP l r 0 = none) : allP l r = if lenP r + lead (l.drop (lenP r)) = l.length then none else some (15, lenP r + lead (l.drop (lenP r))) := by unfold allP; rw [h]

/-- Behind p only noughts, or another byte at m. -/
theorem lead_ways (s : ByteArray) (p : Nat) (hp : p ≤ s.size) :
    ((∀ (j : Nat) b, p ≤ j → s.data.toList[j]? = some b → b = 0) ∧ p + lead (s.data.toList.drop p) = s.data.toList.length) ∨
    (∃ m, ∃ hm : m < s.size, p ≤ m ∧ (∀ (j : Nat) b, p ≤ j → j < m → s.data.toList[j]? = some b → b = 0) ∧ s[m] ≠ 0 ∧ p + lead (s.data.toList.drop p) = m) := by
  rcases zrR_ways s p (-1) hp with ⟨h, e⟩ | ⟨m, hm, h1, h2, h3, e⟩
  · refine Or.inl ⟨h, ?_⟩
    by_cases c : p + lead (s.data.toList.drop p) = s.data.toList.length
    · exact c
    · unfold zrR at e
      rw [if_neg (by simp), if_neg c] at e
      simp at e
  · refine Or.inr ⟨m, hm, h1, h2, h3, ?_⟩
    by_cases c : p + lead (s.data.toList.drop p) = s.data.toList.length
    · unfold zrR at e
      rw [if_neg (by simp), if_pos c] at e
      simp at e
    · unfold zrR at e
      rw [if_neg (by simp), if_neg c] at e
      simp only [Prod.mk.injEq, true_and] at e
      exact e.1

end Go.Proofs.YtdjljnpbnhampaaGreatDoor

namespace Go.Proofs.YtdjljnpbnhampaaGreatDoor
open Go.RowKit
attribute [local go_sem ↓] Go.wp_at_zero Go.wp_at_succ
set_option linter.unusedSimpArgs false
set_option linter.unusedVariables false
set_option maxRecDepth 100000

theorem index_no (t : ByteArray) (w : World) :
    Calls Tryz.prog 76 #[.slice none 0 0, .string t] w fun e w' => e = .returned (.int .i64 (-1)) ∧ w = w' := by
  go_enter Tryz.func76, Tryz.ntmps76
  go_wp2_with fail
  go_loopw [8] (fun i wr => i = .int .i64 0 ∧ wr = w) (fun _ _ => 0)
  case atStart => exact ⟨rfl, rfl⟩
  case round =>
    obtain ⟨rfl, rfl⟩ := hrel
    go_wp2
    go_ret
    exact ⟨rfl, rfl⟩

theorem contains_no (t : ByteArray) (w : World) :
    Calls Tryz.prog 57 #[.slice none 0 0, .string t] w fun e w' => e = .returned (.bool false) ∧ w = w' := by
  go_enter Tryz.func57, Tryz.ntmps57
  go_wp2_with fail
  refine (index_no t _).mono ?_
  rintro e w2 ⟨rfl, rfl⟩
  go_wp2
  go_ret
  exact ⟨rfl, rfl⟩

theorem index_one (t y : ByteArray) (b : Nat) (w : World) (hc : w.cell? ⟨b, 0, none⟩ = some (.string y)) :
    Calls Tryz.prog 76 #[.slice (some ⟨b, 0, none⟩) 1 1, .string t] w fun e w' => e = .returned (.int .i64 (if t = y then 0 else -1)) ∧ w = w' := by
  by_cases c : t = y
  · subst c
    rw [if_pos rfl]
    go_enter Tryz.func76, Tryz.ntmps76
    go_wp2_with fail
    go_loopw [8] (fun i wr => i = .int .i64 0 ∧ wr = w) (fun _ _ => 0)
    case atStart => exact ⟨rfl, rfl⟩
    case round =>
      obtain ⟨rfl, rfl⟩ := hrel
      go_wp2
      go_ret
      exact ⟨rfl, rfl⟩
  · rw [if_neg c]
    have hn : (t.toList == y.toList) = false := by
      apply beq_eq_false_iff_ne.2
      rw [ByteArray.toList_eq, ByteArray.toList_eq]
      intro e
      exact c (ByteArray.ext (Array.toList_inj.1 e))
    clear c
    go_enter Tryz.func76, Tryz.ntmps76
    go_wp2_with fail
    go_loopw [8] (fun i wr => ∃ k : Nat, k ≤ 1 ∧ i = .int .i64 k ∧ wr = w) (fun i _ => 1 - (intOf i).toNat)
    case atStart => exact ⟨0, by omega, rfl, rfl⟩
    case round =>
      obtain ⟨k, hk, rfl, rfl⟩ := hrel
      by_cases hlt : k < 1
      · obtain rfl : k = 0 := by omega
        go_wp2
        go_roundw
        case rel => first | exact ⟨1, by omega, by go_num, rfl⟩ | exact ⟨1, by omega, by go_num, trivial⟩ | exact ⟨1, by omega, by go_num⟩
        case measure => simp [intOf]
      · obtain rfl : k = 1 := by omega
        go_wp2
        go_ret
        exact ⟨rfl, rfl⟩

theorem contains_one (t y : ByteArray) (b : Nat) (w : World) (hc : w.cell? ⟨b, 0, none⟩ = some (.string y)) :
    Calls Tryz.prog 57 #[.slice (some ⟨b, 0, none⟩) 1 1, .string t] w fun e w' => e = .returned (.bool (decide (t = y))) ∧ w = w' := by
  have HI := Lib.hid (index_one t y b w hc)
  by_cases c : t = y
  · rw [if_pos c] at HI
    rw [decide_eq_true c]
    clear c
    go_enter Tryz.func57, Tryz.ntmps57
    go_wp2_with fail
    refine (HI.out).mono ?_
    rintro e w2 ⟨rfl, rfl⟩
    go_wp2
    go_ret
    exact ⟨rfl, rfl⟩
  · rw [if_neg c] at HI
    rw [decide_eq_false c]
    clear c
    go_enter Tryz.func57, Tryz.ntmps57
    go_wp2_with fail
    refine (HI.out).mono ?_
    rintro e w2 ⟨rfl, rfl⟩
    go_wp2
    go_ret
    exact ⟨rfl, rfl⟩

theorem RdT.pos {w : World} {g : Nat} {s : ByteArray} {st : RSt} (h : RdT w g s 0 st) : w.cell? ⟨g, 1, none⟩ = some (.int .i64 (st.1 : Int)) := by
  obtain ⟨f, hr, _⟩ := h
  have e := hr.c1
  rw [show ((0 : Nat) : Int) + (st.1 : Int) = (st.1 : Int) by omega] at e
  exact e

/-- What they are. -/
def exV (l : List UInt8) (st : RSt) (z : List UInt8) : List UInt8 := if (tkN l 0 st (z.length : Nat) false).1 = z then (tkN l 0 st (z.length : Nat) false).1 else []

theorem exp_t {g : Nat} {s : ByteArray} (z : ByteArray) (hz : z.size ≤ 8) (st : RSt) (w : World) (h : RdT w g s 0 st) (hp : st.1 ≤ s.size) (hb : 0 + s.size ≤ 281474976710656) :
    Calls Tryz.prog 28 #[.pointer (some ⟨g, 0, none⟩), .string z, .slice none 0 0] w fun e w' => e = .returned (.string ⟨(exV s.data.toList st z.data.toList).toArray⟩) ∧ RdT w' g s 0 (exS s.data.toList st z.data.toList) ∧ w.grownBy w' (some g) := by
  have hzl : z.data.toList.length = z.size := by simp
  have HY : Hid (∀ W, RdT W g s 0 st → Calls Tryz.prog 32 #[.pointer (some ⟨g, 0, none⟩), .int .i64 (z.size : Nat)] W fun e w' => e = .returned (.string ⟨(tkN s.data.toList 0 st (z.size : Nat) false).1.toArray⟩) ∧ RdT w' g s 0 (tkN s.data.toList 0 st (z.size : Nat) false).2 ∧ W.grownBy w' (some g)) := fun W h => bytes_t st _ W h hp hb
  have HT : Hid (exS s.data.toList st z.data.toList = if (tkN s.data.toList 0 st (z.size : Nat) false).1 = z.data.toList then (tkN s.data.toList 0 st (z.size : Nat) false).2 else flR (tkN s.data.toList 0 st (z.size : Nat) false).2 3 (st.1 : Int)) := by
    show _ = _
    unfold exS
    rw [hzl]
  have HV : Hid (exV s.data.toList st z.data.toList = if (tkN s.data.toList 0 st (z.size : Nat) false).1 = z.data.toList then (tkN s.data.toList 0 st (z.size : Nat) false).1 else []) := by
    show _ = _
    unfold exV
    rw [hzl]
  have c1 := h.pos
  generalize (tkN s.data.toList 0 st (z.size : Nat) false).2 = s2 at *
  generalize exS s.data.toList st z.data.toList = s3 at *
  generalize exV s.data.toList st z.data.toList = v3 at *
  generalize (st.1 : Int) = pl at *
  obtain ⟨u, hu⟩ : ∃ u : ByteArray, u = ⟨(tkN s.data.toList 0 st (z.size : Nat) false).1.toArray⟩ := ⟨_, rfl⟩
  rw [← hu] at HY
  have hul : u.data.toList = (tkN s.data.toList 0 st (z.size : Nat) false).1 := by rw [hu]
  rw [← hul] at HT HV
  clear hul hu hp hb hzl
  by_cases c : u.data.toList = z.data.toList
  · rw [if_pos c] at HT HV
    have hT := HT.out
    subst hT
    have hc : u = z := by
      apply ByteArray.ext
      apply Array.toList_inj.1
      exact c
    subst hc
    clear c HT
    go_enter Tryz.func28, Tryz.ntmps28
    go_wp2_with fail
    refine (HY.out _ h).mono ?_
    rintro e w2 ⟨rfl, h2, g2⟩
    go_wp2
    go_ret
    exact ⟨by rw [HV.out] <;> rfl, h2, g2⟩
  · rw [if_neg c] at HT HV
    have hT := HT.out
    subst hT
    have hn : (u.toList == z.toList) = false := by
      apply beq_eq_false_iff_ne.2
      rw [ByteArray.toList_eq, ByteArray.toList_eq]
      exact c
    clear c HT
    go_enter Tryz.func28, Tryz.ntmps28
    go_wp2_with fail
    refine (HY.out _ h).mono ?_
    rintro e w2 ⟨rfl, h2, g2⟩
    go_wp2_with fail
    refine (contains_no u _).mono ?_
    rintro e w3 ⟨rfl, rfl⟩
    go_wp2_with fail
    refine (fail_t s2 3 pl (by decide) _ h2).mono ?_
    rintro e w3 ⟨rfl, h3, g3⟩
    go_wp2
    go_ret
    exact ⟨by rw [HV.out] <;> rfl, h3, grown_same g2 g3⟩

/-- This text, or one other. -/
theorem exp2_t {g b : Nat} {s : ByteArray} (z y : ByteArray) (hz : z.size ≤ 8) (st : RSt) (w : World) (h : RdT w g s 0 st) (hY : Blk w b 9 #[.string y]) (hp : st.1 ≤ s.size) (hb : 0 + s.size ≤ 281474976710656) :
    Calls Tryz.prog 28 #[.pointer (some ⟨g, 0, none⟩), .string z, .slice (some ⟨b, 0, none⟩) 1 1] w fun e w' => e = .returned (.string ⟨(exV2 s.data.toList st z.data.toList y.data.toList).toArray⟩) ∧ RdT w' g s 0 (exS2 s.data.toList st z.data.toList y.data.toList) ∧ w.grownBy w' (some g) := by
  have hzl : z.data.toList.length = z.size := by simp
  have HY : Hid (∀ W, RdT W g s 0 st → Calls Tryz.prog 32 #[.pointer (some ⟨g, 0, none⟩), .int .i64 (z.size : Nat)] W fun e w' => e = .returned (.string ⟨(tkN s.data.toList 0 st (z.size : Nat) false).1.toArray⟩) ∧ RdT w' g s 0 (tkN s.data.toList 0 st (z.size : Nat) false).2 ∧ W.grownBy w' (some g)) := fun W h => bytes_t st _ W h hp hb
  have HT : Hid (exS2 s.data.toList st z.data.toList y.data.toList = if (tkN s.data.toList 0 st (z.size : Nat) false).1 = z.data.toList ∨ (tkN s.data.toList 0 st (z.size : Nat) false).1 = y.data.toList then (tkN s.data.toList 0 st (z.size : Nat) false).2 else flR (tkN s.data.toList 0 st (z.size : Nat) false).2 3 (st.1 : Int)) := by
    show _ = _
    unfold exS2
    rw [hzl]
  have HV : Hid (exV2 s.data.toList st z.data.toList y.data.toList = if (tkN s.data.toList 0 st (z.size : Nat) false).1 = z.data.toList ∨ (tkN s.data.toList 0 st (z.size : Nat) false).1 = y.data.toList then (tkN s.data.toList 0 st (z.size : Nat) false).1 else []) := by
    show _ = _
    unfold exV2
    rw [hzl]
  have c1 := h.pos
  have HB := Lib.hid (fun (W : World) (h1 : Blk W b 9 #[.string y]) => h1.cv 0 (.string y) rfl)
  generalize (tkN s.data.toList 0 st (z.size : Nat) false).2 = s2 at *
  generalize exS2 s.data.toList st z.data.toList y.data.toList = s3 at *
  generalize exV2 s.data.toList st z.data.toList y.data.toList = v3 at *
  generalize (st.1 : Int) = pl at *
  obtain ⟨u, hu⟩ : ∃ u : ByteArray, u = ⟨(tkN s.data.toList 0 st (z.size : Nat) false).1.toArray⟩ := ⟨_, rfl⟩
  rw [← hu] at HY
  have hul : u.data.toList = (tkN s.data.toList 0 st (z.size : Nat) false).1 := by rw [hu]
  rw [← hul] at HT HV
  clear hul hu hp hb hzl
  have same : ∀ t : ByteArray, u.data.toList = t.data.toList → u = t := fun t c => by
    apply ByteArray.ext
    apply Array.toList_inj.1
    exact c
  by_cases c : u.data.toList = z.data.toList
  · rw [if_pos (Or.inl c)] at HT HV
    have hT := HT.out
    subst hT
    have hc := same z c
    subst hc
    clear c HT same
    go_enter Tryz.func28, Tryz.ntmps28
    go_wp2_with fail
    refine (HY.out _ h).mono ?_
    rintro e w2 ⟨rfl, h2, g2⟩
    go_wp2
    go_ret
    exact ⟨by rw [HV.out] <;> rfl, h2, g2⟩
  · have hn : (u.toList == z.toList) = false := by
      apply beq_eq_false_iff_ne.2
      rw [ByteArray.toList_eq, ByteArray.toList_eq]
      exact c
    by_cases d : u.data.toList = y.data.toList
    · rw [if_pos (Or.inr d)] at HT HV
      have hT := HT.out
      subst hT
      have hd := same y d
      have HC := Lib.hid (fun (W : World) (hc : W.cell? ⟨b, 0, none⟩ = some (.string y)) => contains_one u y b W hc)
      rw [decide_eq_true hd] at HC
      clear c d HT same hd
      go_enter Tryz.func28, Tryz.ntmps28
      go_wp2_with fail
      refine (HY.out _ h).mono ?_
      rintro e w2 ⟨rfl, h2, g2⟩
      have hY2 := hY.reads h (by decide : 9 ≠ 114) g2
      go_wp2_with fail
      refine (HC.out _ (HB.out _ hY2)).mono ?_
      rintro e w3 ⟨rfl, rfl⟩
      go_wp2
      go_ret
      exact ⟨by rw [HV.out] <;> rfl, h2, g2⟩
    · rw [if_neg (fun q => q.elim c d)] at HT HV
      have hT := HT.out
      subst hT
      have hd : ¬ u = y := fun q => d (by rw [q])
      have HC := Lib.hid (fun (W : World) (hc : W.cell? ⟨b, 0, none⟩ = some (.string y)) => contains_one u y b W hc)
      rw [decide_eq_false hd] at HC
      clear c d HT same hd
      go_enter Tryz.func28, Tryz.ntmps28
      go_wp2_with fail
      refine (HY.out _ h).mono ?_
      rintro e w2 ⟨rfl, h2, g2⟩
      have hY2 := hY.reads h (by decide : 9 ≠ 114) g2
      go_wp2_with fail
      refine (HC.out _ (HB.out _ hY2)).mono ?_
      rintro e w3 ⟨rfl, rfl⟩
      go_wp2_with fail
      refine (fail_t s2 3 pl (by decide) _ h2).mono ?_
      rintro e w3 ⟨rfl, h3, g3⟩
      go_wp2
      go_ret
      exact ⟨by rw [HV.out] <;> rfl, h3, grown_same g2 g3⟩

end Go.Proofs.YtdjljnpbnhampaaGreatDoor

namespace Go.Proofs.YtdjljnpbnhampaaGreatDoor
open Go.RowKit
set_option linter.unusedVariables false

/-- What a reader's error says: nothing (0, -1), or an At. -/
def ErrAs (w : World) (er : Value) (e pl : Int) : Prop := (er = .nilIface ∧ e = 0 ∧ pl = -1) ∨ (e ≠ 0 ∧ ∃ q, er = .iface 112 (.pointer (some ⟨q, 0, none⟩)) ∧ Flt w q e pl)

theorem ErrAs.below {w w' : World} {er : Value} {e pl : Int} (h : ErrAs w er e pl) (hb : Below w.heap.size w w') : ErrAs w' er e pl := by
  rcases h with h | ⟨he, q, hq, hf⟩
  · exact Or.inl h
  · exact Or.inr ⟨he, q, hq, hf.below hb⟩

theorem ErrAs.nil {w : World} : ErrAs w .nilIface 0 (-1) := Or.inl ⟨rfl, rfl, rfl⟩

/-- A reader's answer: a value, and its error. -/
def ReadsAs (X : Array Value) (e pl : Int) (w : World) (r : Ending) (w' : World) : Prop := ∃ er, r = .returned (.tuple #[.agg X, er]) ∧ ErrAs w' er e pl ∧ Below w.heap.size w w'


end Go.Proofs.YtdjljnpbnhampaaGreatDoor

namespace Go.Proofs.YtdjljnpbnhampaaGreatDoor
set_option linter.unusedVariables false

/-- What is told of one instance. -/
structure Ins where
  f : Fl
  root : Br
  cost : Int
  br : Int
  pt : Int
  hop : Int

/-- A message, but its instances. -/
structure Ms where
  base : Bp
  name : ByteArray
  rev : Int
  dig : ByteArray
  cost : Int
  br : Br
  hop : Int

def zIns : Ins := ⟨zFl, ⟨0, 0, z6b⟩, 0, 0, 0, 0⟩

instance : Inhabited Ins := ⟨zIns⟩

def zMs : Ms := ⟨zBp, ⟨#[]⟩, 0, ⟨#[]⟩, 0, ⟨0, 0, z6b⟩, 0⟩

def byIns (x : Ins) : Prop := byB x.root

def rkI (v : Int) : Bool := decide (0 ≤ v) && decide (v ≤ 15)

theorem rkI_all {v : Int} (h : rkI v = true) : 0 ≤ v ∧ v ≤ 15 := by simpa [rkI] using h

/-- What may be. -/
def okIns (x : Ins) : Bool := okF x.f && (okB x.root && (fitI 4 x.cost && (rkI x.br && (rkI x.pt && fitI 1 x.hop))))

def tz (s : ByteArray) : Bool := s.data.toList.getLast? == some 0

def okMs0 (m : Ms) : Bool := fitI 2 m.rev && (decide (m.dig.size = 16) && (fitI 4 m.cost && (okB m.br && fitI 1 m.hop)))

/-- The bytes of an instance. -/
def insL (x : Ins) : List UInt8 := putL (byF x.f) 1 ++ (packL x.root ++ (putL x.cost.toNat 4 ++ (putL (16 * x.br).toNat 1 ++ (putL (16 * x.pt).toNat 1 ++ putL x.hop.toNat 1))))

theorem insL_len (x : Ins) : (insL x).length = 16 := by simp [insL, putL_length, packL_len]

/-- The bytes of all. -/
def inssL (l : List Ins) : List UInt8 := l.flatMap insL

theorem inssL_len (l : List Ins) : (inssL l).length = 16 * l.length := by
  unfold inssL
  induction l with
  | nil => rfl
  | cons x l ih =>
    rw [List.flatMap_cons, List.length_append, insL_len, ih, List.length_cons]
    omega

theorem inssL_snoc (l : List Ins) (k : Nat) (h : k < l.length) : inssL (l.take (k + 1)) = inssL (l.take k) ++ insL l[k] := by
  unfold inssL
  rw [List.take_add_one, List.getElem?_eq_getElem h, List.flatMap_append]
  simp

def padL (s : ByteArray) : List UInt8 := s.data.toList ++ List.replicate (32 - s.size) 0

theorem padL_len (s : ByteArray) (h : s.size ≤ 32) : (padL s).length = 32 := by
  unfold padL
  rw [List.length_append, List.length_replicate]
  have : s.data.toList.length = s.size := by simp
  omega

def okRp (b : Bp) : Bool := okF b.f && okBd b

/-- What may be: a message with its instances. -/
def okMs (m : Ms) (l : List Ins) : Bool := (m.base.k == 3) && (okRp m.base && (decide (m.name.size ≤ 32) && (!tz m.name && (okMs0 m && (decide (l.length ≤ 64) && l.all okIns)))))

/-- Its bytes. -/
def headM (m : Ms) (n : Nat) : List UInt8 := [0, 0, 3, 2] ++ (bodyL m.base ++ ([0] ++ (putL (64 + 16 * n) 2 ++ ([0] ++ (padL m.name ++ (putL m.rev.toNat 2 ++ (m.dig.data.toList ++ (putL m.cost.toNat 4 ++ (packL m.br ++ putL m.hop.toNat 1)))))))))

def writeM (m : Ms) (l : List Ins) : List UInt8 := headM m l.length ++ inssL l

theorem okMs_all {m : Ms} {l : List Ins} (h : okMs m l = true) : m.base.k = 3 ∧ okRp m.base = true ∧ m.name.size ≤ 32 ∧ tz m.name = false ∧ fitI 2 m.rev = true ∧ m.dig.size = 16 ∧ fitI 4 m.cost = true ∧ okB m.br = true ∧ fitI 1 m.hop = true ∧ l.length ≤ 64 ∧ l.all okIns = true := by
  simp only [okMs, okMs0, Bool.and_eq_true, beq_iff_eq, decide_eq_true_eq, Bool.not_eq_true'] at h
  obtain ⟨h0, h1, h2, h3, ⟨h4, h5, h6, h7, h8⟩, h9, h10⟩ := h
  exact ⟨h0, h1, h2, h3, h4, h5, h6, h7, h8, h9, h10⟩

theorem headM_len (m : Ms) (n : Nat) (h1 : m.name.size ≤ 32) (h2 : m.dig.size = 16) : (headM m n).length = 102 := by
  have h3 : m.dig.data.toList.length = m.dig.size := by simp
  unfold headM
  simp only [List.length_append, putL_length, packL_len, bodyL_len, padL_len m.name h1, h3, h2, List.length_cons, List.length_nil]

theorem writeM_len (m : Ms) (l : List Ins) (h1 : m.name.size ≤ 32) (h2 : m.dig.size = 16) : (writeM m l).length = 102 + 16 * l.length := by
  unfold writeM
  rw [List.length_append, headM_len m _ h1 h2, inssL_len]

end Go.Proofs.YtdjljnpbnhampaaGreatDoor

namespace Go.Proofs.YtdjljnpbnhampaaGreatDoor
open Go.RowKit
attribute [local go_sem ↓] Go.wp_at_zero Go.wp_at_succ
set_option linter.unusedSimpArgs false
set_option linter.unusedVariables false
set_option maxRecDepth 100000

/-- These cells lie one behind the other. -/
def CellsAt (w : World) (B o : Nat) (X : Array Value) : Prop := ∀ (k : Nat) (c : Value), X[k]? = some c → w.cell? ⟨B, o + k, none⟩ = some c

theorem CellsAt.below {w w' : World} {B o D : Nat} {X : Array Value} (h : CellsAt w B o X) (hb : Below D w w') (hB : B < D) : CellsAt w' B o X := by
  intro k c hc
  have h1 := h k c hc
  have hk : w'.heap[B]? = w.heap[B]? := hb.block B hB
  unfold World.cell? at h1 ⊢
  simp only at h1 ⊢
  rw [hk]
  exact h1

theorem run_load_cells {P : Program} (w : World) (B k : Nat) (t : TypeId) (X : Array Value) (hB : CellsAt w B k X) (hu : (match P.underlying t with | some (.struct _) | some (.array _ _) => true | _ => false) = true)
    (hn : (P.info? t).map (·.size) = some X.size) : (loadVar t ⟨B, k, none⟩).run P w = .ok (.agg X) w := by
  have hl : (loadCells ⟨B, k, none⟩ X.toList.length).run P w = .ok X.toList.toArray w :=
    run_loadCells_list (P := P) w ⟨B, k, none⟩ X.toList (fun j v hv => by
      have hadd : (⟨B, k, none⟩ : Addr).add j = ⟨B, k + j, none⟩ := by unfold Addr.add; split <;> simp_all
      rw [hadd]
      exact hB j v (by simpa using hv))
  cases hq : P.info? t with
  | none => simp [hq] at hn
  | some i =>
    have hs : i.size = X.toList.length := by simp [hq] at hn; simpa using hn
    cases hd : P.underlying t with
    | none => simp [hd] at hu
    | some d =>
      cases d <;> simp [hd] at hu <;> simp [loadVar, isAgg, run_underlying hd, sizeOf, typeInfo, hq, hs] <;> (simp at hl; simp [hl])

theorem exec_load_cells {P : Program} {a : Act} {o : Oper} {w : World} {x : Operand} {B k : Nat} (t : TypeId) (X : Array Value) (ho : o.op = .load t x) (hx : a.eval x = .pointer (some ⟨B, k, none⟩)) (hB : CellsAt w B k X)
    (hu : (match P.underlying t with | some (.struct _) | some (.array _ _) => true | _ => false) = true) (hn : (P.info? t).map (·.size) = some X.size) :
    (execOp a.eval o).run P w = .ok (.value (.agg X)) w := by
  have h := run_load_cells (P := P) w B k t X hB hu hn
  unfold execOp
  simp only [ho, hx, Instr.loadAt, Instr.sureAddr, Sem.run_bind, Sem.run_pure, Result.andThen_ok, h]

theorem load_cells {P : Program} {ops : Array Oper} {rest : List Oper} {o : Oper} {a : Act} {w : World} {Q : Exit → Act → World → Prop} {x : Operand} {B k : Nat} (t : TypeId) (X : Array Value) (hw : Region.wanted o (yielded ops a.tmps) = true) (ho : o.op = .load t x)
    (hx : a.eval x = .pointer (some ⟨B, k, none⟩)) (hB : CellsAt w B k X) (hu : (match P.underlying t with | some (.struct _) | some (.array _ _) => true | _ => false) = true) (hn : (P.info? t).map (·.size) = some X.size)
    (h : wpList P ops Q rest (a.put o.dst (.agg X)) w) : wpList P ops Q (o :: rest) a w :=
  wpList_step fun K hK => by
    rw [if_pos hw]
    have h1 := exec_load_cells (P := P) t X ho hx hB hu hn
    unfold Oper.wp
    rw [h1]
    exact hK _ _ h

end Go.Proofs.YtdjljnpbnhampaaGreatDoor

namespace Go.Proofs.YtdjljnpbnhampaaGreatDoor
open Go.RowKit
set_option linter.unusedVariables false
set_option maxRecDepth 100000

def inC (x : Ins) : Array Value := #[.bool x.f.ch, .bool x.f.pr, .int .i64 x.f.ro, .bool x.f.le, .bool x.f.pa, .bool x.f.ag, .bool x.f.ac,
  .int .i64 x.root.p, .int .i64 x.root.e, .int .u8 (x.root.a 0), .int .u8 (x.root.a 1), .int .u8 (x.root.a 2), .int .u8 (x.root.a 3), .int .u8 (x.root.a 4), .int .u8 (x.root.a 5), .int .i64 x.cost, .int .i64 x.br, .int .i64 x.pt, .int .i64 x.hop]

def msC (m : Ms) (v : Value) : Array Value := #[.int .i64 m.base.k, .bool m.base.f.ch, .bool m.base.f.pr, .int .i64 m.base.f.ro, .bool m.base.f.le, .bool m.base.f.pa, .bool m.base.f.ag, .bool m.base.f.ac, .int .i64 m.base.root.p, .int .i64 m.base.root.e, .int .u8 (m.base.root.a 0), .int .u8 (m.base.root.a 1), .int .u8 (m.base.root.a 2), .int .u8 (m.base.root.a 3), .int .u8 (m.base.root.a 4), .int .u8 (m.base.root.a 5), .int .i64 m.base.cost, .int .i64 m.base.snd.p, .int .i64 m.base.snd.e, .int .u8 (m.base.snd.a 0), .int .u8 (m.base.snd.a 1), .int .u8 (m.base.snd.a 2), .int .u8 (m.base.snd.a 3), .int .u8 (m.base.snd.a 4), .int .u8 (m.base.snd.a 5), .int .i64 m.base.pp, .int .i64 m.base.pn, .int .i64 m.base.age, .int .i64 m.base.mx, .int .i64 m.base.hel, .int .i64 m.base.wai,
  .string m.name, .int .i64 m.rev, .string m.dig, .int .i64 m.cost, .int .i64 m.br.p, .int .i64 m.br.e, .int .u8 (m.br.a 0), .int .u8 (m.br.a 1), .int .u8 (m.br.a 2), .int .u8 (m.br.a 3), .int .u8 (m.br.a 4), .int .u8 (m.br.a 5), .int .i64 m.hop, v]

theorem Tryz.inZero : (Tryz.prog.info? 49).map (·.zero) = some (some (.agg (inC zIns))) := by kernel_rfl

theorem Tryz.msZero : (Tryz.prog.info? 34).map (·.zero) = some (some (.agg (msC zMs (.slice none 0 0)))) := by kernel_rfl

def eqIn (a b : Ins) : Bool := eqFl a.f b.f && (eqB a.root b.root && ((a.cost == b.cost) && ((a.br == b.br) && ((a.pt == b.pt) && (a.hop == b.hop)))))

theorem run_eql_in (d : Nat) (a b : Ins) (w : World) : (Op.equalIn (d + 4) 49 (.agg (inC a)) (.agg (inC b))).run Tryz.prog w = .ok (eqIn a b) w := by
  have hs : Tryz.prog.stoodInHeld 49 = false := by kernel_rfl
  have hu : Tryz.prog.underlying 49 = some (.struct (Tryz.prog.fieldsOf 49)) := by kernel_rfl
  have hf : (Tryz.prog.fieldsOf 49).toList.map (fun f => (f.name == "_", f.type, f.offset)) = [(false, 23, 0), (false, 27, 7), (false, 3, 15), (false, 3, 16), (false, 3, 17), (false, 3, 18)] := by kernel_rfl
  rw [run_equalIn_agg w (d + 3) 49 _ _ hu hs]
  obtain ⟨f0, l0, h0, g0, hf⟩ := List.map_eq_cons_iff.1 hf
  obtain ⟨f1, l1, rfl, g1, hf⟩ := List.map_eq_cons_iff.1 hf
  obtain ⟨f2, l2, rfl, g2, hf⟩ := List.map_eq_cons_iff.1 hf
  obtain ⟨f3, l3, rfl, g3, hf⟩ := List.map_eq_cons_iff.1 hf
  obtain ⟨f4, l4, rfl, g4, hf⟩ := List.map_eq_cons_iff.1 hf
  obtain ⟨f5, l5, rfl, g5, hf⟩ := List.map_eq_cons_iff.1 hf
  obtain rfl := List.map_eq_nil_iff.1 hf
  rw [h0]
  have e0 := run_eql_fl (d + 0) a.f b.f w
  have e1 := run_eql_br (d + 0) a.root b.root w
  have e2 := run_equalIn_int (P := Tryz.prog) w (d + 2) 3 .i64 .i64 (a.cost) (b.cost) Tryz.underlying3
  have e3 := run_equalIn_int (P := Tryz.prog) w (d + 2) 3 .i64 .i64 (a.br) (b.br) Tryz.underlying3
  have e4 := run_equalIn_int (P := Tryz.prog) w (d + 2) 3 .i64 .i64 (a.pt) (b.pt) Tryz.underlying3
  have e5 := run_equalIn_int (P := Tryz.prog) w (d + 2) 3 .i64 .i64 (a.hop) (b.hop) Tryz.underlying3
  have h := run_eqFields_cons w (d + 3) (inC a) (inC b) f0 _ _ _ _ _ _ _ g0 (run_part_agg w _ _ 0 7 (flC a.f) (by kernel_rfl) (by kernel_rfl) rfl) (run_part_agg w _ _ 0 7 (flC b.f) (by kernel_rfl) (by kernel_rfl) rfl) e0
    (run_eqFields_cons w (d + 3) (inC a) (inC b) f1 _ _ _ _ _ _ _ g1 (run_part_agg w _ _ 7 8 (brC a.root) (by kernel_rfl) (by kernel_rfl) rfl) (run_part_agg w _ _ 7 8 (brC b.root) (by kernel_rfl) (by kernel_rfl) rfl) e1
    (run_eqFields_cons w (d + 3) (inC a) (inC b) f2 _ _ _ _ _ _ _ g2 (run_part_one w _ _ 15 _ (by kernel_rfl) rfl) (run_part_one w _ _ 15 _ (by kernel_rfl) rfl) e2
    (run_eqFields_cons w (d + 3) (inC a) (inC b) f3 _ _ _ _ _ _ _ g3 (run_part_one w _ _ 16 _ (by kernel_rfl) rfl) (run_part_one w _ _ 16 _ (by kernel_rfl) rfl) e3
    (run_eqFields_cons w (d + 3) (inC a) (inC b) f4 _ _ _ _ _ _ _ g4 (run_part_one w _ _ 17 _ (by kernel_rfl) rfl) (run_part_one w _ _ 17 _ (by kernel_rfl) rfl) e4
    (run_eqFields_cons w (d + 3) (inC a) (inC b) f5 _ _ _ _ _ _ _ g5 (run_part_one w _ _ 18 _ (by kernel_rfl) rfl) (run_part_one w _ _ 18 _ (by kernel_rfl) rfl) e5
    (run_eqFields_nil w (d + 3) _ _))))))
  rw [Bool.and_true] at h
  exact h

theorem eqIn_self (a : Ins) : eqIn a a = true := by simp [eqIn, eqFl_self, eqB_self]

def InAt (w : World) (b o : Nat) (l : List Ins) : Prop := ∀ j (hj : j < l.length), CellsAt w b (o + j * 19) (inC l[j])

def InIn (w : World) (a : Option Addr) (l : List Ins) : Prop := l = [] ∨ ∃ b o, a = some ⟨b, o, none⟩ ∧ b < w.heap.size ∧ InAt w b o l

theorem InAt.below {w w' : World} {b o D : Nat} {l : List Ins} (h : InAt w b o l) (hb : Below D w w') (hB : b < D) : InAt w' b o l := fun j hj => (h j hj).below hb hB

theorem InIn.below {w w' : World} {a : Option Addr} {l : List Ins} (h : InIn w a l) (hb : Below w.heap.size w w') : InIn w' a l := by
  rcases h with h | ⟨b, o, h1, h2, h3⟩
  · exact Or.inl h
  · exact Or.inr ⟨b, o, h1, Nat.lt_of_lt_of_le h2 hb.size, fun j hj => (h3 j hj).below hb h2⟩

theorem InIn.drew {w : World} {a : Option Addr} {l : List Ins} (h : InIn w a l) : InIn w.drew a l := h

theorem InIn.at {w : World} {a : Option Addr} {l : List Ins} (h : InIn w a l) {k : Nat} (hk : k < l.length) : ∃ b o, a = some ⟨b, o, none⟩ ∧ b < w.heap.size ∧ InAt w b o l := by
  rcases h with rfl | h
  · simp at hk
  · exact h

theorem okBp_three {b : Bp} (h : b.k = 3) : okBp b = okRp b := by
  unfold okBp okRp
  rw [if_neg (by omega), if_neg (by omega), if_pos h]

/-- Numbers of 64 bits. -/
def rgIn (x : Ins) : Prop := i64R x.cost ∧ i64R x.hop

def rgMs (m : Ms) : Prop := i64R m.rev ∧ i64R m.cost ∧ i64R m.hop

end Go.Proofs.YtdjljnpbnhampaaGreatDoor

namespace Go.Proofs.YtdjljnpbnhampaaGreatDoor
open Go.RowKit
attribute [local go_sem ↓] Go.wp_at_zero Go.wp_at_succ
set_option linter.unusedSimpArgs false
set_option linter.unusedVariables false
set_option maxRecDepth 100000

/-- A length that may be. -/
def okLen (v : Nat) : Bool := decide (64 ≤ v) && (decide (v ≤ 1088) && decide (v % 16 = 0))

def rcS (l : List UInt8) (st : RSt) : RSt := if okLen (nmV l 0 st 2) then nmS l 0 st 2 else flR (nmS l 0 st 2) 2 (st.1 : Int)

def rcN (l : List UInt8) (st : RSt) : Nat := if okLen (nmV l 0 st 2) then (nmV l 0 st 2 - 64) / 16 else 0

theorem rcS_le (l : List UInt8) (st : RSt) (h : st.1 ≤ l.length) : (rcS l st).1 ≤ l.length := by
  unfold rcS
  split
  · exact nmS_le l 0 st _ h
  · exact flR_le l _ _ _ (nmS_le l 0 st _ h)

theorem rcN_le (l : List UInt8) (st : RSt) : rcN l st ≤ 64 := by
  unfold rcN okLen
  split
  · next h =>
    simp only [Bool.and_eq_true, decide_eq_true_eq] at h
    omega
  · omega

set_option maxHeartbeats 1600000 in
theorem readCount_t {g : Nat} {s : ByteArray} (st : RSt) (w : World) (h : RdT w g s 0 st) (hp : st.1 ≤ s.size) (hb : 0 + s.size ≤ 281474976710656) :
    Calls Tryz.prog 30 #[.pointer (some ⟨g, 0, none⟩)] w fun e w' => e = .returned (.int .i64 (rcN s.data.toList st : Nat)) ∧ RdT w' g s 0 (rcS s.data.toList st) ∧ w.grownBy w' (some g) := by
  have HY : Hid (∀ W, RdT W g s 0 st → Calls Tryz.prog 33 #[.pointer (some ⟨g, 0, none⟩), .int .i64 2] W fun e w' => e = .returned (.int .i64 (nmV s.data.toList 0 st 2 : Nat)) ∧ RdT w' g s 0 (nmS s.data.toList 0 st 2) ∧ W.grownBy w' (some g)) := fun W h => numK_t st 2 (by decide) W h hp hb
  have HA : Hid (∀ W, RdT W g s 0 st → Calls Tryz.prog 61 #[.pointer (some ⟨g, 0, none⟩)] W fun e w' => e = .returned (.int .i64 (st.1 : Int)) ∧ W = w') := fun W h => by
    have q := at_t st W h
    rw [show ((0 : Nat) : Int) + (st.1 : Int) = (st.1 : Int) by omega] at q
    exact q
  have HV : nmV s.data.toList 0 st 2 < 65536 := nmV_lt s.data.toList 0 st 2
  have HS : Hid (rcS s.data.toList st = if okLen (nmV s.data.toList 0 st 2) then nmS s.data.toList 0 st 2 else flR (nmS s.data.toList 0 st 2) 2 (st.1 : Int)) := rfl
  have HN : Hid (rcN s.data.toList st = if okLen (nmV s.data.toList 0 st 2) then (nmV s.data.toList 0 st 2 - 64) / 16 else 0) := rfl
  generalize nmS s.data.toList 0 st 2 = s2 at *
  generalize nmV s.data.toList 0 st 2 = v at *
  generalize rcS s.data.toList st = s3 at *
  generalize rcN s.data.toList st = n at *
  generalize (st.1 : Int) = pl at *
  clear hp hb
  obtain ⟨u, hu⟩ : ∃ u : Int, (v : Int) - 64 = u := ⟨_, rfl⟩
  have wu : IntKind.i64.wrap ((v : Int) - 64) = u := by rw [IntKind.wrap_i64] <;> omega
  by_cases q0 : u < 0
  · have hk : okLen v = false := by unfold okLen; rw [decide_eq_false (show ¬ 64 ≤ v by omega)]; rfl
    have hS := HS.out
    have hN := HN.out
    rw [hk] at hS hN
    simp only [Bool.false_eq_true, if_false] at hS hN
    subst hS hN
    have d0 : decide (u < 0) = true := decide_eq_true q0
    clear HS HN hk hu
    go_enter Tryz.func30, Tryz.ntmps30
    go_wp2_with fail
    refine (HA.out _ h).mono ?_
    rintro e w1 ⟨rfl, rfl⟩
    go_wp2_with fail
    refine (HY.out _ h).mono ?_
    rintro e w2 ⟨rfl, h2, g2⟩
    go_wp2_with fail
    refine (fail_t s2 2 pl (by decide) _ h2).mono ?_
    rintro e w3 ⟨rfl, h3, g3⟩
    go_wp2
    go_ret
    exact ⟨rfl, h3, grown_same g2 g3⟩
  · have d0 : decide (u < 0) = false := decide_eq_false q0
    by_cases q1 : 1024 < u
    · have hk : okLen v = false := by unfold okLen; rw [decide_eq_false (show ¬ v ≤ 1088 by omega)]; simp
      have hS := HS.out
      have hN := HN.out
      rw [hk] at hS hN
      simp only [Bool.false_eq_true, if_false] at hS hN
      subst hS hN
      have d1 : decide (1024 < u) = true := decide_eq_true q1
      clear HS HN hk hu
      go_enter Tryz.func30, Tryz.ntmps30
      go_wp2_with fail
      refine (HA.out _ h).mono ?_
      rintro e w1 ⟨rfl, rfl⟩
      go_wp2_with fail
      refine (HY.out _ h).mono ?_
      rintro e w2 ⟨rfl, h2, g2⟩
      go_wp2_with fail
      refine (fail_t s2 2 pl (by decide) _ h2).mono ?_
      rintro e w3 ⟨rfl, h3, g3⟩
      go_wp2
      go_ret
      exact ⟨rfl, h3, grown_same g2 g3⟩
    · have d1 : decide (1024 < u) = false := decide_eq_false q1
      have wm : IntKind.i64.wrap (Int.tmod u 16) = u % 16 := by rw [Int.tmod_eq_emod_of_nonneg (by omega), IntKind.wrap_i64] <;> omega
      have wd : IntKind.i64.wrap (Int.tdiv u 16) = u / 16 := by rw [Int.tdiv_eq_ediv_of_nonneg (by omega), IntKind.wrap_i64] <;> omega
      by_cases q2 : u % 16 = 0
      · have hk : okLen v = true := by unfold okLen; rw [decide_eq_true (show 64 ≤ v by omega), decide_eq_true (show v ≤ 1088 by omega), decide_eq_true (show v % 16 = 0 by omega)]; rfl
        have hS := HS.out
        have hN := HN.out
        rw [hk] at hS hN
        simp only [if_true] at hS hN
        subst hS
        have hn : u / 16 = (n : Int) := by omega
        have d2 : (u % 16 != 0) = false := by simp [q2]
        have d3 : (u % 16 == 0) = true := by simp [q2]
        clear HS HN hk hu hN
        go_enter Tryz.func30, Tryz.ntmps30
        go_wp2_with fail
        refine (HA.out _ h).mono ?_
        rintro e w1 ⟨rfl, rfl⟩
        go_wp2_with fail
        refine (HY.out _ h).mono ?_
        rintro e w2 ⟨rfl, h2, g2⟩
        go_wp2
        go_ret
        exact ⟨by rw [← hn]; rfl, h2, g2⟩
      · have hk : okLen v = false := by unfold okLen; rw [decide_eq_false (show ¬ v % 16 = 0 by omega)]; simp
        have hS := HS.out
        have hN := HN.out
        rw [hk] at hS hN
        simp only [Bool.false_eq_true, if_false] at hS hN
        subst hS hN
        have d2 : (u % 16 != 0) = true := by simp [q2]
        have d3 : (u % 16 == 0) = false := by simp [q2]
        clear HS HN hk hu
        go_enter Tryz.func30, Tryz.ntmps30
        go_wp2_with fail
        refine (HA.out _ h).mono ?_
        rintro e w1 ⟨rfl, rfl⟩
        go_wp2_with fail
        refine (HY.out _ h).mono ?_
        rintro e w2 ⟨rfl, h2, g2⟩
        go_wp2_with fail
        refine (fail_t s2 2 pl (by decide) _ h2).mono ?_
        rintro e w3 ⟨rfl, h3, g3⟩
        go_wp2
        go_ret
        exact ⟨rfl, h3, grown_same g2 g3⟩

/-- The states within an instance. -/
def si1 (l : List UInt8) (st : RSt) : RSt := nmS l 0 st 1

def si2 (l : List UInt8) (st : RSt) : RSt := rdBs l 0 (si1 l st)

def si3 (l : List UInt8) (st : RSt) : RSt := nmS l 0 (si2 l st) 4

def si4 (l : List UInt8) (st : RSt) : RSt := nmS l 0 (si3 l st) 1

def si5 (l : List UInt8) (st : RSt) : RSt := nmS l 0 (si4 l st) 1

def si6 (l : List UInt8) (st : RSt) : RSt := nmS l 0 (si5 l st) 1

def riV (l : List UInt8) (st : RSt) : Ins := ⟨ofF (nmV l 0 st 1), rdB l 0 (si1 l st), (nmV l 0 (si2 l st) 4 : Nat), (nmV l 0 (si3 l st) 1 / 16 : Nat), (nmV l 0 (si4 l st) 1 / 16 : Nat), (nmV l 0 (si5 l st) 1 : Nat)⟩

theorem si6_le (l : List UInt8) (st : RSt) (h : st.1 ≤ l.length) : (si6 l st).1 ≤ l.length :=
  nmS_le _ _ _ _ (nmS_le _ _ _ _ (nmS_le _ _ _ _ (nmS_le _ _ _ _ (rdBs_le _ _ _ (nmS_le _ _ _ _ h)))))

set_option maxHeartbeats 3200000 in
theorem readInst_t {g : Nat} {s : ByteArray} (st : RSt) (w : World) (h : RdT w g s 0 st) (hp : st.1 ≤ s.size) (hb : 0 + s.size ≤ 281474976710656) :
    Calls Tryz.prog 35 #[.pointer (some ⟨g, 0, none⟩)] w fun e w' => e = .returned (.agg (inC (riV s.data.toList st))) ∧ RdT w' g s 0 (si6 s.data.toList st) ∧ w.grownBy w' (some g) := by
  have hls : s.data.toList.length = s.size := by simp
  have h0 : st.1 ≤ s.data.toList.length := by rw [hls]; exact hp
  have P1 : (si1 s.data.toList st).1 ≤ s.data.toList.length := nmS_le _ _ _ _ h0
  have P2 : (si2 s.data.toList st).1 ≤ s.data.toList.length := rdBs_le _ _ _ P1
  have P3 : (si3 s.data.toList st).1 ≤ s.data.toList.length := nmS_le _ _ _ _ P2
  have P4 : (si4 s.data.toList st).1 ≤ s.data.toList.length := nmS_le _ _ _ _ P3
  have P5 : (si5 s.data.toList st).1 ≤ s.data.toList.length := nmS_le _ _ _ _ P4
  rw [hls] at P1 P2 P3 P4 P5
  have N1 : Hid (∀ W, RdT W g s 0 st → Calls Tryz.prog 33 #[.pointer (some ⟨g, 0, none⟩), .int .i64 1] W fun e w' => e = .returned (.int .i64 (nmV s.data.toList 0 st 1 : Nat)) ∧ RdT w' g s 0 (si1 s.data.toList st) ∧ W.grownBy w' (some g)) := fun W h => numK_t _ 1 (by decide) W h hp hb
  have N2 : Hid (∀ W, RdT W g s 0 (si1 s.data.toList st) → Calls Tryz.prog 34 #[.pointer (some ⟨g, 0, none⟩)] W fun e w' => e = .returned (.agg (brC (rdB s.data.toList 0 (si1 s.data.toList st)))) ∧ RdT w' g s 0 (si2 s.data.toList st) ∧ W.grownBy w' (some g)) := fun W h => prRead_t _ W h P1 hb
  have N3 : Hid (∀ W, RdT W g s 0 (si2 s.data.toList st) → Calls Tryz.prog 33 #[.pointer (some ⟨g, 0, none⟩), .int .i64 4] W fun e w' => e = .returned (.int .i64 (nmV s.data.toList 0 (si2 s.data.toList st) 4 : Nat)) ∧ RdT w' g s 0 (si3 s.data.toList st) ∧ W.grownBy w' (some g)) := fun W h => numK_t _ 4 (by decide) W h P2 hb
  have N4 : Hid (∀ W, RdT W g s 0 (si3 s.data.toList st) → Calls Tryz.prog 33 #[.pointer (some ⟨g, 0, none⟩), .int .i64 1] W fun e w' => e = .returned (.int .i64 (nmV s.data.toList 0 (si3 s.data.toList st) 1 : Nat)) ∧ RdT w' g s 0 (si4 s.data.toList st) ∧ W.grownBy w' (some g)) := fun W h => numK_t _ 1 (by decide) W h P3 hb
  have N5 : Hid (∀ W, RdT W g s 0 (si4 s.data.toList st) → Calls Tryz.prog 33 #[.pointer (some ⟨g, 0, none⟩), .int .i64 1] W fun e w' => e = .returned (.int .i64 (nmV s.data.toList 0 (si4 s.data.toList st) 1 : Nat)) ∧ RdT w' g s 0 (si5 s.data.toList st) ∧ W.grownBy w' (some g)) := fun W h => numK_t _ 1 (by decide) W h P4 hb
  have N6 : Hid (∀ W, RdT W g s 0 (si5 s.data.toList st) → Calls Tryz.prog 33 #[.pointer (some ⟨g, 0, none⟩), .int .i64 1] W fun e w' => e = .returned (.int .i64 (nmV s.data.toList 0 (si5 s.data.toList st) 1 : Nat)) ∧ RdT w' g s 0 (si6 s.data.toList st) ∧ W.grownBy w' (some g)) := fun W h => numK_t _ 1 (by decide) W h P5 hb
  have L1 : nmV s.data.toList 0 st 1 < 256 := nmV_lt s.data.toList 0 st 1
  have L4 : nmV s.data.toList 0 (si3 s.data.toList st) 1 < 256 := nmV_lt s.data.toList 0 _ 1
  have L5 : nmV s.data.toList 0 (si4 s.data.toList st) 1 < 256 := nmV_lt s.data.toList 0 _ 1
  have HO := Lib.hid (fun W => of_any (nmV s.data.toList 0 st 1) L1 W)
  have HV : Hid (riV s.data.toList st = ⟨ofF (nmV s.data.toList 0 st 1), rdB s.data.toList 0 (si1 s.data.toList st), (nmV s.data.toList 0 (si2 s.data.toList st) 4 : Nat), (nmV s.data.toList 0 (si3 s.data.toList st) 1 / 16 : Nat), (nmV s.data.toList 0 (si4 s.data.toList st) 1 / 16 : Nat), (nmV s.data.toList 0 (si5 s.data.toList st) 1 : Nat)⟩) := rfl
  generalize riV s.data.toList st = rv at *
  generalize nmV s.data.toList 0 st 1 = n1 at *
  generalize rdB s.data.toList 0 (si1 s.data.toList st) = b2 at *
  generalize nmV s.data.toList 0 (si2 s.data.toList st) 4 = n3 at *
  generalize nmV s.data.toList 0 (si3 s.data.toList st) 1 = n4 at *
  generalize nmV s.data.toList 0 (si4 s.data.toList st) 1 = n5 at *
  generalize nmV s.data.toList 0 (si5 s.data.toList st) 1 = n6 at *
  generalize si6 s.data.toList st = t6 at *
  generalize si5 s.data.toList st = t5 at *
  generalize si4 s.data.toList st = t4 at *
  generalize si3 s.data.toList st = t3 at *
  generalize si2 s.data.toList st = t2 at *
  generalize si1 s.data.toList st = t1 at *
  obtain ⟨v4, hv4⟩ : ∃ v : Int, v = ((n4 / 16 : Nat) : Int) := ⟨_, rfl⟩
  obtain ⟨v5, hv5⟩ : ∃ v : Int, v = ((n5 / 16 : Nat) : Int) := ⟨_, rfl⟩
  have w4 : IntKind.i64.wrap (Int.tdiv (n4 : Int) 16) = v4 := by rw [Int.tdiv_eq_ediv_of_nonneg (by omega), IntKind.wrap_i64] <;> omega
  have w5 : IntKind.i64.wrap (Int.tdiv (n5 : Int) 16) = v5 := by rw [Int.tdiv_eq_ediv_of_nonneg (by omega), IntKind.wrap_i64] <;> omega
  have w4b : IntKind.i64.wrap ((n4 : Int) / 16) = v4 := by rw [IntKind.wrap_i64] <;> omega
  have w5b : IntKind.i64.wrap ((n5 : Int) / 16) = v5 := by rw [IntKind.wrap_i64] <;> omega
  rw [← hv4, ← hv5] at HV
  have hg := h.lt
  have R1 := Blk.new w 49 (inC zIns)
  have h00 := h.al (.cells (inC zIns) 49)
  have G0 : w.grownBy (w.alloc (.cells (inC zIns) 49)) (some g) := World.grownBy_alloc w _ _
  clear P1 P2 P3 P4 P5 hp hb h0 hls hv4 hv5 L4 L5 h
  go_enter Tryz.func35, Tryz.ntmps35
  go_wp2_with (refine alloc_blk 49 (inC zIns) (by rfl) rfl Tryz.inZero ?_)
  generalize w.alloc (.cells (inC zIns) 49) = w1 at *
  refine (N1.out _ h00).mono ?_
  rintro e u2 ⟨rfl, h2, g2⟩
  have R2 := R1.grown g2 (by simp; omega)
  have G2 := grown_same G0 g2
  clear R1 h00 G0 g2
  go_wp2_with fail
  refine (HO.out _).mono ?_
  rintro e u3 ⟨rfl, k3⟩
  have R3 := R2.kept k3
  have h3 := h2.below k3
  have G3 := grown_belowT G2 k3
  clear R2 h2 G2 k3
  go_wp2_with fail
  refine (N2.out _ h3).mono ?_
  rintro e u4 ⟨rfl, h4, g4⟩
  have R4 := R3.grown g4 (by simp; omega)
  have G4 := grown_same G3 g4
  clear R3 h3 G3 g4
  go_wp2_with fail
  refine (N3.out _ h4).mono ?_
  rintro e u5 ⟨rfl, h5, g5⟩
  have R5 := R4.grown g5 (by simp; omega)
  have G5 := grown_same G4 g5
  clear R4 h4 G4 g5
  go_wp2_with fail
  refine (N4.out _ h5).mono ?_
  rintro e u6 ⟨rfl, h6, g6⟩
  have R6 := R5.grown g6 (by simp; omega)
  have G6 := grown_same G5 g6
  clear R5 h5 G5 g6
  go_wp2_with fail
  refine (N5.out _ h6).mono ?_
  rintro e u7 ⟨rfl, h7, g7⟩
  have R7 := R6.grown g7 (by simp; omega)
  have G7 := grown_same G6 g7
  clear R6 h6 G6 g7
  go_wp2_with fail
  refine (N6.out _ h7).mono ?_
  rintro e u8 ⟨rfl, h8, g8⟩
  have R8 := R7.grown g8 (by simp; omega)
  have G8 := grown_same G7 g8
  clear R7 h7 G7 g8
  go_wp2_with (first
    | (refine build_blk (t := 49) (inC ⟨ofF n1, b2, (n3 : Int), v4, v5, (n6 : Int)⟩) (by rfl) rfl (by kernel_rfl) ?_)
    | (refine store_blk (k := 0) 49 (.agg (inC ⟨ofF n1, b2, (n3 : Int), v4, v5, (n6 : Int)⟩)) (inC ⟨ofF n1, b2, (n3 : Int), v4, v5, (n6 : Int)⟩) (by rfl) rfl rfl rfl R8 (by kernel_rfl) (show (19 : Nat) ≤ 19 from Nat.le_refl 19) (by rfl) (st_whole _ _ rfl) ?_; intro wz RZ bz gz; have HZ := h8.other R8 (by decide) (by decide) gz; have GZ := grown_own G8 gz (Nat.le_refl _)))
  exact bodyPost_ret (results_blk rfl rfl RZ (by kernel_rfl) (by kernel_rfl)) rfl ⟨by rw [HV.out], HZ, GZ⟩

end Go.Proofs.YtdjljnpbnhampaaGreatDoor

