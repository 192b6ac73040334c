/- A wire.Reader in memory, and what New, At, Left, Err, Fail and Bytes do to it: at every argument. -/
import Derived.Test.YtdjljnpbnhampaaDoorPut
import Derived.Test.YtdjljnpbnhampaaDoorFlt
import Derived.BigRegion
import Derived.BigQuiet
import Derived.Deep.QuietTactic
import Derived.Lib.IndexBytes
namespace Go.Proofs.YtdjljnpbnhampaaDoor
open Go.RowKit

/-- Block g is a Reader that has s left, the next byte's number is at, and what was wrong first lies at f. -/
def Rd (w : World) (g : Nat) (s : ByteArray) (at_ : Int) (f : Option Addr) : Prop :=
  w.heap[g]? = some (.cells #[.string s, .int .i64 at_, .pointer f] 160)

section
variable {w w' : World} {g p : Nat} {s : ByteArray} {at_ e : Int} {f : Option Addr}

theorem Rd.lt (h : Rd w g s at_ f) : g < w.heap.size := (Array.getElem?_eq_some_iff.1 h).1

theorem Rd.c0 (h : Rd w g s at_ f) : w.cell? ⟨g, 0, none⟩ = some (.string s) := cell_of_row w g 0 _ _ (0, 0) h

theorem Rd.c1 (h : Rd w g s at_ f) : w.cell? ⟨g, 1, none⟩ = some (.int .i64 at_) := cell_of_row w g 1 _ _ (0, 0) h

theorem Rd.c2 (h : Rd w g s at_ f) : w.cell? ⟨g, 2, none⟩ = some (.pointer f) := cell_of_row w g 2 _ _ (0, 0) h

theorem Rd.fz (h : Rd w g s at_ f) (o : Nat) : w.frozen? ⟨g, o, none⟩ = false := by
  have h' : w.heap[g]? = some (.cells #[.string s, .int .i64 at_, .pointer f] 160) := h
  simp [World.frozen?, h']

/-- Another block may be written. -/
theorem Rd.kept {row : Option Nat} (h : Rd w g s at_ f) (hg : w.grownBy w' row) (hne : some g ≠ row) : Rd w' g s at_ f :=
  (hg.block g h.lt hne).trans h

theorem Rd.below (h : Rd w g s at_ f) (hb : Below w.heap.size w w') : Rd w' g s at_ f := (hb.block g h.lt).trans h

theorem Rd.alloc (h : Rd w g s at_ f) (o : Obj) : Rd (w.alloc o) g s at_ f := h.kept (World.grownBy_alloc w o none) (by simp)

theorem Rd.set {i : Nat} {v : Value} (h : Rd w g s at_ f) (c : Array Value) (hc : (#[.string s, .int .i64 at_, .pointer f] : Array Value).setIfInBounds i v = c) :
    (w.setCell ⟨g, i, none⟩ v).heap[g]? = some (.cells c 160) := by
  have h' : w.heap[g]? = some (.cells #[.string s, .int .i64 at_, .pointer f] 160) := h
  rw [← hc]
  show (w.heap.modify g _)[g]? = _
  rw [Array.getElem?_modify, if_pos rfl, h']
  rfl

theorem grownBy_setCell (w : World) (g i : Nat) (v : Value) : w.grownBy (w.setCell ⟨g, i, none⟩ v) (some g) :=
  ⟨rfl, rfl, rfl, by simp [World.setCell], fun k _ hne => Below.heap_setCell _ _ _ _ (by intro e; exact hne (by rw [e]))⟩

theorem grownBy_trans {a b c : World} {row : Option Nat} (h : a.grownBy b row) (k : b.grownBy c row) : a.grownBy c row :=
  ⟨k.os.trans h.os, k.tape.trans h.tape, k.output.trans h.output, Nat.le_trans h.size k.size,
    fun i hi hne => (k.block i (Nat.lt_of_lt_of_le hi h.size) hne).trans (h.block i hi hne)⟩
end

theorem extract_list (s : ByteArray) (a b : Nat) : (s.extract a b).data.toList = (s.data.toList.drop a).take (b - a) := Lib.extract_data s a b

/-- Two neighbouring pieces. -/
theorem extract_cat (s : ByteArray) (n m : Nat) (h : n + m ≤ s.size) : s.extract 0 n ++ (s.extract n s.size).extract 0 m = s.extract 0 (n + m) := by
  apply ByteArray.ext
  apply Array.toList_inj.1
  have e : ∀ a b : ByteArray, (a ++ b).data.toList = a.data.toList ++ b.data.toList := fun a b => by simp
  have hl : s.data.toList.length = s.size := by simp
  rw [e, extract_list, extract_list, extract_list, extract_list]
  simp only [Nat.sub_zero, List.drop_zero]
  rw [List.take_add, List.take_take, Nat.min_eq_left (by omega)]

theorem extract_extract (s : ByteArray) (n m : Nat) : (s.extract n s.size).extract m (s.extract n s.size).size = s.extract (n + m) s.size := by
  apply ByteArray.ext
  apply Array.toList_inj.1
  rw [Lib.extract_to_end, Lib.extract_to_end, Lib.extract_to_end, List.drop_drop]

/-- New. -/
theorem new_any (s : ByteArray) (off : Int) (w : World) :
    Calls Tryd.prog 38 #[.string s, .int .i64 off] w fun e w' =>
      e = .returned (.pointer (some ⟨w.heap.size, 0, none⟩)) ∧ w' = w.alloc (.cells #[.string s, .int .i64 off, .pointer none] 160) := by
  go_enter Tryd.func38, Tryd.ntmps38
  go_wp2
  go_ret
  exact ⟨rfl, rfl⟩

theorem at_any {g : Nat} {s : ByteArray} {n : Int} {f : Option Addr} (w : World) (h : Rd w g s n f) :
    Calls Tryd.prog 77 #[.pointer (some ⟨g, 0, none⟩)] w fun e w' => e = .returned (.int .i64 n) ∧ w = w' := by
  have h1 := h.c1
  go_enter Tryd.func77, Tryd.ntmps77
  go_wp2
  go_ret
  exact ⟨rfl, rfl⟩



theorem err_none {g : Nat} {s : ByteArray} {n : Int} (w : World) (h : Rd w g s n none) :
    Calls Tryd.prog 47 #[.pointer (some ⟨g, 0, none⟩)] w fun e w' => e = .returned .nilIface ∧ w = w' := by
  have h1 := h.c2
  go_enter Tryd.func47, Tryd.ntmps47
  go_wp2
  go_ret
  exact ⟨rfl, rfl⟩

theorem err_some {g p : Nat} {s : ByteArray} {n x y : Int} (w : World) (h : Rd w g s n (some ⟨p, 0, none⟩)) (hf : Flt w p x y) :
    Calls Tryd.prog 47 #[.pointer (some ⟨g, 0, none⟩)] w fun e w' =>
      e = .returned (.iface 142 (.pointer (some ⟨w.heap.size, 0, none⟩))) ∧ w' = w.alloc (.cells #[.int .i64 x, .int .i64 y] 144) := by
  have h1 := h.c2
  have h2 := hf.c0
  have h3 := hf.c1
  go_enter Tryd.func47, Tryd.ntmps47
  go_wp2
  go_ret
  exact ⟨rfl, rfl⟩

/-- Fail: the first. -/
theorem fail_first {g : Nat} {s : ByteArray} {n : Int} (x y : Int) (w : World) (h : Rd w g s n none) :
    Calls Tryd.prog 61 #[.pointer (some ⟨g, 0, none⟩), .int .i64 x, .int .i64 y] w fun e w' => e = .returned (.tuple #[]) ∧
      Rd w' g s n (some ⟨w.heap.size, 0, none⟩) ∧ Flt w' w.heap.size x y ∧ w.grownBy w' (some g) := by
  have h1 := h.c2
  have hz := h.fz 2
  have hlt := h.lt
  have hfin : Hid (Rd ((w.setCell ⟨g, 2, none⟩ (.pointer (some ⟨w.heap.size, 0, none⟩))).alloc (.cells #[.int .i64 x, .int .i64 y] 144)) g s n (some ⟨w.heap.size, 0, none⟩) ∧ Flt ((w.setCell ⟨g, 2, none⟩ (.pointer (some ⟨w.heap.size, 0, none⟩))).alloc (.cells #[.int .i64 x, .int .i64 y] 144)) w.heap.size x y ∧ w.grownBy ((w.setCell ⟨g, 2, none⟩ (.pointer (some ⟨w.heap.size, 0, none⟩))).alloc (.cells #[.int .i64 x, .int .i64 y] 144)) (some g)) := by
    have h2 : Rd (w.setCell ⟨g, 2, none⟩ (.pointer (some ⟨w.heap.size, 0, none⟩))) g s n (some ⟨w.heap.size, 0, none⟩) := h.set _ rfl
    refine ⟨h2.alloc _, ?_, grownBy_trans (grownBy_setCell _ _ _ _) (World.grownBy_alloc _ _ _)⟩
    have e := heap_alloc_new (w.setCell ⟨g, 2, none⟩ (.pointer (some ⟨w.heap.size, 0, none⟩))) (.cells #[.int .i64 x, .int .i64 y] 144)
    have es : (w.setCell ⟨g, 2, none⟩ (.pointer (some ⟨w.heap.size, 0, none⟩))).heap.size = w.heap.size := by simp [World.setCell]
    rw [es] at e
    exact e
  go_enter Tryd.func61, Tryd.ntmps61
  go_wp2
  go_end0
  exact ⟨rfl, hfin.out⟩

/-- Fail: not the first. -/
theorem fail_noted {g : Nat} {s : ByteArray} {n : Int} {p : Addr} (x y : Int) (w : World) (h : Rd w g s n (some p)) :
    Calls Tryd.prog 61 #[.pointer (some ⟨g, 0, none⟩), .int .i64 x, .int .i64 y] w fun e w' => e = .returned (.tuple #[]) ∧ w = w' := by
  have h1 := h.c2
  go_enter Tryd.func61, Tryd.ntmps61
  go_wp2
  go_end0
  exact ⟨rfl, rfl⟩


/-- Bytes, n below 0, nothing noted yet: ErrRange at the next byte. -/
theorem bytes_neg {g : Nat} {s : ByteArray} {a : Int} (n : Int) (w : World) (h : Rd w g s a none) (hn : n < 0) :
    Calls Tryd.prog 43 #[.pointer (some ⟨g, 0, none⟩), .int .i64 n] w fun e w' => e = .returned (.string ⟨#[]⟩) ∧
      Rd w' g s a (some ⟨w.heap.size, 0, none⟩) ∧ Flt w' w.heap.size 2 a ∧ w.grownBy w' (some g) := by
  have h1 := h.c1
  go_enter Tryd.func43, Tryd.ntmps43
  go_wp2_with fail
  refine (fail_first _ _ _ h).mono ?_
  rintro e w' ⟨rfl, hr, hf, hg⟩
  have h2 := hr.c2
  go_wp2
  go_ret
  exact ⟨rfl, hr, hf, hg⟩

/-- Bytes, more than there are, nothing noted yet: ErrMissing at the next byte. -/
theorem bytes_missing {g : Nat} {s : ByteArray} {a : Int} (n : Int) (w : World) (h : Rd w g s a none) (hn : (s.size : Int) < n) :
    Calls Tryd.prog 43 #[.pointer (some ⟨g, 0, none⟩), .int .i64 n] w fun e w' => e = .returned (.string ⟨#[]⟩) ∧
      Rd w' g s a (some ⟨w.heap.size, 0, none⟩) ∧ Flt w' w.heap.size 7 a ∧ w.grownBy w' (some g) := by
  have h0 := h.c0
  have h1 := h.c1
  have hn0 : ¬ n < 0 := by omega
  go_enter Tryd.func43, Tryd.ntmps43
  go_wp2_with fail
  refine (fail_first _ _ _ h).mono ?_
  rintro e w' ⟨rfl, hr, hf, hg⟩
  have h2 := hr.c2
  go_wp2
  go_ret
  exact ⟨rfl, hr, hf, hg⟩

/-- Bytes, something noted already: nothing is read. -/
theorem bytes_noted {g : Nat} {s : ByteArray} {a : Int} {p : Addr} (n : Int) (w : World) (h : Rd w g s a (some p)) :
    Calls Tryd.prog 43 #[.pointer (some ⟨g, 0, none⟩), .int .i64 n] w fun e w' => e = .returned (.string ⟨#[]⟩) ∧ w = w' := by
  have h0 := h.c0
  have h1 := h.c1
  have h2 := h.c2
  by_cases hn0 : n < 0
  · go_enter Tryd.func43, Tryd.ntmps43
    go_wp2_with fail
    refine (fail_noted _ _ _ h).mono ?_
    rintro e w' ⟨rfl, rfl⟩
    go_wp2
    go_ret
    exact ⟨rfl, rfl⟩
  · by_cases hn1 : (s.size : Int) < n
    · go_enter Tryd.func43, Tryd.ntmps43
      go_wp2_with fail
      refine (fail_noted _ _ _ h).mono ?_
      rintro e w' ⟨rfl, rfl⟩
      go_wp2
      go_ret
      exact ⟨rfl, rfl⟩
    · go_enter Tryd.func43, Tryd.ntmps43
      go_wp2
      go_ret
      exact ⟨rfl, rfl⟩

set_option maxHeartbeats 1000000 in
/-- Bytes, they are there. -/
theorem bytes_read {g : Nat} {s : ByteArray} {a : Int} (n : Nat) (w : World) (h : Rd w g s a none) (hn : n ≤ s.size) (ha : 0 ≤ a) (hb : a + s.size ≤ 281474976710656) :
    Calls Tryd.prog 43 #[.pointer (some ⟨g, 0, none⟩), .int .i64 n] w fun e w' => e = .returned (.string (s.extract 0 n)) ∧
      Rd w' g (s.extract n s.size) (a + n) none ∧ w.grownBy w' (some g) := by
  have h0 := h.c0
  have h1 := h.c1
  have h2 := h.c2
  have z0 := h.fz 0
  have z1 := h.fz 1
  have hn0 : ¬ (n : Int) < 0 := by omega
  have hn1 : ¬ (s.size : Int) < n := by omega
  go_enter Tryd.func43, Tryd.ntmps43
  go_wp2
  go_region
  go_wp2
  go_ret
  refine ⟨rfl, ?_, ?_⟩
  · have k0 : Rd (w.setCell ⟨g, 0, none⟩ (.string (s.extract n s.size))) g (s.extract n s.size) a none := h.set _ rfl
    exact k0.set _ rfl
  · have hg := grownBy_trans (grownBy_setCell w g 0 (.string (s.extract n s.size))) (grownBy_setCell _ g 1 (.int .i64 (a + n)))
    exact ⟨hg.os, hg.tape, hg.output, hg.size, hg.block⟩


end Go.Proofs.YtdjljnpbnhampaaDoor
