/- A wire.Reader in memory, and what New, At, Left, Err, Fail and Bytes do to it: at every argument. -/
import Derived.Test.YtdceggekhhflgaaDoorPut
import Derived.Test.YtdceggekhhflgaaDoorFlt
import Derived.BigRegion
import Derived.BigQuiet
import Derived.Deep.QuietTactic
import Derived.Lib.IndexBytes
namespace Go.Proofs.YtdceggekhhflgaaDoor
open Go.RowKit



section
variable {w w' : World} {g p : Nat} {s : ByteArray} {at_ e : Int} {f : Option Addr}



















theorem grownBy_setCell (w : World) (g i : Nat) (v : Value) : w.grownBy (w.setCell ⟨g, i, none⟩ v) (some g) :=
  ⟨rfl, rfl, rfl, by simp [World.setCell], fun k _ hne => Below.heap_setCell _ _ _ _ (by intro e; exact hne (by rw [e]))⟩

theorem grownBy_trans {a b c : World} {row : Option Nat} (h : a.grownBy b row) (k : b.grownBy c row) : a.grownBy c row :=
  ⟨k.os.trans h.os, k.tape.trans h.tape, k.output.trans h.output, Nat.le_trans h.size k.size,
    fun i hi hne => (k.block i (Nat.lt_of_lt_of_le hi h.size) hne).trans (h.block i hi hne)⟩
end

theorem extract_list (s : ByteArray) (a b : Nat) : (s.extract a b).data.toList = (s.data.toList.drop a).take (b - a) := Lib.extract_data s a b

/-- Two neighbouring pieces. -/
theorem extract_cat (s : ByteArray) (n m : Nat) (h : n + m ≤ s.size) : s.extract 0 n ++ (s.extract n s.size).extract 0 m = s.extract 0 (n + m) := by
  apply ByteArray.ext
  apply Array.toList_inj.1
  have e : ∀ a b : ByteArray, (a ++ b).data.toList = a.data.toList ++ b.data.toList := fun a b => by simp
  have hl : s.data.toList.length = s.size := by simp
  rw [e, extract_list, extract_list, extract_list, extract_list]
  simp only [Nat.sub_zero, List.drop_zero]
  rw [List.take_add, List.take_take, Nat.min_eq_left (by omega)]

theorem extract_extract (s : ByteArray) (n m : Nat) : (s.extract n s.size).extract m (s.extract n s.size).size = s.extract (n + m) s.size := by
  apply ByteArray.ext
  apply Array.toList_inj.1
  rw [Lib.extract_to_end, Lib.extract_to_end, Lib.extract_to_end, List.drop_drop]

























end Go.Proofs.YtdceggekhhflgaaDoor
