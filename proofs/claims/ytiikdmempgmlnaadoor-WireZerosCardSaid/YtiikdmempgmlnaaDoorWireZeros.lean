/- switchyardkeep.WireZeros returns true for every text and every number, and changes nothing that was there. -/
import Derived.Test.YtiikdmempgmlnaaDoorZeros
import Derived.Test.YtiikdmempgmlnaaDoorPlace
namespace Go.Proofs.YtiikdmempgmlnaaDoor.wireZeros
open Go.RowKit
set_option linter.unusedVariables false

theorem long (s : ByteArray) (a1 : Int) (w : World) (hs : 200 < s.size) :
    Calls Tryd.prog 8 #[.string s, .int .i64 a1] w fun e w' => e = .returned (.bool true) ∧ Below w.heap.size w w' := by
  go_enter Tryd.func8, Tryd.ntmps8
  go_wp2_with fail
  refine (wired_any _).mono ?_
  rintro e w1 ⟨rfl, hb1⟩
  go_wp2
  go_ret
  exact ⟨rfl, hb1⟩

set_option maxHeartbeats 1600000 in
theorem short (s : ByteArray) (a1 : Int) (w : World) (hs : ¬ 200 < s.size) (hE : HasErr w) :
    Calls Tryd.prog 8 #[.string s, .int .i64 a1] w fun e w' => e = .returned (.bool true) ∧ Below w.heap.size w w' := by
  go_enter Tryd.func8, Tryd.ntmps8
  go_wp2_with fail
  refine (wired_any _).mono ?_
  rintro e w1 ⟨rfl, hb1⟩
  have hs1 := hb1.size
  go_wp2_with fail
  refine (new_any _ _ _).mono ?_
  rintro e w2 ⟨rfl, rfl⟩
  have r2 : Rd (w1.alloc (.cells #[.string s, .int .i64 50, .pointer none] 66)) w1.heap.size s 50 none := heap_alloc_new w1 _
  have hb2 : Below w.heap.size w (w1.alloc (.cells #[.string s, .int .i64 50, .pointer none] 66)) := hb1.alloc hs1 _
  generalize w1.alloc (.cells #[.string s, .int .i64 50, .pointer none] 66) = w2 at *
  generalize w1.heap.size = g at *
  clear hb1
  go_wp2_with fail
  rw [show (s.size : Int) + 1 = ((s.size + 1 : Nat) : Int) by omega]
  refine (pick_any _ (s.size + 1) _ (by omega) (by omega)).mono ?_
  rintro e w3 ⟨n, rfl, hn, rfl⟩
  have hn' : n ≤ s.size := by omega
  go_wp2_with fail
  refine (bytes_read n _ r2 (by omega) (by omega) (by omega)).mono ?_
  rintro e w3 ⟨rfl, r3, g3⟩
  have hb3 := grown_below hb2 g3 hb2.size hs1
  clear r2 g3 hb2
  go_wp2_with fail
  have hR : (s.extract n s.size).size ≤ 200 := by rw [ByteArray.size_extract]; omega
  have hRz : s.size - n = (s.extract n s.size).size := by rw [ByteArray.size_extract]; omega
  rw [hRz]
  clear hRz
  generalize s.extract n s.size = rest at *
  refine (Tryd.strings_TrimLeft_one rest 0 (by decide) _).mono ?_
  rintro e w4 ⟨rfl, hw⟩
  subst hw
  cases hq : Lib.trimLeftB rest.data.toList 0 with
  | nil =>
    go_wp2_with fail
    refine (zeros_clean _ r3 (by omega) (by omega) hq).mono ?_
    rintro e w5 ⟨rfl, r5, g5⟩
    have hb5 := grown_below hb3 g5 hb3.size hs1
    clear r3 g5 hb3 hq
    go_wp2_with fail
    refine (at_any _ r5).mono ?_
    rintro e w6 ⟨rfl, rfl⟩
    go_wp2_with fail
    refine (err_none _ r5).mono ?_
    rintro e w6 ⟨rfl, rfl⟩
    go_wp2
    go_ret
    exact ⟨rfl, hb5⟩
  | cons b l =>
    have hle := trim_le rest.data.toList
    have hsz : rest.data.toList.length = rest.size := by simp
    have hld : lead rest.data.toList = rest.size - (l.length + 1) := by unfold lead; rw [hsz, hq]; rfl
    rw [hq, hsz, List.length_cons] at hle
    have HD := Lib.hid hld
    have hk1 : ((rest.size : Int) - ((l.length : Int) + 1) == (rest.size : Int)) = false := beq_eq_false_iff_ne.2 (by omega)
    clear hsz hld
    go_wp2_with fail
    refine (zeros_spoilt _ r3 (by omega) (by omega) (by rw [hq]; exact List.cons_ne_nil _ _)).mono ?_
    rintro e w5 ⟨rfl, p, hp, r5, f5, g5⟩
    have hb5 := grown_below hb3 g5 hb3.size hs1
    rw [HD.out] at r5 f5
    have hE5 := hE.below hb5
    clear r3 g5 hb3 hq hp
    go_wp2_with fail
    refine (at_any _ r5).mono ?_
    rintro e w6 ⟨rfl, rfl⟩
    rw [show (50 : Int) + (n : Int) + ((rest.size - (l.length + 1) : Nat) : Int) = 50 + n + ((rest.size : Int) - ((l.length : Int) + 1)) by omega]
    generalize (50 : Int) + (n : Int) + ((rest.size - (l.length + 1) : Nat) : Int) = y at *
    go_wp2_with fail
    refine (err_some _ r5 f5).mono ?_
    rintro e w6 ⟨rfl, rfl⟩
    have r6 := r5.alloc (.cells #[.int .i64 15, .int .i64 y] 71)
    have f6 := f5.alloc (.cells #[.int .i64 15, .int .i64 y] 71)
    have hb6 := hb5.alloc hb5.size (.cells #[.int .i64 15, .int .i64 y] 71)
    clear r5 f5 hE5 hb5
    generalize w5.alloc (.cells #[.int .i64 15, .int .i64 y] 71) = w6 at *
    generalize w5.heap.size = q at *
    go_wp2_with fail
    refine (err_some _ r6 f6).mono ?_
    rintro e w7 ⟨rfl, rfl⟩
    have f7 : Flt (w6.alloc (.cells #[.int .i64 15, .int .i64 y] 71)) w6.heap.size 15 y := heap_alloc_new w6 _
    have hb7 := hb6.alloc hb6.size (.cells #[.int .i64 15, .int .i64 y] 71)
    have hE7 := hE.below hb7
    clear r6 f6 hb6
    generalize w6.alloc (.cells #[.int .i64 15, .int .i64 y] 71) = w7 at *
    generalize w6.heap.size = q' at *
    go_wp2_with fail
    refine (tell_at q' 15 y _ hE7 f7).mono ?_
    rintro e w8 ⟨rfl, b8⟩
    have hb8 := hb7.trans (b8.mono hb7.size)
    go_wp2
    go_ret
    exact ⟨rfl, hb8⟩

theorem walk (s : ByteArray) (a1 : Int) (w : World) (hE : HasErr w) :
    Calls Tryd.prog 8 #[.string s, .int .i64 a1] w fun e w' => e = .returned (.bool true) ∧ Below w.heap.size w w' := by
  by_cases hs : 200 < s.size
  · exact long s a1 w hs
  · exact short s a1 w hs hE
end Go.Proofs.YtiikdmempgmlnaaDoor.wireZeros
