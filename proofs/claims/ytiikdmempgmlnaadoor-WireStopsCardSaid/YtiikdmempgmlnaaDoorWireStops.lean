/- switchyardkeep.WireStops returns true for every text and every two numbers, and changes nothing that was there. -/
import Derived.Test.YtiikdmempgmlnaaDoorZeros
import Derived.Test.YtiikdmempgmlnaaDoorPlace
namespace Go.Proofs.YtiikdmempgmlnaaDoor.wireStops
open Go.RowKit
set_option linter.unusedVariables false

theorem long (s : ByteArray) (a1 a2 : Int) (w : World) (hs : 200 < s.size) :
    Calls Tryd.prog 6 #[.string s, .int .i64 a1, .int .i64 a2] w fun e w' => e = .returned (.bool true) ∧ Below w.heap.size w w' := by
  go_enter Tryd.func6, Tryd.ntmps6
  go_wp2_with fail
  refine (wired_any _).mono ?_
  rintro e w1 ⟨rfl, hb1⟩
  go_wp2
  go_ret
  exact ⟨rfl, hb1⟩

set_option maxHeartbeats 1600000 in
theorem short (s : ByteArray) (a1 a2 : Int) (w : World) (hs : ¬ 200 < s.size) (hE : HasErr w) :
    Calls Tryd.prog 6 #[.string s, .int .i64 a1, .int .i64 a2] w fun e w' => e = .returned (.bool true) ∧ Below w.heap.size w w' := by
  go_enter Tryd.func6, Tryd.ntmps6
  go_wp2_with fail
  refine (wired_any _).mono ?_
  rintro e w1 ⟨rfl, hb1⟩
  have hs1 := hb1.size
  go_wp2_with fail
  refine (new_any _ _ _).mono ?_
  rintro e w2 ⟨rfl, rfl⟩
  have r2 : Rd (w1.alloc (.cells #[.string s, .int .i64 0, .pointer none] 66)) w1.heap.size s 0 none := heap_alloc_new w1 _
  have hb2 : Below w.heap.size w (w1.alloc (.cells #[.string s, .int .i64 0, .pointer none] 66)) := hb1.alloc hs1 _
  generalize w1.alloc (.cells #[.string s, .int .i64 0, .pointer none] 66) = w2 at *
  generalize w1.heap.size = g at *
  clear hb1
  go_wp2_with fail
  rw [show (s.size : Int) + 1 = ((s.size + 1 : Nat) : Int) by omega]
  refine (pick_any _ (s.size + 1) _ (by omega) (by omega)).mono ?_
  rintro e w3 ⟨n, rfl, hn, rfl⟩
  go_wp2_with fail
  refine (pick_any _ 8 _ (by omega) (by omega)).mono ?_
  rintro e w3 ⟨m, rfl, hm, rfl⟩
  go_wp2_with fail
  refine (bytes_read n _ r2 (by omega) (by omega) (by omega)).mono ?_
  rintro e w3 ⟨rfl, r3, g3⟩
  have hb3 := grown_below hb2 g3 hb2.size hs1
  clear r2 g3 hb2
  go_wp2_with fail
  refine (bytes_missing _ _ r3 (by rw [ByteArray.size_extract]; omega)).mono ?_
  rintro e w4 ⟨rfl, r4, f4, g4⟩
  have hb4 := grown_below hb3 g4 hb3.size hs1
  clear r3 g4
  generalize w3.heap.size = p at *
  go_wp2_with fail
  refine (err_some _ r4 f4).mono ?_
  rintro e w5 ⟨rfl, rfl⟩
  have r5 := r4.alloc (.cells #[.int .i64 7, .int .i64 (0 + n)] 71)
  have f5 := f4.alloc (.cells #[.int .i64 7, .int .i64 (0 + n)] 71)
  have q5 : Flt (w4.alloc (.cells #[.int .i64 7, .int .i64 (0 + n)] 71)) w4.heap.size 7 (0 + n) := heap_alloc_new w4 _
  have hb5 := hb4.alloc hb4.size (.cells #[.int .i64 7, .int .i64 (0 + n)] 71)
  have hE5 := hE.below hb5
  clear hb3 hb4 r4 f4
  generalize w4.alloc (.cells #[.int .i64 7, .int .i64 (0 + n)] 71) = w5 at *
  generalize w4.heap.size = q at *
  go_wp2_with fail
  refine (tell_at q 7 (0 + n) _ hE5 q5).mono ?_
  rintro e w6 ⟨rfl, b6⟩
  have r6 := r5.below b6
  have f6 := f5.below b6
  have hb6 := hb5.trans (b6.mono hb5.size)
  clear r5 f5 q5 b6 hb5 hE5
  go_wp2_with fail
  refine (bytes_noted _ _ r6).mono ?_
  rintro e w7 ⟨rfl, rfl⟩
  go_wp2_with fail
  refine (num_noted _ _ r6 (by omega) (by omega)).mono ?_
  rintro e w7 ⟨rfl, r7, g7⟩
  have f7 := f6.kept g7 (by simp)
  have hb7 := hb6.grown g7 hb6.size (fun k e => by cases e)
  clear r6 f6 g7 hb6
  go_wp2_with fail
  refine (zeros_noted _ r7).mono ?_
  rintro e w8 ⟨rfl, rfl⟩
  go_wp2_with fail
  refine (at_any _ r7).mono ?_
  rintro e w8 ⟨rfl, rfl⟩
  rw [show (0 : Int) + (n : Int) = n by omega]
  go_wp2_with fail
  refine (err_some _ r7 f7).mono ?_
  rintro e w8 ⟨rfl, rfl⟩
  have q8 : Flt (w7.alloc (.cells #[.int .i64 7, .int .i64 (0 + n)] 71)) w7.heap.size 7 (0 + n) := heap_alloc_new w7 _
  have hb8 := hb7.alloc hb7.size (.cells #[.int .i64 7, .int .i64 (0 + n)] 71)
  have hE8 := hE.below hb8
  clear hb7 r7 f7
  generalize w7.alloc (.cells #[.int .i64 7, .int .i64 (0 + n)] 71) = w8 at *
  generalize w7.heap.size = q' at *
  go_wp2_with fail
  refine (tell_at q' 7 (0 + n) _ hE8 q8).mono ?_
  rintro e w9 ⟨rfl, b9⟩
  have hb9 := hb8.trans (b9.mono hb8.size)
  go_wp2
  go_ret
  exact ⟨rfl, hb9⟩

theorem walk (s : ByteArray) (a1 a2 : Int) (w : World) (hE : HasErr w) :
    Calls Tryd.prog 6 #[.string s, .int .i64 a1, .int .i64 a2] w fun e w' => e = .returned (.bool true) ∧ Below w.heap.size w w' := by
  by_cases hs : 200 < s.size
  · exact long s a1 a2 w hs
  · exact short s a1 a2 w hs hE
end Go.Proofs.YtiikdmempgmlnaaDoor.wireStops
