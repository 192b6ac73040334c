/- switchyardkeep.WireBack returns true for every number and every width, and changes nothing that was there. -/
import Derived.Test.YtiikdmempgmlnaaDoorLow
import Derived.Test.YtiikdmempgmlnaaDoorPlace
namespace Go.Proofs.YtiikdmempgmlnaaDoor.wireBack
open Go.RowKit
set_option linter.unusedVariables false

set_option maxHeartbeats 800000 in
theorem walk (X : Nat) (a1 : Int) (w : World) (hE : HasErr w) :
    Calls Tryd.prog 5 #[.int .u64 X, .int .i64 a1] w fun e w' => e = .returned (.bool true) ∧ Below w.heap.size w w' := by
  go_enter Tryd.func5, Tryd.ntmps5
  go_wp2_with fail
  refine (wired_any _).mono ?_
  rintro e w1 ⟨rfl, hb1⟩
  have hs1 := hb1.size
  have hE1 := hE.below hb1
  go_wp2_with fail
  refine (pick_any _ 7 _ (by omega) (by omega)).mono ?_
  rintro e w2 ⟨r, rfl, hr, rfl⟩
  go_wp2_with fail
  rw [show (1 : Int) + (r : Int) = ((1 + r : Nat) : Int) by omega]
  by_cases hx : X < 256 ^ (1 + r)
  · refine (put_fits X (1 + r) _ (by omega) (by omega) (fits_to X _ hx)).mono ?_
    rintro e w2 ⟨rfl, hb2⟩
    have hb2' : Below w.heap.size w w2 := hb1.trans (hb2.mono hs1)
    have hs2 := hb2'.size
    clear hb1 hb2
    go_wp2_with fail
    refine (new_any _ _ _).mono ?_
    rintro e w3 ⟨rfl, rfl⟩
    have hl : (⟨(putL X (1 + r)).toArray⟩ : ByteArray).size = 1 + r := by simp [ByteArray.size, putL_length]
    have hr3 : Rd (w2.alloc (.cells #[.string ⟨(putL X (1 + r)).toArray⟩, .int .i64 0, .pointer none] 66)) w2.heap.size ⟨(putL X (1 + r)).toArray⟩ 0 none := heap_alloc_new w2 _
    have hb3 : Below w.heap.size w (w2.alloc (.cells #[.string ⟨(putL X (1 + r)).toArray⟩, .int .i64 0, .pointer none] 66)) := hb2'.alloc hs2 _
    have HL := Lib.hid hl
    have HX := Lib.hid hx
    clear hl hx
    have hlen := putL_length X (1 + r)
    go_wp2_with fail
    rw [show (1 : Int) + (r : Int) = ((1 + r : Nat) : Int) by omega]
    refine (num_read (1 + r) _ hr3 (by omega) (by omega) (by rw [HL.out]; exact Nat.le_refl _) (by omega) (by rw [HL.out]; omega)).mono ?_
    rintro e w4 ⟨rfl, hr4, hg4⟩
    have hb4 : Below w.heap.size w w4 := grown_below hb3 hg4 (by simp; omega) hs2
    have hv : beN ((⟨(putL X (1 + r)).toArray⟩ : ByteArray).data.toList.take (1 + r)) = X := by
      show beN ((putL X (1 + r)).take (1 + r)) = X
      rw [List.take_of_length_le (by omega), beN_putL_fits _ _ HX.out]
    rw [hv]
    have hz : (((⟨(putL X (1 + r)).toArray⟩ : ByteArray).extract (1 + r) (⟨(putL X (1 + r)).toArray⟩ : ByteArray).size).size : Int) = 0 := by
      rw [ByteArray.size_extract, HL.out]; omega
    generalize (⟨(putL X (1 + r)).toArray⟩ : ByteArray).extract (1 + r) (⟨(putL X (1 + r)).toArray⟩ : ByteArray).size = rest at hr4 hz
    clear hb3 hr3 hg4 hlen hv
    go_wp2_with fail
    refine (left_any _ hr4).mono ?_
    rintro e w5 ⟨rfl, rfl⟩
    go_wp2_with fail
    refine (err_none _ hr4).mono ?_
    rintro e w5 ⟨rfl, rfl⟩
    go_wp2
    go_ret
    exact ⟨rfl, hb4⟩
  · refine (put_full X (1 + r) _ (by omega) (by omega) (fits_not X _ hx)).mono ?_
    rintro e w2 ⟨rfl, rfl⟩
    have hf := fits_not X _ hx
    go_wp2_with fail
    refine (tell_errno 12 _ hE1).mono ?_
    rintro e w3 ⟨rfl, hb3⟩
    have hb3' := hb1.trans (hb3.mono hs1)
    go_wp2
    go_ret
    exact ⟨rfl, hb3'⟩
end Go.Proofs.YtiikdmempgmlnaaDoor.wireBack
