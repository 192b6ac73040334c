/- switchyardkeep.Md5Long returns true at every text, and changes nothing that was there. -/
import Derived.Test.YtlfeholphngilaaDoorMarked
import Derived.Test.YtlfeholphngilaaDoorStrClone
namespace Go.Proofs.YtlfeholphngilaaDoor.md5Long
open Go.RowKit
attribute [local go_sem ↓] Go.wp_at_zero Go.wp_at_succ
set_option linter.unusedSimpArgs false
set_option linter.unusedVariables false
set_option maxRecDepth 100000

set_option maxHeartbeats 3200000 in
theorem walk (s : ByteArray) (w : World) (HM : HasMd w) :
    Calls Tryd.prog 5 #[.string s] w fun e w' => e = .returned (.bool true) ∧ Below w.heap.size w w' := by
  have H0 := Lib.hid (fun W HM => marked_any W HM)
  by_cases hs : s.size ≤ 500
  · have hgt : decide ((500 : Int) < (s.size : Int)) = false := decide_eq_false (by omega)
    have hgt2 : ¬ (500 : Int) < (s.size : Int) := by omega
    have H1 := Lib.hid (fun W HM => mdSum_any s (by omega) W HM)
    have H2 := Lib.hid (fun W HM => mdHmac_any s s (by omega) (by omega) W HM)
    have H3 := Lib.hid (fun W => strClone_any s (by omega) W)
    have hx : (⟨(md5L s.data.toList).toArray⟩ : ByteArray).size = 16 := by show (md5L s.data.toList).toArray.size = 16; rw [List.size_toArray, md5L_len]
    have hy : (⟨(hmacL s.data.toList s.data.toList).toArray⟩ : ByteArray).size = 16 := by show (hmacL s.data.toList s.data.toList).toArray.size = 16; rw [List.size_toArray]; unfold hmacL; rw [md5L_len]
    generalize (⟨(md5L s.data.toList).toArray⟩ : ByteArray) = x at *
    generalize (⟨(hmacL s.data.toList s.data.toList).toArray⟩ : ByteArray) = y at *
    have hq : (x.toList == x.toList) = true := beq_iff_eq.2 rfl
    clear hs
    go_enter Tryd.func5, Tryd.ntmps5
    go_wp2_with fail
    refine (H0.out _ HM).mono ?_
    rintro e w1 ⟨rfl, k1⟩
    have b1 := k1
    go_wp2_with fail
    refine (H1.out _ (HM.below b1)).mono ?_
    rintro e w2 ⟨rfl, k2⟩
    have b2 := b1.trans (k2.mono b1.size)
    go_wp2_with fail
    refine (H2.out _ (HM.below b2)).mono ?_
    rintro e w3 ⟨rfl, k3⟩
    have b3 := b2.trans (k3.mono b2.size)
    go_wp2_with fail
    refine (H1.out _ (HM.below b3)).mono ?_
    rintro e w4 ⟨rfl, k4⟩
    have b4 := b3.trans (k4.mono b3.size)
    go_wp2_with fail
    refine (H3.out _).mono ?_
    rintro e w5 ⟨rfl, k5⟩
    have b5 := b4.trans (k5.mono b4.size)
    go_wp2_with fail
    refine (H1.out _ (HM.below b5)).mono ?_
    rintro e w6 ⟨rfl, k6⟩
    have b6 := b5.trans (k6.mono b5.size)
    go_wp2
    go_ret
    exact ⟨rfl, b6⟩
  · have hgt : decide ((500 : Int) < (s.size : Int)) = true := decide_eq_true (by omega)
    have hgt2 : (500 : Int) < (s.size : Int) := by omega
    clear hs
    go_enter Tryd.func5, Tryd.ntmps5
    go_wp2_with fail
    refine (H0.out _ HM).mono ?_
    rintro e w1 ⟨rfl, k1⟩
    have b1 := k1
    go_wp2
    go_ret
    exact ⟨rfl, b1⟩

end Go.Proofs.YtlfeholphngilaaDoor.md5Long
