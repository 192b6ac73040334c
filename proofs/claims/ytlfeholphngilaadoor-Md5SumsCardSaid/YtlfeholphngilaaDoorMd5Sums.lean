/- switchyardlaw.Md5Sums returns true at every text and key, and changes nothing that was there. -/
import Derived.Test.YtlfeholphngilaaDoorMdHmac
import Derived.Test.YtlfeholphngilaaDoorRefHmac
namespace Go.Proofs.YtlfeholphngilaaDoor.md5Sums
open Go.RowKit
attribute [local go_sem ↓] Go.wp_at_zero Go.wp_at_succ
set_option linter.unusedSimpArgs false
set_option linter.unusedVariables false
set_option maxRecDepth 100000

set_option maxHeartbeats 3200000 in
theorem walk (s key : ByteArray) (w : World) (HM : HasMd w) (hs0 : s.size ≤ 140737488355328) (hk0 : key.size ≤ 140737488355328) :
    Calls Tryd.prog 3 #[.string s, .string key] w fun e w' => e = .returned (.bool true) ∧ Below w.heap.size w w' := by
  by_cases hs : s.size + key.size ≤ 600
  · have hgt : decide ((600 : Int) < (s.size : Int) + (key.size : Int)) = false := decide_eq_false (by omega)
    have hgt2 : ¬ (600 : Int) < (s.size : Int) + (key.size : Int) := by omega
    have hwr : IntKind.i64.wrap ((s.size : Int) + (key.size : Int)) = (s.size : Int) + (key.size : Int) := by rw [IntKind.wrap_i64] <;> omega
    have H1 := Lib.hid (fun W HM => mdSum_any s (by omega) W HM)
    have H2 := Lib.hid (fun W => refMd5_any s W (by omega))
    have H3 := Lib.hid (fun W HM => mdHmac_any key s (by omega) (by omega) W HM)
    have H4 := Lib.hid (fun W => refHmac_any key s W (by omega) (by omega))
    generalize (⟨(md5L s.data.toList).toArray⟩ : ByteArray) = x at *
    generalize (⟨(hmacL key.data.toList s.data.toList).toArray⟩ : ByteArray) = y at *
    have hq : (x.toList == x.toList) = true := beq_iff_eq.2 rfl
    have hq2 : (y.toList == y.toList) = true := beq_iff_eq.2 rfl
    clear hs
    go_enter Tryd.func3, Tryd.ntmps3
    go_wp2_with fail
    refine (H1.out _ HM).mono ?_
    rintro e w1 ⟨rfl, k1⟩
    have b1 := k1
    go_wp2_with fail
    refine (H2.out _).mono ?_
    rintro e w2 ⟨rfl, k2⟩
    have b2 := b1.trans (k2.mono b1.size)
    go_wp2_with fail
    refine (H3.out _ (HM.below b2)).mono ?_
    rintro e w3 ⟨rfl, k3⟩
    have b3 := b2.trans (k3.mono b2.size)
    go_wp2_with fail
    refine (H4.out _).mono ?_
    rintro e w4 ⟨rfl, k4⟩
    have b4 := b3.trans (k4.mono b3.size)
    go_wp2
    go_ret
    exact ⟨rfl, b4⟩
  · have hgt : decide ((600 : Int) < (s.size : Int) + (key.size : Int)) = true := decide_eq_true (by omega)
    have hgt2 : (600 : Int) < (s.size : Int) + (key.size : Int) := by omega
    have hwr : IntKind.i64.wrap ((s.size : Int) + (key.size : Int)) = (s.size : Int) + (key.size : Int) := by rw [IntKind.wrap_i64] <;> omega
    clear hs
    go_enter Tryd.func3, Tryd.ntmps3
    go_wp2
    go_ret
    exact ⟨rfl, Below.refl _ _⟩

end Go.Proofs.YtlfeholphngilaaDoor.md5Sums
