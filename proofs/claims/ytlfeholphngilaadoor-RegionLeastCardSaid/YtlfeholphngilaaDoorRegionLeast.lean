/- switchyardkeep.RegionLeast returns true at every list of spans and number, and changes nothing that was there. -/
import Derived.Test.YtlfeholphngilaaDoorRegional
namespace Go.Proofs.YtlfeholphngilaaDoor.regionLeast
open Go.RowKit
attribute [local go_sem ↓] Go.wp_at_zero Go.wp_at_succ
set_option linter.unusedSimpArgs false
set_option linter.unusedVariables false
set_option maxRecDepth 100000

set_option maxHeartbeats 6400000 in
theorem walk (a : Option Addr) (c : Nat) (l : List Sp) (v : Int) (w : World) (h : SpIn w a l) (HM : HasMd w) :
    Calls Tryd.prog 7 #[.slice a l.length c, .int .i64 v] w fun e w' => e = .returned (.bool true) ∧ Below w.heap.size w w' := by
  have H0 := Lib.hid (fun W HM => regional_any W HM)
  by_cases hl : l.length ≤ 60
  · have hgt : decide ((60 : Int) < (l.length : Int)) = false := decide_eq_false (by omega)
    have hgt2 : ¬ (60 : Int) < (l.length : Int) := by omega
    have hlen : l.length ≤ 1000000 := by omega
    have H2 := Lib.hid (fun W h => spRight_any a c l W h hlen)
    cases hr : rightL l with
    | true =>
      have hml := leastL_len l
      have hmlen : (leastL l).length ≤ 1000000 := Nat.le_trans hml hlen
      have H1 := Lib.hid (fun W h => spLeast_ok a c l W h hlen hr)
      have H3 := Lib.hid (fun W a c h => spLeast_ok a c (leastL l) W h hmlen (leastL_right l hr))
      rw [leastL_still l hr] at H3
      have H4 := Lib.hid (fun W h => spTable_ok a c l W h hlen hr)
      have H5 := Lib.hid (fun W a c h => spTable_ok a c (leastL l) W h hmlen (leastL_right l hr))
      rw [tabB_same (leastL_inst l hr)] at H5
      have H6 := Lib.hid (fun W a c h => spRight_any a c (leastL l) W h hmlen)
      rw [leastL_right l hr] at H6
      have H7 := Lib.hid (fun W a c a2 c2 h h2 => eqSps_any a c a2 c2 (leastL l) W h h2 hmlen)
      have H8 := Lib.hid (fun W h => spInst_any a c l v W h hlen)
      have H9 := Lib.hid (fun W a c h => spInst_any a c (leastL l) v W h hmlen)
      rw [leastL_inst l hr v] at H9
      have hts : (⟨(tabB l).toArray⟩ : ByteArray).size = 8192 := by show (tabB l).toArray.size = 8192; rw [List.size_toArray, tabB_len]
      rw [hr] at H2
      generalize (⟨(tabB l).toArray⟩ : ByteArray) = x at *
      have hq : (x.toList == x.toList) = true := beq_iff_eq.2 rfl
      generalize instL l v = y at *
      have hy : (y == y) = true := by simp
      generalize leastL l = m at *
      have hle : decide ((m.length : Int) ≤ (l.length : Int)) = true := decide_eq_true (by omega)
      have hle2 : (m.length : Int) ≤ (l.length : Int) := by omega
      clear hr
      go_enter Tryd.func7, Tryd.ntmps7
      go_wp2_with fail
      refine (H0.out _ HM).mono ?_
      rintro e w1 ⟨rfl, k1⟩
      have b1 := k1
      go_wp2_with fail
      refine (H1.out _ (h.below b1)).mono ?_
      rintro e w2 ⟨⟨v2, rfl, O2⟩, k2⟩
      have b2 := b1.trans (k2.mono b1.size)
      obtain ⟨a2, c2, rfl, S2⟩ := O2.inL
      go_wp2_with fail
      refine (H2.out _ (h.below b2)).mono ?_
      rintro e w3 ⟨rfl, k3⟩
      have b3 := b2.trans (k3.mono b2.size)
      have S3 := S2.below k3
      go_wp2_with fail
      refine (H3.out _ a2 c2 S3).mono ?_
      rintro e w4 ⟨⟨v4, rfl, O4⟩, k4⟩
      have b4 := b3.trans (k4.mono b3.size)
      obtain ⟨a4, c4, rfl, S4⟩ := O4.inL
      have S4m := S3.below k4
      go_wp2_with fail
      refine (H4.out _ (h.below b4)).mono ?_
      rintro e w5 ⟨rfl, k5⟩
      have b5 := b4.trans (k5.mono b4.size)
      go_wp2_with fail
      refine (H5.out _ a2 c2 (S4m.below k5)).mono ?_
      rintro e w6 ⟨rfl, k6⟩
      have b6 := b5.trans (k6.mono b5.size)
      have S6m := (S4m.below k5).below k6
      have S6n := (S4.below k5).below k6
      go_wp2_with fail
      refine (H6.out _ a2 c2 S6m).mono ?_
      rintro e w7 ⟨rfl, k7⟩
      have b7 := b6.trans (k7.mono b6.size)
      have S7m := S6m.below k7
      have S7n := S6n.below k7
      go_wp2_with fail
      refine (H7.out _ a2 c2 a4 c4 S7m S7n).mono ?_
      rintro e w8 ⟨rfl, k8⟩
      have b8 := b7.trans (k8.mono b7.size)
      have S8m := S7m.below k8
      go_wp2_with fail
      refine (H8.out _ (h.below b8)).mono ?_
      rintro e w9 ⟨rfl, k9⟩
      have b9 := b8.trans (k9.mono b8.size)
      go_wp2_with fail
      refine (H9.out _ a2 c2 (S8m.below k9)).mono ?_
      rintro e w10 ⟨rfl, k10⟩
      have b10 := b9.trans (k10.mono b9.size)
      go_wp2
      go_ret
      exact ⟨rfl, b10⟩
    | false =>
      have H1 := Lib.hid (fun W h => spLeast_bad a c l W h hlen hr)
      rw [hr] at H2
      clear hr
      go_enter Tryd.func7, Tryd.ntmps7
      go_wp2_with fail
      refine (H0.out _ HM).mono ?_
      rintro e w1 ⟨rfl, k1⟩
      have b1 := k1
      go_wp2_with fail
      refine (H1.out _ (h.below b1)).mono ?_
      rintro e w2 ⟨rfl, k2⟩
      have b2 := b1.trans (k2.mono b1.size)
      go_wp2_with fail
      refine (H2.out _ (h.below b2)).mono ?_
      rintro e w3 ⟨rfl, k3⟩
      have b3 := b2.trans (k3.mono b2.size)
      go_wp2
      go_ret
      exact ⟨rfl, b3⟩
  · have hgt : decide ((60 : Int) < (l.length : Int)) = true := decide_eq_true (by omega)
    have hgt2 : (60 : Int) < (l.length : Int) := by omega
    go_enter Tryd.func7, Tryd.ntmps7
    go_wp2_with fail
    refine (H0.out _ HM).mono ?_
    rintro e w1 ⟨rfl, k1⟩
    have b1 := k1
    go_wp2
    go_ret
    exact ⟨rfl, b1⟩

end Go.Proofs.YtlfeholphngilaaDoor.regionLeast
