/- switchyardlaw.RegionRights returns true at every list of spans and number, and changes nothing that was there. -/
import Derived.Test.YtlfeholphngilaaDoorSpLeast
import Derived.Test.YtlfeholphngilaaDoorRefLeast
import Derived.Test.YtlfeholphngilaaDoorRefSpRight
import Derived.Test.YtlfeholphngilaaDoorSpSame
import Derived.Test.YtlfeholphngilaaDoorBare
namespace Go.Proofs.YtlfeholphngilaaDoor.regionRights
open Go.RowKit
attribute [local go_sem ↓] Go.wp_at_zero Go.wp_at_succ
set_option linter.unusedSimpArgs false
set_option linter.unusedVariables false
set_option maxRecDepth 100000

set_option maxHeartbeats 3200000 in
theorem walk (a : Option Addr) (c : Nat) (l : List Sp) (v : Int) (w : World) (h : SpIn w a l) (hE : HasErr w) :
    Calls Tryd.prog 6 #[.slice a l.length c, .int .i64 v] w fun e w' => e = .returned (.bool true) ∧ Below w.heap.size w w' := by
  by_cases hl : l.length ≤ 60
  · have hgt : decide ((60 : Int) < (l.length : Int)) = false := decide_eq_false (by omega)
    have hgt2 : ¬ (60 : Int) < (l.length : Int) := by omega
    have hlen : l.length ≤ 1000000 := by omega
    have H1 := Lib.hid (fun W h => refSpRight_any a c l W h hlen)
    have H2 := Lib.hid (fun W h => spRight_any a c l W h hlen)
    have H3 := Lib.hid (fun W h => spInst_any a c l v W h hlen)
    have H4 := Lib.hid (fun W h => refInst_any a c l v W h hlen)
    generalize instL l v = y at *
    have hy : (y != y) = false := by simp
    cases hr : rightL l with
    | true =>
      have H5 := Lib.hid (fun W h => spLeast_ok a c l W h hlen hr)
      have H6 := Lib.hid (fun W h => refLeast_any a c l W h hlen hr)
      have hml : (leastL l).length ≤ 1000000 := Nat.le_trans (leastL_len l) hlen
      rw [hr] at H1 H2
      generalize leastL l = m at *
      clear hr
      go_enter Tryd.func6, Tryd.ntmps6
      go_wp2_with fail
      refine (H1.out _ h).mono ?_
      rintro e w1 ⟨rfl, k1⟩
      have b1 := k1
      go_wp2_with fail
      refine (H2.out _ (h.below b1)).mono ?_
      rintro e w2 ⟨rfl, k2⟩
      have b2 := b1.trans (k2.mono b1.size)
      go_wp2_with fail
      refine (H3.out _ (h.below b2)).mono ?_
      rintro e w3 ⟨rfl, k3⟩
      have b3 := b2.trans (k3.mono b2.size)
      go_wp2_with fail
      refine (H4.out _ (h.below b3)).mono ?_
      rintro e w4 ⟨rfl, k4⟩
      have b4 := b3.trans (k4.mono b3.size)
      go_wp2_with fail
      refine (H5.out _ (h.below b4)).mono ?_
      rintro e w5 ⟨⟨v5, rfl, O5⟩, k5⟩
      have b5 := b4.trans (k5.mono b4.size)
      go_wp2_with fail
      refine (H6.out _ (h.below b5)).mono ?_
      rintro e w6 ⟨⟨v6, rfl, O6⟩, k6⟩
      have b6 := b5.trans (k6.mono b5.size)
      obtain ⟨a5, c5, rfl, S5⟩ := (O5.kept k6).inL
      obtain ⟨a6, c6, rfl, S6⟩ := O6.inL
      have H7 := Lib.hid (sameSp_any a5 c5 a6 c6 m w6 S5 S6 hml)
      go_wp2_with fail
      refine H7.out.mono ?_
      rintro e w7 ⟨rfl, k7⟩
      have b7 := b6.trans (k7.mono b6.size)
      go_wp2
      go_ret
      exact ⟨rfl, b7⟩
    | false =>
      have H5 := Lib.hid (fun W h => spLeast_bad a c l W h hlen hr)
      have H6 := Lib.hid (fun W hE => bare_errno 1 W hE)
      rw [hr] at H1 H2
      clear hr
      go_enter Tryd.func6, Tryd.ntmps6
      go_wp2_with fail
      refine (H1.out _ h).mono ?_
      rintro e w1 ⟨rfl, k1⟩
      have b1 := k1
      go_wp2_with fail
      refine (H2.out _ (h.below b1)).mono ?_
      rintro e w2 ⟨rfl, k2⟩
      have b2 := b1.trans (k2.mono b1.size)
      go_wp2_with fail
      refine (H3.out _ (h.below b2)).mono ?_
      rintro e w3 ⟨rfl, k3⟩
      have b3 := b2.trans (k3.mono b2.size)
      go_wp2_with fail
      refine (H4.out _ (h.below b3)).mono ?_
      rintro e w4 ⟨rfl, k4⟩
      have b4 := b3.trans (k4.mono b3.size)
      go_wp2_with fail
      refine (H5.out _ (h.below b4)).mono ?_
      rintro e w5 ⟨rfl, k5⟩
      have b5 := b4.trans (k5.mono b4.size)
      go_wp2_with fail
      refine (H6.out _ (hE.below b5)).mono ?_
      rintro e w6 ⟨rfl, k6⟩
      have b6 := b5.trans (k6.mono b5.size)
      go_wp2
      go_ret
      exact ⟨rfl, b6⟩
  · have hgt : decide ((60 : Int) < (l.length : Int)) = true := decide_eq_true (by omega)
    have hgt2 : (60 : Int) < (l.length : Int) := by omega
    go_enter Tryd.func6, Tryd.ntmps6
    go_wp2
    go_ret
    exact ⟨rfl, Below.refl _ _⟩

end Go.Proofs.YtlfeholphngilaaDoor.regionRights
