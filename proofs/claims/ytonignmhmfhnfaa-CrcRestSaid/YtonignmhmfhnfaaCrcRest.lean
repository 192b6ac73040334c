/- switchyardkeep.CrcRest returns true at every text, and changes nothing that was there. -/
import Derived.Test.YtonignmhmfhnfaaCrcSeal
namespace Go.Proofs.Ytonignmhmfhnfaa.crcRest
open Go.RowKit

theorem rest_val : csteps 32 cM ^^^ cM = 558161692 := by decide +kernel

theorem walk (s : ByteArray) (w : World) :
    Calls Try.prog 6 #[.string s] w fun e w' => e = .returned (.bool true) ∧ Below w.heap.size w w' := by
  by_cases hs : s.size ≤ 300
  · have hgt : decide ((300 : Int) < (s.size : Int)) = false := decide_eq_false (by omega)
    obtain ⟨z, hz, hzs⟩ : ∃ z : ByteArray, z = ⟨(sealL s.data.toList).toArray⟩ ∧ z.size = s.size + 4 := ⟨_, rfl, by show (sealL s.data.toList).length = _; simp [sealL, le4]⟩
    have H1 : Hid (∀ W, Calls Try.prog 9 #[.string s] W fun e w' => e = .returned (.string z) ∧ Below W.heap.size W w') := fun W => by rw [hz]; exact seal_any s W (by omega)
    have H2 : Hid (∀ W, Calls Try.prog 11 #[.string z] W fun e w' => e = .returned (.int .u32 558161692) ∧ W = w') := fun W => by
      have h := sum_any z W (by omega)
      have hc : csum z.data.toList = 558161692 := by
        rw [hz]
        show csum (sealL s.data.toList) = _
        unfold sealL
        rw [csum_sealed, rest_val]
      rw [hc] at h
      exact h
    clear hzs hz
    go_enter Try.func6, Try.ntmps6
    go_wp2_with fail
    refine (summed_any _).mono ?_
    rintro e w1 ⟨rfl, k1⟩
    go_wp2_with fail
    refine (H1.out _).mono ?_
    rintro e w2 ⟨rfl, k2⟩
    have b2 := k1.trans (k2.mono k1.size)
    clear k1 k2
    go_wp2_with fail
    refine (H2.out _).mono ?_
    rintro e w3 ⟨rfl, rfl⟩
    go_wp2
    go_ret
    exact ⟨rfl, b2⟩
  · have hgt : decide ((300 : Int) < (s.size : Int)) = true := decide_eq_true (by omega)
    go_enter Try.func6, Try.ntmps6
    go_wp2_with fail
    refine (summed_any _).mono ?_
    rintro e w1 ⟨rfl, k1⟩
    go_wp2
    go_ret
    exact ⟨rfl, k1⟩
end Go.Proofs.Ytonignmhmfhnfaa.crcRest
