/- tlv.readHead, tlv.Read at every text. -/
import Derived.Test.YticjmjoiggnblaaDoorTlS
import Derived.Test.YticjmjoiggnblaaDoorNiS
import Derived.Test.YticjmjoiggnblaaDoorTlRd
import Derived.Test.YticjmjoiggnblaaDoorNumK
import Derived.Test.YticjmjoiggnblaaDoorRdZ
import Derived.Test.YticjmjoiggnblaaDoorErrA
namespace Go.Proofs.YticjmjoiggnblaaDoor
open Go.RowKit
attribute [local go_sem ↓] Go.wp_at_zero Go.wp_at_succ
set_option linter.unusedSimpArgs false
set_option linter.unusedVariables false
set_option maxRecDepth 100000

/-- Behind a head. -/
def hdS (l : List UInt8) (st : RSt) : RSt := if nmV l 0 st 2 / 512 = 0 ∧ nmV l 0 st 2 % 512 ≠ 0 then flR (nmS l 0 st 2) 3 st.1 else nmS l 0 st 2
theorem readHead_t {g : Nat} {s : ByteArray} (st : RSt) (w : World) (h : RdT w g s 0 st) (hp : st.1 ≤ s.size) (hb : s.size ≤ 281474976710656) :
    Calls Tryd.prog 52 #[.pointer (some ⟨g, 0, none⟩)] w fun e w' => e = .returned (.tuple #[.int .i64 (nmV s.data.toList 0 st 2 / 512 : Nat), .int .i64 (nmV s.data.toList 0 st 2 % 512 : Nat)]) ∧ RdT w' g s 0 (hdS s.data.toList st) ∧ w.grownBy w' (some g) := by
  have HA := Lib.hid (atT st w h)
  have HN := Lib.hid (numK_t st 2 (by decide) w h hp (by omega))
  have HF : Hid (∀ (W : World), RdT W g s 0 (nmS s.data.toList 0 st 2) → Calls Tryd.prog 83 #[.pointer (some ⟨g, 0, none⟩), .int .i64 3, .int .i64 (st.1 : Nat)] W fun e w' => e = .returned (.tuple #[]) ∧ RdT w' g s 0 (flR (nmS s.data.toList 0 st 2) 3 st.1) ∧ W.grownBy w' (some g)) := fun W h => fail_t _ 3 st.1 (by decide) W h
  have hlt : nmV s.data.toList 0 st 2 < 65536 := nmV_lt _ _ _ 2
  have e0 : ((0 : Nat) : Int) + (st.1 : Int) = ((st.1 : Nat) : Int) := by omega
  unfold hdS
  generalize nmS s.data.toList 0 st 2 = st1 at *
  generalize nmV s.data.toList 0 st 2 = n at *
  rw [e0] at HA
  generalize st.1 = p at *
  clear hp h e0
  obtain ⟨K, hK⟩ : ∃ K, n / 512 = K := ⟨_, rfl⟩
  obtain ⟨Z, hZ⟩ : ∃ Z, n % 512 = Z := ⟨_, rfl⟩
  have k1 : (n : Int) / 512 = (K : Int) := by omega
  have k2 : (n : Int).tdiv 512 = (K : Int) := by rw [Int.tdiv_eq_ediv_of_nonneg (by omega)]; omega
  have k3 : (n : Int).tmod 512 = (Z : Int) := by rw [Int.tmod_eq_emod_of_nonneg (by omega)]; omega
  have k4 : (n : Int) % 512 = (Z : Int) := by omega
  have k5 : (0 : Int) ≤ (K : Int) := by omega
  have k6 : (K : Int) < 128 := by omega
  rw [hK, hZ]
  clear hK hZ
  by_cases hk0 : K = 0
  · by_cases hz0 : Z = 0
    · rw [if_neg (fun q => q.2 hz0)]
      have d1 : ((K : Int) == 0) = true := by simp [hk0]
      have d2 : ((Z : Int) == 0) = true := by simp [hz0]
      have d3 : ((Z : Int) != 0) = false := by simp [hz0]
      clear HF hk0 hz0
      go_enter Tryd.func52, Tryd.ntmps52
      go_wp2_with fail
      refine HA.out.mono ?_
      rintro e w1 ⟨rfl, rfl⟩
      go_wp2_with fail
      refine HN.out.mono ?_
      rintro e w2 ⟨rfl, HR2, g2⟩
      go_wp2
      go_ret2
      exact ⟨rfl, HR2, g2⟩
    · rw [if_pos ⟨hk0, hz0⟩]
      have d1 : ((K : Int) == 0) = true := by simp [hk0]
      have d2 : ((Z : Int) == 0) = false := by simp [hz0]
      have d3 : ((Z : Int) != 0) = true := by simp [hz0]
      clear hk0 hz0
      go_enter Tryd.func52, Tryd.ntmps52
      go_wp2_with fail
      refine HA.out.mono ?_
      rintro e w1 ⟨rfl, rfl⟩
      go_wp2_with fail
      refine HN.out.mono ?_
      rintro e w2 ⟨rfl, HR2, g2⟩
      go_wp2_with fail
      refine (HF.out _ HR2).mono ?_
      rintro e w3 ⟨rfl, HR3, g3⟩
      go_wp2
      go_ret2
      exact ⟨rfl, HR3, grownBy_trans g2 g3⟩
  · rw [if_neg (fun q => hk0 q.1)]
    have d1 : ((K : Int) == 0) = false := by simp [hk0]
    clear HF hk0
    go_enter Tryd.func52, Tryd.ntmps52
    go_wp2_with fail
    refine HA.out.mono ?_
    rintro e w1 ⟨rfl, rfl⟩
    go_wp2_with fail
    refine HN.out.mono ?_
    rintro e w2 ⟨rfl, HR2, g2⟩
    go_wp2
    go_ret2
    exact ⟨rfl, HR2, g2⟩


end Go.Proofs.YticjmjoiggnblaaDoor
