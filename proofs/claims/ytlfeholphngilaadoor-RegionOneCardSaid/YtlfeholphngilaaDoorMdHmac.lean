/- md5.Hmac at every key and text. -/
import Derived.Test.YtlfeholphngilaaDoorMdSum
import Derived.Test.YtlfeholphngilaaDoorMdPadded
namespace Go.Proofs.YtlfeholphngilaaDoor
open Go.RowKit
attribute [local go_sem ↓] Go.wp_at_zero Go.wp_at_succ
set_option linter.unusedSimpArgs false
set_option linter.unusedVariables false
set_option maxRecDepth 100000


theorem keyL_short (k : List UInt8) (h : ¬ 64 < k.length) : keyL k = keyP k := by unfold keyL keyP; simp only [if_neg h]
theorem keyL_long (k : List UInt8) (h : 64 < k.length) : keyL k = keyP (md5L k) := by unfold keyL keyP; simp only [if_pos h]
theorem xorL_len (k : List UInt8) (x : UInt8) : (xorL k x).length = k.length := by unfold xorL; rw [List.length_map]

set_option maxHeartbeats 6400000 in
theorem mdHmac_any (key t : ByteArray) (hk : key.size ≤ 1000000) (ht : t.size ≤ 900000) (w : World) (HM : HasMd w) :
    Calls Tryd.prog 12 #[.string key, .string t] w fun e w' => e = .returned (.string ⟨(hmacL key.data.toList t.data.toList).toArray⟩) ∧ Below w.heap.size w w' := by
  have hS := Lib.hid (fun W HM => mdSum_any key hk W HM)
  have hkl : key.data.toList.length = key.size := by simp
  have main : ∀ (K : List UInt8), K.length ≤ 64 → keyL key.data.toList = keyP K → ∃ (P1 P2 A1 A2 M1 : ByteArray),
      (∀ W, Calls Tryd.prog 38 #[.string ⟨K.toArray⟩, .int .u8 92] W fun e w' => e = .returned (.string P1) ∧ Below W.heap.size W w') ∧
      (∀ W, Calls Tryd.prog 38 #[.string ⟨K.toArray⟩, .int .u8 54] W fun e w' => e = .returned (.string P2) ∧ Below W.heap.size W w') ∧
      (∀ W, (Op.stringOp .add P2 t).run Tryd.prog W = .ok (.string A2) W) ∧
      (∀ W, HasMd W → Calls Tryd.prog 10 #[.string A2] W fun e w' => e = .returned (.string M1) ∧ Below W.heap.size W w') ∧
      (∀ W, (Op.stringOp .add P1 M1).run Tryd.prog W = .ok (.string A1) W) ∧
      (∀ W, HasMd W → Calls Tryd.prog 10 #[.string A1] W fun e w' => e = .returned (.string ⟨(hmacL key.data.toList t.data.toList).toArray⟩) ∧ Below W.heap.size W w') := fun K hK hKL => by
    have hKs : (⟨K.toArray⟩ : ByteArray).size ≤ 64 := by show K.toArray.size ≤ 64; simpa using hK
    have hl : (keyP K).length = 64 := keyP_len K hK
    have htl : t.data.toList.length = t.size := by simp
    refine ⟨⟨(xorL (keyP K) 92).toArray⟩, ⟨(xorL (keyP K) 54).toArray⟩, ⟨(xorL (keyP K) 92 ++ md5L (xorL (keyP K) 54 ++ t.data.toList)).toArray⟩, ⟨(xorL (keyP K) 54 ++ t.data.toList).toArray⟩, ⟨(md5L (xorL (keyP K) 54 ++ t.data.toList)).toArray⟩, fun W => padded_any ⟨K.toArray⟩ 92 hKs W, fun W => padded_any ⟨K.toArray⟩ 54 hKs W, fun W => ?_, fun W H => ?_, fun W => ?_, fun W H => ?_⟩
    · have h := run_string_add_lists (P := Tryd.prog) W (xorL (keyP K) 54) t.data.toList (by rw [xorL_len]; omega) (by omega)
      rw [list_ba] at h
      exact h
    · exact mdSum_any ⟨(xorL (keyP K) 54 ++ t.data.toList).toArray⟩ (by show (xorL (keyP K) 54 ++ t.data.toList).toArray.size ≤ _; rw [List.size_toArray, List.length_append, xorL_len]; omega) W H
    · exact run_string_add_lists (P := Tryd.prog) W (xorL (keyP K) 92) (md5L (xorL (keyP K) 54 ++ t.data.toList)) (by rw [xorL_len]; omega) (by rw [md5L_len]; omega)
    · have h := mdSum_any ⟨(xorL (keyP K) 92 ++ md5L (xorL (keyP K) 54 ++ t.data.toList)).toArray⟩ (by show (xorL (keyP K) 92 ++ md5L (xorL (keyP K) 54 ++ t.data.toList)).toArray.size ≤ _; rw [List.size_toArray, List.length_append, xorL_len, md5L_len]; omega) W H
      unfold hmacL
      rw [hKL]
      exact h
  by_cases hc : key.size ≤ 64
  · obtain ⟨P1, P2, A1, A2, M1, h1, h2, hA2, h3, hA1, h4⟩ := main key.data.toList (by omega) (keyL_short _ (by omega))
    rw [list_ba] at h1 h2
    have H1 := Lib.hid h1
    have H2 := Lib.hid h2
    have H3 := Lib.hid h3
    have H4 := Lib.hid h4
    generalize hmacL key.data.toList t.data.toList = out at *
    have hd : decide ((64 : Int) < (key.size : Int)) = false := decide_eq_false (by omega)
    have hd2 : ¬ (64 : Int) < (key.size : Int) := by omega
    clear main h1 h2 h3 h4 hkl
    go_enter Tryd.func12, Tryd.ntmps12
    go_wp2_with fail
    refine (H1.out _).mono ?_
    rintro e w1 ⟨rfl, k1⟩
    go_wp2_with fail
    refine (H2.out _).mono ?_
    rintro e w2 ⟨rfl, k2⟩
    have B2 := k1.trans (k2.mono k1.size)
    go_wp2_with fail
    refine (H3.out _ (HM.below B2)).mono ?_
    rintro e w3 ⟨rfl, k3⟩
    have B3 := B2.trans (k3.mono B2.size)
    go_wp2_with fail
    refine (H4.out _ (HM.below B3)).mono ?_
    rintro e w4 ⟨rfl, k4⟩
    have B4 := B3.trans (k4.mono B3.size)
    go_wp2
    go_ret
    exact ⟨rfl, B4⟩
  · obtain ⟨P1, P2, A1, A2, M1, h1, h2, hA2, h3, hA1, h4⟩ := main (md5L key.data.toList) (by rw [md5L_len]; omega) (keyL_long _ (by omega))
    have H1 := Lib.hid h1
    have H2 := Lib.hid h2
    have H3 := Lib.hid h3
    have H4 := Lib.hid h4
    generalize hmacL key.data.toList t.data.toList = out at *
    have hd : decide ((64 : Int) < (key.size : Int)) = true := decide_eq_true (by omega)
    have hd2 : (64 : Int) < (key.size : Int) := by omega
    clear main h1 h2 h3 h4 hkl
    generalize (⟨(md5L key.data.toList).toArray⟩ : ByteArray) = k2 at *
    go_enter Tryd.func12, Tryd.ntmps12
    go_wp2_with fail
    refine (hS.out _ HM).mono ?_
    rintro e w0 ⟨rfl, k0⟩
    go_wp2_with fail
    refine (H1.out _).mono ?_
    rintro e w1 ⟨rfl, k1⟩
    have B1 := k0.trans (k1.mono k0.size)
    go_wp2_with fail
    refine (H2.out _).mono ?_
    rintro e w2 ⟨rfl, k2⟩
    have B2 := B1.trans (k2.mono B1.size)
    go_wp2_with fail
    refine (H3.out _ (HM.below B2)).mono ?_
    rintro e w3 ⟨rfl, k3⟩
    have B3 := B2.trans (k3.mono B2.size)
    go_wp2_with fail
    refine (H4.out _ (HM.below B3)).mono ?_
    rintro e w4 ⟨rfl, k4⟩
    have B4 := B3.trans (k4.mono B3.size)
    go_wp2
    go_ret
    exact ⟨rfl, B4⟩

end Go.Proofs.YtlfeholphngilaaDoor
