/- switchyardkeep.Md5Keys returns true at every key and text, and changes nothing that was there. -/
import Derived.Test.YtlfeholphngilaaDoorMarked
namespace Go.Proofs.YtlfeholphngilaaDoor.md5Keys
open Go.RowKit
attribute [local go_sem ↓] Go.wp_at_zero Go.wp_at_succ
set_option linter.unusedSimpArgs false
set_option linter.unusedVariables false
set_option maxRecDepth 100000

theorem key_zero (k : List UInt8) (h : k.length < 64) : keyL (k ++ [0]) = keyL k := by
  rw [keyL_short (k ++ [0]) (by rw [List.length_append]; show ¬ 64 < k.length + 1; omega), keyL_short k (by omega)]
  unfold keyP
  rw [List.length_append, List.append_assoc, show 64 - k.length = (64 - (k.length + [(0 : UInt8)].length)) + 1 by show _ = 64 - (k.length + 1) + 1; omega, List.replicate_succ]
  rfl
theorem hmac_key {k m : List UInt8} (h : keyL k = keyL m) (l : List UInt8) : hmacL k l = hmacL m l := by unfold hmacL; rw [h]
theorem key_long (k : List UInt8) (h : 64 < k.length) : keyL (md5L k) = keyL k := by
  rw [keyL_long k h, keyL_short _ (by rw [md5L_len]; omega)]
set_option maxHeartbeats 3200000 in
theorem walk (key s : ByteArray) (w : World) (HM : HasMd w) (hk0 : key.size ≤ 140737488355328) (hs0 : s.size ≤ 140737488355328) :
    Calls Tryd.prog 4 #[.string key, .string s] w fun e w' => e = .returned (.bool true) ∧ Below w.heap.size w w' := by
  have hwr : IntKind.i64.wrap ((key.size : Int) + (s.size : Int)) = (key.size : Int) + (s.size : Int) := by rw [IntKind.wrap_i64] <;> omega
  have H0 := Lib.hid (fun W HM => marked_any W HM)
  have hkl : key.data.toList.length = key.size := by simp
  by_cases hs : key.size + s.size ≤ 500
  · have hgt : decide ((500 : Int) < (key.size : Int) + (s.size : Int)) = false := decide_eq_false (by omega)
    have hgt2 : ¬ (500 : Int) < (key.size : Int) + (s.size : Int) := by omega
    have H1 := Lib.hid (fun W HM => mdHmac_any key s (by omega) (by omega) W HM)
    by_cases hc : 64 < key.size
    · have hd : decide ((64 : Int) < (key.size : Int)) = true := decide_eq_true (by omega)
      have hd2 : (64 : Int) < (key.size : Int) := by omega
      have H2 := Lib.hid (fun W HM => mdSum_any key (by omega) W HM)
      have H3 := Lib.hid (fun W HM => mdHmac_any ⟨(md5L key.data.toList).toArray⟩ s (by show (md5L key.data.toList).toArray.size ≤ _; rw [List.size_toArray, md5L_len]; omega) (by omega) W HM)
      rw [show (⟨(md5L key.data.toList).toArray⟩ : ByteArray).data.toList = md5L key.data.toList from rfl, hmac_key (key_long _ (by omega))] at H3
      generalize (⟨(hmacL key.data.toList s.data.toList).toArray⟩ : ByteArray) = y at *
      generalize (⟨(md5L key.data.toList).toArray⟩ : ByteArray) = k2 at *
      have hq2 : (y.toList == y.toList) = true := beq_iff_eq.2 rfl
      clear hs hc hkl hk0 hs0
      go_enter Tryd.func4, Tryd.ntmps4
      go_wp2_with fail
      refine (H0.out _ HM).mono ?_
      rintro e w1 ⟨rfl, k1⟩
      have b1 := k1
      go_wp2_with fail
      refine (H1.out _ (HM.below b1)).mono ?_
      rintro e w2 ⟨rfl, k2⟩
      have b2 := b1.trans (k2.mono b1.size)
      go_wp2_with fail
      refine (H2.out _ (HM.below b2)).mono ?_
      rintro e w3 ⟨rfl, k3⟩
      have b3 := b2.trans (k3.mono b2.size)
      go_wp2_with fail
      refine (H3.out _ (HM.below b3)).mono ?_
      rintro e w4 ⟨rfl, k4⟩
      have b4 := b3.trans (k4.mono b3.size)
      go_wp2
      go_ret
      exact ⟨rfl, b4⟩
    · have hd : decide ((64 : Int) < (key.size : Int)) = false := decide_eq_false (by omega)
      have hd2 : ¬ (64 : Int) < (key.size : Int) := by omega
      by_cases h64 : key.size = 64
      · have he : ((key.size : Int) == 64) = true := by rw [h64]; rfl
        clear hs hc hkl hk0 hs0 h64
        go_enter Tryd.func4, Tryd.ntmps4
        go_wp2_with fail
        refine (H0.out _ HM).mono ?_
        rintro e w1 ⟨rfl, k1⟩
        have b1 := k1
        go_wp2
        go_ret
        exact ⟨rfl, b1⟩
      · have he : ((key.size : Int) == 64) = false := by rw [beq_eq_false_iff_ne]; omega
        have hadd : ∀ W, (Op.stringOp .add key ⟨#[0]⟩).run Tryd.prog W = .ok (.string ⟨(key.data.toList ++ [0]).toArray⟩) W := fun W => by
          have h := run_string_add_lists (P := Tryd.prog) W key.data.toList [0] (by omega) (by simp)
          rw [list_ba] at h
          exact h
        have H3 : Hid (∀ W, HasMd W → Calls Tryd.prog 12 #[.string ⟨(key.data.toList ++ [0]).toArray⟩, .string s] W fun e w' => e = .returned (.string ⟨(hmacL key.data.toList s.data.toList).toArray⟩) ∧ Below W.heap.size W w') := fun W HM => by
          have h := mdHmac_any ⟨(key.data.toList ++ [0]).toArray⟩ s (by show (key.data.toList ++ [0]).toArray.size ≤ _; rw [List.size_toArray, List.length_append]; show key.data.toList.length + 1 ≤ _; omega) (by omega) W HM
          rw [← hmac_key (key_zero key.data.toList (by omega))]
          exact h
        generalize (⟨(hmacL key.data.toList s.data.toList).toArray⟩ : ByteArray) = y at *
        generalize (⟨(key.data.toList ++ [0]).toArray⟩ : ByteArray) = k2 at *
        have hq2 : (y.toList == y.toList) = true := beq_iff_eq.2 rfl
        clear hs hc hkl hk0 hs0 h64
        go_enter Tryd.func4, Tryd.ntmps4
        go_wp2_with fail
        refine (H0.out _ HM).mono ?_
        rintro e w1 ⟨rfl, k1⟩
        have b1 := k1
        go_wp2_with fail
        refine (H1.out _ (HM.below b1)).mono ?_
        rintro e w2 ⟨rfl, k2⟩
        have b2 := b1.trans (k2.mono b1.size)
        go_wp2_with fail
        refine (H3.out _ (HM.below b2)).mono ?_
        rintro e w3 ⟨rfl, k3⟩
        have b3 := b2.trans (k3.mono b2.size)
        go_wp2
        go_ret
        exact ⟨rfl, b3⟩
  · have hgt : decide ((500 : Int) < (key.size : Int) + (s.size : Int)) = true := decide_eq_true (by omega)
    have hgt2 : (500 : Int) < (key.size : Int) + (s.size : Int) := by omega
    clear hs hkl hk0 hs0
    go_enter Tryd.func4, Tryd.ntmps4
    go_wp2_with fail
    refine (H0.out _ HM).mono ?_
    rintro e w1 ⟨rfl, k1⟩
    have b1 := k1
    go_wp2
    go_ret
    exact ⟨rfl, b1⟩

end Go.Proofs.YtlfeholphngilaaDoor.md5Keys
