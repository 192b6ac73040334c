/- The reference's Put, the document's own answer: bytesOf, Put, at every argument; and wire.Must. -/
import Derived.Test.YtiikdmempgmlnaaDoorLow
import Derived.Test.YtiikdmempgmlnaaDoorShelf
import Derived.Test.YtiikdmempgmlnaaDoorNum2
namespace Go.Proofs.YtiikdmempgmlnaaDoor
open Go.RowKit

theorem one_byte (W : World) (b : UInt8) :
    (convert 61 9 (.slice (some ⟨W.heap.size, 0, none⟩) 1 1)).run Tryd.prog (W.alloc (.cells #[.int .u8 (b.toNat : Int)] 5)) = .ok (.string ⟨#[b]⟩) (W.alloc (.cells #[.int .u8 (b.toNat : Int)] 5)) := by
  have h := run_convert_bytes_back (P := Tryd.prog) (W.alloc (.cells #[.int .u8 (b.toNat : Int)] 5)) 61 9 5 ⟨W.heap.size, 0, none⟩ 1 [b] Tryd.underlying61 Tryd.underlying5 Tryd.underlying9 (fun j hj => by
    have hj0 : j = 0 := by simp at hj; exact hj
    subst hj0
    rw [Addr.add_lit, World.cell?_alloc_at _ _ _ _ rfl]
    rfl)
  exact h

theorem one_digit (W : World) (y : Nat) :
    (convert 61 9 (.slice (some ⟨W.heap.size, 0, none⟩) 1 1)).run Tryd.prog (W.alloc (.cells #[.int .u8 ((y : Int) % 256)] 5)) = .ok (.string ⟨#[UInt8.ofNat (y % 256)]⟩) (W.alloc (.cells #[.int .u8 ((y : Int) % 256)] 5)) := by
  have e : ((y : Int) % 256) = ((UInt8.ofNat (y % 256)).toNat : Int) := by rw [UInt8.toNat_ofNat', Nat.mod_mod]; omega
  rw [e]
  exact one_byte W _

set_option maxHeartbeats 800000 in
set_option maxRecDepth 100000 in
theorem bytesOf_any (X n : Nat) (w : World) (h8 : n ≤ 8) (HX : Hid (X ≤ 18446744073709551615)) :
    Calls Tryd.prog 31 #[.int .u64 X, .int .i64 n] w fun e w' => e = .returned (.string ⟨(putL X n).toArray⟩) ∧ Below w.heap.size w w' := by
  go_enter Tryd.func31, Tryd.ntmps31
  go_wp2
  go_loopw [0, 5, 7] (fun x s i wr => ∃ k : Nat, k ≤ n ∧ i = .int .i64 k ∧ x = .int .u64 ((X / 256 ^ k : Nat) : Int) ∧ s = .string ⟨(putL X k).toArray⟩ ∧ Below w.heap.size w wr) (fun _ _ i _ => n - (intOf i).toNat)
  case atStart => exact ⟨0, by omega, rfl, by simp, rfl, Below.refl _ _⟩
  case round =>
    obtain ⟨k, hk, rfl, rfl, rfl, hb⟩ := hrel
    have hlen := putL_length X k
    by_cases hlt : k < n
    · have HN : Hid (X / 256 ^ (k + 1) = X / 256 ^ k / 256) := by show _ = _; rw [Nat.pow_succ, Nat.div_div_eq_div_mul]
      have HP : Hid (putL X (k + 1) = UInt8.ofNat (X / 256 ^ k % 256) :: putL X k) := rfl
      have HY : Hid (X / 256 ^ k ≤ 18446744073709551615) := by show _ ≤ _; exact Nat.le_trans (Nat.div_le_self _ _) HX.out
      generalize X / 256 ^ k = y at *
      have hob := one_digit wr y
      go_wp2
      go_roundw
      case rel =>
        refine ⟨k + 1, by omega, by go_num, ?_, ?_, ?_⟩
        · have hy : y ≤ 18446744073709551615 := HY.out
          have e : IntKind.u64.wrap ((y : Int) / 256) = ((y / 256 : Nat) : Int) := by rw [IntKind.wrap_u64]; omega
          rw [HN.out, e]
        · rw [HP.out]
          congr 1
        · exact hb.alloc hb.size _
      case measure => simp [intOf]; omega
    · obtain rfl : k = n := by omega
      go_wp2
      go_ret
      exact ⟨rfl, hb⟩

theorem within_yes (n : Int) (w : World) (h1 : 1 ≤ n) (h8 : n ≤ 8) :
    Calls Tryd.prog 30 #[.int .i64 n, .int .i64 1, .int .i64 8] w fun e w' => e = .returned (.bool true) ∧ w = w' := by
  have hd8 : decide (n ≤ 8) = true := decide_eq_true h8
  go_enter Tryd.func30, Tryd.ntmps30
  go_wp2
  go_ret
  exact ⟨rfl, rfl⟩

theorem within_no (n : Int) (w : World) (h : n < 1 ∨ 8 < n) :
    Calls Tryd.prog 30 #[.int .i64 n, .int .i64 1, .int .i64 8] w fun e w' => e = .returned (.bool false) ∧ w = w' := by
  by_cases h1 : 1 ≤ n
  · have hd8 : decide (n ≤ 8) = false := decide_eq_false (by omega)
    go_enter Tryd.func30, Tryd.ntmps30
    go_wp2
    go_ret
    exact ⟨rfl, rfl⟩
  · go_enter Tryd.func30, Tryd.ntmps30
    go_wp2
    go_ret
    exact ⟨rfl, rfl⟩

theorem refPut_range (x n : Int) (w : World) (h : n < 1 ∨ 8 < n) :
    Calls Tryd.prog 9 #[.int .u64 x, .int .i64 n] w fun e w' => e = .returned (.tuple #[.string ⟨#[]⟩, .int .i64 2]) ∧ w = w' := by
  go_enter Tryd.func9, Tryd.ntmps9
  go_wp2_with (go_at_call 30; refine (within_no _ _ h).mono ?_; rintro e w' ⟨rfl, rfl⟩)
  go_ret2
  exact ⟨rfl, rfl⟩

set_option maxHeartbeats 800000 in
theorem refPut_full (X n : Nat) (w : World) (h1 : 1 ≤ n) (h8 : n ≤ 8) (HX : Hid (X ≤ 18446744073709551615)) (hf : ¬ X < 256 ^ n) :
    Calls Tryd.prog 9 #[.int .u64 X, .int .i64 n] w fun e w' => e = .returned (.tuple #[.string ⟨#[]⟩, .int .i64 12]) ∧ Below w.heap.size w w' := by
  have HF := Lib.hid hf
  clear hf
  go_enter Tryd.func9, Tryd.ntmps9
  go_wp2_with fail
  refine (within_yes _ _ (by omega) (by omega)).mono ?_
  rintro e w1 ⟨rfl, rfl⟩
  go_wp2_with fail
  refine (bytesOf_any X 8 _ (by omega) HX).mono ?_
  rintro e w1 ⟨rfl, hb⟩
  have hlen := putL_length X 8
  have ht : Lib.trimB ((⟨(putL X 8).toArray⟩ : ByteArray).extract 0 (8 - n)).data.toList 0 ≠ [] := by
    rw [extract_list]
    show Lib.trimB (((putL X 8).drop 0).take (8 - n - 0)) 0 ≠ []
    rw [List.drop_zero, Nat.sub_zero]
    intro h
    have hX : X ≤ 18446744073709551615 := HX.out
    exact HF.out ((trim_fits X 8 n h8 (by omega)).1 h)
  have HT := Lib.hid ht
  clear ht
  go_wp2_with fail
  refine (Tryd.strings_Trim_one _ 0 (by decide) _ (by rw [ByteArray.size_extract]; omega)).mono ?_
  rintro e w2 ⟨rfl, hw⟩
  have hb2 : Below w.heap.size w w2 := by
    rcases hw with rfl | rfl
    · exact hb
    · exact hb.drew
  clear hw hb
  cases hq : Lib.trimB ((⟨(putL X 8).toArray⟩ : ByteArray).extract 0 (8 - n)).data.toList 0 with
  | nil => exact absurd hq HT.out
  | cons b l =>
    clear hq HT
    go_wp2
    go_ret2
    exact ⟨rfl, hb2⟩

set_option maxHeartbeats 800000 in
theorem refPut_fits (X n : Nat) (w : World) (h1 : 1 ≤ n) (h8 : n ≤ 8) (HX : Hid (X ≤ 18446744073709551615)) (hf : X < 256 ^ n) :
    Calls Tryd.prog 9 #[.int .u64 X, .int .i64 n] w fun e w' => e = .returned (.tuple #[.string ⟨(putL X n).toArray⟩, .int .i64 0]) ∧ Below w.heap.size w w' := by
  have HF := Lib.hid hf
  clear hf
  go_enter Tryd.func9, Tryd.ntmps9
  go_wp2_with fail
  refine (within_yes _ _ (by omega) (by omega)).mono ?_
  rintro e w1 ⟨rfl, rfl⟩
  go_wp2_with fail
  refine (bytesOf_any X 8 _ (by omega) HX).mono ?_
  rintro e w1 ⟨rfl, hb⟩
  have hlen := putL_length X 8
  have ht : Lib.trimB ((⟨(putL X 8).toArray⟩ : ByteArray).extract 0 (8 - n)).data.toList 0 = [] := by
    rw [extract_list]
    show Lib.trimB (((putL X 8).drop 0).take (8 - n - 0)) 0 = []
    rw [List.drop_zero, Nat.sub_zero]
    have hX : X ≤ 18446744073709551615 := HX.out
    exact (trim_fits X 8 n h8 (by omega)).2 HF.out
  have HT := Lib.hid ht
  clear ht
  have HE : Hid ((⟨(putL X 8).toArray⟩ : ByteArray).extract (8 - n) 8 = ⟨(putL X n).toArray⟩) := by
    show _ = _
    apply ByteArray.ext
    apply Array.toList_inj.1
    rw [extract_list]
    show ((putL X 8).drop (8 - n)).take (8 - (8 - n)) = putL X n
    rw [putL_drop X 8 n h8, List.take_of_length_le (by rw [putL_length]; omega)]
  go_wp2_with fail
  refine (Tryd.strings_Trim_one _ 0 (by decide) _ (by rw [ByteArray.size_extract]; omega)).mono ?_
  rintro e w2 ⟨rfl, hw⟩
  have hb2 : Below w.heap.size w w2 := by
    rcases hw with rfl | rfl
    · exact hb
    · exact hb.drew
  clear hw hb
  rw [HT.out]
  go_wp2
  rw [HE.out]
  go_ret2
  exact ⟨rfl, hb2⟩
end Go.Proofs.YtiikdmempgmlnaaDoor
