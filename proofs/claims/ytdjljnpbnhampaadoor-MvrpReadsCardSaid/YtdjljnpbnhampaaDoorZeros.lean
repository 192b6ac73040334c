/- (*wire.Reader).Zeros at every argument. -/
import Derived.Test.YtdjljnpbnhampaaDoorLow
import Derived.Test.YtdjljnpbnhampaaDoorShelf
import Derived.Lib.TrimByte
namespace Go.Proofs.YtdjljnpbnhampaaDoor
open Go.RowKit

/-- How many noughts stand ahead. -/
def lead (l : List UInt8) : Nat := l.length - (Lib.trimLeftB l 0).length

theorem trim_le (l : List UInt8) : (Lib.trimLeftB l 0).length ≤ l.length := by
  induction l with
  | nil => exact Nat.le_refl _
  | cons b l ih =>
    show ((b :: l).dropWhile (· == 0)).length ≤ _
    have ih' : (l.dropWhile (· == 0)).length ≤ l.length := ih
    cases hb : (b == 0) with
    | true => simp only [List.dropWhile, hb, List.length_cons]; omega
    | false => simp only [List.dropWhile, hb, List.length_cons]; omega

theorem trim_drop (l : List UInt8) : Lib.trimLeftB l 0 = l.drop (lead l) := by
  induction l with
  | nil => rfl
  | cons b l ih =>
    have hl := trim_le l
    cases hb : (b == 0) with
    | true =>
      have e : Lib.trimLeftB (b :: l) 0 = Lib.trimLeftB l 0 := by
        show (b :: l).dropWhile (· == 0) = l.dropWhile (· == 0)
        simp only [List.dropWhile, hb]
      have e2 : lead (b :: l) = lead l + 1 := by unfold lead; rw [e, List.length_cons]; omega
      rw [e, e2, List.drop_succ_cons]
      exact ih
    | false =>
      have e : Lib.trimLeftB (b :: l) 0 = b :: l := by
        show (b :: l).dropWhile (· == 0) = b :: l
        simp only [List.dropWhile, hb]
      have e2 : lead (b :: l) = 0 := by unfold lead; rw [e]; omega
      rw [e, e2, List.drop_zero]

set_option maxHeartbeats 800000 in
/-- Zeros, nothing noted yet, only noughts are left. -/
theorem zeros_clean {g : Nat} {s : ByteArray} {a : Int} (w : World) (h : Rd w g s a none) (ha : 0 ≤ a) (hb : a + s.size ≤ 281474976710656) (hz : Lib.trimLeftB s.data.toList 0 = []) :
    Calls Tryd.prog 62 #[.pointer (some ⟨g, 0, none⟩)] w fun e w' => e = .returned (.bool true) ∧
      Rd w' g (s.extract s.size s.size) (a + s.size) none ∧ w.grownBy w' (some g) := by
  have h0 := h.c0
  go_enter Tryd.func62, Tryd.ntmps62
  go_wp2_with fail
  refine (Tryd.strings_TrimLeft_one s 0 (by decide) _).mono ?_
  rintro e w' ⟨rfl, rfl⟩
  rw [hz]
  go_wp2_with fail
  refine (bytes_read s.size _ h (Nat.le_refl _) ha hb).mono ?_
  rintro e w2 ⟨rfl, hr, hg⟩
  have h2 := hr.c2
  go_wp2
  go_ret
  exact ⟨rfl, hr, hg⟩

set_option maxHeartbeats 800000 in
/-- Zeros, nothing noted yet, something else is left, too. -/
theorem zeros_spoilt {g : Nat} {s : ByteArray} {a : Int} (w : World) (h : Rd w g s a none) (ha : 0 ≤ a) (hb : a + s.size ≤ 281474976710656) (hz : Lib.trimLeftB s.data.toList 0 ≠ []) :
    Calls Tryd.prog 62 #[.pointer (some ⟨g, 0, none⟩)] w fun e w' => e = .returned (.bool false) ∧
      ∃ p, w.heap.size ≤ p ∧ Rd w' g (s.extract (lead s.data.toList) s.size) (a + lead s.data.toList) (some ⟨p, 0, none⟩) ∧ Flt w' p 15 (a + lead s.data.toList) ∧ w.grownBy w' (some g) := by
  have h0 := h.c0
  have hle := trim_le s.data.toList
  have hsz : s.data.toList.length = s.size := by simp
  have hld : lead s.data.toList = s.size - (Lib.trimLeftB s.data.toList 0).length := by unfold lead; rw [hsz]
  have hne : (Lib.trimLeftB s.data.toList 0).isEmpty = false := by
    cases hq : Lib.trimLeftB s.data.toList 0 with
    | nil => exact absurd hq hz
    | cons b r => rfl
  rw [hsz] at hle
  have HD := Lib.hid hld
  have HE := Lib.hid hne
  clear hld hsz hne hz
  go_enter Tryd.func62, Tryd.ntmps62
  go_wp2_with fail
  refine (Tryd.strings_TrimLeft_one s 0 (by decide) _).mono ?_
  rintro e w' ⟨rfl, hw⟩
  subst hw
  generalize Lib.trimLeftB s.data.toList 0 = t at *
  obtain ⟨k, hk⟩ : ∃ k, k = lead s.data.toList := ⟨_, rfl⟩
  rw [← hk] at HD
  have HK := Lib.hid hk
  clear hk
  go_wp2_with fail
  rw [show (s.size : Int) - t.length = ((k : Nat) : Int) by rw [HD.out]; omega]
  refine (bytes_read k _ h (by rw [HD.out]; omega) ha hb).mono ?_
  rintro e w2 ⟨rfl, hr, hg⟩
  have h1 := hr.c1
  have h2 := HE.out
  go_wp2_with fail
  refine (fail_first _ _ _ hr).mono ?_
  rintro e w3 ⟨rfl, hr3, hf3, hg3⟩
  have h3 := hr3.c2
  have hg' := grownBy_trans hg hg3
  have hs := hg.size
  go_wp2
  go_ret
  rw [← HK.out]
  exact ⟨rfl, _, hs, hr3, hf3, hg'⟩

/-- Zeros, something noted already. -/
theorem zeros_noted {g : Nat} {s : ByteArray} {a : Int} {p : Addr} (w : World) (h : Rd w g s a (some p)) :
    Calls Tryd.prog 62 #[.pointer (some ⟨g, 0, none⟩)] w fun e w' => e = .returned (.bool false) ∧ w = w' := by
  have h0 := h.c0
  have h1 := h.c1
  have h2 := h.c2
  go_enter Tryd.func62, Tryd.ntmps62
  go_wp2_with fail
  refine (Tryd.strings_TrimLeft_one s 0 (by decide) _).mono ?_
  rintro e w' ⟨rfl, hw⟩
  subst hw
  go_wp2_with fail
  refine (bytes_noted _ _ h).mono ?_
  rintro e w2 ⟨rfl, rfl⟩
  cases hq : Lib.trimLeftB s.data.toList 0 with
  | nil =>
    go_wp2
    go_ret
    exact ⟨rfl, rfl⟩
  | cons b r =>
    go_wp2_with fail
    refine (fail_noted _ _ _ h).mono ?_
    rintro e w2 ⟨rfl, rfl⟩
    go_wp2
    go_ret
    exact ⟨rfl, rfl⟩

end Go.Proofs.YtdjljnpbnhampaaDoor
