/- switchyardkeep.CrcBack returns true at every text, and changes nothing that was there. -/
import Derived.Test.YtonignmhmfhnfaaCrcSeal
namespace Go.Proofs.Ytonignmhmfhnfaa.crcBack
open Go.RowKit

theorem sealL_length (l : List UInt8) : (sealL l).length = l.length + 4 := by simp [sealL, le4]

theorem sealed_sealL (l : List UInt8) : sealedB (sealL l) = true := by
  have h : (sealL l).length - 4 = l.length := by rw [sealL_length]; omega
  rw [sealedB_eq _ (by rw [sealL_length]; omega), h, beq_iff_eq]
  show sealL (List.take l.length (l ++ le4 (csum l))) = _
  rw [List.take_left' rfl]

theorem front_sealL (s z : ByteArray) (h : z = ⟨(sealL s.data.toList).toArray⟩) : z.extract 0 (z.size - 4) = s := by
  apply ByteArray.ext
  apply Array.toList_inj.1
  rw [extract_front, h]
  show List.take ((sealL s.data.toList).length - 4) (sealL s.data.toList) = _
  rw [sealL_length, Nat.add_sub_cancel]
  show List.take s.data.toList.length (s.data.toList ++ le4 (csum s.data.toList)) = _
  rw [List.take_left' rfl]

theorem walk (s : ByteArray) (w : World) :
    Calls Try.prog 3 #[.string s] w fun e w' => e = .returned (.bool true) ∧ Below w.heap.size w w' := by
  by_cases hs : s.size ≤ 300
  · have hgt : decide ((300 : Int) < (s.size : Int)) = false := decide_eq_false (by omega)
    obtain ⟨z, hz, hzs⟩ : ∃ z : ByteArray, z = ⟨(sealL s.data.toList).toArray⟩ ∧ z.size = s.size + 4 := ⟨_, rfl, by show (sealL s.data.toList).length = _; rw [sealL_length]; simp⟩
    have H1 : Hid (∀ W, Calls Try.prog 9 #[.string s] W fun e w' => e = .returned (.string z) ∧ Below W.heap.size W w') := fun W => by rw [hz]; exact seal_any s W (by omega)
    have H2 : Hid (∀ W, Calls Try.prog 8 #[.string z] W fun e w' => e = .returned (.tuple #[.string s, .nilIface]) ∧ Below W.heap.size W w') := fun W => by
      have h := open_ok z W (by omega) (by omega) (by rw [hz]; exact sealed_sealL _)
      rw [front_sealL s z hz] at h
      exact h
    have hq : (s.toList == s.toList) = true := beq_iff_eq.2 rfl
    clear hzs hz
    go_enter Try.func3, Try.ntmps3
    go_wp2_with fail
    refine (summed_any _).mono ?_
    rintro e w1 ⟨rfl, k1⟩
    go_wp2_with fail
    refine (H1.out _).mono ?_
    rintro e w2 ⟨rfl, k2⟩
    have b2 := k1.trans (k2.mono k1.size)
    clear k1 k2
    go_wp2_with fail
    refine (H2.out _).mono ?_
    rintro e w3 ⟨rfl, k3⟩
    have b3 := b2.trans (k3.mono b2.size)
    clear b2 k3 H1 H2
    go_wp2_with fail
    by_cases h4 : s.size < 4
    · refine (open_short s _ h4).mono ?_
      rintro e w4 ⟨rfl, rfl⟩
      go_wp2
      go_ret
      exact ⟨rfl, b3⟩
    · cases ho : sealedB s.data.toList with
      | false =>
        refine (open_spoilt s _ (by omega) (by omega) ho).mono ?_
        rintro e w4 ⟨rfl, k4⟩
        have b4 := b3.trans (k4.mono b3.size)
        go_wp2
        go_ret
        exact ⟨rfl, b4⟩
      | true =>
        have he := extract_front s
        have hsz : s.data.toList.length = s.size := by simp
        have hb := sealedB_eq s.data.toList (by omega)
        rw [ho, hsz] at hb
        rw [hsz] at he
        have HS : Hid (∀ W, Calls Try.prog 9 #[.string (s.extract 0 (s.size - 4))] W fun e w' => e = .returned (.string s) ∧ Below W.heap.size W w') := fun W => by
          have h := seal_any (s.extract 0 (s.size - 4)) W (by rw [ByteArray.size_extract]; omega)
          rw [he] at h
          have h2 : (⟨(sealL (s.data.toList.take (s.size - 4))).toArray⟩ : ByteArray) = s := by
            rw [beq_iff_eq.1 hb.symm]
          rw [h2] at h
          exact h
        clear he hsz hb
        refine (open_ok s _ (by omega) (by omega) ho).mono ?_
        rintro e w4 ⟨rfl, k4⟩
        have b4 := b3.trans (k4.mono b3.size)
        clear ho b3 k4
        go_wp2_with fail
        refine (HS.out _).mono ?_
        rintro e w5 ⟨rfl, k5⟩
        have b5 := b4.trans (k5.mono b4.size)
        go_wp2
        go_ret
        exact ⟨rfl, b5⟩
  · have hgt : decide ((300 : Int) < (s.size : Int)) = true := decide_eq_true (by omega)
    go_enter Try.func3, Try.ntmps3
    go_wp2_with fail
    refine (summed_any _).mono ?_
    rintro e w1 ⟨rfl, k1⟩
    go_wp2
    go_ret
    exact ⟨rfl, k1⟩
end Go.Proofs.Ytonignmhmfhnfaa.crcBack
