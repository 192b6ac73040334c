/- The reference's Seal and Open at every text. -/
import Derived.Test.YtonignmhmfhnfaaDoorRefCrc
import Derived.Test.YtonignmhmfhnfaaDoorCrcSeal
namespace Go.Proofs.YtonignmhmfhnfaaDoor
open Go.RowKit

theorem four_back (W : World) (c : Nat) (h : c < 4294967296) :
    (convert 36 9 (.slice (some ⟨W.heap.size, 0, none⟩) 4 4)).run Tryd.prog (W.alloc (.cells #[.int .u8 ((c : Int) % 256), .int .u8 ((c : Int) / 256 % 256), .int .u8 ((c : Int) / 65536 % 256), .int .u8 ((c : Int) / 65536 / 256)] 5)) = .ok (.string ⟨(le4 c).toArray⟩) (W.alloc (.cells #[.int .u8 ((c : Int) % 256), .int .u8 ((c : Int) / 256 % 256), .int .u8 ((c : Int) / 65536 % 256), .int .u8 ((c : Int) / 65536 / 256)] 5)) := by
  have e0 : (c : Int) % 256 = (((UInt8.ofNat c).toNat : Nat) : Int) := by rw [UInt8.toNat_ofNat']; omega
  have e1 : (c : Int) / 256 % 256 = (((UInt8.ofNat (c / 256)).toNat : Nat) : Int) := by rw [UInt8.toNat_ofNat']; omega
  have e2 : (c : Int) / 65536 % 256 = (((UInt8.ofNat (c / 65536)).toNat : Nat) : Int) := by rw [UInt8.toNat_ofNat']; omega
  have e3 : (c : Int) / 65536 / 256 = (((UInt8.ofNat (c / 16777216)).toNat : Nat) : Int) := by rw [UInt8.toNat_ofNat']; omega
  rw [e0, e1, e2, e3]
  exact run_convert_bytes_back (P := Tryd.prog) _ 36 9 5 ⟨W.heap.size, 0, none⟩ 4 (le4 c) Tryd.underlying36 Tryd.underlying5 Tryd.underlying9 (fun j hj => by
    rw [Addr.add_lit, Nat.zero_add, World.cell?_alloc_at _ _ _ _ rfl]
    have hj4 : j = 0 ∨ j = 1 ∨ j = 2 ∨ j = 3 := by simp [le4] at hj; omega
    rcases hj4 with rfl | rfl | rfl | rfl <;> rfl)

theorem refSeal_any (s : ByteArray) (w : World) (hs : s.size ≤ 1000) :
    Calls Tryd.prog 9 #[.string s] w fun e w' => e = .returned (.string ⟨(sealL s.data.toList).toArray⟩) ∧ Below w.heap.size w w' := by
  have HS : Hid (∀ W, Calls Tryd.prog 7 #[.string s] W fun e w' => e = .returned (.int .u32 (csum s.data.toList : Nat)) ∧ Below W.heap.size W w') := fun W => refCrc_any s W hs
  have hc : csum s.data.toList < 4294967296 := csum_lt _
  obtain ⟨c, he⟩ : ∃ c, c = csum s.data.toList := ⟨_, rfl⟩
  have HE := Lib.hid (seal_bytes s c he)
  rw [← he] at HS hc
  clear he
  generalize sealL s.data.toList = z at *
  go_enter Tryd.func9, Tryd.ntmps9
  go_wp2_with fail
  refine (HS.out _).mono ?_
  rintro e w1 ⟨rfl, k1⟩
  go_wp2
  rw [four_back w1 c hc]
  simp only [Result.andThen]
  rw [Oper.upon_value]
  have hyl : (le4 c).length = 4 := rfl
  generalize le4 c = y at *
  go_wp2
  go_ret
  exact ⟨congrArg (fun x => Ending.returned (.string x)) HE.out, k1.alloc k1.size _⟩

theorem refOpen_short (s : ByteArray) (w : World) (hs : s.size < 4) :
    Calls Tryd.prog 4 #[.string s] w fun e w' => e = .returned (.tuple #[.string ⟨#[]⟩, .int .i64 7]) ∧ w = w' := by
  go_enter Tryd.func4, Tryd.ntmps4
  go_wp2
  go_ret2
  exact ⟨rfl, rfl⟩

theorem refOpen_ok (s : ByteArray) (w : World) (hs : 4 ≤ s.size) (hm : s.size ≤ 1000) (ho : sealedB s.data.toList = true) :
    Calls Tryd.prog 4 #[.string s] w fun e w' => e = .returned (.tuple #[.string (s.extract 0 (s.size - 4)), .int .i64 0]) ∧ Below w.heap.size w w' := by
  have he := extract_front s
  have hsz : s.data.toList.length = s.size := by simp
  have hb := sealedB_eq s.data.toList (by omega)
  rw [ho, hsz] at hb
  rw [hsz] at he
  have HS : Hid (∀ W, Calls Tryd.prog 9 #[.string (s.extract 0 (s.size - 4))] W fun e w' => e = .returned (.string s) ∧ Below W.heap.size W w') := fun W => by
    have h := refSeal_any (s.extract 0 (s.size - 4)) W (by rw [ByteArray.size_extract]; omega)
    rw [he] at h
    have h2 : (⟨(sealL (s.data.toList.take (s.size - 4))).toArray⟩ : ByteArray) = s := by
      rw [beq_iff_eq.1 hb.symm]
    rw [h2] at h
    exact h
  clear he hsz hb ho
  go_enter Tryd.func4, Tryd.ntmps4
  go_wp2_with fail
  refine (HS.out _).mono ?_
  rintro e w' ⟨rfl, hb⟩
  go_wp2
  go_ret2
  exact ⟨rfl, hb⟩

theorem refOpen_spoilt (s : ByteArray) (w : World) (hs : 4 ≤ s.size) (hm : s.size ≤ 1000) (ho : sealedB s.data.toList = false) :
    Calls Tryd.prog 4 #[.string s] w fun e w' => e = .returned (.tuple #[.string ⟨#[]⟩, .int .i64 15]) ∧ Below w.heap.size w w' := by
  have he := extract_front s
  have hsz : s.data.toList.length = s.size := by simp
  have hb := sealedB_eq s.data.toList (by omega)
  rw [ho, hsz] at hb
  rw [hsz] at he
  obtain ⟨z, hz, hne⟩ : ∃ z : ByteArray, (∀ W, Calls Tryd.prog 9 #[.string (s.extract 0 (s.size - 4))] W fun e w' => e = .returned (.string z) ∧ Below W.heap.size W w') ∧ (z.toList == s.toList) = false := by
    refine ⟨⟨(sealL (s.data.toList.take (s.size - 4))).toArray⟩, fun W => ?_, ?_⟩
    · have h := refSeal_any (s.extract 0 (s.size - 4)) W (by rw [ByteArray.size_extract]; omega)
      rw [he] at h
      exact h
    · rw [ByteArray.toList_eq, ByteArray.toList_eq]
      exact hb.symm
  have HS := Lib.hid hz
  clear he hsz hb ho hz
  go_enter Tryd.func4, Tryd.ntmps4
  go_wp2_with fail
  refine (HS.out _).mono ?_
  rintro e w' ⟨rfl, hb⟩
  go_wp2
  go_ret2
  exact ⟨rfl, hb⟩
end Go.Proofs.YtonignmhmfhnfaaDoor
