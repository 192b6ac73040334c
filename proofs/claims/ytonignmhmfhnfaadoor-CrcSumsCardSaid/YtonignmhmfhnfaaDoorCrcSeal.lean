/- bits.ReverseBytes32, wire.Must, crc.Seal, crc.Open at every argument. -/
import Derived.Test.YtonignmhmfhnfaaDoorCrcSum
import Derived.Test.YtonignmhmfhnfaaDoorMust
import Derived.Lib.Strings
namespace Go.Proofs.YtonignmhmfhnfaaDoor
open Go.RowKit

/-- A number's four bytes, the other way round. -/
def revN (X : Nat) : Nat := X % 256 * 16777216 + X / 256 % 256 * 65536 + X / 65536 % 256 * 256 + X / 16777216

theorem pair_mask (x : Nat) : x &&& 16711935 = x / 65536 % 256 * 65536 + x % 256 := by
  have h1 : x &&& 16711680 = x % 16777216 / 65536 * 65536 := nat_midmask 24 16 x (by decide)
  have h2 : x &&& 255 = x % 256 := nat_mask8 x
  rw [show (16711935 : Nat) = 16711680 ||| 255 from rfl, Nat.and_or_distrib_left, h1, h2, nat_join16 _ _ (by omega) (by omega)]
  omega

theorem shuffle (p q r t : Nat) : p + q + (r + t) = q + p + t + r := by omega

set_option maxRecDepth 100000 in
theorem rev_half (X : Nat) (h : X < 4294967296) : bits BinOp.or IntKind.u32 (bits BinOp.and IntKind.u32 ((X : Int) / 256) 16711935) (bits BinOp.and IntKind.u32 (X : Int) 16711935 * 256 % 4294967296) =
    ((X / 16777216 * 65536 + X / 65536 % 256 * 16777216 + X / 256 % 256 + X % 256 * 256 : Nat) : Int) := by
  have e1 : (X : Int) / 256 = ((X / 256 : Nat) : Int) := by omega
  have a1 : X / 256 &&& 16711935 = X / 16777216 * 65536 + X / 256 % 256 := by rw [pair_mask]; omega
  have a2 : X &&& 16711935 = X / 65536 % 256 * 65536 + X % 256 := pair_mask X
  rw [e1, show (16711935 : Int) = ((16711935 : Nat) : Int) from rfl, u32_and_nat _ _ (by omega) (by decide), u32_and_nat _ _ h (by decide), a1, a2]
  have e2 : ((X / 65536 % 256 * 65536 + X % 256 : Nat) : Int) * 256 % 4294967296 = ((X / 65536 % 256 * 16777216 + X % 256 * 256 : Nat) : Int) := by omega
  rw [e2, u32_or_nat _ _ (by omega) (by omega)]
  have b1 : X / 65536 % 256 * 16777216 + X % 256 * 256 = X / 65536 % 256 * 16777216 ||| X % 256 * 256 := (nat_join24 _ _ (by omega) (by omega)).symm
  have b2 : X / 16777216 * 65536 + X / 256 % 256 = X / 16777216 * 65536 ||| X / 256 % 256 := (nat_join16 _ _ (by omega) (by omega)).symm
  have b3 : (X / 16777216 * 65536 ||| X / 256 % 256) ||| (X / 65536 % 256 * 16777216 ||| X % 256 * 256) = (X / 65536 % 256 * 16777216 ||| X / 16777216 * 65536) ||| (X % 256 * 256 ||| X / 256 % 256) := by
    rw [Nat.or_assoc, Nat.or_assoc]
    rw [show X / 256 % 256 ||| (X / 65536 % 256 * 16777216 ||| X % 256 * 256) = X / 65536 % 256 * 16777216 ||| (X % 256 * 256 ||| X / 256 % 256) by ac_rfl]
    ac_rfl
  have c1 : X / 65536 % 256 * 16777216 ||| X / 16777216 * 65536 = X / 65536 % 256 * 16777216 + X / 16777216 * 65536 := nat_join24 _ _ (by omega) (by omega)
  have c2 : X % 256 * 256 ||| X / 256 % 256 = X % 256 * 256 + X / 256 % 256 := nat_join8 _ _ (by omega) (by omega)
  rw [b1, b2, b3, c1, c2, nat_join16 _ _ (by omega) (by omega)]
  refine congrArg (fun n : Nat => (n : Int)) ?_
  exact shuffle _ _ _ _

theorem rev_whole (X : Nat) (h : X < 4294967296) :
    bits BinOp.or IntKind.u32 (((X / 16777216 * 65536 + X / 65536 % 256 * 16777216 + X / 256 % 256 + X % 256 * 256 : Nat) : Int) / 65536) (((X / 16777216 * 65536 + X / 65536 % 256 * 16777216 + X / 256 % 256 + X % 256 * 256 : Nat) : Int) * 65536 % 4294967296) = ((revN X : Nat) : Int) := by
  have e1 : ((X / 16777216 * 65536 + X / 65536 % 256 * 16777216 + X / 256 % 256 + X % 256 * 256 : Nat) : Int) / 65536 = ((X / 65536 % 256 * 256 + X / 16777216 : Nat) : Int) := by omega
  have e2 : ((X / 16777216 * 65536 + X / 65536 % 256 * 16777216 + X / 256 % 256 + X % 256 * 256 : Nat) : Int) * 65536 % 4294967296 = ((X % 256 * 16777216 + X / 256 % 256 * 65536 : Nat) : Int) := by omega
  rw [e1, e2, u32_or_nat _ _ (by omega) (by omega), Nat.or_comm, nat_join16 _ _ (by omega) (by omega)]
  refine congrArg (fun n : Nat => (n : Int)) ?_
  unfold revN
  omega

theorem rev_any (X : Nat) (h : X < 4294967296) (w : World) :
    Calls Tryd.prog 12 #[.int .u32 X] w fun e w' => e = .returned (.int .u32 (revN X : Nat)) ∧ w = w' := by
  have H := Lib.hid h
  clear h
  go_enter Tryd.func12, Tryd.ntmps12
  go_wp2
  go_ret
  refine ⟨?_, rfl⟩
  show Ending.returned (.int .u32 (bits BinOp.or IntKind.u32 (bits BinOp.or IntKind.u32 (bits BinOp.and IntKind.u32 ((X : Int) / 256) 16711935) (bits BinOp.and IntKind.u32 (X : Int) 16711935 * 256 % 4294967296) / 65536) (bits BinOp.or IntKind.u32 (bits BinOp.and IntKind.u32 ((X : Int) / 256) 16711935) (bits BinOp.and IntKind.u32 (X : Int) 16711935 * 256 % 4294967296) * 65536 % 4294967296))) = _
  rw [rev_half X H.out, rev_whole X H.out]

theorem rev_lt (X : Nat) (h : X < 4294967296) : revN X < 4294967296 := by unfold revN; omega

theorem put_rev (X : Nat) (h : X < 4294967296) : putL (revN X) 4 = le4 X := by
  have h3 : X / 16777216 < 256 := by omega
  have h2 : X / 65536 % 256 < 256 := by omega
  have h1 : X / 256 % 256 < 256 := by omega
  have h0 : X % 256 < 256 := by omega
  have e1 : revN X / 16777216 % 256 = X % 256 := by unfold revN; generalize X % 256 = a at *; generalize X / 256 % 256 = b at *; generalize X / 65536 % 256 = c at *; generalize X / 16777216 = d at *; omega
  have e2 : revN X / 65536 % 256 = X / 256 % 256 := by unfold revN; generalize X % 256 = a at *; generalize X / 256 % 256 = b at *; generalize X / 65536 % 256 = c at *; generalize X / 16777216 = d at *; omega
  have e3 : revN X / 256 % 256 = X / 65536 % 256 := by unfold revN; generalize X % 256 = a at *; generalize X / 256 % 256 = b at *; generalize X / 65536 % 256 = c at *; generalize X / 16777216 = d at *; omega
  have e4 : revN X % 256 = X / 16777216 := by unfold revN; generalize X % 256 = a at *; generalize X / 256 % 256 = b at *; generalize X / 65536 % 256 = c at *; generalize X / 16777216 = d at *; omega
  have p3 : (256 : Nat) ^ 3 = 16777216 := by decide
  have p2 : (256 : Nat) ^ 2 = 65536 := by decide
  simp only [putL, le4, p3, p2, Nat.pow_one, Nat.pow_zero, Nat.div_one, List.cons.injEq, and_true, e1, e2, e3, e4]
  refine ⟨?_, ?_, ?_⟩ <;> (apply UInt8.toNat_inj.1; simp)

/-- A text with its sum behind it. -/
def sealL (l : List UInt8) : List UInt8 := l ++ le4 (csum l)

theorem seal_bytes (s : ByteArray) (c : Nat) (h : c = csum s.data.toList) : s ++ (⟨(le4 c).toArray⟩ : ByteArray) = ⟨(sealL s.data.toList).toArray⟩ := by
  subst h
  apply ByteArray.ext
  apply Array.toList_inj.1
  simp [sealL]

theorem seal_any (s : ByteArray) (w : World) (hs : s.size ≤ 1000000) :
    Calls Tryd.prog 8 #[.string s] w fun e w' => e = .returned (.string ⟨(sealL s.data.toList).toArray⟩) ∧ Below w.heap.size w w' := by
  have HS : Hid (∀ W, Calls Tryd.prog 6 #[.string s] W fun e w' => e = .returned (.int .u32 (csum s.data.toList : Nat)) ∧ W = w') := fun W => sum_any s W (by omega)
  have hc : csum s.data.toList < 4294967296 := csum_lt _
  obtain ⟨c, he⟩ : ∃ c, c = csum s.data.toList := ⟨_, rfl⟩
  have HE := Lib.hid (seal_bytes s c he)
  rw [← he] at HS hc
  clear he
  have HC := Lib.hid hc
  have HR := Lib.hid (rev_lt _ hc)
  have hp := put_rev _ hc
  have hl : (le4 c).length = 4 := rfl
  generalize sealL s.data.toList = z at *
  generalize le4 c = y at *
  have HM : Hid (∀ W, Calls Tryd.prog 11 #[.int .i64 (revN c : Nat), .int .i64 4] W fun e w' => e = .returned (.string ⟨y.toArray⟩) ∧ Below W.heap.size W w') := fun W => by
    rw [← hp]
    exact must_fits _ 4 _ (by omega) (by omega) (rev_lt _ hc)
  have HV : Hid (∀ W, Calls Tryd.prog 12 #[.int .u32 (c : Int)] W fun e w' => e = .returned (.int .u32 (revN c : Nat)) ∧ W = w') := fun W => rev_any c hc W
  have hr := rev_lt _ hc
  clear hc hp HC HR
  generalize revN c = r at *
  go_enter Tryd.func8, Tryd.ntmps8
  go_wp2_with fail
  refine (HS.out _).mono ?_
  rintro e w' ⟨rfl, rfl⟩
  go_wp2_with fail
  refine (HV.out _).mono ?_
  rintro e w' ⟨rfl, rfl⟩
  go_wp2_with fail
  refine (HM.out _).mono ?_
  rintro e w' ⟨rfl, hb⟩
  go_wp2
  go_ret
  refine ⟨?_, hb⟩
  exact congrArg (fun x => Ending.returned (.string x)) HE.out

/-- What Open says of a text: the text within, or an error. -/
theorem open_short (s : ByteArray) (w : World) (hs : s.size < 4) :
    Calls Tryd.prog 5 #[.string s] w fun e w' => e = .returned (.tuple #[.string ⟨#[]⟩, .iface 22 (.int .i64 7)]) ∧ w = w' := by
  go_enter Tryd.func5, Tryd.ntmps5
  go_wp2
  go_ret2
  exact ⟨rfl, rfl⟩

theorem extract_front (s : ByteArray) : (s.extract 0 (s.size - 4)).data.toList = s.data.toList.take (s.data.toList.length - 4) := by
  rw [Lib.extract_data]
  simp

theorem sealedB_eq (l : List UInt8) (h : 4 ≤ l.length) : sealedB l = (sealL (l.take (l.length - 4)) == l) := by
  unfold sealedB sealL
  rw [Bool.eq_iff_iff, beq_iff_eq, beq_iff_eq]
  constructor
  · intro q
    rw [← q, List.take_append_drop]
  · intro q
    have h2 : (List.take (l.length - 4) l).length = l.length - 4 := by rw [List.length_take]; omega
    have h3 := congrArg (List.drop (l.length - 4)) q
    rw [List.drop_left' h2] at h3
    exact h3.symm

theorem open_ok (s : ByteArray) (w : World) (hs : 4 ≤ s.size) (hm : s.size ≤ 1000000) (ho : sealedB s.data.toList = true) :
    Calls Tryd.prog 5 #[.string s] w fun e w' => e = .returned (.tuple #[.string (s.extract 0 (s.size - 4)), .nilIface]) ∧ Below w.heap.size w w' := by
  have he := extract_front s
  have hsz : s.data.toList.length = s.size := by simp
  have hb := sealedB_eq s.data.toList (by omega)
  rw [ho, hsz] at hb
  rw [hsz] at he
  have HS : Hid (∀ W, Calls Tryd.prog 8 #[.string (s.extract 0 (s.size - 4))] W fun e w' => e = .returned (.string s) ∧ Below W.heap.size W w') := fun W => by
    have h := seal_any (s.extract 0 (s.size - 4)) W (by rw [ByteArray.size_extract]; omega)
    rw [he] at h
    have h2 : (⟨(sealL (s.data.toList.take (s.size - 4))).toArray⟩ : ByteArray) = s := by
      rw [beq_iff_eq.1 hb.symm]
    rw [h2] at h
    exact h
  clear he hsz hb ho
  go_enter Tryd.func5, Tryd.ntmps5
  go_wp2_with fail
  refine (HS.out _).mono ?_
  rintro e w' ⟨rfl, hb⟩
  go_wp2
  go_ret2
  exact ⟨rfl, hb⟩

theorem open_spoilt (s : ByteArray) (w : World) (hs : 4 ≤ s.size) (hm : s.size ≤ 1000000) (ho : sealedB s.data.toList = false) :
    Calls Tryd.prog 5 #[.string s] w fun e w' => e = .returned (.tuple #[.string ⟨#[]⟩, .iface 22 (.int .i64 15)]) ∧ Below w.heap.size w w' := by
  have he := extract_front s
  have hsz : s.data.toList.length = s.size := by simp
  have hb := sealedB_eq s.data.toList (by omega)
  rw [ho, hsz] at hb
  rw [hsz] at he
  obtain ⟨z, hz, hne⟩ : ∃ z : ByteArray, (∀ W, Calls Tryd.prog 8 #[.string (s.extract 0 (s.size - 4))] W fun e w' => e = .returned (.string z) ∧ Below W.heap.size W w') ∧ (z.toList == s.toList) = false := by
    refine ⟨⟨(sealL (s.data.toList.take (s.size - 4))).toArray⟩, fun W => ?_, ?_⟩
    · have h := seal_any (s.extract 0 (s.size - 4)) W (by rw [ByteArray.size_extract]; omega)
      rw [he] at h
      exact h
    · rw [ByteArray.toList_eq, ByteArray.toList_eq]
      exact hb.symm
  have HS := Lib.hid hz
  clear he hsz hb ho hz
  go_enter Tryd.func5, Tryd.ntmps5
  go_wp2_with fail
  refine (HS.out _).mono ?_
  rintro e w' ⟨rfl, hb⟩
  go_wp2
  go_ret2
  exact ⟨rfl, hb⟩

end Go.Proofs.YtonignmhmfhnfaaDoor
