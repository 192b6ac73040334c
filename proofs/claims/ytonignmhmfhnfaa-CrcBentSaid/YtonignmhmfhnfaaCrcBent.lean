/- switchyardkeep.CrcBent returns true at every text, place and pattern, and changes nothing that was there. -/
import Derived.Test.YtonignmhmfhnfaaCrcBack
import Derived.Test.YtonignmhmfhnfaaRow
import Derived.Test.YtonignmhmfhnfaaPick
import Derived.BigRegion
import Derived.Lib.SmallJoins
namespace Go.Proofs.Ytonignmhmfhnfaa.crcBent
open Go.RowKit

theorem pow_lt8 (m : Nat) (h : m < 8) : 2 ^ m < 256 := by
  have : 2 ^ m ≤ 2 ^ 7 := Nat.pow_le_pow_right (by decide) (by omega)
  omega

theorem turn_step (z l : List UInt8) (r k j m v : Nat) (x : UInt8) (hj : j = (r + k) / 8) (hm : m = (r + k) % 8) (hl : j < l.length) (hx : l.getD j 0 = x) (hle : leV l = leV z ^^^ (2 ^ r * (v % 2 ^ k))) (hb : v.testBit k = true) :
    leV (l.set j (UInt8.ofNat (x.toNat ^^^ 2 ^ m))) = leV z ^^^ (2 ^ r * (v % 2 ^ (k + 1))) := by
  have h2 := pow_lt8 m (by omega)
  have hx2 : l[j] = x := by
    rw [← hx, List.getD_eq_getElem?_getD, List.getElem?_eq_getElem hl]
    rfl
  have hlt : x.toNat ^^^ 2 ^ m < 256 := Nat.xor_lt_two_pow (n := 8) x.toNat_lt h2
  rw [leV_set l j hl _ (2 ^ m) h2 (by rw [hx2, UInt8.toNat_ofNat', Nat.mod_eq_of_lt hlt]), hle, mod_succ_xor, if_pos hb, pow_mul_xor, ← Nat.pow_add, ← Nat.pow_add, show 8 * j + m = r + k by omega, Nat.xor_assoc]

theorem flip_val (x : UInt8) (m : Nat) (h : m < 8) : bits BinOp.xor IntKind.u8 (x.toNat : Int) (2 ^ m % 256) = ((UInt8.ofNat (x.toNat ^^^ 2 ^ m)).toNat : Int) := by
  have h2 := pow_lt8 m h
  have hx := x.toNat_lt
  have e : (2 : Int) ^ m % 256 = ((2 ^ m : Nat) : Int) := by
    have : (2 : Int) ^ m = ((2 ^ m : Nat) : Int) := by simp
    rw [this]
    generalize 2 ^ m = q at h2
    omega
  rw [e, u8_xor_nat _ _ (by omega) h2, UInt8.toNat_ofNat', Nat.mod_eq_of_lt (Nat.xor_lt_two_pow (n := 8) hx h2)]

theorem still_step (v k : Nat) (hb : v.testBit k = false) : v % 2 ^ (k + 1) = v % 2 ^ k := by
  rw [mod_succ_xor, if_neg (by rw [hb]; exact Bool.false_ne_true), Nat.xor_zero]

theorem bit_on (v k : Nat) (h : v < 4294967296) : ((bits BinOp.and IntKind.u32 ((v : Int) / 2 ^ k) 1 == 1) = v.testBit k) := by
  have e : (v : Int) / 2 ^ k = ((v / 2 ^ k : Nat) : Int) := by simp
  have hl : v / 2 ^ k < 4294967296 := Nat.lt_of_le_of_lt (Nat.div_le_self _ _) h
  rw [e, low_bit _ hl, Nat.testBit_eq_decide_div_mod_eq]
  rw [Bool.eq_iff_iff]
  simp
  omega

theorem turned_on (v k : Nat) (hb : v.testBit k = true) : v % 2 ^ (k + 1) ≠ 0 := by
  intro h
  have := Nat.testBit_mod_two_pow v (k + 1) k
  rw [h] at this
  simp [hb] at this

theorem opens (z : ByteArray) (l : List UInt8) (n r k v : Nat) (h4 : 4 ≤ n) (hn : n ≤ 304) (hr : r ≤ 8 * n) (hv : v < 4294967296) (hz : n = z.size) (hl : l.length = n) (hle : leV l = leV z.data.toList ^^^ (2 ^ r * (v % 2 ^ k))) (hs : sealedB z.data.toList = true) :
    (v % 2 ^ k = 0 → ∃ u, ∀ W, Calls Try.prog 8 #[.string ⟨l.toArray⟩] W fun e w' => e = .returned (.tuple #[.string u, .nilIface]) ∧ Below W.heap.size W w') ∧
    (v % 2 ^ k ≠ 0 → ∀ W, Calls Try.prog 8 #[.string ⟨l.toArray⟩] W fun e w' => e = .returned (.tuple #[.string ⟨#[]⟩, .iface 35 (.int .i64 15)]) ∧ Below W.heap.size W w') := by
  have hvl : v % 2 ^ k < 4294967296 := Nat.lt_of_le_of_lt (Nat.mod_le _ _) hv
  have hzl : z.data.toList.length = n := by rw [hz]; simp
  have hso : sealedB l = decide (v % 2 ^ k = 0) := bent_told z.data.toList l r (v % 2 ^ k) (by omega) (by omega) hvl (by omega) hs hle
  have hsz : (⟨l.toArray⟩ : ByteArray).size = n := hl
  constructor
  · intro hV
    exact ⟨_, fun W => open_ok ⟨l.toArray⟩ W (by omega) (by omega) (by show sealedB l = true; rw [hso, decide_eq_true hV])⟩
  · intro hV W
    exact open_spoilt ⟨l.toArray⟩ W (by omega) (by omega) (by show sealedB l = false; rw [hso, decide_eq_false hV])

set_option maxHeartbeats 1600000 in
theorem walk (s : ByteArray) (at_ : Int) (v : Nat) (w : World) (hv : v < 4294967296) :
    Calls Try.prog 4 #[.string s, .int .i64 at_, .int .u32 (v : Int)] w fun e w' => e = .returned (.bool true) ∧ Below w.heap.size w w' := by
  by_cases hs : s.size ≤ 300
  · have hgt : decide ((300 : Int) < (s.size : Int)) = false := decide_eq_false (by omega)
    obtain ⟨z, hz, hzs⟩ : ∃ z : ByteArray, z = ⟨(sealL s.data.toList).toArray⟩ ∧ z.size = s.size + 4 := ⟨_, rfl, by show (sealL s.data.toList).length = _; rw [crcBack.sealL_length]; simp⟩
    have H1 : Hid (∀ W, Calls Try.prog 9 #[.string s] W fun e w' => e = .returned (.string z) ∧ Below W.heap.size W w') := fun W => by rw [hz]; exact seal_any s W (by omega)
    have HZ : Hid (sealedB z.data.toList = true) := by show _ = _; rw [hz]; exact crcBack.sealed_sealL _
    obtain ⟨n, hn⟩ : ∃ n, n = z.size := ⟨_, rfl⟩
    have hn4 : 4 ≤ n := by omega
    have hnm : n ≤ 304 := by omega
    have hcv := fun W => run_bytes_of_string (P := Try.prog) W 9 30 5 z Try.underlying9 Try.underlying30 Try.underlying5
    rw [← hn] at hcv
    have HN := Lib.hid hn
    clear hzs hz hn
    have hv2 : (v : Int) ≤ 4294967295 := by omega
    go_enter Try.func4, Try.ntmps4
    go_wp2_with fail
    refine (summed_any _).mono ?_
    rintro e w1 ⟨rfl, k1⟩
    go_wp2_with fail
    refine (H1.out _).mono ?_
    rintro e w2 ⟨rfl, k2⟩
    have b2 := k1.trans (k2.mono k1.size)
    clear k1 k2 H1
    go_wp2_with fail
    refine (pick_any at_ (8 * n) _ (by omega) (by omega)).mono ?_
    rintro e w3 ⟨r, rfl, hr, rfl⟩
    go_wp2_with fail
    have hB : w.heap.size ≤ w2.heap.size := b2.size
    have hr0 : BRow (w2.alloc (Obj.cells (bytesRow z (grownCap w2 n 0 5)) 5 ((bytesRow z (grownCap w2 n 0 5)).size, (bytesRow z (grownCap w2 n 0 5)).size + 1))).drew w2.heap.size z.data.toList := BRow.new w2 z _
    have hb0 : Below w.heap.size w (w2.alloc (Obj.cells (bytesRow z (grownCap w2 n 0 5)) 5 ((bytesRow z (grownCap w2 n 0 5)).size, (bytesRow z (grownCap w2 n 0 5)).size + 1))).drew := (b2.alloc hB _).drew
    generalize (w2.alloc (Obj.cells (bytesRow z (grownCap w2 n 0 5)) 5 ((bytesRow z (grownCap w2 n 0 5)).size, (bytesRow z (grownCap w2 n 0 5)).size + 1))).drew = W1 at *
    generalize grownCap w2 n 0 5 = cap at *
    generalize w2.heap.size = B at *
    clear hcv b2
    go_loopw [8, 9] (fun t i wr => ∃ (k : Nat) (l : List UInt8), k ≤ 32 ∧ i = .int .i64 k ∧ t = .bool (decide (v % 2 ^ k ≠ 0)) ∧ l.length = n ∧ leV l = leV z.data.toList ^^^ (2 ^ r * (v % 2 ^ k)) ∧ BRow wr B l ∧ Below w.heap.size w wr) (fun _ i _ => 32 - (intOf i).toNat)
    case atStart => exact ⟨0, z.data.toList, by omega, rfl, by simp [Nat.mod_one], by rw [HN.out]; simp, by simp [Nat.mod_one], hr0, hb0⟩
    case round =>
      obtain ⟨k, l, hk, rfl, rfl, hl, hle, hrow, hbl⟩ := hrel
      clear hr0 hb0
      have HLE := Lib.hid hle
      have HL := Lib.hid hl
      clear hle hl
      by_cases hk32 : k < 32
      · have hd : decide ((k : Int) < 32) = true := decide_eq_true (by omega)
        by_cases hin : r + k < 8 * n
        · have hd2 : decide ((r : Int) + (k : Int) < 8 * (n : Int)) = true := decide_eq_true (by omega)
          obtain ⟨j, hj⟩ : ∃ j, j = (r + k) / 8 := ⟨_, rfl⟩
          obtain ⟨m, hm⟩ : ∃ m, m = (r + k) % 8 := ⟨_, rfl⟩
          have hjn : j < n := by omega
          have hm8 : m < 8 := by omega
          have e1 : ((r : Int) + (k : Int)) / 8 = (j : Int) := by omega
          have e2 : ((r : Int) + (k : Int)) % 8 = (m : Int) := by omega
          have HJ := Lib.hid hj
          have HM := Lib.hid hm
          have hjl : j < l.length := by rw [HL.out]; exact hjn
          have hcell := hrow.cellD hjl
          have hfz := hrow.fz hjl
          have HR := Lib.hid hrow
          generalize hx : l.getD j 0 = x at hcell
          have HX := Lib.hid hx
          have HJL := Lib.hid hjl
          have HT := Lib.hid (bit_on v k hv)
          clear hj hm hx hjl hrow
          go_wp2
          · have hbit := ‹(bits BinOp.and IntKind.u32 ((v : Int) / 2 ^ k) 1 == 1) = true›
            rw [HT.out] at hbit
            have HBIT := Lib.hid hbit
            clear hbit
            go_region
            go_wp2
            go_roundw
            case rel =>
              refine ⟨k + 1, l.set j (UInt8.ofNat (x.toNat ^^^ 2 ^ m)), by omega, by go_num, by rw [decide_eq_true (turned_on v k HBIT.out)], by rw [List.length_set]; exact HL.out, turn_step _ _ _ _ _ _ _ _ HJ.out HM.out HJL.out HX.out HLE.out HBIT.out, ?_, ?_⟩
              · have h := HR.out.set (k := j) (UInt8.ofNat (x.toNat ^^^ 2 ^ m))
                rw [← flip_val x m hm8] at h
                exact h
              · exact (hbl.setCell (p := ⟨B, j, none⟩) hB _).drew
            case measure => simp [intOf]; omega
          · have hbit := ‹(bits BinOp.and IntKind.u32 ((v : Int) / 2 ^ k) 1 == 1) = false›
            rw [HT.out] at hbit
            have HS := Lib.hid (still_step v k hbit)
            clear hbit
            go_roundw
            case rel => exact ⟨k + 1, l, by omega, by go_num, by rw [HS.out], HL.out, by rw [HS.out]; exact HLE.out, HR.out, hbl⟩
            case measure => simp [intOf]; omega
        · have hd2 : decide ((r : Int) + (k : Int) < 8 * (n : Int)) = false := decide_eq_false (by omega)
          have HO := Lib.hid (opens z l n r k v (by omega) hnm (by omega) hv HN.out HL.out HLE.out HZ.out)
          have hback := run_convert_bytes_back (P := Try.prog) wr 30 9 5 ⟨B, 0, none⟩ cap l Try.underlying30 Try.underlying5 Try.underlying9 (fun j hj => by
            rw [Addr.add_lit, Nat.zero_add]
            exact hrow.cell hj)
          rw [HL.out] at hback
          clear hrow
          by_cases hV : v % 2 ^ k = 0
          · have ht : decide (v % 2 ^ k ≠ 0) = false := decide_eq_false (fun q => q hV)
            rw [ht]
            obtain ⟨u, hu⟩ := HO.out.1 hV
            have HU := Lib.hid hu
            clear hu HO ht hV HLE
            go_wp2_with fail
            refine (HU.out _).mono ?_
            rintro e w4 ⟨rfl, k4⟩
            have b4 := hbl.trans (k4.mono hbl.size)
            go_wp2
            go_ret
            exact ⟨rfl, b4⟩
          · have ht : decide (v % 2 ^ k ≠ 0) = true := decide_eq_true hV
            rw [ht]
            have HU := Lib.hid (HO.out.2 hV)
            clear HO ht hV HLE
            go_wp2_with fail
            refine (HU.out _).mono ?_
            rintro e w4 ⟨rfl, k4⟩
            have b4 := hbl.trans (k4.mono hbl.size)
            go_wp2
            go_ret
            exact ⟨rfl, b4⟩
      · have hd : decide ((k : Int) < 32) = false := decide_eq_false (by omega)
        have HO := Lib.hid (opens z l n r k v (by omega) hnm (by omega) hv HN.out HL.out HLE.out HZ.out)
        have hback := run_convert_bytes_back (P := Try.prog) wr 30 9 5 ⟨B, 0, none⟩ cap l Try.underlying30 Try.underlying5 Try.underlying9 (fun j hj => by
          rw [Addr.add_lit, Nat.zero_add]
          exact hrow.cell hj)
        rw [HL.out] at hback
        clear hrow
        by_cases hV : v % 2 ^ k = 0
        · have ht : decide (v % 2 ^ k ≠ 0) = false := decide_eq_false (fun q => q hV)
          rw [ht]
          obtain ⟨u, hu⟩ := HO.out.1 hV
          have HU := Lib.hid hu
          clear hu HO ht hV HLE
          go_wp2_with fail
          refine (HU.out _).mono ?_
          rintro e w4 ⟨rfl, k4⟩
          have b4 := hbl.trans (k4.mono hbl.size)
          go_wp2
          go_ret
          exact ⟨rfl, b4⟩
        · have ht : decide (v % 2 ^ k ≠ 0) = true := decide_eq_true hV
          rw [ht]
          have HU := Lib.hid (HO.out.2 hV)
          clear HO ht hV HLE
          go_wp2_with fail
          refine (HU.out _).mono ?_
          rintro e w4 ⟨rfl, k4⟩
          have b4 := hbl.trans (k4.mono hbl.size)
          go_wp2
          go_ret
          exact ⟨rfl, b4⟩
  · have hgt : decide ((300 : Int) < (s.size : Int)) = true := decide_eq_true (by omega)
    go_enter Try.func4, Try.ntmps4
    go_wp2_with fail
    refine (summed_any _).mono ?_
    rintro e w1 ⟨rfl, k1⟩
    go_wp2
    go_ret
    exact ⟨rfl, k1⟩
end Go.Proofs.Ytonignmhmfhnfaa.crcBent
