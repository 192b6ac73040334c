/- switchyardkeep.CrcLinear returns true at every three texts, and changes nothing that was there. -/
import Derived.Test.YtonignmhmfhnfaaCrcSeal
import Derived.Test.YtonignmhmfhnfaaRow
import Derived.BigRegion
import Derived.Lib.SmallJoins
import Derived.BigQuiet
import Derived.Deep.QuietTactic
import Derived.IntWalk
namespace Go.Proofs.Ytonignmhmfhnfaa.crcLinear
open Go.RowKit

theorem run_min4 {P : Program} (ts : Array TypeId) (t : TypeId) (a b c : Nat) (W : World) :
    (Builtin.min_ ts t #[.int .i64 (a : Int), .int .i64 (b : Int), .int .i64 (c : Int), .int .i64 200]).run P W = .ok (.int .i64 ((min (min (min a b) c) 200 : Nat) : Int)) W := by
  have e : ((min (min (min a b) c) 200 : Nat) : Int) = (if (200 : Int) < (if (c : Int) < (if (b : Int) < (a : Int) then (b : Int) else (a : Int)) then (c : Int) else (if (b : Int) < (a : Int) then (b : Int) else (a : Int))) then 200 else (if (c : Int) < (if (b : Int) < (a : Int) then (b : Int) else (a : Int)) then (c : Int) else (if (b : Int) < (a : Int) then (b : Int) else (a : Int)))) := by
    repeat' split
    all_goals omega
  rw [e]
  rfl

/-- Three texts brought together, bit by bit. -/
def linL (a b c : ByteArray) (n : Nat) : List UInt8 := (List.range n).map fun j => a.data.toList.getD j 0 ^^^ b.data.toList.getD j 0 ^^^ c.data.toList.getD j 0

theorem linL_length (a b c : ByteArray) (n : Nat) : (linL a b c n).length = n := by simp [linL]

theorem getD_at (a : ByteArray) (k : Nat) (h : k < a.size) : a.data.toList.getD k 0 = a[k] := by
  rw [List.getD_eq_getElem?_getD, List.getElem?_eq_getElem (by simpa using h)]
  rfl

theorem lin_at (a b c : ByteArray) (n k : Nat) (h : k < n) (ha : k < a.size) (hb : k < b.size) (hc : k < c.size) :
    bits BinOp.xor IntKind.u8 (bits BinOp.xor IntKind.u8 ((a[k]).toNat : Int) ((b[k]).toNat : Int)) ((c[k]).toNat : Int) = ((((linL a b c n).getD k 0).toNat : Nat) : Int) := by
  have e : (linL a b c n).getD k 0 = a[k] ^^^ b[k] ^^^ c[k] := by
    rw [List.getD_eq_getElem?_getD]
    simp only [linL, List.getElem?_map, List.getElem?_range h, Option.map_some, Option.getD_some]
    rw [getD_at a k ha, getD_at b k hb, getD_at c k hc]
  have xa := (a[k]).toNat_lt
  have xb := (b[k]).toNat_lt
  have xc := (c[k]).toNat_lt
  rw [u8_xor_nat _ _ (by omega) (by omega), u8_xor_nat _ _ (Nat.xor_lt_two_pow (n := 8) (by omega) (by omega)) (by omega), e, UInt8.toNat_xor, UInt8.toNat_xor]

theorem sum_three (a b c : ByteArray) (n : Nat) (ha : n ≤ a.size) (hb : n ≤ b.size) (hc : n ≤ c.size) :
    csum (linL a b c n) = csum (a.extract 0 n).data.toList ^^^ csum (b.extract 0 n).data.toList ^^^ csum (c.extract 0 n).data.toList := by
  have ea : (a.extract 0 n).data.toList = a.data.toList.take n := by rw [Lib.extract_data]; simp
  have eb : (b.extract 0 n).data.toList = b.data.toList.take n := by rw [Lib.extract_data]; simp
  have ec : (c.extract 0 n).data.toList = c.data.toList.take n := by rw [Lib.extract_data]; simp
  have la : (a.data.toList.take n).length = n := by rw [List.length_take]; simp; omega
  have lb : (b.data.toList.take n).length = n := by rw [List.length_take]; simp; omega
  have lc : (c.data.toList.take n).length = n := by rw [List.length_take]; simp; omega
  rw [ea, eb, ec]
  refine csum_three _ _ _ _ (by rw [la, linL_length]) (by rw [lb, linL_length]) (by rw [lc, linL_length]) ?_
  have gets : ∀ (l : List UInt8) (j : Nat) (h : j < (l.take n).length), (l.take n)[j] = l.getD j 0 := fun l j h => by
    have : j < l.length := by rw [List.length_take] at h; omega
    rw [List.getElem_take, List.getD_eq_getElem?_getD, List.getElem?_eq_getElem this]
    rfl
  have hmid : ∀ m : List UInt8, m = (List.range n).map (fun j => a.data.toList.getD j 0 ^^^ b.data.toList.getD j 0) → leV m = leV (a.data.toList.take n) ^^^ leV (b.data.toList.take n) := by
    rintro m rfl
    refine leV_xor _ _ _ (by simp [la]) (by simp [lb]) (fun j h1 h2 h3 => ?_)
    rw [gets _ _ h2, gets _ _ h3]
    simp only [List.getElem_map, List.getElem_range]
    rw [UInt8.toNat_xor]
  rw [← hmid _ rfl]
  refine leV_xor _ _ _ (by simp [linL_length]) (by rw [lc, linL_length]) (fun j h1 h2 h3 => ?_)
  rw [gets _ _ h3]
  simp only [linL, List.getElem_map, List.getElem_range]
  rw [UInt8.toNat_xor]

theorem same_sums (x p q r : Nat) (hp : p < 4294967296) (hq : q < 4294967296) (hr : r < 4294967296) (h : x = p ^^^ q ^^^ r) : (((x : Nat) : Int) == bits BinOp.xor IntKind.u32 (bits BinOp.xor IntKind.u32 (p : Int) (q : Int)) (r : Int)) = true := by
  rw [u32_xor_nat _ _ hp hq, u32_xor_nat _ _ (Nat.xor_lt_two_pow (n := 32) hp hq) hr, h]
  simp

set_option maxHeartbeats 1600000 in
theorem walk (a b c : ByteArray) (w : World) :
    Calls Try.prog 5 #[.string a, .string b, .string c] w fun e w' => e = .returned (.bool true) ∧ Below w.heap.size w w' := by
  obtain ⟨n, hn⟩ : ∃ n : Nat, n = min (min (min a.size b.size) c.size) 200 := ⟨_, rfl⟩
  have ha : n ≤ a.size := by omega
  have hb : n ≤ b.size := by omega
  have hc : n ≤ c.size := by omega
  have hm : n ≤ 200 := by omega
  have hmin : ∀ W, (Builtin.min_ #[3, 3, 3, 3] 3 #[.int .i64 (a.size : Int), .int .i64 (b.size : Int), .int .i64 (c.size : Int), .int .i64 200]).run Try.prog W = .ok (.int .i64 (n : Int)) W := fun W => by rw [hn]; exact run_min4 _ _ _ _ _ W
  clear hn
  obtain ⟨i0, hi, hz0, hz1, hz2⟩ := info_parts Try.info5
  have hmk : ∀ W, (Instr.makeSlice 30 (.int .i64 (n : Int)) (.int .i64 (n : Int))).run Try.prog W = .ok (.slice (some ⟨W.heap.size, 0, none⟩) n n) (W.alloc (.cells (rowC (linL a b c n) n 0) 5)) := fun W => by
    have h := run_make (P := Try.prog) W 30 5 i0 (.int .u8 0) Try.underlying30 hi hz0 .i64 .i64 n n (by omega) (by omega) (by rw [hz2]; omega) (by omega)
    rw [hz1, Int.toNat_natCast, Nat.mul_one, show (Value.int IntKind.u8 0).cells = #[Value.int .u8 0] from rfl, rowC_zero (linL a b c n) n] at h
    exact h
  clear hi hz0 hz1 hz2
  go_enter Try.func5, Try.ntmps5
  go_wp2_with fail
  refine (summed_any _).mono ?_
  rintro e w1 ⟨rfl, k1⟩
  go_wp2
  have hs1 := k1.size
  have hB : w.heap.size ≤ w1.heap.size := hs1
  go_loopw [23] (fun i wr => ∃ k : Nat, k ≤ n ∧ i = .int .i64 k ∧ wr.heap[w1.heap.size]? = some (.cells (rowC (linL a b c n) n k) 5 (0, 0)) ∧ Below w.heap.size w wr) (fun i _ => n - (intOf i).toNat)
  case atStart => exact ⟨0, by omega, rfl, heap_alloc_new w1 _, k1.alloc hs1 _⟩
  case round =>
    obtain ⟨k, hk, rfl, hrow, hbl⟩ := hrel
    clear hmin hmk
    by_cases hlt : k < n
    · have pa : k < a.size := by omega
      have pb : k < b.size := by omega
      have pc : k < c.size := by omega
      have HX := Lib.hid (lin_at a b c n k hlt pa pb pc)
      have HW := Lib.hid hrow
      have hcell : wr.cell? ⟨w1.heap.size, k, none⟩ = some (.int .u8 (if k < k then ((((linL a b c n).getD k 0).toNat : Nat) : Int) else 0)) := (Joins.cell_of_block hrow k).trans (rowC_get _ _ _ _ hlt)
      have hfz : wr.frozen? ⟨w1.heap.size, k, none⟩ = false := by simp [World.frozen?, hrow]
      clear hrow
      go_wp2
      go_region
      all_goals
        go_wp2
        go_roundw
        case rel =>
          refine ⟨k + 1, by omega, by go_num, ?_, ?_⟩
          · rw [HX.out]
            exact set_row HW.out (rowC_step _ _ _)
          · exact (hbl.setCell (p := ⟨w1.heap.size, k, none⟩) hB _).drew
        case measure => simp [intOf]; omega
    · obtain rfl : k = n := by omega
      have hsum := sum_three a b c k ha hb hc
      have hcx : csum (linL a b c k) < 4294967296 := csum_lt _
      have hca : csum (a.extract 0 k).data.toList < 4294967296 := csum_lt _
      have hcb : csum (b.extract 0 k).data.toList < 4294967296 := csum_lt _
      have hcc : csum (c.extract 0 k).data.toList < 4294967296 := csum_lt _
      have hq := same_sums _ _ _ _ hca hcb hcc hsum
      have HX : Hid (∀ W, Calls Try.prog 11 #[.string ⟨(linL a b c k).toArray⟩] W fun e w' => e = .returned (.int .u32 (csum (linL a b c k) : Nat)) ∧ w' = W) := fun W => (sum_any ⟨(linL a b c k).toArray⟩ W (by show (linL a b c k).length ≤ _; rw [linL_length]; omega)).mono fun _ _ q => ⟨q.1, q.2.symm⟩
      have HA : Hid (∀ W, Calls Try.prog 11 #[.string (a.extract 0 k)] W fun e w' => e = .returned (.int .u32 (csum (a.extract 0 k).data.toList : Nat)) ∧ w' = W) := fun W => (sum_any _ W (by rw [ByteArray.size_extract]; omega)).mono fun _ _ q => ⟨q.1, q.2.symm⟩
      have HB : Hid (∀ W, Calls Try.prog 11 #[.string (b.extract 0 k)] W fun e w' => e = .returned (.int .u32 (csum (b.extract 0 k).data.toList : Nat)) ∧ w' = W) := fun W => (sum_any _ W (by rw [ByteArray.size_extract]; omega)).mono fun _ _ q => ⟨q.1, q.2.symm⟩
      have HC : Hid (∀ W, Calls Try.prog 11 #[.string (c.extract 0 k)] W fun e w' => e = .returned (.int .u32 (csum (c.extract 0 k).data.toList : Nat)) ∧ w' = W) := fun W => (sum_any _ W (by rw [ByteArray.size_extract]; omega)).mono fun _ _ q => ⟨q.1, q.2.symm⟩
      have hback := fun m => run_convert_bytes_back (P := Try.prog) (wr.drewN m) 30 9 5 ⟨w1.heap.size, 0, none⟩ k (linL a b c k) Try.underlying30 Try.underlying5 Try.underlying9 (fun j hj => by
        rw [linL_length] at hj
        rw [Addr.add_lit, Nat.zero_add]
        exact (Joins.cell_of_block (w := wr) hrow j).trans (rowC_end _ _ _ hj (linL_length _ _ _ _)))
      rw [linL_length] at hback
      clear hsum hcx hca hcb hcc hrow
      generalize csum (linL a b c k) = X at *
      generalize csum (a.extract 0 k).data.toList = XA at *
      generalize csum (b.extract 0 k).data.toList = XB at *
      generalize csum (c.extract 0 k).data.toList = XC at *
      generalize linL a b c k = L at *
      go_wp2
      go_quiet ((go_at_call 11; first | (with_reducible exact Calls.quiet_of_same (HX.out _)) | (with_reducible exact Calls.quiet_of_same (HA.out _)) | (with_reducible exact Calls.quiet_of_same (HB.out _)) | (with_reducible exact Calls.quiet_of_same (HC.out _))))
      go_wp2
      go_ret
      exact ⟨rfl, hbl.os, hbl.tape, hbl.output, hbl.size, hbl.block⟩
end Go.Proofs.Ytonignmhmfhnfaa.crcLinear
