/- The reference's key of Hmac, each byte turned: its closure. -/
import Derived.Test.YtlfeholphngilaaDoorProg
import Derived.Test.YtlfeholphngilaaDoorRow
import Derived.WalkKit
import Derived.WalkSpells
import Derived.Laws.IdiomStrings
import Derived.Test.YtlfeholphngilaaDoorMd5M
import Derived.WalkLawsBesides
import Derived.Laws.BitsAllLaws
import Derived.Lib.Hide
namespace Go.Proofs.YtlfeholphngilaaDoor
open Go.RowKit
set_option linter.unusedVariables false
set_option maxRecDepth 100000

/-- The first k bytes are turned. -/
def mxL (l : List UInt8) (x : UInt8) (k : Nat) : List UInt8 := (l.take k).map (fun b => b ^^^ x) ++ l.drop k
theorem mxL_len (l : List UInt8) (x : UInt8) (k : Nat) : (mxL l x k).length = l.length := by simp [mxL]; omega
theorem mxL_zero (l : List UInt8) (x : UInt8) : mxL l x 0 = l := by simp [mxL]
theorem mxL_all (l : List UInt8) (x : UInt8) : mxL l x l.length = xorL l x := by simp [mxL, xorL]
theorem mxL_get (l : List UInt8) (x : UInt8) (k : Nat) (h : k < l.length) : (mxL l x k).getD k 0 = l.getD k 0 := by
  have h1 : ((l.take k).map (fun b => b ^^^ x)).length = k := by rw [List.length_map, List.length_take, Nat.min_eq_left (by omega)]
  unfold mxL
  simp only [List.getD_eq_getElem?_getD]
  rw [List.getElem?_append_right (by rw [h1]; exact Nat.le_refl _), h1, Nat.sub_self, List.getElem?_drop, Nat.add_zero]
theorem mxL_set (l : List UInt8) (x : UInt8) (k : Nat) (h : k < l.length) : (mxL l x k).set k (l.getD k 0 ^^^ x) = mxL l x (k + 1) := by
  have h1 : ((l.take k).map (fun b => b ^^^ x)).length = k := by rw [List.length_map, List.length_take, Nat.min_eq_left (by omega)]
  have h2 : l.getD k 0 = l[k] := by rw [List.getD_eq_getElem?_getD, List.getElem?_eq_getElem h]; rfl
  unfold mxL
  rw [List.set_append_right _ _ (by omega), h1, Nat.sub_self, List.drop_eq_getElem_cons h, List.set_cons_zero, List.take_add_one, List.getElem?_eq_getElem h, h2, List.map_append, List.append_assoc]
  rfl

set_option maxHeartbeats 1600000 in
theorem refWith_any (K : Nat) (s : ByteArray) (x : UInt8) (w : World) (hs : s.size ≤ 100) (hc : w.cell? ⟨K, 0, none⟩ = some (.string s)) (hK : K < w.heap.size) :
    Calls Tryd.prog 39 #[.int .u8 (x.toNat : Int), .pointer (some ⟨K, 0, none⟩)] w fun e w' => e = .returned (.string ⟨(xorL s.data.toList x).toArray⟩) ∧ Below w.heap.size w w' := by
  obtain ⟨n, hn⟩ : ∃ n, n = s.size := ⟨_, rfl⟩
  have hcv := fun W => run_bytes_of_string (P := Tryd.prog) W 9 51 5 s Tryd.underlying9 Tryd.underlying51 Tryd.underlying5
  rw [← hn] at hcv hs
  obtain ⟨l, hl⟩ : ∃ l, l = s.data.toList := ⟨_, rfl⟩
  have hlen : l.length = n := by rw [hl, hn]; simp
  have hr0 : BRow ((w.alloc (Obj.cells (bytesRow s (grownCap w n 0 5)) 5 ((bytesRow s (grownCap w n 0 5)).size, (bytesRow s (grownCap w n 0 5)).size + 1))).drew) w.heap.size l := by rw [hl]; exact BRow.new w s _
  have hb0 : Below w.heap.size w ((w.alloc (Obj.cells (bytesRow s (grownCap w n 0 5)) 5 ((bytesRow s (grownCap w n 0 5)).size, (bytesRow s (grownCap w n 0 5)).size + 1))).drew) := ((Below.refl _ _).alloc (Nat.le_refl _) _).drew
  rw [← hl]
  have HLN := Lib.hid hlen
  have hx8 := x.toNat_lt
  clear hl hlen hn
  go_enter Tryd.func39, Tryd.ntmps39
  go_wp2
  generalize (w.alloc (Obj.cells (bytesRow s (grownCap w n 0 5)) 5 ((bytesRow s (grownCap w n 0 5)).size, (bytesRow s (grownCap w n 0 5)).size + 1))).drew = W0 at *
  generalize grownCap w n 0 5 = cap at *
  generalize hB : w.heap.size = B at *
  have HB := Lib.hid hB
  clear hB hcv hc
  go_loopw [10] (fun i wr => ∃ k : Nat, k ≤ n ∧ i = .int .i64 k ∧ BRow wr B (mxL l x k) ∧ Below B w wr) (fun i _ => n - (intOf i).toNat)
  case atStart => exact ⟨0, by omega, rfl, by rw [mxL_zero]; exact hr0, hb0⟩
  case round =>
    clear hr0 hb0
    obtain ⟨k, hk, rfl, hrow, hbl⟩ := hrel
    by_cases hlt : k < n
    · have hkl : k < l.length := by rw [HLN.out]; exact hlt
      have hkm : k < (mxL l x k).length := by rw [mxL_len]; exact hkl
      have hcell := hrow.cellD hkm
      have hfz := hrow.fz hkm
      have hset := hrow.set (k := k) (l.getD k 0 ^^^ x)
      rw [mxL_set l x k hkl] at hset
      rw [mxL_get l x k hkl] at hcell
      have hb2 := hbl.setCell (p := ⟨B, k, none⟩) (Nat.le_refl B) (.int .u8 ((l.getD k 0 ^^^ x).toNat : Int))
      have hxr : bits BinOp.xor IntKind.u8 ((l.getD k 0).toNat : Int) (x.toNat : Int) = ((l.getD k 0 ^^^ x).toNat : Int) := by
        rw [u8_xor_nat _ _ (l.getD k 0).toNat_lt hx8, UInt8.toNat_xor]
      clear hrow hbl hkm
      generalize l.getD k 0 ^^^ x = z at *
      generalize l.getD k 0 = y at *
      have HXR := Lib.hid hxr
      clear hxr
      go_wp2
      rw [HXR.out]
      go_roundw
      case rel => exact ⟨k + 1, by omega, by go_num, hset, hb2⟩
      case measure => simp [intOf] <;> omega
    · obtain rfl : k = n := by omega
      have hml : mxL l x k = xorL l x := by rw [← HLN.out, mxL_all]
      rw [hml] at hrow
      have hxl : (xorL l x).length = k := by unfold xorL; rw [List.length_map, HLN.out]
      have hback := run_convert_bytes_back (P := Tryd.prog) wr 51 9 5 ⟨B, 0, none⟩ cap (xorL l x) Tryd.underlying51 Tryd.underlying5 Tryd.underlying9 (fun j hj => by
        rw [Addr.add_lit, Nat.zero_add]
        exact hrow.cell hj)
      rw [hxl] at hback
      clear hml hxl hrow
      go_wp2
      go_ret
      exact ⟨rfl, by rw [HB.out]; exact hbl⟩

end Go.Proofs.YtlfeholphngilaaDoor
