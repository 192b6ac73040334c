/- md5.padded: a key as a block, each byte changed. -/
import Derived.Test.YtlfeholphngilaaDoorRefWith
import Derived.Test.YtlfeholphngilaaDoorCopyT
import Derived.Test.YtlfeholphngilaaDoorStOp
import Derived.Test.YtlfeholphngilaaDoorCells
namespace Go.Proofs.YtlfeholphngilaaDoor
open Go.RowKit
attribute [local go_sem ↓] Go.wp_at_zero Go.wp_at_succ
set_option linter.unusedSimpArgs false
set_option linter.unusedVariables false
set_option maxRecDepth 100000

theorem list_ba (s : ByteArray) : (⟨s.data.toList.toArray⟩ : ByteArray) = s := by apply ByteArray.ext; simp
theorem copy_text {P : Program} {ops : Array Oper} {rest : List Oper} {o : Oper} {a : Act} {w : World} {Q : Exit → Act → World → Prop} {d x : Operand} {dT sT : TypeId} {B k dLen dCap : Nat} {T : TypeId} {C : Array Value} (t : ByteArray) (C' : Array Value) (elem : TypeId) (hw : Region.wanted o (yielded ops a.tmps) = true)
    (hop : o.op = Op.call { callee := Callee.builtin Builtin.copy, args := #[d, x], argTypes := #[dT, sT] }) (hd : a.eval d = .slice (some ⟨B, k, none⟩) dLen dCap) (hx : a.eval x = .string t) (hB : Blk w B T C)
    (hu : P.underlying dT = some (.slice elem)) (hs : (P.info? elem).map (·.size) = some 1) (hle : t.size ≤ dLen) (hfit : k + t.size ≤ C.size) (hC : (C.toList.take k ++ Lib.byteCells t.data.toList ++ C.toList.drop (k + t.size)).toArray = C')
    (h : ∀ w', Blk w' B T C' → Below B w w' → w.grownBy w' (some B) → wpList P ops Q rest (a.put o.dst (goInt t.size)) w') : wpList P ops Q (o :: rest) a w :=
  wpList_step fun K hK => by
    rw [if_pos hw]
    exact wp_copy_text t C' elem hop hd hx hB hu hs hle hfit hC (fun w' h1 h2 h3 => hK _ _ (h w' h1 h2 h3))
def bC (l : List UInt8) : Array Value := (Lib.byteCells l).toArray
theorem bC_eq (l : List UInt8) : bC l = (l.map fun b => Value.int .u8 (b.toNat : Int)).toArray := rfl
theorem bC_size (l : List UInt8) : (bC l).size = l.length := by rw [bC_eq]; simp
theorem bC_at (l : List UInt8) (k : Nat) (h : k < l.length) : (bC l)[k]? = some (.int .u8 ((l.getD k 0).toNat : Int)) := by
  rw [bC_eq, List.getD_eq_getElem?_getD, List.getElem?_eq_getElem h]
  simp [h]
theorem bC_set (l : List UInt8) (k : Nat) (b : UInt8) : (bC l).setIfInBounds k (.int .u8 (b.toNat : Int)) = bC (l.set k b) := by
  rw [bC_eq, bC_eq]
  simp [List.map_set]
theorem Tryd.k64Zero : (Tryd.prog.info? 80).map (·.zero) = some (some (.agg (bC (List.replicate 64 0)))) := by kernel_rfl
theorem bC_copy (l : List UInt8) (h : l.length ≤ 64) : ((bC (List.replicate 64 0)).toList.take 0 ++ Lib.byteCells l ++ (bC (List.replicate 64 0)).toList.drop (0 + l.length)).toArray = bC (l ++ List.replicate (64 - l.length) 0) := by
  rw [bC_eq, bC_eq]
  rw [List.take_zero, List.nil_append, Nat.zero_add, ← List.map_drop, List.drop_replicate, List.map_append]
  rfl
/-- A short key as a block. -/
def keyP (k : List UInt8) : List UInt8 := k ++ List.replicate (64 - k.length) 0
theorem keyP_len (k : List UInt8) (h : k.length ≤ 64) : (keyP k).length = 64 := by unfold keyP; simp; omega

set_option maxHeartbeats 3200000 in
theorem padded_any (key : ByteArray) (x : UInt8) (hk : key.size ≤ 64) (w : World) :
    Calls Tryd.prog 38 #[.string key, .int .u8 (x.toNat : Int)] w fun e w' => e = .returned (.string ⟨(xorL (keyP key.data.toList) x).toArray⟩) ∧ Below w.heap.size w w' := by
  obtain ⟨l, hl⟩ : ∃ l, l = keyP key.data.toList := ⟨_, rfl⟩
  have hlen : l.length = 64 := by rw [hl]; exact keyP_len _ (by simpa using hk)
  have hcp : ((bC (List.replicate 64 0)).toList.take 0 ++ Lib.byteCells key.data.toList ++ (bC (List.replicate 64 0)).toList.drop (0 + key.size)).toArray = bC l := by
    have h := bC_copy key.data.toList (by simpa using hk)
    rw [hl]
    unfold keyP
    rw [← h]
    simp
  have HN := Blk.new w 80 (bC (List.replicate 64 0))
  have B0 : Below w.heap.size w (w.alloc (.cells (bC (List.replicate 64 0)) 80)) := (Below.refl _ _).alloc (Nat.le_refl _) _
  have hx8 := x.toNat_lt
  have HCP := Lib.hid hcp
  have hfit : 0 + key.size ≤ (bC (List.replicate 64 (0 : UInt8))).size := by rw [bC_size, List.length_replicate]; omega
  have HLN := Lib.hid hlen
  rw [← hl]
  clear hl hcp hlen
  go_enter Tryd.func38, Tryd.ntmps38
  go_upto_region 2 with (refine alloc_blk 80 (bC (List.replicate 64 0)) (by rfl) rfl Tryd.k64Zero ?_)
  generalize w.alloc (.cells (bC (List.replicate 64 0)) 80) = w1 at *
  generalize bC (List.replicate 64 0) = C0 at *
  (try simp only [Act.put, List.setIfInBounds_toArray, List.set_cons_zero, List.set_cons_succ])
  go_wp2_with (refine copy_text (k := 0) (dLen := 64) (dCap := 64) (T := 80) key (bC l) 5 (by rfl) rfl rfl rfl HN Tryd.underlying51 (by kernel_rfl) hk hfit HCP.out (fun w2 H2 b2 g2 => ?_))
  have B2 := B0.trans b2
  clear HN B0 b2 g2 HCP hfit
  go_loopw [10] (fun i wr => ∃ k : Nat, k ≤ 64 ∧ i = .int .i64 k ∧ Blk wr w.heap.size 80 (bC (mxL l x k)) ∧ Below w.heap.size w wr) (fun i _ => 64 - (intOf i).toNat)
  case atStart => exact ⟨0, by omega, rfl, by rw [mxL_zero]; exact H2, B2⟩
  case round =>
    clear H2 B2
    obtain ⟨k, hk2, rfl, HB, hb⟩ := hrel
    by_cases hlt : k < 64
    · have hkl : k < l.length := by rw [HLN.out]; exact hlt
      have hkm : k < (mxL l x k).length := by rw [mxL_len]; exact hkl
      have hc := HB.cv k _ (bC_at (mxL l x k) k hkm)
      rw [mxL_get l x k hkl] at hc
      have hst := st_cell (bC (mxL l x k)) (bC (mxL l x (k + 1))) k (.int .u8 ((l.getD k 0 ^^^ x).toNat : Int)) rfl (by rw [bC_size]; exact hkm) (by rw [bC_set, mxL_set l x k hkl])
      have hkz : k + (Value.int .u8 ((l.getD k 0 ^^^ x).toNat : Int)).cells.toList.length ≤ (bC (mxL l x k)).size := by rw [bC_size]; exact hkm
      have hxr : bits BinOp.xor IntKind.u8 ((l.getD k 0).toNat : Int) (x.toNat : Int) = ((l.getD k 0 ^^^ x).toNat : Int) := by
        rw [u8_xor_nat _ _ (l.getD k 0).toNat_lt hx8, UInt8.toNat_xor]
      have HST := Lib.hid hst
      have HKZ := Lib.hid hkz
      clear hkm hst hkz
      obtain ⟨C2, hC2⟩ : ∃ C, C = bC (mxL l x (k + 1)) := ⟨_, rfl⟩
      have HC2 := Lib.hid hC2
      rw [← hC2] at HST
      clear hC2
      generalize bC (mxL l x k) = C1 at *
      generalize l.getD k 0 ^^^ x = z at *
      generalize l.getD k 0 = y at *
      go_wp2_with (refine store_blk (k := k) 5 (.int .u8 (z.toNat : Int)) C2 (by rfl) rfl rfl rfl HB (by kernel_rfl) HKZ.out rfl HST.out (fun w4 HV b4 g4 => ?_))
      go_roundw
      case rel => exact ⟨k + 1, by omega, by go_num, by rw [← HC2.out]; exact HV, hb.trans (b4.mono (Nat.le_refl _))⟩
      case measure => simp [intOf]; omega
    · obtain rfl : k = 64 := by omega
      have hcv : (convert 51 9 (.slice (some ⟨w.heap.size, 0, none⟩) 64 64)).run Tryd.prog wr = .ok (.string ⟨(xorL l x).toArray⟩) wr := by
        have hll : (xorL l x).length = 64 := by unfold xorL; rw [List.length_map, HLN.out]
        have h := run_convert_bytes_back (P := Tryd.prog) wr 51 9 5 ⟨w.heap.size, 0, none⟩ 64 (xorL l x) Tryd.underlying51 Tryd.underlying5 Tryd.underlying9 (fun j hj => by
          have e := mxL_all l x
          rw [HLN.out] at e
          rw [e] at HB
          have q := HB.cv j _ (bC_at (xorL l x) j hj)
          rw [Addr.add_lit, Nat.zero_add, q, List.getD_eq_getElem?_getD, List.getElem?_eq_getElem hj]
          rfl)
        rw [hll] at h
        exact h
      clear HB
      go_wp2
      go_ret
      exact ⟨rfl, hb⟩

end Go.Proofs.YtlfeholphngilaaDoor
