/- region.Right, region.Inst at every list. region.Table at every list. region.Digest at every list. The reference's bytesOf and be at every number. The reference's SpanTable, SpanDigest. A list of spans that comes in. switchyardlaw.RegionMarks returns true at every list of spans, and changes nothing that was there. -/
import Derived.Test.YtlfeholphngilaaGreatDoorSpan
import Derived.Test.YtlfeholphngilaaGreatDoorTabM
import Derived.Test.YtlfeholphngilaaGreatDoorStOp
import Derived.Test.YtlfeholphngilaaGreatDoorIsB
import Derived.Test.YtlfeholphngilaaGreatDoorMust
import Derived.Test.YtlfeholphngilaaGreatDoorMdHmac
import Derived.Test.YtlfeholphngilaaGreatDoorNum
import Derived.Test.YtlfeholphngilaaGreatDoorBlk
import Derived.Test.YtlfeholphngilaaGreatDoorBy
import Derived.Test.YtlfeholphngilaaGreatDoorRefInst
import Derived.Test.YtlfeholphngilaaGreatDoorRefHmac
import Derived.ProofKit
import Derived.OpenShut
import Derived.WideKeyArgs
import Derived.WideShapes
import Derived.Lib.SmallJoins
import Derived.Deep.SlicePairs
import Derived.Test.YtlfeholphngilaaGreatDoorRefSpRight
import Derived.Test.YtlfeholphngilaaGreatDoorBare
namespace Go.Proofs.YtlfeholphngilaaGreatDoor
open Go.RowKit
attribute [local go_sem ↓] Go.wp_at_zero Go.wp_at_succ
set_option linter.unusedSimpArgs false
set_option linter.unusedVariables false
set_option maxRecDepth 100000

theorem okSp_mk2 {a : Int} {x : Sp} (h : ¬ x.f ≤ a ∧ ¬ x.t < x.f ∧ ¬ 4094 < x.t ∧ ¬ x.i < 0 ∧ ¬ 64 < x.i) : okSp a x = true := by
  unfold okSp; simp only [Bool.and_eq_true, decide_eq_true_eq]; omega
theorem okSp_no {a : Int} {x : Sp} (h : x.f ≤ a ∨ x.t < x.f ∨ 4094 < x.t ∨ x.i < 0 ∨ 64 < x.i) : okSp a x = false := by
  unfold okSp; simp only [Bool.and_eq_false_iff, decide_eq_false_iff_not]; omega
set_option maxHeartbeats 6400000 in
theorem spRight_any (a : Option Addr) (c : Nat) (l : List Sp) (w : World) (h : SpIn w a l) (hlen : l.length ≤ 1000000) :
    Calls Tryz.prog 10 #[.slice a l.length c] w fun e w' => e = .returned (.bool (rightL l)) ∧ Below w.heap.size w w' := by
  go_enter Tryz.func10, Tryz.ntmps10
  go_wp2_with fail
  go_loopw [3, 8] (fun la i wr => ∃ k : Nat, k ≤ l.length ∧ i = .int .i64 k ∧ la = .int .i64 (lastSp l k) ∧ Hid (rightL l = rightG (lastSp l k) (l.drop k)) ∧ Below w.heap.size w wr) (fun _ i _ => l.length - (intOf i).toNat)
  case atStart => exact ⟨0, by omega, rfl, rfl, rfl, Below.refl _ _⟩
  case round =>
    obtain ⟨k, hk, rfl, rfl, HZ, hb⟩ := hrel
    by_cases hlt : k < l.length
    · skip
      obtain ⟨bk, o, rfl, hbk, hat⟩ := h.at hlt
      have b1 : (k : Int) < (l.length : Int) := by omega
      have b2 : decide ((k : Int) < (l.length : Int)) = true := decide_eq_true b1
      have b3 : (0 : Int) ≤ (k : Int) := by omega
      have HK := (hat k hlt).below hb hbk
      have B0 := hb.alloc hb.size (.cells (spC zSp) 33)
      have HN := Blk.new wr 33 (spC zSp)
      have HD := rightG_drop l (lastSp l k) k hlt
      have HLS := Lib.hid (lastSp_succ l k hlt)
      generalize hla : lastSp l k = la at *
      generalize l[k] = x at *
      clear hla
      go_upto_region 5 with (first
        | (refine load_cells 33 (spC x) (by rfl) rfl rfl HK (by kernel_rfl) (by kernel_rfl) ?_)
        | (refine alloc_blk 33 (spC zSp) (by rfl) rfl Tryz.spZero ?_)
        | (refine store_blk (k := 0) 33 (.agg (spC x)) (spC x) (by rfl) rfl rfl rfl HN (by kernel_rfl) (show (3 : Nat) ≤ 3 from Nat.le_refl 3) (by rfl) (st_whole _ _ rfl) (fun w4 HV b4 g4 => ?_)))
      have hb4 : Below w.heap.size w w4 := B0.trans (b4.mono hb.size)
      have c0 := HV.cv 0 (.int .i64 x.f) rfl
      have c1 := HV.cv 1 (.int .i64 x.t) rfl
      have c2 := HV.cv 2 (.int .i64 x.i) rfl
      clear HN B0 b4 g4 HK HV
      by_cases q0 : x.f ≤ la
      · have d0 : decide (x.f ≤ la) = true := decide_eq_true q0
        have HR : Hid (rightL l = false) := by
          show _ = _
          rw [HZ.out, HD, show okSp la x = false from okSp_no (by omega), Bool.false_and]
        clear HD HZ
        go_wp2
        go_ret
        exact ⟨by rw [HR.out]; rfl, hb4⟩
      · have d0 : decide (x.f ≤ la) = false := decide_eq_false q0
        by_cases q1 : x.t < x.f
        · have d1 : decide (x.t < x.f) = true := decide_eq_true q1
          have HR : Hid (rightL l = false) := by
            show _ = _
            rw [HZ.out, HD, show okSp la x = false from okSp_no (by omega), Bool.false_and]
          clear HD HZ
          go_wp2
          go_ret
          exact ⟨by rw [HR.out]; rfl, hb4⟩
        · have d1 : decide (x.t < x.f) = false := decide_eq_false q1
          by_cases q2 : 4094 < x.t
          · have d2 : decide (4094 < x.t) = true := decide_eq_true q2
            have HR : Hid (rightL l = false) := by
              show _ = _
              rw [HZ.out, HD, show okSp la x = false from okSp_no (by omega), Bool.false_and]
            clear HD HZ
            go_wp2
            go_ret
            exact ⟨by rw [HR.out]; rfl, hb4⟩
          · have d2 : decide (4094 < x.t) = false := decide_eq_false q2
            by_cases q3 : x.i < 0
            · have d3 : decide (x.i < 0) = true := decide_eq_true q3
              have HR : Hid (rightL l = false) := by
                show _ = _
                rw [HZ.out, HD, show okSp la x = false from okSp_no (by omega), Bool.false_and]
              clear HD HZ
              go_wp2
              go_ret
              exact ⟨by rw [HR.out]; rfl, hb4⟩
            · have d3 : decide (x.i < 0) = false := decide_eq_false q3
              by_cases q4 : 64 < x.i
              · have d4 : decide (64 < x.i) = true := decide_eq_true q4
                have HR : Hid (rightL l = false) := by
                  show _ = _
                  rw [HZ.out, HD, show okSp la x = false from okSp_no (by omega), Bool.false_and]
                clear HD HZ
                go_wp2
                go_ret
                exact ⟨by rw [HR.out]; rfl, hb4⟩
              · have d4 : decide (64 < x.i) = false := decide_eq_false q4
                have HR : Hid (rightL l = rightG (lastSp l (k + 1)) (l.drop (k + 1))) := by
                  show _ = _
                  rw [HZ.out, HD, show okSp la x = true from okSp_mk2 (by omega), Bool.true_and, HLS.out]
                clear HD HZ
                go_wp2
                go_roundw
                case rel => exact ⟨k + 1, by omega, by go_num, by rw [HLS.out], HR, hb4⟩
                case measure => simp [intOf]; omega
    · obtain rfl : k = l.length := by omega
      have b2 : decide ((l.length : Int) < (l.length : Int)) = false := decide_eq_false (by omega)
      have HR : Hid (rightL l = true) := by
        show _ = _
        rw [HZ.out, List.drop_length]
        rfl
      clear HZ
      go_wp2
      go_ret
      exact ⟨by rw [HR.out]; rfl, hb⟩



end Go.Proofs.YtlfeholphngilaaGreatDoor

namespace Go.Proofs.YtlfeholphngilaaGreatDoor
open Go.RowKit
attribute [local go_sem ↓] Go.wp_at_zero Go.wp_at_succ
set_option linter.unusedSimpArgs false
set_option linter.unusedVariables false
set_option maxRecDepth 100000

theorem Tryz.tabZero : (Tryz.prog.info? 31).map (·.zero) = some (some (.agg (rowF 4096 (fun _ => 0)))) := by kernel_rfl
theorem Tryz.tabSize (f : Nat → Int) : (Tryz.prog.info? 31).map (·.size) = some (rowF 4096 f).size := by rw [rowF_size]; kernel_rfl
theorem mustV (v : Int) (h0 : 0 ≤ v) (h1 : v ≤ 64) (w : World) : Calls Tryz.prog 12 #[.int .i64 v, .int .i64 2] w fun e w' => e = .returned (.string ⟨(putL v.toNat 2).toArray⟩) ∧ Below w.heap.size w w' := by
  obtain ⟨X, rfl⟩ := Int.eq_ofNat_of_zero_le h0
  exact must_fits X 2 w (by omega) (by omega) (by show X < 65536; omega)
/-- A part of the table is written: VIDs from F to below v. -/
def partF (F v : Nat) (X : Int) (g : Nat → Int) : Nat → Int := fun j => if F ≤ j ∧ j < v then X else g j
theorem partF_first (F : Nat) (X : Int) (g : Nat → Int) : partF F F X g = g := by
  funext j
  unfold partF
  rw [if_neg (by omega)]
theorem partF_next (F v : Nat) (X : Int) (g : Nat → Int) (h : F ≤ v) : (fun j => if j = v then X else partF F v X g j) = partF F (v + 1) X g := by
  funext j
  unfold partF
  by_cases c : j = v
  · rw [if_pos c, if_pos (by omega)]
  · rw [if_neg c]
    by_cases d : F ≤ j ∧ j < v
    · rw [if_pos d, if_pos (by omega)]
    · rw [if_neg d, if_neg (by omega)]
theorem partF_last (l : List Sp) (h : rightL l = true) (k : Nat) (hk : k < l.length) (F T : Nat) (hF : l[k].f = (F : Int)) (hT : l[k].t = (T : Int)) :
    partF F (T + 1) l[k].i (fun (j : Nat) => instL (l.take k) (j : Int)) = fun (j : Nat) => instL (l.take (k + 1)) (j : Int) := by
  funext j
  rw [tab_step l h k hk]
  unfold partF hasSp
  rw [hF, hT]
  by_cases c : F ≤ j ∧ j < T + 1
  · rw [if_pos c, if_pos (by simp only [Bool.and_eq_true, decide_eq_true_eq]; omega)]
  · rw [if_neg c, if_neg (by simp only [Bool.and_eq_true, decide_eq_true_eq]; omega)]

set_option maxHeartbeats 3200000 in
theorem spTable_bad (a : Option Addr) (c : Nat) (l : List Sp) (w : World) (h : SpIn w a l) (hlen : l.length ≤ 1000000) (hr : rightL l = false) :
    Calls Tryz.prog 4 #[.slice a l.length c] w fun e w' => e = .returned (.tuple #[.string ⟨#[]⟩, .iface 29 (.int .i64 1)]) ∧ Below w.heap.size w w' := by
  have HR := Lib.hid (spRight_any a c l w h hlen)
  rw [hr] at HR
  go_enter Tryz.func4, Tryz.ntmps4
  go_wp2_with fail
  refine HR.out.mono ?_
  rintro e w1 ⟨rfl, k1⟩
  go_wp2
  go_ret2
  exact ⟨rfl, k1⟩

set_option maxHeartbeats 12800000 in
theorem spTable_ok (a : Option Addr) (c : Nat) (l : List Sp) (w : World) (h : SpIn w a l) (hlen : l.length ≤ 1000000) (hr : rightL l = true) :
    Calls Tryz.prog 4 #[.slice a l.length c] w fun e w' => e = .returned (.tuple #[.string ⟨(tabB l).toArray⟩, .nilIface]) ∧ Below w.heap.size w w' := by
  have HR := Lib.hid (spRight_any a c l w h hlen)
  rw [hr] at HR
  have HRI := Lib.hid (inst_range l 0)
  have HAT := Lib.hid (right_at l hr)
  have HPL := Lib.hid (partF_last l hr)
  have HRR := Lib.hid hr
  clear hr
  go_enter Tryz.func4, Tryz.ntmps4
  go_wp2_with fail
  refine HR.out.mono ?_
  rintro e w1 ⟨rfl, k1⟩
  have hD : w.heap.size ≤ w1.heap.size := k1.size
  have H0 := Blk.new w1 31 (rowF 4096 (fun _ => 0))
  have B0 := k1.alloc hD (.cells (rowF 4096 (fun _ => 0)) 31)
  have HZ : Hid ((Tryz.prog.info? 31).map (·.zero) = some (some (.agg (rowF 4096 (fun _ => 0))))) := Tryz.tabZero
  have HI : Hid (rowF 4096 (fun _ => 0) = rowF 4096 (fun j => instL (l.take 0) (j : Int))) := by show _ = _; rw [List.take_zero]; rfl
  generalize rowF 4096 (fun _ => 0) = Z0 at *
  go_upto_region 4 with (refine alloc_blk 31 Z0 (by rfl) rfl HZ.out ?_)
  generalize w1.alloc (.cells Z0 31) = w2 at *
  generalize w1.heap.size = D at *
  (try simp only [Act.put, List.setIfInBounds_toArray, List.set_cons_zero, List.set_cons_succ])
  clear k1
  go_wp2_with fail
  rw [HI.out] at H0
  clear HI HZ
  go_loopw [7, 17] (fun _ i wr => ∃ k : Nat, k ≤ l.length ∧ i = .int .i64 k ∧ Blk wr D 31 (rowF 4096 (fun j => instL (l.take k) (j : Int))) ∧ Below w.heap.size w wr) (fun _ i _ => l.length - (intOf i).toNat)
  case atStart => exact ⟨0, by omega, rfl, H0, B0⟩
  case round =>
    clear H0 B0
    obtain ⟨k, hk, rfl, HT, hb⟩ := hrel
    by_cases hlt : k < l.length
    · skip
      obtain ⟨bk, o, rfl, hbk, hat⟩ := h.at hlt
      have b1 : (k : Int) < (l.length : Int) := by omega
      have b2 : decide ((k : Int) < (l.length : Int)) = true := decide_eq_true b1
      have b3 : (0 : Int) ≤ (k : Int) := by omega
      have HK := (hat k hlt).below hb hbk
      have B0 := hb.alloc hb.size (.cells (spC zSp) 33)
      have HN := Blk.new wr 33 (spC zSp)
      obtain ⟨r1, r2, r3, r4, r5⟩ := HAT.out k hlt
      have hDG : D < wr.heap.size := HT.lt
      have HT0 := HT.alloc (.cells (spC zSp) 33)
      have HPK := Lib.hid (HPL.out k hlt)
      generalize l[k] = x at *
      obtain ⟨F, hF⟩ := Int.eq_ofNat_of_zero_le (show 0 ≤ x.f by omega)
      obtain ⟨T, hT⟩ := Int.eq_ofNat_of_zero_le (show 0 ≤ x.t by omega)
      have hFT : F ≤ T := by omega
      have hT4 : T ≤ 4094 := by omega
      have hF1 : 1 ≤ F := by omega
      have HPE := Lib.hid (HPK.out F T hF hT)
      generalize (fun j : Nat => instL (l.take k) (j : Int)) = gf at *
      skip
      go_upto_region 7 with (first
        | (refine load_cells 33 (spC x) (by rfl) rfl rfl HK (by kernel_rfl) (by kernel_rfl) ?_)
        | (refine alloc_blk 33 (spC zSp) (by rfl) rfl Tryz.spZero ?_)
        | (refine store_blk (k := 0) 33 (.agg (spC x)) (spC x) (by rfl) rfl rfl rfl HN (by kernel_rfl) (show (3 : Nat) ≤ 3 from Nat.le_refl 3) (by rfl) (st_whole _ _ rfl) (fun w4 HV b4 g4 => ?_)))
      have hb4 : Below w.heap.size w w4 := B0.trans (b4.mono hb.size)
      have c0 := HV.cv 0 (.int .i64 x.f) rfl
      have c1 := HV.cv 1 (.int .i64 x.t) rfl
      have c2 := HV.cv 2 (.int .i64 x.i) rfl
      have hGD : wr.heap.size ≠ D := by omega
      have HT4 := HT0.below b4 hDG
      have hwG : w.heap.size ≤ wr.heap.size := hb.size
      rw [hF] at c0
      rw [hT] at c1
      clear HN B0 b4 g4 HK HT HT0
      go_wp2_with fail
      generalize hG : wr.heap.size = G at *
      have HPF := Lib.hid (partF_first F x.i gf)
      go_loopw [7] (fun i wv => ∃ v : Nat, F ≤ v ∧ v ≤ T + 1 ∧ i = .int .i64 v ∧ Blk wv D 31 (rowF 4096 (partF F v x.i gf)) ∧ Blk wv G 33 (spC x) ∧ Below w.heap.size w wv) (fun i _ => T + 1 - (intOf i).toNat)
      case atStart => exact ⟨F, by omega, by omega, rfl, by rw [HPF.out]; exact HT4, HV, hb4⟩
      case round =>
        clear HT4 HV hb4 c0 c1 c2
        obtain ⟨v, hv1, hv2, rfl, HTv, HVv, hbv⟩ := hrel
        have c1 := HVv.cv 1 (.int .i64 x.t) rfl
        have c2 := HVv.cv 2 (.int .i64 x.i) rfl
        rw [hT] at c1
        by_cases hvl : v ≤ T
        · have hd : decide ((v : Int) ≤ (T : Int)) = true := decide_eq_true (by omega)
          have hd1 : (v : Int) ≤ (T : Int) := by omega
          have hv4 : (v : Int) < 4096 := by omega
          have hst := st_cell (rowF 4096 (partF F v x.i gf)) (rowF 4096 (partF F (v + 1) x.i gf)) v (.int .i64 x.i) rfl (by rw [rowF_size]; omega) (by rw [rowF_set 4096 _ v (by omega), partF_next F v x.i gf hv1])
          have hkz : v + (Value.int .i64 x.i).cells.toList.length ≤ (rowF 4096 (partF F v x.i gf)).size := by rw [rowF_size]; show v + 1 ≤ 4096; omega
          have HST := Lib.hid hst
          have HKZ := Lib.hid hkz
          obtain ⟨C2, hC2⟩ : ∃ C, C = rowF 4096 (partF F (v + 1) x.i gf) := ⟨_, rfl⟩
          have HC2 := Lib.hid hC2
          rw [← hC2] at HST
          clear hst hkz hC2
          generalize rowF 4096 (partF F v x.i gf) = C1 at *
          go_wp2_with (refine store_blk (k := v) 3 (.int .i64 x.i) C2 (by rfl) rfl rfl rfl HTv (by kernel_rfl) HKZ.out rfl HST.out (fun w5 R5 b5 g5 => ?_))
          go_roundw
          case rel => exact ⟨v + 1, by omega, by omega, by go_num, by rw [← HC2.out]; exact R5, HVv.grown g5 (by simp; omega), hbv.trans (b5.mono hD)⟩
          case measure => simp [intOf]; omega
        · obtain rfl : v = T + 1 := by omega
          have hd : decide (((T + 1 : Nat) : Int) ≤ (T : Int)) = false := decide_eq_false (by omega)
          have hd1 : ¬ ((T + 1 : Nat) : Int) ≤ (T : Int) := by omega
          rw [HPE.out] at HTv
          generalize T + 1 = T1 at *
          go_wp2_with fail
          go_roundw
          case rel => exact ⟨k + 1, by omega, by go_num, HTv, hbv⟩
          case measure => simp [intOf]; omega
    · obtain rfl : k = l.length := by omega
      have b2 : decide ((l.length : Int) < (l.length : Int)) = false := decide_eq_false (by omega)
      rw [List.take_length] at HT
      have HB0 := build_new wr
      have hBw : w.heap.size ≤ wr.heap.size := hb.size
      have C0 := hb.alloc hBw (.cells #[.pointer none, .slice none 0 0] 37)
      have HT0 := HT.alloc (.cells #[.pointer none, .slice none 0 0] 37)
      have hB9 : wr.heap.size ≤ (wr.alloc (.cells #[.pointer none, .slice none 0 0] 37)).heap.size := by simp
      have HSZ := Lib.hid (Tryz.tabSize (fun j => instL l (j : Int)))
      have HTK : Hid (((rowF 4096 (fun j => instL l (j : Int))).toList.drop 0).take (rowF 4096 (fun j => instL l (j : Int))).size = (rowF 4096 (fun j => instL l (j : Int))).toList) := by show _ = _; rw [List.drop_zero]; exact List.take_of_length_le (by rw [Array.length_toList]; exact Nat.le_refl _)
      have HAR := Lib.hid (fun j hj => rowF_at 4096 (fun j => instL l (j : Int)) j hj)
      generalize rowF 4096 (fun j => instL l (j : Int)) = TC at *
      go_upto_region 13 with (refine alloc_blk 37 #[.pointer none, .slice none 0 0] (by rfl) rfl Tryz.bdZero ?_)
      generalize wr.alloc (.cells #[.pointer none, .slice none 0 0] 37) = w9 at *
      generalize wr.heap.size = E at *
      (try simp only [Act.put, List.setIfInBounds_toArray, List.set_cons_zero, List.set_cons_succ])
      go_upto_region 14 with (refine load_blk (k := 0) 31 TC (by rfl) rfl rfl HT0 (by kernel_rfl) HSZ.out HTK.out ?_)
      clear HT HT0 hb
      go_loopw [10, 35] (fun _ i wr => ∃ t : Nat, t ≤ 4096 ∧ i = .int .i64 t ∧ Lib.IsBuilder 37 5 E E (Lib.byteCells (bwN 2 ((tabI l).take t))) wr ∧ Below w.heap.size w wr ∧ E ≤ wr.heap.size) (fun _ i _ => 4096 - (intOf i).toNat)
      case atStart => exact ⟨0, by omega, rfl, HB0, C0, hB9⟩
      case round =>
        clear HB0 C0 hB9
        obtain ⟨t, ht, rfl, HBk, Bk, hEw⟩ := hrel
        by_cases htl : t < 4096
        · have hrg := HRI.out (t : Int) HRR.out
          have hix := run_index_arr (P := Tryz.prog) wr 31 3 4096 t TC _ Tryz.underlying31 (by kernel_rfl) htl (by kernel_rfl) (HAR.out t htl)
          have HM := Lib.hid (fun W => mustV (instL l (t : Int)) hrg.1 hrg.2 W)
          have HS := Lib.hid (tabB_step l t htl)
          have HLn : Hid ((bwN 2 ((tabI l).take t)).length ≤ 8192) := by
            show _ ≤ _
            rw [bwN_len, List.length_take, tabI_len]
            omega
          have HLp := Lib.hid (putL_length (instL l (t : Int)).toNat 2)
          generalize putL (instL l (t : Int)).toNat 2 = P2 at *
          generalize instL l (t : Int) = y at *
          go_wp2_with (refine index_blk TC _ (by rfl) rfl rfl rfl hix ?_)
          refine (HM.out _).mono ?_
          rintro e w3 ⟨rfl, k3⟩
          have HB3 := isB_below HBk k3
          have hbn : (Lib.byteCells (bwN 2 ((tabI l).take t))).length ≤ 8192 := by
            have hq : (Lib.byteCells (bwN 2 ((tabI l).take t))).length = (bwN 2 ((tabI l).take t)).length := by simp [Lib.byteCells]
            have := HLn.out
            omega
          have hpn : (⟨P2.toArray⟩ : ByteArray).size = 2 := by show P2.toArray.size = 2; simpa using HLp.out
          go_wp2_with fail
          refine (build_write E E _ ⟨P2.toArray⟩ _ HB3 (by omega) (Nat.le_trans hEw k3.size)).mono ?_
          rintro e w5 ⟨rfl, HB5, k5⟩
          have HB6 : Lib.IsBuilder 37 5 E E (Lib.byteCells (bwN 2 ((tabI l).take (t + 1)))) w5 := by
            rw [HS.out]
            simpa [Lib.byteCells, Lib.strCells] using HB5
          have B5 := (Bk.trans (k3.mono Bk.size)).trans (k5.mono hBw)
          have hE5 : E ≤ w5.heap.size := Nat.le_trans hEw (Nat.le_trans k3.size k5.size)
          clear hbn hpn HB3 HB5 HBk k3 k5
          go_wp2
          go_roundw
          case rel => exact ⟨t + 1, by omega, by go_num, HB6, B5, hE5⟩
          case measure => simp [intOf]; omega
        · obtain rfl : t = 4096 := by omega
          rw [show (tabI l).take 4096 = tabI l from List.take_of_length_le (by rw [tabI_len]; exact Nat.le_refl _)] at HBk
          go_wp2_with fail
          refine (Tryz.Builder_String_any E E _ _ HBk hEw).mono ?_
          rintro e w6 ⟨rfl, k6⟩
          go_wp2
          go_ret2
          exact ⟨rfl, Bk.trans (k6.mono hBw)⟩

end Go.Proofs.YtlfeholphngilaaGreatDoor

namespace Go.Proofs.YtlfeholphngilaaGreatDoor
open Go.RowKit
attribute [local go_sem ↓] Go.wp_at_zero Go.wp_at_succ
set_option linter.unusedSimpArgs false
set_option linter.unusedVariables false
set_option maxRecDepth 100000

def keyB : ByteArray := ⟨#[19, 172, 6, 166, 46, 71, 253, 81, 249, 93, 43, 162, 67, 205, 3, 70]⟩
theorem keyB_list : keyB.data.toList = mstKey := rfl
set_option maxHeartbeats 3200000 in
theorem spDigest_bad (a : Option Addr) (c : Nat) (l : List Sp) (w : World) (h : SpIn w a l) (hlen : l.length ≤ 1000000) (hr : rightL l = false) :
    Calls Tryz.prog 5 #[.slice a l.length c] w fun e w' => e = .returned (.tuple #[.string ⟨#[]⟩, .iface 29 (.int .i64 1)]) ∧ Below w.heap.size w w' := by
  have HT := Lib.hid (spTable_bad a c l w h hlen hr)
  clear hr
  go_enter Tryz.func5, Tryz.ntmps5
  go_wp2_with fail
  refine HT.out.mono ?_
  rintro e w1 ⟨rfl, k1⟩
  go_wp2
  go_ret2
  exact ⟨rfl, k1⟩
set_option maxHeartbeats 3200000 in
theorem spDigest_ok (a : Option Addr) (c : Nat) (l : List Sp) (w : World) (h : SpIn w a l) (hlen : l.length ≤ 1000000) (hr : rightL l = true) (HM : HasMd w) :
    Calls Tryz.prog 5 #[.slice a l.length c] w fun e w' => e = .returned (.tuple #[.string ⟨(hmacL mstKey (tabB l)).toArray⟩, .nilIface]) ∧ Below w.heap.size w w' := by
  have HT := Lib.hid (spTable_ok a c l w h hlen hr)
  have hts : (⟨(tabB l).toArray⟩ : ByteArray).size ≤ 900000 := by show (tabB l).toArray.size ≤ _; rw [List.size_toArray, tabB_len]; omega
  have HH : Hid (∀ W, HasMd W → Calls Tryz.prog 14 #[.string ⟨#[19, 172, 6, 166, 46, 71, 253, 81, 249, 93, 43, 162, 67, 205, 3, 70]⟩, .string ⟨(tabB l).toArray⟩] W fun e w' => e = .returned (.string ⟨(hmacL mstKey (tabB l)).toArray⟩) ∧ Below W.heap.size W w') := fun W HM => by
    have h := mdHmac_any keyB ⟨(tabB l).toArray⟩ (by decide) hts W HM
    rw [keyB_list] at h
    exact h
  generalize (⟨(hmacL mstKey (tabB l)).toArray⟩ : ByteArray) = out at *
  generalize (⟨(tabB l).toArray⟩ : ByteArray) = tb at *
  clear hr
  go_enter Tryz.func5, Tryz.ntmps5
  go_wp2_with fail
  refine HT.out.mono ?_
  rintro e w1 ⟨rfl, k1⟩
  go_wp2_with fail
  refine (HH.out _ (HM.below k1)).mono ?_
  rintro e w2 ⟨rfl, k2⟩
  go_wp2
  go_ret2
  exact ⟨rfl, k1.trans (k2.mono k1.size)⟩

end Go.Proofs.YtlfeholphngilaaGreatDoor

namespace Go.Proofs.YtlfeholphngilaaGreatDoor
open Go.RowKit
attribute [local go_sem ↓] Go.wp_at_zero Go.wp_at_succ

theorem one_byte (W : World) (b : UInt8) :
    (convert 35 9 (.slice (some ⟨W.heap.size, 0, none⟩) 1 1)).run Tryz.prog (W.alloc (.cells #[.int .u8 (b.toNat : Int)] 5)) = .ok (.string ⟨#[b]⟩) (W.alloc (.cells #[.int .u8 (b.toNat : Int)] 5)) := by
  have h := run_convert_bytes_back (P := Tryz.prog) (W.alloc (.cells #[.int .u8 (b.toNat : Int)] 5)) 35 9 5 ⟨W.heap.size, 0, none⟩ 1 [b] Tryz.underlying35 Tryz.underlying5 Tryz.underlying9 (fun j hj => by
    have hj0 : j = 0 := by simp at hj; exact hj
    subst hj0
    rw [Addr.add_lit, World.cell?_alloc_at _ _ _ _ rfl]
    rfl)
  exact h

theorem one_digit (W : World) (y : Nat) :
    (convert 35 9 (.slice (some ⟨W.heap.size, 0, none⟩) 1 1)).run Tryz.prog (W.alloc (.cells #[.int .u8 ((y : Int) % 256)] 5)) = .ok (.string ⟨#[UInt8.ofNat (y % 256)]⟩) (W.alloc (.cells #[.int .u8 ((y : Int) % 256)] 5)) := by
  have e : ((y : Int) % 256) = ((UInt8.ofNat (y % 256)).toNat : Int) := by rw [UInt8.toNat_ofNat', Nat.mod_mod]; omega
  rw [e]
  exact one_byte W _

set_option maxHeartbeats 800000 in
set_option maxRecDepth 100000 in
theorem bytesOf_any (X n : Nat) (w : World) (h8 : n ≤ 8) (HX : Hid (X ≤ 18446744073709551615)) :
    Calls Tryz.prog 25 #[.int .u64 X, .int .i64 n] w fun e w' => e = .returned (.string ⟨(putL X n).toArray⟩) ∧ Below w.heap.size w w' := by
  go_enter Tryz.func25, Tryz.ntmps25
  go_wp2
  go_loopw [0, 5, 7] (fun x s i wr => ∃ k : Nat, k ≤ n ∧ i = .int .i64 k ∧ x = .int .u64 ((X / 256 ^ k : Nat) : Int) ∧ s = .string ⟨(putL X k).toArray⟩ ∧ Below w.heap.size w wr) (fun _ _ i _ => n - (intOf i).toNat)
  case atStart => exact ⟨0, by omega, rfl, by simp, rfl, Below.refl _ _⟩
  case round =>
    obtain ⟨k, hk, rfl, rfl, rfl, hb⟩ := hrel
    have hlen := putL_length X k
    by_cases hlt : k < n
    · have HN : Hid (X / 256 ^ (k + 1) = X / 256 ^ k / 256) := by show _ = _; rw [Nat.pow_succ, Nat.div_div_eq_div_mul]
      have HP : Hid (putL X (k + 1) = UInt8.ofNat (X / 256 ^ k % 256) :: putL X k) := rfl
      have HY : Hid (X / 256 ^ k ≤ 18446744073709551615) := by show _ ≤ _; exact Nat.le_trans (Nat.div_le_self _ _) HX.out
      generalize X / 256 ^ k = y at *
      have hob := one_digit wr y
      go_wp2
      go_roundw
      case rel =>
        refine ⟨k + 1, by omega, by go_num, ?_, ?_, ?_⟩
        · have hy : y ≤ 18446744073709551615 := HY.out
          have e : IntKind.u64.wrap ((y : Int) / 256) = ((y / 256 : Nat) : Int) := by rw [IntKind.wrap_u64]; omega
          rw [HN.out, e]
        · rw [HP.out]
          congr 1
        · exact hb.alloc hb.size _
      case measure => simp [intOf]; omega
    · obtain rfl : k = n := by omega
      go_wp2
      go_ret
      exact ⟨rfl, hb⟩


theorem be_any (x : Int) (n : Nat) (w : World) (hx0 : 0 ≤ x) (hx : x ≤ 9223372036854775807) (h8 : n ≤ 8) :
    Calls Tryz.prog 17 #[.int .i64 x, .int .i64 n] w fun e w' => e = .returned (.string ⟨(putL x.toNat n).toArray⟩) ∧ Below w.heap.size w w' := by
  obtain ⟨X, rfl⟩ := Int.eq_ofNat_of_zero_le hx0
  have hw : IntKind.u64.wrap (X : Int) = (X : Int) := by rw [IntKind.wrap_u64]; omega
  have HB := bytesOf_any X n w h8 (show X ≤ 18446744073709551615 by omega)
  go_enter Tryz.func17, Tryz.ntmps17
  go_wp2_with (go_at_call 25; (with_reducible refine HB.mono ?_); rintro e w' ⟨rfl, hb⟩)
  go_ret
  exact ⟨rfl, hb⟩

end Go.Proofs.YtlfeholphngilaaGreatDoor

namespace Go.Proofs.YtlfeholphngilaaGreatDoor
open Go.RowKit
attribute [local go_sem ↓] Go.wp_at_zero Go.wp_at_succ
set_option linter.unusedSimpArgs false
set_option linter.unusedVariables false
set_option maxRecDepth 100000

set_option maxHeartbeats 6400000 in
theorem refTable_any (a : Option Addr) (c : Nat) (l : List Sp) (w : World) (h : SpIn w a l) (hlen : l.length ≤ 1000000) (hr : rightL l = true) :
    Calls Tryz.prog 8 #[.slice a l.length c] w fun e w' => e = .returned (.string ⟨(tabB l).toArray⟩) ∧ Below w.heap.size w w' := by
  have HRI := Lib.hid (fun v => inst_range l 0 v hr)
  have hIn := h
  have HB0 := build_new w
  have C0 : Below w.heap.size w (w.alloc (.cells #[.pointer none, .slice none 0 0] 37)) := (Below.refl _ _).alloc (Nat.le_refl _) _
  clear h hr
  go_enter Tryz.func8, Tryz.ntmps8
  go_upto_region 2 with (refine alloc_blk 37 #[.pointer none, .slice none 0 0] (by rfl) rfl Tryz.bdZero ?_)
  generalize w.alloc (.cells #[.pointer none, .slice none 0 0] 37) = w9 at *
  (try simp only [Act.put, List.setIfInBounds_toArray, List.set_cons_zero, List.set_cons_succ])
  go_wp2_with fail
  go_loopw [5] (fun i wr => ∃ t : Nat, t ≤ 4096 ∧ i = .int .i64 t ∧ Lib.IsBuilder 37 5 w.heap.size w.heap.size (Lib.byteCells (bwN 2 ((tabI l).take t))) wr ∧ Below w.heap.size w wr) (fun i _ => 4096 - (intOf i).toNat)
  case atStart => exact ⟨0, by omega, rfl, HB0, C0⟩
  case round =>
    clear HB0 C0
    obtain ⟨t, ht, rfl, HBk, Bk⟩ := hrel
    have hEw : w.heap.size ≤ wr.heap.size := Bk.size
    by_cases htl : t < 4096
    · have hrg := HRI.out (t : Int)
      have HI := Lib.hid (refInst_any a c l (t : Int) wr (hIn.below Bk) hlen)
      have HM := Lib.hid (fun W => be_any (instL l (t : Int)) 2 W hrg.1 (by omega) (by omega))
      have HS := Lib.hid (tabB_step l t htl)
      have HLn : Hid ((bwN 2 ((tabI l).take t)).length ≤ 8192) := by
        show _ ≤ _
        rw [bwN_len, List.length_take, tabI_len]
        omega
      have HLp := Lib.hid (putL_length (instL l (t : Int)).toNat 2)
      generalize putL (instL l (t : Int)).toNat 2 = P2 at *
      generalize instL l (t : Int) = y at *
      go_wp2_with fail
      refine HI.out.mono ?_
      rintro e w2 ⟨rfl, k2⟩
      go_wp2_with fail
      refine (HM.out _).mono ?_
      rintro e w3 ⟨rfl, k3⟩
      have K3 := k2.trans (k3.mono k2.size)
      have HB3 := isB_below HBk K3
      have hbn : (Lib.byteCells (bwN 2 ((tabI l).take t))).length ≤ 8192 := by
        have hq : (Lib.byteCells (bwN 2 ((tabI l).take t))).length = (bwN 2 ((tabI l).take t)).length := by simp [Lib.byteCells]
        have := HLn.out
        omega
      have hpn : (⟨P2.toArray⟩ : ByteArray).size = 2 := by show P2.toArray.size = 2; simpa using HLp.out
      go_wp2_with fail
      refine (build_write w.heap.size w.heap.size _ ⟨P2.toArray⟩ _ HB3 (by omega) (Nat.le_trans hEw K3.size)).mono ?_
      rintro e w5 ⟨rfl, HB5, k5⟩
      have HB6 : Lib.IsBuilder 37 5 w.heap.size w.heap.size (Lib.byteCells (bwN 2 ((tabI l).take (t + 1)))) w5 := by
        rw [HS.out]
        simpa [Lib.byteCells, Lib.strCells] using HB5
      have B5 := (Bk.trans (K3.mono Bk.size)).trans k5
      clear hbn hpn HB3 HB5 HBk k2 k3 K3 k5
      go_wp2
      go_roundw
      case rel => exact ⟨t + 1, by omega, by go_num, HB6, B5⟩
      case measure => simp [intOf]; omega
    · obtain rfl : t = 4096 := by omega
      rw [show (tabI l).take 4096 = tabI l from List.take_of_length_le (by rw [tabI_len]; exact Nat.le_refl _)] at HBk
      go_wp2_with fail
      refine (Tryz.Builder_String_any w.heap.size w.heap.size _ _ HBk hEw).mono ?_
      rintro e w6 ⟨rfl, k6⟩
      go_wp2
      go_ret
      exact ⟨rfl, Bk.trans k6⟩
set_option maxHeartbeats 3200000 in
theorem refDigest_any (a : Option Addr) (c : Nat) (l : List Sp) (w : World) (h : SpIn w a l) (hlen : l.length ≤ 1000000) (hr : rightL l = true) :
    Calls Tryz.prog 9 #[.slice a l.length c] w fun e w' => e = .returned (.string ⟨(hmacL mstKey (tabB l)).toArray⟩) ∧ Below w.heap.size w w' := by
  have HT := Lib.hid (refTable_any a c l w h hlen hr)
  have hts : (⟨(tabB l).toArray⟩ : ByteArray).size ≤ 100000 := by show (tabB l).toArray.size ≤ _; rw [List.size_toArray, tabB_len]; omega
  have HH : Hid (∀ W, Calls Tryz.prog 19 #[.string ⟨#[19, 172, 6, 166, 46, 71, 253, 81, 249, 93, 43, 162, 67, 205, 3, 70]⟩, .string ⟨(tabB l).toArray⟩] W fun e w' => e = .returned (.string ⟨(hmacL mstKey (tabB l)).toArray⟩) ∧ Below W.heap.size W w') := fun W => refHmac_any ⟨#[19, 172, 6, 166, 46, 71, 253, 81, 249, 93, 43, 162, 67, 205, 3, 70]⟩ ⟨(tabB l).toArray⟩ W (by decide) hts
  generalize (⟨(hmacL mstKey (tabB l)).toArray⟩ : ByteArray) = out at *
  generalize (⟨(tabB l).toArray⟩ : ByteArray) = tb at *
  clear hr
  go_enter Tryz.func9, Tryz.ntmps9
  go_wp2_with fail
  refine HT.out.mono ?_
  rintro e w1 ⟨rfl, k1⟩
  go_wp2_with fail
  refine (HH.out _).mono ?_
  rintro e w2 ⟨rfl, k2⟩
  go_wp2
  go_ret
  exact ⟨rfl, k1.trans (k2.mono k1.size)⟩

end Go.Proofs.YtlfeholphngilaaGreatDoor

namespace Go.Proofs.YtlfeholphngilaaGreatDoor
open Go.ChangeShapes Go.WideShapes Go.ChangeAt Go.RowKit Go.Deep Go.Joins
set_option linter.unusedVariables false

theorem list3 {α : Type} (l : List α) (h : l.length = 3) : ∃ c0 c1 c2, l = [c0, c1, c2] := by
  match l, h with
  | [c0, c1, c2], _ => exact ⟨c0, c1, c2, rfl⟩
set_option maxRecDepth 100000 in
theorem sp_trod {H : Type} {enc : TypeId × Value → H} {W : World} {base fuel : Nat} {sp : Nat → Bool} {held : Bool} {c0 c1 c2 : Value} {y : DataW H × List MemPlace}
    (h : DataW.trod enc Tryz.prog W base sp held fuel 33 [c0, c1, c2] = some y) : ∃ t : Sp, bySp t ∧ [c0, c1, c2] = (spC t).toList := by
  have _h2 : Tryz.prog.cellsOf 3 = 1 := by kernel_rfl
  obtain ⟨xs, n, _, hx, _, hlen, hg⟩ := DataW.trod_struct Tryz.underlying33 h
  obtain ⟨y0, y1, y2, rfl⟩ := list3 xs hlen
  have g0 := hg 0 _ rfl
  have g1 := hg 1 _ rfl
  have g2 := hg 2 _ rfl
  obtain ⟨x0, e0, _, wf0⟩ := DataW.trod_int Tryz.underlying3 g0
  obtain rfl : c0 = .int .i64 x0 := (List.cons.inj (show [c0] = [.int .i64 x0] from e0)).1
  obtain ⟨x1, e1, _, wf1⟩ := DataW.trod_int Tryz.underlying3 g1
  obtain rfl : c1 = .int .i64 x1 := (List.cons.inj (show [c1] = [.int .i64 x1] from e1)).1
  obtain ⟨x2, e2, _, wf2⟩ := DataW.trod_int Tryz.underlying3 g2
  obtain rfl : c2 = .int .i64 x2 := (List.cons.inj (show [c2] = [.int .i64 x2] from e2)).1
  exact ⟨⟨x0, x1, x2⟩, ⟨⟨wf0, wf1⟩, wf2⟩, rfl⟩

set_option maxRecDepth 100000 in
theorem open_sps {H : Type} {enc : TypeId × Value → H} {W : World} {base : Nat} {v : Value} {d : DataW H} {p : List MemPlace} (hval : Value.okWide Tryz.prog W .any base 22 v)
    (h : DataW.Trod enc Tryz.prog W 0 (fun _ => true) true 22 v d p) : ∃ (a : Option Addr) (c : Nat) (l : List Sp), v = .slice a l.length c ∧ l.length ≤ c ∧ c ≤ maxLen ∧ (SpIn W a l ∧ ∀ v ∈ l, bySp v) := by
  have hs : Tryz.prog.underlying 22 = some (.slice 33) := by kernel_rfl
  have hc3 : Tryz.prog.cellsOf 33 = 3 := by kernel_rfl
  obtain ⟨a, n, c, rfl⟩ := okWide_slice hs hval
  obtain ⟨fuel, hf⟩ := h
  rcases open_slice hs hf with ⟨hc, hx⟩ | ⟨b, len, cap, m, k, D, Pl, hc, hb, hl, hm, hmm, hx, hall⟩
  · simp [Value.cells] at hc
    obtain ⟨rfl, rfl, rfl⟩ := hc
    exact ⟨none, 0, [], rfl, Nat.le_refl _, by decide, Or.inl rfl, by simp⟩
  · simp [Value.cells] at hc
    obtain ⟨rfl, rfl, rfl⟩ := hc
    have hlm : n ≤ m := by rw [hmm]; split <;> omega
    have each : ∀ i, i < n → ∃ t : Sp, bySp t ∧ ∀ (j : Nat) (x : Value), (spC t)[j]? = some x → W.cell? (b.add (i * 3 + j)) = some x := by
      intro i hi
      obtain ⟨cs', h1, h2⟩ := hall i (by omega)
      rw [hc3] at h1
      obtain ⟨_, hlen, hcell⟩ := World.cells?_some h1
      obtain ⟨c0, c1, c2, rfl⟩ := list3 cs' hlen
      obtain ⟨t, ht, he⟩ := sp_trod h2
      refine ⟨t, ht, fun j x hj => ?_⟩
      have hj2 : j < 3 := (Array.getElem?_eq_some_iff.1 hj).1
      have g := hcell j (by omega)
      rw [add_add] at g
      rw [g]
      have e2 : ([c0, c1, c2] : List Value)[j]? = some x := by rw [he]; simpa using hj
      exact e2
    obtain ⟨z, hz⟩ := choose_lt each
    obtain ⟨bb, bo, bs⟩ := b
    rcases Nat.eq_zero_or_pos n with rfl | q0
    · exact ⟨some ⟨bb, bo, bs⟩, c, [], rfl, hl, hm, Or.inl rfl, by simp⟩
    have h0 := (hz 0 q0).2 0 _ rfl
    have hspot : bs = none := by simpa [Addr.add] using World.cell?_spot h0
    subst hspot
    refine ⟨some ⟨bb, bo, none⟩, c, (List.range n).map z, by simp, by simpa using hl, hm, Or.inr ⟨bb, bo, rfl, ?_, fun j hj k x hx => ?_⟩, ?_⟩
    · have := World.block_lt_of_cell? W _ h0
      simpa [Addr.add] using this
    · have hj' : j < n := by simpa using hj
      simp only [List.getElem_map, List.getElem_range] at hx
      have e0 := (hz j hj').2 k x hx
      rw [add_plain] at e0
      rw [Nat.add_assoc]
      exact e0
    · intro v hv
      obtain ⟨j, hj, rfl⟩ := List.mem_map.1 hv
      exact (hz j (List.mem_range.1 hj)).1

end Go.Proofs.YtlfeholphngilaaGreatDoor

namespace Go.Proofs.YtlfeholphngilaaGreatDoor.regionMarks
open Go.RowKit
attribute [local go_sem ↓] Go.wp_at_zero Go.wp_at_succ
set_option linter.unusedSimpArgs false
set_option linter.unusedVariables false
set_option maxRecDepth 100000

set_option maxHeartbeats 3200000 in
theorem walk (a : Option Addr) (c : Nat) (l : List Sp) (w : World) (h : SpIn w a l) (hE : HasErr w) (HM : HasMd w) :
    Calls Tryz.prog 3 #[.slice a l.length c] w fun e w' => e = .returned (.bool true) ∧ Below w.heap.size w w' := by
  by_cases hl : l.length ≤ 60
  · have hgt : decide ((60 : Int) < (l.length : Int)) = false := decide_eq_false (by omega)
    have hgt2 : ¬ (60 : Int) < (l.length : Int) := by omega
    have hlen : l.length ≤ 1000000 := by omega
    have H3 := Lib.hid (fun W h => refSpRight_any a c l W h hlen)
    cases hr : rightL l with
    | true =>
      have H1 := Lib.hid (fun W h => spTable_ok a c l W h hlen hr)
      have H2 := Lib.hid (fun W h HM => spDigest_ok a c l W h hlen hr HM)
      have H4 := Lib.hid (fun W h => refTable_any a c l W h hlen hr)
      have H5 := Lib.hid (fun W h => refDigest_any a c l W h hlen hr)
      rw [hr] at H3
      generalize (⟨(hmacL mstKey (tabB l)).toArray⟩ : ByteArray) = y at *
      generalize (⟨(tabB l).toArray⟩ : ByteArray) = x at *
      have hq : (x.toList == x.toList) = true := beq_iff_eq.2 rfl
      have hq2 : (y.toList == y.toList) = true := beq_iff_eq.2 rfl
      clear hr
      go_enter Tryz.func3, Tryz.ntmps3
      go_wp2_with fail
      refine (H1.out _ h).mono ?_
      rintro e w1 ⟨rfl, k1⟩
      have b1 := k1
      go_wp2_with fail
      refine (H2.out _ (h.below b1) (HM.below b1)).mono ?_
      rintro e w2 ⟨rfl, k2⟩
      have b2 := b1.trans (k2.mono b1.size)
      go_wp2_with fail
      refine (H3.out _ (h.below b2)).mono ?_
      rintro e w3 ⟨rfl, k3⟩
      have b3 := b2.trans (k3.mono b2.size)
      go_wp2_with fail
      refine (H4.out _ (h.below b3)).mono ?_
      rintro e w4 ⟨rfl, k4⟩
      have b4 := b3.trans (k4.mono b3.size)
      go_wp2_with fail
      refine (H5.out _ (h.below b4)).mono ?_
      rintro e w5 ⟨rfl, k5⟩
      have b5 := b4.trans (k5.mono b4.size)
      go_wp2
      go_ret
      exact ⟨rfl, b5⟩
    | false =>
      have H1 := Lib.hid (fun W h => spTable_bad a c l W h hlen hr)
      have H2 := Lib.hid (fun W h => spDigest_bad a c l W h hlen hr)
      have H4 := Lib.hid (fun W hE => bare_errno 1 W hE)
      rw [hr] at H3
      clear hr
      go_enter Tryz.func3, Tryz.ntmps3
      go_wp2_with fail
      refine (H1.out _ h).mono ?_
      rintro e w1 ⟨rfl, k1⟩
      have b1 := k1
      go_wp2_with fail
      refine (H2.out _ (h.below b1)).mono ?_
      rintro e w2 ⟨rfl, k2⟩
      have b2 := b1.trans (k2.mono b1.size)
      go_wp2_with fail
      refine (H3.out _ (h.below b2)).mono ?_
      rintro e w3 ⟨rfl, k3⟩
      have b3 := b2.trans (k3.mono b2.size)
      go_wp2_with fail
      refine (H4.out _ (hE.below b3)).mono ?_
      rintro e w4 ⟨rfl, k4⟩
      have b4 := b3.trans (k4.mono b3.size)
      go_wp2_with fail
      refine (H4.out _ (hE.below b4)).mono ?_
      rintro e w5 ⟨rfl, k5⟩
      have b5 := b4.trans (k5.mono b4.size)
      go_wp2
      go_ret
      exact ⟨rfl, b5⟩
  · have hgt : decide ((60 : Int) < (l.length : Int)) = true := decide_eq_true (by omega)
    have hgt2 : (60 : Int) < (l.length : Int) := by omega
    go_enter Tryz.func3, Tryz.ntmps3
    go_wp2
    go_ret
    exact ⟨rfl, Below.refl _ _⟩

end Go.Proofs.YtlfeholphngilaaGreatDoor.regionMarks
