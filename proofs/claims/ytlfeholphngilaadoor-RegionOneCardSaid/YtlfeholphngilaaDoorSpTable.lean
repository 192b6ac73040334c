/- region.Table at every list. -/
import Derived.Test.YtlfeholphngilaaDoorSpRight
import Derived.Test.YtlfeholphngilaaDoorTabM
import Derived.Test.YtlfeholphngilaaDoorStOp
import Derived.Test.YtlfeholphngilaaDoorIsB
import Derived.Test.YtlfeholphngilaaDoorMust
namespace Go.Proofs.YtlfeholphngilaaDoor
open Go.RowKit
attribute [local go_sem ↓] Go.wp_at_zero Go.wp_at_succ
set_option linter.unusedSimpArgs false
set_option linter.unusedVariables false
set_option maxRecDepth 100000

theorem Tryd.tabZero : (Tryd.prog.info? 68).map (·.zero) = some (some (.agg (rowF 4096 (fun _ => 0)))) := by kernel_rfl
theorem Tryd.tabSize (f : Nat → Int) : (Tryd.prog.info? 68).map (·.size) = some (rowF 4096 f).size := by rw [rowF_size]; kernel_rfl
theorem mustV (v : Int) (h0 : 0 ≤ v) (h1 : v ≤ 64) (w : World) : Calls Tryd.prog 34 #[.int .i64 v, .int .i64 2] w fun e w' => e = .returned (.string ⟨(putL v.toNat 2).toArray⟩) ∧ Below w.heap.size w w' := by
  obtain ⟨X, rfl⟩ := Int.eq_ofNat_of_zero_le h0
  exact must_fits X 2 w (by omega) (by omega) (by show X < 65536; omega)
/-- A part of the table is written: VIDs from F to below v. -/
def partF (F v : Nat) (X : Int) (g : Nat → Int) : Nat → Int := fun j => if F ≤ j ∧ j < v then X else g j
theorem partF_first (F : Nat) (X : Int) (g : Nat → Int) : partF F F X g = g := by
  funext j
  unfold partF
  rw [if_neg (by omega)]
theorem partF_next (F v : Nat) (X : Int) (g : Nat → Int) (h : F ≤ v) : (fun j => if j = v then X else partF F v X g j) = partF F (v + 1) X g := by
  funext j
  unfold partF
  by_cases c : j = v
  · rw [if_pos c, if_pos (by omega)]
  · rw [if_neg c]
    by_cases d : F ≤ j ∧ j < v
    · rw [if_pos d, if_pos (by omega)]
    · rw [if_neg d, if_neg (by omega)]
theorem partF_last (l : List Sp) (h : rightL l = true) (k : Nat) (hk : k < l.length) (F T : Nat) (hF : l[k].f = (F : Int)) (hT : l[k].t = (T : Int)) :
    partF F (T + 1) l[k].i (fun (j : Nat) => instL (l.take k) (j : Int)) = fun (j : Nat) => instL (l.take (k + 1)) (j : Int) := by
  funext j
  rw [tab_step l h k hk]
  unfold partF hasSp
  rw [hF, hT]
  by_cases c : F ≤ j ∧ j < T + 1
  · rw [if_pos c, if_pos (by simp only [Bool.and_eq_true, decide_eq_true_eq]; omega)]
  · rw [if_neg c, if_neg (by simp only [Bool.and_eq_true, decide_eq_true_eq]; omega)]

set_option maxHeartbeats 3200000 in
theorem spTable_bad (a : Option Addr) (c : Nat) (l : List Sp) (w : World) (h : SpIn w a l) (hlen : l.length ≤ 1000000) (hr : rightL l = false) :
    Calls Tryd.prog 25 #[.slice a l.length c] w fun e w' => e = .returned (.tuple #[.string ⟨#[]⟩, .iface 35 (.int .i64 1)]) ∧ Below w.heap.size w w' := by
  have HR := Lib.hid (spRight_any a c l w h hlen)
  rw [hr] at HR
  go_enter Tryd.func25, Tryd.ntmps25
  go_wp2_with fail
  refine HR.out.mono ?_
  rintro e w1 ⟨rfl, k1⟩
  go_wp2
  go_ret2
  exact ⟨rfl, k1⟩

set_option maxHeartbeats 12800000 in
theorem spTable_ok (a : Option Addr) (c : Nat) (l : List Sp) (w : World) (h : SpIn w a l) (hlen : l.length ≤ 1000000) (hr : rightL l = true) :
    Calls Tryd.prog 25 #[.slice a l.length c] w fun e w' => e = .returned (.tuple #[.string ⟨(tabB l).toArray⟩, .nilIface]) ∧ Below w.heap.size w w' := by
  have HR := Lib.hid (spRight_any a c l w h hlen)
  rw [hr] at HR
  have HRI := Lib.hid (inst_range l 0)
  have HAT := Lib.hid (right_at l hr)
  have HPL := Lib.hid (partF_last l hr)
  have HRR := Lib.hid hr
  clear hr
  go_enter Tryd.func25, Tryd.ntmps25
  go_wp2_with fail
  refine HR.out.mono ?_
  rintro e w1 ⟨rfl, k1⟩
  have hD : w.heap.size ≤ w1.heap.size := k1.size
  have H0 := Blk.new w1 68 (rowF 4096 (fun _ => 0))
  have B0 := k1.alloc hD (.cells (rowF 4096 (fun _ => 0)) 68)
  have HZ : Hid ((Tryd.prog.info? 68).map (·.zero) = some (some (.agg (rowF 4096 (fun _ => 0))))) := Tryd.tabZero
  have HI : Hid (rowF 4096 (fun _ => 0) = rowF 4096 (fun j => instL (l.take 0) (j : Int))) := by show _ = _; rw [List.take_zero]; rfl
  generalize rowF 4096 (fun _ => 0) = Z0 at *
  go_upto_region 4 with (refine alloc_blk 68 Z0 (by rfl) rfl HZ.out ?_)
  generalize w1.alloc (.cells Z0 68) = w2 at *
  generalize w1.heap.size = D at *
  (try simp only [Act.put, List.setIfInBounds_toArray, List.set_cons_zero, List.set_cons_succ])
  clear k1
  go_wp2_with fail
  rw [HI.out] at H0
  clear HI HZ
  go_loopw [7, 17] (fun _ i wr => ∃ k : Nat, k ≤ l.length ∧ i = .int .i64 k ∧ Blk wr D 68 (rowF 4096 (fun j => instL (l.take k) (j : Int))) ∧ Below w.heap.size w wr) (fun _ i _ => l.length - (intOf i).toNat)
  case atStart => exact ⟨0, by omega, rfl, H0, B0⟩
  case round =>
    clear H0 B0
    obtain ⟨k, hk, rfl, HT, hb⟩ := hrel
    by_cases hlt : k < l.length
    · skip
      obtain ⟨bk, o, rfl, hbk, hat⟩ := h.at hlt
      have b1 : (k : Int) < (l.length : Int) := by omega
      have b2 : decide ((k : Int) < (l.length : Int)) = true := decide_eq_true b1
      have b3 : (0 : Int) ≤ (k : Int) := by omega
      have HK := (hat k hlt).below hb hbk
      have B0 := hb.alloc hb.size (.cells (spC zSp) 42)
      have HN := Blk.new wr 42 (spC zSp)
      obtain ⟨r1, r2, r3, r4, r5⟩ := HAT.out k hlt
      have hDG : D < wr.heap.size := HT.lt
      have HT0 := HT.alloc (.cells (spC zSp) 42)
      have HPK := Lib.hid (HPL.out k hlt)
      generalize l[k] = x at *
      obtain ⟨F, hF⟩ := Int.eq_ofNat_of_zero_le (show 0 ≤ x.f by omega)
      obtain ⟨T, hT⟩ := Int.eq_ofNat_of_zero_le (show 0 ≤ x.t by omega)
      have hFT : F ≤ T := by omega
      have hT4 : T ≤ 4094 := by omega
      have hF1 : 1 ≤ F := by omega
      have HPE := Lib.hid (HPK.out F T hF hT)
      generalize (fun j : Nat => instL (l.take k) (j : Int)) = gf at *
      skip
      go_upto_region 7 with (first
        | (refine load_cells 42 (spC x) (by rfl) rfl rfl HK (by kernel_rfl) (by kernel_rfl) ?_)
        | (refine alloc_blk 42 (spC zSp) (by rfl) rfl Tryd.spZero ?_)
        | (refine store_blk (k := 0) 42 (.agg (spC x)) (spC x) (by rfl) rfl rfl rfl HN (by kernel_rfl) (show (3 : Nat) ≤ 3 from Nat.le_refl 3) (by rfl) (st_whole _ _ rfl) (fun w4 HV b4 g4 => ?_)))
      have hb4 : Below w.heap.size w w4 := B0.trans (b4.mono hb.size)
      have c0 := HV.cv 0 (.int .i64 x.f) rfl
      have c1 := HV.cv 1 (.int .i64 x.t) rfl
      have c2 := HV.cv 2 (.int .i64 x.i) rfl
      have hGD : wr.heap.size ≠ D := by omega
      have HT4 := HT0.below b4 hDG
      have hwG : w.heap.size ≤ wr.heap.size := hb.size
      rw [hF] at c0
      rw [hT] at c1
      clear HN B0 b4 g4 HK HT HT0
      go_wp2_with fail
      generalize hG : wr.heap.size = G at *
      have HPF := Lib.hid (partF_first F x.i gf)
      go_loopw [7] (fun i wv => ∃ v : Nat, F ≤ v ∧ v ≤ T + 1 ∧ i = .int .i64 v ∧ Blk wv D 68 (rowF 4096 (partF F v x.i gf)) ∧ Blk wv G 42 (spC x) ∧ Below w.heap.size w wv) (fun i _ => T + 1 - (intOf i).toNat)
      case atStart => exact ⟨F, by omega, by omega, rfl, by rw [HPF.out]; exact HT4, HV, hb4⟩
      case round =>
        clear HT4 HV hb4 c0 c1 c2
        obtain ⟨v, hv1, hv2, rfl, HTv, HVv, hbv⟩ := hrel
        have c1 := HVv.cv 1 (.int .i64 x.t) rfl
        have c2 := HVv.cv 2 (.int .i64 x.i) rfl
        rw [hT] at c1
        by_cases hvl : v ≤ T
        · have hd : decide ((v : Int) ≤ (T : Int)) = true := decide_eq_true (by omega)
          have hd1 : (v : Int) ≤ (T : Int) := by omega
          have hv4 : (v : Int) < 4096 := by omega
          have hst := st_cell (rowF 4096 (partF F v x.i gf)) (rowF 4096 (partF F (v + 1) x.i gf)) v (.int .i64 x.i) rfl (by rw [rowF_size]; omega) (by rw [rowF_set 4096 _ v (by omega), partF_next F v x.i gf hv1])
          have hkz : v + (Value.int .i64 x.i).cells.toList.length ≤ (rowF 4096 (partF F v x.i gf)).size := by rw [rowF_size]; show v + 1 ≤ 4096; omega
          have HST := Lib.hid hst
          have HKZ := Lib.hid hkz
          obtain ⟨C2, hC2⟩ : ∃ C, C = rowF 4096 (partF F (v + 1) x.i gf) := ⟨_, rfl⟩
          have HC2 := Lib.hid hC2
          rw [← hC2] at HST
          clear hst hkz hC2
          generalize rowF 4096 (partF F v x.i gf) = C1 at *
          go_wp2_with (refine store_blk (k := v) 3 (.int .i64 x.i) C2 (by rfl) rfl rfl rfl HTv (by kernel_rfl) HKZ.out rfl HST.out (fun w5 R5 b5 g5 => ?_))
          go_roundw
          case rel => exact ⟨v + 1, by omega, by omega, by go_num, by rw [← HC2.out]; exact R5, HVv.grown g5 (by simp; omega), hbv.trans (b5.mono hD)⟩
          case measure => simp [intOf]; omega
        · obtain rfl : v = T + 1 := by omega
          have hd : decide (((T + 1 : Nat) : Int) ≤ (T : Int)) = false := decide_eq_false (by omega)
          have hd1 : ¬ ((T + 1 : Nat) : Int) ≤ (T : Int) := by omega
          rw [HPE.out] at HTv
          generalize T + 1 = T1 at *
          go_wp2_with fail
          go_roundw
          case rel => exact ⟨k + 1, by omega, by go_num, HTv, hbv⟩
          case measure => simp [intOf]; omega
    · obtain rfl : k = l.length := by omega
      have b2 : decide ((l.length : Int) < (l.length : Int)) = false := decide_eq_false (by omega)
      rw [List.take_length] at HT
      have HB0 := build_new wr
      have hBw : w.heap.size ≤ wr.heap.size := hb.size
      have C0 := hb.alloc hBw (.cells #[.pointer none, .slice none 0 0] 53)
      have HT0 := HT.alloc (.cells #[.pointer none, .slice none 0 0] 53)
      have hB9 : wr.heap.size ≤ (wr.alloc (.cells #[.pointer none, .slice none 0 0] 53)).heap.size := by simp
      have HSZ := Lib.hid (Tryd.tabSize (fun j => instL l (j : Int)))
      have HTK : Hid (((rowF 4096 (fun j => instL l (j : Int))).toList.drop 0).take (rowF 4096 (fun j => instL l (j : Int))).size = (rowF 4096 (fun j => instL l (j : Int))).toList) := by show _ = _; rw [List.drop_zero]; exact List.take_of_length_le (by rw [Array.length_toList]; exact Nat.le_refl _)
      have HAR := Lib.hid (fun j hj => rowF_at 4096 (fun j => instL l (j : Int)) j hj)
      generalize rowF 4096 (fun j => instL l (j : Int)) = TC at *
      go_upto_region 13 with (refine alloc_blk 53 #[.pointer none, .slice none 0 0] (by rfl) rfl Tryd.bdZero ?_)
      generalize wr.alloc (.cells #[.pointer none, .slice none 0 0] 53) = w9 at *
      generalize wr.heap.size = E at *
      (try simp only [Act.put, List.setIfInBounds_toArray, List.set_cons_zero, List.set_cons_succ])
      go_upto_region 14 with (refine load_blk (k := 0) 68 TC (by rfl) rfl rfl HT0 (by kernel_rfl) HSZ.out HTK.out ?_)
      clear HT HT0 hb
      go_loopw [10, 35] (fun _ i wr => ∃ t : Nat, t ≤ 4096 ∧ i = .int .i64 t ∧ Lib.IsBuilder 53 5 E E (Lib.byteCells (bwN 2 ((tabI l).take t))) wr ∧ Below w.heap.size w wr ∧ E ≤ wr.heap.size) (fun _ i _ => 4096 - (intOf i).toNat)
      case atStart => exact ⟨0, by omega, rfl, HB0, C0, hB9⟩
      case round =>
        clear HB0 C0 hB9
        obtain ⟨t, ht, rfl, HBk, Bk, hEw⟩ := hrel
        by_cases htl : t < 4096
        · have hrg := HRI.out (t : Int) HRR.out
          have hix := run_index_arr (P := Tryd.prog) wr 68 3 4096 t TC _ Tryd.underlying68 (by kernel_rfl) htl (by kernel_rfl) (HAR.out t htl)
          have HM := Lib.hid (fun W => mustV (instL l (t : Int)) hrg.1 hrg.2 W)
          have HS := Lib.hid (tabB_step l t htl)
          have HLn : Hid ((bwN 2 ((tabI l).take t)).length ≤ 8192) := by
            show _ ≤ _
            rw [bwN_len, List.length_take, tabI_len]
            omega
          have HLp := Lib.hid (putL_length (instL l (t : Int)).toNat 2)
          generalize putL (instL l (t : Int)).toNat 2 = P2 at *
          generalize instL l (t : Int) = y at *
          go_wp2_with (refine index_blk TC _ (by rfl) rfl rfl rfl hix ?_)
          refine (HM.out _).mono ?_
          rintro e w3 ⟨rfl, k3⟩
          have HB3 := isB_below HBk k3
          have hbn : (Lib.byteCells (bwN 2 ((tabI l).take t))).length ≤ 8192 := by
            have hq : (Lib.byteCells (bwN 2 ((tabI l).take t))).length = (bwN 2 ((tabI l).take t)).length := by simp [Lib.byteCells]
            have := HLn.out
            omega
          have hpn : (⟨P2.toArray⟩ : ByteArray).size = 2 := by show P2.toArray.size = 2; simpa using HLp.out
          go_wp2_with fail
          refine (build_write E E _ ⟨P2.toArray⟩ _ HB3 (by omega) (Nat.le_trans hEw k3.size)).mono ?_
          rintro e w5 ⟨rfl, HB5, k5⟩
          have HB6 : Lib.IsBuilder 53 5 E E (Lib.byteCells (bwN 2 ((tabI l).take (t + 1)))) w5 := by
            rw [HS.out]
            simpa [Lib.byteCells, Lib.strCells] using HB5
          have B5 := (Bk.trans (k3.mono Bk.size)).trans (k5.mono hBw)
          have hE5 : E ≤ w5.heap.size := Nat.le_trans hEw (Nat.le_trans k3.size k5.size)
          clear hbn hpn HB3 HB5 HBk k3 k5
          go_wp2
          go_roundw
          case rel => exact ⟨t + 1, by omega, by go_num, HB6, B5, hE5⟩
          case measure => simp [intOf]; omega
        · obtain rfl : t = 4096 := by omega
          rw [show (tabI l).take 4096 = tabI l from List.take_of_length_le (by rw [tabI_len]; exact Nat.le_refl _)] at HBk
          go_wp2_with fail
          refine (Tryd.Builder_String_any E E _ _ HBk hEw).mono ?_
          rintro e w6 ⟨rfl, k6⟩
          go_wp2
          go_ret2
          exact ⟨rfl, Bk.trans (k6.mono hBw)⟩

end Go.Proofs.YtlfeholphngilaaDoor
