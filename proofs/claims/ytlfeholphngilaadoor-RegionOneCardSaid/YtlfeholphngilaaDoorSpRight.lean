/- region.Right, region.Inst at every list. -/
import Derived.Test.YtlfeholphngilaaDoorSpan
namespace Go.Proofs.YtlfeholphngilaaDoor
open Go.RowKit
attribute [local go_sem ↓] Go.wp_at_zero Go.wp_at_succ
set_option linter.unusedSimpArgs false
set_option linter.unusedVariables false
set_option maxRecDepth 100000

theorem okSp_mk2 {a : Int} {x : Sp} (h : ¬ x.f ≤ a ∧ ¬ x.t < x.f ∧ ¬ 4094 < x.t ∧ ¬ x.i < 0 ∧ ¬ 64 < x.i) : okSp a x = true := by
  unfold okSp; simp only [Bool.and_eq_true, decide_eq_true_eq]; omega
theorem okSp_no {a : Int} {x : Sp} (h : x.f ≤ a ∨ x.t < x.f ∨ 4094 < x.t ∨ x.i < 0 ∨ 64 < x.i) : okSp a x = false := by
  unfold okSp; simp only [Bool.and_eq_false_iff, decide_eq_false_iff_not]; omega
set_option maxHeartbeats 6400000 in
theorem spRight_any (a : Option Addr) (c : Nat) (l : List Sp) (w : World) (h : SpIn w a l) (hlen : l.length ≤ 1000000) :
    Calls Tryd.prog 17 #[.slice a l.length c] w fun e w' => e = .returned (.bool (rightL l)) ∧ Below w.heap.size w w' := by
  go_enter Tryd.func17, Tryd.ntmps17
  go_wp2_with fail
  go_loopw [3, 8] (fun la i wr => ∃ k : Nat, k ≤ l.length ∧ i = .int .i64 k ∧ la = .int .i64 (lastSp l k) ∧ Hid (rightL l = rightG (lastSp l k) (l.drop k)) ∧ Below w.heap.size w wr) (fun _ i _ => l.length - (intOf i).toNat)
  case atStart => exact ⟨0, by omega, rfl, rfl, rfl, Below.refl _ _⟩
  case round =>
    obtain ⟨k, hk, rfl, rfl, HZ, hb⟩ := hrel
    by_cases hlt : k < l.length
    · skip
      obtain ⟨bk, o, rfl, hbk, hat⟩ := h.at hlt
      have b1 : (k : Int) < (l.length : Int) := by omega
      have b2 : decide ((k : Int) < (l.length : Int)) = true := decide_eq_true b1
      have b3 : (0 : Int) ≤ (k : Int) := by omega
      have HK := (hat k hlt).below hb hbk
      have B0 := hb.alloc hb.size (.cells (spC zSp) 42)
      have HN := Blk.new wr 42 (spC zSp)
      have HD := rightG_drop l (lastSp l k) k hlt
      have HLS := Lib.hid (lastSp_succ l k hlt)
      generalize hla : lastSp l k = la at *
      generalize l[k] = x at *
      clear hla
      go_upto_region 5 with (first
        | (refine load_cells 42 (spC x) (by rfl) rfl rfl HK (by kernel_rfl) (by kernel_rfl) ?_)
        | (refine alloc_blk 42 (spC zSp) (by rfl) rfl Tryd.spZero ?_)
        | (refine store_blk (k := 0) 42 (.agg (spC x)) (spC x) (by rfl) rfl rfl rfl HN (by kernel_rfl) (show (3 : Nat) ≤ 3 from Nat.le_refl 3) (by rfl) (st_whole _ _ rfl) (fun w4 HV b4 g4 => ?_)))
      have hb4 : Below w.heap.size w w4 := B0.trans (b4.mono hb.size)
      have c0 := HV.cv 0 (.int .i64 x.f) rfl
      have c1 := HV.cv 1 (.int .i64 x.t) rfl
      have c2 := HV.cv 2 (.int .i64 x.i) rfl
      clear HN B0 b4 g4 HK HV
      by_cases q0 : x.f ≤ la
      · have d0 : decide (x.f ≤ la) = true := decide_eq_true q0
        have HR : Hid (rightL l = false) := by
          show _ = _
          rw [HZ.out, HD, show okSp la x = false from okSp_no (by omega), Bool.false_and]
        clear HD HZ
        go_wp2
        go_ret
        exact ⟨by rw [HR.out]; rfl, hb4⟩
      · have d0 : decide (x.f ≤ la) = false := decide_eq_false q0
        by_cases q1 : x.t < x.f
        · have d1 : decide (x.t < x.f) = true := decide_eq_true q1
          have HR : Hid (rightL l = false) := by
            show _ = _
            rw [HZ.out, HD, show okSp la x = false from okSp_no (by omega), Bool.false_and]
          clear HD HZ
          go_wp2
          go_ret
          exact ⟨by rw [HR.out]; rfl, hb4⟩
        · have d1 : decide (x.t < x.f) = false := decide_eq_false q1
          by_cases q2 : 4094 < x.t
          · have d2 : decide (4094 < x.t) = true := decide_eq_true q2
            have HR : Hid (rightL l = false) := by
              show _ = _
              rw [HZ.out, HD, show okSp la x = false from okSp_no (by omega), Bool.false_and]
            clear HD HZ
            go_wp2
            go_ret
            exact ⟨by rw [HR.out]; rfl, hb4⟩
          · have d2 : decide (4094 < x.t) = false := decide_eq_false q2
            by_cases q3 : x.i < 0
            · have d3 : decide (x.i < 0) = true := decide_eq_true q3
              have HR : Hid (rightL l = false) := by
                show _ = _
                rw [HZ.out, HD, show okSp la x = false from okSp_no (by omega), Bool.false_and]
              clear HD HZ
              go_wp2
              go_ret
              exact ⟨by rw [HR.out]; rfl, hb4⟩
            · have d3 : decide (x.i < 0) = false := decide_eq_false q3
              by_cases q4 : 64 < x.i
              · have d4 : decide (64 < x.i) = true := decide_eq_true q4
                have HR : Hid (rightL l = false) := by
                  show _ = _
                  rw [HZ.out, HD, show okSp la x = false from okSp_no (by omega), Bool.false_and]
                clear HD HZ
                go_wp2
                go_ret
                exact ⟨by rw [HR.out]; rfl, hb4⟩
              · have d4 : decide (64 < x.i) = false := decide_eq_false q4
                have HR : Hid (rightL l = rightG (lastSp l (k + 1)) (l.drop (k + 1))) := by
                  show _ = _
                  rw [HZ.out, HD, show okSp la x = true from okSp_mk2 (by omega), Bool.true_and, HLS.out]
                clear HD HZ
                go_wp2
                go_roundw
                case rel => exact ⟨k + 1, by omega, by go_num, by rw [HLS.out], HR, hb4⟩
                case measure => simp [intOf]; omega
    · obtain rfl : k = l.length := by omega
      have b2 : decide ((l.length : Int) < (l.length : Int)) = false := decide_eq_false (by omega)
      have HR : Hid (rightL l = true) := by
        show _ = _
        rw [HZ.out, List.drop_length]
        rfl
      clear HZ
      go_wp2
      go_ret
      exact ⟨by rw [HR.out]; rfl, hb⟩

set_option maxHeartbeats 3200000 in
theorem spInst_any (a : Option Addr) (c : Nat) (l : List Sp) (v : Int) (w : World) (h : SpIn w a l) (hlen : l.length ≤ 1000000) :
    Calls Tryd.prog 18 #[.slice a l.length c, .int .i64 v] w fun e w' => e = .returned (.int .i64 (instL l v)) ∧ Below w.heap.size w w' := by
  go_enter Tryd.func18, Tryd.ntmps18
  go_wp2_with fail
  go_loopw [9] (fun i wr => ∃ k : Nat, k ≤ l.length ∧ i = .int .i64 k ∧ Hid (instL l v = instL (l.drop k) v) ∧ Below w.heap.size w wr) (fun i _ => l.length - (intOf i).toNat)
  case atStart => exact ⟨0, by omega, rfl, rfl, Below.refl _ _⟩
  case round =>
    obtain ⟨k, hk, rfl, HZ, hb⟩ := hrel
    by_cases hlt : k < l.length
    · skip
      obtain ⟨bk, o, rfl, hbk, hat⟩ := h.at hlt
      have b1 : (k : Int) < (l.length : Int) := by omega
      have b2 : decide ((k : Int) < (l.length : Int)) = true := decide_eq_true b1
      have b3 : (0 : Int) ≤ (k : Int) := by omega
      have HK := (hat k hlt).below hb hbk
      have B0 := hb.alloc hb.size (.cells (spC zSp) 42)
      have HN := Blk.new wr 42 (spC zSp)
      have HD := instL_drop l v k hlt
      generalize l[k] = x at *
      go_upto_region 4 with (first
        | (refine load_cells 42 (spC x) (by rfl) rfl rfl HK (by kernel_rfl) (by kernel_rfl) ?_)
        | (refine alloc_blk 42 (spC zSp) (by rfl) rfl Tryd.spZero ?_)
        | (refine store_blk (k := 0) 42 (.agg (spC x)) (spC x) (by rfl) rfl rfl rfl HN (by kernel_rfl) (show (3 : Nat) ≤ 3 from Nat.le_refl 3) (by rfl) (st_whole _ _ rfl) (fun w4 HV b4 g4 => ?_)))
      have hb4 : Below w.heap.size w w4 := B0.trans (b4.mono hb.size)
      have c0 := HV.cv 0 (.int .i64 x.f) rfl
      have c1 := HV.cv 1 (.int .i64 x.t) rfl
      have c2 := HV.cv 2 (.int .i64 x.i) rfl
      clear HN B0 b4 g4 HK HV
      by_cases q1 : x.f ≤ v
      · have d1 : decide (x.f ≤ v) = true := decide_eq_true q1
        by_cases q2 : v ≤ x.t
        · have d2 : decide (v ≤ x.t) = true := decide_eq_true q2
          have HR : Hid (instL l v = x.i) := by
            show _ = _
            rw [HZ.out, HD, if_pos (by unfold hasSp; rw [d1, d2]; rfl)]
          clear HD HZ
          go_wp2
          go_ret
          exact ⟨by rw [HR.out]; rfl, hb4⟩
        · have d2 : decide (v ≤ x.t) = false := decide_eq_false q2
          have HR : Hid (instL l v = instL (l.drop (k + 1)) v) := by
            show _ = _
            rw [HZ.out, HD, if_neg (by unfold hasSp; rw [d1, d2]; simp)]
          clear HD HZ
          go_wp2
          go_roundw
          case rel => exact ⟨k + 1, by omega, by go_num, HR, hb4⟩
          case measure => simp [intOf]; omega
      · have d1 : decide (x.f ≤ v) = false := decide_eq_false q1
        have HR : Hid (instL l v = instL (l.drop (k + 1)) v) := by
          show _ = _
          rw [HZ.out, HD, if_neg (by unfold hasSp; rw [d1]; simp)]
        clear HD HZ
        go_wp2
        go_roundw
        case rel => exact ⟨k + 1, by omega, by go_num, HR, hb4⟩
        case measure => simp [intOf]; omega
    · obtain rfl : k = l.length := by omega
      have b2 : decide ((l.length : Int) < (l.length : Int)) = false := decide_eq_false (by omega)
      have HR : Hid (instL l v = 0) := by
        show _ = _
        rw [HZ.out, List.drop_length]
        rfl
      clear HZ
      go_wp2
      go_ret
      exact ⟨by rw [HR.out]; rfl, hb⟩

end Go.Proofs.YtlfeholphngilaaDoor
