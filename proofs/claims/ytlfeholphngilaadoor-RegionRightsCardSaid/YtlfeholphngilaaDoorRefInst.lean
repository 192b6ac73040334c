/- The reference's SpanInst at every list. -/
import Derived.Test.YtlfeholphngilaaDoorSpan
import Derived.Test.YtlfeholphngilaaDoorWithin
namespace Go.Proofs.YtlfeholphngilaaDoor
open Go.RowKit
attribute [local go_sem ↓] Go.wp_at_zero Go.wp_at_succ
set_option linter.unusedSimpArgs false
set_option linter.unusedVariables false
set_option maxRecDepth 100000

set_option maxHeartbeats 1600000 in
theorem refInst_any (a : Option Addr) (c : Nat) (l : List Sp) (v : Int) (w : World) (h : SpIn w a l) (hlen : l.length ≤ 1000000) :
    Calls Tryd.prog 19 #[.slice a l.length c, .int .i64 v] w fun e w' => e = .returned (.int .i64 (instL l v)) ∧ Below w.heap.size w w' := by
  go_enter Tryd.func19, Tryd.ntmps19
  go_wp2_with fail
  go_loopw [9] (fun i wr => ∃ k : Nat, k ≤ l.length ∧ i = .int .i64 k ∧ Hid (instL l v = instL (l.drop k) v) ∧ Below w.heap.size w wr) (fun i _ => l.length - (intOf i).toNat)
  case atStart => exact ⟨0, by omega, rfl, rfl, Below.refl _ _⟩
  case round =>
    obtain ⟨k, hk, rfl, HZ, hb⟩ := hrel
    by_cases hlt : k < l.length
    · obtain ⟨bk, o, rfl, hbk, hat⟩ := h.at hlt
      have b1 : (k : Int) < (l.length : Int) := by omega
      have b2 : decide ((k : Int) < (l.length : Int)) = true := decide_eq_true b1
      have b3 : (0 : Int) ≤ (k : Int) := by omega
      have HK := (hat k hlt).below hb hbk
      have B0 := hb.alloc hb.size (.cells (spC zSp) 42)
      have HN := Blk.new wr 42 (spC zSp)
      have HD := instL_drop l v k hlt
      generalize l[k] = x at *
      go_upto_region 4 with (first
        | (refine load_cells 42 (spC x) (by rfl) rfl rfl HK (by kernel_rfl) (by kernel_rfl) ?_)
        | (refine alloc_blk 42 (spC zSp) (by rfl) rfl Tryd.spZero ?_)
        | (refine store_blk (k := 0) 42 (.agg (spC x)) (spC x) (by rfl) rfl rfl rfl HN (by kernel_rfl) (show (3 : Nat) ≤ 3 from Nat.le_refl 3) (by rfl) (st_whole _ _ rfl) (fun w4 HV b4 g4 => ?_)))
      have hb4 : Below w.heap.size w w4 := B0.trans (b4.mono hb.size)
      have c0 := HV.cv 0 (.int .i64 x.f) rfl
      have c1 := HV.cv 1 (.int .i64 x.t) rfl
      have c2 := HV.cv 2 (.int .i64 x.i) rfl
      clear HN B0 b4 g4 HK HV
      by_cases hc : x.f ≤ v ∧ v ≤ x.t
      · have HR : Hid (instL l v = x.i) := by
          show _ = _
          rw [HZ.out, HD, if_pos (by unfold hasSp; rw [decide_eq_true hc.1, decide_eq_true hc.2]; rfl)]
        have hw := fun W => within_yes v x.f x.t W hc.1 hc.2
        clear HD hc HZ
        go_wp2_with fail
        refine (hw _).mono ?_
        rintro e w5 ⟨rfl, rfl⟩
        go_wp2
        go_ret
        exact ⟨by rw [HR.out]; rfl, hb4⟩
      · have HR : Hid (instL l v = instL (l.drop (k + 1)) v) := by
          show _ = _
          rw [HZ.out, HD, if_neg (fun q => hc (by unfold hasSp at q; simpa using q))]
        have hw := fun W => within_no v x.f x.t W (by omega)
        clear HD hc HZ
        go_wp2_with fail
        refine (hw _).mono ?_
        rintro e w5 ⟨rfl, rfl⟩
        go_wp2
        go_roundw
        case rel => exact ⟨k + 1, by omega, by go_num, HR, hb4⟩
        case measure => simp [intOf]; omega
    · obtain rfl : k = l.length := by omega
      have b2 : decide ((l.length : Int) < (l.length : Int)) = false := decide_eq_false (by omega)
      have HR : Hid (instL l v = 0) := by
        show _ = _
        rw [HZ.out, List.drop_length]
        rfl
      clear HZ
      go_wp2
      go_ret
      exact ⟨by rw [HR.out]; rfl, hb⟩

end Go.Proofs.YtlfeholphngilaaDoor
