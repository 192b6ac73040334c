/- The reference's MstRight at every message whose name is empty. -/
import Derived.Test.YtajbkoggmhgjfaaDoorMs
import Derived.Test.YtajbkoggmhgjfaaDoorRefBpRight
import Derived.Test.YtajbkoggmhgjfaaDoorBoxB
namespace Go.Proofs.YtajbkoggmhgjfaaDoor
open Go.RowKit
attribute [local go_sem ↓] Go.wp_at_zero Go.wp_at_succ
set_option linter.unusedSimpArgs false
set_option linter.unusedVariables false
set_option maxRecDepth 100000

theorem rmE_fit1 (v : Int) : (decide (0 ≤ v) && decide (v ≤ 255)) = fitI 1 v := by
  unfold fitI
  congr 1
  exact decide_eq_decide.2 (by constructor <;> intro h <;> omega)
theorem rmE_all (l : List Ins) (k : Nat) (h : k < l.length) : (l.drop k).all okIns = (okIns l[k] && (l.drop (k + 1)).all okIns) := by
  rw [List.drop_eq_getElem_cons h, List.all_cons]

set_option maxHeartbeats 25600000 in
theorem refMsRight_E (m : Ms) (a : Option Addr) (c : Nat) (l : List Ins) (w : World) (h : InIn w a l) (hlen : l.length ≤ 1000000) (hn : m.name.size ≤ 1000000) (hd : m.dig.size ≤ 1000000) (hnm : m.name = ⟨#[]⟩) :
    Calls Tryd.prog 10 #[.agg (msC m (.slice a l.length c))] w fun e w' => e = .returned (.bool (okMs m l)) ∧ Below w.heap.size w w' := by
  have HB := Lib.hid (fun (hk : m.base.k = 3) W => by have q := refBpRight_any m.base W; rw [okBp_three hk] at q; exact q)
  have HR := Lib.hid (fun W => refRight_any m.br W)
  have HW1 := Lib.hid (fun W => within2 m.rev W)
  have HW2 := Lib.hid (fun W => within4 m.cost W)
  have HW3 := Lib.hid (fun W => by have q := within_any m.hop 0 255 W; rw [rmE_fit1] at q; exact q)
  have d2 : decide (32 < (m.name.size : Int)) = !decide (m.name.size ≤ 32) := by rw [← decide_not]; exact decide_eq_decide.2 (by omega)
  have d5 : ((m.dig.size : Int) == 16) = decide (m.dig.size = 16) := by rw [Bool.eq_iff_iff, beq_iff_eq, decide_eq_true_eq]; omega
  have d9 : decide (64 < (l.length : Int)) = !decide (l.length ≤ 64) := by rw [← decide_not]; exact decide_eq_decide.2 (by omega)
  have htz : tz m.name = false := by rw [hnm]; rfl
  have HD2 : Hid (decide (m.name.size ≤ 32) = true) := by rw [hnm]; rfl
  unfold okMs okMs0
  obtain ⟨x0, d0⟩ : ∃ x, (m.base.k == 3) = x := ⟨_, rfl⟩
  rw [d0]
  have e0 : Hid (x0 = true → m.base.k = 3) := fun q => by rw [← d0, beq_iff_eq] at q; exact q
  have HAL : Hid (∀ x10, l.all okIns = x10 → l.all okIns = x10) := fun _ h => h
  generalize decide (l.length ≤ 64) = x9 at *
  generalize fitI 1 m.hop = x8 at *
  generalize okB m.br = x7 at *
  generalize fitI 4 m.cost = x6 at *
  generalize decide (m.dig.size = 16) = x5 at *
  generalize fitI 2 m.rev = x4 at *
  generalize decide (m.name.size ≤ 32) = x2 at *
  generalize okRp m.base = x1 at *
  rw [htz]
  clear htz
  cases x0 with
  | false =>
    have f0 : (m.base.k != 3) = true := by rw [bne, d0]; rfl
    simp only [Bool.true_and, Bool.false_and, Bool.not_true, Bool.not_false]
    go_enter Tryd.func10, Tryd.ntmps10
    go_upto_region 1 with (refine box_blk 34 (msC m (.slice a l.length c)) (by rfl) rfl rfl ?_; intro w1 HA1 B1)
    refine wp_region_lit ?_
    simp only [List.append_eq, List.cons_append, List.nil_append]
    have c0_1 := HA1.cv 0 (.int .i64 m.base.k) rfl
    go_wp2_with fail
    go_ret
    exact ⟨rfl, B1⟩
  | true =>
    have f0 : (m.base.k != 3) = false := by rw [bne, d0]; rfl
    cases x1 with
    | false =>
      simp only [Bool.true_and, Bool.false_and, Bool.not_true, Bool.not_false]
      go_enter Tryd.func10, Tryd.ntmps10
      go_upto_region 1 with (refine box_blk 34 (msC m (.slice a l.length c)) (by rfl) rfl rfl ?_; intro w1 HA1 B1)
      refine wp_region_lit ?_
      simp only [List.append_eq, List.cons_append, List.nil_append]
      have c0_1 := HA1.cv 0 (.int .i64 m.base.k) rfl
      go_wp2_with (refine load_blk (k := 0) 31 (bpC m.base) (by rfl) rfl rfl HA1 (by kernel_rfl) (by kernel_rfl) rfl ?_)
      refine (HB.out (e0.out trivial) _).mono ?_
      rintro e w2 ⟨rfl, k2⟩
      have HA2 := HA1.kept k2
      have B2 := B1.trans (k2.mono B1.size)
      go_wp2_with fail
      go_ret
      exact ⟨rfl, B2⟩
    | true =>
      have hx2 := HD2.out
      subst hx2
      cases x4 with
      | false =>
        simp only [Bool.true_and, Bool.false_and, Bool.not_true, Bool.not_false]
        go_enter Tryd.func10, Tryd.ntmps10
        go_upto_region 1 with (refine box_blk 34 (msC m (.slice a l.length c)) (by rfl) rfl rfl ?_; intro w1 HA1 B1)
        refine wp_region_lit ?_
        simp only [List.append_eq, List.cons_append, List.nil_append]
        have c0_1 := HA1.cv 0 (.int .i64 m.base.k) rfl
        go_wp2_with (refine load_blk (k := 0) 31 (bpC m.base) (by rfl) rfl rfl HA1 (by kernel_rfl) (by kernel_rfl) rfl ?_)
        refine (HB.out (e0.out trivial) _).mono ?_
        rintro e w2 ⟨rfl, k2⟩
        have HA2 := HA1.kept k2
        have B2 := B1.trans (k2.mono B1.size)
        have c31_2 := HA2.cv 31 (.string m.name) rfl
        rw [hnm] at c31_2
        have c31_2 := HA2.cv 31 (.string m.name) rfl
        rw [hnm] at c31_2
        have c32_2 := HA2.cv 32 (.int .i64 m.rev) rfl
        go_wp2_with fail
        refine (HW1.out _).mono ?_
        rintro e w3 ⟨rfl, rfl⟩
        have HA3 := HA2
        have B3 := B2
        go_wp2_with fail
        go_ret
        exact ⟨rfl, B3⟩
      | true =>
        cases x5 with
        | false =>
          have f5 : ((m.dig.size : Int) != 16) = true := by rw [bne, d5]; rfl
          simp only [Bool.true_and, Bool.false_and, Bool.not_true, Bool.not_false]
          go_enter Tryd.func10, Tryd.ntmps10
          go_upto_region 1 with (refine box_blk 34 (msC m (.slice a l.length c)) (by rfl) rfl rfl ?_; intro w1 HA1 B1)
          refine wp_region_lit ?_
          simp only [List.append_eq, List.cons_append, List.nil_append]
          have c0_1 := HA1.cv 0 (.int .i64 m.base.k) rfl
          go_wp2_with (refine load_blk (k := 0) 31 (bpC m.base) (by rfl) rfl rfl HA1 (by kernel_rfl) (by kernel_rfl) rfl ?_)
          refine (HB.out (e0.out trivial) _).mono ?_
          rintro e w2 ⟨rfl, k2⟩
          have HA2 := HA1.kept k2
          have B2 := B1.trans (k2.mono B1.size)
          have c31_2 := HA2.cv 31 (.string m.name) rfl
          rw [hnm] at c31_2
          have c31_2 := HA2.cv 31 (.string m.name) rfl
          rw [hnm] at c31_2
          have c32_2 := HA2.cv 32 (.int .i64 m.rev) rfl
          go_wp2_with fail
          refine (HW1.out _).mono ?_
          rintro e w3 ⟨rfl, rfl⟩
          have HA3 := HA2
          have B3 := B2
          have c33_3 := HA3.cv 33 (.string m.dig) rfl
          go_wp2_with fail
          go_ret
          exact ⟨rfl, B3⟩
        | true =>
          have f5 : ((m.dig.size : Int) != 16) = false := by rw [bne, d5]; rfl
          cases x6 with
          | false =>
            simp only [Bool.true_and, Bool.false_and, Bool.not_true, Bool.not_false]
            go_enter Tryd.func10, Tryd.ntmps10
            go_upto_region 1 with (refine box_blk 34 (msC m (.slice a l.length c)) (by rfl) rfl rfl ?_; intro w1 HA1 B1)
            refine wp_region_lit ?_
            simp only [List.append_eq, List.cons_append, List.nil_append]
            have c0_1 := HA1.cv 0 (.int .i64 m.base.k) rfl
            go_wp2_with (refine load_blk (k := 0) 31 (bpC m.base) (by rfl) rfl rfl HA1 (by kernel_rfl) (by kernel_rfl) rfl ?_)
            refine (HB.out (e0.out trivial) _).mono ?_
            rintro e w2 ⟨rfl, k2⟩
            have HA2 := HA1.kept k2
            have B2 := B1.trans (k2.mono B1.size)
            have c31_2 := HA2.cv 31 (.string m.name) rfl
            rw [hnm] at c31_2
            have c31_2 := HA2.cv 31 (.string m.name) rfl
            rw [hnm] at c31_2
            have c32_2 := HA2.cv 32 (.int .i64 m.rev) rfl
            go_wp2_with fail
            refine (HW1.out _).mono ?_
            rintro e w3 ⟨rfl, rfl⟩
            have HA3 := HA2
            have B3 := B2
            have c33_3 := HA3.cv 33 (.string m.dig) rfl
            have c34_3 := HA3.cv 34 (.int .i64 m.cost) rfl
            go_wp2_with fail
            refine (HW2.out _).mono ?_
            rintro e w4 ⟨rfl, rfl⟩
            have HA4 := HA3
            have B4 := B3
            go_wp2_with fail
            go_ret
            exact ⟨rfl, B4⟩
          | true =>
            cases x7 with
            | false =>
              simp only [Bool.true_and, Bool.false_and, Bool.not_true, Bool.not_false]
              go_enter Tryd.func10, Tryd.ntmps10
              go_upto_region 1 with (refine box_blk 34 (msC m (.slice a l.length c)) (by rfl) rfl rfl ?_; intro w1 HA1 B1)
              refine wp_region_lit ?_
              simp only [List.append_eq, List.cons_append, List.nil_append]
              have c0_1 := HA1.cv 0 (.int .i64 m.base.k) rfl
              go_wp2_with (refine load_blk (k := 0) 31 (bpC m.base) (by rfl) rfl rfl HA1 (by kernel_rfl) (by kernel_rfl) rfl ?_)
              refine (HB.out (e0.out trivial) _).mono ?_
              rintro e w2 ⟨rfl, k2⟩
              have HA2 := HA1.kept k2
              have B2 := B1.trans (k2.mono B1.size)
              have c31_2 := HA2.cv 31 (.string m.name) rfl
              rw [hnm] at c31_2
              have c31_2 := HA2.cv 31 (.string m.name) rfl
              rw [hnm] at c31_2
              have c32_2 := HA2.cv 32 (.int .i64 m.rev) rfl
              go_wp2_with fail
              refine (HW1.out _).mono ?_
              rintro e w3 ⟨rfl, rfl⟩
              have HA3 := HA2
              have B3 := B2
              have c33_3 := HA3.cv 33 (.string m.dig) rfl
              have c34_3 := HA3.cv 34 (.int .i64 m.cost) rfl
              go_wp2_with fail
              refine (HW2.out _).mono ?_
              rintro e w4 ⟨rfl, rfl⟩
              have HA4 := HA3
              have B4 := B3
              go_wp2_with (refine load_blk (k := 35) 27 (brC m.br) (by rfl) rfl rfl HA4 (by kernel_rfl) (by kernel_rfl) rfl ?_)
              refine (HR.out _).mono ?_
              rintro e w5 ⟨rfl, k5⟩
              have HA5 := HA4.kept k5
              have B5 := B4.trans (k5.mono B4.size)
              go_wp2_with fail
              go_ret
              exact ⟨rfl, B5⟩
            | true =>
              cases x8 with
              | false =>
                simp only [Bool.true_and, Bool.false_and, Bool.not_true, Bool.not_false]
                go_enter Tryd.func10, Tryd.ntmps10
                go_upto_region 1 with (refine box_blk 34 (msC m (.slice a l.length c)) (by rfl) rfl rfl ?_; intro w1 HA1 B1)
                refine wp_region_lit ?_
                simp only [List.append_eq, List.cons_append, List.nil_append]
                have c0_1 := HA1.cv 0 (.int .i64 m.base.k) rfl
                go_wp2_with (refine load_blk (k := 0) 31 (bpC m.base) (by rfl) rfl rfl HA1 (by kernel_rfl) (by kernel_rfl) rfl ?_)
                refine (HB.out (e0.out trivial) _).mono ?_
                rintro e w2 ⟨rfl, k2⟩
                have HA2 := HA1.kept k2
                have B2 := B1.trans (k2.mono B1.size)
                have c31_2 := HA2.cv 31 (.string m.name) rfl
                rw [hnm] at c31_2
                have c31_2 := HA2.cv 31 (.string m.name) rfl
                rw [hnm] at c31_2
                have c32_2 := HA2.cv 32 (.int .i64 m.rev) rfl
                go_wp2_with fail
                refine (HW1.out _).mono ?_
                rintro e w3 ⟨rfl, rfl⟩
                have HA3 := HA2
                have B3 := B2
                have c33_3 := HA3.cv 33 (.string m.dig) rfl
                have c34_3 := HA3.cv 34 (.int .i64 m.cost) rfl
                go_wp2_with fail
                refine (HW2.out _).mono ?_
                rintro e w4 ⟨rfl, rfl⟩
                have HA4 := HA3
                have B4 := B3
                go_wp2_with (refine load_blk (k := 35) 27 (brC m.br) (by rfl) rfl rfl HA4 (by kernel_rfl) (by kernel_rfl) rfl ?_)
                refine (HR.out _).mono ?_
                rintro e w5 ⟨rfl, k5⟩
                have HA5 := HA4.kept k5
                have B5 := B4.trans (k5.mono B4.size)
                have c43_5 := HA5.cv 43 (.int .i64 m.hop) rfl
                go_wp2_with fail
                refine (HW3.out _).mono ?_
                rintro e w6 ⟨rfl, rfl⟩
                have HA6 := HA5
                have B6 := B5
                go_wp2_with fail
                go_ret
                exact ⟨rfl, B6⟩
              | true =>
                cases x9 with
                | false =>
                  rw [Bool.not_false] at d9
                  simp only [Bool.true_and, Bool.false_and, Bool.not_true, Bool.not_false]
                  go_enter Tryd.func10, Tryd.ntmps10
                  go_upto_region 1 with (refine box_blk 34 (msC m (.slice a l.length c)) (by rfl) rfl rfl ?_; intro w1 HA1 B1)
                  refine wp_region_lit ?_
                  simp only [List.append_eq, List.cons_append, List.nil_append]
                  have c0_1 := HA1.cv 0 (.int .i64 m.base.k) rfl
                  go_wp2_with (refine load_blk (k := 0) 31 (bpC m.base) (by rfl) rfl rfl HA1 (by kernel_rfl) (by kernel_rfl) rfl ?_)
                  refine (HB.out (e0.out trivial) _).mono ?_
                  rintro e w2 ⟨rfl, k2⟩
                  have HA2 := HA1.kept k2
                  have B2 := B1.trans (k2.mono B1.size)
                  have c31_2 := HA2.cv 31 (.string m.name) rfl
                  rw [hnm] at c31_2
                  have c31_2 := HA2.cv 31 (.string m.name) rfl
                  rw [hnm] at c31_2
                  have c32_2 := HA2.cv 32 (.int .i64 m.rev) rfl
                  go_wp2_with fail
                  refine (HW1.out _).mono ?_
                  rintro e w3 ⟨rfl, rfl⟩
                  have HA3 := HA2
                  have B3 := B2
                  have c33_3 := HA3.cv 33 (.string m.dig) rfl
                  have c34_3 := HA3.cv 34 (.int .i64 m.cost) rfl
                  go_wp2_with fail
                  refine (HW2.out _).mono ?_
                  rintro e w4 ⟨rfl, rfl⟩
                  have HA4 := HA3
                  have B4 := B3
                  go_wp2_with (refine load_blk (k := 35) 27 (brC m.br) (by rfl) rfl rfl HA4 (by kernel_rfl) (by kernel_rfl) rfl ?_)
                  refine (HR.out _).mono ?_
                  rintro e w5 ⟨rfl, k5⟩
                  have HA5 := HA4.kept k5
                  have B5 := B4.trans (k5.mono B4.size)
                  have c43_5 := HA5.cv 43 (.int .i64 m.hop) rfl
                  go_wp2_with fail
                  refine (HW3.out _).mono ?_
                  rintro e w6 ⟨rfl, rfl⟩
                  have HA6 := HA5
                  have B6 := B5
                  have c44_6 := HA6.cv 44 (.slice a l.length c) rfl
                  go_wp2_with fail
                  go_ret
                  exact ⟨rfl, B6⟩
                | true =>
                  rw [Bool.not_true] at d9
                  simp only [Bool.true_and, Bool.not_false]
                  go_enter Tryd.func10, Tryd.ntmps10
                  go_upto_region 1 with (refine box_blk 34 (msC m (.slice a l.length c)) (by rfl) rfl rfl ?_; intro w1 HA1 B1)
                  refine wp_region_lit ?_
                  simp only [List.append_eq, List.cons_append, List.nil_append]
                  have c0_1 := HA1.cv 0 (.int .i64 m.base.k) rfl
                  go_wp2_with (refine load_blk (k := 0) 31 (bpC m.base) (by rfl) rfl rfl HA1 (by kernel_rfl) (by kernel_rfl) rfl ?_)
                  refine (HB.out (e0.out trivial) _).mono ?_
                  rintro e w2 ⟨rfl, k2⟩
                  have HA2 := HA1.kept k2
                  have B2 := B1.trans (k2.mono B1.size)
                  have c31_2 := HA2.cv 31 (.string m.name) rfl
                  rw [hnm] at c31_2
                  have c31_2 := HA2.cv 31 (.string m.name) rfl
                  rw [hnm] at c31_2
                  have c32_2 := HA2.cv 32 (.int .i64 m.rev) rfl
                  go_wp2_with fail
                  refine (HW1.out _).mono ?_
                  rintro e w3 ⟨rfl, rfl⟩
                  have HA3 := HA2
                  have B3 := B2
                  have c33_3 := HA3.cv 33 (.string m.dig) rfl
                  have c34_3 := HA3.cv 34 (.int .i64 m.cost) rfl
                  go_wp2_with fail
                  refine (HW2.out _).mono ?_
                  rintro e w4 ⟨rfl, rfl⟩
                  have HA4 := HA3
                  have B4 := B3
                  go_wp2_with (refine load_blk (k := 35) 27 (brC m.br) (by rfl) rfl rfl HA4 (by kernel_rfl) (by kernel_rfl) rfl ?_)
                  refine (HR.out _).mono ?_
                  rintro e w5 ⟨rfl, k5⟩
                  have HA5 := HA4.kept k5
                  have B5 := B4.trans (k5.mono B4.size)
                  have c43_5 := HA5.cv 43 (.int .i64 m.hop) rfl
                  go_wp2_with fail
                  refine (HW3.out _).mono ?_
                  rintro e w6 ⟨rfl, rfl⟩
                  have HA6 := HA5
                  have B6 := B5
                  have c44_6 := HA6.cv 44 (.slice a l.length c) rfl
                  go_wp2_with fail
                  go_loopw [4, 75] (fun _ i wr => ∃ k : Nat, k ≤ l.length ∧ i = .int .i64 k ∧ Hid (l.all okIns = (l.drop k).all okIns) ∧ Below w.heap.size w wr) (fun _ i _ => l.length - (intOf i).toNat)
                  case atStart => exact ⟨0, by omega, rfl, by show _ = _; rw [List.drop_zero], B6⟩
                  case round =>
                    clear HA1 HA2 HA3 HA4 HA5 HA6
                    obtain ⟨k, hk, rfl, HZ, hb⟩ := hrel
                    by_cases hlt : k < l.length
                    · skip
                      obtain ⟨bk, o, rfl, hbk, hat⟩ := h.at hlt
                      have b1 : (k : Int) < (l.length : Int) := by omega
                      have b2 : decide ((k : Int) < (l.length : Int)) = true := decide_eq_true b1
                      have b3 : (0 : Int) ≤ (k : Int) := by omega
                      have HK := (hat k hlt).below hb hbk
                      have HD := Lib.hid (rmE_all l k hlt)
                      have R0 := hb.alloc hb.size (.cells (inC zIns) 85)
                      have HN := Blk.new wr 85 (inC zIns)
                      have hgl : w.heap.size ≤ wr.heap.size := hb.size
                      have HOI : Hid (okIns l[k] = (okF l[k].f && (okB l[k].root && (fitI 4 l[k].cost && (rkI l[k].br && (rkI l[k].pt && fitI 1 l[k].hop)))))) := rfl
                      generalize l[k] = x at *
                      have G1 : Hid (∀ W, Calls Tryd.prog 39 #[.int .i64 x.f.ro, .int .i64 0, .int .i64 3] W fun e w' => e = .returned (.bool (okF x.f)) ∧ W = w') := fun W => within_any x.f.ro 0 3 W
                      have G2 := Lib.hid (fun W => refRight_any x.root W)
                      have G3 := Lib.hid (fun W => within4 x.cost W)
                      have G4 : Hid (∀ W, Calls Tryd.prog 39 #[.int .i64 x.br, .int .i64 0, .int .i64 15] W fun e w' => e = .returned (.bool (rkI x.br)) ∧ W = w') := fun W => within_any x.br 0 15 W
                      have G5 : Hid (∀ W, Calls Tryd.prog 39 #[.int .i64 x.pt, .int .i64 0, .int .i64 15] W fun e w' => e = .returned (.bool (rkI x.pt)) ∧ W = w') := fun W => within_any x.pt 0 15 W
                      have G6 := Lib.hid (fun W => by have q := within_any x.hop 0 255 W; rw [rmE_fit1] at q; exact q)
                      generalize okIns x = oi at *
                      generalize fitI 1 x.hop = u5 at *
                      generalize rkI x.pt = u4 at *
                      generalize rkI x.br = u3 at *
                      generalize fitI 4 x.cost = u2 at *
                      generalize okB x.root = u1 at *
                      generalize okF x.f = u0 at *
                      go_upto_region 6 with (first
                        | (refine load_cells 85 (inC x) (by rfl) rfl rfl HK (by kernel_rfl) (by kernel_rfl) ?_)
                        | (refine alloc_blk 85 (inC zIns) (by rfl) rfl Tryd.inZero ?_)
                        | (refine store_blk (k := 0) 85 (.agg (inC x)) (inC x) (by rfl) rfl rfl rfl HN (by kernel_rfl) (show (19 : Nat) ≤ 19 from Nat.le_refl 19) (by rfl) (st_whole _ _ rfl) ?_; intro v1 V1 q1 g1))
                      (try simp only [Act.put, List.setIfInBounds_toArray, List.set_cons_zero, List.set_cons_succ])
                      have C1 : Below w.heap.size w v1 := R0.trans (q1.mono hgl)
                      clear HK HN R0 q1 g1 hb
                      generalize wr.heap.size = G at *
                      cases u0 with
                      | false =>
                        have HN : Hid (l.all okIns = false) := by show _ = _; rw [HZ.out, HD.out, HOI.out]; simp only [Bool.true_and, Bool.false_and]
                        have c2_1 := V1.cv 2 (.int .i64 x.f.ro) rfl
                        go_wp2_with fail
                        refine (G1.out _).mono ?_
                        rintro e v2 ⟨rfl, rfl⟩
                        have V2 := V1
                        have C2 := C1
                        go_wp2
                        go_ret
                        exact ⟨by rw [HN.out]; rfl, C2⟩
                      | true =>
                        cases u1 with
                        | false =>
                          have HN : Hid (l.all okIns = false) := by show _ = _; rw [HZ.out, HD.out, HOI.out]; simp only [Bool.true_and, Bool.false_and]
                          have c2_1 := V1.cv 2 (.int .i64 x.f.ro) rfl
                          go_wp2_with fail
                          refine (G1.out _).mono ?_
                          rintro e v2 ⟨rfl, rfl⟩
                          have V2 := V1
                          have C2 := C1
                          go_wp2_with (refine load_blk (k := 7) 27 (brC x.root) (by rfl) rfl rfl V2 (by kernel_rfl) (by kernel_rfl) rfl ?_)
                          refine (G2.out _).mono ?_
                          rintro e v3 ⟨rfl, q3⟩
                          have V3 := V2.kept q3
                          have C3 := C2.trans (q3.mono C2.size)
                          go_wp2
                          go_ret
                          exact ⟨by rw [HN.out]; rfl, C3⟩
                        | true =>
                          cases u2 with
                          | false =>
                            have HN : Hid (l.all okIns = false) := by show _ = _; rw [HZ.out, HD.out, HOI.out]; simp only [Bool.true_and, Bool.false_and]
                            have c2_1 := V1.cv 2 (.int .i64 x.f.ro) rfl
                            go_wp2_with fail
                            refine (G1.out _).mono ?_
                            rintro e v2 ⟨rfl, rfl⟩
                            have V2 := V1
                            have C2 := C1
                            go_wp2_with (refine load_blk (k := 7) 27 (brC x.root) (by rfl) rfl rfl V2 (by kernel_rfl) (by kernel_rfl) rfl ?_)
                            refine (G2.out _).mono ?_
                            rintro e v3 ⟨rfl, q3⟩
                            have V3 := V2.kept q3
                            have C3 := C2.trans (q3.mono C2.size)
                            have c15_3 := V3.cv 15 (.int .i64 x.cost) rfl
                            go_wp2_with fail
                            refine (G3.out _).mono ?_
                            rintro e v4 ⟨rfl, rfl⟩
                            have V4 := V3
                            have C4 := C3
                            go_wp2
                            go_ret
                            exact ⟨by rw [HN.out]; rfl, C4⟩
                          | true =>
                            cases u3 with
                            | false =>
                              have HN : Hid (l.all okIns = false) := by show _ = _; rw [HZ.out, HD.out, HOI.out]; simp only [Bool.true_and, Bool.false_and]
                              have c2_1 := V1.cv 2 (.int .i64 x.f.ro) rfl
                              go_wp2_with fail
                              refine (G1.out _).mono ?_
                              rintro e v2 ⟨rfl, rfl⟩
                              have V2 := V1
                              have C2 := C1
                              go_wp2_with (refine load_blk (k := 7) 27 (brC x.root) (by rfl) rfl rfl V2 (by kernel_rfl) (by kernel_rfl) rfl ?_)
                              refine (G2.out _).mono ?_
                              rintro e v3 ⟨rfl, q3⟩
                              have V3 := V2.kept q3
                              have C3 := C2.trans (q3.mono C2.size)
                              have c15_3 := V3.cv 15 (.int .i64 x.cost) rfl
                              go_wp2_with fail
                              refine (G3.out _).mono ?_
                              rintro e v4 ⟨rfl, rfl⟩
                              have V4 := V3
                              have C4 := C3
                              have c16_4 := V4.cv 16 (.int .i64 x.br) rfl
                              go_wp2_with fail
                              refine (G4.out _).mono ?_
                              rintro e v5 ⟨rfl, rfl⟩
                              have V5 := V4
                              have C5 := C4
                              go_wp2
                              go_ret
                              exact ⟨by rw [HN.out]; rfl, C5⟩
                            | true =>
                              cases u4 with
                              | false =>
                                have HN : Hid (l.all okIns = false) := by show _ = _; rw [HZ.out, HD.out, HOI.out]; simp only [Bool.true_and, Bool.false_and]
                                have c2_1 := V1.cv 2 (.int .i64 x.f.ro) rfl
                                go_wp2_with fail
                                refine (G1.out _).mono ?_
                                rintro e v2 ⟨rfl, rfl⟩
                                have V2 := V1
                                have C2 := C1
                                go_wp2_with (refine load_blk (k := 7) 27 (brC x.root) (by rfl) rfl rfl V2 (by kernel_rfl) (by kernel_rfl) rfl ?_)
                                refine (G2.out _).mono ?_
                                rintro e v3 ⟨rfl, q3⟩
                                have V3 := V2.kept q3
                                have C3 := C2.trans (q3.mono C2.size)
                                have c15_3 := V3.cv 15 (.int .i64 x.cost) rfl
                                go_wp2_with fail
                                refine (G3.out _).mono ?_
                                rintro e v4 ⟨rfl, rfl⟩
                                have V4 := V3
                                have C4 := C3
                                have c16_4 := V4.cv 16 (.int .i64 x.br) rfl
                                go_wp2_with fail
                                refine (G4.out _).mono ?_
                                rintro e v5 ⟨rfl, rfl⟩
                                have V5 := V4
                                have C5 := C4
                                have c17_5 := V5.cv 17 (.int .i64 x.pt) rfl
                                go_wp2_with fail
                                refine (G5.out _).mono ?_
                                rintro e v6 ⟨rfl, rfl⟩
                                have V6 := V5
                                have C6 := C5
                                go_wp2
                                go_ret
                                exact ⟨by rw [HN.out]; rfl, C6⟩
                              | true =>
                                cases u5 with
                                | false =>
                                  have HN : Hid (l.all okIns = false) := by show _ = _; rw [HZ.out, HD.out, HOI.out]; simp only [Bool.true_and, Bool.false_and]
                                  have c2_1 := V1.cv 2 (.int .i64 x.f.ro) rfl
                                  go_wp2_with fail
                                  refine (G1.out _).mono ?_
                                  rintro e v2 ⟨rfl, rfl⟩
                                  have V2 := V1
                                  have C2 := C1
                                  go_wp2_with (refine load_blk (k := 7) 27 (brC x.root) (by rfl) rfl rfl V2 (by kernel_rfl) (by kernel_rfl) rfl ?_)
                                  refine (G2.out _).mono ?_
                                  rintro e v3 ⟨rfl, q3⟩
                                  have V3 := V2.kept q3
                                  have C3 := C2.trans (q3.mono C2.size)
                                  have c15_3 := V3.cv 15 (.int .i64 x.cost) rfl
                                  go_wp2_with fail
                                  refine (G3.out _).mono ?_
                                  rintro e v4 ⟨rfl, rfl⟩
                                  have V4 := V3
                                  have C4 := C3
                                  have c16_4 := V4.cv 16 (.int .i64 x.br) rfl
                                  go_wp2_with fail
                                  refine (G4.out _).mono ?_
                                  rintro e v5 ⟨rfl, rfl⟩
                                  have V5 := V4
                                  have C5 := C4
                                  have c17_5 := V5.cv 17 (.int .i64 x.pt) rfl
                                  go_wp2_with fail
                                  refine (G5.out _).mono ?_
                                  rintro e v6 ⟨rfl, rfl⟩
                                  have V6 := V5
                                  have C6 := C5
                                  have c18_6 := V6.cv 18 (.int .i64 x.hop) rfl
                                  go_wp2_with fail
                                  refine (G6.out _).mono ?_
                                  rintro e v7 ⟨rfl, rfl⟩
                                  have V7 := V6
                                  have C7 := C6
                                  go_wp2
                                  go_ret
                                  exact ⟨by rw [HN.out]; rfl, C7⟩
                                | true =>
                                  have HN : Hid (l.all okIns = (l.drop (k + 1)).all okIns) := by show _ = _; rw [HZ.out, HD.out, HOI.out]; simp only [Bool.true_and]
                                  have c2_1 := V1.cv 2 (.int .i64 x.f.ro) rfl
                                  go_wp2_with fail
                                  refine (G1.out _).mono ?_
                                  rintro e v2 ⟨rfl, rfl⟩
                                  have V2 := V1
                                  have C2 := C1
                                  go_wp2_with (refine load_blk (k := 7) 27 (brC x.root) (by rfl) rfl rfl V2 (by kernel_rfl) (by kernel_rfl) rfl ?_)
                                  refine (G2.out _).mono ?_
                                  rintro e v3 ⟨rfl, q3⟩
                                  have V3 := V2.kept q3
                                  have C3 := C2.trans (q3.mono C2.size)
                                  have c15_3 := V3.cv 15 (.int .i64 x.cost) rfl
                                  go_wp2_with fail
                                  refine (G3.out _).mono ?_
                                  rintro e v4 ⟨rfl, rfl⟩
                                  have V4 := V3
                                  have C4 := C3
                                  have c16_4 := V4.cv 16 (.int .i64 x.br) rfl
                                  go_wp2_with fail
                                  refine (G4.out _).mono ?_
                                  rintro e v5 ⟨rfl, rfl⟩
                                  have V5 := V4
                                  have C5 := C4
                                  have c17_5 := V5.cv 17 (.int .i64 x.pt) rfl
                                  go_wp2_with fail
                                  refine (G5.out _).mono ?_
                                  rintro e v6 ⟨rfl, rfl⟩
                                  have V6 := V5
                                  have C6 := C5
                                  have c18_6 := V6.cv 18 (.int .i64 x.hop) rfl
                                  go_wp2_with fail
                                  refine (G6.out _).mono ?_
                                  rintro e v7 ⟨rfl, rfl⟩
                                  have V7 := V6
                                  have C7 := C6
                                  go_wp2
                                  go_roundw
                                  case rel => exact ⟨k + 1, by omega, by go_num, HN, C7⟩
                                  case measure => simp [intOf]; omega
                    · obtain rfl : k = l.length := by omega
                      have b2 : decide ((l.length : Int) < (l.length : Int)) = false := decide_eq_false (by omega)
                      have HN : Hid (l.all okIns = true) := by show _ = _; rw [HZ.out, List.drop_length]; rfl
                      clear HZ
                      go_wp2
                      go_ret
                      exact ⟨by rw [HN.out]; rfl, hb⟩

end Go.Proofs.YtajbkoggmhgjfaaDoor
