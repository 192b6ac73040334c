/- The reference's Learn, where it doesn't err. -/
import Derived.Test.YtgeiiengieonfaaDoorRfE
namespace Go.Proofs.YtgeiiengieonfaaDoor
open Go.RowKit
open Go.Shelf
attribute [local go_sem ↓] Go.wp_at_zero Go.wp_at_succ
set_option linter.unusedSimpArgs false
set_option linter.unusedVariables false
set_option maxRecDepth 100000

def lenV : Value → Nat
  | .slice _ n _ => n
  | _ => 0

theorem snoc_filter {p : Ent → Bool} {l : List Ent} {k : Nat} {x : Ent} (hx : l[k]? = some x) : (l.take (k + 1)).filter p = (l.take k).filter p ++ if p x then [x] else [] := by
  rw [List.take_add_one, hx, List.filter_append]
  cases hp : p x <;> simp [hp]

set_option maxHeartbeats 3200000 in
theorem rlearn_ok (B t : Nat) (age last : Int) (l : List Ent) (vid : Int) (a : Nat → Nat) (port now : Int) (w : World) (h : RTab w B t age last l) (ha : ∀ i, a i < 256) (hB : B ≤ w.heap.size) (hg : ¬ a 0 % 2 = 1) (hv : ¬ (¬ (1 ≤ vid ∧ vid ≤ 4094))) (hp : ¬ (¬ (0 ≤ port ∧ port ≤ 7))) (hn : ¬ (¬ (0 ≤ now ∧ now ≤ 1099511627776))) (ho : ¬ now < last) :
    Calls Tryd.prog 14 #[.pointer (some ⟨t, 0, none⟩), .int .i64 vid, .agg (c6 a), .int .i64 port, .int .i64 now] w fun e w' => e = .returned (.int .i64 0) ∧ RTab w' B t age now (learnM age l vid a port now) ∧ Lx B RT w w' := by
  have hb0 : Below w.heap.size w (w.alloc (.cells (c6 a) 30)) := (Below.refl _ _).alloc (Nat.le_refl _) _
  have HX := Blk.new w 30 (c6 a)
  have HG := Lib.hid (rgroup6 a ha (w.alloc (.cells (c6 a) 30)))
  have hv2 := Decidable.not_not.1 hv
  have hp2 := Decidable.not_not.1 hp
  have hn2 := Decidable.not_not.1 hn
  have HOK := Lib.hid (h.ok.learn age vid a port now ha hp2.1 (by omega) hn2.1 hn2.2)
  have HN := Lib.hid hn2
  have hlo := Lib.hid h.lo
  have ha0 := Lib.hid h.a0
  have ha1 := Lib.hid h.a1
  have HOKl := Lib.hid h.ok.ok
  have HL := Lib.hid h.ok.len
  have hll : l.length ≤ 9223372036854775807 := by have := h.ok.len; omega
  obtain ⟨v, hb, hr⟩ := (h.kept hb0).row
  obtain ⟨ad, c, rfl⟩ := hr.form
  have HB := Lib.hid hb
  have HB0 := Lib.hid hb0
  have hrow := Lib.hid hr
  have hBs0 := Nat.le_trans hB hb0.size
  have HLb : Hid (Lx B RT w (w.alloc (.cells (c6 a) 30))) := Lx.of hb0
  have dg : decide (a 0 % 2 = 1) = false := decide_eq_false hg
  have HV := Lib.hid (fun w => within_any' vid 1 4094 true w (decide_eq_true hv2))
  have HP := Lib.hid (fun w => within_any' port 0 7 true w (decide_eq_true hp2))
  have HNo := Lib.hid (fun w => within_any' now 0 1099511627776 true w (decide_eq_true hn2))
  have do1 : decide (now < last) = false := decide_eq_false ho
  rw [dg] at HG
  have hnr1 : -2199023255552 ≤ now := by omega
  have hnr2 : now ≤ 2199023255552 := by omega
  clear h hr hb hb0 dg hg hv hp hn ho hv2 hp2 hn2
  unfold c6 at *
  go_enter Tryd.func14, Tryd.ntmps14
  go_upto_region 1 with (fail)
  generalize w.alloc (.cells #[.int .u8 (a 0), .int .u8 (a 1), .int .u8 (a 2), .int .u8 (a 3), .int .u8 (a 4), .int .u8 (a 5)] 30) = W0 at *
  go_wp2_with (first
    | (refine load_blk (k := 0) 30 #[.int .u8 (a 0), .int .u8 (a 1), .int .u8 (a 2), .int .u8 (a 3), .int .u8 (a 4), .int .u8 (a 5)] (by rfl) rfl rfl HX (by kernel_rfl) (by kernel_rfl) (by rfl) ?_)
    | (go_at_call 27; refine HG.out.mono ?_; rintro e w1 ⟨rfl, k1⟩; have HX1 := HX.kept k1; have HB1 := HB.out.kept k1; have c4 := HB1.cv 1 (.int .i64 last) rfl)
    | (go_at_call 28; refine (HV.out _).mono ?_; rintro e w' ⟨rfl, rfl⟩; clear HV)
    | (go_at_call 28; refine (HP.out _).mono ?_; rintro e w' ⟨rfl, rfl⟩; clear HP)
    | (go_at_call 28; refine (HNo.out _).mono ?_; rintro e w' ⟨rfl, rfl⟩; clear HNo)
    | (refine store_blk (B := t) (k := 1) 3 (.int .i64 now) (tabC age now (.slice ad l.length c)) (by rfl) rfl rfl rfl HB1 (by kernel_rfl) (show (2 : Nat) ≤ 3 by decide) (by rfl) rfl ?_; intro w2 hT2 bb2 g2; have c5 := hT2.cv 2 (.slice ad l.length c) rfl; clear c4))
  have HX2 := HX1.grown g2 (by intro e; cases e; exact absurd (blk_type HX1 HB1) (by decide))
  have hrow2 := (hrow.out.kept k1).other g2 HB1 (by decide)
  have L2 : Lx B RT W0 w2 := (Lx.of k1 : Lx B RT W0 w1).grown g2 hlo.out List.mem_cons_self HB1
  have hBs2 := Nat.le_trans hBs0 L2.size
  clear HG HB HX HX1 HB1 hrow k1 bb2 g2 c5
  go_loopw [11, 44] (fun s11 s44 wr => ∃ k : Nat, k ≤ l.length ∧ s44 = .int .i64 k ∧ (∃ v, s11 = v ∧ RowE wr w2.heap.size 71 v ((l.take k).filter fun e => !goneE age now vid a e)) ∧ Lx w2.heap.size [71] w2 wr) (fun _ i _ => l.length - (intOf i).toNat)
  case atStart => exact ⟨0, by omega, rfl, ⟨_, rfl, RowE.nil _ _ _⟩, Lx.refl _ _ _⟩
  case round =>
    obtain ⟨k, hk, rfl, ⟨v, rfl, hv⟩, Bk⟩ := hrel
    by_cases hlt : k < l.length
    · have hrA := hrow2.keep (fun g C hb _ => (Bk.below (Nat.le_refl _)).block g hb.lt)
      obtain ⟨g0, lo, e1, hbl, HK⟩ := hrA.at hlt
      subst e1
      have q1 : (k : Int) < (l.length : Int) := by omega
      have q2 : decide ((k : Int) < (l.length : Int)) = true := decide_eq_true q1
      have q3 : (0 : Int) ≤ (k : Int) := by omega
      have q4 : IntKind.i64.wrap ((k : Int) + 1) = (k : Int) + 1 := by have := HL.out; rw [IntKind.wrap_i64] <;> omega
      have hokx := HOKl.out _ (List.getElem_mem hlt)
      have hXk := List.getElem?_eq_getElem hlt
      generalize l[k] = x at *
      have HSN := Lib.hid (snoc_filter (p := fun e => !goneE age now vid a e) hXk)
      have hsw := Bk.size
      have HA4 := Blk.new wr 71 (enC zEnt)
      have b4 : Below wr.heap.size wr (wr.alloc (.cells (enC zEnt) 71)) := (Below.refl _ _).alloc (Nat.le_refl _) _
      clear hXk hrA
      go_upto_region 12 with (first
        | (refine load_cells (B := g0) (k := lo + k * 9) 71 (enC x) (by rfl) rfl rfl HK (by kernel_rfl) (by kernel_rfl) ?_)
        | (refine alloc_blk 71 (enC zEnt) (by rfl) rfl Tryd.erZero ?_)
        | (refine store_blk (k := 0) 71 (.agg (enC x)) (enC x) (by rfl) rfl rfl rfl HA4 (by kernel_rfl) (show (9 : Nat) ≤ 9 from Nat.le_refl 9) (by rfl) (st_whole' _ _ rfl) ?_; intro w5 HA5 b5 g5))
      have B5 : Below wr.heap.size wr w5 := b4.trans b5
      have L5 := Bk.trans (Lx.of B5)
      have hv5 := hv.kept B5
      have HT5 := L5.blk hT2 (by decide)
      have HX5 := L5.blk HX2 (by decide)
      have hbase5 := L5.size
      clear HA4 b4 b5 g5 HK Bk hbl hv B5
      generalize wr.heap.size = N at *
      have HLf := Lib.hid (show ((l.take k).filter fun e => !goneE age now vid a e).length ≤ 100000 by have h1 := List.length_filter_le (fun e => !goneE age now vid a e) (l.take k); have h2 := List.length_take (i := k) (l := l); have h3 := HL.out; omega)
      generalize ((l.take k).filter fun e => !goneE age now vid a e) = fl at *
      have n0 := HA5.cv 0 (.int .i64 x.vid) rfl
      have hq : ∀ W, (Op.equalIn 10000 30 (.agg (c6 x.a)) (.agg #[.int .u8 (a 0), .int .u8 (a 1), .int .u8 (a 2), .int .u8 (a 3), .int .u8 (a 4), .int .u8 (a 5)])).run Tryd.prog W = .ok (eqN 6 x.a a) W := fun W => run_eql_c6 9998 x.a a W
      have HAl := Lib.hid (known_any t age now _ x now w5 HT5 hokx ha0.out ha1.out hnr1 hnr2)
      have hm : goneE age now vid a x = (!(aliveE age now x) || (decide (x.vid = vid) && eqN 6 x.a a)) := rfl
      generalize eqN 6 x.a a = q at *
      generalize aliveE age now x = al at *
      cases al with
      | false =>
        simp only [Bool.not_false, Bool.true_or] at hm
        have hf : (l.take (k + 1)).filter (fun e => !goneE age now vid a e) = fl := by rw [HSN.out]; simp [hm]
        have HF := Lib.hid hf
        clear hf hm
        go_wp2_with (first
          | go_big_skip
          | (refine load_blk (B := N) (k := 0) 71 (enC x) (by rfl) rfl rfl HA5 (by kernel_rfl) (by kernel_rfl) (by rfl) ?_)
          | (go_at_call 29; refine HAl.out.mono ?_; rintro e w6 ⟨rfl, k6⟩))
        go_roundw
        case rel => exact ⟨k + 1, by omega, by go_num, ⟨_, rfl, by rw [HF.out]; exact hv5.kept k6⟩, L5.trans (Lx.of k6)⟩
        case measure => simp [intOf]; omega
      | true =>
        by_cases hv : x.vid = vid
        · have hdv : decide (x.vid = vid) = true := decide_eq_true hv
          rw [hdv] at hm
          have hbv : (vid != vid) = false := by simp
          have hbv2 : (vid == vid) = true := by simp
          cases q with
          | true =>
            simp only [Bool.not_true, Bool.and_self, Bool.false_or] at hm
            have hf : (l.take (k + 1)).filter (fun e => !goneE age now vid a e) = fl := by rw [HSN.out]; simp [hm]
            have HF := Lib.hid hf
            have HVe := Lib.hid hv
            clear hf hm hv
            rw [HVe.out] at n0
            go_wp2_with (first
                  | go_big_skip
                  | (refine load_blk (B := N) (k := 0) 71 (enC x) (by rfl) rfl rfl HA5 (by kernel_rfl) (by kernel_rfl) (by rfl) ?_)
                  | (go_at_call 29; refine HAl.out.mono ?_; rintro e w6 ⟨rfl, k6⟩; have HA6 := HA5.kept k6; have n0 := HA6.cv 0 (.int .i64 x.vid) rfl; rw [HVe.out] at n0; have HX6 := HX5.kept k6; have hv6 := hv5.kept k6; have hb6 := Nat.le_trans hbase5 k6.size; clear HA5)
                  | (refine load_blk (B := N) (k := 1) 30 (c6 x.a) (by rfl) rfl rfl HA6 (by kernel_rfl) (by kernel_rfl) (by rfl) ?_)
                  | (refine load_blk (k := 0) 30 #[.int .u8 (a 0), .int .u8 (a 1), .int .u8 (a 2), .int .u8 (a 3), .int .u8 (a 4), .int .u8 (a 5)] (by rfl) rfl rfl HX6 (by kernel_rfl) (by kernel_rfl) (by rfl) ?_))
            go_roundw
            case rel => exact ⟨k + 1, by omega, by go_num, ⟨_, rfl, by rw [HF.out]; exact hv6⟩, L5.trans (Lx.of k6)⟩
            case measure => simp [intOf]; omega
          | false =>
            simp only [Bool.not_true, Bool.and_false, Bool.false_or] at hm
            have HVe := Lib.hid hv
            clear hv
            rw [HVe.out] at n0
            have hf : (l.take (k + 1)).filter (fun e => !goneE age now vid a e) = fl ++ [x] := by rw [HSN.out]; simp [hm]
            have HF := Lib.hid hf
            clear hf hm
            go_wp2_with (first
                  | go_big_skip
                  | (refine load_blk (B := N) (k := 0) 71 (enC x) (by rfl) rfl rfl HA5 (by kernel_rfl) (by kernel_rfl) (by rfl) ?_)
                  | (go_at_call 29; refine HAl.out.mono ?_; rintro e w6 ⟨rfl, k6⟩; have HA6 := HA5.kept k6; have n0 := HA6.cv 0 (.int .i64 x.vid) rfl; rw [HVe.out] at n0; have HX6 := HX5.kept k6; have hv6 := hv5.kept k6; have hb6 := Nat.le_trans hbase5 k6.size; clear HA5)
                  | (refine load_blk (B := N) (k := 1) 30 (c6 x.a) (by rfl) rfl rfl HA6 (by kernel_rfl) (by kernel_rfl) (by rfl) ?_)
                  | (refine load_blk (k := 0) 30 #[.int .u8 (a 0), .int .u8 (a 1), .int .u8 (a 2), .int .u8 (a 3), .int .u8 (a 4), .int .u8 (a 5)] (by rfl) rfl rfl HX6 (by kernel_rfl) (by kernel_rfl) (by rfl) ?_)
                  | (refine load_blk (B := N) (k := 0) 71 (enC x) (by rfl) rfl rfl HA6 (by kernel_rfl) (by kernel_rfl) (by rfl) ?_)
                  | (refine sliceL_en Tryd.erT x (by rfl) rfl rfl ?_; intro w8 HBn bb8 hs8; have hv8 := hv6.kept bb8; have hb8 := Nat.le_trans hb6 bb8.size)
                  | (refine appendL_en (l := fl) Tryd.erT x (by rfl) rfl rfl rfl hv8 HBn HLf.out hb8 ?_; intro v9 w9 hr9 hx9))
            go_roundw
            case rel => exact ⟨k + 1, by omega, by go_num, ⟨_, rfl, by rw [HF.out]; exact hr9⟩, (L5.trans (Lx.of k6)).trans ((Lx.of bb8).trans hx9)⟩
            case measure => simp [intOf]; omega
        · have hdv : decide (x.vid = vid) = false := decide_eq_false hv
          have hbv : (x.vid != vid) = true := by simpa using hv
          have hbv2 : (x.vid == vid) = false := by simpa using hv
          rw [hdv] at hm
          simp only [Bool.not_true, Bool.false_and, Bool.false_or] at hm
          have hf : (l.take (k + 1)).filter (fun e => !goneE age now vid a e) = fl ++ [x] := by rw [HSN.out]; simp [hm]
          have HF := Lib.hid hf
          clear hf hm
          go_wp2_with (first
                  | go_big_skip
                  | (refine load_blk (B := N) (k := 0) 71 (enC x) (by rfl) rfl rfl HA5 (by kernel_rfl) (by kernel_rfl) (by rfl) ?_)
                  | (go_at_call 29; refine HAl.out.mono ?_; rintro e w6 ⟨rfl, k6⟩; have HA6 := HA5.kept k6; have n0 := HA6.cv 0 (.int .i64 x.vid) rfl; have HX6 := HX5.kept k6; have hv6 := hv5.kept k6; have hb6 := Nat.le_trans hbase5 k6.size; clear HA5)
                  | (refine load_blk (B := N) (k := 0) 71 (enC x) (by rfl) rfl rfl HA6 (by kernel_rfl) (by kernel_rfl) (by rfl) ?_)
                  | (refine sliceL_en Tryd.erT x (by rfl) rfl rfl ?_; intro w8 HBn bb8 hs8; have hv8 := hv6.kept bb8; have hb8 := Nat.le_trans hb6 bb8.size)
                  | (refine appendL_en (l := fl) Tryd.erT x (by rfl) rfl rfl rfl hv8 HBn HLf.out hb8 ?_; intro v9 w9 hr9 hx9))
          go_roundw
          case rel => exact ⟨k + 1, by omega, by go_num, ⟨_, rfl, by rw [HF.out]; exact hr9⟩, (L5.trans (Lx.of k6)).trans ((Lx.of bb8).trans hx9)⟩
          case measure => simp [intOf]; omega
    · obtain rfl : k = l.length := by omega
      have q2 : decide ((l.length : Int) < (l.length : Int)) = false := decide_eq_false (by omega)
      rw [List.take_length] at hv
      have HLM : Hid (learnM age l vid a port now = roomM (l.filter fun e => !goneE age now vid a e) ++ [⟨vid, a, port, now⟩]) := rfl
      have hmlen : (l.filter fun e => !goneE age now vid a e).length ≤ 32 := Nat.le_trans (List.length_filter_le _ _) HL.out
      generalize (l.filter fun e => !goneE age now vid a e) = m at *
      obtain ⟨adm, cm, rfl⟩ := hv.toA.form
      have hTr := Bk.blk hT2 (by decide)
      have hXr := Bk.blk HX2 (by decide)
      have Lr := HLb.out.trans (L2.trans (Bk.mono hBs2 (by simp)))
      have hbase := Bk.size
      have HV := Lib.hid hv
      have HBk := Lib.hid Bk
      clear hT2 HX2 L2 Bk hv hrow2
      go_wp2_with fail
      go_loopw [11] (fun s11 wl => wl = wr ∧ (s11 = .slice adm m.length cm ∨ (m.length = 32 ∧ ∃ g, adm = some ⟨g, 0, none⟩ ∧ s11 = .slice (some ⟨g, 9, none⟩) 31 (cm - 1)))) (fun s11 _ => lenV s11)
      case atStart => exact ⟨rfl, Or.inl rfl⟩
      case round =>
        obtain ⟨rfl, hcase⟩ := hrel
        rcases hcase with rfl | ⟨hm32, g, rfl, rfl⟩
        · by_cases hm32 : m.length = 32
          · have hg : ∃ g0, adm = some ⟨g0, 0, none⟩ ∧ 32 ≤ cm := by
              rcases HV.out.2 with ⟨e, q⟩ | ⟨g0, cap, cur, e, _, _, h3, _⟩
              · injection e with e1 e2 e3
                omega
              · injection e with e1 e2 e3
                exact ⟨g0, e1, by omega⟩
            obtain ⟨g0, rfl, hcm⟩ := hg
            have q5 : decide ((32 : Int) ≤ (m.length : Int)) = true := decide_eq_true (by omega)
            have hne : cm ≠ 1 := by omega
            have HM32 := Lib.hid hm32
            rw [hm32] at q5 ⊢
            clear hm32
            go_wp2
            go_roundw
            case rel => exact ⟨by first | rfl | trivial, Or.inr ⟨by first | exact HM32.out | trivial, g0, by first | rfl | trivial, by first | rfl | trivial⟩⟩
            case measure => simp [lenV]
          · have q5 : decide ((32 : Int) ≤ (m.length : Int)) = false := decide_eq_false (by omega)
            have hroom : roomM m = m := by unfold roomM; rw [if_neg hm32]
            have HRM := Lib.hid hroom
            have HML := Lib.hid (show m.length ≤ 100000 by omega)
            clear hroom hm32 hmlen
            go_wp2_with (first
              | (refine load_blk (k := 0) 30 #[.int .u8 (a 0), .int .u8 (a 1), .int .u8 (a 2), .int .u8 (a 3), .int .u8 (a 4), .int .u8 (a 5)] (by rfl) rfl rfl hXr (by kernel_rfl) (by kernel_rfl) (by rfl) ?_)
              | (refine build_blk (enC ⟨vid, a, port, now⟩) (by rfl) rfl (by kernel_rfl) ?_)
              | (refine sliceL_en Tryd.erT ⟨vid, a, port, now⟩ (by rfl) rfl rfl ?_; intro w8 HBn bb8 hs8; have hv8 := HV.out.kept bb8; have hb8 := Nat.le_trans hbase bb8.size; have hT8 := hTr.kept bb8)
              | (refine appendL_en (l := m) Tryd.erT ⟨vid, a, port, now⟩ (by rfl) rfl rfl rfl hv8 HBn HML.out hb8 ?_; intro v9 w9 hr9 hx9; have hT9 := hx9.blk hT8 (by decide); obtain ⟨ad9, c9, rfl⟩ := hr9.toA.form; obtain ⟨L9, hL9⟩ : ∃ n, (m ++ [(⟨vid, a, port, now⟩ : Ent)]).length = n := ⟨_, rfl⟩; rw [hL9] at hr9 ⊢; have HR9 := Lib.hid hr9.toA; clear hr9)
              | (refine store_blk (B := t) (k := 2) 43 (.slice ad9 L9 c9) (tabC age now (.slice ad9 L9 c9)) (by rfl) rfl rfl rfl hT9 (by kernel_rfl) (show (3 : Nat) ≤ 3 from Nat.le_refl 3) (by rfl) rfl ?_; intro w10 hT10 bb10 g10))
            go_ret
            refine ⟨rfl, ⟨⟨_, hT10, ?_⟩, hlo.out, HOK.out, ha0.out, ha1.out, HN.out.1, HN.out.2⟩, ((Lr.trans (Lx.of bb8)).trans (hx9.mono hBs2 (by simp))).grown g10 hlo.out List.mem_cons_self hT9⟩
            rw [HLM.out, HRM.out]
            exact (HR9.out.mono hBs2).other g10 hT9 (by decide)
        · have hroom : roomM m = m.drop 1 := by unfold roomM; rw [if_pos hm32]
          obtain ⟨x0, mm, rfl⟩ : ∃ x m', m = x :: m' := by
            cases m with
            | nil => simp at hm32
            | cons x m' => exact ⟨x, m', rfl⟩
          have hmm : mm.length = 31 := by simpa using hm32
          have hdrop : (x0 :: mm).drop 1 = mm := rfl
          rw [hdrop] at hroom
          have HRM := Lib.hid hroom
          obtain ⟨C, c1, c2, c3, c4⟩ : ∃ C, Blk wr g 71 C ∧ C.size = cm * 9 ∧ w2.heap.size ≤ g ∧ 32 ≤ cm ∧ cm ≤ maxLen := by
            rcases HV.out.2 with ⟨e, q⟩ | ⟨g0, cap, cur, e, h1, h2, h3, h4, h5, _⟩
            · cases e
            · injection e with e1 e2 e3
              cases e1
              subst e3
              exact ⟨cur, h2, h5, h1, by omega, h4⟩
          have hat0 : EnAt wr g 0 (x0 :: mm) := by
            obtain ⟨ad', c', e, h1, h2, h3⟩ := HV.out.toA
            exact enAt_own rfl HV.out
          have hat := Lib.hid hat0.tail
          have q6 : 9 + (cm - 1) * 9 ≤ C.size := by omega
          have HML := Lib.hid hmm
          have HCM := Lib.hid c4
          clear hroom hm32 hmlen hat0 hdrop hmm
          go_wp2_with (first
            | (refine load_blk (k := 0) 30 #[.int .u8 (a 0), .int .u8 (a 1), .int .u8 (a 2), .int .u8 (a 3), .int .u8 (a 4), .int .u8 (a 5)] (by rfl) rfl rfl hXr (by kernel_rfl) (by kernel_rfl) (by rfl) ?_)
            | (refine build_blk (enC ⟨vid, a, port, now⟩) (by rfl) rfl (by kernel_rfl) ?_)
            | (refine sliceL_en Tryd.erT ⟨vid, a, port, now⟩ (by rfl) rfl rfl ?_; intro w8 HBn bb8 hs8; have hb8 := Nat.le_trans hbase bb8.size; have hT8 := hTr.kept bb8; have c8 := c1.kept bb8; have hat8 := Lib.hid (hat.out.blk (bb8.block g c1.lt)))
            | (refine appendA_en (l := mm) Tryd.erT ⟨vid, a, port, now⟩ (by rfl) rfl rfl rfl g 9 (cm - 1) C (by rw [HML.out]; rfl) (by rw [HML.out]; decide) c8 c3 q6 (by rw [HML.out]; have := HCM.out.1; omega) hat8.out HBn (by rw [HML.out]; decide) (by have := HCM.out.2; omega) hb8 ?_; intro v9 w9 hr9 hx9; have hT9 := hx9.blk hT8 (by decide); obtain ⟨ad9, c9, rfl⟩ := hr9.form; obtain ⟨L9, hL9⟩ : ∃ n, (mm ++ [(⟨vid, a, port, now⟩ : Ent)]).length = n := ⟨_, rfl⟩; rw [hL9] at hr9 ⊢; have HR9 := Lib.hid hr9; clear hr9)
            | (refine store_blk (B := t) (k := 2) 43 (.slice ad9 L9 c9) (tabC age now (.slice ad9 L9 c9)) (by rfl) rfl rfl rfl hT9 (by kernel_rfl) (show (3 : Nat) ≤ 3 from Nat.le_refl 3) (by rfl) rfl ?_; intro w10 hT10 bb10 g10))
          go_ret
          refine ⟨rfl, ⟨⟨_, hT10, ?_⟩, hlo.out, HOK.out, ha0.out, ha1.out, HN.out.1, HN.out.2⟩, ((Lr.trans (Lx.of bb8)).trans (hx9.mono hBs2 (by simp))).grown g10 hlo.out List.mem_cons_self hT9⟩
          rw [HLM.out, HRM.out]
          exact (HR9.out.mono hBs2).other g10 hT9 (by decide)

end Go.Proofs.YtgeiiengieonfaaDoor
