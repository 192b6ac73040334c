/- mstp.isInst, mstp.Right at every message. -/
import Derived.Test.YtajbkoggmhgjfaaDoorMs
import Derived.Test.YtajbkoggmhgjfaaDoorBpRight
import Derived.Test.YtajbkoggmhgjfaaDoorShelf
namespace Go.Proofs.YtajbkoggmhgjfaaDoor
open Go.RowKit
attribute [local go_sem ↓] Go.wp_at_zero Go.wp_at_succ
set_option linter.unusedSimpArgs false
set_option linter.unusedVariables false
set_option maxRecDepth 100000

theorem isRank_any (v : Int) (w : World) :
    Calls Tryd.prog 86 #[.int .i64 v] w fun e w' => e = .returned (.bool (rkI v)) ∧ Below w.heap.size w w' := by
  unfold rkI
  by_cases h0 : 0 ≤ v
  · have d0 : decide (0 ≤ v) = true := decide_eq_true h0
    have d1 : decide (v < 0) = false := decide_eq_false (by omega)
    rw [d0, Bool.true_and]
    go_enter Tryd.func86, Tryd.ntmps86
    go_wp2
    go_ret
    exact ⟨rfl, Below.refl _ _⟩
  · have d0 : decide (0 ≤ v) = false := decide_eq_false h0
    have d1 : decide (v < 0) = true := decide_eq_true (by omega)
    rw [d0, Bool.false_and]
    go_enter Tryd.func86, Tryd.ntmps86
    go_wp2
    go_ret
    exact ⟨rfl, Below.refl _ _⟩

set_option maxHeartbeats 6400000 in
theorem isInst_any (x : Ins) (hr : rgIn x) (w : World) :
    Calls Tryd.prog 37 #[.agg (inC x)] w fun e w' => e = .returned (.bool (okIns x)) ∧ Below w.heap.size w w' := by
  obtain ⟨r0, r1⟩ := hr
  have HA := Blk.new w 85 (inC x)
  have B0 : Below w.heap.size w (w.alloc (.cells (inC x) 85)) := (Below.refl _ _).alloc (Nat.le_refl _) _
  have HF := Lib.hid (fun W => flags_any x.f W)
  have HR := Lib.hid (fun W => right_any x.root W)
  have HK1 := Lib.hid (fun W => isRank_any x.br W)
  have HK2 := Lib.hid (fun W => isRank_any x.pt W)
  have HF1 := Lib.hid (fun (g : Nat) (W : World) (h : IRow W g [x.cost]) => fits1 4 (by decide) (by decide) x.cost r0 g W h)
  have HF2 := Lib.hid (fun (g : Nat) (W : World) (h : IRow W g [x.hop]) => fits1 1 (by decide) (by decide) x.hop r1 g W h)
  unfold okIns
  generalize fitI 1 x.hop = x5 at *
  generalize rkI x.pt = x4 at *
  generalize rkI x.br = x3 at *
  generalize fitI 4 x.cost = x2 at *
  generalize okB x.root = x1 at *
  generalize okF x.f = x0 at *
  clear r0 r1
  cases x0 with
  | false =>
    simp only [Bool.true_and, Bool.false_and, Bool.not_true, Bool.not_false]
    go_enter Tryd.func37, Tryd.ntmps37
    go_upto_region 1 with (fail)
    generalize (w.alloc (.cells (inC x) 85)) = w1 at *
    go_wp2_with (refine load_blk (k := 0) 23 (flC x.f) (by rfl) rfl rfl HA (by kernel_rfl) (by kernel_rfl) rfl ?_)
    refine (HF.out _).mono ?_
    rintro e w2 ⟨rfl, k2⟩
    have HA2 := HA.kept k2
    have B2 := B0.trans (k2.mono B0.size)
    go_wp2
    go_ret
    exact ⟨rfl, B2⟩
  | true =>
    cases x1 with
    | false =>
      simp only [Bool.true_and, Bool.false_and, Bool.not_true, Bool.not_false]
      go_enter Tryd.func37, Tryd.ntmps37
      go_upto_region 1 with (fail)
      generalize (w.alloc (.cells (inC x) 85)) = w1 at *
      go_wp2_with (refine load_blk (k := 0) 23 (flC x.f) (by rfl) rfl rfl HA (by kernel_rfl) (by kernel_rfl) rfl ?_)
      refine (HF.out _).mono ?_
      rintro e w2 ⟨rfl, k2⟩
      have HA2 := HA.kept k2
      have B2 := B0.trans (k2.mono B0.size)
      go_wp2_with (refine load_blk (k := 7) 27 (brC x.root) (by rfl) rfl rfl HA2 (by kernel_rfl) (by kernel_rfl) rfl ?_)
      refine (HR.out _).mono ?_
      rintro e w3 ⟨rfl, k3⟩
      have HA3 := HA2.kept k3
      have B3 := B2.trans (k3.mono B2.size)
      go_wp2
      go_ret
      exact ⟨rfl, B3⟩
    | true =>
      cases x2 with
      | false =>
        simp only [Bool.true_and, Bool.false_and, Bool.not_true, Bool.not_false]
        go_enter Tryd.func37, Tryd.ntmps37
        go_upto_region 1 with (fail)
        generalize (w.alloc (.cells (inC x) 85)) = w1 at *
        go_wp2_with (refine load_blk (k := 0) 23 (flC x.f) (by rfl) rfl rfl HA (by kernel_rfl) (by kernel_rfl) rfl ?_)
        refine (HF.out _).mono ?_
        rintro e w2 ⟨rfl, k2⟩
        have HA2 := HA.kept k2
        have B2 := B0.trans (k2.mono B0.size)
        go_wp2_with (refine load_blk (k := 7) 27 (brC x.root) (by rfl) rfl rfl HA2 (by kernel_rfl) (by kernel_rfl) rfl ?_)
        refine (HR.out _).mono ?_
        rintro e w3 ⟨rfl, k3⟩
        have HA3 := HA2.kept k3
        have B3 := B2.trans (k3.mono B2.size)
        have c15_3 := HA3.cv 15 (.int .i64 x.cost) rfl
        go_wp2_with fail
        refine (HF1.out _ _ (IRow.new1 w3 x.cost _)).mono ?_
        rintro e w4 ⟨rfl, k4⟩
        have b4 : Below w3.heap.size w3 w4 := ((Below.refl _ _).alloc (Nat.le_refl _) _).trans (k4.mono (by simp))
        have HA4 := HA3.kept b4
        have B4 := B3.trans (b4.mono B3.size)
        go_wp2
        go_ret
        exact ⟨rfl, B4⟩
      | true =>
        cases x3 with
        | false =>
          simp only [Bool.true_and, Bool.false_and, Bool.not_true, Bool.not_false]
          go_enter Tryd.func37, Tryd.ntmps37
          go_upto_region 1 with (fail)
          generalize (w.alloc (.cells (inC x) 85)) = w1 at *
          go_wp2_with (refine load_blk (k := 0) 23 (flC x.f) (by rfl) rfl rfl HA (by kernel_rfl) (by kernel_rfl) rfl ?_)
          refine (HF.out _).mono ?_
          rintro e w2 ⟨rfl, k2⟩
          have HA2 := HA.kept k2
          have B2 := B0.trans (k2.mono B0.size)
          go_wp2_with (refine load_blk (k := 7) 27 (brC x.root) (by rfl) rfl rfl HA2 (by kernel_rfl) (by kernel_rfl) rfl ?_)
          refine (HR.out _).mono ?_
          rintro e w3 ⟨rfl, k3⟩
          have HA3 := HA2.kept k3
          have B3 := B2.trans (k3.mono B2.size)
          have c15_3 := HA3.cv 15 (.int .i64 x.cost) rfl
          go_wp2_with fail
          refine (HF1.out _ _ (IRow.new1 w3 x.cost _)).mono ?_
          rintro e w4 ⟨rfl, k4⟩
          have b4 : Below w3.heap.size w3 w4 := ((Below.refl _ _).alloc (Nat.le_refl _) _).trans (k4.mono (by simp))
          have HA4 := HA3.kept b4
          have B4 := B3.trans (b4.mono B3.size)
          have c16_4 := HA4.cv 16 (.int .i64 x.br) rfl
          go_wp2_with fail
          refine (HK1.out _).mono ?_
          rintro e w5 ⟨rfl, k5⟩
          have HA5 := HA4.kept k5
          have B5 := B4.trans (k5.mono B4.size)
          go_wp2
          go_ret
          exact ⟨rfl, B5⟩
        | true =>
          cases x4 with
          | false =>
            simp only [Bool.true_and, Bool.false_and, Bool.not_true, Bool.not_false]
            go_enter Tryd.func37, Tryd.ntmps37
            go_upto_region 1 with (fail)
            generalize (w.alloc (.cells (inC x) 85)) = w1 at *
            go_wp2_with (refine load_blk (k := 0) 23 (flC x.f) (by rfl) rfl rfl HA (by kernel_rfl) (by kernel_rfl) rfl ?_)
            refine (HF.out _).mono ?_
            rintro e w2 ⟨rfl, k2⟩
            have HA2 := HA.kept k2
            have B2 := B0.trans (k2.mono B0.size)
            go_wp2_with (refine load_blk (k := 7) 27 (brC x.root) (by rfl) rfl rfl HA2 (by kernel_rfl) (by kernel_rfl) rfl ?_)
            refine (HR.out _).mono ?_
            rintro e w3 ⟨rfl, k3⟩
            have HA3 := HA2.kept k3
            have B3 := B2.trans (k3.mono B2.size)
            have c15_3 := HA3.cv 15 (.int .i64 x.cost) rfl
            go_wp2_with fail
            refine (HF1.out _ _ (IRow.new1 w3 x.cost _)).mono ?_
            rintro e w4 ⟨rfl, k4⟩
            have b4 : Below w3.heap.size w3 w4 := ((Below.refl _ _).alloc (Nat.le_refl _) _).trans (k4.mono (by simp))
            have HA4 := HA3.kept b4
            have B4 := B3.trans (b4.mono B3.size)
            have c16_4 := HA4.cv 16 (.int .i64 x.br) rfl
            go_wp2_with fail
            refine (HK1.out _).mono ?_
            rintro e w5 ⟨rfl, k5⟩
            have HA5 := HA4.kept k5
            have B5 := B4.trans (k5.mono B4.size)
            have c17_5 := HA5.cv 17 (.int .i64 x.pt) rfl
            go_wp2_with fail
            refine (HK2.out _).mono ?_
            rintro e w6 ⟨rfl, k6⟩
            have HA6 := HA5.kept k6
            have B6 := B5.trans (k6.mono B5.size)
            go_wp2
            go_ret
            exact ⟨rfl, B6⟩
          | true =>
            simp only [Bool.true_and]
            go_enter Tryd.func37, Tryd.ntmps37
            go_upto_region 1 with (fail)
            generalize (w.alloc (.cells (inC x) 85)) = w1 at *
            go_wp2_with (refine load_blk (k := 0) 23 (flC x.f) (by rfl) rfl rfl HA (by kernel_rfl) (by kernel_rfl) rfl ?_)
            refine (HF.out _).mono ?_
            rintro e w2 ⟨rfl, k2⟩
            have HA2 := HA.kept k2
            have B2 := B0.trans (k2.mono B0.size)
            go_wp2_with (refine load_blk (k := 7) 27 (brC x.root) (by rfl) rfl rfl HA2 (by kernel_rfl) (by kernel_rfl) rfl ?_)
            refine (HR.out _).mono ?_
            rintro e w3 ⟨rfl, k3⟩
            have HA3 := HA2.kept k3
            have B3 := B2.trans (k3.mono B2.size)
            have c15_3 := HA3.cv 15 (.int .i64 x.cost) rfl
            go_wp2_with fail
            refine (HF1.out _ _ (IRow.new1 w3 x.cost _)).mono ?_
            rintro e w4 ⟨rfl, k4⟩
            have b4 : Below w3.heap.size w3 w4 := ((Below.refl _ _).alloc (Nat.le_refl _) _).trans (k4.mono (by simp))
            have HA4 := HA3.kept b4
            have B4 := B3.trans (b4.mono B3.size)
            have c16_4 := HA4.cv 16 (.int .i64 x.br) rfl
            go_wp2_with fail
            refine (HK1.out _).mono ?_
            rintro e w5 ⟨rfl, k5⟩
            have HA5 := HA4.kept k5
            have B5 := B4.trans (k5.mono B4.size)
            have c17_5 := HA5.cv 17 (.int .i64 x.pt) rfl
            go_wp2_with fail
            refine (HK2.out _).mono ?_
            rintro e w6 ⟨rfl, k6⟩
            have HA6 := HA5.kept k6
            have B6 := B5.trans (k6.mono B5.size)
            have c18_6 := HA6.cv 18 (.int .i64 x.hop) rfl
            go_wp2_with fail
            refine (HF2.out _ _ (IRow.new1 w6 x.hop _)).mono ?_
            rintro e w7 ⟨rfl, k7⟩
            have b7 : Below w6.heap.size w6 w7 := ((Below.refl _ _).alloc (Nat.le_refl _) _).trans (k7.mono (by simp))
            have HA7 := HA6.kept b7
            have B7 := B6.trans (b7.mono B6.size)
            go_wp2
            go_ret
            exact ⟨rfl, B7⟩

/-- Its opposite, as the search asks. -/
theorem notInst_any (x : Ins) (hr : rgIn x) (w : World) :
    Calls Tryd.prog 36 #[.agg (inC x)] w fun e w' => e = .returned (.bool (!okIns x)) ∧ Below w.heap.size w w' := by
  have HA := Blk.new w 85 (inC x)
  have B0 : Below w.heap.size w (w.alloc (.cells (inC x) 85)) := (Below.refl _ _).alloc (Nat.le_refl _) _
  have HI := Lib.hid (fun W => isInst_any x hr W)
  generalize okIns x = y at *
  clear hr
  go_enter Tryd.func36, Tryd.ntmps36
  go_upto_region 1 with (fail)
  generalize (w.alloc (.cells (inC x) 85)) = w1 at *
  go_wp2_with (refine load_blk (k := 0) 85 (inC x) (by rfl) rfl rfl HA (by kernel_rfl) (by kernel_rfl) rfl ?_)
  refine (HI.out _).mono ?_
  rintro e w2 ⟨rfl, k2⟩
  go_wp2
  go_ret
  exact ⟨rfl, B0.trans (k2.mono B0.size)⟩

theorem all_drop (l : List Ins) (k : Nat) (h : k < l.length) : (l.drop k).all okIns = (okIns l[k] && (l.drop (k + 1)).all okIns) := by
  rw [List.drop_eq_getElem_cons h, List.all_cons]

set_option maxHeartbeats 6400000 in
/-- Where the first one is that may not be. -/
theorem idx_any (a : Option Addr) (c : Nat) (l : List Ins) (w : World) (h : InIn w a l) (hlen : l.length ≤ 1000000) (hr : ∀ x ∈ l, rgIn x) :
    Calls Tryd.prog 85 #[.slice a l.length c, .func (.func 36) #[] #[]] w fun e w' => (∃ n : Int, e = .returned (.int .i64 n) ∧ decide (0 ≤ n) = !(l.all okIns)) ∧ Below w.heap.size w w' := by
  have HRG := Lib.hid hr
  clear hr
  go_enter Tryd.func85, Tryd.ntmps85
  go_wp2_with fail
  go_loopw [5, 8] (fun _ i wr => ∃ k : Nat, k ≤ l.length ∧ i = .int .i64 k ∧ Hid (l.all okIns = (l.drop k).all okIns) ∧ Below w.heap.size w wr) (fun _ i _ => l.length - (intOf i).toNat)
  case atStart => exact ⟨0, by omega, rfl, by show _ = _; rw [List.drop_zero], Below.refl _ _⟩
  case round =>
    obtain ⟨k, hk, rfl, HZ, hb⟩ := hrel
    by_cases hlt : k < l.length
    · skip
      obtain ⟨bk, o, rfl, hbk, hat⟩ := h.at hlt
      have b1 : (k : Int) < (l.length : Int) := by omega
      have b2 : decide ((k : Int) < (l.length : Int)) = true := decide_eq_true b1
      have b3 : (0 : Int) ≤ (k : Int) := by omega
      have HK := (hat k hlt).below hb hbk
      have HD := Lib.hid (all_drop l k hlt)
      have HX := Lib.hid (fun W => notInst_any l[k] (HRG.out _ (List.getElem_mem hlt)) W)
      generalize l[k] = x at *
      cases hx : okIns x with
      | true =>
        rw [hx] at HX
        have HN : Hid (l.all okIns = (l.drop (k + 1)).all okIns) := by show _ = _; rw [HZ.out, HD.out, hx, Bool.true_and]
        clear HD HZ hx
        go_wp2_with (refine load_cells 85 (inC x) (by rfl) rfl rfl HK (by kernel_rfl) (by kernel_rfl) ?_)
        refine (HX.out _).mono ?_
        rintro e w2 ⟨rfl, k2⟩
        go_wp2
        go_roundw
        case rel => exact ⟨k + 1, by omega, by go_num, HN, hb.trans (k2.mono hb.size)⟩
        case measure => simp [intOf]; omega
      | false =>
        rw [hx] at HX
        have HN : Hid (l.all okIns = false) := by show _ = _; rw [HZ.out, HD.out, hx, Bool.false_and]
        clear HD HZ hx
        go_wp2_with (refine load_cells 85 (inC x) (by rfl) rfl rfl HK (by kernel_rfl) (by kernel_rfl) ?_)
        refine (HX.out _).mono ?_
        rintro e w2 ⟨rfl, k2⟩
        go_wp2
        go_ret
        exact ⟨⟨(k : Int), rfl, by rw [HN.out, decide_eq_true b3]; rfl⟩, hb.trans (k2.mono hb.size)⟩
    · obtain rfl : k = l.length := by omega
      have b2 : decide ((l.length : Int) < (l.length : Int)) = false := decide_eq_false (by omega)
      have HN : Hid (l.all okIns = true) := by show _ = _; rw [HZ.out, List.drop_length]; rfl
      clear HZ
      go_wp2
      go_ret
      exact ⟨⟨-1, rfl, by rw [HN.out]; rfl⟩, hb⟩

theorem some_any (a : Option Addr) (c : Nat) (l : List Ins) (w : World) (h : InIn w a l) (hlen : l.length ≤ 1000000) (hr : ∀ x ∈ l, rgIn x) :
    Calls Tryd.prog 35 #[.slice a l.length c, .func (.func 36) #[] #[]] w fun e w' => e = .returned (.bool (!(l.all okIns))) ∧ Below w.heap.size w w' := by
  have HI := Lib.hid (idx_any a c l w h hlen hr)
  generalize (!(l.all okIns)) = y at *
  clear hr
  go_enter Tryd.func35, Tryd.ntmps35
  go_wp2_with fail
  refine HI.out.mono ?_
  rintro e w2 ⟨⟨n, rfl, hn⟩, k2⟩
  go_wp2
  go_ret
  exact ⟨rfl, k2⟩

theorem suf_zero (s : ByteArray) : Lib.hasSuffix s.data.toList [0] = tz s := by
  unfold tz Lib.hasSuffix List.isSuffixOf
  rw [List.getLast?_eq_head?_reverse]
  cases s.data.toList.reverse with
  | nil => rfl
  | cons x u =>
    rw [List.head?_cons, List.reverse_singleton]
    show ((0 : UInt8) == x && List.isPrefixOf [] u) = (some x == some 0)
    rw [List.isPrefixOf_nil_left, Bool.and_true]
    by_cases hx : x = 0
    · subst hx
      rfl
    · rw [beq_eq_false_iff_ne.2 (Ne.symm hx), beq_eq_false_iff_ne.2 (fun q => hx (Option.some.inj q))]

set_option maxHeartbeats 12800000 in
theorem msRight_any (m : Ms) (a : Option Addr) (c : Nat) (l : List Ins) (w : World) (h : InIn w a l) (hlen : l.length ≤ 1000000) (hr : rgBp m.base ∧ rgMs m ∧ ∀ x ∈ l, rgIn x) (hn : m.name.size ≤ 1000000) (hd : m.dig.size ≤ 1000000) :
    Calls Tryd.prog 9 #[.agg (msC m (.slice a l.length c))] w fun e w' => e = .returned (.bool (okMs m l)) ∧ Below w.heap.size w w' := by
  obtain ⟨rb, ⟨r0, r1, r2⟩, rl⟩ := hr
  have HA := Blk.new w 34 (msC m (.slice a l.length c))
  have B0 : Below w.heap.size w (w.alloc (.cells (msC m (.slice a l.length c)) 34)) := (Below.refl _ _).alloc (Nat.le_refl _) _
  have HB := Lib.hid (fun (hk : m.base.k = 3) W => by have q := bpRight_any m.base rb W; rw [okBp_three hk] at q; exact q)
  have HS := Lib.hid (fun W => Tryd.strings_HasSuffix m.name ⟨#[0]⟩ W (by omega))
  have HR := Lib.hid (fun W => right_any m.br W)
  have HC := Lib.hid (fun (W : World) (hb : Below w.heap.size w W) => some_any a c l W (h.below hb) hlen rl)
  have HF1 := Lib.hid (fun (g : Nat) (W : World) (h : IRow W g [m.rev]) => fits1 2 (by decide) (by decide) m.rev r0 g W h)
  have HF2 := Lib.hid (fun (g : Nat) (W : World) (h : IRow W g [m.cost]) => fits1 4 (by decide) (by decide) m.cost r1 g W h)
  have HF3 := Lib.hid (fun (g : Nat) (W : World) (h : IRow W g [m.hop]) => fits1 1 (by decide) (by decide) m.hop r2 g W h)
  have d2 : decide ((m.name.size : Int) ≤ 32) = decide (m.name.size ≤ 32) := decide_eq_decide.2 (by omega)
  have d5 : ((m.dig.size : Int) == 16) = decide (m.dig.size = 16) := by rw [Bool.eq_iff_iff, beq_iff_eq, decide_eq_true_eq]; omega
  have d9 : decide ((l.length : Int) ≤ 64) = decide (l.length ≤ 64) := decide_eq_decide.2 (by omega)
  rw [show ((⟨#[0]⟩ : ByteArray).data.toList) = [0] from rfl, suf_zero] at HS
  clear h hlen rb r0 r1 r2 rl hn hd
  unfold okMs okMs0
  obtain ⟨x0, d0⟩ : ∃ x, (m.base.k == 3) = x := ⟨_, rfl⟩
  rw [d0]
  have e0 : Hid (x0 = true → m.base.k = 3) := fun q => by rw [← d0, beq_iff_eq] at q; exact q
  generalize l.all okIns = x10 at *
  generalize decide (l.length ≤ 64) = x9 at *
  generalize fitI 1 m.hop = x8 at *
  generalize okB m.br = x7 at *
  generalize fitI 4 m.cost = x6 at *
  generalize decide (m.dig.size = 16) = x5 at *
  generalize fitI 2 m.rev = x4 at *
  generalize tz m.name = x3 at *
  generalize decide (m.name.size ≤ 32) = x2 at *
  generalize okRp m.base = x1 at *
  cases x0 with
  | false =>
    simp only [Bool.true_and, Bool.false_and, Bool.not_true, Bool.not_false]
    go_enter Tryd.func9, Tryd.ntmps9
    go_upto_region 1 with (fail)
    generalize (w.alloc (.cells (msC m (.slice a l.length c)) 34)) = w1 at *
    have c0_1 := HA.cv 0 (.int .i64 m.base.k) rfl
    go_wp2
    go_ret
    exact ⟨rfl, B0⟩
  | true =>
    cases x1 with
    | false =>
      simp only [Bool.true_and, Bool.false_and, Bool.not_true, Bool.not_false]
      go_enter Tryd.func9, Tryd.ntmps9
      go_upto_region 1 with (fail)
      generalize (w.alloc (.cells (msC m (.slice a l.length c)) 34)) = w1 at *
      have c0_1 := HA.cv 0 (.int .i64 m.base.k) rfl
      go_wp2_with (refine load_blk (k := 0) 31 (bpC m.base) (by rfl) rfl rfl HA (by kernel_rfl) (by kernel_rfl) rfl ?_)
      refine (HB.out (e0.out trivial) _).mono ?_
      rintro e w2 ⟨rfl, k2⟩
      have HA2 := HA.kept k2
      have B2 := B0.trans (k2.mono B0.size)
      go_wp2
      go_ret
      exact ⟨rfl, B2⟩
    | true =>
      cases x2 with
      | false =>
        simp only [Bool.true_and, Bool.false_and, Bool.not_true, Bool.not_false]
        go_enter Tryd.func9, Tryd.ntmps9
        go_upto_region 1 with (fail)
        generalize (w.alloc (.cells (msC m (.slice a l.length c)) 34)) = w1 at *
        have c0_1 := HA.cv 0 (.int .i64 m.base.k) rfl
        go_wp2_with (refine load_blk (k := 0) 31 (bpC m.base) (by rfl) rfl rfl HA (by kernel_rfl) (by kernel_rfl) rfl ?_)
        refine (HB.out (e0.out trivial) _).mono ?_
        rintro e w2 ⟨rfl, k2⟩
        have HA2 := HA.kept k2
        have B2 := B0.trans (k2.mono B0.size)
        have c31_2 := HA2.cv 31 (.string m.name) rfl
        go_wp2
        go_ret
        exact ⟨rfl, B2⟩
      | true =>
        cases x3 with
        | true =>
          simp only [Bool.true_and, Bool.false_and, Bool.not_true, Bool.not_false]
          go_enter Tryd.func9, Tryd.ntmps9
          go_upto_region 1 with (fail)
          generalize (w.alloc (.cells (msC m (.slice a l.length c)) 34)) = w1 at *
          have c0_1 := HA.cv 0 (.int .i64 m.base.k) rfl
          go_wp2_with (refine load_blk (k := 0) 31 (bpC m.base) (by rfl) rfl rfl HA (by kernel_rfl) (by kernel_rfl) rfl ?_)
          refine (HB.out (e0.out trivial) _).mono ?_
          rintro e w2 ⟨rfl, k2⟩
          have HA2 := HA.kept k2
          have B2 := B0.trans (k2.mono B0.size)
          have c31_2 := HA2.cv 31 (.string m.name) rfl
          go_wp2_with fail
          refine (HS.out _).mono ?_
          rintro e w3 ⟨rfl, rfl⟩
          have HA3 := HA2
          have B3 := B2
          go_wp2
          go_ret
          exact ⟨rfl, B3⟩
        | false =>
          cases x4 with
          | false =>
            simp only [Bool.true_and, Bool.false_and, Bool.not_true, Bool.not_false]
            go_enter Tryd.func9, Tryd.ntmps9
            go_upto_region 1 with (fail)
            generalize (w.alloc (.cells (msC m (.slice a l.length c)) 34)) = w1 at *
            have c0_1 := HA.cv 0 (.int .i64 m.base.k) rfl
            go_wp2_with (refine load_blk (k := 0) 31 (bpC m.base) (by rfl) rfl rfl HA (by kernel_rfl) (by kernel_rfl) rfl ?_)
            refine (HB.out (e0.out trivial) _).mono ?_
            rintro e w2 ⟨rfl, k2⟩
            have HA2 := HA.kept k2
            have B2 := B0.trans (k2.mono B0.size)
            have c31_2 := HA2.cv 31 (.string m.name) rfl
            go_wp2_with fail
            refine (HS.out _).mono ?_
            rintro e w3 ⟨rfl, rfl⟩
            have HA3 := HA2
            have B3 := B2
            have c32_3 := HA3.cv 32 (.int .i64 m.rev) rfl
            go_wp2_with fail
            refine (HF1.out _ _ (IRow.new1 w3 m.rev _)).mono ?_
            rintro e w4 ⟨rfl, k4⟩
            have b4 : Below w3.heap.size w3 w4 := ((Below.refl _ _).alloc (Nat.le_refl _) _).trans (k4.mono (by simp))
            have HA4 := HA3.kept b4
            have B4 := B3.trans (b4.mono B3.size)
            go_wp2
            go_ret
            exact ⟨rfl, B4⟩
          | true =>
            cases x5 with
            | false =>
              simp only [Bool.true_and, Bool.false_and, Bool.not_true, Bool.not_false]
              go_enter Tryd.func9, Tryd.ntmps9
              go_upto_region 1 with (fail)
              generalize (w.alloc (.cells (msC m (.slice a l.length c)) 34)) = w1 at *
              have c0_1 := HA.cv 0 (.int .i64 m.base.k) rfl
              go_wp2_with (refine load_blk (k := 0) 31 (bpC m.base) (by rfl) rfl rfl HA (by kernel_rfl) (by kernel_rfl) rfl ?_)
              refine (HB.out (e0.out trivial) _).mono ?_
              rintro e w2 ⟨rfl, k2⟩
              have HA2 := HA.kept k2
              have B2 := B0.trans (k2.mono B0.size)
              have c31_2 := HA2.cv 31 (.string m.name) rfl
              go_wp2_with fail
              refine (HS.out _).mono ?_
              rintro e w3 ⟨rfl, rfl⟩
              have HA3 := HA2
              have B3 := B2
              have c32_3 := HA3.cv 32 (.int .i64 m.rev) rfl
              go_wp2_with fail
              refine (HF1.out _ _ (IRow.new1 w3 m.rev _)).mono ?_
              rintro e w4 ⟨rfl, k4⟩
              have b4 : Below w3.heap.size w3 w4 := ((Below.refl _ _).alloc (Nat.le_refl _) _).trans (k4.mono (by simp))
              have HA4 := HA3.kept b4
              have B4 := B3.trans (b4.mono B3.size)
              have c33_4 := HA4.cv 33 (.string m.dig) rfl
              go_wp2
              go_ret
              exact ⟨rfl, B4⟩
            | true =>
              cases x6 with
              | false =>
                simp only [Bool.true_and, Bool.false_and, Bool.not_true, Bool.not_false]
                go_enter Tryd.func9, Tryd.ntmps9
                go_upto_region 1 with (fail)
                generalize (w.alloc (.cells (msC m (.slice a l.length c)) 34)) = w1 at *
                have c0_1 := HA.cv 0 (.int .i64 m.base.k) rfl
                go_wp2_with (refine load_blk (k := 0) 31 (bpC m.base) (by rfl) rfl rfl HA (by kernel_rfl) (by kernel_rfl) rfl ?_)
                refine (HB.out (e0.out trivial) _).mono ?_
                rintro e w2 ⟨rfl, k2⟩
                have HA2 := HA.kept k2
                have B2 := B0.trans (k2.mono B0.size)
                have c31_2 := HA2.cv 31 (.string m.name) rfl
                go_wp2_with fail
                refine (HS.out _).mono ?_
                rintro e w3 ⟨rfl, rfl⟩
                have HA3 := HA2
                have B3 := B2
                have c32_3 := HA3.cv 32 (.int .i64 m.rev) rfl
                go_wp2_with fail
                refine (HF1.out _ _ (IRow.new1 w3 m.rev _)).mono ?_
                rintro e w4 ⟨rfl, k4⟩
                have b4 : Below w3.heap.size w3 w4 := ((Below.refl _ _).alloc (Nat.le_refl _) _).trans (k4.mono (by simp))
                have HA4 := HA3.kept b4
                have B4 := B3.trans (b4.mono B3.size)
                have c33_4 := HA4.cv 33 (.string m.dig) rfl
                have c34_4 := HA4.cv 34 (.int .i64 m.cost) rfl
                go_wp2_with fail
                refine (HF2.out _ _ (IRow.new1 w4 m.cost _)).mono ?_
                rintro e w5 ⟨rfl, k5⟩
                have b5 : Below w4.heap.size w4 w5 := ((Below.refl _ _).alloc (Nat.le_refl _) _).trans (k5.mono (by simp))
                have HA5 := HA4.kept b5
                have B5 := B4.trans (b5.mono B4.size)
                go_wp2
                go_ret
                exact ⟨rfl, B5⟩
              | true =>
                cases x7 with
                | false =>
                  simp only [Bool.true_and, Bool.false_and, Bool.not_true, Bool.not_false]
                  go_enter Tryd.func9, Tryd.ntmps9
                  go_upto_region 1 with (fail)
                  generalize (w.alloc (.cells (msC m (.slice a l.length c)) 34)) = w1 at *
                  have c0_1 := HA.cv 0 (.int .i64 m.base.k) rfl
                  go_wp2_with (refine load_blk (k := 0) 31 (bpC m.base) (by rfl) rfl rfl HA (by kernel_rfl) (by kernel_rfl) rfl ?_)
                  refine (HB.out (e0.out trivial) _).mono ?_
                  rintro e w2 ⟨rfl, k2⟩
                  have HA2 := HA.kept k2
                  have B2 := B0.trans (k2.mono B0.size)
                  have c31_2 := HA2.cv 31 (.string m.name) rfl
                  go_wp2_with fail
                  refine (HS.out _).mono ?_
                  rintro e w3 ⟨rfl, rfl⟩
                  have HA3 := HA2
                  have B3 := B2
                  have c32_3 := HA3.cv 32 (.int .i64 m.rev) rfl
                  go_wp2_with fail
                  refine (HF1.out _ _ (IRow.new1 w3 m.rev _)).mono ?_
                  rintro e w4 ⟨rfl, k4⟩
                  have b4 : Below w3.heap.size w3 w4 := ((Below.refl _ _).alloc (Nat.le_refl _) _).trans (k4.mono (by simp))
                  have HA4 := HA3.kept b4
                  have B4 := B3.trans (b4.mono B3.size)
                  have c33_4 := HA4.cv 33 (.string m.dig) rfl
                  have c34_4 := HA4.cv 34 (.int .i64 m.cost) rfl
                  go_wp2_with fail
                  refine (HF2.out _ _ (IRow.new1 w4 m.cost _)).mono ?_
                  rintro e w5 ⟨rfl, k5⟩
                  have b5 : Below w4.heap.size w4 w5 := ((Below.refl _ _).alloc (Nat.le_refl _) _).trans (k5.mono (by simp))
                  have HA5 := HA4.kept b5
                  have B5 := B4.trans (b5.mono B4.size)
                  go_wp2_with (refine load_blk (k := 35) 27 (brC m.br) (by rfl) rfl rfl HA5 (by kernel_rfl) (by kernel_rfl) rfl ?_)
                  refine (HR.out _).mono ?_
                  rintro e w6 ⟨rfl, k6⟩
                  have HA6 := HA5.kept k6
                  have B6 := B5.trans (k6.mono B5.size)
                  go_wp2
                  go_ret
                  exact ⟨rfl, B6⟩
                | true =>
                  cases x8 with
                  | false =>
                    simp only [Bool.true_and, Bool.false_and, Bool.not_true, Bool.not_false]
                    go_enter Tryd.func9, Tryd.ntmps9
                    go_upto_region 1 with (fail)
                    generalize (w.alloc (.cells (msC m (.slice a l.length c)) 34)) = w1 at *
                    have c0_1 := HA.cv 0 (.int .i64 m.base.k) rfl
                    go_wp2_with (refine load_blk (k := 0) 31 (bpC m.base) (by rfl) rfl rfl HA (by kernel_rfl) (by kernel_rfl) rfl ?_)
                    refine (HB.out (e0.out trivial) _).mono ?_
                    rintro e w2 ⟨rfl, k2⟩
                    have HA2 := HA.kept k2
                    have B2 := B0.trans (k2.mono B0.size)
                    have c31_2 := HA2.cv 31 (.string m.name) rfl
                    go_wp2_with fail
                    refine (HS.out _).mono ?_
                    rintro e w3 ⟨rfl, rfl⟩
                    have HA3 := HA2
                    have B3 := B2
                    have c32_3 := HA3.cv 32 (.int .i64 m.rev) rfl
                    go_wp2_with fail
                    refine (HF1.out _ _ (IRow.new1 w3 m.rev _)).mono ?_
                    rintro e w4 ⟨rfl, k4⟩
                    have b4 : Below w3.heap.size w3 w4 := ((Below.refl _ _).alloc (Nat.le_refl _) _).trans (k4.mono (by simp))
                    have HA4 := HA3.kept b4
                    have B4 := B3.trans (b4.mono B3.size)
                    have c33_4 := HA4.cv 33 (.string m.dig) rfl
                    have c34_4 := HA4.cv 34 (.int .i64 m.cost) rfl
                    go_wp2_with fail
                    refine (HF2.out _ _ (IRow.new1 w4 m.cost _)).mono ?_
                    rintro e w5 ⟨rfl, k5⟩
                    have b5 : Below w4.heap.size w4 w5 := ((Below.refl _ _).alloc (Nat.le_refl _) _).trans (k5.mono (by simp))
                    have HA5 := HA4.kept b5
                    have B5 := B4.trans (b5.mono B4.size)
                    go_wp2_with (refine load_blk (k := 35) 27 (brC m.br) (by rfl) rfl rfl HA5 (by kernel_rfl) (by kernel_rfl) rfl ?_)
                    refine (HR.out _).mono ?_
                    rintro e w6 ⟨rfl, k6⟩
                    have HA6 := HA5.kept k6
                    have B6 := B5.trans (k6.mono B5.size)
                    have c43_6 := HA6.cv 43 (.int .i64 m.hop) rfl
                    go_wp2_with fail
                    refine (HF3.out _ _ (IRow.new1 w6 m.hop _)).mono ?_
                    rintro e w7 ⟨rfl, k7⟩
                    have b7 : Below w6.heap.size w6 w7 := ((Below.refl _ _).alloc (Nat.le_refl _) _).trans (k7.mono (by simp))
                    have HA7 := HA6.kept b7
                    have B7 := B6.trans (b7.mono B6.size)
                    go_wp2
                    go_ret
                    exact ⟨rfl, B7⟩
                  | true =>
                    cases x9 with
                    | false =>
                      simp only [Bool.true_and, Bool.false_and, Bool.not_true, Bool.not_false]
                      go_enter Tryd.func9, Tryd.ntmps9
                      go_upto_region 1 with (fail)
                      generalize (w.alloc (.cells (msC m (.slice a l.length c)) 34)) = w1 at *
                      have c0_1 := HA.cv 0 (.int .i64 m.base.k) rfl
                      go_wp2_with (refine load_blk (k := 0) 31 (bpC m.base) (by rfl) rfl rfl HA (by kernel_rfl) (by kernel_rfl) rfl ?_)
                      refine (HB.out (e0.out trivial) _).mono ?_
                      rintro e w2 ⟨rfl, k2⟩
                      have HA2 := HA.kept k2
                      have B2 := B0.trans (k2.mono B0.size)
                      have c31_2 := HA2.cv 31 (.string m.name) rfl
                      go_wp2_with fail
                      refine (HS.out _).mono ?_
                      rintro e w3 ⟨rfl, rfl⟩
                      have HA3 := HA2
                      have B3 := B2
                      have c32_3 := HA3.cv 32 (.int .i64 m.rev) rfl
                      go_wp2_with fail
                      refine (HF1.out _ _ (IRow.new1 w3 m.rev _)).mono ?_
                      rintro e w4 ⟨rfl, k4⟩
                      have b4 : Below w3.heap.size w3 w4 := ((Below.refl _ _).alloc (Nat.le_refl _) _).trans (k4.mono (by simp))
                      have HA4 := HA3.kept b4
                      have B4 := B3.trans (b4.mono B3.size)
                      have c33_4 := HA4.cv 33 (.string m.dig) rfl
                      have c34_4 := HA4.cv 34 (.int .i64 m.cost) rfl
                      go_wp2_with fail
                      refine (HF2.out _ _ (IRow.new1 w4 m.cost _)).mono ?_
                      rintro e w5 ⟨rfl, k5⟩
                      have b5 : Below w4.heap.size w4 w5 := ((Below.refl _ _).alloc (Nat.le_refl _) _).trans (k5.mono (by simp))
                      have HA5 := HA4.kept b5
                      have B5 := B4.trans (b5.mono B4.size)
                      go_wp2_with (refine load_blk (k := 35) 27 (brC m.br) (by rfl) rfl rfl HA5 (by kernel_rfl) (by kernel_rfl) rfl ?_)
                      refine (HR.out _).mono ?_
                      rintro e w6 ⟨rfl, k6⟩
                      have HA6 := HA5.kept k6
                      have B6 := B5.trans (k6.mono B5.size)
                      have c43_6 := HA6.cv 43 (.int .i64 m.hop) rfl
                      go_wp2_with fail
                      refine (HF3.out _ _ (IRow.new1 w6 m.hop _)).mono ?_
                      rintro e w7 ⟨rfl, k7⟩
                      have b7 : Below w6.heap.size w6 w7 := ((Below.refl _ _).alloc (Nat.le_refl _) _).trans (k7.mono (by simp))
                      have HA7 := HA6.kept b7
                      have B7 := B6.trans (b7.mono B6.size)
                      have c44_7 := HA7.cv 44 (.slice a l.length c) rfl
                      go_wp2
                      go_ret
                      exact ⟨rfl, B7⟩
                    | true =>
                      simp only [Bool.true_and]
                      go_enter Tryd.func9, Tryd.ntmps9
                      go_upto_region 1 with (fail)
                      generalize (w.alloc (.cells (msC m (.slice a l.length c)) 34)) = w1 at *
                      have c0_1 := HA.cv 0 (.int .i64 m.base.k) rfl
                      go_wp2_with (refine load_blk (k := 0) 31 (bpC m.base) (by rfl) rfl rfl HA (by kernel_rfl) (by kernel_rfl) rfl ?_)
                      refine (HB.out (e0.out trivial) _).mono ?_
                      rintro e w2 ⟨rfl, k2⟩
                      have HA2 := HA.kept k2
                      have B2 := B0.trans (k2.mono B0.size)
                      have c31_2 := HA2.cv 31 (.string m.name) rfl
                      go_wp2_with fail
                      refine (HS.out _).mono ?_
                      rintro e w3 ⟨rfl, rfl⟩
                      have HA3 := HA2
                      have B3 := B2
                      have c32_3 := HA3.cv 32 (.int .i64 m.rev) rfl
                      go_wp2_with fail
                      refine (HF1.out _ _ (IRow.new1 w3 m.rev _)).mono ?_
                      rintro e w4 ⟨rfl, k4⟩
                      have b4 : Below w3.heap.size w3 w4 := ((Below.refl _ _).alloc (Nat.le_refl _) _).trans (k4.mono (by simp))
                      have HA4 := HA3.kept b4
                      have B4 := B3.trans (b4.mono B3.size)
                      have c33_4 := HA4.cv 33 (.string m.dig) rfl
                      have c34_4 := HA4.cv 34 (.int .i64 m.cost) rfl
                      go_wp2_with fail
                      refine (HF2.out _ _ (IRow.new1 w4 m.cost _)).mono ?_
                      rintro e w5 ⟨rfl, k5⟩
                      have b5 : Below w4.heap.size w4 w5 := ((Below.refl _ _).alloc (Nat.le_refl _) _).trans (k5.mono (by simp))
                      have HA5 := HA4.kept b5
                      have B5 := B4.trans (b5.mono B4.size)
                      go_wp2_with (refine load_blk (k := 35) 27 (brC m.br) (by rfl) rfl rfl HA5 (by kernel_rfl) (by kernel_rfl) rfl ?_)
                      refine (HR.out _).mono ?_
                      rintro e w6 ⟨rfl, k6⟩
                      have HA6 := HA5.kept k6
                      have B6 := B5.trans (k6.mono B5.size)
                      have c43_6 := HA6.cv 43 (.int .i64 m.hop) rfl
                      go_wp2_with fail
                      refine (HF3.out _ _ (IRow.new1 w6 m.hop _)).mono ?_
                      rintro e w7 ⟨rfl, k7⟩
                      have b7 : Below w6.heap.size w6 w7 := ((Below.refl _ _).alloc (Nat.le_refl _) _).trans (k7.mono (by simp))
                      have HA7 := HA6.kept b7
                      have B7 := B6.trans (b7.mono B6.size)
                      have c44_7 := HA7.cv 44 (.slice a l.length c) rfl
                      go_wp2_with fail
                      refine (HC.out w7 B7).mono ?_
                      rintro e w8 ⟨rfl, k8⟩
                      have HA8 := HA7.kept k8
                      have B8 := B7.trans (k8.mono B7.size)
                      go_wp2
                      go_ret
                      exact ⟨rfl, B8⟩

end Go.Proofs.YtajbkoggmhgjfaaDoor
