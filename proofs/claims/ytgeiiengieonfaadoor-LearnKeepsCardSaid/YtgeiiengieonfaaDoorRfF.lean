/- The reference's Forget. -/
import Derived.Test.YtgeiiengieonfaaDoorRfC
namespace Go.Proofs.YtgeiiengieonfaaDoor
open Go.RowKit
open Go.Shelf
attribute [local go_sem ↓] Go.wp_at_zero Go.wp_at_succ
set_option linter.unusedSimpArgs false
set_option linter.unusedVariables false
set_option maxRecDepth 100000

set_option maxHeartbeats 3200000 in
theorem rforget_any (B t : Nat) (age last : Int) (l : List Ent) (port : Int) (w : World) (h : RTab w B t age last l) (hB : B ≤ w.heap.size) :
    Calls Tryd.prog 17 #[.pointer (some ⟨t, 0, none⟩), .int .i64 port] w fun e w' => e = .returned (.tuple #[]) ∧ RTab w' B t age last (forgetM l port) ∧ Lx B RT w w' := by
  have HOK := Lib.hid (h.ok.forget port)
  have hlo := Lib.hid h.lo
  have ha0 := Lib.hid h.a0
  have ha1 := Lib.hid h.a1
  have hl0 := Lib.hid h.l0
  have hl1 := Lib.hid h.l1
  have HL := Lib.hid h.ok.len
  have hll : l.length ≤ 9223372036854775807 := by have := h.ok.len; omega
  obtain ⟨v, hb, hr⟩ := h.row
  obtain ⟨ad, c, rfl⟩ := hr.form
  have c2 := hb.cv 2 (.slice ad l.length c) rfl
  clear h
  go_enter Tryd.func17, Tryd.ntmps17
  go_wp2_with fail
  go_loopw [4, 12] (fun s4 s12 wr => ∃ k : Nat, k ≤ l.length ∧ s12 = .int .i64 k ∧ (∃ v, s4 = v ∧ RowE wr w.heap.size 71 v ((l.take k).filter fun e => !(e.port == port))) ∧ Lx w.heap.size [71] w wr) (fun _ i _ => l.length - (intOf i).toNat)
  case atStart => exact ⟨0, by omega, rfl, ⟨_, rfl, RowE.nil _ _ _⟩, Lx.refl _ _ _⟩
  case round =>
    obtain ⟨k, hk, rfl, ⟨v, rfl, hv⟩, Bk⟩ := hrel
    by_cases hlt : k < l.length
    · have hrA := hr.keep (fun g C hb _ => (Bk.below (Nat.le_refl _)).block g hb.lt)
      obtain ⟨g0, lo, e1, hbl, HK⟩ := hrA.at hlt
      subst e1
      have q1 : (k : Int) < (l.length : Int) := by omega
      have q2 : decide ((k : Int) < (l.length : Int)) = true := decide_eq_true q1
      have q3 : (0 : Int) ≤ (k : Int) := by omega
      have q4 : IntKind.i64.wrap ((k : Int) + 1) = (k : Int) + 1 := by have := HL.out; rw [IntKind.wrap_i64] <;> omega
      have hXk := List.getElem?_eq_getElem hlt
      generalize l[k] = x at *
      have HSN := Lib.hid (snoc_filter (p := fun e => !(e.port == port)) hXk)
      have hsw := Bk.size
      have HA4 := Blk.new wr 71 (enC zEnt)
      have b4 : Below wr.heap.size wr (wr.alloc (.cells (enC zEnt) 71)) := (Below.refl _ _).alloc (Nat.le_refl _) _
      clear hXk hrA
      go_upto_region 4 with (first
        | (refine load_cells (B := g0) (k := lo + k * 9) 71 (enC x) (by rfl) rfl rfl HK (by kernel_rfl) (by kernel_rfl) ?_)
        | (refine alloc_blk 71 (enC zEnt) (by rfl) rfl Tryd.erZero ?_)
        | (refine store_blk (k := 0) 71 (.agg (enC x)) (enC x) (by rfl) rfl rfl rfl HA4 (by kernel_rfl) (show (9 : Nat) ≤ 9 from Nat.le_refl 9) (by rfl) (st_whole' _ _ rfl) ?_; intro w5 HA5 b5 g5))
      have B5 : Below wr.heap.size wr w5 := b4.trans b5
      have L5 := Bk.trans (Lx.of B5)
      have hv5 := hv.kept B5
      have hbase5 := L5.size
      clear HA4 b4 b5 g5 HK Bk hbl hv B5
      generalize wr.heap.size = N at *
      have HLf := Lib.hid (show ((l.take k).filter fun e => !(e.port == port)).length ≤ 100000 by have h1 := List.length_filter_le (fun e => !(e.port == port)) (l.take k); have h2 := List.length_take (i := k) (l := l); have h3 := HL.out; omega)
      generalize ((l.take k).filter fun e => !(e.port == port)) = fl at *
      have n7 := HA5.cv 7 (.int .i64 x.port) rfl
      by_cases hp : x.port = port
      · have hf : (l.take (k + 1)).filter (fun e => !(e.port == port)) = fl := by rw [HSN.out]; simp [hp]
        have HF := Lib.hid hf
        rw [hp] at n7
        have hbv : (port != port) = false := by simp
        clear hf hp
        go_wp2
        go_roundw
        case rel => exact ⟨k + 1, by omega, by go_num, ⟨_, rfl, by rw [HF.out]; exact hv5⟩, L5⟩
        case measure => simp [intOf]; omega
      · have hf : (l.take (k + 1)).filter (fun e => !(e.port == port)) = fl ++ [x] := by rw [HSN.out]; simp [hp]
        have HF := Lib.hid hf
        have hbv : (x.port != port) = true := by simpa using hp
        clear hf
        go_wp2_with (first
          | (refine load_blk (B := N) (k := 0) 71 (enC x) (by rfl) rfl rfl HA5 (by kernel_rfl) (by kernel_rfl) (by rfl) ?_)
          | (refine sliceL_en Tryd.erT x (by rfl) rfl rfl ?_; intro w8 HBn bb8 hs8; have hv8 := hv5.kept bb8; have hb8 := Nat.le_trans hbase5 bb8.size)
          | (refine appendL_en (l := fl) Tryd.erT x (by rfl) rfl rfl rfl hv8 HBn HLf.out hb8 ?_; intro v9 w9 hr9 hx9))
        go_roundw
        case rel => exact ⟨k + 1, by omega, by go_num, ⟨_, rfl, by rw [HF.out]; exact hr9⟩, L5.trans ((Lx.of bb8).trans hx9)⟩
        case measure => simp [intOf]; omega
    · obtain rfl : k = l.length := by omega
      have q2 : decide ((l.length : Int) < (l.length : Int)) = false := decide_eq_false (by omega)
      rw [List.take_length] at hv
      have HFM : Hid (forgetM l port = l.filter fun e => !(e.port == port)) := rfl
      generalize (l.filter fun e => !(e.port == port)) = m at *
      obtain ⟨adm, cm, rfl⟩ := hv.toA.form
      have hTr := Bk.blk hb (by decide)
      have HBk := Lib.hid (Bk.mono hB (by simp) : Lx B RT w wr)
      have HV := Lib.hid hv
      clear Bk hv
      go_wp2_with (refine store_blk (B := t) (k := 2) 43 (.slice adm m.length cm) (tabC age last (.slice adm m.length cm)) (by rfl) rfl rfl rfl hTr (by kernel_rfl) (show (3 : Nat) ≤ 3 from Nat.le_refl 3) (by rfl) rfl ?_; intro w10 hT10 bb10 g10)
      go_end0
      refine ⟨rfl, ⟨⟨_, hT10, ?_⟩, hlo.out, HOK.out, ha0.out, ha1.out, hl0.out, hl1.out⟩, HBk.out.grown g10 hlo.out List.mem_cons_self hTr⟩
      rw [HFM.out]
      exact (HV.out.toA.mono hB).other g10 hTr (by decide)

/-! Learn, at every argument. -/

theorem rlearn_any (B t : Nat) (age last : Int) (l : List Ent) (vid : Int) (a : Nat → Nat) (port now : Int) (w : World) (h : RTab w B t age last l) (ha : ∀ i, a i < 256) (hB : B ≤ w.heap.size) :
    Calls Tryd.prog 14 #[.pointer (some ⟨t, 0, none⟩), .int .i64 vid, .agg (c6 a), .int .i64 port, .int .i64 now] w fun e w' => e = .returned (.int .i64 (learnErr last vid a port now)) ∧
      (learnErr last vid a port now = 0 → RTab w' B t age now (learnM age l vid a port now)) ∧ (learnErr last vid a port now ≠ 0 → RTab w' B t age last l) ∧ Lx B RT w w' := by
  have err : ∀ e, learnErr last vid a port now = e → e ≠ 0 → Calls Tryd.prog 14 #[.pointer (some ⟨t, 0, none⟩), .int .i64 vid, .agg (c6 a), .int .i64 port, .int .i64 now] w (fun x w' => x = .returned (.int .i64 e) ∧ Below w.heap.size w w') → Calls Tryd.prog 14 #[.pointer (some ⟨t, 0, none⟩), .int .i64 vid, .agg (c6 a), .int .i64 port, .int .i64 now] w fun e w' => e = .returned (.int .i64 (learnErr last vid a port now)) ∧
      (learnErr last vid a port now = 0 → RTab w' B t age now (learnM age l vid a port now)) ∧ (learnErr last vid a port now ≠ 0 → RTab w' B t age last l) ∧ Lx B RT w w' := by
    intro e he h0 hc
    refine hc.mono ?_
    rintro x w' ⟨rfl, hb⟩
    exact ⟨by rw [he], fun q => absurd (he.symm.trans q) h0, fun _ => h.kept hb, Lx.of hb⟩
  by_cases hg : a 0 % 2 = 1
  · exact err 1 (by unfold learnErr; rw [if_pos (by omega)]) (by decide) (rlearn_err0 B t age last l vid a port now w h ha hg)
  by_cases hv : 1 ≤ vid ∧ vid ≤ 4094
  · by_cases hp : 0 ≤ port ∧ port ≤ 7
    · by_cases hn : 0 ≤ now ∧ now ≤ 1099511627776
      · by_cases ho : now < last
        · exact err 10 (by unfold learnErr; rw [if_neg (by omega), if_neg (by omega), if_pos ho]) (by decide) (rlearn_err4 B t age last l vid a port now w h ha hg (fun q => q hv) (fun q => q hp) (fun q => q hn) ho)
        · have he : learnErr last vid a port now = 0 := by unfold learnErr; rw [if_neg (by omega), if_neg (by omega), if_neg ho]
          refine (rlearn_ok B t age last l vid a port now w h ha hB hg (fun q => q hv) (fun q => q hp) (fun q => q hn) ho).mono ?_
          rintro x w' ⟨rfl, h1, h2⟩
          exact ⟨by rw [he], fun _ => h1, fun q => absurd he q, h2⟩
      · exact err 2 (by unfold learnErr; rw [if_neg (by omega), if_pos (by omega)]) (by decide) (rlearn_err3 B t age last l vid a port now w h ha hg (fun q => q hv) (fun q => q hp) hn)
    · exact err 1 (by unfold learnErr; rw [if_pos (by omega)]) (by decide) (rlearn_err2 B t age last l vid a port now w h ha hg (fun q => q hv) hp)
  · exact err 1 (by unfold learnErr; rw [if_pos (by omega)]) (by decide) (rlearn_err1 B t age last l vid a port now w h ha hg hv)

end Go.Proofs.YtgeiiengieonfaaDoor
