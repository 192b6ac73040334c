/- package bridge: has, firstTag, Vid. -/
import Derived.Test.YtdceggekhhflgaaBrg
import Derived.Test.YtdceggekhhflgaaFrRight
import Derived.Test.YtdceggekhhflgaaCells
import Derived.Test.YtdceggekhhflgaaStOp
namespace Go.Proofs.Ytdceggekhhflgaa
open Go.RowKit
attribute [local go_sem ↓] Go.wp_at_zero Go.wp_at_succ
set_option linter.unusedSimpArgs false
set_option linter.unusedVariables false
set_option maxRecDepth 100000
set_option linter.unusedSectionVars false
variable [Zone]

set_option maxHeartbeats 800000 in
theorem has_any {B b t c : Nat} {ad : Option Addr} {hs : List PsH} {age last : Int} {E : List Ent} (port : Int) (w : World) (h : BrgAt w B b t c ad hs age last E) :
    Calls Try.prog 36 #[.pointer (some ⟨b, 0, none⟩), .int .i64 port] w fun e w' => e = .returned (.bool (hasB hs.length port)) ∧ w = w' := by
  have c0 := h.blk.cv 0 _ rfl
  clear h
  unfold hasB
  cases h1 : decide (0 ≤ port) <;> cases h2 : decide (port < (hs.length : Int))
  all_goals (
    go_enter Try.func36, Try.ntmps36
    go_wp2
    go_ret
    exact ⟨rfl, rfl⟩)

def tgC (t : Tg) : Array Value := #[.bool t.s, .int .i64 t.p, .bool t.d, .int .i64 t.v]

theorem Try.tgZero : (Try.prog.info? 68).map (·.zero) = some (some (.agg (tgC zTg))) := by kernel_rfl

theorem TagsIn.cells {w : World} {a : Option Addr} {l : List Tg} (h : TagsIn w a l) {k : Nat} (hk : k < l.length) : ∃ b lo, a = some ⟨b, lo, none⟩ ∧ b < w.heap.size ∧ CellsAt w b (lo + k * 4) (tgC l[k]) := by
  rcases h with rfl | ⟨b, lo, ha, hlt, hat⟩
  · simp at hk
  · obtain ⟨h0, h1, h2, h3⟩ := hat k hk
    refine ⟨b, lo, ha, hlt, fun j v hv => ?_⟩
    have hj : j < 4 := (Array.getElem?_eq_some_iff.1 hv).1
    have : j = 0 ∨ j = 1 ∨ j = 2 ∨ j = 3 := by omega
    rcases this with rfl | rfl | rfl | rfl
    · cases hv; exact h0
    · cases hv; exact h1
    · cases hv; exact h2
    · cases hv; exact h3

/-- A parameter is laid into a block of its own. -/
theorem box_blk {P : Program} {ops : Array Oper} {rest : List Oper} {o : Oper} {a : Act} {w : World} {Q : Exit → Act → World → Prop} {x : Operand} (t : TypeId) (X : Array Value) (hw : Region.wanted o (yielded ops a.tmps) = true) (ho : o.op = .box t x) (hx : a.eval x = .agg X)
    (h : wpList P ops Q rest (a.put o.dst (.pointer (some ⟨w.heap.size, 0, none⟩))) (w.alloc (.cells X t))) : wpList P ops Q (o :: rest) a w :=
  wpList_step fun K hK => by
    have h1 : (Instr.box t (.agg X)).run P w = .ok (.pointer (some ⟨w.heap.size, 0, none⟩)) (w.alloc (.cells X t)) := by
      simp [Instr.box, newVar, newRow, newObj, Value.cells]
      rfl
    rw [if_pos hw]
    unfold Oper.wp execOp
    simp only [ho, hx, Sem.run_bind, Sem.run_pure, Result.andThen_ok, h1]
    exact hK _ _ h

theorem tgC_size (t : Tg) : (tgC t).size = 4 := by rfl

set_option maxHeartbeats 1600000 in
theorem firstTag_any (f : Fr) (w : World) (hT : TagsIn w f.ta f.tl) (hl : f.tl.length ≤ 20) :
    Calls Try.prog 43 #[frV f] w fun e w' => e = .returned (.agg (tgC (firstT f.tl))) ∧ Below w.heap.size w w' := by
  have hb0 : Below w.heap.size w (w.alloc (.cells (frC f) 36)) := (Below.refl _ _).alloc (Nat.le_refl _) _
  have hF0 : Blk (w.alloc (.cells (frC f) 36)) w.heap.size 36 (frC f) := HasF.new w f
  have hT0 := hT.below hb0
  unfold frV
  go_enter Try.func43, Try.ntmps43
  go_upto_region 1 with (first
    | (refine box_blk 36 (frC f) (by rfl) rfl rfl ?_)
    | (refine alloc_blk 68 (tgC zTg) (by rfl) rfl Try.tgZero ?_))
  simp only [Act.put, List.setIfInBounds_toArray, List.set_cons_zero, List.set_cons_succ]
  have HT := Blk.new (w.alloc (.cells (frC f) 36)) 68 (tgC zTg)
  have hF1 := hF0.alloc (.cells (tgC zTg) 68)
  have c12 := hF1.cv 12 (.slice f.ta f.tl.length f.tc) rfl
  have b1 : Below w.heap.size w ((w.alloc (.cells (frC f) 36)).alloc (.cells (tgC zTg) 68)) := hb0.alloc hb0.size _
  have hT1 := hT.below b1
  generalize hN : (w.alloc (.cells (frC f) 36)).heap.size = N at *
  have hn : w.heap.size < N := by rw [← hN]; simp
  generalize (w.alloc (.cells (frC f) 36)).alloc (.cells (tgC zTg) 68) = w1 at *
  clear hF0 hT0 hb0 hN hF1
  cases htl : f.tl with
  | nil =>
    have HR : Hid (firstT f.tl = zTg) := by show _ = _; rw [htl]; rfl
    rw [htl] at c12
    clear hT1
    go_wp2_with (refine store_blk (B := N) (k := 0) 68 (.agg (tgC zTg)) (tgC zTg) (by rfl) rfl rfl rfl HT (by kernel_rfl) (show (4 : Nat) ≤ 4 from Nat.le_refl 4) (by rfl) (st_whole' _ _ rfl) ?_; intro w5 HN5 b5 g5)
    exact bodyPost_ret (results_blk rfl rfl HN5 (by kernel_rfl) (by kernel_rfl)) rfl ⟨by rw [HR.out], b1.trans (b5.mono (by omega))⟩
  | cons x m =>
    have hlt : 0 < f.tl.length := by rw [htl]; simp
    obtain ⟨bb, lo, hta, hbl, hcs⟩ := hT1.cells hlt
    have hx : f.tl[0] = x := by simp only [htl]; rfl
    rw [hx, Nat.zero_mul, Nat.add_zero] at hcs
    rw [hta] at c12
    have q1 : (0 : Int) < (f.tl.length : Int) := by omega
    have q2 : ((f.tl.length : Int) == 0) = false := by rw [beq_eq_false_iff_ne]; omega
    have q3 : (f.tl.length == 0) = false := by rw [beq_eq_false_iff_ne]; omega
    have HR : Hid (firstT f.tl = x) := by show _ = _; rw [htl]; rfl
    clear hT1 htl hT hx
    go_wp2_with (first
      | (refine load_cells (B := bb) (k := lo) 68 (tgC x) (by rfl) rfl rfl hcs (by kernel_rfl) (by kernel_rfl) ?_)
      | (refine store_blk (B := N) (k := 0) 68 (.agg (tgC x)) (tgC x) (by rfl) rfl rfl rfl HT (by kernel_rfl) (show (4 : Nat) ≤ 4 from Nat.le_refl 4) (by rfl) (st_whole' _ _ rfl) ?_; intro w5 HN5 b5 g5))
    exact bodyPost_ret (results_blk rfl rfl HN5 (by kernel_rfl) (by kernel_rfl)) rfl ⟨by rw [HR.out], b1.trans (b5.mono (by omega))⟩

theorem hasB_of {n : Nat} {port : Int} (h : hasB n port = true) : ∃ k : Nat, port = (k : Int) ∧ k < n := by
  unfold hasB at h
  simp only [Bool.and_eq_true, decide_eq_true_eq] at h
  exact ⟨port.toNat, by omega, by omega⟩

theorem hasB_no {n : Nat} {port : Int} (h : hasB n port = false) {ps : List Ps} (hn : ps.length = n) (tl : List Tg) : vidM ps port tl = 0 := by
  unfold vidM
  rw [hn, h]
  rfl

theorem hasB_yes {hs : List PsH} {k : Nat} (h : k < hs.length) (tl : List Tg) : vidM (hs.map PsH.x) (k : Int) tl = vidP hs[k].x (firstT tl) := by
  unfold vidM hasB
  rw [decide_eq_true (by omega), List.length_map, decide_eq_true (by omega)]
  simp [h]

set_option maxHeartbeats 3200000 in
theorem vid_any {B b t c : Nat} {ad : Option Addr} {hs : List PsH} {age last : Int} {E : List Ent} (port : Int) (f : Fr) (w : World) (h : BrgAt w B b t c ad hs age last E) (hT : TagsIn w f.ta f.tl) (hl : f.tl.length ≤ 20) :
    Calls Try.prog 18 #[.pointer (some ⟨b, 0, none⟩), .int .i64 port, frV f] w fun e w' => e = .returned (.int .i64 (vidM (hs.map PsH.x) port f.tl)) ∧ Below w.heap.size w w' := by
  have b1 : Below w.heap.size w (w.alloc (.cells (frC f) 36)) := (Below.refl _ _).alloc (Nat.le_refl _) _
  have hF : Blk (w.alloc (.cells (frC f) 36)) w.heap.size 36 (frC f) := HasF.new w f
  have hT1 := hT.below b1
  have h1 := h.kept b1
  have HH := Lib.hid (fun w h => has_any (B := B) (b := b) (t := t) (c := c) (ad := ad) (hs := hs) (age := age) (last := last) (E := E) port w h)
  have HFT := Lib.hid (fun w h => firstTag_any f w h hl)
  cases hb : hasB hs.length port with
  | false =>
    have HR := Lib.hid (hasB_no hb (ps := hs.map PsH.x) (by rw [List.length_map]) f.tl)
    rw [hb] at HH
    clear hb h hT hl hT1 HFT
    unfold frV
    go_enter Try.func18, Try.ntmps18
    go_upto_region 1 with (refine box_blk 36 (frC f) (by rfl) rfl rfl ?_)
    go_wp2_with (go_at_call 36; refine (HH.out _ h1).mono ?_; rintro e w' ⟨rfl, rfl⟩)
    go_ret
    exact ⟨by rw [HR.out]; rfl, b1⟩
  | true =>
    obtain ⟨k, rfl, hk⟩ := hasB_of hb
    have HR := Lib.hid (hasB_yes hk f.tl)
    rw [hb] at HH
    have hkp := h1.kp _ (List.getElem_mem hk)
    obtain ⟨g, cur, rfl, hg, hgb, hcs⟩ := h1.at hk
    have c0 := h1.blk.cv 0 _ rfl
    have q1 : (k : Int) < (hs.length : Int) := by omega
    have q3 : (0 : Int) ≤ (k : Int) := by omega
    generalize hs[k] = x at *
    clear hb h hT hl hg hgb hk
    unfold frV
    go_enter Try.func18, Try.ntmps18
    go_upto_region 1 with (refine box_blk 36 (frC f) (by rfl) rfl rfl ?_)
    generalize w.alloc (.cells (frC f) 36) = w1 at *
    have HP := Blk.new w1 59 (psC zPsH)
    have bP : Below w1.heap.size w1 (w1.alloc (.cells (psC zPsH) 59)) := (Below.refl _ _).alloc (Nat.le_refl _) _
    go_upto_region 4 with (first
      | (go_at_call 36; refine (HH.out _ h1).mono ?_; rintro e w' ⟨rfl, rfl⟩)
      | (refine load_cells (B := g) (k := k * 4) 59 (psC x) (by rfl) rfl rfl hcs (by kernel_rfl) (by kernel_rfl) ?_)
      | (refine alloc_blk 59 (psC zPsH) (by rfl) rfl Try.psZero ?_)
      | (refine store_blk (B := w1.heap.size) (k := 0) 59 (.agg (psC x)) (psC x) (by rfl) rfl rfl rfl HP (by kernel_rfl) (show (4 : Nat) ≤ 4 from Nat.le_refl 4) (by rfl) (st_whole' _ _ rfl) ?_; intro w2 HP2 b2 g2))
    have k2 := bP.trans b2
    have hF2 := hF.kept k2
    have hT2 := hT1.below k2
    have hkp2 := (hkp.keep fun g C q _ => k2.block g q.lt).ok
    have B2 := b1.trans (k2.mono b1.size)
    have hlt := HP.lt
    clear hF hT1 hkp h1 HP bP b2 g2 HH hcs c0
    generalize w1.heap.size = P at *
    have bA : ∀ w3 : World, Below w3.heap.size w3 (w3.alloc (.cells (tgC zTg) 68)) := fun w3 => (Below.refl _ _).alloc (Nat.le_refl _) _
    go_upto_region 5 with (first
      | (refine load_blk 36 (frC f) (by rfl) rfl rfl hF2 (by kernel_rfl) (by kernel_rfl) (by rfl) ?_)
      | (go_at_call 43; refine (HFT.out _ hT2).mono ?_; rintro e w3 ⟨rfl, k3⟩)
      | (refine alloc_blk 68 (tgC zTg) (by rfl) rfl Try.tgZero ?_)
      | (refine store_blk (B := w3.heap.size) (k := 0) 68 (.agg (tgC (firstT f.tl))) (tgC (firstT f.tl)) (by rfl) rfl rfl rfl (Blk.new w3 68 (tgC zTg)) (by kernel_rfl) (show (4 : Nat) ≤ 4 from Nat.le_refl 4) (by rfl) (st_whole' _ _ rfl) ?_; intro w4 HT4 b4 g4))
    have k4 := k3.trans ((((Below.refl _ _).alloc (Nat.le_refl _) _).trans b4).mono k3.size)
    have HP4 := HP2.kept k4
    have hkp4 := hkp2.below k4
    have B4 := B2.trans (k4.mono B2.size)
    clear hF2 hT2 HFT HP2 hkp2 B2 b4 g4 k3 k4 bA
    generalize firstT f.tl = tt at *
    generalize w3.heap.size = N at *
    obtain ⟨ts, tp, td, tv⟩ := tt
    have t0 := HT4.cv 0 (.bool ts) rfl
    have t3 := HT4.cv 3 (.int .i64 tv) rfl
    have p0 := HP4.cv 0 (.int .i64 x.x.pv) rfl
    have p1 := HP4.cv 1 (.slice x.ia x.x.inn.length x.ic) rfl
    have HC := Lib.hid (fun v => containsIv_any x.ia x.ic x.x.inn v w4 hkp4.i (Nat.le_trans hkp4.ic hkp4.im))
    clear HT4 HP4 hkp4
    unfold vidP at HR
    simp only at HR
    by_cases h0 : tv = 0
    · rw [if_pos h0] at HR
      have e0 : (tv == 0) = true := beq_iff_eq.2 h0
      clear h0
      cases ts with
      | true =>
        go_wp2
        go_ret
        exact ⟨by rw [HR.out]; rfl, B4⟩
      | false =>
        cases hm : memB x.x.inn x.x.pv with
        | false =>
          rw [hm] at HR
          have HC1 := Lib.hid (HC.out x.x.pv)
          rw [hm] at HC1
          go_wp2_with (refine HC1.out.mono ?_; rintro e w' ⟨rfl, rfl⟩)
          go_ret
          exact ⟨by rw [HR.out]; rfl, B4⟩
        | true =>
          rw [hm] at HR
          have HC1 := Lib.hid (HC.out x.x.pv)
          rw [hm] at HC1
          go_wp2_with (refine HC1.out.mono ?_; rintro e w' ⟨rfl, rfl⟩)
          go_ret
          exact ⟨by rw [HR.out]; rfl, B4⟩
    · rw [if_neg h0] at HR
      have e0 : (tv == 0) = false := beq_eq_false_iff_ne.2 h0
      clear h0
      cases ts with
      | true =>
        go_wp2
        go_ret
        exact ⟨by rw [HR.out]; rfl, B4⟩
      | false =>
        cases hm : memB x.x.inn tv with
        | false =>
          rw [hm] at HR
          have HC1 := Lib.hid (HC.out tv)
          rw [hm] at HC1
          go_wp2_with (refine HC1.out.mono ?_; rintro e w' ⟨rfl, rfl⟩)
          go_ret
          exact ⟨by rw [HR.out]; rfl, B4⟩
        | true =>
          rw [hm] at HR
          have HC1 := Lib.hid (HC.out tv)
          rw [hm] at HC1
          go_wp2_with (refine HC1.out.mono ?_; rintro e w' ⟨rfl, rfl⟩)
          go_ret
          exact ⟨by rw [HR.out]; rfl, B4⟩

end Go.Proofs.Ytdceggekhhflgaa
