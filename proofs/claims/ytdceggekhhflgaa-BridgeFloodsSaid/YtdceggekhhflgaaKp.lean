/- switchyardkeep: pick, address, carried. -/
import Derived.Test.YtdceggekhhflgaaTrM
import Derived.Test.YtdceggekhhflgaaBrP
import Derived.Test.YtdceggekhhflgaaBrO
namespace Go.Proofs.Ytdceggekhhflgaa
open Go.RowKit
attribute [local go_sem ↓] Go.wp_at_zero Go.wp_at_succ
set_option linter.unusedSimpArgs false
set_option linter.unusedVariables false
set_option maxRecDepth 100000

theorem pick_val (a : Int) (n : Nat) (w : World) (h1 : 1 ≤ n) (hn : n ≤ 281474976710656) :
    Calls Try.prog 14 #[.int .i64 a, .int .i64 n] w fun e w' => e = .returned (.int .i64 (pickN a n)) ∧ w = w' := by
  have HR := Lib.hid (pickN_val a n h1 hn)
  go_enter Try.func14, Try.ntmps14
  go_wp2
  go_ret
  exact ⟨by rw [← HR.out]; rfl, rfl⟩

set_option maxHeartbeats 1600000 in
theorem address_any (n : Int) (w : World) :
    Calls Try.prog 31 #[.int .i64 n] w fun e w' => e = .returned (.agg (c6 (adF n))) ∧ Below w.heap.size w w' := by
  have HP := Lib.hid (fun w => pick_val n 60 w (by decide) (by decide))
  have hp := pickN_lt n 60 (by decide)
  have hc6 : Hid (c6 (adF n) = #[.int .u8 2, .int .u8 0, .int .u8 0, .int .u8 0, .int .u8 ((pickN n 60 / 8 : Nat) : Int), .int .u8 (pickN n 60 : Nat)]) := rfl
  generalize pickN n 60 = p at *
  have e1 : IntKind.u8.wrap (p : Int) = (p : Int) := by rw [IntKind.wrap_u8] <;> omega
  have e2 : IntKind.i64.wrap ((p : Int).tdiv 8) = ((p / 8 : Nat) : Int) := by
    have : (p : Int).tdiv 8 = ((p / 8 : Nat) : Int) := by rw [Int.tdiv_eq_ediv_of_nonneg (by omega)]; omega
    rw [this, IntKind.wrap_i64] <;> omega
  have e3 : IntKind.u8.wrap ((p / 8 : Nat) : Int) = ((p / 8 : Nat) : Int) := by rw [IntKind.wrap_u8] <;> omega
  go_enter Try.func31, Try.ntmps31
  go_wp2_with (go_at_call 14; refine (HP.out _).mono ?_; rintro e w' ⟨rfl, rfl⟩)
  exact bodyPost_ret (v := .agg #[.int .u8 2, .int .u8 0, .int .u8 0, .int .u8 0, .int .u8 ((p : Int) / 8), .int .u8 (p : Int)]) (by simp [results, Try.results31, go_sem]) rfl ⟨by rw [hc6.out, show ((p / 8 : Nat) : Int) = (p : Int) / 8 by omega], (Below.refl _ _).alloc (Nat.le_refl _) _⟩


theorem wp_alloc_opF {P : Program} {o : Oper} {a : Act} {w : World} {K : Act → World → Prop} {Q : Exit → Act → World → Prop} (t : TypeId) (Z : Array Value) (ho : o.op = .alloc t) (hz : (P.info? t).map (·.zero) = some (some (.agg Z)))
    (hK : ∀ b w', b = w.heap.size → Blk w' b t Z → Below b w w' → K (a.put o.dst (.pointer (some ⟨b, 0, none⟩))) w') : Oper.wp P o a w K Q := by
  have h1 : (Instr.alloc t true (.tuple #[])).run P w = .ok (.pointer (some ⟨w.heap.size, 0, none⟩)) (w.alloc (.cells Z t)) := by
    cases hi : P.info? t with
    | none => rw [hi] at hz; cases hz
    | some i =>
      rw [hi] at hz
      simp only [Option.map_some, Option.some.injEq] at hz
      simp [Instr.alloc, zeroValue, typeInfo, hi, hz, newVar, newRow, newObj, Value.cells]
      rfl
  unfold Oper.wp execOp
  simp only [ho, Sem.run_bind, Sem.run_pure, Result.andThen_ok, h1]
  exact hK _ _ rfl (Blk.new w t Z) ((Below.refl _ _).alloc (Nat.le_refl _) _)

set_option maxHeartbeats 6400000 in
theorem carried_any (t : Tr) (w : World) :
    Calls Try.prog 15 #[.agg (trC t)] w fun e w' => (∃ ta tc, e = .returned (frV (carF t ta tc)) ∧ TgRow w' ta (tagM t) tc) ∧ Below w.heap.size w w' := by
  have b0 : Below w.heap.size w (w.alloc (.cells (trC t) 24)) := (Below.refl _ _).alloc (Nat.le_refl _) _
  have HT0 := Blk.new w 24 (trC t)
  have HP4 := Lib.hid (pick_val t.vid 4 · (by decide) (by decide))
  have hp4 := pickN_lt t.vid 4 (by decide)
  go_enter Try.func15, Try.ntmps15
  go_upto_region 1 with (first
    | (refine box_blk 24 (trC t) (by rfl) rfl rfl ?_)
    | (refine alloc_blk 36 (frC zFr) (by rfl) rfl Try.frZeroB ?_))
  simp only [Act.put, List.setIfInBounds_toArray, List.set_cons_zero, List.set_cons_succ]
  have HR := Blk.new (w.alloc (.cells (trC t) 24)) 36 (frC zFr)
  have HT := HT0.alloc (.cells (frC zFr) 36)
  have b1 := b0.alloc b0.size (.cells (frC zFr) 36)
  have hlo : (w.alloc (.cells (trC t) 24)).heap.size < ((w.alloc (.cells (trC t) 24)).alloc (.cells (frC zFr) 36)).heap.size := HR.lt
  have hn : w.heap.size < (w.alloc (.cells (trC t) 24)).heap.size := HT0.lt
  generalize (w.alloc (.cells (trC t) 24)).heap.size = R at *
  generalize (w.alloc (.cells (trC t) 24)).alloc (.cells (frC zFr) 36) = w1 at *
  clear HT0 b0
  refine Code.wp_mono (Q := fun e a w' => e = .normal ∧ ∃ A u5 u6 u7 u8 u9 u10 u11, a = { tmps := #[.agg (trC t), .pointer (some ⟨w.heap.size, 0, none⟩), .pointer (some ⟨R, 0, none⟩), .pointer (some ⟨A, 0, none⟩), undef, u5, u6, u7, u8, u9, u10, u11, undef, undef, undef, undef, undef, undef, undef, undef, undef, undef, undef, undef, undef, undef, undef, undef, undef, undef, undef], defers := [] } ∧ Blk w' A 36 (frC ⟨adF t.to, adF t.frm, none, [], 0, 1, 2048, 0, 0, 0, 0, 0, ⟨#[98, 111, 100, 121]⟩⟩) ∧ w1.heap.size ≤ A ∧ Blk w' w.heap.size 24 (trC t) ∧ Below w1.heap.size w1 w') ?_ ?_
  · rintro e a w5 ⟨rfl, A, u5, u6, u7, u8, u9, u10, u11, rfl, HA5, hAlo, HT5, k5⟩
    have HR5 := HR.kept k5
    have B5 := b1.trans (k5.mono b1.size)
    have m0 := HT5.cv 5 (.bool t.many) rfl
    have m3 := HT5.cv 3 (.int .i64 t.vid) rfl
    have d0 := HA5.cv 0 (.int .u8 2) rfl
    have hbit : bits .or .u8 2 1 = 3 := by decide +kernel
    have hAR : R < A := by omega
    have hwA : w.heap.size < A := by omega
    have HPV : Hid (pickN t.vid 4 = pickN t.vid 4) := rfl
    generalize hp : pickN t.vid 4 = p at *
    clear HPV
    cases hm : t.many with
    | false =>
      rw [hm] at m0
      have HD : Hid (dstF t = adF t.to) := by
        show _ = _
        funext i
        unfold dstF
        rw [hm]
        simp
      clear hm
      by_cases h0 : 0 < p
      · have HTM : Hid (tagM t = [⟨false, 3, false, (p : Int) - 1⟩]) := by
          show _ = _
          unfold tagM
          rw [hp, if_pos h0]
        have e1 : decide ((0 : Int) < (p : Int)) = true := decide_eq_true (by omega)
        have e2 : IntKind.i64.wrap ((p : Int) - 1) = (p : Int) - 1 := by rw [IntKind.wrap_i64] <;> omega
        have e3 : wrap64 ((p : Int) - 1) = (p : Int) - 1 := by unfold wrap64; omega
        clear hp
        go_wp2_with (first
          | (go_at_call 14; refine (HP4.out _).mono ?_; rintro e w' ⟨rfl, rfl⟩)
          | (refine build_blk (tgC ⟨false, 3, false, (p : Int) - 1⟩) (by rfl) rfl (by kernel_rfl) ?_)
          | (refine sliceL_tg ⟨false, 3, false, (p : Int) - 1⟩ (by rfl) rfl rfl ?_; intro w7 HG7 k7 s7; have HA7 := HA5.kept k7; have HR7 := HR5.kept k7)
          | (refine store_blk (B := A) (k := 12) 34 (.slice (some ⟨w5.heap.size, 0, none⟩) 1 1) (frC ⟨(adF t.to), adF t.frm, some ⟨w5.heap.size, 0, none⟩, [⟨false, 3, false, (p : Int) - 1⟩], 1, 1, 2048, 0, 0, 0, 0, 0, ⟨#[98, 111, 100, 121]⟩⟩) (by rfl) rfl rfl rfl HA7 (by kernel_rfl) (show (13 : Nat) ≤ 21 by decide) (by rfl) rfl ?_; intro w8 HA8 b8 g8; have HR8 := HR7.grown g8 (by intro e; cases e; omega); have HG8 := HG7.grown g8 (by intro e; have := HA5.lt; cases e; omega))
          | (refine load_blk 36 (frC ⟨(adF t.to), adF t.frm, some ⟨w5.heap.size, 0, none⟩, [⟨false, 3, false, (p : Int) - 1⟩], 1, 1, 2048, 0, 0, 0, 0, 0, ⟨#[98, 111, 100, 121]⟩⟩) (by rfl) rfl rfl HA8 (by kernel_rfl) (by kernel_rfl) (by rfl) ?_)
          | (refine store_blk (B := R) (k := 0) 36 (.agg (frC ⟨(adF t.to), adF t.frm, some ⟨w5.heap.size, 0, none⟩, [⟨false, 3, false, (p : Int) - 1⟩], 1, 1, 2048, 0, 0, 0, 0, 0, ⟨#[98, 111, 100, 121]⟩⟩)) (frC ⟨(adF t.to), adF t.frm, some ⟨w5.heap.size, 0, none⟩, [⟨false, 3, false, (p : Int) - 1⟩], 1, 1, 2048, 0, 0, 0, 0, 0, ⟨#[98, 111, 100, 121]⟩⟩) (by rfl) rfl rfl rfl HR8 (by kernel_rfl) (show (21 : Nat) ≤ 21 from Nat.le_refl 21) (by rfl) (st_whole' _ _ rfl) ?_; intro w9 HR9 b9 g9))
        exact bodyPost_ret (results_blk rfl rfl HR9 (by kernel_rfl) (by kernel_rfl)) rfl ⟨⟨some ⟨w5.heap.size, 0, none⟩, 1, by unfold carF frV; rw [HD.out, HTM.out], by rw [HTM.out]; exact Or.inr ⟨_, _, rfl, rfl, rfl, HG8.grown g9 (by intro e; have := HR5.lt; cases e; omega)⟩⟩, ((B5).trans ((k7.mono (Nat.le_of_lt (Nat.lt_of_lt_of_le hwA (Nat.le_of_lt HA5.lt)))).trans (b8.mono (by omega)))).trans (b9.mono (by omega))⟩
      · have HTM : Hid (tagM t = []) := by
          show _ = _
          unfold tagM
          rw [hp, if_neg h0]
        have e1 : decide ((0 : Int) < (p : Int)) = false := decide_eq_false (by omega)
        clear hp
        go_wp2_with (first
          | (go_at_call 14; refine (HP4.out _).mono ?_; rintro e w' ⟨rfl, rfl⟩)
          | (refine load_blk 36 (frC ⟨(adF t.to), adF t.frm, none, [], 0, 1, 2048, 0, 0, 0, 0, 0, ⟨#[98, 111, 100, 121]⟩⟩) (by rfl) rfl rfl HA5 (by kernel_rfl) (by kernel_rfl) (by rfl) ?_)
          | (refine store_blk (B := R) (k := 0) 36 (.agg (frC ⟨(adF t.to), adF t.frm, none, [], 0, 1, 2048, 0, 0, 0, 0, 0, ⟨#[98, 111, 100, 121]⟩⟩)) (frC ⟨(adF t.to), adF t.frm, none, [], 0, 1, 2048, 0, 0, 0, 0, 0, ⟨#[98, 111, 100, 121]⟩⟩) (by rfl) rfl rfl rfl HR5 (by kernel_rfl) (show (21 : Nat) ≤ 21 from Nat.le_refl 21) (by rfl) (st_whole' _ _ rfl) ?_; intro w9 HR9 b9 g9))
        exact bodyPost_ret (results_blk rfl rfl HR9 (by kernel_rfl) (by kernel_rfl)) rfl ⟨⟨none, 0, by unfold carF frV; rw [HD.out, HTM.out], by rw [HTM.out]; exact Or.inl ⟨rfl, rfl, rfl⟩⟩, (B5).trans (b9.mono (by omega))⟩
    | true =>
      rw [hm] at m0
      have HD : Hid (dstF t = fun i => if i = 0 then 3 else adF t.to i) := by
        show _ = _
        funext i
        unfold dstF
        rw [hm]
        simp
      clear hm
      by_cases h0 : 0 < p
      · have HTM : Hid (tagM t = [⟨false, 3, false, (p : Int) - 1⟩]) := by
          show _ = _
          unfold tagM
          rw [hp, if_pos h0]
        have e1 : decide ((0 : Int) < (p : Int)) = true := decide_eq_true (by omega)
        have e2 : IntKind.i64.wrap ((p : Int) - 1) = (p : Int) - 1 := by rw [IntKind.wrap_i64] <;> omega
        have e3 : wrap64 ((p : Int) - 1) = (p : Int) - 1 := by unfold wrap64; omega
        clear hp
        go_wp2_with (first
          | (go_at_call 14; refine (HP4.out _).mono ?_; rintro e w' ⟨rfl, rfl⟩)
          | (refine store_blk (B := A) (k := 0) 5 (.int .u8 3) (frC ⟨(fun i => if i = 0 then 3 else adF t.to i), adF t.frm, none, [], 0, 1, 2048, 0, 0, 0, 0, 0, ⟨#[98, 111, 100, 121]⟩⟩) (by rfl) rfl rfl rfl HA5 (by kernel_rfl) (show (1 : Nat) ≤ 21 by decide) (by rfl) rfl ?_; intro w6 HA6 b6 g6; have HR6 := HR5.grown g6 (by intro e; cases e; omega); have mm3 := (HT5.grown g6 (by intro e; cases e; omega)).cv 3 (.int .i64 t.vid) rfl)
          | (refine build_blk (tgC ⟨false, 3, false, (p : Int) - 1⟩) (by rfl) rfl (by kernel_rfl) ?_)
          | (refine sliceL_tg ⟨false, 3, false, (p : Int) - 1⟩ (by rfl) rfl rfl ?_; intro w7 HG7 k7 s7; have HA7 := HA6.kept k7; have HR7 := HR6.kept k7)
          | (refine store_blk (B := A) (k := 12) 34 (.slice (some ⟨w6.heap.size, 0, none⟩) 1 1) (frC ⟨(fun i => if i = 0 then 3 else adF t.to i), adF t.frm, some ⟨w6.heap.size, 0, none⟩, [⟨false, 3, false, (p : Int) - 1⟩], 1, 1, 2048, 0, 0, 0, 0, 0, ⟨#[98, 111, 100, 121]⟩⟩) (by rfl) rfl rfl rfl HA7 (by kernel_rfl) (show (13 : Nat) ≤ 21 by decide) (by rfl) rfl ?_; intro w8 HA8 b8 g8; have HR8 := HR7.grown g8 (by intro e; cases e; omega); have HG8 := HG7.grown g8 (by intro e; have := HA6.lt; cases e; omega))
          | (refine load_blk 36 (frC ⟨(fun i => if i = 0 then 3 else adF t.to i), adF t.frm, some ⟨w6.heap.size, 0, none⟩, [⟨false, 3, false, (p : Int) - 1⟩], 1, 1, 2048, 0, 0, 0, 0, 0, ⟨#[98, 111, 100, 121]⟩⟩) (by rfl) rfl rfl HA8 (by kernel_rfl) (by kernel_rfl) (by rfl) ?_)
          | (refine store_blk (B := R) (k := 0) 36 (.agg (frC ⟨(fun i => if i = 0 then 3 else adF t.to i), adF t.frm, some ⟨w6.heap.size, 0, none⟩, [⟨false, 3, false, (p : Int) - 1⟩], 1, 1, 2048, 0, 0, 0, 0, 0, ⟨#[98, 111, 100, 121]⟩⟩)) (frC ⟨(fun i => if i = 0 then 3 else adF t.to i), adF t.frm, some ⟨w6.heap.size, 0, none⟩, [⟨false, 3, false, (p : Int) - 1⟩], 1, 1, 2048, 0, 0, 0, 0, 0, ⟨#[98, 111, 100, 121]⟩⟩) (by rfl) rfl rfl rfl HR8 (by kernel_rfl) (show (21 : Nat) ≤ 21 from Nat.le_refl 21) (by rfl) (st_whole' _ _ rfl) ?_; intro w9 HR9 b9 g9))
        exact bodyPost_ret (results_blk rfl rfl HR9 (by kernel_rfl) (by kernel_rfl)) rfl ⟨⟨some ⟨w6.heap.size, 0, none⟩, 1, by unfold carF frV; rw [HD.out, HTM.out], by rw [HTM.out]; exact Or.inr ⟨_, _, rfl, rfl, rfl, HG8.grown g9 (by intro e; have := HR6.lt; cases e; omega)⟩⟩, ((B5.trans (b6.mono (by omega))).trans ((k7.mono (Nat.le_of_lt (Nat.lt_of_lt_of_le hwA (Nat.le_of_lt HA6.lt)))).trans (b8.mono (by omega)))).trans (b9.mono (by omega))⟩
      · have HTM : Hid (tagM t = []) := by
          show _ = _
          unfold tagM
          rw [hp, if_neg h0]
        have e1 : decide ((0 : Int) < (p : Int)) = false := decide_eq_false (by omega)
        clear hp
        go_wp2_with (first
          | (go_at_call 14; refine (HP4.out _).mono ?_; rintro e w' ⟨rfl, rfl⟩)
          | (refine store_blk (B := A) (k := 0) 5 (.int .u8 3) (frC ⟨(fun i => if i = 0 then 3 else adF t.to i), adF t.frm, none, [], 0, 1, 2048, 0, 0, 0, 0, 0, ⟨#[98, 111, 100, 121]⟩⟩) (by rfl) rfl rfl rfl HA5 (by kernel_rfl) (show (1 : Nat) ≤ 21 by decide) (by rfl) rfl ?_; intro w6 HA6 b6 g6; have HR6 := HR5.grown g6 (by intro e; cases e; omega); have mm3 := (HT5.grown g6 (by intro e; cases e; omega)).cv 3 (.int .i64 t.vid) rfl)
          | (refine load_blk 36 (frC ⟨(fun i => if i = 0 then 3 else adF t.to i), adF t.frm, none, [], 0, 1, 2048, 0, 0, 0, 0, 0, ⟨#[98, 111, 100, 121]⟩⟩) (by rfl) rfl rfl HA6 (by kernel_rfl) (by kernel_rfl) (by rfl) ?_)
          | (refine store_blk (B := R) (k := 0) 36 (.agg (frC ⟨(fun i => if i = 0 then 3 else adF t.to i), adF t.frm, none, [], 0, 1, 2048, 0, 0, 0, 0, 0, ⟨#[98, 111, 100, 121]⟩⟩)) (frC ⟨(fun i => if i = 0 then 3 else adF t.to i), adF t.frm, none, [], 0, 1, 2048, 0, 0, 0, 0, 0, ⟨#[98, 111, 100, 121]⟩⟩) (by rfl) rfl rfl rfl HR6 (by kernel_rfl) (show (21 : Nat) ≤ 21 from Nat.le_refl 21) (by rfl) (st_whole' _ _ rfl) ?_; intro w9 HR9 b9 g9))
        exact bodyPost_ret (results_blk rfl rfl HR9 (by kernel_rfl) (by kernel_rfl)) rfl ⟨⟨none, 0, by unfold carF frV; rw [HD.out, HTM.out], by rw [HTM.out]; exact Or.inl ⟨rfl, rfl, rfl⟩⟩, (B5.trans (b6.mono (by omega))).trans (b9.mono (by omega))⟩
  · skip
    refine wp_region_noPanic ?_
    refine wp_region_held_drew (S := (fun w' => Blk w' w.heap.size 24 (trC t) ∧ Below w1.heap.size w1 w')) (by kernel_rfl) ?_ (fun hHeld => ?_)
    · exact ⟨HT, (Below.refl _ _).drew⟩
    refine wpAnyH_take (i := 0) (v := ?_) rfl (by kernel_rfl) (by kernel_rfl) (by kernel_rfl) (fun _ _ _ h => h) (Or.inl ⟨by rfl, ?_⟩) (by assumption) ?_
    rotate_left
    · (intro w hSw; (try dsimp only at hSw); go_simp; (try with_reducible rfl))
    (try simp only [Act.put, List.getElem_toArray, List.getElem_cons_zero, List.getElem_cons_succ, List.setIfInBounds_toArray, List.set_cons_zero, List.set_cons_succ])
    refine wpAnyH_take (i := 1) (v := .int .i64 t.to) rfl (by kernel_rfl) (by kernel_rfl) (by kernel_rfl) (fun _ _ _ h => h) (Or.inl ⟨by rfl, fun w hSw => by have c := hSw.1.cv 2 (.int .i64 t.to) rfl; go_simp⟩) (by assumption) ?_
    (try simp only [Act.put, List.getElem_toArray, List.getElem_cons_zero, List.getElem_cons_succ, List.setIfInBounds_toArray, List.set_cons_zero, List.set_cons_succ])
    refine wpAnyH_take (i := 3) (v := ?_) rfl (by kernel_rfl) (by kernel_rfl) (by kernel_rfl) (fun _ _ _ h => h) (Or.inl ⟨by rfl, ?_⟩) (by assumption) ?_
    rotate_left
    · (intro w hSw; (try dsimp only at hSw); go_simp; (try with_reducible rfl))
    (try simp only [Act.put, List.getElem_toArray, List.getElem_cons_zero, List.getElem_cons_succ, List.setIfInBounds_toArray, List.set_cons_zero, List.set_cons_succ])
    refine wpAnyH_take (i := 4) (v := .int .i64 t.frm) rfl (by kernel_rfl) (by kernel_rfl) (by kernel_rfl) (fun _ _ _ h => h) (Or.inl ⟨by rfl, fun w hSw => by have c := hSw.1.cv 1 (.int .i64 t.frm) rfl; go_simp⟩) (by assumption) ?_
    (try simp only [Act.put, List.getElem_toArray, List.getElem_cons_zero, List.getElem_cons_succ, List.setIfInBounds_toArray, List.set_cons_zero, List.set_cons_succ])
    refine wpAnyH_ready (rs := [2, 7]) (by kernel_rfl) (by simp) ?_
    refine (AllReadyH.cons rfl (fun K hK => ?_) (AllReadyH.cons rfl (fun K hK => ?_) AllReadyH.nil))
    · skip
      simp only [List.getElem_toArray, List.getElem_cons_zero, List.getElem_cons_succ]
      go_simp
      refine (address_any t.to _).mono ?_
      rintro e w5 ⟨rfl, k5⟩
      have hS := hHeld.1.kept k5
      have BK := hHeld.2.trans (k5.mono hHeld.2.size)
      refine hK.out _ _ ?_ (fun hHeld => ?_)
      · exact ⟨hS, BK⟩
      clear hK K
      (try simp only [Act.put, List.getElem_toArray, List.getElem_cons_zero, List.getElem_cons_succ, List.setIfInBounds_toArray, List.set_cons_zero, List.set_cons_succ])
      refine wpAnyH_ready (rs := [5, 7]) (by kernel_rfl) (by simp) ?_
      refine (AllReadyH.cons rfl (fun K hK => ?_) (AllReadyH.cons rfl (fun K hK => ?_) AllReadyH.nil))
      · skip
        simp only [List.getElem_toArray, List.getElem_cons_zero, List.getElem_cons_succ]
        go_simp
        refine (address_any t.frm _).mono ?_
        rintro e w6 ⟨rfl, k6⟩
        have hS := hHeld.1.kept k6
        have BK := hHeld.2.trans (k6.mono hHeld.2.size)
        refine hK.out _ _ ?_ (fun hHeld => ?_)
        · exact ⟨hS, BK⟩
        clear hK K
        (try simp only [Act.put, List.getElem_toArray, List.getElem_cons_zero, List.getElem_cons_succ, List.setIfInBounds_toArray, List.set_cons_zero, List.set_cons_succ])
        refine wpAnyH_take (i := 6) (v := .agg (frC ⟨adF t.to, adF t.frm, none, [], 0, 1, 2048, 0, 0, 0, 0, 0, ⟨#[98, 111, 100, 121]⟩⟩)) rfl (by kernel_rfl) (by kernel_rfl) (by kernel_rfl) (fun _ _ _ h => h) (Or.inl ⟨by rfl, fun w hSw => exec_build_blkB (t := 36) (frC ⟨adF t.to, adF t.frm, none, [], 0, 1, 2048, 0, 0, 0, 0, 0, ⟨#[98, 111, 100, 121]⟩⟩) rfl (by kernel_rfl)⟩) (by assumption) ?_
        (try simp only [Act.put, List.getElem_toArray, List.getElem_cons_zero, List.getElem_cons_succ, List.setIfInBounds_toArray, List.set_cons_zero, List.set_cons_succ])
        refine wpAnyH_ready (rs := [7]) (by kernel_rfl) (by simp) ?_
        refine AllReadyH.cons rfl (fun K hK => ?_) AllReadyH.nil
        simp only [List.getElem_toArray, List.getElem_cons_zero, List.getElem_cons_succ]
        rw [if_pos (by rfl)]
        refine wp_alloc_opF 36 (frC zFr) rfl Try.frZeroB ?_
        rintro A w3 hA HA k3
        have hAlo : w1.heap.size ≤ A := by rw [hA]; exact hHeld.2.size
        have k3' := k3
        rw [hA] at k3'
        replace hA := Lib.hid hA
        have hS := hHeld.1.kept k3'
        have BK := hHeld.2.trans (k3'.mono hHeld.2.size)
        refine hK.out _ _ ?_ (fun hHeld => ?_)
        · exact ⟨hS, BK⟩
        clear hK K
        (try simp only [Act.put, List.getElem_toArray, List.getElem_cons_zero, List.getElem_cons_succ, List.setIfInBounds_toArray, List.set_cons_zero, List.set_cons_succ])
        refine wpAnyH_ready (rs := [8]) (by kernel_rfl) (by simp) ?_
        refine AllReadyH.cons rfl (fun K hK => ?_) AllReadyH.nil
        simp only [List.getElem_toArray, List.getElem_cons_zero, List.getElem_cons_succ]
        rw [if_pos (by rfl)]
        refine wp_store_op (k := 0) 36 (.agg (frC ⟨adF t.to, adF t.frm, none, [], 0, 1, 2048, 0, 0, 0, 0, 0, ⟨#[98, 111, 100, 121]⟩⟩)) (frC ⟨adF t.to, adF t.frm, none, [], 0, 1, 2048, 0, 0, 0, 0, 0, ⟨#[98, 111, 100, 121]⟩⟩) rfl rfl rfl HA (by kernel_rfl) (show (21 : Nat) ≤ 21 from Nat.le_refl 21) (by rfl) (st_whole' _ _ rfl) (fun w9 HA9 b9 g9 => ?_)
        have hS := hHeld.1.grown g9 (by intro e; cases e; omega)
        have BK := hHeld.2.trans (b9.mono hAlo)
        refine hK.out _ _ ?_ (fun hHeld => ?_)
        · exact ⟨hS, BK⟩
        clear hK K
        (try simp only [Act.put, List.getElem_toArray, List.getElem_cons_zero, List.getElem_cons_succ, List.setIfInBounds_toArray, List.set_cons_zero, List.set_cons_succ])
        refine wpAnyH_done (by kernel_rfl) ?_ _
        refine NoPanic.normal ?_
        exact ⟨rfl, _, _, _, _, _, _, _, _, rfl, HA9, hAlo, hHeld.1, hHeld.2⟩
      · skip
        simp only [List.getElem_toArray, List.getElem_cons_zero, List.getElem_cons_succ]
        rw [if_pos (by rfl)]
        refine wp_alloc_opF 36 (frC zFr) rfl Try.frZeroB ?_
        rintro A w3 hA HA k3
        have hAlo : w1.heap.size ≤ A := by rw [hA]; exact hHeld.2.size
        have k3' := k3
        rw [hA] at k3'
        replace hA := Lib.hid hA
        have hS := hHeld.1.kept k3'
        have BK := hHeld.2.trans (k3'.mono hHeld.2.size)
        refine hK.out _ _ ?_ (fun hHeld => ?_)
        · exact ⟨hS, BK⟩
        clear hK K
        (try simp only [Act.put, List.getElem_toArray, List.getElem_cons_zero, List.getElem_cons_succ, List.setIfInBounds_toArray, List.set_cons_zero, List.set_cons_succ])
        refine wpAnyH_ready (rs := [5]) (by kernel_rfl) (by simp) ?_
        refine AllReadyH.cons rfl (fun K hK => ?_) AllReadyH.nil
        simp only [List.getElem_toArray, List.getElem_cons_zero, List.getElem_cons_succ]
        go_simp
        refine (address_any t.frm _).mono ?_
        rintro e w6 ⟨rfl, k6⟩
        have hS := hHeld.1.kept k6
        have BK := hHeld.2.trans (k6.mono hHeld.2.size)
        have HA := HA.kept k6
        refine hK.out _ _ ?_ (fun hHeld => ?_)
        · exact ⟨hS, BK⟩
        clear hK K
        (try simp only [Act.put, List.getElem_toArray, List.getElem_cons_zero, List.getElem_cons_succ, List.setIfInBounds_toArray, List.set_cons_zero, List.set_cons_succ])
        refine wpAnyH_take (i := 6) (v := .agg (frC ⟨adF t.to, adF t.frm, none, [], 0, 1, 2048, 0, 0, 0, 0, 0, ⟨#[98, 111, 100, 121]⟩⟩)) rfl (by kernel_rfl) (by kernel_rfl) (by kernel_rfl) (fun _ _ _ h => h) (Or.inl ⟨by rfl, fun w hSw => exec_build_blkB (t := 36) (frC ⟨adF t.to, adF t.frm, none, [], 0, 1, 2048, 0, 0, 0, 0, 0, ⟨#[98, 111, 100, 121]⟩⟩) rfl (by kernel_rfl)⟩) (by assumption) ?_
        (try simp only [Act.put, List.getElem_toArray, List.getElem_cons_zero, List.getElem_cons_succ, List.setIfInBounds_toArray, List.set_cons_zero, List.set_cons_succ])
        refine wpAnyH_ready (rs := [8]) (by kernel_rfl) (by simp) ?_
        refine AllReadyH.cons rfl (fun K hK => ?_) AllReadyH.nil
        simp only [List.getElem_toArray, List.getElem_cons_zero, List.getElem_cons_succ]
        rw [if_pos (by rfl)]
        refine wp_store_op (k := 0) 36 (.agg (frC ⟨adF t.to, adF t.frm, none, [], 0, 1, 2048, 0, 0, 0, 0, 0, ⟨#[98, 111, 100, 121]⟩⟩)) (frC ⟨adF t.to, adF t.frm, none, [], 0, 1, 2048, 0, 0, 0, 0, 0, ⟨#[98, 111, 100, 121]⟩⟩) rfl rfl rfl HA (by kernel_rfl) (show (21 : Nat) ≤ 21 from Nat.le_refl 21) (by rfl) (st_whole' _ _ rfl) (fun w9 HA9 b9 g9 => ?_)
        have hS := hHeld.1.grown g9 (by intro e; cases e; omega)
        have BK := hHeld.2.trans (b9.mono hAlo)
        refine hK.out _ _ ?_ (fun hHeld => ?_)
        · exact ⟨hS, BK⟩
        clear hK K
        (try simp only [Act.put, List.getElem_toArray, List.getElem_cons_zero, List.getElem_cons_succ, List.setIfInBounds_toArray, List.set_cons_zero, List.set_cons_succ])
        refine wpAnyH_done (by kernel_rfl) ?_ _
        refine NoPanic.normal ?_
        exact ⟨rfl, _, _, _, _, _, _, _, _, rfl, HA9, hAlo, hHeld.1, hHeld.2⟩
    · skip
      simp only [List.getElem_toArray, List.getElem_cons_zero, List.getElem_cons_succ]
      rw [if_pos (by rfl)]
      refine wp_alloc_opF 36 (frC zFr) rfl Try.frZeroB ?_
      rintro A w3 hA HA k3
      have hAlo : w1.heap.size ≤ A := by rw [hA]; exact hHeld.2.size
      have k3' := k3
      rw [hA] at k3'
      replace hA := Lib.hid hA
      have hS := hHeld.1.kept k3'
      have BK := hHeld.2.trans (k3'.mono hHeld.2.size)
      refine hK.out _ _ ?_ (fun hHeld => ?_)
      · exact ⟨hS, BK⟩
      clear hK K
      (try simp only [Act.put, List.getElem_toArray, List.getElem_cons_zero, List.getElem_cons_succ, List.setIfInBounds_toArray, List.set_cons_zero, List.set_cons_succ])
      refine wpAnyH_ready (rs := [2]) (by kernel_rfl) (by simp) ?_
      refine AllReadyH.cons rfl (fun K hK => ?_) AllReadyH.nil
      simp only [List.getElem_toArray, List.getElem_cons_zero, List.getElem_cons_succ]
      go_simp
      refine (address_any t.to _).mono ?_
      rintro e w5 ⟨rfl, k5⟩
      have hS := hHeld.1.kept k5
      have BK := hHeld.2.trans (k5.mono hHeld.2.size)
      have HA := HA.kept k5
      refine hK.out _ _ ?_ (fun hHeld => ?_)
      · exact ⟨hS, BK⟩
      clear hK K
      (try simp only [Act.put, List.getElem_toArray, List.getElem_cons_zero, List.getElem_cons_succ, List.setIfInBounds_toArray, List.set_cons_zero, List.set_cons_succ])
      refine wpAnyH_ready (rs := [5]) (by kernel_rfl) (by simp) ?_
      refine AllReadyH.cons rfl (fun K hK => ?_) AllReadyH.nil
      simp only [List.getElem_toArray, List.getElem_cons_zero, List.getElem_cons_succ]
      go_simp
      refine (address_any t.frm _).mono ?_
      rintro e w6 ⟨rfl, k6⟩
      have hS := hHeld.1.kept k6
      have BK := hHeld.2.trans (k6.mono hHeld.2.size)
      have HA := HA.kept k6
      refine hK.out _ _ ?_ (fun hHeld => ?_)
      · exact ⟨hS, BK⟩
      clear hK K
      (try simp only [Act.put, List.getElem_toArray, List.getElem_cons_zero, List.getElem_cons_succ, List.setIfInBounds_toArray, List.set_cons_zero, List.set_cons_succ])
      refine wpAnyH_take (i := 6) (v := .agg (frC ⟨adF t.to, adF t.frm, none, [], 0, 1, 2048, 0, 0, 0, 0, 0, ⟨#[98, 111, 100, 121]⟩⟩)) rfl (by kernel_rfl) (by kernel_rfl) (by kernel_rfl) (fun _ _ _ h => h) (Or.inl ⟨by rfl, fun w hSw => exec_build_blkB (t := 36) (frC ⟨adF t.to, adF t.frm, none, [], 0, 1, 2048, 0, 0, 0, 0, 0, ⟨#[98, 111, 100, 121]⟩⟩) rfl (by kernel_rfl)⟩) (by assumption) ?_
      (try simp only [Act.put, List.getElem_toArray, List.getElem_cons_zero, List.getElem_cons_succ, List.setIfInBounds_toArray, List.set_cons_zero, List.set_cons_succ])
      refine wpAnyH_ready (rs := [8]) (by kernel_rfl) (by simp) ?_
      refine AllReadyH.cons rfl (fun K hK => ?_) AllReadyH.nil
      simp only [List.getElem_toArray, List.getElem_cons_zero, List.getElem_cons_succ]
      rw [if_pos (by rfl)]
      refine wp_store_op (k := 0) 36 (.agg (frC ⟨adF t.to, adF t.frm, none, [], 0, 1, 2048, 0, 0, 0, 0, 0, ⟨#[98, 111, 100, 121]⟩⟩)) (frC ⟨adF t.to, adF t.frm, none, [], 0, 1, 2048, 0, 0, 0, 0, 0, ⟨#[98, 111, 100, 121]⟩⟩) rfl rfl rfl HA (by kernel_rfl) (show (21 : Nat) ≤ 21 from Nat.le_refl 21) (by rfl) (st_whole' _ _ rfl) (fun w9 HA9 b9 g9 => ?_)
      have hS := hHeld.1.grown g9 (by intro e; cases e; omega)
      have BK := hHeld.2.trans (b9.mono hAlo)
      refine hK.out _ _ ?_ (fun hHeld => ?_)
      · exact ⟨hS, BK⟩
      clear hK K
      (try simp only [Act.put, List.getElem_toArray, List.getElem_cons_zero, List.getElem_cons_succ, List.setIfInBounds_toArray, List.set_cons_zero, List.set_cons_succ])
      refine wpAnyH_done (by kernel_rfl) ?_ _
      refine NoPanic.normal ?_
      exact ⟨rfl, _, _, _, _, _, _, _, _, rfl, HA9, hAlo, hHeld.1, hHeld.2⟩

end Go.Proofs.Ytdceggekhhflgaa
