/- switchyardlaw.PrioTexts returns true at every name and every text, and changes nothing that was there. -/
import Derived.Test.YtceiiolpggolbaaDoorRefPrParse
import Derived.Test.YtceiiolpggolbaaDoorVeEq
import Derived.Test.YtceiiolpggolbaaDoorBare
namespace Go.Proofs.YtceiiolpggolbaaDoor.prioTexts
open Go.RowKit
attribute [local go_sem ↓] Go.wp_at_zero Go.wp_at_succ
set_option linter.unusedSimpArgs false
set_option linter.unusedVariables false
set_option maxRecDepth 100000

theorem texts_any (b : Br) (hb : byB b) : ∃ (x : ByteArray) (er : Value) (ea : Int),
    (∀ w, HasTab w → HasTz w → Calls Tryd.prog 27 #[.agg (brC b)] w fun e w' => e = .returned (.tuple #[.string x, .int .i64 ea]) ∧ Below w.heap.size w w') ∧
    (∀ w, HasTab w → Calls Tryd.prog 28 #[.agg (brC b)] w fun e w' => e = .returned (.tuple #[.string x, er]) ∧ Below w.heap.size w w') ∧ Bare er ea := by
  cases h : okB b with
  | false => exact ⟨⟨#[]⟩, _, 1, fun w _ _ => refPrText_no b h w, fun w _ => prText_no b h w, Bare.errno 1⟩
  | true => exact ⟨⟨(textB b).toArray⟩, .nilIface, 0, fun w hT hz => refPrText_yes b h hb w hT hz, fun w hT => prText_yes b h hb w hT, Bare.none⟩

theorem parses_any (s : ByteArray) (hs : s.size ≤ 100) : ∃ (u : Br) (er : Value) (ea : Int),
    (∀ w, HasTab w → HasTz w → Calls Tryd.prog 29 #[.string s] w fun e w' => e = .returned (.tuple #[.agg (brC u), .int .i64 ea]) ∧ Below w.heap.size w w') ∧
    (∀ w, HasLib w → Calls Tryd.prog 30 #[.string s] w fun e w' => e = .returned (.tuple #[.agg (brC u), er]) ∧ Below w.heap.size w w') ∧ Bare er ea := by
  have one : ∀ {a b : Br}, okB a = true → okB b = true → byB a → byB b → textB a = textB b → brC a = brC b := fun ha hb xa xb h => by
    obtain ⟨h1, h2, h3⟩ := textB_inj ha hb xa xb h
    refine brC_nums ?_
    unfold numsB
    rw [h1, h2, sixI_map, sixI_map, h3]
  by_cases h : ∃ b : Br, okB b = true ∧ byB b ∧ textB b = s.data.toList
  · obtain ⟨b, hok, hby, ht⟩ := h
    refine ⟨b, .nilIface, 0, fun w hT hz => ?_, fun w hL => ?_, Bare.none⟩
    · refine (refPrParse_any s w hT hz hs).mono fun e w' k => ⟨?_, k.2⟩
      rcases k.1 with ⟨a, ha, xa, hl, he⟩ | ⟨hno, _⟩
      · rw [he, one ha hok xa hby (hl.trans ht.symm)]
      · exact absurd ht (hno b hok hby)
    · refine (prParse_any s w hL (by omega)).mono fun e w' k => ⟨?_, k.2⟩
      rcases k.1 with ⟨a, ha, xa, hl, he⟩ | ⟨hno, _⟩
      · rw [he, one ha hok xa hby (hl.trans ht.symm)]
      · exact absurd ht (hno b hok hby)
  · refine ⟨zBr, _, 3, fun w hT hz => ?_, fun w hL => ?_, Bare.errno 3⟩
    · refine (refPrParse_any s w hT hz hs).mono fun e w' k => ⟨?_, k.2⟩
      rcases k.1 with ⟨a, ha, xa, hl, he⟩ | ⟨_, he⟩
      · exact absurd ⟨a, ha, xa, hl⟩ h
      · exact he
    · refine (prParse_any s w hL (by omega)).mono fun e w' k => ⟨?_, k.2⟩
      rcases k.1 with ⟨a, ha, xa, hl, he⟩ | ⟨_, he⟩
      · exact absurd ⟨a, ha, xa, hl⟩ h
      · exact he

set_option maxHeartbeats 3200000 in
theorem walk (b : Br) (hb : byB b) (s : ByteArray) (w : World) (hL : HasLib w) (hz : HasTz w) (hE : HasErr w) :
    Calls Tryd.prog 5 #[.agg (brC b), .string s] w fun e w' => e = .returned (.bool true) ∧ Below w.heap.size w w' := by
  have A0 := Blk.new w 25 (brC b)
  have B0 : Below w.heap.size w (w.alloc (.cells (brC b) 25)) := (Below.refl _ _).alloc (Nat.le_refl _) _
  by_cases hs : s.size ≤ 100
  · have hgt : decide ((100 : Int) < (s.size : Int)) = false := decide_eq_false (by omega)
    obtain ⟨x, er, ea, p1, p2, p3⟩ := texts_any b hb
    obtain ⟨u, fr, fa, q1, q2, q3⟩ := parses_any s hs
    have P1 := Lib.hid p1
    have P2 := Lib.hid p2
    have P3 : Hid (∀ w, HasErr w → Calls Tryd.prog 15 #[er, .int .i64 ea] w fun e w' => e = .returned (.bool true) ∧ Below w.heap.size w w') := Lib.hid p3
    have Q1 := Lib.hid q1
    have Q2 := Lib.hid q2
    have Q3 : Hid (∀ w, HasErr w → Calls Tryd.prog 15 #[fr, .int .i64 fa] w fun e w' => e = .returned (.bool true) ∧ Below w.heap.size w w') := Lib.hid q3
    clear p1 p2 p3 q1 q2 q3
    have heq : ∀ W, (Op.equalIn 10000 25 (.agg (brC u)) (.agg (brC u))).run Tryd.prog W = .ok true W := fun W => by
      have h := run_eql_br 9997 u u W
      rw [eqB_refl] at h
      exact h
    go_enter Tryd.func5, Tryd.ntmps5
    go_upto_region 1 with (fail)
    generalize w.alloc (.cells (brC b) 25) = w1 at *
    go_wp2_with (refine load_blk (k := 0) 25 (brC b) (by rfl) rfl rfl A0 (by kernel_rfl) (by kernel_rfl) rfl ?_)
    refine (P1.out _ (hL.below B0).tab (hz.below B0)).mono ?_
    rintro e w2 ⟨rfl, k2⟩
    have A2 := A0.kept k2
    have B2 := B0.trans (k2.mono B0.size)
    clear A0 B0 k2
    go_wp2_with (refine load_blk (k := 0) 25 (brC b) (by rfl) rfl rfl A2 (by kernel_rfl) (by kernel_rfl) rfl ?_)
    refine (P2.out _ (hL.below B2).tab).mono ?_
    rintro e w3 ⟨rfl, k3⟩
    have B3 := B2.trans (k3.mono B2.size)
    clear A2 B2 k3
    go_wp2_with fail
    refine (Q1.out _ (hL.below B3).tab (hz.below B3)).mono ?_
    rintro e w4 ⟨rfl, k4⟩
    have B4 := B3.trans (k4.mono B3.size)
    clear B3 k4
    go_wp2_with (first
      | (refine alloc_blk 25 (brC zBr) (by rfl) rfl Tryd.brZero ?_)
      | (refine store_blk (k := 0) 25 (.agg (brC u)) (brC u) (by rfl) rfl rfl rfl (Blk.new w4 _ _) (by kernel_rfl) (show (8 : Nat) ≤ 8 from Nat.le_refl 8) (by rfl) (st_whole _ _ rfl) ?_; intro w5 U5 b5 g5; have B5 := (B4.alloc B4.size (.cells (brC zBr) 25)).trans (b5.mono B4.size)))
    clear b5 g5
    refine (Q2.out _ (hL.below B5)).mono ?_
    rintro e w6 ⟨rfl, k6⟩
    have B6 := B5.trans (k6.mono B5.size)
    have U6 := U5.kept k6
    have lt6 := U6.lt
    clear B5 k6 U5
    go_wp2_with (first
      | (refine alloc_blk 25 (brC zBr) (by rfl) rfl Tryd.brZero ?_)
      | (refine store_blk (k := 0) 25 (.agg (brC u)) (brC u) (by rfl) rfl rfl rfl (Blk.new w6 _ _) (by kernel_rfl) (show (8 : Nat) ≤ 8 from Nat.le_refl 8) (by rfl) (st_whole _ _ rfl) ?_; intro w7 V7 b7 g7; have B7 := (B6.alloc B6.size (.cells (brC zBr) 25)).trans (b7.mono B6.size); have U7 := (U6.alloc (.cells (brC zBr) 25)).below b7 lt6))
    clear b7 g7 U6 B6
    refine (P3.out _ (hE.below B7)).mono ?_
    rintro e w8 ⟨rfl, k8⟩
    have B8 := B7.trans (k8.mono B7.size)
    have U8 := U7.kept k8
    have V8 := V7.kept k8
    clear B7 U7 V7 k8
    go_wp2_with fail
    refine (Q3.out _ (hE.below B8)).mono ?_
    rintro e w9 ⟨rfl, k9⟩
    have B9 := B8.trans (k9.mono B8.size)
    have U9 := U8.kept k9
    have V9 := V8.kept k9
    clear B8 U8 V8 k9
    go_wp2_with (first
      | (refine load_blk (k := 0) 25 (brC u) (by rfl) rfl rfl U9 (by kernel_rfl) (by kernel_rfl) rfl ?_)
      | (refine load_blk (k := 0) 25 (brC u) (by rfl) rfl rfl V9 (by kernel_rfl) (by kernel_rfl) rfl ?_)
      | (refine eq_blk .eql 25 (brC u) (brC u) true (by rfl) rfl (Or.inl rfl) rfl rfl (by kernel_rfl) (heq _) ?_))
    go_ret
    exact ⟨rfl, B9⟩
  · have hgt : decide ((100 : Int) < (s.size : Int)) = true := decide_eq_true (by omega)
    go_enter Tryd.func5, Tryd.ntmps5
    go_wp2
    go_ret
    exact ⟨rfl, B0⟩

end Go.Proofs.YtceiiolpggolbaaDoor.prioTexts
