/- switchyardkeep.named: a fact: a name as bytes and as text. -/
import Derived.Test.YtceiiolpggolbaaDoorPrParse
import Derived.Test.YtceiiolpggolbaaDoorPrPack
import Derived.Test.YtceiiolpggolbaaDoorVeEq
import Derived.Test.YtceiiolpggolbaaDoorBetter
namespace Go.Proofs.YtceiiolpggolbaaDoor
open Go.RowKit
attribute [local go_sem ↓] Go.wp_at_zero Go.wp_at_succ
set_option linter.unusedSimpArgs false
set_option linter.unusedVariables false
set_option maxRecDepth 100000

theorem brC_text {a b : Br} (ha : okB a = true) (hb : okB b = true) (xa : byB a) (xb : byB b) (h : textB a = textB b) : brC a = brC b := by
  obtain ⟨h1, h2, h3⟩ := textB_inj ha hb xa xb h
  refine brC_nums ?_
  unfold numsB
  rw [h1, h2, sixI_map, sixI_map, h3]

/-- A name's text is read. -/
theorem prParse_text (b : Br) (hok : okB b = true) (hby : byB b) (w : World) (hL : HasLib w) :
    Calls Tryd.prog 30 #[.string ⟨(textB b).toArray⟩] w fun e w' => e = .returned (.tuple #[.agg (brC b), .nilIface]) ∧ Below w.heap.size w w' := by
  have hl := textB_len b hok
  have hs : (⟨(textB b).toArray⟩ : ByteArray).size = (textB b).length := by simp [ByteArray.size]
  refine (prParse_any ⟨(textB b).toArray⟩ w hL (by omega)).mono fun e w' k => ⟨?_, k.2⟩
  rcases k.1 with ⟨a, ha, xa, hl, he⟩ | ⟨hno, _⟩
  · rw [he, brC_text ha hok xa hby (by simpa using hl)]
  · exact absurd (by simp) (hno b hok hby)

def nmA : Nat → Nat := fun i => if i = 1 then 1 else 0
def nmB : Br := ⟨32768, 5, nmA⟩
theorem nm_ok : okB nmB = true := by decide
theorem nm_by : byB nmB := fun i => by show nmA i < 256; unfold nmA; split <;> decide
theorem nm_pack : packL nmB = [128, 5, 0, 1, 0, 0, 0, 0] := by decide +kernel
theorem nm_text : textB nmB = [51, 50, 55, 54, 56, 46, 53, 47, 48, 48, 58, 48, 49, 58, 48, 48, 58, 48, 48, 58, 48, 48, 58, 48, 48] := by
  have h1 : Lib.itoa 32768 = [51, 50, 55, 54, 56] := by
    rw [show (32768 : Int) = ((32768 : Nat) : Int) from rfl, itoa_nat]
    repeat (first | rw [Lib.decDigits, dif_neg (by decide)] | rw [Lib.decDigits, dif_pos (by decide)])
    decide
  have h2 : Lib.itoa 5 = [53] := by
    rw [show (5 : Int) = ((5 : Nat) : Int) from rfl, itoa_nat, Lib.decDigits, dif_pos (by decide)]
    decide
  unfold textB
  show Lib.itoa 32768 ++ 46 :: (Lib.itoa 5 ++ 47 :: addrL nmA) = _
  rw [h1, h2]
  decide +kernel
theorem nm_less : lessB zBr nmB = true := by decide +kernel

set_option maxHeartbeats 3200000 in
theorem named_any (w : World) (hL : HasLib w) : Calls Tryd.prog 31 #[] w fun e w' => e = .returned (.bool true) ∧ Below w.heap.size w w' := by
  have P1 := Lib.hid (fun W => pack_yes nmB nm_ok nm_by W)
  have P2 := Lib.hid (fun W (h : HasLib W) => prText_yes nmB nm_ok nm_by W h.tab)
  have P3 := Lib.hid (fun W (h : HasLib W) => prParse_text nmB nm_ok nm_by W h)
  have P4 := Lib.hid (fun W => prioLess_any zBr nmB (fun i => by show 0 < 256; decide) nm_by W)
  rw [nm_pack] at P1
  rw [nm_text] at P2 P3
  rw [nm_less] at P4
  have heq : ∀ W, (Op.equalIn 10000 25 (.agg (brC nmB)) (.agg (brC nmB))).run Tryd.prog W = .ok true W := fun W => by
    have h := run_eql_br 9997 nmB nmB W
    rw [eqB_refl] at h
    exact h
  have B0 := Below.refl w.heap.size w
  go_enter Tryd.func31, Tryd.ntmps31
  go_wp2_with (first
    | (refine build_blk (t := 23) (c6 nmA) (by rfl) rfl (by kernel_rfl) ?_)
    | (refine build_blk (t := 25) (brC nmB) (by rfl) rfl (by kernel_rfl) ?_)
    | (refine alloc_blk 25 (brC zBr) (by rfl) rfl Tryd.brZero ?_)
    | (refine store_blk (k := 0) 25 (.agg (brC nmB)) (brC nmB) (by rfl) rfl rfl rfl (Blk.new w _ _) (by kernel_rfl) (show (8 : Nat) ≤ 8 from Nat.le_refl 8) (by rfl) (st_whole _ _ rfl) ?_; intro w1 A1 b1 g1; have B1 := (B0.alloc (Nat.le_refl _) (.cells (brC zBr) 25)).trans b1)
    | (refine load_blk (k := 0) 25 (brC nmB) (by rfl) rfl rfl A1 (by kernel_rfl) (by kernel_rfl) rfl ?_))
  refine (P1.out _).mono ?_
  rintro e w2 ⟨rfl, k2⟩
  have A2 := A1.kept k2
  have B2 := B1.trans (k2.mono B1.size)
  clear A1 B1 k2 b1 g1
  go_wp2_with (refine load_blk (k := 0) 25 (brC nmB) (by rfl) rfl rfl A2 (by kernel_rfl) (by kernel_rfl) rfl ?_)
  refine (P2.out _ (hL.below B2)).mono ?_
  rintro e w3 ⟨rfl, k3⟩
  have A3 := A2.kept k3
  have B3 := B2.trans (k3.mono B2.size)
  clear A2 B2 k3
  go_wp2_with fail
  refine (P3.out _ (hL.below B3)).mono ?_
  rintro e w4 ⟨rfl, k4⟩
  have A4 := A3.kept k4
  have B4 := B3.trans (k4.mono B3.size)
  have lt4 := A4.lt
  clear A3 B3 k4
  go_wp2_with (first
    | (refine alloc_blk 25 (brC zBr) (by rfl) rfl Tryd.brZero ?_)
    | (refine store_blk (k := 0) 25 (.agg (brC nmB)) (brC nmB) (by rfl) rfl rfl rfl (Blk.new w4 _ _) (by kernel_rfl) (show (8 : Nat) ≤ 8 from Nat.le_refl 8) (by rfl) (st_whole _ _ rfl) ?_; intro w5 C5 b5 g5; have A5 := (A4.alloc (.cells (brC zBr) 25)).below b5 lt4; have B5 := (B4.alloc B4.size (.cells (brC zBr) 25)).trans (b5.mono B4.size))
    | (refine load_blk (k := 0) 25 (brC nmB) (by rfl) rfl rfl C5 (by kernel_rfl) (by kernel_rfl) rfl ?_)
    | (refine load_blk (k := 0) 25 (brC nmB) (by rfl) rfl rfl A5 (by kernel_rfl) (by kernel_rfl) rfl ?_)
    | (refine eq_blk .eql 25 (brC nmB) (brC nmB) true (by rfl) rfl (Or.inl rfl) rfl rfl (by kernel_rfl) (heq _) ?_)
    | (refine build_blk (t := 25) (brC zBr) (by rfl) rfl (by kernel_rfl) ?_))
  refine (P4.out _).mono ?_
  rintro e w6 ⟨rfl, k6⟩
  go_wp2
  go_ret
  exact ⟨rfl, B5.trans (k6.mono B5.size)⟩

end Go.Proofs.YtceiiolpggolbaaDoor
