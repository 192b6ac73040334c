/- bpdu.Flags, ofConfig; the closures of Of and FlagsOf. -/
import Derived.Test.YtdjljnpbnhampaaDoorBp
import Derived.Test.YtdjljnpbnhampaaDoorBpFits
namespace Go.Proofs.YtdjljnpbnhampaaDoor
open Go.RowKit
attribute [local go_sem ↓] Go.wp_at_zero Go.wp_at_succ
set_option linter.unusedSimpArgs false
set_option linter.unusedVariables false
set_option maxRecDepth 100000



theorem ofConfig_any (f : Fl) (w : World) :
    Calls Tryd.prog 76 #[.agg (flC f)] w fun e w' => e = .returned (.agg (flC (cfF f))) ∧ Below w.heap.size w w' := by
  obtain ⟨HA, HB, B0⟩ := two_blks w 23 23 (flC f) (flC zFl)
  have c0 := HA.cv 0 (.bool f.ch) rfl
  have c6 := HA.cv 6 (.bool f.ac) rfl
  go_enter Tryd.func76, Tryd.ntmps76
  go_upto_region 1 with (refine alloc_blk 23 (flC zFl) (by rfl) rfl Tryd.flZero ?_)
  generalize ((w.alloc (.cells (flC f) 23)).alloc (.cells (flC zFl) 23)) = w1 at *
  go_wp2_with (first
    | (refine build_blk (t := 23) (flC (cfF f)) (by rfl) rfl (by kernel_rfl) ?_)
    | (refine store_blk (k := 0) 23 (.agg (flC (cfF f))) (flC (cfF f)) (by rfl) rfl rfl rfl HB (by kernel_rfl) (show (7 : Nat) ≤ 7 from Nat.le_refl 7) (by rfl) (st_whole _ _ rfl) ?_; intro w7 R7 b7 g7))
  exact bodyPost_ret (results_blk rfl rfl R7 (by kernel_rfl) (by kernel_rfl)) rfl ⟨rfl, B0.trans (b7.mono (by simp))⟩

/-- A number in a cell of its own. -/
def One (w : World) (B : Nat) (n : Int) : Prop := Blk w B 3 #[.int .i64 n]

theorem and1 : ∀ y : Nat, y < 256 → bits .and .i64 (y : Int) 1 = ((y % 2 : Nat) : Int) := by decide +kernel

theorem and3 : ∀ y : Nat, y < 256 → bits .and .i64 (y : Int) 3 = ((y % 4 : Nat) : Int) := by decide +kernel

theorem cast_one (a : Nat) : (((a % 2 : Nat) : Int) == 1) = (a % 2 == 1) := by
  rcases Nat.mod_two_eq_zero_or_one a with h | h <;> rw [h] <;> rfl

/-- A bit, as the code takes it. -/
theorem bit_code (B : Nat) (n i : Nat) (hn : n < 256) (hi : i ≤ 7) (w : World) (h : One w B n) :
    Calls Tryd.prog 103 #[.int .i64 i, .pointer (some ⟨B, 0, none⟩)] w fun e w' => e = .returned (.bool (n / 2 ^ i % 2 == 1)) ∧ w = w' := by
  have c0 := h.cv 0 (.int .i64 n) rfl
  have HB : Hid ((bits BinOp.and IntKind.i64 ((n : Int) / 2 ^ i) 1 == 1) = (n / 2 ^ i % 2 == 1)) := by
    show _ = _
    have e : ((n : Int) / 2 ^ i) = ((n / 2 ^ i : Nat) : Int) := by simp
    rw [e, and1 _ (Nat.lt_of_le_of_lt (Nat.div_le_self _ _) hn), cast_one]
  go_enter Tryd.func103, Tryd.ntmps103
  go_wp2
  go_ret
  refine ⟨?_, rfl⟩
  show Ending.returned (.bool (bits BinOp.and IntKind.i64 ((n : Int) / 2 ^ i) 1 == 1)) = _
  rw [HB.out]

theorem bit_ref (B : Nat) (n m : Nat) (hn : n < 256) (hm : 1 ≤ m) (hm2 : m ≤ 128) (w : World) (h : One w B n) :
    Calls Tryd.prog 72 #[.int .i64 m, .pointer (some ⟨B, 0, none⟩)] w fun e w' => e = .returned (.bool (n / m % 2 == 1)) ∧ w = w' := by
  have c0 := h.cv 0 (.int .i64 n) rfl
  have HB : Hid (((wrap64 ((n : Int) / (m : Int))).tmod 2 == 1) = (n / m % 2 == 1)) := by
    show _ = _
    have e : ((n : Int) / (m : Int)) = ((n / m : Nat) : Int) := by simp
    have e2 : n / m < 256 := Nat.lt_of_le_of_lt (Nat.div_le_self _ _) hn
    rw [e]
    generalize n / m = x at *
    have e3 : wrap64 (x : Int) = (x : Int) := by unfold wrap64; omega
    rw [e3, ← cast_one, Int.tmod_eq_emod_of_nonneg (by omega)]
    rfl
  go_enter Tryd.func72, Tryd.ntmps72
  go_wp2
  go_ret
  refine ⟨?_, rfl⟩
  show Ending.returned (.bool ((wrap64 ((n : Int) / (m : Int))).tmod 2 == 1)) = _
  rw [HB.out]

end Go.Proofs.YtdjljnpbnhampaaDoor
