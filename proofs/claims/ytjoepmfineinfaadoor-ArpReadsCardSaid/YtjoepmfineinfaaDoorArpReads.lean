/- switchyardlaw.ArpReads: every text, read by the program and by the document: true, and what was there is as it was. -/
import Derived.Test.YtjoepmfineinfaaDoorRefArRead
import Derived.Test.YtjoepmfineinfaaDoorArRead
namespace Go.Proofs.YtjoepmfineinfaaDoor.arpReads
open Go.RowKit
attribute [local go_sem ↓] Go.wp_at_zero Go.wp_at_succ
set_option linter.unusedSimpArgs false
set_option linter.unusedVariables false
set_option maxRecDepth 100000

set_option maxHeartbeats 1600000 in
theorem walk_some (s : ByteArray) (w : World) (hE : HasErr w) (hs : s.size ≤ 300) (X : Ar) (x y : Int)
    (HV : Hid (∀ W, Calls Tryd.prog 8 #[.string s] W fun r w' => r = .returned (.tuple #[.agg (arC X), .agg (ftC x y)]) ∧ Below W.heap.size W w'))
    (HW : Hid (∀ W, Calls Tryd.prog 9 #[.string s] W (ReadsAs (arC X) x y W))) :
    Calls Tryd.prog 3 #[.string s] w fun e w' => e = .returned (.bool true) ∧ Below w.heap.size w w' := by
  have h3 : decide ((300 : Int) < (s.size : Int)) = false := decide_eq_false (by omega)
  go_enter Tryd.func3, Tryd.ntmps3
  go_wp2_with fail
  refine (HV.out _).mono ?_
  rintro e w2 ⟨rfl, b2⟩
  have HA3 := (Blk.new w2 26 (arC zAr)).alloc (.cells (ftC 0 0) 29)
  have HF3 := Blk.new (w2.alloc (.cells (arC zAr) 26)) 29 (ftC 0 0)
  have hsz : (w2.alloc (.cells (arC zAr) 26)).heap.size = w2.heap.size + 1 := by simp
  have B3 : Below w.heap.size w ((w2.alloc (.cells (arC zAr) 26)).alloc (.cells (ftC 0 0) 29)) := (b2.alloc b2.size _).alloc (by have := b2.size; simp; omega) _
  have hs2 := b2.size
  clear b2 HV
  go_upto_region 4 with (first | (refine alloc_blk 26 (arC zAr) (by rfl) rfl Tryd.arZero ?_) | (refine alloc_blk 29 (ftC 0 0) (by rfl) rfl Tryd.ftZero ?_) | ((refine store_blk (k := 0) 26 (.agg (arC X)) (arC X) (by rfl) rfl rfl rfl HA3 (by kernel_rfl) (by exact Nat.le_refl 21) rfl rfl (fun w4 HA4 b4 g4 => ?_)); have HF4 := HF3.grown g4 (by rw [hsz]; simp)) | (refine store_blk (k := 0) 29 (.agg (ftC x y)) (ftC x y) (by rfl) rfl rfl rfl HF4 (by kernel_rfl) (by exact Nat.le_refl 2) rfl rfl (fun w5 HF5 b5 g5 => ?_)))
  rw [hsz] at HF5 g5 b5
  clear hsz
  have HA5 := HA4.grown g5 (by simp)
  have B5 : Below w.heap.size w w5 := (B3.trans (b4.mono hs2)).trans (b5.mono (by omega))
  clear HA3 HF3 HA4 B3 b4 g4 b5 g5
  go_wp2_with fail
  refine (HW.out _).mono ?_
  rintro e w6 ⟨er, rfl, hp6, b6⟩
  have hlt := HF5.lt
  have HA6 := (HA5.kept b6).alloc (.cells (arC zAr) 26)
  have HF6 := (HF5.kept b6).alloc (.cells (arC zAr) 26)
  have B6a := B5.trans (b6.mono B5.size)
  have B6 := B6a.alloc B6a.size (.cells (arC zAr) 26)
  have hp7 := hp6.below ((Below.refl _ _).alloc (Nat.le_refl _) (.cells (arC zAr) 26))
  have HV6 := Blk.new w6 26 (arC zAr)
  have hs6 := B6a.size
  have hlt6 : w2.heap.size + 1 < w6.heap.size := Nat.lt_of_lt_of_le hlt b6.size
  clear HA5 HF5 B5 b6 HW hp6 B6a
  go_upto_region 5 with (first | (refine alloc_blk 26 (arC zAr) (by rfl) rfl Tryd.arZero ?_) | (refine store_blk (k := 0) 26 (.agg (arC X)) (arC X) (by rfl) rfl rfl rfl HV6 (by kernel_rfl) (by exact Nat.le_refl 21) rfl rfl (fun w7 HV7 b7 g7 => ?_)))
  have HA7 := HA6.grown g7 (by simp; omega)
  have HF7 := HF6.grown g7 (by simp; omega)
  have B7 : Below w.heap.size w w7 := B6.trans (b7.mono hs6)
  have hp8 : ErrAs w7 er x y := by
    rcases hp7 with h | ⟨he, q, hq, hf⟩
    · exact Or.inl h
    · refine Or.inr ⟨he, q, hq, hf.kept g7 ?_⟩
      intro e0
      have e0 : q = w6.heap.size := by simpa using e0
      subst e0
      have h1 : (w6.alloc (.cells (arC zAr) 26)).heap[w6.heap.size]? = some (.cells #[.int .i64 x, .int .i64 y] 110) := hf
      have h2 : (w6.alloc (.cells (arC zAr) 26)).heap[w6.heap.size]? = some (.cells (arC zAr) 26 (0, 0)) := HV6
      have h3 := h1.symm.trans h2
      injection h3 with h3
      injection h3 with h3 h4
      exact absurd h4 (by decide)
  have hE7 : HasErr w7 := hE.below B7
  clear HA6 HF6 HV6 B6 g7 b7 hp7
  go_wp2_with (refine load_blk (k := 0) 29 (ftC x y) (by rfl) rfl rfl HF7 (by kernel_rfl) (by kernel_rfl) rfl ?_)
  refine (placed_any er x y _ hE7 hp8).mono ?_
  rintro e w8 ⟨rfl, b8⟩
  have HA8 := HA7.kept b8
  have HV8 := HV7.kept b8
  have B8 := B7.trans (b8.mono B7.size)
  have q : ∀ W, (Op.equalIn 10000 26 (.agg (arC X)) (.agg (arC X))).run Tryd.prog W = .ok true W := fun W => by have h := run_eql_ar X X W; rw [eqAr_refl] at h; exact h
  clear HA7 HF7 HV7 B7 b8 hE7 hp8
  go_wp2_with (first | (refine load_blk (k := 0) 26 (arC X) (by rfl) rfl rfl HA8 (by kernel_rfl) (by kernel_rfl) rfl ?_) | (refine load_blk (k := 0) 26 (arC X) (by rfl) rfl rfl HV8 (by kernel_rfl) (by kernel_rfl) rfl ?_) | (refine eq_blk .eql 26 (arC X) (arC X) true (by rfl) rfl (by first | exact Or.inl rfl | exact Or.inr rfl) rfl rfl Tryd.arGuard (q _) ?_))
  go_ret
  exact ⟨rfl, B8⟩

theorem walk (s : ByteArray) (w : World) (hE : HasErr w) :
    Calls Tryd.prog 3 #[.string s] w fun e w' => e = .returned (.bool true) ∧ Below w.heap.size w w' := by
  by_cases hs : s.size ≤ 300
  · exact walk_some s w hE hs _ _ _ (fun W => refArRead_any s W hs) (fun W => arRead_any s W hs)
  · have h3 : decide ((300 : Int) < (s.size : Int)) = true := decide_eq_true (by omega)
    go_enter Tryd.func3, Tryd.ntmps3
    go_wp2
    go_ret
    exact ⟨rfl, Below.refl _ _⟩

end Go.Proofs.YtjoepmfineinfaaDoor.arpReads
