/- The reference's numbers of a name, and the first that differs. -/
import Derived.Test.YtceiiolpggolbaaBetter
import Derived.Deep.AppendLies
namespace Go.Proofs.Ytceiiolpggolbaa
open Go.RowKit
attribute [local go_sem ↓] Go.wp_at_zero Go.wp_at_succ
set_option linter.unusedSimpArgs false
set_option linter.unusedVariables false
set_option maxRecDepth 100000

theorem Try.intParts : (Try.prog.info? 3).map (fun i => (i.zero, i.size, i.bytes)) = some (some (.int .i64 0), 1, 8) := by kernel_rfl

def ivL (l : List Int) : List Value := l.map fun v => .int .i64 v
theorem ivL_append (l m : List Int) : ivL (l ++ m) = ivL l ++ ivL m := by simp [ivL]
theorem ivL_len (l : List Int) : (ivL l).length = l.length := by simp [ivL]

theorem owns_two (w : World) (base : Nat) (T : TypeId) (x y : Value) (hb : base ≤ w.heap.size) : (w.alloc (.cells #[x, y] T)).ownsRow base T 1 (.slice (some ⟨w.heap.size, 0, none⟩) 2 2) 2 [x, y] :=
  ⟨rfl, Or.inr ⟨w.heap.size, 2, #[x, y], rfl, hb, heap_alloc_new w _, Nat.le_refl _, by unfold maxLen; omega, rfl, rfl⟩⟩

theorem owns_mono {w : World} {base base' sz n : Nat} {T : TypeId} {v : Value} {xs : List Value} (h : w.ownsRow base T sz v n xs) (hb : base' ≤ base) : w.ownsRow base' T sz v n xs := by
  obtain ⟨h0, h1⟩ := h
  refine ⟨h0, ?_⟩
  rcases h1 with h1 | ⟨g, c, cs, e, hg, r⟩
  · exact Or.inl h1
  · exact Or.inr ⟨g, c, cs, e, Nat.le_trans hb hg, r⟩

theorem six_ix (x : Nat → Nat) (k : Nat) (hk : k < 6) (W : World) : (Instr.index 23 (.agg (c6 x)) (.int .i64 (k : Int))).run Try.prog W = .ok (.int .u8 (x k)) W := six_at x k hk W

theorem numsB_take (b : Br) (k : Nat) (hk : k < 6) : (numsB b).take (2 + (k + 1)) = (numsB b).take (2 + k) ++ [(b.a k : Int)] := by
  have h : k = 0 ∨ k = 1 ∨ k = 2 ∨ k = 3 ∨ k = 4 ∨ k = 5 := by omega
  rcases h with rfl | rfl | rfl | rfl | rfl | rfl <;> rfl

theorem numsB_len_take (b : Br) (k : Nat) (hk : k ≤ 6) : ((numsB b).take (2 + k)).length = 2 + k := by
  rw [List.length_take, numsB_len]; omega

set_option maxHeartbeats 1600000 in
theorem numbers_any (base : Nat) (b : Br) (hb : ∀ i, b.a i < 256) (w : World) (hbs : base ≤ w.heap.size) :
    Calls Try.prog 13 #[.agg (brC b)] w fun e w' => ∃ g cap, e = .returned (.slice (some ⟨g, 0, none⟩) 8 cap) ∧ w'.ownsRow base 3 1 (.slice (some ⟨g, 0, none⟩) 8 cap) 8 (ivL (numsB b)) ∧ g < w'.heap.size ∧ Below w.heap.size w w' := by
  obtain ⟨i0, hi, hz0, hz1, hz2⟩ := info_parts Try.intParts
  have HA := Blk.new w 25 (brC b)
  have B1 : Below w.heap.size w (w.alloc (.cells (brC b) 25)) := (Below.refl _ _).alloc (Nat.le_refl _) _
  go_enter Try.func13, Try.ntmps13
  go_upto_region 1 with (fail)
  generalize (w.alloc (.cells (brC b) 25)) = w1 at *
  obtain ⟨q0, q1, q2, q3, q4, q5, q6, q7⟩ := br_cells HA
  have HA2 := HA.alloc (.cells #[.int .i64 b.p, .int .i64 b.e] 3)
  have B2 := B1.alloc B1.size (.cells #[.int .i64 b.p, .int .i64 b.e] 3)
  have hown2 := owns_two w1 w.heap.size 3 (.int .i64 b.p) (.int .i64 b.e) B1.size
  have hlt1 : w1.heap.size < (w1.alloc (.cells #[.int .i64 b.p, .int .i64 b.e] 3)).heap.size := by simp
  go_upto_region 2 with (fail)
  generalize (w1.alloc (.cells #[.int .i64 b.p, .int .i64 b.e] 3)) = w2 at *
  clear q0 q1 q2 q3 q4 q5 q6 q7 HA B1
  go_wp2_with (refine load_blk (k := 2) 23 (c6 b.a) (by rfl) rfl rfl HA2 (by kernel_rfl) (by kernel_rfl) rfl ?_)
  go_loopw [3, 13] (fun v i wr => ∃ k : Nat, ∃ g cap, k ≤ 6 ∧ i = .int .i64 k ∧ v = .slice (some ⟨g, 0, none⟩) (2 + k) cap ∧ wr.ownsRow w.heap.size 3 1 (.slice (some ⟨g, 0, none⟩) (2 + k) cap) (2 + k) (ivL ((numsB b).take (2 + k))) ∧ g < wr.heap.size ∧ Below w.heap.size w wr) (fun _ i _ => 6 - (intOf i).toNat)
  case atStart => exact ⟨0, _, 2, by omega, rfl, rfl, hown2, hlt1, B2⟩
  case round =>
    obtain ⟨k, g, cap, hk, rfl, rfl, hown, hg, hb1⟩ := hrel
    by_cases hlt : k < 6
    · have hix := fun W => six_ix b.a k hlt W
      have HT := Lib.hid (numsB_take b k hlt)
      have hL := numsB_len_take b k hk
      have hak := hb k
      have hs1 := hb1.size
      generalize b.a k = y at *
      go_wp2_with (at_builtin; refine wpList_append_lies _ rfl _ _ _ rfl w.heap.size 3 i0 (.int .i64 0) 1 8 Try.underlying38 hi hz0 hz1 hz2 rfl (by omega) _ _ _ rfl (hown.alloc _) ⟨wr.heap.size, 0, none⟩ 1 1 [.int .i64 (y : Int)] rfl rfl (World.news_of_block (cs := #[.int .i64 (y : Int)]) (t := 3) (fr := (0, 0)) (heap_alloc_new wr _)) (by simp [Value.oneCell']) (by omega) (by unfold maxLen; omega) (by omega) (by simp; omega) (wr.heap.size + 1) (by simp) ?_; intro g' cap' w5 hown5 hgrow5 hat5 hlt5)
      go_roundw
      case rel => exact ⟨k + 1, g', cap', by omega, by go_num, rfl, by rw [HT.out, ivL_append]; exact hown5, hlt5, (hb1.alloc hs1 _).grown hgrow5 (by simp; omega) (fun g hg => (hown.lt g hg).1)⟩
      case measure => simp [intOf]; omega
    · obtain rfl : k = 6 := by omega
      go_wp2
      go_ret
      exact ⟨g, cap, rfl, owns_mono hown hbs, hg, hb1⟩

end Go.Proofs.Ytceiiolpggolbaa
