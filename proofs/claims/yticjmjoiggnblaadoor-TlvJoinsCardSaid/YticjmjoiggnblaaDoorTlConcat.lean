/- slices.Concat of two lists of records. -/
import Derived.Test.YticjmjoiggnblaaDoorTlMany
namespace Go.Proofs.YticjmjoiggnblaaDoor
open Go.RowKit
attribute [local go_sem ↓] Go.wp_at_zero Go.wp_at_succ
set_option linter.unusedSimpArgs false
set_option linter.unusedVariables false
set_option maxRecDepth 100000

theorem grow_tl (n : Nat) (hn : n ≤ 1000) (w : World) : Calls Tryd.prog 58 #[.slice none 0 0, .int .i64 n] w fun e w' => ∃ v, e = .returned v ∧ RowTl w' w.heap.size v [] ∧ Below w.heap.size w w' := by
  obtain ⟨i0, hi, hz0, hz1, hz2⟩ := info_parts Tryd.tlParts
  by_cases h0 : n = 0
  · subst h0
    go_enter Tryd.func58, Tryd.ntmps58
    go_wp2
    go_ret
    exact ⟨_, rfl, ⟨⟨none, 0, rfl⟩, World.ownsRow_nil w _ _ 2⟩, Below.refl _ _⟩
  · obtain ⟨Gc, hG⟩ : ∃ Gc, Gc = grownCap w n 0 24 := ⟨_, rfl⟩
    obtain ⟨ROW, hROW⟩ : ∃ ROW : Array Value, ROW = Builtin.zeroCells (Value.agg (tlC zTl)).cells n ++ Builtin.zeroCells (Value.agg (tlC zTl)).cells (Gc - n) := ⟨_, rfl⟩
    have hrz : ∀ ty, (Builtin.append_ #[22, 3] ty #[.slice none 0 0, .int .i64 (n : Int)]).run Tryd.prog w = .ok (.slice (some ⟨w.heap.size, 0, none⟩) n Gc) (w.drew.alloc (.cells ROW 24)) := fun ty => by
      have h := Lib.run_append_nil_zeros w 22 3 ty 24 i0 _ .i64 .i64 Tryd.underlying22 Tryd.underlying3 hi hz0 n (by omega) (by rw [hz1]; decide) (by omega) (by rw [hz2]; omega)
      rw [hROW, hG]
      exact h
    have hGn : n ≤ Gc := by rw [hG]; exact grownCap_ge w _ _ _
    have hGm : Gc ≤ maxLen := by rw [hG]; exact grownCap_le_maxLen w n 0 24 (by unfold maxLen; omega)
    have hRl : ROW.size = Gc * 2 := by
      rw [hROW, Array.size_append, size_zeroCells, size_zeroCells]
      show n * 2 + (Gc - n) * 2 = Gc * 2
      omega
    have HN := Blk.new w.drew 24 ROW
    have BN : Below w.heap.size w (w.drew.alloc (.cells ROW 24)) := (Below.refl w.heap.size w).drew.alloc (Nat.le_refl _) _
    have d1 : decide ((n : Int) < 0) = false := decide_eq_false (by omega)
    have d2 : decide ((0 : Int) < (n : Int)) = true := decide_eq_true (by omega)
    have d3 : (0 : Int) ≤ (n : Int) := by omega
    have d4 : ¬ (n : Int) < 0 := by omega
    have d5 : (0 : Int) < (n : Int) := by omega
    have d6 : (0 : Int) ≤ (Gc : Int) := by omega
    have d7 : 0 < n := by omega
    have hOwn : Hid (RowTl (w.drew.alloc (.cells ROW 24)) w.heap.size (.slice (some ⟨w.heap.size, 0, none⟩) 0 Gc) []) := ⟨⟨_, _, rfl⟩, by simp [tlR], Or.inr ⟨w.heap.size, Gc, ROW, rfl, Nat.le_refl _, HN, Nat.zero_le _, hGm, hRl, by simp [tlR]⟩⟩
    clear hG hROW h0 HN hRl
    go_enter Tryd.func58, Tryd.ntmps58
    go_wp2_with (at_builtin; refine Lib.wpList_append_run _ rfl _ _ _ _ rfl _ _ rfl rfl _ _ (hrz _) ?_)
    go_ret
    exact ⟨_, rfl, hOwn.out, BN⟩

set_option maxHeartbeats 3200000 in
theorem concat_tl (g : Nat) (a1 : Option Addr) (c1 : Nat) (l1 : List Tl) (a2 : Option Addr) (c2 : Nat) (l2 : List Tl) (w : World) (HG : Blk w g 22 #[.slice a1 l1.length c1, .slice a2 l2.length c2]) (h1 : TlIn w a1 l1) (h2 : TlIn w a2 l2) (hl1 : l1.length ≤ 40) (hl2 : l2.length ≤ 40) :
    Calls Tryd.prog 20 #[.slice (some ⟨g, 0, none⟩) 2 2] w fun e w' => ∃ a c, e = .returned (.slice a (l1 ++ l2).length c) ∧ TlIn w' a (l1 ++ l2) ∧ Below w.heap.size w w' := by
  have hgl := HG.lt
  have e1 : IntKind.i64.wrap (l1.length : Int) = (l1.length : Int) := by rw [IntKind.wrap_i64] <;> omega
  have e2 : IntKind.i64.wrap ((l1.length : Int) + (l2.length : Int)) = ((l1.length + l2.length : Nat) : Int) := by rw [IntKind.wrap_i64] <;> omega
  have s1 : decide ((l1.length : Int) < 0) = false := decide_eq_false (by omega)
  have s2 : decide (((l1.length + l2.length : Nat) : Int) < 0) = false := decide_eq_false (by omega)
  have s3 : ¬ (l1.length : Int) < 0 := by omega
  have s4 : ¬ ((l1.length + l2.length : Nat) : Int) < 0 := by omega
  have HGR := Lib.hid (grow_tl (l1.length + l2.length) (by omega))
  have hall : (l1 ++ l2).length = l1.length + l2.length := List.length_append
  obtain ⟨NN, hNN⟩ : ∃ NN, NN = l1.length + l2.length := ⟨_, rfl⟩
  rw [← hNN] at e2 s2 s4 HGR hall
  have HNN := Lib.hid hNN
  clear hNN
  go_enter Tryd.func20, Tryd.ntmps20
  go_wp2_with fail
  go_loopw [3, 11] (fun z i wr => ∃ k : Nat, k ≤ 2 ∧ i = .int .i64 k ∧ z = .int .i64 (if k = 0 then 0 else if k = 1 then (l1.length : Int) else (NN : Int)) ∧ wr = w) (fun _ i _ => 2 - (intOf i).toNat)
  case atStart => exact ⟨0, by omega, rfl, rfl, rfl⟩
  case round =>
    obtain ⟨k, hk, rfl, rfl, hw⟩ := hrel
    replace hw := hw.symm
    subst hw
    have cases3 : k = 0 ∨ k = 1 ∨ k = 2 := by omega
    rcases cases3 with rfl | rfl | rfl
    · have c0 := HG.cv 0 (.slice a1 l1.length c1) rfl
      simp only [if_true]
      go_wp2
      go_roundw
      case rel => exact ⟨1, by omega, by go_num, rfl, by first | rfl | trivial⟩
      case measure => simp [intOf]
    · have c1' := HG.cv 1 (.slice a2 l2.length c2) rfl
      have d10 : (1 : Nat) ≠ 0 := by decide
      simp only [if_true, if_neg d10]
      go_wp2
      go_roundw
      case rel => exact ⟨2, by omega, by go_num, rfl, by first | rfl | trivial⟩
      case measure => simp [intOf]
    · have d20 : ¬ (2 : Nat) = 0 := by decide
      have d21 : ¬ (2 : Nat) = 1 := by decide
      simp only [if_neg d20, if_neg d21]
      go_wp2_with fail
      refine (HGR.out _).mono ?_
      rintro e w2 ⟨v0, rfl, O0, B0⟩
      go_wp2_with fail
      go_loopw [6, 27] (fun v i wr => ∃ k : Nat, k ≤ 2 ∧ i = .int .i64 k ∧ RowTl wr w.heap.size v (if k = 0 then [] else if k = 1 then l1 else l1 ++ l2) ∧ Below w.heap.size w wr) (fun _ i _ => 2 - (intOf i).toNat)
      case atStart => exact ⟨0, by omega, rfl, O0, B0⟩
      case round =>
        obtain ⟨k, hk, rfl, Ok, Bk⟩ := hrel
        have cases3 : k = 0 ∨ k = 1 ∨ k = 2 := by omega
        have HGk := HG.kept Bk
        have I1 := h1.below Bk
        have I2 := h2.below Bk
        have hsw := Bk.size
        rcases cases3 with rfl | rfl | rfl
        · have c0 := HGk.cv 0 (.slice a1 l1.length c1) rfl
          rw [if_pos rfl] at Ok
          go_wp2_with (refine manyL_tl rfl rfl rfl rfl Ok I1 (by simp; omega) hsw ?_; intro v3 w3 O3 _ b3 g3)
          rw [List.nil_append] at O3
          go_roundw
          case rel => exact ⟨1, by omega, by go_num, O3, Bk.trans b3⟩
          case measure => simp [intOf]
        · have c1' := HGk.cv 1 (.slice a2 l2.length c2) rfl
          rw [if_neg (by decide), if_pos rfl] at Ok
          go_wp2_with (refine manyL_tl rfl rfl rfl rfl Ok I2 (by omega) hsw ?_; intro v3 w3 O3 _ b3 g3)
          go_roundw
          case rel => exact ⟨2, by omega, by go_num, O3, Bk.trans b3⟩
          case measure => simp [intOf]
        · rw [if_neg (by decide), if_neg (by decide)] at Ok
          obtain ⟨a3, c3, rfl, I3⟩ := Ok.inL
          go_wp2
          go_ret
          exact ⟨_, _, rfl, I3, Bk⟩

end Go.Proofs.YticjmjoiggnblaaDoor
