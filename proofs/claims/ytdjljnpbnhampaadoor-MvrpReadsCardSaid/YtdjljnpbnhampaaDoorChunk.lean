/- slices.Chunk of ints, three at a time. -/
import Derived.Test.YtdjljnpbnhampaaDoorRF
import Derived.Test.YtdjljnpbnhampaaDoorIvS
import Derived.Deep.RegionHeld3
import Derived.TacticsInMore
import Derived.LoopIn
import Derived.OwnWalkIn
namespace Go.Proofs.YtdjljnpbnhampaaDoor
open Go.RowKit
attribute [local go_sem ↓] Go.wp_at_zero Go.wp_at_succ
set_option linter.unusedSimpArgs false
set_option linter.unusedVariables false
set_option maxRecDepth 100000

theorem chunk_any (a : Option Addr) (n c : Nat) (w : World) :
    Calls Tryd.prog 113 #[.slice a n c, .int .i64 3] w fun e w' => e = .returned (.func (.func 124) #[] #[.pointer (some ⟨w.heap.size, 0, none⟩), .pointer (some ⟨w.heap.size + 1, 0, none⟩)]) ∧
      Blk w' w.heap.size 90 #[.slice a n c] ∧ Blk w' (w.heap.size + 1) 3 #[.int .i64 3] ∧ Below w.heap.size w w' ∧ w'.heap.size = w.heap.size + 2 := by
  have hmf : ∀ (fn : Fn) (first cap : Array Value) (w : World), (Instr.makeFunc fn first cap).run Tryd.prog w = .ok (.func fn first cap) w := fun _ _ _ _ => rfl
  have h1 := (Blk.new w 90 #[.slice a n c]).alloc (.cells #[.int .i64 3] 3)
  have h2 := Blk.new (w.alloc (.cells #[.slice a n c] 90)) 3 #[.int .i64 3]
  rw [World.size_alloc] at h2
  have b : Below w.heap.size w ((w.alloc (.cells #[.slice a n c] 90)).alloc (.cells #[.int .i64 3] 3)) := ((Below.refl _ _).alloc (Nat.le_refl _) _).alloc (by simp) _
  go_enter Tryd.func113, Tryd.ntmps113
  go_wp2
  go_ret
  exact ⟨rfl, h1, h2, b, by simp⟩

set_option maxHeartbeats 3200000 in
/-- The iterator, whatever the loop's body does that leaves both boxes as they are. -/
theorem chunk_it (l b1 b2 b o n c : Nat) (hn : n ≤ 100000) (J : Nat → World → Prop)
    (hb1 : ∀ k W, J k W → Blk W b1 90 #[.slice (some ⟨b, o, none⟩) n c]) (hb2 : ∀ k W, J k W → Blk W b2 3 #[.int .i64 3]) (hd : ∀ k W, J k W → J k W.drew) (hc : n ≤ c)
    (hY : ∀ k W, J k W → 3 * k < n → YieldAt Fence.wide 0 Tryd.prog l #[.slice (some ⟨b, o + 3 * k, none⟩) (min 3 (n - 3 * k)) (min 3 (n - 3 * k))] W fun e W' => e = .returned (.bool true) ∧ J (k + 1) W')
    (w : World) (h0 : J 0 w) :
    Calls Tryd.prog 124 #[.func (.yield l) #[] #[], .pointer (some ⟨b1, 0, none⟩), .pointer (some ⟨b2, 0, none⟩)] w fun e w' => (∃ v, e = .returned v) ∧ J ((n + 2) / 3) w' := by
  go_enter Tryd.func124, Tryd.ntmps124
  go_wp2_with fail
  go_loopw [4] (fun i wr => ∃ k : Nat, 3 * k < n + 3 ∧ i = .int .i64 (3 * k : Nat) ∧ J k wr) (fun i _ => n + 3 - (intOf i).toNat)
  case atStart => exact ⟨0, by omega, rfl, h0⟩
  case round =>
    obtain ⟨k, hk, rfl, HJ⟩ := hrel
    have H1 := hb1 k _ HJ
    have H2 := hb2 k _ HJ
    have c1 := H1.cv 0 (.slice (some ⟨b, o, none⟩) n c) rfl
    have c2 := H2.cv 0 (.int .i64 3) rfl
    obtain ⟨K, hK⟩ : ∃ K : Nat, 3 * k = K := ⟨_, rfl⟩
    by_cases hlt : K < n
    · have q1 : (K : Int) < (n : Int) := by omega
      have q2 : decide ((K : Int) < (n : Int)) = true := decide_eq_true q1
      obtain ⟨m, hm⟩ : ∃ m : Nat, min 3 (n - K) = m := ⟨_, rfl⟩
      have q3 : IntKind.i64.wrap ((K : Int) + (m : Int)) = ((K + m : Nat) : Int) := by rw [IntKind.wrap_i64] <;> omega
      have q4 : IntKind.i64.wrap ((K : Int) + 3) = ((3 * (k + 1) : Nat) : Int) := by rw [IntKind.wrap_i64] <;> omega
      have HY := hY k _ (hd k _ HJ) (by omega)
      rw [hK, hm] at HY
      rw [hK]
      have q5 : (n : Int) - (K : Int) = ((n - K : Nat) : Int) := by omega
      have hm0 : 0 < m := by omega
      have hle : K ≤ n := by omega
      have hmi : (if ((n - K : Nat) : Int) < 3 then ((n - K : Nat) : Int) else 3) = (m : Int) := by split <;> omega
      have hne : ¬ c = K := by omega
      have hmn : K + m ≤ n := by omega
      clear hY h0 hk
      go_wp2_with fail
      go_upto_region 3 with (fail)
      refine wp_region_noPanic ?_
      refine wp_region_held_drew (S := (fun w' => Blk w' b1 90 #[.slice (some ⟨b, o, none⟩) n c] ∧ Blk w' b2 3 #[.int .i64 3])) (by kernel_rfl) ?_ (fun hHeld => ?_)
      · exact ⟨H1, H2⟩
      refine wpAnyH_take (i := 0) (v := .int .i64 3) rfl (by kernel_rfl) (by kernel_rfl) (by kernel_rfl) (fun _ _ _ h => h) (Or.inl ⟨by rfl, fun w hSw => by have c := hSw.2.cv 0 (.int .i64 3) rfl; go_simp⟩) (by assumption) ?_
      (try simp only [Act.put, List.getElem_toArray, List.getElem_cons_zero, List.getElem_cons_succ, List.setIfInBounds_toArray, List.set_cons_zero, List.set_cons_succ])
      refine wpAnyH_take (i := 1) (v := .slice (some ⟨b, o, none⟩) n c) rfl (by kernel_rfl) (by kernel_rfl) (by kernel_rfl) (fun _ _ _ h => h) (Or.inl ⟨by rfl, fun w hSw => by have c := hSw.1.cv 0 (.slice (some ⟨b, o, none⟩) n c) rfl; go_simp⟩) (by assumption) ?_
      (try simp only [Act.put, List.getElem_toArray, List.getElem_cons_zero, List.getElem_cons_succ, List.setIfInBounds_toArray, List.set_cons_zero, List.set_cons_succ])
      refine wpAnyH_take (i := 2) (v := ?_) rfl (by kernel_rfl) (by kernel_rfl) (by kernel_rfl) (fun _ _ _ h => h) (Or.inl ⟨by rfl, ?_⟩) (by assumption) ?_
      rotate_left
      · (intro w hSw; (try dsimp only at hSw); go_simp; (try with_reducible rfl))
      (try simp only [Act.put, List.getElem_toArray, List.getElem_cons_zero, List.getElem_cons_succ, List.setIfInBounds_toArray, List.set_cons_zero, List.set_cons_succ])
      refine wpAnyH_take (i := 3) (v := .slice (some ⟨b, o + K, none⟩) (n - K) (c - K)) rfl (by kernel_rfl) (by kernel_rfl) (by kernel_rfl) (fun _ _ _ h => h) (Or.inl ⟨by rfl, fun w hSw => by go_simp⟩) (by assumption) ?_
      (try simp only [Act.put, List.getElem_toArray, List.getElem_cons_zero, List.getElem_cons_succ, List.setIfInBounds_toArray, List.set_cons_zero, List.set_cons_succ])
      refine wpAnyH_take (i := 4) (v := ?_) rfl (by kernel_rfl) (by kernel_rfl) (by kernel_rfl) (fun _ _ _ h => h) (Or.inl ⟨by rfl, ?_⟩) (by assumption) ?_
      rotate_left
      · (intro w hSw; (try dsimp only at hSw); go_simp; (try with_reducible rfl))
      (try simp only [Act.put, List.getElem_toArray, List.getElem_cons_zero, List.getElem_cons_succ, List.setIfInBounds_toArray, List.set_cons_zero, List.set_cons_succ])
      refine wpAnyH_take (i := 5) (v := .int .i64 (m : Int)) rfl (by kernel_rfl) (by kernel_rfl) (by kernel_rfl) (fun _ _ _ h => h) (Or.inl ⟨by rfl, fun w hSw => by go_simp⟩) (by assumption) ?_
      (try simp only [Act.put, List.getElem_toArray, List.getElem_cons_zero, List.getElem_cons_succ, List.setIfInBounds_toArray, List.set_cons_zero, List.set_cons_succ])
      refine wpAnyH_take (i := 6) (v := ?_) rfl (by kernel_rfl) (by kernel_rfl) (by kernel_rfl) (fun _ _ _ h => h) (Or.inl ⟨by rfl, ?_⟩) (by assumption) ?_
      rotate_left
      · (intro w hSw; (try dsimp only at hSw); go_simp; (try with_reducible rfl))
      (try simp only [Act.put, List.getElem_toArray, List.getElem_cons_zero, List.getElem_cons_succ, List.setIfInBounds_toArray, List.set_cons_zero, List.set_cons_succ])
      refine wpAnyH_done (by kernel_rfl) ?_ _
      refine NoPanic.normal ?_
      have d1 := H1.drew.cv 0 (.slice (some ⟨b, o, none⟩) n c) rfl
      clear H1 H2 c1 c2
      go_upto_region 4 with (fail)
      refine (wpIn_wide (n := 0)).1 ?_
      obtain ⟨fn, tmps, assign, body, hy, hR⟩ := HY
      gi_wp2
      refine ⟨rfl, hR.mono ?_⟩
      rintro e W3 ⟨rfl, HJ3⟩
      have H3 := hb2 _ _ HJ3
      have c3 := H3.cv 0 (.int .i64 3) rfl
      gi_wp2
      go_wp2
      go_roundw
      case rel => exact ⟨k + 1, by omega, rfl, HJ3⟩
      case measure => simp [intOf]; omega
    · have q2 : decide ((K : Int) < (n : Int)) = false := decide_eq_false (by omega)
      obtain rfl : k = (n + 2) / 3 := by omega
      rw [hK]
      go_wp2
      go_end0
      exact ⟨⟨_, rfl⟩, HJ⟩

theorem chunk_nil (l b1 b2 : Nat) (a : Option Addr) (c : Nat) (w : World) (hb1 : Blk w b1 90 #[.slice a 0 c]) :
    Calls Tryd.prog 124 #[.func (.yield l) #[] #[], .pointer (some ⟨b1, 0, none⟩), .pointer (some ⟨b2, 0, none⟩)] w fun e w' => (∃ v, e = .returned v) ∧ w' = w := by
  have c1 := hb1.cv 0 (.slice a 0 c) rfl
  go_enter Tryd.func124, Tryd.ntmps124
  go_wp2_with fail
  go_loopw [4] (fun i wr => i = .int .i64 0 ∧ wr = w) (fun _ _ => 0)
  case atStart => exact ⟨rfl, rfl⟩
  case round =>
    obtain ⟨rfl, rfl⟩ := hrel
    go_wp2
    go_end0
    exact ⟨⟨_, rfl⟩, rfl⟩

end Go.Proofs.YtdjljnpbnhampaaDoor
