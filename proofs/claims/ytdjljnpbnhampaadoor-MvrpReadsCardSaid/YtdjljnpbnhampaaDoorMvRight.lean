/- mvrp.Right at every attribute. -/
import Derived.Test.YtdjljnpbnhampaaDoorMvS
namespace Go.Proofs.YtdjljnpbnhampaaDoor
open Go.RowKit
attribute [local go_sem ↓] Go.wp_at_zero Go.wp_at_succ
set_option linter.unusedSimpArgs false
set_option linter.unusedVariables false
set_option maxRecDepth 100000

theorem mv_no (x : Int) (w : World) : Calls Tryd.prog 68 #[.int .i64 x] w fun e w' => e = .returned (.bool (!(okE5 x))) ∧ w' = w := by
  unfold okE5
  by_cases h1 : x < 0
  · have d1 : decide (x < 0) = true := decide_eq_true h1
    have d2 : decide (0 ≤ x) = false := decide_eq_false (by omega)
    rw [d2, Bool.false_and]
    go_enter Tryd.func68, Tryd.ntmps68
    go_wp2
    go_ret
    exact ⟨rfl, rfl⟩
  · have d1 : decide (x < 0) = false := decide_eq_false h1
    have d2 : decide (0 ≤ x) = true := decide_eq_true (by omega)
    obtain ⟨d3, hd⟩ : ∃ d3, decide (5 < x) = d3 := ⟨_, rfl⟩
    have hd2 : decide (x ≤ 5) = !d3 := by
      rw [← hd]
      by_cases h2 : 5 < x
      · rw [decide_eq_true h2, decide_eq_false (by omega)]; rfl
      · rw [decide_eq_false h2, decide_eq_true (by omega)]; rfl
    rw [d2, Bool.true_and, hd2, Bool.not_not]
    clear hd2 d2
    go_enter Tryd.func68, Tryd.ntmps68
    go_wp2
    go_ret
    exact ⟨rfl, rfl⟩

set_option maxHeartbeats 1600000 in
theorem mv_index (a : Option Addr) (c : Nat) (l : List Int) (w : World) (h : IvIn w a l) (hlen : l.length ≤ maxLen) :
    Calls Tryd.prog 96 #[.slice a l.length c, .func (.func 68) #[] #[]] w fun e w' => (∃ r : Int, e = .returned (.int .i64 r) ∧ decide ((0 : Int) ≤ r) = !(l.all okE5)) ∧ w' = w := by
  have hll : l.length ≤ 9223372036854775807 := hlen
  have HNO := Lib.hid (fun (x : Int) (W : World) => mv_no x W)
  clear hlen
  go_enter Tryd.func96, Tryd.ntmps96
  go_wp2_with fail
  go_loopw [8] (fun i wr => ∃ k : Nat, k ≤ l.length ∧ i = .int .i64 k ∧ (∀ x ∈ l.take k, okE5 x = true) ∧ wr = w) (fun i _ => l.length - (intOf i).toNat)
  case atStart => exact ⟨0, by omega, rfl, by simp, rfl⟩
  case round =>
    obtain ⟨k, hk, rfl, hall, rfl⟩ := hrel
    by_cases hlt : k < l.length
    · obtain ⟨b, lo, rfl, hbl, hat⟩ := h.at hlt
      have q1 : (k : Int) < (l.length : Int) := by omega
      have q2 : decide ((k : Int) < (l.length : Int)) = true := decide_eq_true q1
      have q3 : (0 : Int) ≤ (k : Int) := by omega
      have q4 : IntKind.i64.wrap ((k : Int) + 1) = (k : Int) + 1 := by rw [IntKind.wrap_i64] <;> omega
      have HK := hat k hlt
      have hmem := List.getElem_mem hlt
      have hsn : l.take (k + 1) = l.take k ++ [l[k]] := by rw [List.take_add_one, List.getElem?_eq_getElem hlt]; rfl
      have HN2 := Lib.hid (HNO.out l[k] wr)
      have HS := Lib.hid hsn
      have HME := Lib.hid hmem
      generalize l[k] = x at *
      clear hat hsn hmem h HNO
      have KX : wr.cell? ⟨b, lo + k, none⟩ = some (.int .i64 x) := by
        have q := HK 0 (.int .i64 x) rfl
        rw [Nat.mul_one, Nat.add_zero] at q
        exact q
      clear HK
      go_wp2_with fail
      refine HN2.out.mono ?_
      rintro e w2 ⟨rfl, rfl⟩
      clear HN2
      cases hx : okE5 x with
      | true =>
        have hd : (!true) = false := rfl
        go_wp2
        go_roundw
        case rel => exact ⟨k + 1, by omega, by go_num, by
          rw [HS.out]
          intro y hy
          rcases List.mem_append.1 hy with q | q
          · exact hall y q
          · rw [List.mem_singleton.1 q]; exact hx, by first | rfl | trivial⟩
        case measure => simp [intOf]; omega
      | false =>
        have hd : (!false) = true := rfl
        have hno : Hid (l.all okE5 = false) := by
          show _ = _
          rw [Bool.eq_false_iff]
          intro q
          have q2 := List.all_eq_true.1 q x HME.out
          rw [hx] at q2
          cases q2
        go_wp2
        go_ret
        refine ⟨⟨_, rfl, ?_⟩, rfl⟩
        rw [hno.out]
        exact decide_eq_true q3
    · obtain rfl : k = l.length := by omega
      have q2 : decide ((l.length : Int) < (l.length : Int)) = false := decide_eq_false (by omega)
      have hyes : Hid (l.all okE5 = true) := by
        show _ = _
        rw [List.take_length] at hall
        exact List.all_eq_true.2 hall
      clear hall
      go_wp2
      go_ret
      refine ⟨⟨_, rfl, ?_⟩, rfl⟩
      rw [hyes.out]
      rfl

theorem mv_contains (a : Option Addr) (c : Nat) (l : List Int) (w : World) (h : IvIn w a l) (hlen : l.length ≤ maxLen) :
    Calls Tryd.prog 67 #[.slice a l.length c, .func (.func 68) #[] #[]] w fun e w' => e = .returned (.bool (!(l.all okE5))) ∧ w' = w := by
  have HX := Lib.hid (mv_index a c l w h hlen)
  go_enter Tryd.func67, Tryd.ntmps67
  go_wp2_with fail
  refine HX.out.mono ?_
  rintro e w2 ⟨⟨r, rfl, hd⟩, rfl⟩
  go_wp2
  go_ret
  exact ⟨by rw [← hd]; rfl, rfl⟩

set_option maxHeartbeats 1600000 in
theorem mvRight_any (x : Mv) (a : Option Addr) (c : Nat) (w : World) (h : IvIn w a x.ev) (hlen : x.ev.length ≤ maxLen) :
    Calls Tryd.prog 22 #[.agg (mvC ⟨x, a, c⟩)] w fun e w' => e = .returned (.bool (okMv x)) ∧ Below w.heap.size w w' := by
  obtain ⟨al, fi, ev⟩ := x
  have hll : ev.length ≤ 9223372036854775807 := hlen
  have hb0 : Below w.heap.size w (w.alloc (.cells #[.bool al, .int .i64 fi, .slice a ev.length c] 92)) := (Below.refl _ _).alloc (Nat.le_refl _) _
  have HC : Hid (∀ W, Below w.heap.size w W → Calls Tryd.prog 67 #[.slice a ev.length c, .func (.func 68) #[] #[]] W fun e w' => e = .returned (.bool (!(ev.all okE5))) ∧ w' = W) := fun W hb => mv_contains a c ev W (h.below hb) hlen
  clear h hlen
  unfold okMv mvC
  simp only
  generalize ev.all okE5 = r at *
  by_cases h0 : ev.length = 0
  · clear HC
    rw [h0] at hb0 ⊢
    rw [if_pos rfl]
    clear h0 hll
    cases al with
    | false =>
      rw [Bool.false_and]
      go_enter Tryd.func22, Tryd.ntmps22
      go_wp2
      go_ret
      exact ⟨rfl, hb0⟩
    | true =>
      rw [Bool.true_and]
      by_cases h1 : 0 ≤ fi
      · have d1 : decide (0 ≤ fi) = true := decide_eq_true h1
        obtain ⟨d2, hd2⟩ : ∃ d2, decide (fi ≤ 4094) = d2 := ⟨_, rfl⟩
        rw [d1, Bool.true_and, hd2]
        go_enter Tryd.func22, Tryd.ntmps22
        go_wp2
        go_ret
        exact ⟨rfl, hb0⟩
      · have d1 : decide (0 ≤ fi) = false := decide_eq_false h1
        rw [d1, Bool.false_and]
        go_enter Tryd.func22, Tryd.ntmps22
        go_wp2
        go_ret
        exact ⟨rfl, hb0⟩
  · rw [if_neg h0]
    have d0 : ((ev.length : Int) == 0) = false := beq_eq_false_iff_ne.2 (by omega)
    by_cases h1 : ev.length ≤ 400
    · have d1 : decide (ev.length ≤ 400) = true := decide_eq_true h1
      have d1' : decide ((ev.length : Int) ≤ 400) = true := decide_eq_true (by omega)
      by_cases h2 : 1 ≤ fi
      · have d2 : decide (1 ≤ fi) = true := decide_eq_true h2
        have q3 : IntKind.i64.wrap (4095 - (ev.length : Int)) = 4095 - (ev.length : Int) := by rw [IntKind.wrap_i64] <;> omega
        by_cases h3 : fi ≤ 4095 - (ev.length : Int)
        · have d3 : decide (fi ≤ 4095 - (ev.length : Int)) = true := decide_eq_true h3
          rw [d1, d2, d3, Bool.true_and, Bool.true_and, Bool.true_and]
          have HX := Lib.hid (HC.out _ hb0)
          go_enter Tryd.func22, Tryd.ntmps22
          go_wp2_with fail
          refine HX.out.mono ?_
          rintro e w2 ⟨rfl, rfl⟩
          go_wp2
          go_ret
          exact ⟨by simp, hb0⟩
        · have d3 : decide (fi ≤ 4095 - (ev.length : Int)) = false := decide_eq_false h3
          rw [d1, d2, d3, Bool.true_and, Bool.true_and, Bool.false_and]
          clear HC
          go_enter Tryd.func22, Tryd.ntmps22
          go_wp2
          go_ret
          exact ⟨rfl, hb0⟩
      · have d2 : decide (1 ≤ fi) = false := decide_eq_false h2
        rw [d1, d2, Bool.true_and, Bool.false_and]
        clear HC
        go_enter Tryd.func22, Tryd.ntmps22
        go_wp2
        go_ret
        exact ⟨rfl, hb0⟩
    · have d1 : decide (ev.length ≤ 400) = false := decide_eq_false h1
      have d1' : decide ((ev.length : Int) ≤ 400) = false := decide_eq_false (by omega)
      rw [d1, Bool.false_and]
      clear HC
      go_enter Tryd.func22, Tryd.ntmps22
      go_wp2
      go_ret
      exact ⟨rfl, hb0⟩

end Go.Proofs.YtdjljnpbnhampaaDoor
