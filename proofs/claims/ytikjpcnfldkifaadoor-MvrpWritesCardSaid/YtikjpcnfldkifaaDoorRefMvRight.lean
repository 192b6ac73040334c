/- The reference's AttrRight at every attribute. -/
import Derived.Test.YtikjpcnfldkifaaDoorMvWrite
import Derived.Test.YtikjpcnfldkifaaDoorWithin
namespace Go.Proofs.YtikjpcnfldkifaaDoor
open Go.RowKit
attribute [local go_sem ↓] Go.wp_at_zero Go.wp_at_succ
set_option linter.unusedSimpArgs false
set_option linter.unusedVariables false
set_option maxRecDepth 100000

theorem withinM (x a b : Int) (w : World) : Calls Tryd.prog 45 #[.int .i64 x, .int .i64 a, .int .i64 b] w fun e w' => e = .returned (.bool (decide (a ≤ x) && decide (x ≤ b))) ∧ Below w.heap.size w w' := by
  by_cases h1 : a ≤ x
  · by_cases h2 : x ≤ b
    · rw [decide_eq_true h1, decide_eq_true h2]
      refine (within_yes x a b w h1 h2).mono ?_
      rintro e w' ⟨rfl, rfl⟩
      exact ⟨rfl, Below.refl _ _⟩
    · rw [decide_eq_false h2, Bool.and_false]
      refine (within_no x a b w (by omega)).mono ?_
      rintro e w' ⟨rfl, rfl⟩
      exact ⟨rfl, Below.refl _ _⟩
  · rw [decide_eq_false h1, Bool.false_and]
    refine (within_no x a b w (by omega)).mono ?_
    rintro e w' ⟨rfl, rfl⟩
    exact ⟨rfl, Below.refl _ _⟩

def okAt (f : Int) (k : Nat) (e : Int) : Bool := okE5 e && (decide (1 ≤ IntKind.i64.wrap (f + (k : Int))) && decide (IntKind.i64.wrap (f + (k : Int)) ≤ 4094))

theorem okAt_all (x : Mv) (hr : i64R x.first) (h0 : x.ev ≠ []) (h : ∀ (k : Nat) (hk : k < x.ev.length), okAt x.first k x.ev[k] = true) : okMv x = decide (x.ev.length ≤ 400) := by
  have hl := List.length_pos_iff.2 h0
  unfold okMv
  rw [if_neg (by omega)]
  by_cases hc : x.ev.length ≤ 400
  · rw [decide_eq_true hc, Bool.true_and]
    have e0 := h 0 hl
    have e1 := h (x.ev.length - 1) (by omega)
    simp only [okAt, Bool.and_eq_true, decide_eq_true_eq] at e0 e1
    have w0 : IntKind.i64.wrap (x.first + ((0 : Nat) : Int)) = x.first := by
      have := hr.1
      have := hr.2
      rw [IntKind.wrap_i64] <;> omega
    rw [w0] at e0
    have w1 : IntKind.i64.wrap (x.first + ((x.ev.length - 1 : Nat) : Int)) = x.first + ((x.ev.length - 1 : Nat) : Int) := by rw [IntKind.wrap_i64] <;> omega
    rw [w1] at e1
    rw [decide_eq_true e0.2.1, decide_eq_true (show x.first ≤ 4095 - (x.ev.length : Int) by omega), Bool.true_and, Bool.true_and, List.all_eq_true]
    intro e he
    obtain ⟨k, hk, rfl⟩ := List.getElem_of_mem he
    have := h k hk
    simp only [okAt, Bool.and_eq_true] at this
    exact this.1
  · rw [decide_eq_false hc, Bool.false_and]

theorem okAt_bad (x : Mv) (k : Nat) (hk : k < x.ev.length) (h : okAt x.first k x.ev[k] = false) : okMv x = false := by
  rw [Bool.eq_false_iff]
  intro hok
  have h0 : x.ev ≠ [] := by
    intro q
    rw [q] at hk
    simp at hk
  obtain ⟨h1, h2, h3, h4⟩ := okMv_cons hok h0
  have h5 := h4 _ (List.getElem_mem hk)
  have w1 : IntKind.i64.wrap (x.first + (k : Int)) = x.first + (k : Int) := by rw [IntKind.wrap_i64] <;> omega
  unfold okAt okE5 at h
  rw [w1, decide_eq_true h5.1, decide_eq_true h5.2, decide_eq_true (show 1 ≤ x.first + (k : Int) by omega), decide_eq_true (show x.first + (k : Int) ≤ 4094 by omega)] at h
  cases h

set_option maxHeartbeats 3200000 in
theorem attrRight_any (x : Mv) (a : Option Addr) (c : Nat) (w : World) (hr : i64R x.first) (h : IvIn w a x.ev) (hlen : x.ev.length ≤ maxLen) :
    Calls Tryd.prog 16 #[.agg (mvC ⟨x, a, c⟩)] w fun e w' => e = .returned (.bool (okMv x)) ∧ Below w.heap.size w w' := by
  have hAL := Lib.hid (okAt_all x hr)
  have hBD := Lib.hid (okAt_bad x)
  have hll : x.ev.length ≤ 9223372036854775807 := hlen
  have h00 : x.ev.length = 0 → okMv x = (x.all && (decide (0 ≤ x.first) && decide (x.first ≤ 4094))) := fun q => by unfold okMv; rw [if_pos q]
  obtain ⟨al, fi, ev⟩ := x
  simp only at *
  have hb0 : Below w.heap.size w (w.alloc (.cells #[.bool al, .int .i64 fi, .slice a ev.length c] 36)) := (Below.refl _ _).alloc (Nat.le_refl _) _
  have hB0 := Blk.new w 36 #[.bool al, .int .i64 fi, .slice a ev.length c]
  obtain ⟨OK, hOK⟩ : ∃ OK, okMv ⟨al, fi, ev⟩ = OK := ⟨_, rfl⟩
  rw [hOK] at hAL h00 hBD ⊢
  clear hOK hlen
  unfold mvC
  simp only
  by_cases h0 : ev.length = 0
  · have h000 := h00 h0
    clear h00 hAL hBD h
    rw [h0] at hb0 hB0 ⊢
    subst h000
    cases al with
    | false =>
      rw [Bool.false_and]
      clear hB0
      go_enter Tryd.func16, Tryd.ntmps16
      go_wp2
      go_ret
      exact ⟨rfl, hb0⟩
    | true =>
      rw [Bool.true_and]
      have HW := Lib.hid (fun W => withinM fi 0 4094 W)
      generalize (decide (0 ≤ fi) && decide (fi ≤ 4094)) = r at *
      clear hB0
      go_enter Tryd.func16, Tryd.ntmps16
      go_wp2_with fail
      refine (HW.out _).mono ?_
      rintro e w2 ⟨rfl, b2⟩
      go_wp2
      go_ret
      exact ⟨rfl, hb0.trans (b2.mono hb0.size)⟩
  · clear h00
    have d0 : ((ev.length : Int) == 0) = false := beq_eq_false_iff_ne.2 (by omega)
    have hIV := Lib.hid h
    clear h
    go_enter Tryd.func16, Tryd.ntmps16
    go_wp2_with fail
    go_loopw [19] (fun i wr => ∃ k : Nat, k ≤ ev.length ∧ i = .int .i64 k ∧ (∀ (j : Nat) (hj : j < ev.length), j < k → okAt fi j ev[j] = true) ∧ Blk wr w.heap.size 36 #[.bool al, .int .i64 fi, .slice a ev.length c] ∧ Below w.heap.size w wr) (fun i _ => ev.length - (intOf i).toNat)
    case atStart => exact ⟨0, by omega, rfl, fun j hj q => absurd q (Nat.not_lt_zero _), hB0, hb0⟩
    case round =>
      clear hB0 hb0
      obtain ⟨k, hk, rfl, hall, hB, hb⟩ := hrel
      by_cases hlt : k < ev.length
      · have hin : IvIn wr a ev := hIV.out.below hb
        obtain ⟨eb, eo, rfl, hel, het⟩ := hin.at hlt
        have q1 : (k : Int) < (ev.length : Int) := by omega
        have q2 : decide ((k : Int) < (ev.length : Int)) = true := decide_eq_true q1
        have q3 : (0 : Int) ≤ (k : Int) := by omega
        have q4 : IntKind.i64.wrap ((k : Int) + 1) = (k : Int) + 1 := by rw [IntKind.wrap_i64] <;> omega
        have HJ := het k hlt
        have hbad := Lib.hid (hBD.out k hlt)
        have hgood : Hid (okAt fi k ev[k] = true → ∀ (j : Nat) (hj : j < ev.length), j < k + 1 → okAt fi j ev[j] = true) := fun q j hj hjk => by
          by_cases hjk2 : j = k
          · subst hjk2
            exact q
          · exact hall j hj (by omega)
        have HW1 : Hid (∀ W, Calls Tryd.prog 45 #[.int .i64 ev[k], .int .i64 0, .int .i64 5] W fun e w' => e = .returned (.bool (okE5 ev[k])) ∧ Below W.heap.size W w') := fun W => withinM _ 0 5 W
        obtain ⟨vid, hvid⟩ : ∃ vid, IntKind.i64.wrap (fi + (k : Int)) = vid := ⟨_, rfl⟩
        have HW2 := Lib.hid (fun W => withinM vid 1 4094 W)
        unfold okAt at hbad hgood
        rw [hvid] at hbad hgood
        generalize (decide (1 ≤ vid) && decide (vid ≤ 4094)) = b2 at *
        have hgd : Hid ((okE5 ev[k] && b2) = true → ∀ (j : Nat) (hj : j < ev.length), j < k + 1 → okAt fi j ev[j] = true) := hgood
        have KX : wr.cell? ⟨eb, eo + k, none⟩ = some (.int .i64 ev[k]) := by
          have q := HJ 0 (.int .i64 ev[k]) rfl
          rw [Nat.mul_one, Nat.add_zero] at q
          exact q
        clear HJ het hin hall hgood hAL hBD hIV
        generalize okE5 ev[k] = b1 at *
        generalize ev[k] = x at *
        have c1 := hB.cv 1 (.int .i64 fi) rfl
        have hlB := hB.lt
        have hsz := hb.size
        cases b1 with
        | false =>
          go_wp2_with (go_at_call 45; refine (HW1.out _).mono ?_; rintro e w2 ⟨rfl, k2⟩)
          go_ret
          exact ⟨by rw [hbad.out (Bool.false_and _)]; rfl, hb.trans (k2.mono hsz)⟩
        | true =>
          cases b2 with
          | false =>
            go_wp2_with (first
              | (go_at_call 45; (have _ := k2); refine (HW2.out _).mono ?_; rintro e w3 ⟨rfl, k3⟩; have B3 := hb.trans ((k2.trans (k3.mono k2.size)).mono hsz))
              | (go_at_call 45; refine (HW1.out _).mono ?_; rintro e w2 ⟨rfl, k2⟩; have c1' := (hB.kept k2).cv 1 (.int .i64 fi) rfl))
            go_ret
            exact ⟨by rw [hbad.out rfl]; rfl, B3⟩
          | true =>
            go_wp2_with (first
              | (go_at_call 45; (have _ := k2); refine (HW2.out _).mono ?_; rintro e w3 ⟨rfl, k3⟩; have B3 := hb.trans ((k2.trans (k3.mono k2.size)).mono hsz))
              | (go_at_call 45; refine (HW1.out _).mono ?_; rintro e w2 ⟨rfl, k2⟩; have c1' := (hB.kept k2).cv 1 (.int .i64 fi) rfl))
            go_roundw
            case rel => exact ⟨k + 1, by omega, by go_num, hgd.out rfl, (hB.kept k2).kept k3, B3⟩
            case measure => simp [intOf]; omega
      · obtain rfl : k = ev.length := by omega
        have q2 : decide ((ev.length : Int) < (ev.length : Int)) = false := decide_eq_false (by omega)
        have hOK := hAL.out (by intro q; rw [q] at h0; simp at h0) (fun j hj => hall j hj hj)
        have hde : Hid (decide ((ev.length : Int) ≤ 400) = decide (ev.length ≤ 400)) := by
          show _ = _
          by_cases hq : ev.length ≤ 400
          · rw [decide_eq_true hq, decide_eq_true (by omega)]
          · rw [decide_eq_false hq, decide_eq_false (by omega)]
        have c2 := hB.cv 2 (.slice a ev.length c) rfl
        clear hAL hBD hall hIV
        subst hOK
        clear hB
        go_wp2
        go_ret
        exact ⟨by rw [← hde.out]; rfl, hb⟩

end Go.Proofs.YtikjpcnfldkifaaDoor
