/- switchyardkeep.BridgeMade. -/
import Derived.Test.YtdceggekhhflgaaPs
namespace Go.Proofs.Ytdceggekhhflgaa.bridgeMade
open Go.RowKit
attribute [local go_sem ↓] Go.wp_at_zero Go.wp_at_succ
set_option linter.unusedSimpArgs false
set_option linter.unusedVariables false
set_option maxRecDepth 100000

set_option maxHeartbeats 1600000 in
theorem index_any (g : Nat) (p : PsH → Bool) (eg : ∀ args w, (callFunc g args).run Try.prog w = .ok (.enter g args) w)
    (hp : ∀ x w, PsOk w x → Calls Try.prog g #[.agg (psC x)] w fun e w' => e = .returned (.bool (p x)) ∧ Below w.heap.size w w')
    (a : Option Addr) (c : Nat) (l : List PsH) (w : World) (h : PsIn w a l) (hok : ∀ x ∈ l, PsOk w x) (hlen : l.length ≤ 12) :
    Calls Try.prog 48 #[.slice a l.length c, .func (.func g) #[] #[]] w fun e w' => (∃ r : Int, e = .returned (.int .i64 r) ∧ decide ((0 : Int) ≤ r) = l.any p) ∧ Below w.heap.size w w' := by
  have HLEN := Lib.hid hlen
  have HP := Lib.hid hp
  have HOK := Lib.hid hok
  clear hlen hp hok
  go_enter Try.func48, Try.ntmps48
  go_wp2_with fail
  go_loopw [8] (fun i wr => ∃ k : Nat, k ≤ l.length ∧ i = .int .i64 k ∧ (∀ x ∈ l.take k, p x = false) ∧ Below w.heap.size w wr) (fun i _ => l.length - (intOf i).toNat)
  case atStart => exact ⟨0, by omega, rfl, by simp, Below.refl _ _⟩
  case round =>
    obtain ⟨k, hk, rfl, hall, Bk⟩ := hrel
    by_cases hlt : k < l.length
    · have hI := h.below Bk
      obtain ⟨b, lo, rfl, hbl, hat⟩ := hI.at hlt
      have q1 : (k : Int) < (l.length : Int) := by omega
      have q2 : decide ((k : Int) < (l.length : Int)) = true := decide_eq_true q1
      have q3 : (0 : Int) ≤ (k : Int) := by omega
      have q4 : IntKind.i64.wrap ((k : Int) + 1) = (k : Int) + 1 := by have := HLEN.out; rw [IntKind.wrap_i64] <;> omega
      have HK := hat k hlt
      have hsn := Lib.hid (show l.take (k + 1) = l.take k ++ [l[k]] by rw [List.take_add_one, List.getElem?_eq_getElem hlt]; rfl)
      have HME := Lib.hid (List.getElem_mem hlt)
      have HP1 := Lib.hid (HP.out l[k] wr ((HOK.out _ (List.getElem_mem hlt)).below Bk))
      generalize l[k] = x at *
      clear hat hI h HP hbl
      cases hx : p x with
      | false =>
        rw [hx] at HP1
        go_wp2_with (first
          | (refine load_cells (B := b) (k := lo + k * 4) 59 (psC x) (by rfl) rfl rfl HK (by kernel_rfl) (by kernel_rfl) ?_)
          | (refine HP1.out.mono ?_; rintro e w1 ⟨rfl, k1⟩))
        go_roundw
        case rel => exact ⟨k + 1, by omega, by go_num, by
          rw [hsn.out]
          intro y hy
          rcases List.mem_append.1 hy with q | q
          · exact hall y q
          · rw [List.mem_singleton.1 q]; exact hx, Bk.trans (k1.mono Bk.size)⟩
        case measure => simp [intOf]; omega
      | true =>
        rw [hx] at HP1
        have HY : Hid (l.any p = true) := List.any_eq_true.2 ⟨x, HME.out, hx⟩
        clear hall
        go_wp2_with (first
          | (refine load_cells (B := b) (k := lo + k * 4) 59 (psC x) (by rfl) rfl rfl HK (by kernel_rfl) (by kernel_rfl) ?_)
          | (refine HP1.out.mono ?_; rintro e w1 ⟨rfl, k1⟩))
        go_ret
        exact ⟨⟨_, rfl, by rw [HY.out]; exact decide_eq_true (by omega)⟩, Bk.trans (k1.mono Bk.size)⟩
    · obtain rfl : k = l.length := by omega
      have q2 : decide ((l.length : Int) < (l.length : Int)) = false := decide_eq_false (by omega)
      rw [List.take_length] at hall
      have HR : Hid (l.any p = false) := by
        show _ = _
        rw [List.any_eq_false]
        intro x hx
        simp [hall x hx]
      clear hall
      go_wp2
      go_ret
      exact ⟨⟨_, rfl, by rw [HR.out]; rfl⟩, Bk⟩

theorem contains_any (g : Nat) (p : PsH → Bool) (eg : ∀ args w, (callFunc g args).run Try.prog w = .ok (.enter g args) w)
    (hp : ∀ x w, PsOk w x → Calls Try.prog g #[.agg (psC x)] w fun e w' => e = .returned (.bool (p x)) ∧ Below w.heap.size w w')
    (a : Option Addr) (c : Nat) (l : List PsH) (w : World) (h : PsIn w a l) (hok : ∀ x ∈ l, PsOk w x) (hlen : l.length ≤ 12) :
    Calls Try.prog 26 #[.slice a l.length c, .func (.func g) #[] #[]] w fun e w' => e = .returned (.bool (l.any p)) ∧ Below w.heap.size w w' := by
  have HI := Lib.hid (index_any g p eg hp a c l w h hok hlen)
  clear hp eg
  go_enter Try.func26, Try.ntmps26
  go_wp2_with (refine HI.out.mono ?_; rintro e w' ⟨⟨r, rfl, hr⟩, kb⟩)
  go_ret
  exact ⟨by rw [← hr]; rfl, kb⟩

theorem Try.enters_made1 : ∀ args w, (callFunc 27 args).run Try.prog w = .ok (.enter 27 args) w := fun args w => by kernel_rfl

theorem Try.enters_made2 : ∀ args w, (callFunc 29 args).run Try.prog w = .ok (.enter 29 args) w := fun args w => by kernel_rfl

/-- A port that has too much. -/
def heavyB (x : PsH) : Bool := decide (200 < wrap64 ((x.x.inn.length : Int) + (x.x.bare.length : Int)))

theorem made1_any (x : PsH) (w : World) (h : PsOk w x) :
    Calls Try.prog 27 #[.agg (psC x)] w fun e w' => e = .returned (.bool (heavyB x)) ∧ Below w.heap.size w w' := by
  have hb0 : Below w.heap.size w (w.alloc (.cells (psC x) 59)) := (Below.refl _ _).alloc (Nat.le_refl _) _
  have hB := Blk.new w 59 (psC x)
  have c1 := hB.cv 1 (.slice x.ia x.x.inn.length x.ic) rfl
  have c2 := hB.cv 2 (.slice x.ba x.x.bare.length x.bc) rfl
  clear h
  unfold heavyB
  go_enter Try.func27, Try.ntmps27
  go_wp2_with (refine box_blk 59 (psC x) (by rfl) rfl rfl ?_)
  go_ret
  exact ⟨rfl, hb0⟩

theorem made2_any (x : PsH) (w : World) (h : PsOk w x) :
    Calls Try.prog 29 #[.agg (psC x)] w fun e w' => e = .returned (.bool (!okPs x.x)) ∧ Below w.heap.size w w' := by
  have hb0 : Below w.heap.size w (w.alloc (.cells (psC x) 59)) := (Below.refl _ _).alloc (Nat.le_refl _) _
  have hB := Blk.new w 59 (psC x)
  have HR := Lib.hid (psRight_any x _ (h.below hb0))
  clear h
  go_enter Try.func29, Try.ntmps29
  go_wp2_with (first
    | (refine box_blk 59 (psC x) (by rfl) rfl rfl ?_)
    | (refine load_blk 59 (psC x) (by rfl) rfl rfl hB (by kernel_rfl) (by kernel_rfl) (by rfl) ?_)
    | (refine HR.out.mono ?_; rintro e w1 ⟨rfl, k1⟩))
  go_ret
  exact ⟨rfl, hb0.trans (k1.mono hb0.size)⟩

set_option maxHeartbeats 6400000 in
theorem walk (a0 : Option Addr) (c0 : Nat) (l0 : List PsH) (vid ad1 : Int) (W : World) (hin0 : PsIn W a0 l0) (hok0 : ∀ x ∈ l0, PsOk W x) (hl0 : l0.length ≤ maxLen) :
    Calls Try.prog 5 #[.slice a0 l0.length c0, .int .i64 vid, .int .i64 ad1] W fun e w' => e = .returned (.bool true) ∧ Below W.heap.size W w' := by
  by_cases h12 : 12 < l0.length
  · have e12 : decide ((12 : Int) < (l0.length : Int)) = true := decide_eq_true (by omega)
    clear hin0 hok0
    go_enter Try.func5, Try.ntmps5
    go_wp2_with (go_at_call 11; refine (passes_any _).mono ?_; rintro e w2 ⟨rfl, k2⟩)
    go_ret
    exact ⟨rfl, k2⟩
  have e12 : decide ((12 : Int) < (l0.length : Int)) = false := decide_eq_false (by omega)
  have HC1 : Hid (∀ w, Below W.heap.size W w → Calls Try.prog 26 #[.slice a0 l0.length c0, .func (.func 27) #[] #[]] w fun e w' => e = .returned (.bool (l0.any heavyB)) ∧ Below w.heap.size w w') := fun w hb =>
    contains_any _ _ Try.enters_made1 made1_any a0 c0 l0 w (hin0.below hb) (fun x hx => (hok0 x hx).below hb) (by omega)
  have HC2 : Hid (∀ w, Below W.heap.size W w → Calls Try.prog 26 #[.slice a0 l0.length c0, .func (.func 29) #[] #[]] w fun e w' => e = .returned (.bool (l0.any fun x => !okPs x.x)) ∧ Below w.heap.size w w') := fun w hb =>
    contains_any _ _ Try.enters_made2 made2_any a0 c0 l0 w (hin0.below hb) (fun x hx => (hok0 x hx).below hb) (by omega)
  cases hh : l0.any heavyB with
  | true =>
    rw [hh] at HC1
    clear hin0 hok0 hh
    go_enter Try.func5, Try.ntmps5
    go_wp2_with (first
      | (go_at_call 11; refine (passes_any _).mono ?_; rintro e w2 ⟨rfl, k2⟩)
      | (refine (HC1.out _ k2).mono ?_; rintro e w3 ⟨rfl, k3⟩))
    go_ret
    exact ⟨rfl, k2.trans (k3.mono k2.size)⟩
  | false =>
    rw [hh] at HC1
    clear hh
    by_cases h8 : 8 < l0.length
    · have HN := Lib.hid (fun w => newB_long a0 c0 l0 100 w h8 hl0)
      have e8 : decide ((l0.length : Int) ≤ 8) = false := decide_eq_false (by omega)
      clear hin0 hok0
      go_enter Try.func5, Try.ntmps5
      go_wp2_with (first
        | (go_at_call 11; refine (passes_any _).mono ?_; rintro e w2 ⟨rfl, k2⟩)
        | (go_at_call 26; refine (HC1.out _ k2).mono ?_; rintro e w3 ⟨rfl, k3⟩)
        | (go_at_call 28; refine (HN.out _).mono ?_; rintro e w4 ⟨rfl, rfl⟩))
      go_ret
      exact ⟨rfl, k2.trans (k3.mono k2.size)⟩
    · have e8 : decide ((l0.length : Int) ≤ 8) = true := decide_eq_true (by omega)
      have HN : Hid (∀ w, Below W.heap.size W w → Calls Try.prog 28 #[.slice a0 l0.length c0, .int .i64 100] w fun e w' => NewPost l0 100 w e w') := fun w hb => newB_any a0 c0 l0 100 w (hin0.below hb) (fun x hx => (hok0 x hx).below hb) (by omega)
      clear hin0 hok0
      cases hr : l0.any fun x => !okPs x.x with
      | true =>
        rw [hr] at HC2
        have HBAD : Hid (∀ w e w', NewPost l0 100 w e w' → Below w.heap.size w w' ∧ ∃ q, e = .returned (.tuple #[.pointer none, .iface 86 (.pointer (some ⟨q, 0, none⟩))])) := by
          rintro w e w' ⟨hb, ⟨i, hi, h1, _, q, h2, _⟩ | ⟨h1, _⟩ | ⟨h1, _⟩⟩
          · exact ⟨hb, q, h2⟩
          · obtain ⟨x, hx, hq⟩ := List.any_eq_true.1 hr
            rw [h1 x hx] at hq
            cases hq
          · obtain ⟨x, hx, hq⟩ := List.any_eq_true.1 hr
            rw [h1 x hx] at hq
            cases hq
        clear hr
        go_enter Try.func5, Try.ntmps5
        go_wp2_with (first
          | (go_at_call 11; refine (passes_any _).mono ?_; rintro e w2 ⟨rfl, k2⟩)
          | (go_at_call 26; with_reducible refine (HC1.out _ k2).mono ?_; rintro e w3 ⟨rfl, k3⟩; have B3 := k2.trans (k3.mono k2.size))
          | (go_at_call 28; refine (HN.out _ B3).mono ?_; intro e w4 hpost; obtain ⟨k4, q, rfl⟩ := HBAD.out _ _ _ hpost; have B4 := B3.trans (k4.mono B3.size))
          | (go_at_call 26; with_reducible refine (HC2.out _ B4).mono ?_; rintro e w5 ⟨rfl, k5⟩; have B5 := B4.trans (k5.mono B4.size)))
        go_ret
        exact ⟨rfl, B5⟩
      | false =>
        rw [hr] at HC2
        have HGOOD : Hid (∀ w e w', NewPost l0 100 w e w' → Below w.heap.size w w' ∧ ∃ b t c ad hs, e = .returned (.tuple #[.pointer (some ⟨b, 0, none⟩), .nilIface]) ∧ BrgAt w' w.heap.size b t c ad hs 100 0 []) := by
          rintro w e w' ⟨hb, ⟨i, hi, h1, _, q, h2, _⟩ | ⟨_, h1, _⟩ | ⟨_, _, b, t, c, ad, hs, h1, _, _, _, h2⟩⟩
          · have := List.any_eq_false.1 hr _ (List.getElem_mem hi)
            rw [h1] at this
            simp at this
          · omega
          · exact ⟨hb, b, t, c, ad, hs, h1, h2⟩
        clear hr
        have HLK : Hid (∀ a, lookM 100 [] vid a 0 = -1) := fun a => rfl
        go_enter Try.func5, Try.ntmps5
        go_wp2_with (first
          | (go_at_call 11; refine (passes_any _).mono ?_; rintro e w2 ⟨rfl, k2⟩)
          | (go_at_call 26; with_reducible refine (HC1.out _ k2).mono ?_; rintro e w3 ⟨rfl, k3⟩; have B3 := k2.trans (k3.mono k2.size))
          | (go_at_call 28; refine (HN.out _ B3).mono ?_; intro e w4 hpost; obtain ⟨k4, b, t, cc, ad, hs, rfl, hbr⟩ := HGOOD.out _ _ _ hpost; have B4 := B3.trans (k4.mono B3.size))
          | (go_at_call 26; with_reducible refine (HC2.out _ B4).mono ?_; rintro e w5 ⟨rfl, k5⟩; have B5 := B4.trans (k5.mono B4.size); have hbr5 := hbr.kept k5)
          | (go_at_call 31; refine (address_any _ _).mono ?_; rintro e w6 ⟨rfl, k6⟩; have B6 := B5.trans (k6.mono B5.size); have hbr6 := hbr5.kept k6)
          | (go_at_call 19; refine (where_any _ _ _ _ hbr6).mono ?_; rintro e w7 ⟨rfl, k7⟩; rw [HLK.out]))
        go_ret
        exact ⟨rfl, B6.trans (k7.mono B6.size)⟩

end Go.Proofs.Ytdceggekhhflgaa.bridgeMade
