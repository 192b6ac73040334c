/- package bridge: isVid, isState, isList, Right. -/
import Derived.Test.YtdceggekhhflgaaPsS
import Derived.Test.YtdceggekhhflgaaIvCont
import Derived.Test.YtdceggekhhflgaaBlk
import Derived.Lib.Hide
namespace Go.Proofs.Ytdceggekhhflgaa
open Go.RowKit
attribute [local go_sem ↓] Go.wp_at_zero Go.wp_at_succ
set_option linter.unusedSimpArgs false
set_option linter.unusedVariables false
set_option maxRecDepth 100000

theorem isVid_any (n : Int) (w : World) :
    Calls Try.prog 52 #[.int .i64 n] w fun e w' => e = .returned (.bool (vidB n)) ∧ w = w' := by
  unfold vidB
  cases h1 : decide (1 ≤ n) <;> cases h2 : decide (n ≤ 4094)
  all_goals (
    go_enter Try.func52, Try.ntmps52
    go_wp2
    go_ret
    exact ⟨rfl, rfl⟩)

theorem isState_any (n : Int) (w : World) :
    Calls Try.prog 37 #[.int .i64 n] w fun e w' => e = .returned (.bool (stB n)) ∧ w = w' := by
  unfold stB
  cases h1 : (n == 1) <;> cases h2 : (n == 2) <;> cases h3 : (n == 3)
  all_goals (
    go_enter Try.func37, Try.ntmps37
    go_wp2
    go_ret
    exact ⟨rfl, rfl⟩)

theorem IvAt.cell {w : World} {b lo : Nat} {l : List Int} (h : IvAt w b lo l) (k : Nat) (hk : k < l.length) : w.cell? ⟨b, lo + k, none⟩ = some (.int .i64 l[k]) := by
  have := h k hk 0 _ rfl
  rwa [Nat.mul_one, Nat.add_zero] at this

theorem isList_long (a : Option Addr) (c : Nat) (l : List Int) (w : World) (h : 64 < l.length) (hlen : l.length ≤ maxLen) :
    Calls Try.prog 53 #[.slice a l.length c] w fun e w' => e = .returned (.bool false) ∧ w = w' := by
  have d1 : decide ((64 : Int) < (l.length : Int)) = true := decide_eq_true (by omega)
  go_enter Try.func53, Try.ntmps53
  go_wp2
  go_ret
  exact ⟨rfl, rfl⟩

set_option maxHeartbeats 1600000 in
theorem isList_short (a : Option Addr) (c : Nat) (l : List Int) (w : World) (h : IvIn w a l) (hlen : l.length ≤ 64) :
    Calls Try.prog 53 #[.slice a l.length c] w fun e w' => e = .returned (.bool (riseB l)) ∧ w = w' := by
  have d1 : decide ((64 : Int) < (l.length : Int)) = false := decide_eq_false (by omega)
  have HLEN := Lib.hid hlen
  have HV := Lib.hid (fun n w => isVid_any n w)
  clear hlen
  go_enter Try.func53, Try.ntmps53
  go_wp2_with fail
  go_loopw [10] (fun i wr => ∃ k : Nat, k ≤ l.length ∧ i = .int .i64 k ∧ (∀ j, j < k → upAt l j = true) ∧ w = wr) (fun i _ => l.length - (intOf i).toNat)
  case atStart => exact ⟨0, by omega, rfl, by omega, rfl⟩
  case round =>
    obtain ⟨k, hk, rfl, hall, rfl⟩ := hrel
    by_cases hlt : k < l.length
    · obtain ⟨b, lo, rfl, hbl, hat⟩ := h.at hlt
      have q1 : (k : Int) < (l.length : Int) := by omega
      have q2 : decide ((k : Int) < (l.length : Int)) = true := decide_eq_true q1
      have q3 : (0 : Int) ≤ (k : Int) := by omega
      have q4 : IntKind.i64.wrap ((k : Int) + 1) = (k : Int) + 1 := by have := HLEN.out; rw [IntKind.wrap_i64] <;> omega
      have hcell := hat.cell k hlt
      have HU := Lib.hid (upAt_at hlt)
      have HF : Hid (upAt l k = false → riseB l = false) := fun q => riseB_false hlt q
      have HN : Hid (upAt l k = true → ∀ j, j < k + 1 → upAt l j = true) := fun q j hj => by
        by_cases e : j = k
        · subst e; exact q
        · exact hall j (by omega)
      have HP : Hid (k ≠ 0 → ∃ (y : Int), w.cell? ⟨b, lo + (k - 1), none⟩ = some (.int .i64 y) ∧ l.getD (k - 1) 0 = y) := fun q => ⟨l[k - 1]'(by omega), hat.cell (k - 1) (by omega), by rw [List.getD_eq_getElem?_getD, List.getElem?_eq_getElem (by omega)]; rfl⟩
      clear hall h hat
      generalize l[k] = x at *
      generalize upAt l k = u at *
      cases hv : vidB x with
      | false =>
        have HR := Lib.hid (HF.out (by rw [HU.out, hv]; rfl))
        clear HF HN HU HP
        go_wp2_with (go_at_call 52; refine (HV.out _ _).mono ?_; rintro e w' ⟨rfl, rfl⟩; rw [hv])
        go_ret
        exact ⟨by rw [HR.out]; rfl, rfl⟩
      | true =>
        by_cases k0 : k = 0
        · have HR := Lib.hid (HN.out (by rw [HU.out, hv, k0]; rfl))
          have d2 : decide ((0 : Int) < (k : Int)) = false := decide_eq_false (by omega)
          have d2n : decide (0 < k) = false := decide_eq_false (by omega)
          have d2m : ¬ (0 < k) := by omega
          have K0 := Lib.hid k0
          clear HF HN HU HP k0
          go_wp2_with (go_at_call 52; refine (HV.out _ _).mono ?_; rintro e w' ⟨rfl, rfl⟩; rw [hv])
          go_roundw
          case rel => exact ⟨k + 1, by omega, by go_num, HR.out, trivial⟩
          case measure => simp [intOf]; omega
        · obtain ⟨y, hy, hg⟩ := HP.out k0
          have d2 : decide ((0 : Int) < (k : Int)) = true := decide_eq_true (by omega)
          have d2n : decide (0 < k) = true := decide_eq_true (by omega)
          have d2m : 0 < k := by omega
          obtain ⟨z, q5, q6, q7, q8⟩ : ∃ z : Int, wrap64 ((k : Int) - 1) = z ∧ z < (l.length : Int) ∧ 0 ≤ z ∧ z.toNat = k - 1 := ⟨_, rfl, by have := HLEN.out; unfold wrap64; omega, by have := HLEN.out; unfold wrap64; omega, by have := HLEN.out; unfold wrap64; omega⟩
          rw [← q8] at hy
          have q9 : IntKind.i64.wrap ((k : Int) - 1) = z := by rw [← q5]; have := HLEN.out; unfold wrap64; rw [IntKind.wrap_i64] <;> omega
          have K0 := Lib.hid k0
          have HUE : Hid (u = decide (y < x)) := by show _ = _; rw [HU.out, hv, hg, decide_eq_false k0]; rfl
          clear HU HP k0 hg q8
          by_cases hyx : y < x
          · have d3 : decide (x ≤ y) = false := decide_eq_false (by omega)
            have HR := Lib.hid (HN.out (by rw [HUE.out]; exact decide_eq_true hyx))
            clear HF HN HUE
            go_wp2_with (go_at_call 52; refine (HV.out _ _).mono ?_; rintro e w' ⟨rfl, rfl⟩; rw [hv])
            go_roundw
            case rel => exact ⟨k + 1, by omega, by go_num, HR.out, trivial⟩
            case measure => simp [intOf]; omega
          · have d3 : decide (x ≤ y) = true := decide_eq_true (by omega)
            have HR := Lib.hid (HF.out (by rw [HUE.out]; exact decide_eq_false hyx))
            clear HF HN HUE
            go_wp2_with (go_at_call 52; refine (HV.out _ _).mono ?_; rintro e w' ⟨rfl, rfl⟩; rw [hv])
            go_ret
            exact ⟨by rw [HR.out]; rfl, rfl⟩
    · obtain rfl : k = l.length := by omega
      have q2 : decide ((l.length : Int) < (l.length : Int)) = false := decide_eq_false (by omega)
      have HR := Lib.hid (riseB_true (fun j hj => hall j hj))
      clear hall
      go_wp2
      go_ret
      exact ⟨by rw [HR.out]; rfl, rfl⟩

theorem isList_any (a : Option Addr) (c : Nat) (l : List Int) (w : World) (h : IvIn w a l) (hlen : l.length ≤ maxLen) :
    Calls Try.prog 53 #[.slice a l.length c] w fun e w' => e = .returned (.bool (listB l)) ∧ w = w' := by
  unfold listB
  by_cases hl : l.length ≤ 64
  · rw [decide_eq_true hl]
    exact isList_short a c l w h hl
  · rw [decide_eq_false hl]
    exact isList_long a c l w (by omega) hlen

/-- What is no member of a port. -/
theorem stranger_any (x : PsH) (P : Nat) (v : Int) (w : World) (hB : Blk w P 59 (psC x)) (hI : IvIn w x.ia x.x.inn) (hlen : x.x.inn.length ≤ maxLen) :
    Calls Try.prog 51 #[.int .i64 v, .pointer (some ⟨P, 0, none⟩)] w fun e w' => e = .returned (.bool (!memB x.x.inn v)) ∧ w = w' := by
  have HC := Lib.hid (containsIv_any x.ia x.ic x.x.inn v w hI hlen)
  have c1 := hB.cv 1 (.slice x.ia x.x.inn.length x.ic) rfl
  go_enter Try.func51, Try.ntmps51
  go_wp2_with (refine HC.out.mono ?_; rintro e w' ⟨rfl, rfl⟩)
  go_ret
  exact ⟨rfl, rfl⟩

theorem Try.enters_stranger : ∀ args w, (callFunc 51 args).run Try.prog w = .ok (.enter 51 args) w := fun args w => by kernel_rfl

set_option maxHeartbeats 1600000 in
theorem strangers_index (a : Option Addr) (c : Nat) (l : List Int) (x : PsH) (P : Nat) (w : World) (h : IvIn w a l) (hl : l.length ≤ maxLen) (hB : Blk w P 59 (psC x)) (hI : IvIn w x.ia x.x.inn) (hlen : x.x.inn.length ≤ maxLen) :
    Calls Try.prog 70 #[.slice a l.length c, .func (.func 51) #[] #[.pointer (some ⟨P, 0, none⟩)]] w fun e w' => (∃ r : Int, e = .returned (.int .i64 r) ∧ decide ((0 : Int) ≤ r) = !(l.all (memB x.x.inn))) ∧ w = w' := by
  have hll : l.length ≤ 9223372036854775807 := hl
  have HS := Lib.hid (fun v => stranger_any x P v w hB hI hlen)
  clear hlen hI hB hl
  go_enter Try.func70, Try.ntmps70
  go_wp2_with fail
  go_loopw [8] (fun i wr => ∃ k : Nat, k ≤ l.length ∧ i = .int .i64 k ∧ (∀ y ∈ l.take k, memB x.x.inn y = true) ∧ w = wr) (fun i _ => l.length - (intOf i).toNat)
  case atStart => exact ⟨0, by omega, rfl, by simp, rfl⟩
  case round =>
    obtain ⟨k, hk, rfl, hall, rfl⟩ := hrel
    by_cases hlt : k < l.length
    · obtain ⟨b, lo, rfl, hbl, hat⟩ := h.at hlt
      have q1 : (k : Int) < (l.length : Int) := by omega
      have q2 : decide ((k : Int) < (l.length : Int)) = true := decide_eq_true q1
      have q3 : (0 : Int) ≤ (k : Int) := by omega
      have q4 : IntKind.i64.wrap ((k : Int) + 1) = (k : Int) + 1 := by rw [IntKind.wrap_i64] <;> omega
      have hcell := hat.cell k hlt
      have hsn := Lib.hid (show l.take (k + 1) = l.take k ++ [l[k]] by rw [List.take_add_one, List.getElem?_eq_getElem hlt]; rfl)
      have HME := Lib.hid (List.getElem_mem hlt)
      have HS1 := Lib.hid (HS.out l[k])
      generalize l[k] = v at *
      clear hat h HS
      cases hx : memB x.x.inn v with
      | true =>
        rw [hx] at HS1
        go_wp2_with (refine HS1.out.mono ?_; rintro e w' ⟨rfl, rfl⟩)
        go_roundw
        case rel => exact ⟨k + 1, by omega, by go_num, by
          rw [hsn.out]
          intro y hy
          rcases List.mem_append.1 hy with q | q
          · exact hall y q
          · rw [List.mem_singleton.1 q]; exact hx, trivial⟩
        case measure => simp [intOf]; omega
      | false =>
        rw [hx] at HS1
        have hno : Hid (l.all (memB x.x.inn) = false) := by
          show _ = _
          rw [Bool.eq_false_iff]
          intro q
          have q2 := List.all_eq_true.1 q v HME.out
          rw [hx] at q2
          cases q2
        clear hall
        go_wp2_with (refine HS1.out.mono ?_; rintro e w' ⟨rfl, rfl⟩)
        go_ret
        exact ⟨⟨_, rfl, by rw [hno.out]; exact decide_eq_true (by omega)⟩, rfl⟩
    · obtain rfl : k = l.length := by omega
      have q2 : decide ((l.length : Int) < (l.length : Int)) = false := decide_eq_false (by omega)
      rw [List.take_length] at hall
      have HR : Hid (l.all (memB x.x.inn) = true) := List.all_eq_true.2 hall
      clear hall
      go_wp2
      go_ret
      exact ⟨⟨_, rfl, by rw [HR.out]; rfl⟩, rfl⟩

theorem strangers_any (a : Option Addr) (c : Nat) (l : List Int) (x : PsH) (P : Nat) (w : World) (h : IvIn w a l) (hl : l.length ≤ maxLen) (hB : Blk w P 59 (psC x)) (hI : IvIn w x.ia x.x.inn) (hlen : x.x.inn.length ≤ maxLen) :
    Calls Try.prog 54 #[.slice a l.length c, .func (.func 51) #[] #[.pointer (some ⟨P, 0, none⟩)]] w fun e w' => e = .returned (.bool (!(l.all (memB x.x.inn)))) ∧ w = w' := by
  have HI := Lib.hid (strangers_index a c l x P w h hl hB hI hlen)
  go_enter Try.func54, Try.ntmps54
  go_wp2_with (refine HI.out.mono ?_; rintro e w' ⟨⟨r, rfl, hr⟩, rfl⟩)
  go_ret
  exact ⟨by rw [← hr]; rfl, rfl⟩

set_option maxHeartbeats 1600000 in
theorem psRight_any (x : PsH) (w : World) (h : PsOk w x) :
    Calls Try.prog 30 #[.agg (psC x)] w fun e w' => e = .returned (.bool (okPs x.x)) ∧ Below w.heap.size w w' := by
  have hb0 : Below w.heap.size w (w.alloc (.cells (psC x) 59)) := (Below.refl _ _).alloc (Nat.le_refl _) _
  have hB := Blk.new w 59 (psC x)
  have h1 := h.below hb0
  have HL1 := Lib.hid (isList_any x.ia x.ic x.x.inn _ h1.i (Nat.le_trans h1.ic h1.im))
  have HL2 := Lib.hid (isList_any x.ba x.bc x.x.bare _ h1.b (Nat.le_trans h1.bc h1.bm))
  have HS := Lib.hid (strangers_any x.ba x.bc x.x.bare x w.heap.size _ h1.b (Nat.le_trans h1.bc h1.bm) hB h1.i (Nat.le_trans h1.ic h1.im))
  have HV := Lib.hid (isVid_any x.x.pv (w.alloc (.cells (psC x) 59)))
  have HT := Lib.hid (isState_any x.x.st (w.alloc (.cells (psC x) 59)))
  unfold okPs
  clear h1 h
  obtain ⟨⟨pv, inn, bare, st⟩, ia, ic, ba, bc⟩ := x
  unfold psC at *
  simp only at *
  generalize listB inn = l1 at *
  generalize listB bare = l2 at *
  generalize bare.all (memB inn) = l3 at *
  generalize vidB pv = l4 at *
  generalize stB st = l5 at *
  have c0 := hB.cv 0 _ rfl
  have c1 := hB.cv 1 _ rfl
  have c2 := hB.cv 2 _ rfl
  have c3 := hB.cv 3 _ rfl
  cases l4 <;> cases l5 <;> cases l1 <;> cases l2 <;> cases l3
  all_goals (
    go_enter Try.func30, Try.ntmps30
    go_wp2_with (first
      | (go_at_call 52; refine HV.out.mono ?_; rintro e w' ⟨rfl, rfl⟩)
      | (go_at_call 37; refine HT.out.mono ?_; rintro e w' ⟨rfl, rfl⟩)
      | (go_at_call 53; (first | (with_reducible refine HL1.out.mono ?_) | (with_reducible refine HL2.out.mono ?_)); rintro e w' ⟨rfl, rfl⟩)
      | (go_at_call 54; refine HS.out.mono ?_; rintro e w' ⟨rfl, rfl⟩))
    go_ret
    exact ⟨rfl, hb0⟩)

end Go.Proofs.Ytdceggekhhflgaa
