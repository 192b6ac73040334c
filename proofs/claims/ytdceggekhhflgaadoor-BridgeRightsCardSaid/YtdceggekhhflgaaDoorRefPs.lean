/- The reference's has, rises, PortSetRight. -/
import Derived.Test.YtdceggekhhflgaaDoorBrR
import Derived.Test.YtdceggekhhflgaaDoorWithin
namespace Go.Proofs.YtdceggekhhflgaaDoor
open Go.RowKit
attribute [local go_sem ↓] Go.wp_at_zero Go.wp_at_succ
set_option linter.unusedSimpArgs false
set_option linter.unusedVariables false
set_option maxRecDepth 100000

theorem within_vid (n : Int) (w : World) :
    Calls Tryd.prog 17 #[.int .i64 n, .int .i64 1, .int .i64 4094] w fun e w' => e = .returned (.bool (vidB n)) ∧ w = w' := by
  unfold vidB
  by_cases h1 : 1 ≤ n
  · by_cases h2 : n ≤ 4094
    · rw [decide_eq_true h1, decide_eq_true h2]; exact within_yes n 1 4094 w h1 h2
    · rw [decide_eq_true h1, decide_eq_false h2]; exact within_no n 1 4094 w (by omega)
  · rw [decide_eq_false h1]; exact within_no n 1 4094 w (by omega)

theorem within_st (n : Int) (w : World) :
    Calls Tryd.prog 17 #[.int .i64 n, .int .i64 1, .int .i64 3] w fun e w' => e = .returned (.bool (stB n)) ∧ w = w' := by
  by_cases h : 1 ≤ n ∧ n ≤ 3
  · have : stB n = true := by
      unfold stB
      have : n = 1 ∨ n = 2 ∨ n = 3 := by omega
      rcases this with rfl | rfl | rfl <;> rfl
    rw [this]
    exact within_yes n 1 3 w h.1 h.2
  · have : stB n = false := by
      unfold stB
      rw [beq_eq_false_iff_ne.2 (show n ≠ 1 by omega), beq_eq_false_iff_ne.2 (show n ≠ 2 by omega), beq_eq_false_iff_ne.2 (show n ≠ 3 by omega)]
      rfl
    rw [this]
    exact within_no n 1 3 w (by omega)

set_option maxHeartbeats 1600000 in
theorem rhas_any (a : Option Addr) (c : Nat) (l : List Int) (v : Int) (w : World) (h : IvIn w a l) (hlen : l.length ≤ maxLen) :
    Calls Tryd.prog 16 #[.slice a l.length c, .int .i64 v] w fun e w' => e = .returned (.bool (memB l v)) ∧ w = w' := by
  have hll : l.length ≤ 9223372036854775807 := hlen
  have HLEN := Lib.hid hlen
  clear hlen
  go_enter Tryd.func16, Tryd.ntmps16
  go_wp2_with fail
  go_loopw [9] (fun i wr => ∃ k : Nat, k ≤ l.length ∧ i = .int .i64 k ∧ (∀ j (hj : j < l.length), j < k → l[j] ≠ v) ∧ w = wr) (fun i _ => l.length - (intOf i).toNat)
  case atStart => exact ⟨0, by omega, rfl, by omega, rfl⟩
  case round =>
    obtain ⟨k, hk, rfl, hall, rfl⟩ := hrel
    by_cases hlt : k < l.length
    · obtain ⟨b, lo, rfl, hbl, hat⟩ := h.at hlt
      have q1 : (k : Int) < (l.length : Int) := by omega
      have q2 : decide ((k : Int) < (l.length : Int)) = true := decide_eq_true q1
      have q3 : (0 : Int) ≤ (k : Int) := by omega
      have q4 : IntKind.i64.wrap ((k : Int) + 1) = (k : Int) + 1 := by rw [IntKind.wrap_i64] <;> omega
      have hcell : w.cell? ⟨b, lo + k, none⟩ = some (.int .i64 l[k]) := by have := hat k hlt 0 _ rfl; rwa [Nat.mul_one, Nat.add_zero] at this
      by_cases hx : l[k] = v
      · have HM := Lib.hid (memB_true hlt hx)
        rw [hx] at hcell
        have hd2 : (v == v) = true := by simp
        clear hall hx h hat
        go_wp2
        go_ret
        exact ⟨by rw [HM.out]; rfl, rfl⟩
      · have hd : (l[k] == v) = false := by simpa using hx
        have HN : Hid (∀ j (hj : j < l.length), j < k + 1 → l[j] ≠ v) := fun j hj hjk => by
          by_cases e : j = k
          · subst e; exact hx
          · exact hall j hj (by omega)
        clear hall hx h hat
        generalize l[k] = x at *
        go_wp2
        go_roundw
        case rel => exact ⟨k + 1, by omega, by go_num, HN.out, trivial⟩
        case measure => simp [intOf]; omega
    · obtain rfl : k = l.length := by omega
      have q2 : decide ((l.length : Int) < (l.length : Int)) = false := decide_eq_false (by omega)
      have HM := Lib.hid (memB_false (l := l) (v := v) (fun j hj => hall j hj hj))
      clear hall
      go_wp2
      go_ret
      exact ⟨by rw [HM.out]; rfl, rfl⟩

set_option maxHeartbeats 1600000 in
theorem rises_any (a : Option Addr) (c : Nat) (l : List Int) (w : World) (h : IvIn w a l) (hlen : l.length ≤ maxLen) :
    Calls Tryd.prog 18 #[.slice a l.length c] w fun e w' => e = .returned (.bool (riseB l)) ∧ w = w' := by
  have hll : l.length ≤ 9223372036854775807 := hlen
  have HLEN := Lib.hid hlen
  have HV := Lib.hid (fun n w => within_vid n w)
  clear hlen
  go_enter Tryd.func18, Tryd.ntmps18
  go_wp2_with fail
  go_loopw [7] (fun i wr => ∃ k : Nat, k ≤ l.length ∧ i = .int .i64 k ∧ (∀ j, j < k → upAt l j = true) ∧ w = wr) (fun i _ => l.length - (intOf i).toNat)
  case atStart => exact ⟨0, by omega, rfl, by omega, rfl⟩
  case round =>
    obtain ⟨k, hk, rfl, hall, rfl⟩ := hrel
    by_cases hlt : k < l.length
    · obtain ⟨b, lo, rfl, hbl, hat⟩ := h.at hlt
      have q1 : (k : Int) < (l.length : Int) := by omega
      have q2 : decide ((k : Int) < (l.length : Int)) = true := decide_eq_true q1
      have q3 : (0 : Int) ≤ (k : Int) := by omega
      have q4 : IntKind.i64.wrap ((k : Int) + 1) = (k : Int) + 1 := by rw [IntKind.wrap_i64] <;> omega
      have hcell := hat.cell k hlt
      have HU := Lib.hid (upAt_at hlt)
      have HF : Hid (upAt l k = false → riseB l = false) := fun q => riseB_false hlt q
      have HN : Hid (upAt l k = true → ∀ j, j < k + 1 → upAt l j = true) := fun q j hj => by
        by_cases e : j = k
        · subst e; exact q
        · exact hall j (by omega)
      have HP : Hid (k ≠ 0 → ∃ (y : Int), w.cell? ⟨b, lo + (k - 1), none⟩ = some (.int .i64 y) ∧ l.getD (k - 1) 0 = y) := fun q => ⟨l[k - 1]'(by omega), hat.cell (k - 1) (by omega), by rw [List.getD_eq_getElem?_getD, List.getElem?_eq_getElem (by omega)]; rfl⟩
      clear hall h hat
      generalize l[k] = x at *
      generalize upAt l k = u at *
      cases hv : vidB x with
      | false =>
        have HR := Lib.hid (HF.out (by rw [HU.out, hv]; rfl))
        clear HF HN HU HP
        go_wp2_with (go_at_call 17; refine (HV.out _ _).mono ?_; rintro e w' ⟨rfl, rfl⟩; rw [hv])
        go_ret
        exact ⟨by rw [HR.out]; rfl, rfl⟩
      | true =>
        by_cases k0 : k = 0
        · have HR := Lib.hid (HN.out (by rw [HU.out, hv, k0]; rfl))
          have d2 : decide ((0 : Int) < (k : Int)) = false := decide_eq_false (by omega)
          have d2n : decide (0 < k) = false := decide_eq_false (by omega)
          have d2m : ¬ (0 < k) := by omega
          have K0 := Lib.hid k0
          clear HF HN HU HP k0
          go_wp2_with (go_at_call 17; refine (HV.out _ _).mono ?_; rintro e w' ⟨rfl, rfl⟩; rw [hv])
          go_roundw
          case rel => exact ⟨k + 1, by omega, by go_num, HR.out, trivial⟩
          case measure => simp [intOf]; omega
        · obtain ⟨y, hy, hg⟩ := HP.out k0
          have d2 : decide ((0 : Int) < (k : Int)) = true := decide_eq_true (by omega)
          have d2n : decide (0 < k) = true := decide_eq_true (by omega)
          have d2m : 0 < k := by omega
          obtain ⟨z, q5, q6, q7, q8⟩ : ∃ z : Int, wrap64 ((k : Int) - 1) = z ∧ z < (l.length : Int) ∧ 0 ≤ z ∧ z.toNat = k - 1 := ⟨_, rfl, by unfold wrap64; omega, by unfold wrap64; omega, by unfold wrap64; omega⟩
          rw [← q8] at hy
          have q9 : IntKind.i64.wrap ((k : Int) - 1) = z := by rw [← q5]; unfold wrap64; rw [IntKind.wrap_i64] <;> omega
          have K0 := Lib.hid k0
          have HUE : Hid (u = decide (y < x)) := by show _ = _; rw [HU.out, hv, hg, decide_eq_false k0]; rfl
          clear HU HP k0 hg q8
          by_cases hyx : y < x
          · have d3 : decide (x ≤ y) = false := decide_eq_false (by omega)
            have HR := Lib.hid (HN.out (by rw [HUE.out]; exact decide_eq_true hyx))
            clear HF HN HUE
            go_wp2_with (go_at_call 17; refine (HV.out _ _).mono ?_; rintro e w' ⟨rfl, rfl⟩; rw [hv])
            go_roundw
            case rel => exact ⟨k + 1, by omega, by go_num, HR.out, trivial⟩
            case measure => simp [intOf]; omega
          · have d3 : decide (x ≤ y) = true := decide_eq_true (by omega)
            have HR := Lib.hid (HF.out (by rw [HUE.out]; exact decide_eq_false hyx))
            clear HF HN HUE
            go_wp2_with (go_at_call 17; refine (HV.out _ _).mono ?_; rintro e w' ⟨rfl, rfl⟩; rw [hv])
            go_ret
            exact ⟨by rw [HR.out]; rfl, rfl⟩
    · obtain rfl : k = l.length := by omega
      have q2 : decide ((l.length : Int) < (l.length : Int)) = false := decide_eq_false (by omega)
      have HR := Lib.hid (riseB_true (fun j hj => hall j hj))
      clear hall
      go_wp2
      go_ret
      exact ⟨by rw [HR.out]; rfl, rfl⟩

/-- Rising numbers that are all in a list are no more than it has. -/
theorem rise_lt {l : List Int} (h : riseB l = true) : ∀ i j (hj : j < l.length) (hij : i < j), l[i]'(by omega) < l[j] := by
  intro i j
  induction j with
  | zero => intro _ h; omega
  | succ j ih =>
    intro hj hij
    unfold riseB at h
    have hu := List.all_eq_true.1 h (j + 1) (List.mem_range.2 hj)
    rw [upAt_at hj] at hu
    simp only [Bool.and_eq_true, Bool.or_eq_true, decide_eq_true_eq] at hu
    have h1 : l[j]'(by omega) < l[j + 1] := by
      rcases hu.2 with q | q
      · omega
      · rwa [Nat.add_sub_cancel, List.getD_eq_getElem?_getD, List.getElem?_eq_getElem (by omega)] at q
    by_cases e : i = j
    · subst e; exact h1
    · exact Int.lt_trans (ih (by omega) (by omega)) h1

theorem rise_few {l m : List Int} (h : riseB l = true) (hm : l.all (memB m) = true) : l.length ≤ m.length := by
  have hp : l.Pairwise (· ≠ ·) := List.pairwise_iff_getElem.2 fun i j hi hj hij => Int.ne_of_lt (rise_lt h i j hj hij)
  refine (List.nodup_iff_pairwise_ne.2 hp).length_le_of_subset fun x hx => ?_
  have hq := List.all_eq_true.1 hm x hx
  unfold memB at hq
  rw [List.any_eq_true] at hq
  obtain ⟨y, hy, he⟩ := hq
  have : y = x := by simpa using he
  rw [← this]; exact hy

theorem okR_eq (p : Ps) : (p.bare.all (memB p.inn) && (vidB p.pv && (stB p.st && (decide (p.inn.length ≤ 64) && (riseB p.inn && riseB p.bare))))) = okPs p := by
  unfold okPs listB
  rw [Bool.eq_iff_iff]
  simp only [Bool.and_eq_true, decide_eq_true_eq]
  constructor
  · rintro ⟨h1, h2, h3, h4, h5, h6⟩
    exact ⟨h2, h3, ⟨h4, h5⟩, ⟨Nat.le_trans (rise_few h6 h1) h4, h6⟩, h1⟩
  · rintro ⟨h2, h3, ⟨h4, h5⟩, ⟨_, h6⟩, h1⟩
    exact ⟨h1, h2, h3, h4, h5, h6⟩

set_option maxHeartbeats 3200000 in
theorem psRef_out (x : PsH) (w : World) (h : PsOk w x) (hall0 : x.x.bare.all (memB x.x.inn) = false) :
    Calls Tryd.prog 5 #[.agg (psC x)] w fun e w' => e = .returned (.bool false) ∧ Below w.heap.size w w' := by
  have hb0 : Below w.heap.size w (w.alloc (.cells (psC x) 25)) := (Below.refl _ _).alloc (Nat.le_refl _) _
  have hB := Blk.new w 25 (psC x)
  have h1 := h.below hb0
  have hil := Nat.le_trans h1.ic h1.im
  have hbl := Nat.le_trans h1.bc h1.bm
  have HH := Lib.hid (fun v => rhas_any x.ia x.ic x.x.inn v _ h1.i hil)
  have HR1 := Lib.hid (rises_any x.ia x.ic x.x.inn _ h1.i hil)
  have HR2 := Lib.hid (rises_any x.ba x.bc x.x.bare _ h1.b hbl)
  have HV := Lib.hid (within_vid x.x.pv (w.alloc (.cells (psC x) 25)))
  have HT := Lib.hid (within_st x.x.st (w.alloc (.cells (psC x) 25)))
  have hIb := h1.b
  clear h1 h hil
  obtain ⟨⟨pv, inn, bare, st⟩, ia, ic, ba, bc⟩ := x
  unfold psC at *
  simp only at *
  have hll : bare.length ≤ 9223372036854775807 := hbl
  have c0 := hB.cv 0 _ rfl
  have c1 := hB.cv 1 _ rfl
  have c2 := hB.cv 2 _ rfl
  have c3 := hB.cv 3 _ rfl
  have HF := Lib.hid hall0
  clear hall0 HR1 HR2 HV HT
  clear hbl
  go_enter Tryd.func5, Tryd.ntmps5
  go_upto_region 1 with (fail)
  generalize w.alloc (.cells #[.int .i64 pv, .slice ia inn.length ic, .slice ba bare.length bc, .int .i64 st] 25) = w1 at *
  go_wp2_with fail
  go_loopw [8] (fun i wr => ∃ k : Nat, k ≤ bare.length ∧ i = .int .i64 k ∧ (∀ y ∈ bare.take k, memB inn y = true) ∧ w1 = wr) (fun i _ => bare.length - (intOf i).toNat)
  case atStart => exact ⟨0, by omega, rfl, by simp, rfl⟩
  case round =>
    obtain ⟨k, hk, rfl, hall, rfl⟩ := hrel
    by_cases hlt : k < bare.length
    · obtain ⟨b, lo, rfl, hbl, hat⟩ := hIb.at hlt
      have q1 : (k : Int) < (bare.length : Int) := by omega
      have q2 : decide ((k : Int) < (bare.length : Int)) = true := decide_eq_true q1
      have q3 : (0 : Int) ≤ (k : Int) := by omega
      have q4 : IntKind.i64.wrap ((k : Int) + 1) = (k : Int) + 1 := by rw [IntKind.wrap_i64] <;> omega
      have hcell := hat.cell k hlt
      have hsn := Lib.hid (show bare.take (k + 1) = bare.take k ++ [bare[k]] by rw [List.take_add_one, List.getElem?_eq_getElem hlt]; rfl)
      have HME := Lib.hid (List.getElem_mem hlt)
      have HS1 := Lib.hid (HH.out bare[k])
      generalize bare[k] = v at *
      clear hat hIb HH
      cases hx : memB inn v with
      | true =>
        rw [hx] at HS1
        go_wp2_with (refine HS1.out.mono ?_; rintro e w' ⟨rfl, rfl⟩)
        go_roundw
        case rel => exact ⟨k + 1, by omega, by go_num, by
          rw [hsn.out]
          intro y hy
          rcases List.mem_append.1 hy with q | q
          · exact hall y q
          · rw [List.mem_singleton.1 q]; exact hx, trivial⟩
        case measure => simp [intOf]; omega
      | false =>
        rw [hx] at HS1
        clear hall
        go_wp2_with (refine HS1.out.mono ?_; rintro e w' ⟨rfl, rfl⟩)
        go_ret
        exact ⟨rfl, hb0⟩
    · obtain rfl : k = bare.length := by omega
      have q2 : decide ((bare.length : Int) < (bare.length : Int)) = false := decide_eq_false (by omega)
      rw [List.take_length] at hall
      exact absurd (List.all_eq_true.2 hall) (by rw [HF.out]; decide)

set_option maxHeartbeats 3200000 in
theorem psRef_in (x : PsH) (w : World) (h : PsOk w x) (hall0 : x.x.bare.all (memB x.x.inn) = true) (b1 b2 b3 b4 b5 : Bool) (e1 : vidB x.x.pv = b1) (e2 : stB x.x.st = b2) (e3 : decide (x.x.inn.length ≤ 64) = b3) (e4 : riseB x.x.inn = b4) (e5 : riseB x.x.bare = b5) :
    Calls Tryd.prog 5 #[.agg (psC x)] w fun e w' => e = .returned (.bool (b1 && (b2 && (b3 && (b4 && b5))))) ∧ Below w.heap.size w w' := by
  have hb0 : Below w.heap.size w (w.alloc (.cells (psC x) 25)) := (Below.refl _ _).alloc (Nat.le_refl _) _
  have hB := Blk.new w 25 (psC x)
  have h1 := h.below hb0
  have hil := Nat.le_trans h1.ic h1.im
  have hbl := Nat.le_trans h1.bc h1.bm
  have HH := Lib.hid (fun v => rhas_any x.ia x.ic x.x.inn v _ h1.i hil)
  have HR1 := Lib.hid (rises_any x.ia x.ic x.x.inn _ h1.i hil)
  have HR2 := Lib.hid (rises_any x.ba x.bc x.x.bare _ h1.b hbl)
  have HV := Lib.hid (within_vid x.x.pv (w.alloc (.cells (psC x) 25)))
  have HT := Lib.hid (within_st x.x.st (w.alloc (.cells (psC x) 25)))
  have hIb := h1.b
  clear h1 h hil
  obtain ⟨⟨pv, inn, bare, st⟩, ia, ic, ba, bc⟩ := x
  unfold psC at *
  simp only at *
  have hll : bare.length ≤ 9223372036854775807 := hbl
  have c0 := hB.cv 0 _ rfl
  have c1 := hB.cv 1 _ rfl
  have c2 := hB.cv 2 _ rfl
  have c3 := hB.cv 3 _ rfl
  have HF := Lib.hid hall0
  have d3 : decide ((inn.length : Int) ≤ 64) = b3 := by
    rw [← e3]
    exact decide_eq_decide.2 (by omega)
  rw [e1] at HV
  rw [e2] at HT
  rw [e4] at HR1
  rw [e5] at HR2
  clear hall0 e1 e2 e4 e5
  have way : b1 = false ∨ (b1 = true ∧ b2 = false) ∨ (b1 = true ∧ b2 = true ∧ b3 = false) ∨ (b1 = true ∧ b2 = true ∧ b3 = true ∧ b4 = false) ∨ (b1 = true ∧ b2 = true ∧ b3 = true ∧ b4 = true ∧ b5 = false) ∨ (b1 = true ∧ b2 = true ∧ b3 = true ∧ b4 = true ∧ b5 = true) := by
    cases b1 <;> cases b2 <;> cases b3 <;> cases b4 <;> cases b5 <;> simp
  rcases way with rfl | ⟨rfl, rfl⟩ | ⟨rfl, rfl, rfl⟩ | ⟨rfl, rfl, rfl, rfl⟩ | ⟨rfl, rfl, rfl, rfl, rfl⟩ | ⟨rfl, rfl, rfl, rfl, rfl⟩
  all_goals (
    clear hbl
    go_enter Tryd.func5, Tryd.ntmps5
    go_upto_region 1 with (fail)
    generalize w.alloc (.cells #[.int .i64 pv, .slice ia inn.length ic, .slice ba bare.length bc, .int .i64 st] 25) = w1 at *
    go_wp2_with fail
    go_loopw [8] (fun i wr => ∃ k : Nat, k ≤ bare.length ∧ i = .int .i64 k ∧ (∀ y ∈ bare.take k, memB inn y = true) ∧ w1 = wr) (fun i _ => bare.length - (intOf i).toNat)
    case atStart => exact ⟨0, by omega, rfl, by simp, rfl⟩
    case round =>
      obtain ⟨k, hk, rfl, hall, rfl⟩ := hrel
      by_cases hlt : k < bare.length
      · obtain ⟨b, lo, rfl, hbl, hat⟩ := hIb.at hlt
        have q1 : (k : Int) < (bare.length : Int) := by omega
        have q2 : decide ((k : Int) < (bare.length : Int)) = true := decide_eq_true q1
        have q3 : (0 : Int) ≤ (k : Int) := by omega
        have q4 : IntKind.i64.wrap ((k : Int) + 1) = (k : Int) + 1 := by rw [IntKind.wrap_i64] <;> omega
        have hcell := hat.cell k hlt
        have hsn := Lib.hid (show bare.take (k + 1) = bare.take k ++ [bare[k]] by rw [List.take_add_one, List.getElem?_eq_getElem hlt]; rfl)
        have HME := Lib.hid (List.getElem_mem hlt)
        have HS1 := Lib.hid (HH.out bare[k])
        generalize bare[k] = v at *
        clear hat hIb HH
        have hx : memB inn v = true := List.all_eq_true.1 HF.out v HME.out
        rw [hx] at HS1
        go_wp2_with (refine HS1.out.mono ?_; rintro e w' ⟨rfl, rfl⟩)
        go_roundw
        case rel => exact ⟨k + 1, by omega, by go_num, by
          rw [hsn.out]
          intro y hy
          rcases List.mem_append.1 hy with q | q
          · exact hall y q
          · rw [List.mem_singleton.1 q]; exact hx, trivial⟩
        case measure => simp [intOf]; omega
      · obtain rfl : k = bare.length := by omega
        have q2 : decide ((bare.length : Int) < (bare.length : Int)) = false := decide_eq_false (by omega)
        rw [List.take_length] at hall
        have e3n := Lib.hid e3
        clear hall e3
        go_wp2_with (first
          | (go_at_call 17; (first | (with_reducible refine HV.out.mono ?_) | (with_reducible refine HT.out.mono ?_)); rintro e w' ⟨rfl, rfl⟩)
          | (go_at_call 18; (first | (with_reducible refine HR1.out.mono ?_) | (with_reducible refine HR2.out.mono ?_)); rintro e w' ⟨rfl, rfl⟩))
        go_ret
        exact ⟨rfl, hb0⟩)

theorem psRef_any (x : PsH) (w : World) (h : PsOk w x) :
    Calls Tryd.prog 5 #[.agg (psC x)] w fun e w' => e = .returned (.bool (okPs x.x)) ∧ Below w.heap.size w w' := by
  rw [← okR_eq]
  cases hall : x.x.bare.all (memB x.x.inn) with
  | false => exact psRef_out x w h hall
  | true =>
    have := psRef_in x w h hall _ _ _ _ _ rfl rfl rfl rfl rfl
    rw [Bool.true_and]
    exact this

end Go.Proofs.YtdceggekhhflgaaDoor
