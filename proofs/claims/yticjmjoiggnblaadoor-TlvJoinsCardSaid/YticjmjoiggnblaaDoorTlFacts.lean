/- switchyardkeep.listed, fits: every argument. -/
import Derived.Test.YticjmjoiggnblaaDoorTlWrite
import Derived.Test.YticjmjoiggnblaaDoorTlRead
import Derived.Test.YticjmjoiggnblaaDoorTlEq
import Derived.Test.YticjmjoiggnblaaDoorPlaced
namespace Go.Proofs.YticjmjoiggnblaaDoor
open Go.RowKit
attribute [local go_sem ↓] Go.wp_at_zero Go.wp_at_succ
set_option linter.unusedSimpArgs false
set_option linter.unusedVariables false
set_option maxRecDepth 100000

set_option maxHeartbeats 6400000 in
/-- slices.Equal of lists of numbers that are the same. -/
theorem eqNis_any (a1 : Option Addr) (c1 : Nat) (a2 : Option Addr) (c2 : Nat) (l : List Nat) (w : World) (h1 : NiIn w a1 l) (h2 : NiIn w a2 l) (hlen : l.length ≤ 1000000) :
    Calls Tryd.prog 56 #[.slice a1 l.length c1, .slice a2 l.length c2] w fun e w' => e = .returned (.bool true) ∧ Below w.heap.size w w' := by
  go_enter Tryd.func56, Tryd.ntmps56
  go_wp2_with fail
  go_loopw [13] (fun i wr => ∃ k : Nat, k ≤ l.length ∧ i = .int .i64 k ∧ Below w.heap.size w wr) (fun i _ => l.length - (intOf i).toNat)
  case atStart => exact ⟨0, by omega, rfl, Below.refl _ _⟩
  case round =>
    obtain ⟨k, hk, rfl, hb⟩ := hrel
    by_cases hlt : k < l.length
    · obtain ⟨b1, o1, rfl, hb1, hat1⟩ := h1.at hlt
      obtain ⟨b2, o2, rfl, hb2, hat2⟩ := h2.at hlt
      have q1 : (k : Int) < (l.length : Int) := by omega
      have q2 : decide ((k : Int) < (l.length : Int)) = true := decide_eq_true q1
      have q3 : (0 : Int) ≤ (k : Int) := by omega
      have HK1 : wr.cell? ⟨b1, o1 + k, none⟩ = some (.int .i64 (l[k] : Nat)) := by
        have q := ((hat1 k hlt).below hb hb1) 0 (.int .i64 (l[k] : Nat)) rfl
        rw [Nat.mul_one, Nat.add_zero] at q
        exact q
      have HK2 : wr.cell? ⟨b2, o2 + k, none⟩ = some (.int .i64 (l[k] : Nat)) := by
        have q := ((hat2 k hlt).below hb hb2) 0 (.int .i64 (l[k] : Nat)) rfl
        rw [Nat.mul_one, Nat.add_zero] at q
        exact q
      generalize l[k] = z at *
      have e1 : ((z : Int) != (z : Int)) = false := by simp
      clear hat1 hat2
      go_upto_region 6 with (fail)
      refine wp_region_noPanic ?_
      refine wp_region_held_drew (S := (fun w' => w'.cell? ⟨b1, o1 + k, none⟩ = some (.int .i64 (z : Nat)) ∧ w'.cell? ⟨b2, o2 + k, none⟩ = some (.int .i64 (z : Nat)))) (by kernel_rfl) ?_ (fun hHeld => ?_)
      · exact ⟨HK1, HK2⟩
      refine wpAnyH_take (i := 0) (v := ?_) rfl (by kernel_rfl) (by kernel_rfl) (by kernel_rfl) (fun _ _ _ h => h) (Or.inl ⟨by rfl, ?_⟩) (by assumption) ?_
      rotate_left
      · (intro w hSw; (try dsimp only at hSw); go_simp; (try with_reducible rfl))
      (try simp only [Act.put, List.getElem_toArray, List.getElem_cons_zero, List.getElem_cons_succ, List.setIfInBounds_toArray, List.set_cons_zero, List.set_cons_succ])
      refine wpAnyH_take (i := 1) (v := ?_) rfl (by kernel_rfl) (by kernel_rfl) (by kernel_rfl) (fun _ _ _ h => h) (Or.inl ⟨by rfl, ?_⟩) (by assumption) ?_
      rotate_left
      · (intro w hSw; (try dsimp only at hSw); go_simp; (try with_reducible rfl))
      (try simp only [Act.put, List.getElem_toArray, List.getElem_cons_zero, List.getElem_cons_succ, List.setIfInBounds_toArray, List.set_cons_zero, List.set_cons_succ])
      refine wpAnyH_take (i := 2) (v := ?_) rfl (by kernel_rfl) (by kernel_rfl) (by kernel_rfl) (fun _ _ _ h => h) (Or.inl ⟨by rfl, ?_⟩) (by assumption) ?_
      rotate_left
      · (intro w hSw; (try dsimp only at hSw); go_simp; (try with_reducible rfl))
      (try simp only [Act.put, List.getElem_toArray, List.getElem_cons_zero, List.getElem_cons_succ, List.setIfInBounds_toArray, List.set_cons_zero, List.set_cons_succ])
      refine wpAnyH_take (i := 3) (v := .int .i64 (z : Nat)) rfl (by kernel_rfl) (by kernel_rfl) (by kernel_rfl) (fun _ _ _ h => h) (Or.inl ⟨by rfl, fun w hSw => by have c := hSw.1; go_simp⟩) (by assumption) ?_
      (try simp only [Act.put, List.getElem_toArray, List.getElem_cons_zero, List.getElem_cons_succ, List.setIfInBounds_toArray, List.set_cons_zero, List.set_cons_succ])
      refine wpAnyH_take (i := 4) (v := ?_) rfl (by kernel_rfl) (by kernel_rfl) (by kernel_rfl) (fun _ _ _ h => h) (Or.inl ⟨by rfl, ?_⟩) (by assumption) ?_
      rotate_left
      · (intro w hSw; (try dsimp only at hSw); go_simp; (try with_reducible rfl))
      (try simp only [Act.put, List.getElem_toArray, List.getElem_cons_zero, List.getElem_cons_succ, List.setIfInBounds_toArray, List.set_cons_zero, List.set_cons_succ])
      refine wpAnyH_take (i := 5) (v := ?_) rfl (by kernel_rfl) (by kernel_rfl) (by kernel_rfl) (fun _ _ _ h => h) (Or.inl ⟨by rfl, ?_⟩) (by assumption) ?_
      rotate_left
      · (intro w hSw; (try dsimp only at hSw); go_simp; (try with_reducible rfl))
      (try simp only [Act.put, List.getElem_toArray, List.getElem_cons_zero, List.getElem_cons_succ, List.setIfInBounds_toArray, List.set_cons_zero, List.set_cons_succ])
      refine wpAnyH_take (i := 6) (v := ?_) rfl (by kernel_rfl) (by kernel_rfl) (by kernel_rfl) (fun _ _ _ h => h) (Or.inl ⟨by rfl, ?_⟩) (by assumption) ?_
      rotate_left
      · (intro w hSw; (try dsimp only at hSw); go_simp; (try with_reducible rfl))
      (try simp only [Act.put, List.getElem_toArray, List.getElem_cons_zero, List.getElem_cons_succ, List.setIfInBounds_toArray, List.set_cons_zero, List.set_cons_succ])
      refine wpAnyH_take (i := 7) (v := .int .i64 (z : Nat)) rfl (by kernel_rfl) (by kernel_rfl) (by kernel_rfl) (fun _ _ _ h => h) (Or.inl ⟨by rfl, fun w hSw => by have c := hSw.2; go_simp⟩) (by assumption) ?_
      (try simp only [Act.put, List.getElem_toArray, List.getElem_cons_zero, List.getElem_cons_succ, List.setIfInBounds_toArray, List.set_cons_zero, List.set_cons_succ])
      refine wpAnyH_take (i := 8) (v := ?_) rfl (by kernel_rfl) (by kernel_rfl) (by kernel_rfl) (fun _ _ _ h => h) (Or.inl ⟨by rfl, ?_⟩) (by assumption) ?_
      rotate_left
      · (intro w hSw; (try dsimp only at hSw); go_simp; (try with_reducible rfl))
      (try simp only [Act.put, List.getElem_toArray, List.getElem_cons_zero, List.getElem_cons_succ, List.setIfInBounds_toArray, List.set_cons_zero, List.set_cons_succ])
      refine wpAnyH_done (by kernel_rfl) ?_ _
      refine NoPanic.normal ?_
      have hbd := hb.drew
      go_wp2
      go_roundw
      case rel => exact ⟨k + 1, by omega, by go_num, hbd⟩
      case measure => simp [intOf]; omega
    · obtain rfl : k = l.length := by omega
      have q2 : decide ((l.length : Int) < (l.length : Int)) = false := decide_eq_false (by omega)
      go_wp2
      go_ret
      exact ⟨rfl, hb⟩

def list0 : List Tl := [⟨1, ⟨#[97, 98]⟩⟩, ⟨127, ⟨#[]⟩⟩]
theorem list0_write : tlWrite list0 = [2, 2, 97, 98, 254, 0, 0, 0] := by decide +kernel
theorem list0_read : rdAll [2, 2, 97, 98, 254, 0, 0, 0] = .ok list0 [0, 4] 6 := by kernel_rfl
theorem list0_in (w w1 : World) (g : Nat) (h : Blk w1 g 24 #[.int .i64 1, .string ⟨#[97, 98]⟩, .int .i64 127, .string ⟨#[]⟩]) : TlIn w1 (some ⟨g, 0, none⟩) list0 := by
  refine Or.inr ⟨g, 0, rfl, h.lt, fun j hj k c hc => ?_⟩
  have hj : j < 2 := hj
  match j, hj with
  | 0, _ => exact h.cv (0 + 0 * 2 + k) c (by
      match k, hc with
      | 0, hc => exact hc
      | 1, hc => exact hc)
  | 1, _ => exact h.cv (0 + 1 * 2 + k) c (by
      match k, hc with
      | 0, hc => exact hc
      | 1, hc => exact hc)
theorem at0_in (w1 : World) (g : Nat) (h : Blk w1 g 3 #[.int .i64 0, .int .i64 4]) : NiIn w1 (some ⟨g, 0, none⟩) [0, 4] := by
  refine Or.inr ⟨g, 0, rfl, h.lt, fun j hj k c hc => ?_⟩
  have hj : j < 2 := hj
  match j, hj with
  | 0, _ => exact h.cv (0 + 0 * 1 + k) c (by
      match k, hc with
      | 0, hc => exact hc)
  | 1, _ => exact h.cv (0 + 1 * 1 + k) c (by
      match k, hc with
      | 0, hc => exact hc)
set_option maxHeartbeats 6400000 in
theorem listed_any (w : World) : Calls Tryd.prog 16 #[] w fun e w' => e = .returned (.bool true) ∧ Below w.heap.size w w' := by
  obtain ⟨i0, hi, hz0, hz1, hz2⟩ := info_parts Tryd.tlParts
  have HW : Hid (∀ (a : Option Addr) (W : World), TlIn W a list0 → Calls Tryd.prog 12 #[.slice a 2 2] W fun e w' => ∃ er, e = .returned (.tuple #[.string ⟨#[2, 2, 97, 98, 254, 0, 0, 0]⟩, er]) ∧ ErrAs w' er 0 (-1) ∧ Below W.heap.size W w') := fun a W h =>
    tlWrite_any a 2 list0 2 (by decide) (by decide +kernel) (by decide) [2, 2, 97, 98, 254, 0, 0, 0] 0 (-1) (Or.inl ⟨rfl, list0_write.symm, rfl, rfl⟩) W h
  have HR : Hid (∀ (W : World), Calls Tryd.prog 15 #[.string ⟨#[2, 2, 97, 98, 254, 0, 0, 0]⟩] W fun e w' => ∃ v1 v2 er, e = .returned (.tuple #[v1, v2, .int .i64 6, er]) ∧ OwnTl w' W.heap.size v1 list0 ∧ OwnNat w' W.heap.size v2 [0, 4] ∧ ErrAs w' er 0 (-1) ∧ Below W.heap.size W w') := fun W =>
    tlRead_any ⟨#[2, 2, 97, 98, 254, 0, 0, 0]⟩ W (by decide) (.ok list0 [0, 4] 6) list0_read
  have HE1 : Hid (∀ (a1 a2 : Option Addr) (c1 : Nat) (W : World), TlIn W a1 list0 → TlIn W a2 list0 → Calls Tryd.prog 18 #[.slice a1 2 c1, .slice a2 2 2] W fun e w' => e = .returned (.bool true) ∧ Below W.heap.size W w') := fun a1 a2 c1 W h1 h2 => eqTls_any a1 c1 a2 2 list0 W h1 h2 (by decide)
  have HE2 : Hid (∀ (a1 a2 : Option Addr) (c1 : Nat) (W : World), NiIn W a1 [0, 4] → NiIn W a2 [0, 4] → Calls Tryd.prog 56 #[.slice a1 2 c1, .slice a2 2 2] W fun e w' => e = .returned (.bool true) ∧ Below W.heap.size W w') := fun a1 a2 c1 W h1 h2 => eqNis_any a1 c1 a2 2 [0, 4] W h1 h2 (by decide)
  go_enter Tryd.func16, Tryd.ntmps16
  have B1 : Below w.heap.size w (w.alloc (.cells #[.int .i64 1, .string ⟨#[97, 98]⟩, .int .i64 127, .string ⟨#[]⟩] 24)) := (Below.refl _ _).alloc (Nat.le_refl _) _
  have I1 := list0_in w _ w.heap.size (Blk.new w 24 #[.int .i64 1, .string ⟨#[97, 98]⟩, .int .i64 127, .string ⟨#[]⟩])
  go_wp2_with fail
  refine (HW.out _ _ I1).mono ?_
  rintro e w2 ⟨er, rfl, hp2, b2⟩
  have B2 := B1.trans (b2.mono B1.size)
  rcases hp2 with ⟨rfl, -, -⟩ | ⟨q, -⟩
  rotate_left
  · exact absurd rfl q
  go_wp2_with fail
  refine (HR.out _).mono ?_
  rintro e w3 ⟨v1, v2, er, rfl, O1, O2, hp3, b3⟩
  have B3 := B2.trans (b3.mono B2.size)
  rcases hp3 with ⟨rfl, -, -⟩ | ⟨q, -⟩
  rotate_left
  · exact absurd rfl q
  obtain ⟨a1, c1, hv1, J1⟩ := O1.inL
  subst hv1
  obtain ⟨a2, c2, hv2, J2⟩ := O2.inL
  subst hv2
  clear O1 O2 B1 B2 I1 b2 b3
  have B4 := B3.alloc B3.size (.cells #[.int .i64 1, .string ⟨#[97, 98]⟩, .int .i64 127, .string ⟨#[]⟩] 24)
  have hb4 : Below w3.heap.size w3 (w3.alloc (.cells #[.int .i64 1, .string ⟨#[97, 98]⟩, .int .i64 127, .string ⟨#[]⟩] 24)) := (Below.refl _ _).alloc (Nat.le_refl _) _
  have I4 := list0_in w _ w3.heap.size (Blk.new w3 24 #[.int .i64 1, .string ⟨#[97, 98]⟩, .int .i64 127, .string ⟨#[]⟩])
  have J14 := J1.below hb4
  have J24 := J2.below hb4
  have el : list0.length = 2 := rfl
  simp only [el, List.length_cons, List.length_nil, Nat.zero_add, Nat.reduceAdd]
  go_wp2_with fail
  refine (HE1.out _ _ _ _ J14 I4).mono ?_
  rintro e w5 ⟨rfl, b5⟩
  have J25 := J24.below b5
  have B5 := B4.trans (b5.mono B4.size)
  have B6 := B5.alloc B5.size (.cells #[.int .i64 0, .int .i64 4] 3)
  have hb6 : Below w5.heap.size w5 (w5.alloc (.cells #[.int .i64 0, .int .i64 4] 3)) := (Below.refl _ _).alloc (Nat.le_refl _) _
  have I6 := at0_in _ w5.heap.size (Blk.new w5 3 #[.int .i64 0, .int .i64 4])
  have J26 := J25.below hb6
  go_wp2_with fail
  refine (HE2.out _ _ _ _ J26 I6).mono ?_
  rintro e w7 ⟨rfl, b7⟩
  go_wp2
  go_ret
  exact ⟨rfl, B6.trans (b7.mono B6.size)⟩

set_option maxHeartbeats 6400000 in
theorem fits_tl (a : Option Addr) (c : Nat) (l : List Tl) (hlm : l.length ≤ maxLen) : ∃ b : Bool, (b = true → l.length ≤ 40) ∧ ∀ (w : World), TlIn w a l → Calls Tryd.prog 17 #[.slice a l.length c] w fun e w' => e = .returned (.bool b) ∧ Below w.heap.size w w' := by
  have hll : l.length ≤ 9223372036854775807 := hlm
  clear hlm
  refine ⟨decide ((l.length : Int) ≤ 40) && decide (l.foldl (fun n x => IntKind.i64.wrap (n + (x.t.size : Int))) 0 ≤ 3000), fun h => ?_, fun w h => ?_⟩
  · rw [Bool.and_eq_true] at h
    have := of_decide_eq_true h.1
    omega
  have hfold : ∀ (k : Nat) (hk : k < l.length), (l.take (k + 1)).foldl (fun n x => IntKind.i64.wrap (n + (x.t.size : Int))) 0 = IntKind.i64.wrap ((l.take k).foldl (fun n x => IntKind.i64.wrap (n + (x.t.size : Int))) 0 + (l[k].t.size : Int)) := fun k hk => by
    rw [List.take_add_one, List.getElem?_eq_getElem hk, List.foldl_append]
    rfl
  obtain ⟨SM, hSM⟩ : ∃ SM : Nat → Int, SM = fun k => (l.take k).foldl (fun n x => IntKind.i64.wrap (n + (x.t.size : Int))) 0 := ⟨_, rfl⟩
  have hS0 : SM 0 = 0 := by rw [hSM]; rfl
  have hSn : l.foldl (fun n x => IntKind.i64.wrap (n + (x.t.size : Int))) 0 = SM l.length := by rw [hSM]; simp only [List.take_length]
  have hSs : Hid (∀ (k : Nat) (hk : k < l.length), IntKind.i64.wrap (SM k + (l[k].t.size : Int)) = SM (k + 1)) := fun k hk => by rw [hSM]; exact (hfold k hk).symm
  have HS0 := Lib.hid hS0
  rw [hSn]
  clear hfold hSM hSn hS0
  go_enter Tryd.func17, Tryd.ntmps17
  go_wp2_with fail
  go_loopw [3, 8] (fun n i wr => ∃ (k : Nat), k ≤ l.length ∧ i = .int .i64 k ∧ n = .int .i64 (SM k) ∧ Below w.heap.size w wr) (fun _ i _ => l.length - (intOf i).toNat)
  case atStart => exact ⟨0, by omega, rfl, by rw [HS0.out], Below.refl _ _⟩
  case round =>
    obtain ⟨k, hk, rfl, rfl, Bk⟩ := hrel
    have hsw := Bk.size
    by_cases hlt : k < l.length
    · have hIk := h.below Bk
      obtain ⟨b, lo, rfl, hbl, hat⟩ := hIk.at hlt
      have q1 : (k : Int) < (l.length : Int) := by omega
      have q2 : decide ((k : Int) < (l.length : Int)) = true := decide_eq_true q1
      have q3 : (0 : Int) ≤ (k : Int) := by omega
      have HK := hat k hlt
      have HA4 := Blk.new wr 24 (tlC zTl)
      have B4 := Bk.alloc Bk.size (.cells (tlC zTl) 24)
      have hV := hSs.out k hlt
      have q4 : IntKind.i64.wrap ((k : Int) + 1) = (k : Int) + 1 := by rw [IntKind.wrap_i64] <;> omega
      generalize l[k] = x at *
      clear hat Bk hIk
      go_upto_region 5 with (first
        | (refine load_cells (B := b) (k := lo + k * 2) 24 (tlC x) (by rfl) rfl rfl HK (by kernel_rfl) (by kernel_rfl) ?_)
        | (refine alloc_blk 24 (tlC zTl) (by rfl) rfl Tryd.tlZero ?_)
        | (refine store_blk (k := 0) 24 (.agg (tlC x)) (tlC x) (by rfl) rfl rfl rfl HA4 (by kernel_rfl) (show (2 : Nat) ≤ 2 from Nat.le_refl 2) (by rfl) (st_whole _ _ rfl) ?_; intro w5 HA5 b5 g5))
      have B5 := B4.trans (b5.mono hsw)
      have c1 := HA5.cv 1 (.string x.t) rfl
      clear HA4 B4 b5 g5 HK HA5
      go_wp2
      go_roundw
      case rel => exact ⟨k + 1, by omega, by go_num, rfl, B5⟩
      case measure => simp [intOf]; omega
    · obtain rfl : k = l.length := by omega
      have q2 : decide ((l.length : Int) < (l.length : Int)) = false := decide_eq_false (by omega)
      by_cases h40 : l.length ≤ 40
      · have d4 : decide ((l.length : Int) ≤ 40) = true := decide_eq_true (by omega)
        obtain ⟨d3, hd⟩ : ∃ d3, decide (SM l.length ≤ 3000) = d3 := ⟨_, rfl⟩
        go_wp2
        go_ret
        refine ⟨?_, Bk⟩
        rw [d4, Bool.true_and, hd]
        rfl
      · have d4 : decide ((l.length : Int) ≤ 40) = false := decide_eq_false (by omega)
        go_wp2
        go_ret
        refine ⟨?_, Bk⟩
        rw [d4, Bool.false_and]
        rfl

end Go.Proofs.YticjmjoiggnblaaDoor
