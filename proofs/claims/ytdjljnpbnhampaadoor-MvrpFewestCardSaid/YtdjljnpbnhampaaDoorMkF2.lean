/- The card of switchyardkeep.MvrpFewest: for every argument it returns true, and the arguments read as they did; what its row lists of package-level variables is tied to the program's text. -/
import Derived.Test.YtdjljnpbnhampaaDoorMkF1
import Derived.Below
import Derived.ChangeSame
import Derived.Test.YtdjljnpbnhampaaDoorRows
import Derived.Test.YtdjljnpbnhampaaDoorCards
import Derived.Test.YtdjljnpbnhampaaDoorTie
import Derived.ProofKit
import Derived.OpenShut
import Derived.LaidHandle
import Derived.LaidMore
import Derived.LaidSub
import Derived.Deep.DeepHandedRow
import Derived.Lib.LaidTab
import Derived.Test.YtdjljnpbnhampaaDoorMvWrite
import Derived.WideKeyArgs
import Derived.WideShapes
import Derived.SizedLaws
import Derived.Lib.SmallJoins
import Derived.Deep.SlicePairs
namespace Go.Proofs.YtdjljnpbnhampaaDoor.mvrpFewest
open Go.RowKit
attribute [local go_sem ↓] Go.wp_at_zero Go.wp_at_succ
set_option linter.unusedSimpArgs false
set_option linter.unusedVariables false
set_option maxRecDepth 100000


set_option maxHeartbeats 6400000 in
/-- Lists that are too long. -/
theorem walk_no (a : Option Addr) (c : Nat) (hs : List MvH) (w : World) (H : MvsIn w a hs) (HLO : Hid (∀ W, MvsIn W a hs → Calls Tryd.prog 19 #[.slice a hs.length c] W fun e w' => e = .returned (.bool true) ∧ Below W.heap.size W w')) :
    Calls Tryd.prog 6 #[.slice a hs.length c] w fun e w' => e = .returned (.bool true) ∧ Below w.heap.size w w' := by
  go_enter Tryd.func6, Tryd.ntmps6
  go_wp2_with (first
    | (go_at_call 18; refine (wanted_yes _).mono ?_; rintro e w2 ⟨rfl, B2⟩)
    | (go_at_call 19; refine (HLO.out _ (H.below B2)).mono ?_; rintro e w3 ⟨rfl, b3⟩; have B3 := B2.trans (b3.mono B2.size)))
  go_ret
  exact ⟨rfl, B3⟩

set_option maxHeartbeats 6400000 in
/-- VIDs that don't rise. -/
theorem walk_fall (a : Option Addr) (c : Nat) (hs : List MvH) (p : List Pr) (w : World) (hE : HasErr w) (H : MvsIn w a hs) (hl : p.length ≤ 1500) (m : Nat) (hm : m + 1 < p.length) (hf : (p[m + 1]'hm).vid ≤ (p[m]'(by omega)).vid)
    (HLO : Hid (∀ W, MvsIn W a hs → Calls Tryd.prog 19 #[.slice a hs.length c] W fun e w' => e = .returned (.bool false) ∧ Below W.heap.size W w'))
    (HCF : Hid (∀ W, MvsIn W a hs → Calls Tryd.prog 20 #[.slice a hs.length c, .func (.func 21) #[] #[]] W fun e w' => e = .returned (.bool false) ∧ Below W.heap.size W w'))
    (HEA : Hid (∀ W, MvsIn W a hs → Calls Tryd.prog 15 #[.slice a hs.length c] W fun e w' => ∃ a5 c5, e = .returned (.slice a5 p.length c5) ∧ PrIn w' a5 p ∧ Below W.heap.size W w'))
    (HPK : Hid (∀ a5 c5 W, PrIn W a5 p → Calls Tryd.prog 17 #[.slice a5 p.length c5] W fun e w' => (∃ q, e = .returned (.tuple #[.slice none 0 0, .iface 142 (.pointer (some ⟨q, 0, none⟩))]) ∧ Flt w' q 10 (m + 1 : Nat)) ∧ Below W.heap.size W w')) :
    Calls Tryd.prog 6 #[.slice a hs.length c] w fun e w' => e = .returned (.bool true) ∧ Below w.heap.size w w' := by
  have HF := Lib.hid hf
  clear hf
  go_enter Tryd.func6, Tryd.ntmps6
  go_wp2_with (first
    | (go_at_call 18; refine (wanted_yes _).mono ?_; rintro e w2 ⟨rfl, B2⟩)
    | (go_at_call 19; refine (HLO.out _ (H.below B2)).mono ?_; rintro e w3 ⟨rfl, b3⟩; have B3 := B2.trans (b3.mono B2.size))
    | (go_at_call 20; refine (HCF.out _ (H.below B3)).mono ?_; rintro e w4 ⟨rfl, b4⟩; have B4 := B3.trans (b4.mono B3.size))
    | (go_at_call 15; refine (HEA.out _ (H.below B4)).mono ?_; rintro e w5 ⟨a5, c5, rfl, I5, b5⟩; have B5 := B4.trans (b5.mono B4.size))
    | (go_at_call 17; refine (HPK.out a5 c5 _ I5).mono ?_; rintro e w6 ⟨⟨q, rfl, f6⟩, b6⟩; have B6 := B5.trans (b6.mono B5.size); have I6 := I5.below b6))
  clear HLO HCF HEA HPK B2 B3 B4 B5 b3 b4 b5 b6 I5
  go_loopw [6] (fun i wr => ∃ k : Nat, k ≤ m ∧ i = .int .i64 ((k + 1 : Nat) : Int) ∧ Below w6.heap.size w6 wr) (fun i _ => p.length + 1 - (intOf i).toNat)
  case atStart => exact ⟨0, by omega, rfl, Below.refl _ _⟩
  case round =>
    obtain ⟨j, hk, rfl, bk⟩ := hrel
    obtain ⟨K, hK⟩ : ∃ K, j + 1 = K := ⟨_, rfl⟩
    rw [hK]
    by_cases hlt : K < p.length
    · have Ik := I6.below bk
      obtain ⟨b, o, rfl, hbl, hat⟩ := Ik.at hlt
      have q1 : (K : Int) < (p.length : Int) := by omega
      have q2 : decide ((K : Int) < (p.length : Int)) = true := decide_eq_true q1
      have q3 : (0 : Int) ≤ (K : Int) := by omega
      have q4 : IntKind.i64.wrap ((K : Int) + 1) = (K : Int) + 1 := by rw [IntKind.wrap_i64] <;> omega
      have q5 : IntKind.i64.wrap ((K : Int) - 1) = (j : Int) := by rw [IntKind.wrap_i64] <;> omega
      have q6 : (j : Int) < (p.length : Int) := by omega
      have q7 : (0 : Int) ≤ (j : Int) := by omega
      have hj : j < p.length := by omega
      have hc1 : wr.drew.cell? ⟨b, o + K * 2, none⟩ = some (.int .i64 p[K].vid) := by
        have q := hat K hlt 0 (.int .i64 p[K].vid) rfl
        exact q
      have hc2 : wr.drew.cell? ⟨b, o + j * 2, none⟩ = some (.int .i64 p[j].vid) := by
        have q := hat j hj 0 (.int .i64 p[j].vid) rfl
        exact q
      have HST : Hid (¬ p[K].vid ≤ p[j].vid → K ≤ m) := fun h => by
        by_cases e : j = m
        · subst e
          subst hK
          exact absurd HF.out h
        · omega
      generalize p[K].vid = v1 at *
      generalize p[j].vid = v2 at *
      clear hat Ik
      have bd := bk.drew
      clear HF
      by_cases hv : v1 ≤ v2
      · have dv : decide (v1 ≤ v2) = true := decide_eq_true hv
        go_wp2_with fail
        refine wp_region_noPanic ?_
        refine wp_region_held_drew (S := (fun w' => w'.cell? ⟨b, o + K * 2, none⟩ = some (.int .i64 v1) ∧ w'.cell? ⟨b, o + j * 2, none⟩ = some (.int .i64 v2))) (by kernel_rfl) ?_ (fun hHeld => ?_)
        · exact ⟨hc1, hc2⟩
        refine wpAnyH_take (i := 0) (v := ?_) rfl (by kernel_rfl) (by kernel_rfl) (by kernel_rfl) (fun _ _ _ h => h) (Or.inl ⟨by rfl, ?_⟩) (by assumption) ?_
        rotate_left
        · (intro w hSw; (try dsimp only at hSw); go_simp; (try with_reducible rfl))
        (try simp only [Act.put, List.getElem_toArray, List.getElem_cons_zero, List.getElem_cons_succ, List.setIfInBounds_toArray, List.set_cons_zero, List.set_cons_succ])
        refine wpAnyH_take (i := 1) (v := ?_) rfl (by kernel_rfl) (by kernel_rfl) (by kernel_rfl) (fun _ _ _ h => h) (Or.inl ⟨by rfl, ?_⟩) (by assumption) ?_
        rotate_left
        · (intro w hSw; (try dsimp only at hSw); go_simp; (try with_reducible rfl))
        (try simp only [Act.put, List.getElem_toArray, List.getElem_cons_zero, List.getElem_cons_succ, List.setIfInBounds_toArray, List.set_cons_zero, List.set_cons_succ])
        refine wpAnyH_take (i := 2) (v := ?_) rfl (by kernel_rfl) (by kernel_rfl) (by kernel_rfl) (fun _ _ _ h => h) (Or.inl ⟨by rfl, ?_⟩) (by assumption) ?_
        rotate_left
        · (intro w hSw; (try dsimp only at hSw); go_simp; (try with_reducible rfl))
        (try simp only [Act.put, List.getElem_toArray, List.getElem_cons_zero, List.getElem_cons_succ, List.setIfInBounds_toArray, List.set_cons_zero, List.set_cons_succ])
        refine wpAnyH_take (i := 3) (v := ?_) rfl (by kernel_rfl) (by kernel_rfl) (by kernel_rfl) (fun _ _ _ h => h) (Or.inl ⟨by rfl, ?_⟩) (by assumption) ?_
        rotate_left
        · (intro w hSw; (try dsimp only at hSw); go_simp; (try with_reducible rfl))
        (try simp only [Act.put, List.getElem_toArray, List.getElem_cons_zero, List.getElem_cons_succ, List.setIfInBounds_toArray, List.set_cons_zero, List.set_cons_succ])
        refine wpAnyH_take (i := 4) (v := .int .i64 v1) rfl (by kernel_rfl) (by kernel_rfl) (by kernel_rfl) (fun _ _ _ h => h) (Or.inl ⟨by rfl, fun w hSw => by have c := hSw.1; go_simp⟩) (by assumption) ?_
        (try simp only [Act.put, List.getElem_toArray, List.getElem_cons_zero, List.getElem_cons_succ, List.setIfInBounds_toArray, List.set_cons_zero, List.set_cons_succ])
        refine wpAnyH_take (i := 5) (v := ?_) rfl (by kernel_rfl) (by kernel_rfl) (by kernel_rfl) (fun _ _ _ h => h) (Or.inl ⟨by rfl, ?_⟩) (by assumption) ?_
        rotate_left
        · (intro w hSw; (try dsimp only at hSw); go_simp; (try with_reducible rfl))
        (try simp only [Act.put, List.getElem_toArray, List.getElem_cons_zero, List.getElem_cons_succ, List.setIfInBounds_toArray, List.set_cons_zero, List.set_cons_succ])
        refine wpAnyH_take (i := 6) (v := ?_) rfl (by kernel_rfl) (by kernel_rfl) (by kernel_rfl) (fun _ _ _ h => h) (Or.inl ⟨by rfl, ?_⟩) (by assumption) ?_
        rotate_left
        · (intro w hSw; (try dsimp only at hSw); go_simp; (try with_reducible rfl))
        (try simp only [Act.put, List.getElem_toArray, List.getElem_cons_zero, List.getElem_cons_succ, List.setIfInBounds_toArray, List.set_cons_zero, List.set_cons_succ])
        refine wpAnyH_take (i := 7) (v := ?_) rfl (by kernel_rfl) (by kernel_rfl) (by kernel_rfl) (fun _ _ _ h => h) (Or.inl ⟨by rfl, ?_⟩) (by assumption) ?_
        rotate_left
        · (intro w hSw; (try dsimp only at hSw); go_simp; (try with_reducible rfl))
        (try simp only [Act.put, List.getElem_toArray, List.getElem_cons_zero, List.getElem_cons_succ, List.setIfInBounds_toArray, List.set_cons_zero, List.set_cons_succ])
        refine wpAnyH_take (i := 8) (v := ?_) rfl (by kernel_rfl) (by kernel_rfl) (by kernel_rfl) (fun _ _ _ h => h) (Or.inl ⟨by rfl, ?_⟩) (by assumption) ?_
        rotate_left
        · (intro w hSw; (try dsimp only at hSw); go_simp; (try with_reducible rfl))
        (try simp only [Act.put, List.getElem_toArray, List.getElem_cons_zero, List.getElem_cons_succ, List.setIfInBounds_toArray, List.set_cons_zero, List.set_cons_succ])
        refine wpAnyH_take (i := 9) (v := ?_) rfl (by kernel_rfl) (by kernel_rfl) (by kernel_rfl) (fun _ _ _ h => h) (Or.inl ⟨by rfl, ?_⟩) (by assumption) ?_
        rotate_left
        · (intro w hSw; (try dsimp only at hSw); go_simp; (try with_reducible rfl))
        (try simp only [Act.put, List.getElem_toArray, List.getElem_cons_zero, List.getElem_cons_succ, List.setIfInBounds_toArray, List.set_cons_zero, List.set_cons_succ])
        refine wpAnyH_take (i := 10) (v := .int .i64 v2) rfl (by kernel_rfl) (by kernel_rfl) (by kernel_rfl) (fun _ _ _ h => h) (Or.inl ⟨by rfl, fun w hSw => by have c := hSw.2; go_simp⟩) (by assumption) ?_
        (try simp only [Act.put, List.getElem_toArray, List.getElem_cons_zero, List.getElem_cons_succ, List.setIfInBounds_toArray, List.set_cons_zero, List.set_cons_succ])
        refine wpAnyH_take (i := 11) (v := ?_) rfl (by kernel_rfl) (by kernel_rfl) (by kernel_rfl) (fun _ _ _ h => h) (Or.inl ⟨by rfl, ?_⟩) (by assumption) ?_
        rotate_left
        · (intro w hSw; (try dsimp only at hSw); go_simp; (try with_reducible rfl))
        (try simp only [Act.put, List.getElem_toArray, List.getElem_cons_zero, List.getElem_cons_succ, List.setIfInBounds_toArray, List.set_cons_zero, List.set_cons_succ])
        refine wpAnyH_done (by kernel_rfl) ?_ _
        refine NoPanic.normal ?_
        have hE7 : HasErr wr.drew := hE.below (B6.trans (bd.mono B6.size))
        have f7 : Flt wr.drew q 10 (m + 1 : Nat) := f6.below bd
        have HT := Lib.hid (tell_at q 10 _ _ hE7 f7)
        go_wp2_with (go_at_call 23; refine HT.out.mono ?_; rintro e w8 ⟨rfl, b8⟩)
        go_ret
        exact ⟨rfl, (B6.trans (bd.mono B6.size)).trans (b8.mono (B6.trans (bd.mono B6.size)).size)⟩
      · have dv : decide (v1 ≤ v2) = false := decide_eq_false hv
        have hst := HST.out hv
        go_wp2_with fail
        refine wp_region_noPanic ?_
        refine wp_region_held_drew (S := (fun w' => w'.cell? ⟨b, o + K * 2, none⟩ = some (.int .i64 v1) ∧ w'.cell? ⟨b, o + j * 2, none⟩ = some (.int .i64 v2))) (by kernel_rfl) ?_ (fun hHeld => ?_)
        · exact ⟨hc1, hc2⟩
        refine wpAnyH_take (i := 0) (v := ?_) rfl (by kernel_rfl) (by kernel_rfl) (by kernel_rfl) (fun _ _ _ h => h) (Or.inl ⟨by rfl, ?_⟩) (by assumption) ?_
        rotate_left
        · (intro w hSw; (try dsimp only at hSw); go_simp; (try with_reducible rfl))
        (try simp only [Act.put, List.getElem_toArray, List.getElem_cons_zero, List.getElem_cons_succ, List.setIfInBounds_toArray, List.set_cons_zero, List.set_cons_succ])
        refine wpAnyH_take (i := 1) (v := ?_) rfl (by kernel_rfl) (by kernel_rfl) (by kernel_rfl) (fun _ _ _ h => h) (Or.inl ⟨by rfl, ?_⟩) (by assumption) ?_
        rotate_left
        · (intro w hSw; (try dsimp only at hSw); go_simp; (try with_reducible rfl))
        (try simp only [Act.put, List.getElem_toArray, List.getElem_cons_zero, List.getElem_cons_succ, List.setIfInBounds_toArray, List.set_cons_zero, List.set_cons_succ])
        refine wpAnyH_take (i := 2) (v := ?_) rfl (by kernel_rfl) (by kernel_rfl) (by kernel_rfl) (fun _ _ _ h => h) (Or.inl ⟨by rfl, ?_⟩) (by assumption) ?_
        rotate_left
        · (intro w hSw; (try dsimp only at hSw); go_simp; (try with_reducible rfl))
        (try simp only [Act.put, List.getElem_toArray, List.getElem_cons_zero, List.getElem_cons_succ, List.setIfInBounds_toArray, List.set_cons_zero, List.set_cons_succ])
        refine wpAnyH_take (i := 3) (v := ?_) rfl (by kernel_rfl) (by kernel_rfl) (by kernel_rfl) (fun _ _ _ h => h) (Or.inl ⟨by rfl, ?_⟩) (by assumption) ?_
        rotate_left
        · (intro w hSw; (try dsimp only at hSw); go_simp; (try with_reducible rfl))
        (try simp only [Act.put, List.getElem_toArray, List.getElem_cons_zero, List.getElem_cons_succ, List.setIfInBounds_toArray, List.set_cons_zero, List.set_cons_succ])
        refine wpAnyH_take (i := 4) (v := .int .i64 v1) rfl (by kernel_rfl) (by kernel_rfl) (by kernel_rfl) (fun _ _ _ h => h) (Or.inl ⟨by rfl, fun w hSw => by have c := hSw.1; go_simp⟩) (by assumption) ?_
        (try simp only [Act.put, List.getElem_toArray, List.getElem_cons_zero, List.getElem_cons_succ, List.setIfInBounds_toArray, List.set_cons_zero, List.set_cons_succ])
        refine wpAnyH_take (i := 5) (v := ?_) rfl (by kernel_rfl) (by kernel_rfl) (by kernel_rfl) (fun _ _ _ h => h) (Or.inl ⟨by rfl, ?_⟩) (by assumption) ?_
        rotate_left
        · (intro w hSw; (try dsimp only at hSw); go_simp; (try with_reducible rfl))
        (try simp only [Act.put, List.getElem_toArray, List.getElem_cons_zero, List.getElem_cons_succ, List.setIfInBounds_toArray, List.set_cons_zero, List.set_cons_succ])
        refine wpAnyH_take (i := 6) (v := ?_) rfl (by kernel_rfl) (by kernel_rfl) (by kernel_rfl) (fun _ _ _ h => h) (Or.inl ⟨by rfl, ?_⟩) (by assumption) ?_
        rotate_left
        · (intro w hSw; (try dsimp only at hSw); go_simp; (try with_reducible rfl))
        (try simp only [Act.put, List.getElem_toArray, List.getElem_cons_zero, List.getElem_cons_succ, List.setIfInBounds_toArray, List.set_cons_zero, List.set_cons_succ])
        refine wpAnyH_take (i := 7) (v := ?_) rfl (by kernel_rfl) (by kernel_rfl) (by kernel_rfl) (fun _ _ _ h => h) (Or.inl ⟨by rfl, ?_⟩) (by assumption) ?_
        rotate_left
        · (intro w hSw; (try dsimp only at hSw); go_simp; (try with_reducible rfl))
        (try simp only [Act.put, List.getElem_toArray, List.getElem_cons_zero, List.getElem_cons_succ, List.setIfInBounds_toArray, List.set_cons_zero, List.set_cons_succ])
        refine wpAnyH_take (i := 8) (v := ?_) rfl (by kernel_rfl) (by kernel_rfl) (by kernel_rfl) (fun _ _ _ h => h) (Or.inl ⟨by rfl, ?_⟩) (by assumption) ?_
        rotate_left
        · (intro w hSw; (try dsimp only at hSw); go_simp; (try with_reducible rfl))
        (try simp only [Act.put, List.getElem_toArray, List.getElem_cons_zero, List.getElem_cons_succ, List.setIfInBounds_toArray, List.set_cons_zero, List.set_cons_succ])
        refine wpAnyH_take (i := 9) (v := ?_) rfl (by kernel_rfl) (by kernel_rfl) (by kernel_rfl) (fun _ _ _ h => h) (Or.inl ⟨by rfl, ?_⟩) (by assumption) ?_
        rotate_left
        · (intro w hSw; (try dsimp only at hSw); go_simp; (try with_reducible rfl))
        (try simp only [Act.put, List.getElem_toArray, List.getElem_cons_zero, List.getElem_cons_succ, List.setIfInBounds_toArray, List.set_cons_zero, List.set_cons_succ])
        refine wpAnyH_take (i := 10) (v := .int .i64 v2) rfl (by kernel_rfl) (by kernel_rfl) (by kernel_rfl) (fun _ _ _ h => h) (Or.inl ⟨by rfl, fun w hSw => by have c := hSw.2; go_simp⟩) (by assumption) ?_
        (try simp only [Act.put, List.getElem_toArray, List.getElem_cons_zero, List.getElem_cons_succ, List.setIfInBounds_toArray, List.set_cons_zero, List.set_cons_succ])
        refine wpAnyH_take (i := 11) (v := ?_) rfl (by kernel_rfl) (by kernel_rfl) (by kernel_rfl) (fun _ _ _ h => h) (Or.inl ⟨by rfl, ?_⟩) (by assumption) ?_
        rotate_left
        · (intro w hSw; (try dsimp only at hSw); go_simp; (try with_reducible rfl))
        (try simp only [Act.put, List.getElem_toArray, List.getElem_cons_zero, List.getElem_cons_succ, List.setIfInBounds_toArray, List.set_cons_zero, List.set_cons_succ])
        refine wpAnyH_done (by kernel_rfl) ?_ _
        refine NoPanic.normal ?_
        go_wp2
        go_roundw
        case rel => exact ⟨K, hst, by go_num, bd⟩
        case measure => simp [intOf]; omega
    · omega

set_option maxHeartbeats 6400000 in
/-- VIDs that rise. -/
theorem walk_rise (a : Option Addr) (c : Nat) (hs : List MvH) (p : List Pr) (w : World) (H : MvsIn w a hs) (hl : p.length ≤ 1500) (hsl : hs.length ≤ 1500) (hr : ∀ (j : Nat) (hj : j + 1 < p.length), (p[j]'(by omega)).vid < (p[j + 1]'hj).vid)
    (HLO : Hid (∀ W, MvsIn W a hs → Calls Tryd.prog 19 #[.slice a hs.length c] W fun e w' => e = .returned (.bool false) ∧ Below W.heap.size W w'))
    (HCF : Hid (∀ W, MvsIn W a hs → Calls Tryd.prog 20 #[.slice a hs.length c, .func (.func 21) #[] #[]] W fun e w' => e = .returned (.bool false) ∧ Below W.heap.size W w'))
    (HEA : Hid (∀ W, MvsIn W a hs → Calls Tryd.prog 15 #[.slice a hs.length c] W fun e w' => ∃ a5 c5, e = .returned (.slice a5 p.length c5) ∧ PrIn w' a5 p ∧ Below W.heap.size W w'))
    (HPK : Hid (∀ a5 c5 W, PrIn W a5 p → Calls Tryd.prog 17 #[.slice a5 p.length c5] W fun e w' => (∃ a6 c6 h6, e = .returned (.tuple #[.slice a6 h6.length c6, .nilIface]) ∧ xs h6 = packL p ∧ MvsIn w' a6 h6) ∧ Below W.heap.size W w'))
    (hto : eachL (packL p) = p) (hfew : (packL p).length ≤ hs.length) (hok : (packL p).all okMvN = true) :
    Calls Tryd.prog 6 #[.slice a hs.length c] w fun e w' => e = .returned (.bool true) ∧ Below w.heap.size w w' := by
  have HR := Lib.hid hr
  have HTO := Lib.hid hto
  have HFE := Lib.hid hfew
  have HOK := Lib.hid hok
  clear hr hto hfew hok
  go_enter Tryd.func6, Tryd.ntmps6
  go_wp2_with (first
    | (go_at_call 18; refine (wanted_yes _).mono ?_; rintro e w2 ⟨rfl, B2⟩)
    | (go_at_call 19; refine (HLO.out _ (H.below B2)).mono ?_; rintro e w3 ⟨rfl, b3⟩; have B3 := B2.trans (b3.mono B2.size))
    | (go_at_call 20; refine (HCF.out _ (H.below B3)).mono ?_; rintro e w4 ⟨rfl, b4⟩; have B4 := B3.trans (b4.mono B3.size))
    | (go_at_call 15; refine (HEA.out _ (H.below B4)).mono ?_; rintro e w5 ⟨a5, c5, rfl, I5, b5⟩; have B5 := B4.trans (b5.mono B4.size))
    | (go_at_call 17; refine (HPK.out a5 c5 _ I5).mono ?_; rintro e w6 ⟨⟨a6, c6, h6, rfl, x6, M6⟩, b6⟩; have B6 := B5.trans (b6.mono B5.size); have I6 := I5.below b6))
  clear HLO HCF HEA HPK B2 B3 B4 B5 b3 b4 b5 b6 I5
  go_loopw [6] (fun i wr => ∃ k : Nat, k + 1 ≤ p.length + 1 ∧ i = .int .i64 ((k + 1 : Nat) : Int) ∧ Below w6.heap.size w6 wr) (fun i _ => p.length + 1 - (intOf i).toNat)
  case atStart => exact ⟨0, by omega, rfl, Below.refl _ _⟩
  case round =>
    obtain ⟨j, hk, rfl, bk⟩ := hrel
    obtain ⟨K, hK⟩ : ∃ K, j + 1 = K := ⟨_, rfl⟩
    rw [hK]
    by_cases hlt : K < p.length
    · have Ik := I6.below bk
      obtain ⟨b, o, rfl, hbl, hat⟩ := Ik.at hlt
      have q1 : (K : Int) < (p.length : Int) := by omega
      have q2 : decide ((K : Int) < (p.length : Int)) = true := decide_eq_true q1
      have q3 : (0 : Int) ≤ (K : Int) := by omega
      have q4 : IntKind.i64.wrap ((K : Int) + 1) = (K : Int) + 1 := by rw [IntKind.wrap_i64] <;> omega
      have q5 : IntKind.i64.wrap ((K : Int) - 1) = (j : Int) := by rw [IntKind.wrap_i64] <;> omega
      have q6 : (j : Int) < (p.length : Int) := by omega
      have q7 : (0 : Int) ≤ (j : Int) := by omega
      have hj : j < p.length := by omega
      have hc1 : wr.drew.cell? ⟨b, o + K * 2, none⟩ = some (.int .i64 p[K].vid) := by
        have q := hat K hlt 0 (.int .i64 p[K].vid) rfl
        exact q
      have hc2 : wr.drew.cell? ⟨b, o + j * 2, none⟩ = some (.int .i64 p[j].vid) := by
        have q := hat j hj 0 (.int .i64 p[j].vid) rfl
        exact q
      have dv : decide (p[K].vid ≤ p[j].vid) = false := by
        subst hK
        exact decide_eq_false (fun q => absurd q (Int.not_le.2 (HR.out j hlt)))
      generalize p[K].vid = v1 at *
      generalize p[j].vid = v2 at *
      clear hat Ik
      have bd := bk.drew
      go_wp2_with fail
      refine wp_region_noPanic ?_
      refine wp_region_held_drew (S := (fun w' => w'.cell? ⟨b, o + K * 2, none⟩ = some (.int .i64 v1) ∧ w'.cell? ⟨b, o + j * 2, none⟩ = some (.int .i64 v2))) (by kernel_rfl) ?_ (fun hHeld => ?_)
      · exact ⟨hc1, hc2⟩
      refine wpAnyH_take (i := 0) (v := ?_) rfl (by kernel_rfl) (by kernel_rfl) (by kernel_rfl) (fun _ _ _ h => h) (Or.inl ⟨by rfl, ?_⟩) (by assumption) ?_
      rotate_left
      · (intro w hSw; (try dsimp only at hSw); go_simp; (try with_reducible rfl))
      (try simp only [Act.put, List.getElem_toArray, List.getElem_cons_zero, List.getElem_cons_succ, List.setIfInBounds_toArray, List.set_cons_zero, List.set_cons_succ])
      refine wpAnyH_take (i := 1) (v := ?_) rfl (by kernel_rfl) (by kernel_rfl) (by kernel_rfl) (fun _ _ _ h => h) (Or.inl ⟨by rfl, ?_⟩) (by assumption) ?_
      rotate_left
      · (intro w hSw; (try dsimp only at hSw); go_simp; (try with_reducible rfl))
      (try simp only [Act.put, List.getElem_toArray, List.getElem_cons_zero, List.getElem_cons_succ, List.setIfInBounds_toArray, List.set_cons_zero, List.set_cons_succ])
      refine wpAnyH_take (i := 2) (v := ?_) rfl (by kernel_rfl) (by kernel_rfl) (by kernel_rfl) (fun _ _ _ h => h) (Or.inl ⟨by rfl, ?_⟩) (by assumption) ?_
      rotate_left
      · (intro w hSw; (try dsimp only at hSw); go_simp; (try with_reducible rfl))
      (try simp only [Act.put, List.getElem_toArray, List.getElem_cons_zero, List.getElem_cons_succ, List.setIfInBounds_toArray, List.set_cons_zero, List.set_cons_succ])
      refine wpAnyH_take (i := 3) (v := ?_) rfl (by kernel_rfl) (by kernel_rfl) (by kernel_rfl) (fun _ _ _ h => h) (Or.inl ⟨by rfl, ?_⟩) (by assumption) ?_
      rotate_left
      · (intro w hSw; (try dsimp only at hSw); go_simp; (try with_reducible rfl))
      (try simp only [Act.put, List.getElem_toArray, List.getElem_cons_zero, List.getElem_cons_succ, List.setIfInBounds_toArray, List.set_cons_zero, List.set_cons_succ])
      refine wpAnyH_take (i := 4) (v := .int .i64 v1) rfl (by kernel_rfl) (by kernel_rfl) (by kernel_rfl) (fun _ _ _ h => h) (Or.inl ⟨by rfl, fun w hSw => by have c := hSw.1; go_simp⟩) (by assumption) ?_
      (try simp only [Act.put, List.getElem_toArray, List.getElem_cons_zero, List.getElem_cons_succ, List.setIfInBounds_toArray, List.set_cons_zero, List.set_cons_succ])
      refine wpAnyH_take (i := 5) (v := ?_) rfl (by kernel_rfl) (by kernel_rfl) (by kernel_rfl) (fun _ _ _ h => h) (Or.inl ⟨by rfl, ?_⟩) (by assumption) ?_
      rotate_left
      · (intro w hSw; (try dsimp only at hSw); go_simp; (try with_reducible rfl))
      (try simp only [Act.put, List.getElem_toArray, List.getElem_cons_zero, List.getElem_cons_succ, List.setIfInBounds_toArray, List.set_cons_zero, List.set_cons_succ])
      refine wpAnyH_take (i := 6) (v := ?_) rfl (by kernel_rfl) (by kernel_rfl) (by kernel_rfl) (fun _ _ _ h => h) (Or.inl ⟨by rfl, ?_⟩) (by assumption) ?_
      rotate_left
      · (intro w hSw; (try dsimp only at hSw); go_simp; (try with_reducible rfl))
      (try simp only [Act.put, List.getElem_toArray, List.getElem_cons_zero, List.getElem_cons_succ, List.setIfInBounds_toArray, List.set_cons_zero, List.set_cons_succ])
      refine wpAnyH_take (i := 7) (v := ?_) rfl (by kernel_rfl) (by kernel_rfl) (by kernel_rfl) (fun _ _ _ h => h) (Or.inl ⟨by rfl, ?_⟩) (by assumption) ?_
      rotate_left
      · (intro w hSw; (try dsimp only at hSw); go_simp; (try with_reducible rfl))
      (try simp only [Act.put, List.getElem_toArray, List.getElem_cons_zero, List.getElem_cons_succ, List.setIfInBounds_toArray, List.set_cons_zero, List.set_cons_succ])
      refine wpAnyH_take (i := 8) (v := ?_) rfl (by kernel_rfl) (by kernel_rfl) (by kernel_rfl) (fun _ _ _ h => h) (Or.inl ⟨by rfl, ?_⟩) (by assumption) ?_
      rotate_left
      · (intro w hSw; (try dsimp only at hSw); go_simp; (try with_reducible rfl))
      (try simp only [Act.put, List.getElem_toArray, List.getElem_cons_zero, List.getElem_cons_succ, List.setIfInBounds_toArray, List.set_cons_zero, List.set_cons_succ])
      refine wpAnyH_take (i := 9) (v := ?_) rfl (by kernel_rfl) (by kernel_rfl) (by kernel_rfl) (fun _ _ _ h => h) (Or.inl ⟨by rfl, ?_⟩) (by assumption) ?_
      rotate_left
      · (intro w hSw; (try dsimp only at hSw); go_simp; (try with_reducible rfl))
      (try simp only [Act.put, List.getElem_toArray, List.getElem_cons_zero, List.getElem_cons_succ, List.setIfInBounds_toArray, List.set_cons_zero, List.set_cons_succ])
      refine wpAnyH_take (i := 10) (v := .int .i64 v2) rfl (by kernel_rfl) (by kernel_rfl) (by kernel_rfl) (fun _ _ _ h => h) (Or.inl ⟨by rfl, fun w hSw => by have c := hSw.2; go_simp⟩) (by assumption) ?_
      (try simp only [Act.put, List.getElem_toArray, List.getElem_cons_zero, List.getElem_cons_succ, List.setIfInBounds_toArray, List.set_cons_zero, List.set_cons_succ])
      refine wpAnyH_take (i := 11) (v := ?_) rfl (by kernel_rfl) (by kernel_rfl) (by kernel_rfl) (fun _ _ _ h => h) (Or.inl ⟨by rfl, ?_⟩) (by assumption) ?_
      rotate_left
      · (intro w hSw; (try dsimp only at hSw); go_simp; (try with_reducible rfl))
      (try simp only [Act.put, List.getElem_toArray, List.getElem_cons_zero, List.getElem_cons_succ, List.setIfInBounds_toArray, List.set_cons_zero, List.set_cons_succ])
      refine wpAnyH_done (by kernel_rfl) ?_ _
      refine NoPanic.normal ?_
      go_wp2
      go_roundw
      case rel => exact ⟨K, by omega, by go_num, bd⟩
      case measure => simp [intOf]; omega
    · have q2 : decide ((K : Int) < (p.length : Int)) = false := decide_eq_false (by omega)
      have Mk := M6.below bk
      have Ik := I6.below bk
      have Bk := B6.trans (bk.mono B6.size)
      have hx6 : h6.length = (packL p).length := by rw [← x6, xs_len]
      have hle : h6.length ≤ hs.length := by have := HFE.out; omega
      have d1 : decide ((h6.length : Int) ≤ (hs.length : Int)) = true := decide_eq_true (by omega)
      have d2 : decide (h6.length ≤ hs.length) = true := decide_eq_true hle
      have HE2 : Hid (∀ W, MvsIn W a6 h6 → Calls Tryd.prog 15 #[.slice a6 h6.length c6] W fun e w' => ∃ a7 c7, e = .returned (.slice a7 p.length c7) ∧ PrIn w' a7 p ∧ Below W.heap.size W w') := fun W M => by
        refine (mvEach_any a6 c6 h6 W M (by unfold maxLen; omega) (by rw [x6, HTO.out]; omega)).mono ?_
        rintro e w' ⟨v, rfl, O, b⟩
        rw [x6, HTO.out] at O
        obtain ⟨a7, c7, rfl, I⟩ := O.inL
        exact ⟨a7, c7, rfl, I, b⟩
      have HC2 : Hid (∀ W, MvsIn W a6 h6 → Calls Tryd.prog 20 #[.slice a6 h6.length c6, .func (.func 25) #[] #[]] W fun e w' => e = .returned (.bool false) ∧ Below W.heap.size W w') := fun W M => by
        have q := mg_contains a6 c6 h6 W M (by unfold maxLen; omega)
        rw [x6, HOK.out] at q
        exact q
      have HQ := Lib.hid (fun (a1 : Option Addr) (c1 : Nat) (W : World) (h1 : PrIn W a1 p) (h2 : PrIn W a5 p) => eqPrs_any a1 c1 a5 c5 p W h1 h2 (by omega))
      clear HTO HFE HOK x6 hx6 HR hK
      go_wp2_with (first
        | (go_at_call 15; refine (HE2.out _ Mk).mono ?_; rintro e w7 ⟨a7, c7, rfl, I7, b7⟩)
        | (go_at_call 24; refine (HQ.out a7 c7 _ I7 (Ik.below b7)).mono ?_; rintro e w8 ⟨rfl, b8⟩; have b78 := b7.trans (b8.mono b7.size))
        | (go_at_call 20; refine (HC2.out _ (Mk.below b78)).mono ?_; rintro e w9 ⟨rfl, b9⟩; have b79 := b78.trans (b9.mono b78.size)))
      go_ret
      exact ⟨rfl, Bk.trans (b79.mono Bk.size)⟩

theorem walk (a : Option Addr) (c : Nat) (hs : List MvH) (w : World) (hE : HasErr w) (H : MvsIn w a hs) (hm : hs.length ≤ 281474976710656) :
    Calls Tryd.prog 6 #[.slice a hs.length c] w fun e w' => e = .returned (.bool true) ∧ Below w.heap.size w w' := by
  have hml : hs.length ≤ maxLen := by unfold maxLen; omega
  by_cases hall : (xs hs).all okMv = true
  · have hok : ∀ x ∈ xs hs, okMv x = true := List.all_eq_true.1 hall
    have hle := each_len (xs hs) hok
    rw [xs_len] at hle
    have HL := Lib.hid (fun (W : World) (M : MvsIn W a hs) => lots_val a c hs W M (by omega))
    by_cases hbig : 1500 < hs.length + (eachL (xs hs)).length
    · rw [decide_eq_true hbig] at HL
      exact walk_no a c hs w H HL
    · rw [decide_eq_false hbig] at HL
      have HCF : Hid (∀ W, MvsIn W a hs → Calls Tryd.prog 20 #[.slice a hs.length c, .func (.func 21) #[] #[]] W fun e w' => e = .returned (.bool false) ∧ Below W.heap.size W w') := fun W M => by
        have q := mf_contains a c hs W M hml
        rw [hall] at q
        exact q
      obtain ⟨p, hp⟩ : ∃ p, eachL (xs hs) = p := ⟨_, rfl⟩
      have HEA : Hid (∀ W, MvsIn W a hs → Calls Tryd.prog 15 #[.slice a hs.length c] W fun e w' => ∃ a5 c5, e = .returned (.slice a5 p.length c5) ∧ PrIn w' a5 p ∧ Below W.heap.size W w') := fun W M => by
        refine (mvEach_any a c hs W M hml (by omega)).mono ?_
        rintro e w' ⟨v, rfl, O, b⟩
        rw [hp] at O
        obtain ⟨a7, c7, rfl, I⟩ := O.inL
        exact ⟨a7, c7, rfl, I, b⟩
      have hpl : p.length ≤ 1500 := by rw [← hp]; omega
      have hokp : ∀ q ∈ p, okPrB q = true := by rw [← hp]; exact each_okPr _ hok
      have hfew : (packL p).length ≤ hs.length := by
        have q := pack_few (xs hs) hok
        rw [xs_len, hp] at q
        exact q
      rcases pk_or p with hgood | ⟨m, hmm, hbad, hgood⟩
      · refine walk_rise a c hs p w H hpl (by omega) (fun j hj => ?_) HL HCF HEA (Lib.hid fun a5 c5 W I => (mvPack_ok a5 c5 p hgood W I (by omega)).mono ?_) (pack_tells p (fun q hq => okPrB_ok (hokp q hq))) hfew ?_
        · have q := (badP_ok (hgood (j + 1) hj)).2
          refine Int.not_le.1 (fun r => q ⟨by omega, ?_⟩)
          rw [show j + 1 - 1 = j by omega, List.getD_eq_getElem?_getD, List.getElem?_eq_getElem (show j < p.length by omega)]
          exact r
        · rintro e w' ⟨a2, c2, h2, rfl, x2, M2, b2⟩
          exact ⟨⟨a2, c2, h2, rfl, x2, M2⟩, b2⟩
        · rw [List.all_eq_true]
          intro x hx
          have q := fold_pk p [] (fun q hq => okPrB_ok (hokp q hq)) (by simp) x hx
          unfold okMvN
          rw [okPk_ok q, q.1]
          rfl
      · have hp10 : badP p m p[m] = 10 ∧ 0 < m ∧ p[m].vid ≤ (p.getD (m - 1) zPr).vid := by
          have hk := hokp p[m] (List.getElem_mem hmm)
          unfold badP at hbad ⊢
          by_cases q : 0 < m ∧ p[m].vid ≤ (p.getD (m - 1) zPr).vid
          · rw [if_pos q]
            exact ⟨rfl, q⟩
          · rw [if_neg q, if_pos hk] at hbad
            exact absurd rfl hbad
        obtain ⟨m, rfl⟩ : ∃ j, m = j + 1 := ⟨m - 1, by omega⟩
        have hv := hp10.2.2
        rw [show m + 1 - 1 = m by omega, List.getD_eq_getElem?_getD, List.getElem?_eq_getElem (show m < p.length by omega)] at hv
        refine walk_fall a c hs p w hE H hpl m hmm hv HL HCF HEA (Lib.hid fun a5 c5 W I => (mvPack_bad a5 c5 p (m + 1) hmm hbad hgood W I (by omega)).mono ?_)
        rintro e w' ⟨q, rfl, f, b⟩
        rw [hp10.1] at f
        exact ⟨⟨q, rfl, f⟩, b⟩
  · have hno : (xs hs).all okMv = false := by simpa using hall
    have HCF := Lib.hid (fun (W : World) (M : MvsIn W a hs) => mf_contains a c hs W M hml)
    rw [hno] at HCF
    have HLO := Lib.hid (fun (W : World) (M : MvsIn W a hs) => lots_some a c hs W M hml)
    have hq : (!false) = true := rfl
    clear hall hno hml hm
    go_enter Tryd.func6, Tryd.ntmps6
    go_wp2_with (first
      | (go_at_call 18; refine (wanted_yes _).mono ?_; rintro e w2 ⟨rfl, B2⟩)
      | (go_at_call 19; refine (HLO.out _ (H.below B2)).mono ?_; rintro e w3 ⟨⟨lb, rfl⟩, b3⟩; have B3 := B2.trans (b3.mono B2.size); cases lb)
      | (go_at_call 20; refine (HCF.out _ (H.below B3)).mono ?_; rintro e w4 ⟨rfl, b4⟩; have B4 := B3.trans (b4.mono B3.size)))
    all_goals go_ret
    · exact ⟨rfl, B4⟩
    · exact ⟨rfl, B3⟩

end Go.Proofs.YtdjljnpbnhampaaDoor.mvrpFewest

namespace Go.Proofs.YtdjljnpbnhampaaDoor
open Go.RowKit Go.WideShapes Go.ChangeShapes

/-- The specification is met: one result, which reads as told; the arguments and the named variables read as they did; old memory is as it was. -/
theorem met_below {P : Program} {H : Type} {enc : TypeId × Value → H} {f : Func} {s : ChangeSpec} {apart fresh handsOn again : Bool} {W W' : World} {args : Array Value} {v : Value} {ds gs : List (DataW H)} {places : List MemPlace}
    (whole : DataW.Whole enc P f.params.toList s.vars apart W args.toList ds gs places)
    (results : ∀ (b : Nat) (sp : Nat → Bool) (hd : Bool), DataW.TrodAll enc P W' b sp hd f.resultTypes.toList (v.resultList f.resultTypes.size) (s.fn H (ds ++ gs)).results [])
    (arguments : ∀ sp : Nat → Bool, (∀ p ∈ places, sp p.block = true) → DataW.TrodAll enc P W' 0 sp true f.params.toList args.toList (s.fn H (ds ++ gs)).args places)
    (variables : ∀ sp : Nat → Bool, DataW.TrodVars enc P W' sp s.vars (s.fn H (ds ++ gs)).vars [])
    (below : Below W.heap.size W W')
    (formed : ∀ (j : Nat) (t : TypeId) (r : Value), f.resultTypes[j]? = some t → (v.resultList f.resultTypes.size)[j]? = some r → Value.okWide P W' .any 0 t r) :
    s.post enc P f apart fresh handsOn again W args v W' := by
  have old : ∀ p ∈ places, p.block < W.heap.size := fun p hp => whole.lt p hp
  have oldB : ∀ p ∈ places, (fun b => decide (b < W.heap.size)) p.block = true := fun p hp => decide_eq_true (old p hp)
  obtain ⟨_, _, _, _, _, unfrozen, once⟩ := id whole
  refine ⟨ds, gs, places, [], places, [], whole, results _ _ _, arguments _ oldB, variables _, below.frame _, fun _ => ⟨formed, _, _, ([] ++ places) ++ [], ⟨[] ++ places, [], trodAll_append (arguments _ fun _ _ => rfl) (results _ _ _), variables _, rfl, fun b off hp => ?_, fun ha => by simpa using once ha⟩, fun p hp _ => by simpa using hp⟩⟩
  have hin : MemPlace.cell b off ∈ places := by simpa using hp
  exact (below.frozen (p := ⟨b, off, none⟩) (old _ hin)).trans (unfrozen b off hin)

end Go.Proofs.YtdjljnpbnhampaaDoor

namespace Go.Proofs.YtdjljnpbnhampaaDoor
open Go.ChangeShapes Go.WideShapes Go.ChangeAt Go.RowKit

theorem own : ownKnob Tryd.prog.godebug = none := by kernel_rfl

theorem Tryd.gErr : Tryd.prog.globalNamed "errors.errorType" = some 0 := by kernel_rfl

theorem Tryd.rtRow : (Tryd.prog.cutTypes.find? (·.1 == "internal/reflectlite.rtype")).map (·.2) = some 221 := by kernel_rfl

theorem Tryd.errRow : ((List.range 272).filter fun t => Tryd.prog.rowNamed t [101, 114, 114, 111, 114]) = [41] := by kernel_rfl

theorem Tryd.typesSize : Tryd.prog.types.size = 272 := by kernel_rfl

/-- A list that holds errors.errorType with the handle of the type error says what errors.As asks. -/
theorem hasErr_of_laid {W : World} {l : List (String × DataW Unit)} (h : laidMetH Tryd.prog l W) (hm : ("errors.errorType", Rows.laid_errors_errorType) ∈ l) : HasErr W := by
  obtain ⟨_, h2⟩ := laidMetH_iff.1 h
  obtain ⟨name, u, ty, e1, e2, e3, e4, e5⟩ := h2 _ (List.mem_filter.2 ⟨hm, by kernel_rfl⟩)
  have en : name = [101, 114, 114, 111, 114] := (Option.some.inj e1).symm
  subst en
  obtain rfl := Option.some.inj (Tryd.rtRow.symm.trans e2)
  have hin : ty ∈ (List.range 272).filter fun t => Tryd.prog.rowNamed t [101, 114, 114, 111, 114] := List.mem_filter.2 ⟨List.mem_range.2 (by rw [← Tryd.typesSize]; exact e3), e4⟩
  rw [Tryd.errRow] at hin
  obtain rfl := List.mem_singleton.1 hin
  have hh : typeHandle Tryd.prog 41 = .pointer (some ⟨4, 41, none⟩) := by kernel_rfl
  rw [hh] at e5
  have hc := World.var?_cell Tryd.gErr e5 0
  unfold HasErr
  simpa using hc

/-- The cells that a flat datum of integers lays. -/
def cellsOfDatum : DataW Unit → Array Value
  | .agg l => (l.map fun d => match d with | .lit (.int k n) => Value.int k n | _ => .int .u8 0).toArray
  | _ => #[]

/-- The door's own heap, and Go's own table beside it. -/
noncomputable def laidWorld (os : Os) : World :=
  let w0 := World.doorLaid Tryd.prog 400 os
  { w0 with heap := w0.heap.modify 1 fun | .cells _ t fr => .cells (cellsOfDatum Go.Pinned.utf8First) t fr | o => o }

end Go.Proofs.YtdjljnpbnhampaaDoor

namespace Go.Proofs.YtdjljnpbnhampaaDoor
open Go.ChangeShapes Go.WideShapes Go.ChangeAt Go.RowKit Go.Deep Go.Joins
set_option linter.unusedVariables false

theorem list1s {α : Type} (l : List α) (h : l.length = 1) : ∃ c0, l = [c0] := by
  match l, h with
  | [c0], _ => exact ⟨c0, rfl⟩

theorem list3s {α : Type} (l : List α) (h : l.length = 3) : ∃ c0 c1 c2, l = [c0, c1, c2] := by
  match l, h with
  | [c0, c1, c2], _ => exact ⟨c0, c1, c2, rfl⟩

theorem iv_trod {H : Type} {enc : TypeId × Value → H} {W : World} {base fuel : Nat} {sp : Nat → Bool} {held : Bool} {c0 : Value} {y : DataW H × List MemPlace}
    (h : DataW.trod enc Tryd.prog W base sp held fuel 3 [c0] = some y) : ∃ x : Int, True ∧ [c0] = (ivC x).toList := by
  obtain ⟨x0, e0, _, wf0⟩ := DataW.trod_int Tryd.underlying3 h
  exact ⟨x0, trivial, e0⟩

set_option maxRecDepth 100000 in
theorem ivs_cell {H : Type} {enc : TypeId × Value → H} {W : World} {fuel : Nat} {z0 : Value} {y : DataW H × List MemPlace}
    (hf : DataW.trod enc Tryd.prog W 0 (fun _ => true) true fuel 90 [z0] = some y) : ∃ (a : Option Addr) (c : Nat) (l : List Int), z0 = .slice a l.length c ∧ l.length ≤ c ∧ c ≤ maxLen ∧ IvIn W a l ∧ ∀ x ∈ l, True := by
  have hs : Tryd.prog.underlying 90 = some (.slice 3) := by kernel_rfl
  have hc3 : Tryd.prog.cellsOf 3 = 1 := by kernel_rfl
  rcases open_slice hs hf with ⟨hc, hx⟩ | ⟨b, n, c, m, k, D, Pl, hc, hb, hl, hm, hmm, hx, hall⟩
  · simp at hc
    subst hc
    exact ⟨none, 0, [], rfl, Nat.le_refl _, by decide, Or.inl rfl, by simp⟩
  · simp at hc
    subst hc
    have hlm : n ≤ m := by rw [hmm]; split <;> omega
    have each : ∀ i, i < n → ∃ t : Int, True ∧ ∀ (j : Nat) (x : Value), (ivC t)[j]? = some x → W.cell? (b.add (i * 1 + j)) = some x := by
      intro i hi
      obtain ⟨cs', h1, h2⟩ := hall i (by omega)
      rw [hc3] at h1
      obtain ⟨_, hlen, hcell⟩ := World.cells?_some h1
      obtain ⟨c0, rfl⟩ := list1s cs' hlen
      obtain ⟨t, ht, he⟩ := iv_trod h2
      refine ⟨t, ht, fun j x hj => ?_⟩
      have hj2 : j < 1 := (Array.getElem?_eq_some_iff.1 hj).1
      have g := hcell j (by omega)
      rw [add_add] at g
      rw [g]
      have e2 : ([c0] : List Value)[j]? = some x := by rw [he]; simpa using hj
      exact e2
    obtain ⟨z, hz⟩ := choose_lt each
    obtain ⟨bb, bo, bs⟩ := b
    rcases Nat.eq_zero_or_pos n with rfl | q0
    · exact ⟨some ⟨bb, bo, bs⟩, c, [], rfl, hl, hm, Or.inl rfl, by simp⟩
    have h0 := (hz 0 q0).2 0 _ rfl
    have hspot : bs = none := by simpa [Addr.add] using World.cell?_spot h0
    subst hspot
    refine ⟨some ⟨bb, bo, none⟩, c, (List.range n).map z, by simp, by simpa using hl, hm, Or.inr ⟨bb, bo, rfl, ?_, fun j hj k x hx => ?_⟩, ?_⟩
    · have := World.block_lt_of_cell? W _ h0
      simpa [Addr.add] using this
    · have hj' : j < n := by simpa using hj
      simp only [List.getElem_map, List.getElem_range] at hx
      have e0 := (hz j hj').2 k x hx
      rw [add_plain] at e0
      rw [Nat.add_assoc]
      exact e0
    · intro v hv
      obtain ⟨j, hj, rfl⟩ := List.mem_map.1 hv
      exact (hz j (List.mem_range.1 hj)).1


set_option maxRecDepth 100000 in
theorem mv_trod {H : Type} {enc : TypeId × Value → H} {W : World} {fuel : Nat} {c0 c1 c2 : Value} {y : DataW H × List MemPlace}
    (h : DataW.trod enc Tryd.prog W 0 (fun _ => true) true fuel 92 [c0, c1, c2] = some y) : ∃ x : MvH, (IvIn W x.a x.x.ev ∧ x.x.ev.length ≤ x.c ∧ x.c ≤ maxLen) ∧ [c0, c1, c2] = (mvC x).toList := by
  have _h1 : Tryd.prog.cellsOf 4 = 1 := by kernel_rfl
  have _h2 : Tryd.prog.cellsOf 3 = 1 := by kernel_rfl
  have _h3 : Tryd.prog.cellsOf 90 = 1 := by kernel_rfl
  obtain ⟨xs, n, _, hx, _, hlen, hg⟩ := DataW.trod_struct Tryd.underlying92 h
  obtain ⟨y0, y1, y2, rfl⟩ := list3s xs hlen
  have g0 := hg 0 _ rfl
  have g1 := hg 1 _ rfl
  have g2 := hg 2 _ rfl
  obtain ⟨x0, e0, _⟩ := DataW.trod_bool Tryd.underlying4 g0
  obtain rfl : c0 = .bool x0 := (List.cons.inj (show [c0] = [.bool x0] from e0)).1
  obtain ⟨x1, e1, _, wf1⟩ := DataW.trod_int Tryd.underlying3 g1
  obtain rfl : c1 = .int .i64 x1 := (List.cons.inj (show [c1] = [.int .i64 x1] from e1)).1
  obtain ⟨a, c, l, rfl, hl, hm, hin, _⟩ := ivs_cell (z0 := c2) g2
  exact ⟨⟨⟨x0, x1, l⟩, a, c⟩, ⟨hin, hl, hm⟩, rfl⟩

set_option maxRecDepth 100000 in
theorem mvs_cell {H : Type} {enc : TypeId × Value → H} {W : World} {fuel : Nat} {z0 : Value} {y : DataW H × List MemPlace}
    (hf : DataW.trod enc Tryd.prog W 0 (fun _ => true) true fuel 69 [z0] = some y) : ∃ (a : Option Addr) (c : Nat) (l : List MvH), z0 = .slice a l.length c ∧ l.length ≤ c ∧ c ≤ maxLen ∧ MhIn W a l ∧ ∀ x ∈ l, (IvIn W x.a x.x.ev ∧ x.x.ev.length ≤ x.c ∧ x.c ≤ maxLen) := by
  have hs : Tryd.prog.underlying 69 = some (.slice 92) := by kernel_rfl
  have hc3 : Tryd.prog.cellsOf 92 = 3 := by kernel_rfl
  rcases open_slice hs hf with ⟨hc, hx⟩ | ⟨b, n, c, m, k, D, Pl, hc, hb, hl, hm, hmm, hx, hall⟩
  · simp at hc
    subst hc
    exact ⟨none, 0, [], rfl, Nat.le_refl _, by decide, Or.inl rfl, by simp⟩
  · simp at hc
    subst hc
    have hlm : n ≤ m := by rw [hmm]; split <;> omega
    have each : ∀ i, i < n → ∃ t : MvH, (IvIn W t.a t.x.ev ∧ t.x.ev.length ≤ t.c ∧ t.c ≤ maxLen) ∧ ∀ (j : Nat) (x : Value), (mvC t)[j]? = some x → W.cell? (b.add (i * 3 + j)) = some x := by
      intro i hi
      obtain ⟨cs', h1, h2⟩ := hall i (by omega)
      rw [hc3] at h1
      obtain ⟨_, hlen, hcell⟩ := World.cells?_some h1
      obtain ⟨c0, c1, c2, rfl⟩ := list3s cs' hlen
      obtain ⟨t, ht, he⟩ := mv_trod h2
      refine ⟨t, ht, fun j x hj => ?_⟩
      have hj2 : j < 3 := (Array.getElem?_eq_some_iff.1 hj).1
      have g := hcell j (by omega)
      rw [add_add] at g
      rw [g]
      have e2 : ([c0, c1, c2] : List Value)[j]? = some x := by rw [he]; simpa using hj
      exact e2
    obtain ⟨z, hz⟩ := choose_lt each
    obtain ⟨bb, bo, bs⟩ := b
    rcases Nat.eq_zero_or_pos n with rfl | q0
    · exact ⟨some ⟨bb, bo, bs⟩, c, [], rfl, hl, hm, Or.inl rfl, by simp⟩
    have h0 := (hz 0 q0).2 0 _ rfl
    have hspot : bs = none := by simpa [Addr.add] using World.cell?_spot h0
    subst hspot
    refine ⟨some ⟨bb, bo, none⟩, c, (List.range n).map z, by simp, by simpa using hl, hm, Or.inr ⟨bb, bo, rfl, ?_, fun j hj k x hx => ?_⟩, ?_⟩
    · have := World.block_lt_of_cell? W _ h0
      simpa [Addr.add] using this
    · have hj' : j < n := by simpa using hj
      simp only [List.getElem_map, List.getElem_range] at hx
      have e0 := (hz j hj').2 k x hx
      rw [add_plain] at e0
      rw [Nat.add_assoc]
      exact e0
    · intro v hv
      obtain ⟨j, hj, rfl⟩ := List.mem_map.1 hv
      exact (hz j (List.mem_range.1 hj)).1


set_option maxRecDepth 100000 in
theorem open_mvs {H : Type} {enc : TypeId × Value → H} {W : World} {base : Nat} {v : Value} {d : DataW H} {p : List MemPlace} (hval : Value.okWide Tryd.prog W .any base 69 v)
    (h : DataW.Trod enc Tryd.prog W 0 (fun _ => true) true 69 v d p) : ∃ (a : Option Addr) (c : Nat) (l : List MvH), v = .slice a l.length c ∧ l.length ≤ c ∧ c ≤ maxLen ∧ MvsIn W a l := by
  have hs : Tryd.prog.underlying 69 = some (.slice 92) := by kernel_rfl
  obtain ⟨a, n, c, rfl⟩ := okWide_slice hs hval
  obtain ⟨fuel, hf⟩ := h
  obtain ⟨a', c', l, e, h1, h2, h3⟩ := mvs_cell (show DataW.trod enc Tryd.prog W 0 (fun _ => true) true fuel 69 [.slice a n c] = some _ by simpa [Value.cells] using hf)
  exact ⟨a', c', l, e, h1, h2, ⟨h3.1, h3.2⟩⟩

end Go.Proofs.YtdjljnpbnhampaaDoor

namespace Go.Proofs.YtdjljnpbnhampaaDoor
open Go.ChangeShapes Go.WideShapes Go.ChangeAt Go.RowKit Go.Deep Go.Joins
set_option linter.unusedVariables false

/-- How long a slice's datum is. -/
theorem slice_long {H : Type} {enc : TypeId × Value → H} {W : World} {fuel n c : Nat} {a : Option Addr} {t e : TypeId} {y : DataW H × List MemPlace} (hs : Tryd.prog.underlying t = some (.slice e))
    (hf : DataW.trod enc Tryd.prog W 0 (fun _ => true) true fuel t [.slice a n c] = some y) : n = 0 ∨ ∃ es sp, y.1 = .slice es sp ∧ n ≤ es.length + sp.length := by
  rcases open_slice hs hf with ⟨hc, hx⟩ | ⟨b, n', c', m, k, D, Pl, hc, hb, hl, hm, hmm, hx, hall⟩
  · left
    simp at hc
    exact hc.2.1
  · right
    simp at hc
    obtain ⟨rfl, rfl, rfl⟩ := hc
    exact ⟨_, _, by rw [hx], by simp⟩

theorem weights_ofV {H : Type} {P : Program} {ts : List TypeId} {ds : List (DataW H)} (h : (DataW.weightsEach P ts ds).all (· ≤ reachBytes) = true) {j : Nat} {t : TypeId} {d : DataW H} (ht : ts[j]? = some t) (hd : ds[j]? = some d) : ∀ n ∈ d.weights P t, n ≤ reachBytes := fun m hm => by
  have := List.all_eq_true.1 h m (DataW.weights_mem_each ht hd m hm)
  simpa using this

theorem mvs_long {H : Type} {enc : TypeId × Value → H} {W : World} {a : Option Addr} {n c : Nat} {d : DataW H} {p : List MemPlace}
    (h : DataW.Trod enc Tryd.prog W 0 (fun _ => true) true 69 (.slice a n c) d p) (hw : ∀ k ∈ d.weights Tryd.prog 69, k ≤ reachBytes) : n ≤ 281474976710656 := by
  have hs : Tryd.prog.underlying 69 = some (.slice 92) := by kernel_rfl
  have hby : 1 ≤ Tryd.prog.bytesOf 92 := of_decide_eq_true (by kernel_rfl)
  have hr : reachBytes ≤ 140737488355328 := by decide
  obtain ⟨fuel, hf⟩ := h
  rcases slice_long hs (show DataW.trod enc Tryd.prog W 0 (fun _ => true) true fuel 69 [.slice a n c] = some _ by simpa [Value.cells] using hf) with h0 | ⟨es, sp, hy, hl⟩
  · omega
  · dsimp only at hy
    have h1 := hw ((es.length + sp.length) * Tryd.prog.bytesOf 92) (by rw [hy]; simp [DataW.weights, hs])
    have h2 : (es.length + sp.length) * 1 ≤ (es.length + sp.length) * Tryd.prog.bytesOf 92 := Nat.mul_le_mul_left _ hby
    omega

end Go.Proofs.YtdjljnpbnhampaaDoor

namespace Go.Proofs.YtdjljnpbnhampaaDoor.mvrpFewest
open Go.ChangeShapes Go.WideShapes Go.ChangeAt Go.RowKit
set_option linter.unusedVariables false

theorem laidOut_ : laidOutB Tryd.prog = true := by kernel_rfl

theorem laid_met (os : Os) : laidMetH Tryd.prog Rows.mvrpFewestRow.laid ((laidWorld os).forCall (fun _ _ => 0) ⟨#[], #[.slice none 0 0], []⟩).memory :=
  laidMetH_of_parts3 (fuel := 8) (laidMet_of_run' 8 (by kernel_rfl) (by kernel_rfl)) (by kernel_rfl) (by kernel_rfl)

theorem reads (os : Os) {H : Type} (enc : TypeId × Value → H) : ∃ places, DataW.whole enc Tryd.prog ((laidWorld os).forCall (fun _ _ => 0) ⟨#[], #[.slice none 0 0], []⟩).memory Tryd.f6.params.toList Rows.mvrpFewestSpec.vars false #[Value.slice none 0 0].toList 8 = some ([.nil], [], places) :=
  ⟨[], by kernel_rfl⟩

set_option maxRecDepth 100000 in
theorem lifted (os : Os) (started : os.Started) (H : Type) (enc : TypeId × Value → H) (F : Stop.Interp) :
    ReturnsInHanded {} Tryd.checked os 6 .any ((OpenSpec.ofChange Rows.mvrpFewestSpec).preRow enc Tryd.prog Tryd.f6 Rows.mvrpFewestRow.domain false Rows.mvrpFewestRow.laid) (((OpenSpec.ofChange Rows.mvrpFewestSpec).at F).post enc Tryd.prog Tryd.f6 false true false false) := by
  obtain ⟨places, hx⟩ := reads os enc
  refine returnsInHanded_of_row (C := Tryd.checked) (s := OpenSpec.ofChange Rows.mvrpFewestSpec) own started (by kernel_rfl) Tryd.func6
    (witness_row_at (enc := enc) (C := Tryd.checked) false (laidWorld os) #[.slice none 0 0] rfl (by kernel_rfl) (by kernel_rfl) (by kernel_rfl)
      (OpenSpec.preRow_of_cond 8 hx (by kernel_rfl) (fun k hk => by cases hk) (by kernel_rfl) (laid_met os))) ?_
  intro W base args ds gs before hval0 hW _ _ hSz hL hsh _
  have hval : ∀ (j : Nat) t v, Tryd.f6.params[j]? = some t → args[j]? = some v → Value.okWide Tryd.prog W .any base t v := hval0
  have hE := hasErr_of_laid hL (by simp [Rows.mvrpFewestRow])
  have hW' := hW
  obtain ⟨p, q, hA0, hV, rfl, hfz, hnd⟩ := hW
  have hA : DataW.TrodAll enc Tryd.prog W 0 (fun _ => true) true Tryd.f6.params.toList args.toList ds p := hA0
  rw [Tryd.params6] at hA hval
  obtain ⟨v0, vs0, d0, ds0, p0, q0, hargs, rfl, rfl, h0, r0⟩ := trodAll_cons hA
  obtain ⟨rfl, rfl, rfl⟩ := trodAll_nil r0
  obtain rfl : args = #[v0] := by cases args; simp_all
  obtain ⟨rfl, rfl⟩ := trodVars_none hV
  clear hA0
  simp only [List.append_nil] at hW'
  have hlt := hW'.lt
  obtain ⟨a0, c0, l0, hv0, hlc0, hcm0, hin0⟩ := open_mvs (hval 0 69 v0 rfl rfl) h0
  subst hv0
  refine (walk a0 c0 l0 W hE hin0 (mvs_long h0 (weights_ofV (j := 0) hSz rfl rfl))).mono fun e W' ⟨he, hb⟩ => ?_
  subst he
  exact ⟨_, rfl, met_below hW' (fun _ _ _ => (trodAll_cons_mk (shut_bool Tryd.underlying4 _) trodAll_mk0)) (fun sp hsp => by have r := (trodAll_cons_mk (WideElems.Trod_stays laidOut_ (by kernel_rfl) (of_decide_eq_true (by kernel_rfl)) h0 (fun x hx => hb.same (hlt x (by simp [hx]))) (fun x hx => hsp x (by simp [hx]))) trodAll_mk0); simp only [List.append_nil] at r; exact r) (fun _ => rfl) hb
    (ok_one (by kernel_rfl) rfl (okWide_bool_mk Tryd.underlying4 _))⟩

theorem said : Rows.MvrpFewestSaid :=
  OpenClaim.holds_of_cond 6 Tryd.f6 rfl rfl rfl rfl rfl rfl rfl ⟨rfl, rfl, rfl, rfl, rfl⟩ rfl rfl rfl rfl rfl (by kernel_rfl) Tryd.func6 (by kernel_rfl)
    (of_decide_eq_true (by kernel_rfl)) (by unfold Func.isWrapper; first | (rw [if_pos (by decide +kernel)]; kernel_rfl) | (rw [if_neg (by decide +kernel)]; exact ⟨rfl, rfl⟩))
    (fun os started H enc _ F => by rw [OpenClaim.pre_eq_preRow]; exact lifted os started H enc F)

theorem plain (f : FuncId) (fn : Func) (hf : Tryd.pinned.checked.prog.funcNamed "switchyard/switchyardkeep.MvrpFewest" = some f) (hfn : Tryd.pinned.checked.prog.funcs[f]? = some fn) :
    true = Tryd.pinned.checked.prog.looks [] ∧ ∀ (j : Nat) t, fn.params[j]? = some t → Tryd.pinned.checked.prog.wantsStandIn t = false := by
  obtain rfl : f = 6 := Option.some.inj ((show Tryd.prog.funcNamed "switchyard/switchyardkeep.MvrpFewest" = some 6 by kernel_rfl).symm.trans hf) |>.symm
  obtain rfl : fn = Tryd.f6 := (Option.some.inj (Tryd.func6.symm.trans hfn)).symm
  refine ⟨by kernel_rfl, fun j t ht => ?_⟩
  rw [Tryd.params6] at ht
  have hm : t ∈ #[69] := Array.mem_of_getElem? ht
  simp only [List.mem_toArray, List.mem_cons, List.not_mem_nil, or_false] at hm
  rcases hm with rfl
  · exact (show Tryd.prog.wantsStandIn 69 = false by kernel_rfl)

theorem card : Rows.MvrpFewestCardSaid :=
  Claim7.holds_tied_plain_at .later [] _ _ _ _ said (fun _ h => by cases h) (by kernel_rfl) (fun _ h => by cases h) mvrpFewest_row_tie rfl ⟨rfl, rfl⟩ (by kernel_rfl) rfl plain (by kernel_rfl)
#print axioms card

end Go.Proofs.YtdjljnpbnhampaaDoor.mvrpFewest

