/- switchyardlaw.LearnKeeps: whatever is done with a table, the program's and the reference's answer alike. -/
import Derived.Test.YtgeiiengieonfaaDoorLnD
import Derived.Test.YtgeiiengieonfaaDoorLnL
import Derived.Test.YtgeiiengieonfaaDoorRfF
import Derived.Test.YtgeiiengieonfaaDoorNt
import Derived.Test.YtgeiiengieonfaaDoorBare
namespace Go.Proofs.YtgeiiengieonfaaDoor
open Go.RowKit
open Go.Shelf
attribute [local go_sem ↓] Go.wp_at_zero Go.wp_at_succ
set_option linter.unusedSimpArgs false
set_option linter.unusedVariables false
set_option maxRecDepth 100000

theorem Tab.base {w : World} {B B' t : Nat} {age last : Int} {l : List Ent} (h : Tab w B t age last l) (hB : B' ≤ B) : Tab w B' t age last l := by
  obtain ⟨v, hb, hr⟩ := h.row
  exact ⟨⟨v, hb, hr.mono hB⟩, Nat.le_trans hB h.lo, h.ok, h.a0, h.a1, h.l0, h.l1⟩

theorem bare_errV (e : Int) : Bare (errV e) e := by
  unfold errV
  split
  · rename_i h
    subst h
    exact Bare.none
  · exact Bare.errno e

theorem Tryd.ntZero' : (Tryd.prog.info? 47).map (·.zero) = some (some (.agg (ntC zNt))) := Tryd.ntZero

theorem HasErr.lx {B : Nat} {TS : List TypeId} {w w' : World} (h : HasErr w) (hx : Lx B TS w w') (hlt : 0 < B) : HasErr w' := (World.cell?_of_block (a := ⟨0, 0, none⟩) (hx.block _ h.lt (Or.inl hlt))).trans h

namespace learnKeeps

set_option maxHeartbeats 6400000 in
theorem walk (age : Int) (a : Option Addr) (c : Nat) (l : List Nt) (w : World) (h : NtIn w a l) (hok : ∀ x ∈ l, ∀ i, x.a i < 256) (hlen : l.length ≤ maxLen) (hE : HasErr w) :
    Calls Tryd.prog 4 #[.int .i64 age, .slice a l.length c] w fun e w' => e = .returned (.bool true) ∧ Below w.heap.size w w' := by
  have hll : l.length ≤ 9223372036854775807 := hlen
  by_cases hl : 200 < l.length
  · have d0 : decide ((200 : Int) < (l.length : Int)) = true := decide_eq_true (by omega)
    clear hl
    go_enter Tryd.func4, Tryd.ntmps4
    go_wp2
    go_ret
    exact ⟨rfl, Below.refl _ _⟩
  have d0 : decide ((200 : Int) < (l.length : Int)) = false := decide_eq_false (by omega)
  by_cases hage : age < 1 ∨ 300 < age
  · have HN := Lib.hid (new_bad age w hage)
    have HBr := Lib.hid (Bare.errno 2)
    by_cases h1 : age < 1
    · have d1 : decide (age < 1) = true := decide_eq_true h1
      clear hl hage h1
      go_enter Tryd.func4, Tryd.ntmps4
      go_wp2_with (first
        | (go_at_call 12; refine HN.out.mono ?_; rintro e w1 ⟨rfl, rfl⟩)
        | (go_at_call 13; refine (HBr.out _ hE).mono ?_; rintro e w2 ⟨rfl, k2⟩))
      go_ret
      exact ⟨rfl, k2⟩
    · have d1 : decide (age < 1) = false := decide_eq_false h1
      have d2 : decide ((300 : Int) < age) = true := decide_eq_true (by omega)
      clear hl hage h1
      go_enter Tryd.func4, Tryd.ntmps4
      go_wp2_with (first
        | (go_at_call 12; refine HN.out.mono ?_; rintro e w1 ⟨rfl, rfl⟩)
        | (go_at_call 13; refine (HBr.out _ hE).mono ?_; rintro e w2 ⟨rfl, k2⟩))
      go_ret
      exact ⟨rfl, k2⟩
  have d1 : decide (age < 1) = false := decide_eq_false (by omega)
  have d2 : decide ((300 : Int) < age) = false := decide_eq_false (by omega)
  have HN := Lib.hid (new_ok age w (by omega) (by omega))
  have ha0 : 1 ≤ age := by omega
  have ha1 : age ≤ 300 := by omega
  have hgE := hE.lt
  have HLEN := Lib.hid hl
  clear hl hage
  go_enter Tryd.func4, Tryd.ntmps4
  go_upto_region 8 with (go_at_call 12; refine HN.out.mono ?_; rintro e w1 ⟨rfl, hT1, k1, hs1⟩)
  have hE1 := hE.below k1
  have HBt := Blk.new w1 45 (tabC age 0 (.slice none 0 0))
  have k2 : Below w1.heap.size w1 (w1.alloc (.cells (tabC age 0 (.slice none 0 0)) 45)) := (Below.refl _ _).alloc (Nat.le_refl _) _
  have hb1 := k1.size
  have hR2 : RTab (w1.alloc (.cells (tabC age 0 (.slice none 0 0)) 45)) w.heap.size w1.heap.size age 0 [] := ⟨⟨_, HBt, (RowE.nil _ _ _).toA⟩, k1.size, OkL.nil, ha0, ha1, by decide, by decide⟩
  have hT2 := hT1.kept k2
  have hE2 := hE1.below k2
  have K2 := k1.trans (k2.mono k1.size)
  have hsz2 := k2.size
  clear hT1 hE1 HBt k1 k2 hE HN hs1
  unfold tabC at *
  go_wp2_with fail
  generalize w1.alloc (.cells #[.int .i64 age, .int .i64 0, .slice none 0 0] 45) = w2 at *
  generalize w1.heap.size = rb at *
  go_loopw [41] (fun s41 wr => ∃ (k : Nat) (last : Int) (lE : List Ent), k ≤ l.length ∧ s41 = .int .i64 k ∧ Tab wr w.heap.size w.heap.size age last lE ∧ RTab wr w.heap.size rb age last lE ∧ Below w.heap.size w wr ∧ HasErr wr) (fun i _ => l.length - (intOf i).toNat)
  case atStart => exact ⟨0, 0, [], by omega, rfl, hT2.base (Nat.le_refl _), hR2, K2, hE2⟩
  case round =>
    obtain ⟨k, last, lE, hk, rfl, hT, hR, Bk, hEr⟩ := hrel
    clear hT2 hR2 hE2 K2
    by_cases hlt : k < l.length
    · have hI := h.below Bk
      obtain ⟨b, lo, rfl, hbl, hat⟩ := hI.at hlt
      have q1 : (k : Int) < (l.length : Int) := by omega
      have q2 : decide ((k : Int) < (l.length : Int)) = true := decide_eq_true q1
      have q3 : (0 : Int) ≤ (k : Int) := by omega
      have q4 : IntKind.i64.wrap ((k : Int) + 1) = (k : Int) + 1 := by have := HLEN.out; rw [IntKind.wrap_i64] <;> omega
      have HK := hat k hlt
      have hxa := hok _ (List.getElem_mem hlt)
      generalize l[k] = x at *
      have hsw := Bk.size
      have HA4 := Blk.new wr 47 (ntC zNt)
      have b4 : Below wr.heap.size wr (wr.alloc (.cells (ntC zNt) 47)) := (Below.refl _ _).alloc (Nat.le_refl _) _
      clear hat hI
      go_upto_region 12 with (first
        | (refine load_cells (B := b) (k := lo + k * 10) 47 (ntC x) (by rfl) rfl rfl HK (by kernel_rfl) (by kernel_rfl) ?_)
        | (refine alloc_blk 47 (ntC zNt) (by rfl) rfl Tryd.ntZero ?_)
        | (refine store_blk (k := 0) 47 (.agg (ntC x)) (ntC x) (by rfl) rfl rfl rfl HA4 (by kernel_rfl) (show (10 : Nat) ≤ 10 from Nat.le_refl 10) (by rfl) (st_whole' _ _ rfl) ?_; intro w5 HN5 b5 g5))
      have b45 : Below wr.heap.size wr w5 := b4.trans b5
      have hT5 := hT.kept b45
      have hR5 := hR.kept b45
      have hE5 := hEr.below b45
      have B5 : Below w.heap.size w w5 := Bk.trans (b45.mono hsw)
      have hB5 := B5.size
      clear HA4 b4 b5 g5 HK b45 hT hR hEr Bk hbl
      generalize wr.heap.size = N at *
      have n0 := HN5.cv 0 (.int .i64 x.what) rfl
      have n9 := HN5.cv 9 (.int .i64 x.now) rfl
      by_cases hn1 : x.now < -2199023255552
      · have e1 : decide (x.now < -2199023255552) = true := decide_eq_true hn1
        clear hn1
        go_wp2
        go_ret
        exact ⟨rfl, B5⟩
      have e1 : decide (x.now < -2199023255552) = false := decide_eq_false hn1
      by_cases hn2 : (2199023255552 : Int) < x.now
      · have e2 : decide ((2199023255552 : Int) < x.now) = true := decide_eq_true hn2
        clear hn1 hn2
        go_wp2
        go_ret
        exact ⟨rfl, B5⟩
      have e2 : decide ((2199023255552 : Int) < x.now) = false := decide_eq_false hn2
      replace hn1 := Lib.hid (show -2199023255552 ≤ x.now by omega)
      replace hn2 := Lib.hid (show x.now ≤ 2199023255552 by omega)
      by_cases hw0 : x.what = 0
      · rw [hw0] at n0
        clear hw0
        go_upto_region 16 with (fail)
        have hd5 : Below w5.heap.size w5 w5.drew := (Below.refl _ _).drew
        refine wp_region_noPanic ?_
        refine wp_region_held_drew (S := (fun w' => Blk w' N 47 (ntC x))) (by kernel_rfl) ?_ (fun hHeld => ?_)
        · exact HN5
        refine wpAnyH_take (i := 0) (v := ?_) rfl (by kernel_rfl) (by kernel_rfl) (by kernel_rfl) (fun _ _ _ h => h) (Or.inl ⟨by rfl, ?_⟩) (by assumption) ?_
        rotate_left
        · (intro w hSw; (try dsimp only at hSw); go_simp; (try with_reducible rfl))
        (try simp only [Act.put, List.getElem_toArray, List.getElem_cons_zero, List.getElem_cons_succ, List.setIfInBounds_toArray, List.set_cons_zero, List.set_cons_succ])
        refine wpAnyH_take (i := 1) (v := ?_) rfl (by kernel_rfl) (by kernel_rfl) (by kernel_rfl) (fun _ _ _ h => h) (Or.inl ⟨by rfl, ?_⟩) (by assumption) ?_
        rotate_left
        · (intro w hSw; (try dsimp only at hSw); go_simp; (try with_reducible rfl))
        (try simp only [Act.put, List.getElem_toArray, List.getElem_cons_zero, List.getElem_cons_succ, List.setIfInBounds_toArray, List.set_cons_zero, List.set_cons_succ])
        refine wpAnyH_take (i := 2) (v := .int .i64 x.vid) rfl (by kernel_rfl) (by kernel_rfl) (by kernel_rfl) (fun _ _ _ h => h) (Or.inl ⟨by rfl, fun w hSw => by have c := hSw.cv 1 (.int .i64 x.vid) rfl; go_simp⟩) (by assumption) ?_
        (try simp only [Act.put, List.getElem_toArray, List.getElem_cons_zero, List.getElem_cons_succ, List.setIfInBounds_toArray, List.set_cons_zero, List.set_cons_succ])
        refine wpAnyH_take (i := 3) (v := ?_) rfl (by kernel_rfl) (by kernel_rfl) (by kernel_rfl) (fun _ _ _ h => h) (Or.inl ⟨by rfl, ?_⟩) (by assumption) ?_
        rotate_left
        · (intro w hSw; (try dsimp only at hSw); go_simp; (try with_reducible rfl))
        (try simp only [Act.put, List.getElem_toArray, List.getElem_cons_zero, List.getElem_cons_succ, List.setIfInBounds_toArray, List.set_cons_zero, List.set_cons_succ])
        refine wpAnyH_take (i := 4) (v := .agg (c6 x.a)) rfl (by kernel_rfl) (by kernel_rfl) (by kernel_rfl) (fun _ _ _ h => h) (Or.inl ⟨by rfl, fun w hSw => exec_load_blk (k := 2) 30 (c6 x.a) rfl rfl hSw (by kernel_rfl) (by kernel_rfl) rfl⟩) (by assumption) ?_
        (try simp only [Act.put, List.getElem_toArray, List.getElem_cons_zero, List.getElem_cons_succ, List.setIfInBounds_toArray, List.set_cons_zero, List.set_cons_succ])
        refine wpAnyH_take (i := 5) (v := ?_) rfl (by kernel_rfl) (by kernel_rfl) (by kernel_rfl) (fun _ _ _ h => h) (Or.inl ⟨by rfl, ?_⟩) (by assumption) ?_
        rotate_left
        · (intro w hSw; (try dsimp only at hSw); go_simp; (try with_reducible rfl))
        (try simp only [Act.put, List.getElem_toArray, List.getElem_cons_zero, List.getElem_cons_succ, List.setIfInBounds_toArray, List.set_cons_zero, List.set_cons_succ])
        refine wpAnyH_take (i := 6) (v := .int .i64 x.port) rfl (by kernel_rfl) (by kernel_rfl) (by kernel_rfl) (fun _ _ _ h => h) (Or.inl ⟨by rfl, fun w hSw => by have c := hSw.cv 8 (.int .i64 x.port) rfl; go_simp⟩) (by assumption) ?_
        (try simp only [Act.put, List.getElem_toArray, List.getElem_cons_zero, List.getElem_cons_succ, List.setIfInBounds_toArray, List.set_cons_zero, List.set_cons_succ])
        refine wpAnyH_take (i := 7) (v := ?_) rfl (by kernel_rfl) (by kernel_rfl) (by kernel_rfl) (fun _ _ _ h => h) (Or.inl ⟨by rfl, ?_⟩) (by assumption) ?_
        rotate_left
        · (intro w hSw; (try dsimp only at hSw); go_simp; (try with_reducible rfl))
        (try simp only [Act.put, List.getElem_toArray, List.getElem_cons_zero, List.getElem_cons_succ, List.setIfInBounds_toArray, List.set_cons_zero, List.set_cons_succ])
        refine wpAnyH_take (i := 8) (v := .int .i64 x.now) rfl (by kernel_rfl) (by kernel_rfl) (by kernel_rfl) (fun _ _ _ h => h) (Or.inl ⟨by rfl, fun w hSw => by have c := hSw.cv 9 (.int .i64 x.now) rfl; go_simp⟩) (by assumption) ?_
        (try simp only [Act.put, List.getElem_toArray, List.getElem_cons_zero, List.getElem_cons_succ, List.setIfInBounds_toArray, List.set_cons_zero, List.set_cons_succ])
        refine wpAnyH_take (i := 10) (v := ?_) rfl (by kernel_rfl) (by kernel_rfl) (by kernel_rfl) (fun _ _ _ h => h) (Or.inl ⟨by rfl, ?_⟩) (by assumption) ?_
        rotate_left
        · (intro w hSw; (try dsimp only at hSw); go_simp; (try with_reducible rfl))
        (try simp only [Act.put, List.getElem_toArray, List.getElem_cons_zero, List.getElem_cons_succ, List.setIfInBounds_toArray, List.set_cons_zero, List.set_cons_succ])
        refine wpAnyH_take (i := 11) (v := ?_) rfl (by kernel_rfl) (by kernel_rfl) (by kernel_rfl) (fun _ _ _ h => h) (Or.inl ⟨by rfl, ?_⟩) (by assumption) ?_
        rotate_left
        · (intro w hSw; (try dsimp only at hSw); go_simp; (try with_reducible rfl))
        (try simp only [Act.put, List.getElem_toArray, List.getElem_cons_zero, List.getElem_cons_succ, List.setIfInBounds_toArray, List.set_cons_zero, List.set_cons_succ])
        refine wpAnyH_take (i := 12) (v := .int .i64 x.vid) rfl (by kernel_rfl) (by kernel_rfl) (by kernel_rfl) (fun _ _ _ h => h) (Or.inl ⟨by rfl, fun w hSw => by have c := hSw.cv 1 (.int .i64 x.vid) rfl; go_simp⟩) (by assumption) ?_
        (try simp only [Act.put, List.getElem_toArray, List.getElem_cons_zero, List.getElem_cons_succ, List.setIfInBounds_toArray, List.set_cons_zero, List.set_cons_succ])
        refine wpAnyH_take (i := 13) (v := ?_) rfl (by kernel_rfl) (by kernel_rfl) (by kernel_rfl) (fun _ _ _ h => h) (Or.inl ⟨by rfl, ?_⟩) (by assumption) ?_
        rotate_left
        · (intro w hSw; (try dsimp only at hSw); go_simp; (try with_reducible rfl))
        (try simp only [Act.put, List.getElem_toArray, List.getElem_cons_zero, List.getElem_cons_succ, List.setIfInBounds_toArray, List.set_cons_zero, List.set_cons_succ])
        refine wpAnyH_take (i := 14) (v := .agg (c6 x.a)) rfl (by kernel_rfl) (by kernel_rfl) (by kernel_rfl) (fun _ _ _ h => h) (Or.inl ⟨by rfl, fun w hSw => exec_load_blk (k := 2) 30 (c6 x.a) rfl rfl hSw (by kernel_rfl) (by kernel_rfl) rfl⟩) (by assumption) ?_
        (try simp only [Act.put, List.getElem_toArray, List.getElem_cons_zero, List.getElem_cons_succ, List.setIfInBounds_toArray, List.set_cons_zero, List.set_cons_succ])
        refine wpAnyH_take (i := 15) (v := ?_) rfl (by kernel_rfl) (by kernel_rfl) (by kernel_rfl) (fun _ _ _ h => h) (Or.inl ⟨by rfl, ?_⟩) (by assumption) ?_
        rotate_left
        · (intro w hSw; (try dsimp only at hSw); go_simp; (try with_reducible rfl))
        (try simp only [Act.put, List.getElem_toArray, List.getElem_cons_zero, List.getElem_cons_succ, List.setIfInBounds_toArray, List.set_cons_zero, List.set_cons_succ])
        refine wpAnyH_take (i := 16) (v := .int .i64 x.port) rfl (by kernel_rfl) (by kernel_rfl) (by kernel_rfl) (fun _ _ _ h => h) (Or.inl ⟨by rfl, fun w hSw => by have c := hSw.cv 8 (.int .i64 x.port) rfl; go_simp⟩) (by assumption) ?_
        (try simp only [Act.put, List.getElem_toArray, List.getElem_cons_zero, List.getElem_cons_succ, List.setIfInBounds_toArray, List.set_cons_zero, List.set_cons_succ])
        refine wpAnyH_take (i := 17) (v := ?_) rfl (by kernel_rfl) (by kernel_rfl) (by kernel_rfl) (fun _ _ _ h => h) (Or.inl ⟨by rfl, ?_⟩) (by assumption) ?_
        rotate_left
        · (intro w hSw; (try dsimp only at hSw); go_simp; (try with_reducible rfl))
        (try simp only [Act.put, List.getElem_toArray, List.getElem_cons_zero, List.getElem_cons_succ, List.setIfInBounds_toArray, List.set_cons_zero, List.set_cons_succ])
        refine wpAnyH_take (i := 18) (v := .int .i64 x.now) rfl (by kernel_rfl) (by kernel_rfl) (by kernel_rfl) (fun _ _ _ h => h) (Or.inl ⟨by rfl, fun w hSw => by have c := hSw.cv 9 (.int .i64 x.now) rfl; go_simp⟩) (by assumption) ?_
        (try simp only [Act.put, List.getElem_toArray, List.getElem_cons_zero, List.getElem_cons_succ, List.setIfInBounds_toArray, List.set_cons_zero, List.set_cons_succ])
        refine wpAnyH_ready (rs := [9]) (by kernel_rfl) (by simp) ?_
        refine AllReadyH.cons rfl (fun K hK => ?_) AllReadyH.nil
        simp only [List.getElem_toArray, List.getElem_cons_zero, List.getElem_cons_succ]
        go_simp
        refine (learn_any w.heap.size w.heap.size age last lE x.vid x.a x.port x.now _ (hT5.kept hd5) hxa (Nat.le_trans hB5 hd5.size)).mono ?_
        rintro e w6 ⟨rfl, h61, h62, hx6⟩
        have hN6 := hx6.blk (HN5.kept hd5) (by decide)
        have hR6 := (hR5.kept hd5).lx hx6 (by decide) (by decide)
        have hB5d := Nat.le_trans hB5 hd5.size
        have hE6 := HasErr.lx (hE5.below hd5) hx6 hgE
        have hB6 := Nat.le_trans (Nat.le_trans hB5 hd5.size) hx6.size
        refine hK.out _ _ ?_ (fun hHeld => ?_)
        · exact hN6
        clear hK K
        (try simp only [Act.put, List.getElem_toArray, List.getElem_cons_zero, List.getElem_cons_succ, List.setIfInBounds_toArray, List.set_cons_zero, List.set_cons_succ])
        refine wpAnyH_ready (rs := [19]) (by kernel_rfl) (by simp) ?_
        refine AllReadyH.cons rfl (fun K hK => ?_) AllReadyH.nil
        simp only [List.getElem_toArray, List.getElem_cons_zero, List.getElem_cons_succ]
        go_simp
        refine (rlearn_any w.heap.size rb age last lE x.vid x.a x.port x.now _ hR6 hxa hB6).mono ?_
        rintro e w7 ⟨rfl, h71, h72, hx7⟩
        have hN7 := hx7.blk hN6 (by decide)
        have h71t := Lib.hid (fun q => (h61 q).lx hx7 (by decide) (by decide))
        have h72t := Lib.hid (fun q => (h62 q).lx hx7 (by decide) (by decide))
        have h71 := Lib.hid h71
        have h72 := Lib.hid h72
        have hE7 := HasErr.lx hE6 hx7 hgE
        have hB7 := Nat.le_trans hB6 hx7.size
        refine hK.out _ _ ?_ (fun hHeld => ?_)
        · exact hN7
        clear hK K
        (try simp only [Act.put, List.getElem_toArray, List.getElem_cons_zero, List.getElem_cons_succ, List.setIfInBounds_toArray, List.set_cons_zero, List.set_cons_succ])
        refine wpAnyH_ready (rs := [20]) (by kernel_rfl) (by simp) ?_
        refine AllReadyH.cons rfl (fun K hK => ?_) AllReadyH.nil
        simp only [List.getElem_toArray, List.getElem_cons_zero, List.getElem_cons_succ]
        go_simp
        refine (bare_errV _ _ hE7).mono ?_
        rintro e w8 ⟨rfl, k8⟩
        have hN8 := hN7.kept k8
        have hE8 := hE7.below k8
        refine hK.out _ _ ?_ (fun hHeld => ?_)
        · exact hN8
        clear hK K
        (try simp only [Act.put, List.getElem_toArray, List.getElem_cons_zero, List.getElem_cons_succ, List.setIfInBounds_toArray, List.set_cons_zero, List.set_cons_succ])
        refine wpAnyH_take (i := 21) (v := ?_) rfl (by kernel_rfl) (by kernel_rfl) (by kernel_rfl) (fun _ _ _ h => h) (Or.inl ⟨by rfl, ?_⟩) (by assumption) ?_
        rotate_left
        · (intro w hSw; (try dsimp only at hSw); go_simp; (try with_reducible rfl))
        (try simp only [Act.put, List.getElem_toArray, List.getElem_cons_zero, List.getElem_cons_succ, List.setIfInBounds_toArray, List.set_cons_zero, List.set_cons_succ])
        refine wpAnyH_done (by kernel_rfl) ?_ _
        refine NoPanic.normal ?_
        have L78 : Below w.heap.size w w8 := ((B5.trans (hd5.mono hB5)).trans ((hx6.below hB5d).trans (hx7.below hB6))).trans (k8.mono hB7)
        go_wp2
        by_cases hle : learnErr last x.vid x.a x.port x.now = 0
        · go_roundw
          case rel => exact ⟨k + 1, _, _, by omega, by go_num, (h71t.out hle).kept k8, (h71.out hle).kept k8, L78 , hE8⟩
          case measure => simp [intOf]; omega
        · go_roundw
          case rel => exact ⟨k + 1, _, _, by omega, by go_num, (h72t.out hle).kept k8, (h72.out hle).kept k8, L78, hE8⟩
          case measure => simp [intOf]; omega
      have f0 : (x.what == 0) = false := by simpa using hw0
      by_cases hw1 : x.what = 1
      · rw [hw1] at n0
        clear hw1 hw0 f0
        go_upto_region 19 with (fail)
        have hd5 : Below w5.heap.size w5 w5.drew := (Below.refl _ _).drew
        refine wp_region_noPanic ?_
        refine wp_region_held_drew (S := (fun w' => Blk w' N 47 (ntC x))) (by kernel_rfl) ?_ (fun hHeld => ?_)
        · exact HN5
        refine wpAnyH_take (i := 0) (v := ?_) rfl (by kernel_rfl) (by kernel_rfl) (by kernel_rfl) (fun _ _ _ h => h) (Or.inl ⟨by rfl, ?_⟩) (by assumption) ?_
        rotate_left
        · (intro w hSw; (try dsimp only at hSw); go_simp; (try with_reducible rfl))
        (try simp only [Act.put, List.getElem_toArray, List.getElem_cons_zero, List.getElem_cons_succ, List.setIfInBounds_toArray, List.set_cons_zero, List.set_cons_succ])
        refine wpAnyH_take (i := 1) (v := ?_) rfl (by kernel_rfl) (by kernel_rfl) (by kernel_rfl) (fun _ _ _ h => h) (Or.inl ⟨by rfl, ?_⟩) (by assumption) ?_
        rotate_left
        · (intro w hSw; (try dsimp only at hSw); go_simp; (try with_reducible rfl))
        (try simp only [Act.put, List.getElem_toArray, List.getElem_cons_zero, List.getElem_cons_succ, List.setIfInBounds_toArray, List.set_cons_zero, List.set_cons_succ])
        refine wpAnyH_take (i := 2) (v := .int .i64 x.vid) rfl (by kernel_rfl) (by kernel_rfl) (by kernel_rfl) (fun _ _ _ h => h) (Or.inl ⟨by rfl, fun w hSw => by have c := hSw.cv 1 (.int .i64 x.vid) rfl; go_simp⟩) (by assumption) ?_
        (try simp only [Act.put, List.getElem_toArray, List.getElem_cons_zero, List.getElem_cons_succ, List.setIfInBounds_toArray, List.set_cons_zero, List.set_cons_succ])
        refine wpAnyH_take (i := 3) (v := ?_) rfl (by kernel_rfl) (by kernel_rfl) (by kernel_rfl) (fun _ _ _ h => h) (Or.inl ⟨by rfl, ?_⟩) (by assumption) ?_
        rotate_left
        · (intro w hSw; (try dsimp only at hSw); go_simp; (try with_reducible rfl))
        (try simp only [Act.put, List.getElem_toArray, List.getElem_cons_zero, List.getElem_cons_succ, List.setIfInBounds_toArray, List.set_cons_zero, List.set_cons_succ])
        refine wpAnyH_take (i := 4) (v := .agg (c6 x.a)) rfl (by kernel_rfl) (by kernel_rfl) (by kernel_rfl) (fun _ _ _ h => h) (Or.inl ⟨by rfl, fun w hSw => exec_load_blk (k := 2) 30 (c6 x.a) rfl rfl hSw (by kernel_rfl) (by kernel_rfl) rfl⟩) (by assumption) ?_
        (try simp only [Act.put, List.getElem_toArray, List.getElem_cons_zero, List.getElem_cons_succ, List.setIfInBounds_toArray, List.set_cons_zero, List.set_cons_succ])
        refine wpAnyH_take (i := 5) (v := ?_) rfl (by kernel_rfl) (by kernel_rfl) (by kernel_rfl) (fun _ _ _ h => h) (Or.inl ⟨by rfl, ?_⟩) (by assumption) ?_
        rotate_left
        · (intro w hSw; (try dsimp only at hSw); go_simp; (try with_reducible rfl))
        (try simp only [Act.put, List.getElem_toArray, List.getElem_cons_zero, List.getElem_cons_succ, List.setIfInBounds_toArray, List.set_cons_zero, List.set_cons_succ])
        refine wpAnyH_take (i := 6) (v := .int .i64 x.now) rfl (by kernel_rfl) (by kernel_rfl) (by kernel_rfl) (fun _ _ _ h => h) (Or.inl ⟨by rfl, fun w hSw => by have c := hSw.cv 9 (.int .i64 x.now) rfl; go_simp⟩) (by assumption) ?_
        (try simp only [Act.put, List.getElem_toArray, List.getElem_cons_zero, List.getElem_cons_succ, List.setIfInBounds_toArray, List.set_cons_zero, List.set_cons_succ])
        refine wpAnyH_take (i := 8) (v := ?_) rfl (by kernel_rfl) (by kernel_rfl) (by kernel_rfl) (fun _ _ _ h => h) (Or.inl ⟨by rfl, ?_⟩) (by assumption) ?_
        rotate_left
        · (intro w hSw; (try dsimp only at hSw); go_simp; (try with_reducible rfl))
        (try simp only [Act.put, List.getElem_toArray, List.getElem_cons_zero, List.getElem_cons_succ, List.setIfInBounds_toArray, List.set_cons_zero, List.set_cons_succ])
        refine wpAnyH_take (i := 9) (v := ?_) rfl (by kernel_rfl) (by kernel_rfl) (by kernel_rfl) (fun _ _ _ h => h) (Or.inl ⟨by rfl, ?_⟩) (by assumption) ?_
        rotate_left
        · (intro w hSw; (try dsimp only at hSw); go_simp; (try with_reducible rfl))
        (try simp only [Act.put, List.getElem_toArray, List.getElem_cons_zero, List.getElem_cons_succ, List.setIfInBounds_toArray, List.set_cons_zero, List.set_cons_succ])
        refine wpAnyH_take (i := 10) (v := .int .i64 x.vid) rfl (by kernel_rfl) (by kernel_rfl) (by kernel_rfl) (fun _ _ _ h => h) (Or.inl ⟨by rfl, fun w hSw => by have c := hSw.cv 1 (.int .i64 x.vid) rfl; go_simp⟩) (by assumption) ?_
        (try simp only [Act.put, List.getElem_toArray, List.getElem_cons_zero, List.getElem_cons_succ, List.setIfInBounds_toArray, List.set_cons_zero, List.set_cons_succ])
        refine wpAnyH_take (i := 11) (v := ?_) rfl (by kernel_rfl) (by kernel_rfl) (by kernel_rfl) (fun _ _ _ h => h) (Or.inl ⟨by rfl, ?_⟩) (by assumption) ?_
        rotate_left
        · (intro w hSw; (try dsimp only at hSw); go_simp; (try with_reducible rfl))
        (try simp only [Act.put, List.getElem_toArray, List.getElem_cons_zero, List.getElem_cons_succ, List.setIfInBounds_toArray, List.set_cons_zero, List.set_cons_succ])
        refine wpAnyH_take (i := 12) (v := .agg (c6 x.a)) rfl (by kernel_rfl) (by kernel_rfl) (by kernel_rfl) (fun _ _ _ h => h) (Or.inl ⟨by rfl, fun w hSw => exec_load_blk (k := 2) 30 (c6 x.a) rfl rfl hSw (by kernel_rfl) (by kernel_rfl) rfl⟩) (by assumption) ?_
        (try simp only [Act.put, List.getElem_toArray, List.getElem_cons_zero, List.getElem_cons_succ, List.setIfInBounds_toArray, List.set_cons_zero, List.set_cons_succ])
        refine wpAnyH_take (i := 13) (v := ?_) rfl (by kernel_rfl) (by kernel_rfl) (by kernel_rfl) (fun _ _ _ h => h) (Or.inl ⟨by rfl, ?_⟩) (by assumption) ?_
        rotate_left
        · (intro w hSw; (try dsimp only at hSw); go_simp; (try with_reducible rfl))
        (try simp only [Act.put, List.getElem_toArray, List.getElem_cons_zero, List.getElem_cons_succ, List.setIfInBounds_toArray, List.set_cons_zero, List.set_cons_succ])
        refine wpAnyH_take (i := 14) (v := .int .i64 x.now) rfl (by kernel_rfl) (by kernel_rfl) (by kernel_rfl) (fun _ _ _ h => h) (Or.inl ⟨by rfl, fun w hSw => by have c := hSw.cv 9 (.int .i64 x.now) rfl; go_simp⟩) (by assumption) ?_
        (try simp only [Act.put, List.getElem_toArray, List.getElem_cons_zero, List.getElem_cons_succ, List.setIfInBounds_toArray, List.set_cons_zero, List.set_cons_succ])
        refine wpAnyH_ready (rs := [7]) (by kernel_rfl) (by simp) ?_
        refine AllReadyH.cons rfl (fun K hK => ?_) AllReadyH.nil
        simp only [List.getElem_toArray, List.getElem_cons_zero, List.getElem_cons_succ]
        go_simp
        refine (lnLook_any w.heap.size w.heap.size age last lE x.vid x.a x.now _ (hT5.kept hd5)).mono ?_
        rintro e w6 ⟨rfl, k6⟩
        have hN6 := (HN5.kept hd5).kept k6
        have hR6 := (hR5.kept hd5).kept k6
        have hT6 := (hT5.kept hd5).kept k6
        have hE6 := (hE5.below hd5).below k6
        refine hK.out _ _ ?_ (fun hHeld => ?_)
        · exact hN6
        clear hK K
        (try simp only [Act.put, List.getElem_toArray, List.getElem_cons_zero, List.getElem_cons_succ, List.setIfInBounds_toArray, List.set_cons_zero, List.set_cons_succ])
        refine wpAnyH_ready (rs := [15]) (by kernel_rfl) (by simp) ?_
        refine AllReadyH.cons rfl (fun K hK => ?_) AllReadyH.nil
        simp only [List.getElem_toArray, List.getElem_cons_zero, List.getElem_cons_succ]
        go_simp
        refine (rfLook_any w.heap.size rb age last lE x.vid x.a x.now _ hR6 hn1.out hn2.out).mono ?_
        rintro e w7 ⟨rfl, k7⟩
        have hN7 := hN6.kept k7
        have hR7 := hR6.kept k7
        have hT7 := hT6.kept k7
        have hE7 := hE6.below k7
        refine hK.out _ _ ?_ (fun hHeld => ?_)
        · exact hN7
        clear hK K
        (try simp only [Act.put, List.getElem_toArray, List.getElem_cons_zero, List.getElem_cons_succ, List.setIfInBounds_toArray, List.set_cons_zero, List.set_cons_succ])
        refine wpAnyH_take (i := 16) (v := ?_) rfl (by kernel_rfl) (by kernel_rfl) (by kernel_rfl) (fun _ _ _ h => h) (Or.inl ⟨by rfl, ?_⟩) (by assumption) ?_
        rotate_left
        · (intro w hSw; (try dsimp only at hSw); go_simp; (try with_reducible rfl))
        (try simp only [Act.put, List.getElem_toArray, List.getElem_cons_zero, List.getElem_cons_succ, List.setIfInBounds_toArray, List.set_cons_zero, List.set_cons_succ])
        refine wpAnyH_done (by kernel_rfl) ?_ _
        refine NoPanic.normal ?_
        have hb6 : w.heap.size ≤ w5.drew.heap.size := Nat.le_trans hB5 hd5.size
        have hb7 : w.heap.size ≤ w6.heap.size := Nat.le_trans hb6 k6.size
        have hbv : (lookM age lE x.vid x.a x.now != lookM age lE x.vid x.a x.now) = false := by simp
        go_wp2
        go_roundw
        case rel => exact ⟨k + 1, _, _, by omega, by go_num, hT7, hR7, (B5.trans (hd5.mono hB5)).trans ((k6.mono hb6).trans (k7.mono hb7)), hE7⟩
        case measure => simp [intOf]; omega
      have f1 : (x.what == 1) = false := by simpa using hw1
      by_cases hw2 : x.what = 2
      · rw [hw2] at n0
        clear hw2 hw1 hw0 f0 f1
        have n8 := HN5.cv 8 (.int .i64 x.port) rfl
        go_wp2_with (first
          | (go_at_call 16; refine (forget_any w.heap.size w.heap.size age last lE x.port _ hT5 hB5).mono ?_; rintro e w6 ⟨rfl, hT6, hx6⟩; have hR6 := hR5.lx hx6 (by decide) (by decide); have HN6 := hx6.blk HN5 (by decide); have n8 := HN6.cv 8 (.int .i64 x.port) rfl; have n0 := HN6.cv 0 (.int .i64 x.what) rfl; have hE6 := HasErr.lx hE5 hx6 hgE; have hB6 := Nat.le_trans hB5 hx6.size; clear hT5)
          | (go_at_call 17; refine (rforget_any w.heap.size rb age last lE x.port _ hR6 hB6).mono ?_; rintro e w7 ⟨rfl, hR7, hx7⟩; have hT7 := hT6.lx hx7 (by decide) (by decide); have hE7 := HasErr.lx hE6 hx7 hgE))
        go_roundw
        case rel => exact ⟨k + 1, _, _, by omega, by go_num, hT7, hR7, (B5.trans (hx6.below hB5)).trans (hx7.below hB6), hE7⟩
        case measure => simp [intOf]; omega
      have f2 : (x.what == 2) = false := by simpa using hw2
      by_cases hw3 : x.what = 3
      · rw [hw3] at n0
        clear hw3 hw2 hw1 hw0 f0 f1 f2
        go_upto_region 25 with (fail)
        have hd5 : Below w5.heap.size w5 w5.drew := (Below.refl _ _).drew
        refine wp_region_noPanic ?_
        refine wp_region_held_drew (S := (fun w' => Blk w' N 47 (ntC x))) (by kernel_rfl) ?_ (fun hHeld => ?_)
        · exact HN5
        refine wpAnyH_take (i := 0) (v := ?_) rfl (by kernel_rfl) (by kernel_rfl) (by kernel_rfl) (fun _ _ _ h => h) (Or.inl ⟨by rfl, ?_⟩) (by assumption) ?_
        rotate_left
        · (intro w hSw; (try dsimp only at hSw); go_simp; (try with_reducible rfl))
        (try simp only [Act.put, List.getElem_toArray, List.getElem_cons_zero, List.getElem_cons_succ, List.setIfInBounds_toArray, List.set_cons_zero, List.set_cons_succ])
        refine wpAnyH_take (i := 1) (v := ?_) rfl (by kernel_rfl) (by kernel_rfl) (by kernel_rfl) (fun _ _ _ h => h) (Or.inl ⟨by rfl, ?_⟩) (by assumption) ?_
        rotate_left
        · (intro w hSw; (try dsimp only at hSw); go_simp; (try with_reducible rfl))
        (try simp only [Act.put, List.getElem_toArray, List.getElem_cons_zero, List.getElem_cons_succ, List.setIfInBounds_toArray, List.set_cons_zero, List.set_cons_succ])
        refine wpAnyH_take (i := 2) (v := .int .i64 x.now) rfl (by kernel_rfl) (by kernel_rfl) (by kernel_rfl) (fun _ _ _ h => h) (Or.inl ⟨by rfl, fun w hSw => by have c := hSw.cv 9 (.int .i64 x.now) rfl; go_simp⟩) (by assumption) ?_
        (try simp only [Act.put, List.getElem_toArray, List.getElem_cons_zero, List.getElem_cons_succ, List.setIfInBounds_toArray, List.set_cons_zero, List.set_cons_succ])
        refine wpAnyH_take (i := 4) (v := ?_) rfl (by kernel_rfl) (by kernel_rfl) (by kernel_rfl) (fun _ _ _ h => h) (Or.inl ⟨by rfl, ?_⟩) (by assumption) ?_
        rotate_left
        · (intro w hSw; (try dsimp only at hSw); go_simp; (try with_reducible rfl))
        (try simp only [Act.put, List.getElem_toArray, List.getElem_cons_zero, List.getElem_cons_succ, List.setIfInBounds_toArray, List.set_cons_zero, List.set_cons_succ])
        refine wpAnyH_take (i := 5) (v := ?_) rfl (by kernel_rfl) (by kernel_rfl) (by kernel_rfl) (fun _ _ _ h => h) (Or.inl ⟨by rfl, ?_⟩) (by assumption) ?_
        rotate_left
        · (intro w hSw; (try dsimp only at hSw); go_simp; (try with_reducible rfl))
        (try simp only [Act.put, List.getElem_toArray, List.getElem_cons_zero, List.getElem_cons_succ, List.setIfInBounds_toArray, List.set_cons_zero, List.set_cons_succ])
        refine wpAnyH_take (i := 6) (v := .int .i64 x.now) rfl (by kernel_rfl) (by kernel_rfl) (by kernel_rfl) (fun _ _ _ h => h) (Or.inl ⟨by rfl, fun w hSw => by have c := hSw.cv 9 (.int .i64 x.now) rfl; go_simp⟩) (by assumption) ?_
        (try simp only [Act.put, List.getElem_toArray, List.getElem_cons_zero, List.getElem_cons_succ, List.setIfInBounds_toArray, List.set_cons_zero, List.set_cons_succ])
        refine wpAnyH_ready (rs := [3]) (by kernel_rfl) (by simp) ?_
        refine AllReadyH.cons rfl (fun K hK => ?_) AllReadyH.nil
        simp only [List.getElem_toArray, List.getElem_cons_zero, List.getElem_cons_succ]
        go_simp
        refine (lnLen_any w.heap.size w.heap.size age last lE x.now _ (hT5.kept hd5)).mono ?_
        rintro e w6 ⟨rfl, k6⟩
        have hN6 := (HN5.kept hd5).kept k6
        have hR6 := (hR5.kept hd5).kept k6
        have hT6 := (hT5.kept hd5).kept k6
        have hE6 := (hE5.below hd5).below k6
        refine hK.out _ _ ?_ (fun hHeld => ?_)
        · exact hN6
        clear hK K
        (try simp only [Act.put, List.getElem_toArray, List.getElem_cons_zero, List.getElem_cons_succ, List.setIfInBounds_toArray, List.set_cons_zero, List.set_cons_succ])
        refine wpAnyH_ready (rs := [7]) (by kernel_rfl) (by simp) ?_
        refine AllReadyH.cons rfl (fun K hK => ?_) AllReadyH.nil
        simp only [List.getElem_toArray, List.getElem_cons_zero, List.getElem_cons_succ]
        go_simp
        refine (rfLen_any w.heap.size rb age last lE x.now _ hR6 hn1.out hn2.out).mono ?_
        rintro e w7 ⟨rfl, k7⟩
        have hN7 := hN6.kept k7
        have hR7 := hR6.kept k7
        have hT7 := hT6.kept k7
        have hE7 := hE6.below k7
        refine hK.out _ _ ?_ (fun hHeld => ?_)
        · exact hN7
        clear hK K
        (try simp only [Act.put, List.getElem_toArray, List.getElem_cons_zero, List.getElem_cons_succ, List.setIfInBounds_toArray, List.set_cons_zero, List.set_cons_succ])
        refine wpAnyH_take (i := 8) (v := ?_) rfl (by kernel_rfl) (by kernel_rfl) (by kernel_rfl) (fun _ _ _ h => h) (Or.inl ⟨by rfl, ?_⟩) (by assumption) ?_
        rotate_left
        · (intro w hSw; (try dsimp only at hSw); go_simp; (try with_reducible rfl))
        (try simp only [Act.put, List.getElem_toArray, List.getElem_cons_zero, List.getElem_cons_succ, List.setIfInBounds_toArray, List.set_cons_zero, List.set_cons_succ])
        refine wpAnyH_done (by kernel_rfl) ?_ _
        refine NoPanic.normal ?_
        have hb6 : w.heap.size ≤ w5.drew.heap.size := Nat.le_trans hB5 hd5.size
        have hb7 : w.heap.size ≤ w6.heap.size := Nat.le_trans hb6 k6.size
        have hbv : ((lenM age lE x.now : Int) != (lenM age lE x.now : Int)) = false := by simp
        go_wp2
        go_roundw
        case rel => exact ⟨k + 1, _, _, by omega, by go_num, hT7, hR7, (B5.trans (hd5.mono hB5)).trans ((k6.mono hb6).trans (k7.mono hb7)), hE7⟩
        case measure => simp [intOf]; omega
      have f3 : (x.what == 3) = false := by simpa using hw3
      clear hw0 hw1 hw2 hw3
      go_wp2
      go_roundw
      case rel => exact ⟨k + 1, _, _, by omega, by go_num, hT5, hR5, B5, hE5⟩
      case measure => simp [intOf]; omega
    · obtain rfl : k = l.length := by omega
      have q2 : decide ((l.length : Int) < (l.length : Int)) = false := decide_eq_false (by omega)
      go_wp2
      go_ret
      exact ⟨rfl, Bk⟩
end learnKeeps

end Go.Proofs.YtgeiiengieonfaaDoor
