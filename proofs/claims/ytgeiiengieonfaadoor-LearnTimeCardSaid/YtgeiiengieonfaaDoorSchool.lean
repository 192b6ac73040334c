/- switchyardkeep: pick, address, school. -/
import Derived.Test.YtgeiiengieonfaaDoorLe
import Derived.Test.YtgeiiengieonfaaDoorLnD
namespace Go.Proofs.YtgeiiengieonfaaDoor
open Go.RowKit
open Go.Shelf
attribute [local go_sem ↓] Go.wp_at_zero Go.wp_at_succ
set_option linter.unusedSimpArgs false
set_option linter.unusedVariables false
set_option maxRecDepth 100000

theorem pick_val (a : Int) (n : Nat) (w : World) (h1 : 1 ≤ n) (hn : n ≤ 281474976710656) :
    Calls Tryd.prog 7 #[.int .i64 a, .int .i64 n] w fun e w' => e = .returned (.int .i64 (pickN a n)) ∧ w = w' := by
  have HR := Lib.hid (pickN_val a n h1 hn)
  go_enter Tryd.func7, Tryd.ntmps7
  go_wp2
  go_ret
  exact ⟨by rw [← HR.out]; rfl, rfl⟩

set_option maxHeartbeats 1600000 in
theorem address_any (n : Int) (w : World) :
    Calls Tryd.prog 9 #[.int .i64 n] w fun e w' => e = .returned (.agg (c6 (adF n))) ∧ Below w.heap.size w w' := by
  have HP := Lib.hid (fun w => pick_val n 60 w (by decide) (by decide))
  have hp := pickN_lt n 60 (by decide)
  have hc6 : Hid (c6 (adF n) = #[.int .u8 2, .int .u8 0, .int .u8 0, .int .u8 0, .int .u8 ((pickN n 60 / 8 : Nat) : Int), .int .u8 (pickN n 60 : Nat)]) := rfl
  generalize pickN n 60 = p at *
  have e1 : IntKind.u8.wrap (p : Int) = (p : Int) := by rw [IntKind.wrap_u8] <;> omega
  have e2 : IntKind.i64.wrap ((p : Int).tdiv 8) = ((p / 8 : Nat) : Int) := by
    have : (p : Int).tdiv 8 = ((p / 8 : Nat) : Int) := by rw [Int.tdiv_eq_ediv_of_nonneg (by omega)]; omega
    rw [this, IntKind.wrap_i64] <;> omega
  have e3 : IntKind.u8.wrap ((p / 8 : Nat) : Int) = ((p / 8 : Nat) : Int) := by rw [IntKind.wrap_u8] <;> omega
  go_enter Tryd.func9, Tryd.ntmps9
  go_wp2_with (go_at_call 7; refine (HP.out _).mono ?_; rintro e w' ⟨rfl, rfl⟩)
  exact bodyPost_ret (v := .agg #[.int .u8 2, .int .u8 0, .int .u8 0, .int .u8 0, .int .u8 ((p : Int) / 8), .int .u8 (p : Int)]) (by simp [results, Tryd.results9, go_sem]) rfl ⟨by rw [hc6.out, show ((p / 8 : Nat) : Int) = (p : Int) / 8 by omega], (Below.refl _ _).alloc (Nat.le_refl _) _⟩

set_option maxHeartbeats 3200000 in
theorem school_any (a : Option Addr) (c : Nat) (l : List Le) (w : World) (h : LeIn w a l) (hlen : l.length ≤ 1000) :
    Calls Tryd.prog 6 #[.slice a l.length c] w fun e w' => e = .returned (.tuple #[.pointer (some ⟨w.heap.size, 0, none⟩), .int .i64 (schoolM l).2]) ∧ Tab w' w.heap.size w.heap.size 100 (schoolM l).2 (schoolM l).1 ∧ Below w.heap.size w w' := by
  have hll : l.length ≤ 9223372036854775807 := by omega
  have HN := Lib.hid (new_ok 100 w (by decide) (by decide))
  have HLEN := Lib.hid hlen
  go_enter Tryd.func6, Tryd.ntmps6
  go_wp2_with (go_at_call 12; refine HN.out.mono ?_; rintro e w1 ⟨rfl, hT1, k1, hs1⟩)
  have hS0 : schoolM (l.take 0) = ([], 0) := rfl
  go_loopw [6, 21] (fun s6 s21 wr => ∃ k : Nat, k ≤ l.length ∧ s21 = .int .i64 k ∧ (∃ (tE : Int) (lE : List Ent), s6 = .int .i64 tE ∧ schoolM (l.take k) = (lE, tE) ∧ Tab wr w.heap.size w.heap.size 100 tE lE) ∧ Below w.heap.size w wr) (fun _ i _ => l.length - (intOf i).toNat)
  case atStart => exact ⟨0, by omega, rfl, ⟨0, [], rfl, rfl, hT1⟩, k1⟩
  case round =>
    obtain ⟨k, hk, rfl, ⟨tE, lE, rfl, hS, hT⟩, Bk⟩ := hrel
    by_cases hlt : k < l.length
    · have hI := h.below Bk
      obtain ⟨b, lo, rfl, hbl, hat⟩ := hI.at hlt
      have q1 : (k : Int) < (l.length : Int) := by omega
      have q2 : decide ((k : Int) < (l.length : Int)) = true := decide_eq_true q1
      have q3 : (0 : Int) ≤ (k : Int) := by omega
      have q4 : IntKind.i64.wrap ((k : Int) + 1) = (k : Int) + 1 := by have := HLEN.out; rw [IntKind.wrap_i64] <;> omega
      have HK := hat k hlt
      have hSk := school_kept (l.take k) (by rw [List.length_take]; have := HLEN.out; omega)
      rw [hS] at hSk
      have hlk : (l.take k).length ≤ 1000 := by rw [List.length_take]; have := HLEN.out; omega
      have hX := List.getElem?_eq_getElem hlt
      generalize l[k] = x at *
      have HSN := Lib.hid ((school_take hX).trans (by rw [hS]))
      have p1 := pickN_lt x.port 8 (by decide)
      have p2 := pickN_lt x.after 30 (by decide)
      have p3 := pickN_lt x.vid 3 (by decide)
      have hw1 : IntKind.i64.wrap (tE + pickN x.after 30) = tE + pickN x.after 30 := by have := hSk.2; simp only at this; rw [IntKind.wrap_i64] <;> omega
      have hw2 : IntKind.i64.wrap (1 + (pickN x.vid 3 : Int)) = 1 + (pickN x.vid 3 : Int) := by rw [IntKind.wrap_i64] <;> omega
      have HERR := Lib.hid (show learnErr tE (1 + pickN x.vid 3) (adF x.addr) (pickN x.port 8) (tE + pickN x.after 30) = 0 by
        have := hSk.2
        simp only at this
        have := adF_even x.addr
        unfold learnErr
        rw [if_neg (by omega), if_neg (by omega), if_neg (by omega)])
      have hsw := Bk.size
      have HA4 := Blk.new wr 53 (leC zLe)
      have b4 : Below wr.heap.size wr (wr.alloc (.cells (leC zLe) 53)) := (Below.refl _ _).alloc (Nat.le_refl _) _
      clear hat hI hX hSk hlk hS
      go_upto_region 8 with (first
        | (refine load_cells (B := b) (k := lo + k * 4) 53 (leC x) (by rfl) rfl rfl HK (by kernel_rfl) (by kernel_rfl) ?_)
        | (refine alloc_blk 53 (leC zLe) (by rfl) rfl Tryd.leZero ?_)
        | (refine store_blk (k := 0) 53 (.agg (leC x)) (leC x) (by rfl) rfl rfl rfl HA4 (by kernel_rfl) (show (4 : Nat) ≤ 4 from Nat.le_refl 4) (by rfl) (st_whole' _ _ rfl) ?_; intro w5 HN5 b5 g5))
      have b45 : Below wr.heap.size wr w5 := b4.trans b5
      have hT5 := hT.kept b45
      have B5 : Below w.heap.size w w5 := Bk.trans (b45.mono hsw)
      have hB5 := B5.size
      clear HA4 b4 b5 g5 HK b45 hT Bk hbl
      generalize wr.heap.size = N at *
      have n3 := HN5.cv 3 (.int .i64 x.after) rfl
      go_upto_region 9 with (go_at_call 7; refine (pick_val x.after 30 _ (by decide) (by decide)).mono ?_; rintro e w' ⟨rfl, rfl⟩)
      have hd5 : Below w5.heap.size w5 w5.drew := (Below.refl _ _).drew
      refine wp_region_noPanic ?_
      refine wp_region_held_drew (S := (fun w' => Blk w' N 53 (leC x))) (by kernel_rfl) ?_ (fun hHeld => ?_)
      · exact HN5
      refine wpAnyH_take (i := 0) (v := ?_) rfl (by kernel_rfl) (by kernel_rfl) (by kernel_rfl) (fun _ _ _ h => h) (Or.inl ⟨by rfl, ?_⟩) (by assumption) ?_
      rotate_left
      · (intro w hSw; (try dsimp only at hSw); go_simp; (try with_reducible rfl))
      (try simp only [Act.put, List.getElem_toArray, List.getElem_cons_zero, List.getElem_cons_succ, List.setIfInBounds_toArray, List.set_cons_zero, List.set_cons_succ])
      refine wpAnyH_take (i := 1) (v := ?_) rfl (by kernel_rfl) (by kernel_rfl) (by kernel_rfl) (fun _ _ _ h => h) (Or.inl ⟨by rfl, ?_⟩) (by assumption) ?_
      rotate_left
      · (intro w hSw; (try dsimp only at hSw); go_simp; (try with_reducible rfl))
      (try simp only [Act.put, List.getElem_toArray, List.getElem_cons_zero, List.getElem_cons_succ, List.setIfInBounds_toArray, List.set_cons_zero, List.set_cons_succ])
      refine wpAnyH_take (i := 2) (v := .int .i64 x.vid) rfl (by kernel_rfl) (by kernel_rfl) (by kernel_rfl) (fun _ _ _ h => h) (Or.inl ⟨by rfl, fun w hSw => by have c := hSw.cv 0 (.int .i64 x.vid) rfl; go_simp⟩) (by assumption) ?_
      (try simp only [Act.put, List.getElem_toArray, List.getElem_cons_zero, List.getElem_cons_succ, List.setIfInBounds_toArray, List.set_cons_zero, List.set_cons_succ])
      refine wpAnyH_take (i := 5) (v := ?_) rfl (by kernel_rfl) (by kernel_rfl) (by kernel_rfl) (fun _ _ _ h => h) (Or.inl ⟨by rfl, ?_⟩) (by assumption) ?_
      rotate_left
      · (intro w hSw; (try dsimp only at hSw); go_simp; (try with_reducible rfl))
      (try simp only [Act.put, List.getElem_toArray, List.getElem_cons_zero, List.getElem_cons_succ, List.setIfInBounds_toArray, List.set_cons_zero, List.set_cons_succ])
      refine wpAnyH_take (i := 6) (v := .int .i64 x.addr) rfl (by kernel_rfl) (by kernel_rfl) (by kernel_rfl) (fun _ _ _ h => h) (Or.inl ⟨by rfl, fun w hSw => by have c := hSw.cv 1 (.int .i64 x.addr) rfl; go_simp⟩) (by assumption) ?_
      (try simp only [Act.put, List.getElem_toArray, List.getElem_cons_zero, List.getElem_cons_succ, List.setIfInBounds_toArray, List.set_cons_zero, List.set_cons_succ])
      refine wpAnyH_take (i := 8) (v := ?_) rfl (by kernel_rfl) (by kernel_rfl) (by kernel_rfl) (fun _ _ _ h => h) (Or.inl ⟨by rfl, ?_⟩) (by assumption) ?_
      rotate_left
      · (intro w hSw; (try dsimp only at hSw); go_simp; (try with_reducible rfl))
      (try simp only [Act.put, List.getElem_toArray, List.getElem_cons_zero, List.getElem_cons_succ, List.setIfInBounds_toArray, List.set_cons_zero, List.set_cons_succ])
      refine wpAnyH_take (i := 9) (v := .int .i64 x.port) rfl (by kernel_rfl) (by kernel_rfl) (by kernel_rfl) (fun _ _ _ h => h) (Or.inl ⟨by rfl, fun w hSw => by have c := hSw.cv 2 (.int .i64 x.port) rfl; go_simp⟩) (by assumption) ?_
      (try simp only [Act.put, List.getElem_toArray, List.getElem_cons_zero, List.getElem_cons_succ, List.setIfInBounds_toArray, List.set_cons_zero, List.set_cons_succ])
      refine wpAnyH_take (i := 11) (v := ?_) rfl (by kernel_rfl) (by kernel_rfl) (by kernel_rfl) (fun _ _ _ h => h) (Or.inl ⟨by rfl, ?_⟩) (by assumption) ?_
      rotate_left
      · (intro w hSw; (try dsimp only at hSw); go_simp; (try with_reducible rfl))
      (try simp only [Act.put, List.getElem_toArray, List.getElem_cons_zero, List.getElem_cons_succ, List.setIfInBounds_toArray, List.set_cons_zero, List.set_cons_succ])
      refine wpAnyH_ready (rs := [3]) (by kernel_rfl) (by simp) ?_
      refine AllReadyH.cons rfl (fun K hK => ?_) AllReadyH.nil
      simp only [List.getElem_toArray, List.getElem_cons_zero, List.getElem_cons_succ]
      go_simp
      refine (pick_val x.vid 3 _ (by decide) (by decide)).mono ?_
      rintro e w' ⟨rfl, rfl⟩
      refine hK.out _ _ ?_ (fun hHeld => ?_)
      · exact HN5
      clear hK K
      (try simp only [Act.put, List.getElem_toArray, List.getElem_cons_zero, List.getElem_cons_succ, List.setIfInBounds_toArray, List.set_cons_zero, List.set_cons_succ])
      refine wpAnyH_take (i := 4) (v := ?_) rfl (by kernel_rfl) (by kernel_rfl) (by kernel_rfl) (fun _ _ _ h => h) (Or.inl ⟨by rfl, ?_⟩) (by assumption) ?_
      rotate_left
      · (intro w hSw; (try dsimp only at hSw); go_simp; (try with_reducible rfl))
      (try simp only [Act.put, List.getElem_toArray, List.getElem_cons_zero, List.getElem_cons_succ, List.setIfInBounds_toArray, List.set_cons_zero, List.set_cons_succ])
      refine wpAnyH_ready (rs := [7]) (by kernel_rfl) (by simp) ?_
      refine AllReadyH.cons rfl (fun K hK => ?_) AllReadyH.nil
      simp only [List.getElem_toArray, List.getElem_cons_zero, List.getElem_cons_succ]
      go_simp
      refine (address_any x.addr _).mono ?_
      rintro e w6 ⟨rfl, k6⟩
      have hN6 := (HN5.kept hd5).kept k6
      have hT6 := (hT5.kept hd5).kept k6
      have hB6 := Nat.le_trans (Nat.le_trans hB5 hd5.size) k6.size
      refine hK.out _ _ ?_ (fun hHeld => ?_)
      · exact hN6
      clear hK K
      (try simp only [Act.put, List.getElem_toArray, List.getElem_cons_zero, List.getElem_cons_succ, List.setIfInBounds_toArray, List.set_cons_zero, List.set_cons_succ])
      refine wpAnyH_ready (rs := [10]) (by kernel_rfl) (by simp) ?_
      refine AllReadyH.cons rfl (fun K hK => ?_) AllReadyH.nil
      simp only [List.getElem_toArray, List.getElem_cons_zero, List.getElem_cons_succ]
      go_simp
      refine (pick_val x.port 8 _ (by decide) (by decide)).mono ?_
      rintro e w' ⟨rfl, rfl⟩
      refine hK.out _ _ ?_ (fun hHeld => ?_)
      · exact hN6
      clear hK K
      (try simp only [Act.put, List.getElem_toArray, List.getElem_cons_zero, List.getElem_cons_succ, List.setIfInBounds_toArray, List.set_cons_zero, List.set_cons_succ])
      refine wpAnyH_ready (rs := [12]) (by kernel_rfl) (by simp) ?_
      refine AllReadyH.cons rfl (fun K hK => ?_) AllReadyH.nil
      simp only [List.getElem_toArray, List.getElem_cons_zero, List.getElem_cons_succ]
      go_simp
      refine (learn_any w.heap.size w.heap.size 100 tE lE (1 + pickN x.vid 3) (adF x.addr) (pickN x.port 8) (tE + pickN x.after 30) _ hT6 (adF_lt _) hB6).mono ?_
      rintro e w7 ⟨rfl, h71, -, hx7⟩
      rw [HERR.out, show errV 0 = .nilIface from rfl]
      have hN7 := hx7.blk hN6 (by decide)
      refine hK.out _ _ ?_ (fun hHeld => ?_)
      · exact hN7
      clear hK K
      (try simp only [Act.put, List.getElem_toArray, List.getElem_cons_zero, List.getElem_cons_succ, List.setIfInBounds_toArray, List.set_cons_zero, List.set_cons_succ])
      refine wpAnyH_take (i := 13) (v := ?_) rfl (by kernel_rfl) (by kernel_rfl) (by kernel_rfl) (fun _ _ _ h => h) (Or.inl ⟨by rfl, ?_⟩) (by assumption) ?_
      rotate_left
      · (intro w hSw; (try dsimp only at hSw); go_simp; (try with_reducible rfl))
      (try simp only [Act.put, List.getElem_toArray, List.getElem_cons_zero, List.getElem_cons_succ, List.setIfInBounds_toArray, List.set_cons_zero, List.set_cons_succ])
      refine wpAnyH_done (by kernel_rfl) ?_ _
      refine NoPanic.normal ?_
      go_wp2
      go_roundw
      case rel => exact ⟨k + 1, by omega, by go_num, ⟨_, _, rfl, HSN.out, h71 HERR.out⟩, ((B5.trans (hd5.mono hB5)).trans (k6.mono (Nat.le_trans hB5 hd5.size))).trans (hx7.below hB6)⟩
      case measure => simp [intOf]; omega
    · obtain rfl : k = l.length := by omega
      have q2 : decide ((l.length : Int) < (l.length : Int)) = false := decide_eq_false (by omega)
      rw [List.take_length] at hS
      have HS1 := Lib.hid (congrArg Prod.fst hS)
      have HS2 := Lib.hid (congrArg Prod.snd hS)
      clear hS
      go_wp2
      go_ret2
      rw [HS1.out, HS2.out]
      exact ⟨rfl, hT, Bk⟩

end Go.Proofs.YtgeiiengieonfaaDoor
