/- md5.words: a block's sixteen words. -/
import Derived.Test.YtlfeholphngilaaDoorMdMix
import Derived.Test.YtlfeholphngilaaDoorStOp
import Derived.Test.YtlfeholphngilaaDoorCells
import Derived.Deep.RegionHeld3
namespace Go.Proofs.YtlfeholphngilaaDoor
open Go.RowKit
attribute [local go_sem ↓] Go.wp_at_zero Go.wp_at_succ
set_option linter.unusedSimpArgs false
set_option linter.unusedVariables false
set_option maxRecDepth 100000

def z16 : Array Value := #[.int .u32 0, .int .u32 0, .int .u32 0, .int .u32 0, .int .u32 0, .int .u32 0, .int .u32 0, .int .u32 0, .int .u32 0, .int .u32 0, .int .u32 0, .int .u32 0, .int .u32 0, .int .u32 0, .int .u32 0, .int .u32 0]
theorem wK_none (l : List UInt8) : wK l 0 = z16 := by
  unfold wK
  simp only [wordK_zero]
  rfl
theorem Tryd.w16Zero : (Tryd.prog.info? 72).map (·.zero) = some (some (.agg z16)) := by kernel_rfl
theorem word_or (l : List UInt8) (q r b : Nat) (hr : r < 4) (hb : (l.getD (4 * q + r) 0).toNat = b) : bits BinOp.or IntKind.u32 ((wordK l (4 * q + r) (4 * q) : Nat) : Int) (IntKind.u32.wrap ((b : Int) * 2 ^ (8 * r))) = ((wordK l (4 * q + r + 1) (4 * q) : Nat) : Int) := by
  rw [show IntKind.u32.wrap ((b : Int) * 2 ^ (8 * r)) = (b : Int) * 2 ^ (8 * r) % 4294967296 by unfold IntKind.wrap; simp [IntKind.bits, IntKind.signed]]
  have e : (b : Int) * 2 ^ (8 * r) % 4294967296 = ((b * 2 ^ (8 * r) % 4294967296 : Nat) : Int) := by simp
  have hs := wordK_step l q r hr
  rw [hb] at hs
  rw [e, u32_or_nat _ _ (wordK_lt l _ _) (Nat.mod_lt _ (by decide)), hs]

set_option maxHeartbeats 3200000 in
theorem words_any (s : ByteArray) (hs : s.size = 64) (w : World) :
    Calls Tryd.prog 46 #[.string s] w fun e w' => e = .returned (.agg (wC s.data.toList)) ∧ Below w.heap.size w w' := by
  obtain ⟨l, hl⟩ : ∃ l, l = s.data.toList := ⟨_, rfl⟩
  have HL : ∀ (k : Nat) (p : k < s.size), s[k]'p = l.getD k 0 := fun k p => by
    rw [hl, List.getD_eq_getElem?_getD, List.getElem?_eq_getElem (by simpa using p)]
    rfl
  have HN := Blk.new w 72 (wK l 0)
  have B0 : Below w.heap.size w (w.alloc (.cells (wK l 0) 72)) := (Below.refl _ _).alloc (Nat.le_refl _) _
  have HZ : Hid ((Tryd.prog.info? 72).map (·.zero) = some (some (.agg (wK l 0)))) := by show _ = _; rw [wK_none]; exact Tryd.w16Zero
  rw [← hl]
  clear hl
  go_enter Tryd.func46, Tryd.ntmps46
  go_upto_region 1 with (refine alloc_blk 72 (wK l 0) (by rfl) rfl HZ.out ?_)
  generalize w.alloc (.cells (wK l 0) 72) = w1 at *
  (try simp only [Act.put, List.setIfInBounds_toArray, List.set_cons_zero, List.set_cons_succ])
  go_wp2_with fail
  go_loopw [6] (fun i wr => ∃ k : Nat, k ≤ 64 ∧ i = .int .i64 k ∧ Blk wr w.heap.size 72 (wK l k) ∧ Below w.heap.size w wr) (fun i _ => 64 - (intOf i).toNat)
  case atStart => exact ⟨0, by omega, rfl, HN, B0⟩
  case round =>
    clear HN B0 HZ
    obtain ⟨k, hk, rfl, HB, hb⟩ := hrel
    by_cases hlt : k < 64
    · obtain ⟨q, hq⟩ : ∃ q, q = k / 4 := ⟨_, rfl⟩
      obtain ⟨r, hr⟩ : ∃ r, r = k % 4 := ⟨_, rfl⟩
      have hq16 : q < 16 := by omega
      have hsz : w.heap.size ≤ w.heap.size := Nat.le_refl _
      have hr4 : r < 4 := by omega
      have hk4 : k = 4 * q + r := by omega
      have e1 : (k : Int) / 4 = (q : Int) := by omega
      have e2 : (k : Int).tmod 4 = (r : Int) := by rw [Int.tmod_eq_emod_of_nonneg (by omega)]; omega
      have e3 : IntKind.i64.wrap (8 * (r : Int)) = ((8 * r : Nat) : Int) := by unfold IntKind.wrap; simp [IntKind.bits, IntKind.signed]; omega
      obtain ⟨b, hb8⟩ : ∃ b, b = l.getD k 0 := ⟨_, rfl⟩
      have hbb : ∀ p, s[k]'p = b := fun p => by rw [HL k p, hb8]
      have hbl : b.toNat < 256 := b.toBitVec.isLt
      have hbw : IntKind.u32.wrap (b.toNat : Int) = (b.toNat : Int) := by unfold IntKind.wrap; simp [IntKind.bits, IntKind.signed]; omega
      have hwq : IntKind.i64.wrap (q : Int) = (q : Int) := by unfold IntKind.wrap; simp [IntKind.bits, IntKind.signed]; omega
      have hqI : (q : Int) < 16 := by omega
      have hmn : min (8 * r) 32 = 8 * r := by omega
      have hor := word_or l q r b.toNat hr4 (by rw [← hk4, ← hb8])
      have HC : wr.drew.cell? ⟨w.heap.size, q, none⟩ = some (.int .u32 (wordK l k (4 * q) : Nat)) := HB.cv q _ (wK_at l k q hq16)
      have HS : Hid ((wK l k).setIfInBounds q (.int .u32 (wordK l (k + 1) (4 * q) : Nat)) = wK l (k + 1)) := by show _ = _; rw [hq]; exact wK_set l k hlt _ rfl
      have HG : Hid ((wK l (k + 1))[q]? = some (.int .u32 (wordK l (k + 1) (4 * q) : Nat))) := wK_at l (k + 1) q hq16
      rw [← hk4] at hor
      have HK4 := Lib.hid hk4
      clear hq hr hb8 hk4 HL
      generalize wordK l (k + 1) (4 * q) = X at *
      generalize wordK l k (4 * q) = W at *
      generalize 8 * r = S at *
      go_upto_region 4 with (fail)
      refine wp_region_noPanic ?_
      refine wp_region_held_drew (S := (fun _ => True)) (by kernel_rfl) ?_ (fun hHeld => ?_)
      · exact trivial
      refine wpAnyH_take (i := 0) (v := ?_) rfl (by kernel_rfl) (by kernel_rfl) (by kernel_rfl) (fun _ _ _ h => h) (Or.inl ⟨by rfl, ?_⟩) (by assumption) ?_
      rotate_left
      · (intro w hSw; (try dsimp only at hSw); go_simp; (try with_reducible rfl))
      (try simp only [Act.put, List.getElem_toArray, List.getElem_cons_zero, List.getElem_cons_succ, List.setIfInBounds_toArray, List.set_cons_zero, List.set_cons_succ])
      refine wpAnyH_take (i := 1) (v := ?_) rfl (by kernel_rfl) (by kernel_rfl) (by kernel_rfl) (fun _ _ _ h => h) (Or.inl ⟨by rfl, ?_⟩) (by assumption) ?_
      rotate_left
      · (intro w hSw; (try dsimp only at hSw); go_simp; (try with_reducible rfl))
      (try simp only [Act.put, List.getElem_toArray, List.getElem_cons_zero, List.getElem_cons_succ, List.setIfInBounds_toArray, List.set_cons_zero, List.set_cons_succ])
      refine wpAnyH_take (i := 2) (v := ?_) rfl (by kernel_rfl) (by kernel_rfl) (by kernel_rfl) (fun _ _ _ h => h) (Or.inl ⟨by rfl, ?_⟩) (by assumption) ?_
      rotate_left
      · (intro w hSw; (try dsimp only at hSw); go_simp; (try with_reducible rfl))
      (try simp only [Act.put, List.getElem_toArray, List.getElem_cons_zero, List.getElem_cons_succ, List.setIfInBounds_toArray, List.set_cons_zero, List.set_cons_succ])
      refine wpAnyH_take (i := 4) (v := ?_) rfl (by kernel_rfl) (by kernel_rfl) (by kernel_rfl) (fun _ _ _ h => h) (Or.inl ⟨by rfl, ?_⟩) (by assumption) ?_
      rotate_left
      · (intro w hSw; (try dsimp only at hSw); go_simp; (try with_reducible rfl))
      (try simp only [Act.put, List.getElem_toArray, List.getElem_cons_zero, List.getElem_cons_succ, List.setIfInBounds_toArray, List.set_cons_zero, List.set_cons_succ])
      refine wpAnyH_take (i := 5) (v := ?_) rfl (by kernel_rfl) (by kernel_rfl) (by kernel_rfl) (fun _ _ _ h => h) (Or.inl ⟨by rfl, ?_⟩) (by assumption) ?_
      rotate_left
      · (intro w hSw; (try dsimp only at hSw); go_simp; (try with_reducible rfl))
      (try simp only [Act.put, List.getElem_toArray, List.getElem_cons_zero, List.getElem_cons_succ, List.setIfInBounds_toArray, List.set_cons_zero, List.set_cons_succ])
      refine wpAnyH_take (i := 6) (v := ?_) rfl (by kernel_rfl) (by kernel_rfl) (by kernel_rfl) (fun _ _ _ h => h) (Or.inl ⟨by rfl, ?_⟩) (by assumption) ?_
      rotate_left
      · (intro w hSw; (try dsimp only at hSw); go_simp; (try with_reducible rfl))
      (try simp only [Act.put, List.getElem_toArray, List.getElem_cons_zero, List.getElem_cons_succ, List.setIfInBounds_toArray, List.set_cons_zero, List.set_cons_succ])
      refine wpAnyH_take (i := 7) (v := ?_) rfl (by kernel_rfl) (by kernel_rfl) (by kernel_rfl) (fun _ _ _ h => h) (Or.inl ⟨by rfl, ?_⟩) (by assumption) ?_
      rotate_left
      · (intro w hSw; (try dsimp only at hSw); go_simp; (try with_reducible rfl))
      (try simp only [Act.put, List.getElem_toArray, List.getElem_cons_zero, List.getElem_cons_succ, List.setIfInBounds_toArray, List.set_cons_zero, List.set_cons_succ])
      refine wpAnyH_take (i := 8) (v := ?_) rfl (by kernel_rfl) (by kernel_rfl) (by kernel_rfl) (fun _ _ _ h => h) (Or.inl ⟨by rfl, ?_⟩) (by assumption) ?_
      rotate_left
      · (intro w hSw; (try dsimp only at hSw); go_simp; (try with_reducible rfl))
      (try simp only [Act.put, List.getElem_toArray, List.getElem_cons_zero, List.getElem_cons_succ, List.setIfInBounds_toArray, List.set_cons_zero, List.set_cons_succ])
      refine wpAnyH_take (i := 9) (v := ?_) rfl (by kernel_rfl) (by kernel_rfl) (by kernel_rfl) (fun _ _ _ h => h) (Or.inl ⟨by rfl, ?_⟩) (by assumption) ?_
      rotate_left
      · (intro w hSw; (try dsimp only at hSw); go_simp; (try with_reducible rfl))
      (try simp only [Act.put, List.getElem_toArray, List.getElem_cons_zero, List.getElem_cons_succ, List.setIfInBounds_toArray, List.set_cons_zero, List.set_cons_succ])
      refine wpAnyH_take (i := 10) (v := ?_) rfl (by kernel_rfl) (by kernel_rfl) (by kernel_rfl) (fun _ _ _ h => h) (Or.inl ⟨by rfl, ?_⟩) (by assumption) ?_
      rotate_left
      · (intro w hSw; (try dsimp only at hSw); go_simp; (try with_reducible rfl))
      (try simp only [Act.put, List.getElem_toArray, List.getElem_cons_zero, List.getElem_cons_succ, List.setIfInBounds_toArray, List.set_cons_zero, List.set_cons_succ])
      refine wpAnyH_take (i := 11) (v := ?_) rfl (by kernel_rfl) (by kernel_rfl) (by kernel_rfl) (fun _ _ _ h => h) (Or.inl ⟨by rfl, ?_⟩) (by assumption) ?_
      rotate_left
      · (intro w hSw; (try dsimp only at hSw); go_simp; (try with_reducible rfl))
      (try simp only [Act.put, List.getElem_toArray, List.getElem_cons_zero, List.getElem_cons_succ, List.setIfInBounds_toArray, List.set_cons_zero, List.set_cons_succ])
      refine wpAnyH_ready (rs := [3]) (by kernel_rfl) (by simp) ?_
      refine AllReadyH.cons rfl (fun K hK => ?_) AllReadyH.nil
      simp only [List.getElem_toArray, List.getElem_cons_zero, List.getElem_cons_succ]
      go_simp
      skip
      refine hK.out _ _ ?_ (fun hHeld => ?_)
      · exact trivial
      clear hK K
      (try simp only [Act.put, List.getElem_toArray, List.getElem_cons_zero, List.getElem_cons_succ, List.setIfInBounds_toArray, List.set_cons_zero, List.set_cons_succ])
      refine wpAnyH_take (i := 12) (v := ?_) rfl (by kernel_rfl) (by kernel_rfl) (by kernel_rfl) (fun _ _ _ h => h) (Or.inl ⟨by rfl, ?_⟩) (by assumption) ?_
      rotate_left
      · (intro w hSw; (try dsimp only at hSw); go_simp; (try with_reducible rfl))
      (try simp only [Act.put, List.getElem_toArray, List.getElem_cons_zero, List.getElem_cons_succ, List.setIfInBounds_toArray, List.set_cons_zero, List.set_cons_succ])
      refine wpAnyH_take (i := 13) (v := ?_) rfl (by kernel_rfl) (by kernel_rfl) (by kernel_rfl) (fun _ _ _ h => h) (Or.inl ⟨by rfl, ?_⟩) (by assumption) ?_
      rotate_left
      · (intro w hSw; (try dsimp only at hSw); go_simp; (try with_reducible rfl))
      (try simp only [Act.put, List.getElem_toArray, List.getElem_cons_zero, List.getElem_cons_succ, List.setIfInBounds_toArray, List.set_cons_zero, List.set_cons_succ])
      refine wpAnyH_ready (rs := [14]) (by kernel_rfl) (by simp) ?_
      refine AllReadyH.cons rfl (fun K hK => ?_) AllReadyH.nil
      simp only [List.getElem_toArray, List.getElem_cons_zero, List.getElem_cons_succ]
      rw [if_pos (by rfl)]
      refine wp_store_op (k := q) 46 (.int .u32 (X : Nat)) (wK l (k + 1)) (by rfl) rfl rfl HB.drew (by kernel_rfl) (by rw [wK_size]; show q + 1 ≤ 16; omega) (by rfl) (st_cell _ _ q _ rfl (by rw [wK_size]; omega) HS.out) (fun w5 R5 b5 g5 => ?_)
      refine hK.out _ _ ?_ (fun hHeld => ?_)
      · exact trivial
      clear hK K
      (try simp only [Act.put, List.getElem_toArray, List.getElem_cons_zero, List.getElem_cons_succ, List.setIfInBounds_toArray, List.set_cons_zero, List.set_cons_succ])
      refine wpAnyH_done (by kernel_rfl) ?_ _
      refine NoPanic.normal ?_
      go_wp2
      go_roundw
      case rel => exact ⟨k + 1, by omega, by go_num, R5, hb.drew.trans (b5.mono hsz)⟩
      case measure => simp [intOf]; omega
    · obtain rfl : k = 64 := by omega
      have hsz : w.heap.size ≤ w.heap.size := Nat.le_refl _
      rw [wK_all] at HB

      have hk1 : Hid (0 + (Value.agg (wC l)).cells.toList.length ≤ (wC l).size) := by show 0 + (wC l).toList.length ≤ _; simp
      have hk2 : Hid ((Value.agg (wC l)).cells.toList.all (·.oneCell') = true) := by show _ = _; rfl
      go_upto_region 6 with (fail)
      refine wp_region_lit ?_
      refine load_blk (k := 0) 72 (wC l) (by rfl) rfl rfl HB (by kernel_rfl) (by kernel_rfl) (by rfl) ?_
      (try simp only [Act.put, List.setIfInBounds_toArray, List.set_cons_zero, List.set_cons_succ])
      refine store_blk (k := 0) 72 (.agg (wC l)) (wC l) (by rfl) rfl rfl rfl HB (by kernel_rfl) hk1.out hk2.out (st_whole _ _ rfl) ?_
      intro w4 HV b4 g4
      go_wp2
      exact bodyPost_ret (results_blk rfl rfl HV (by kernel_rfl) (by kernel_rfl)) rfl ⟨rfl, hb.trans (b4.mono hsz)⟩

end Go.Proofs.YtlfeholphngilaaDoor
