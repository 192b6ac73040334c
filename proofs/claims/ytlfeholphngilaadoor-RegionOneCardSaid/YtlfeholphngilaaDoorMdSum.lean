/- md5.Sum at every text. -/
import Derived.Test.YtlfeholphngilaaDoorMdBlocks
import Derived.Test.YtlfeholphngilaaDoorMdPadding
import Derived.Test.YtlfeholphngilaaDoorBuildF
import Derived.Test.YtlfeholphngilaaDoorBy
import Derived.Test.YtlfeholphngilaaDoorMust
import Derived.Test.YtlfeholphngilaaDoorIsB
namespace Go.Proofs.YtlfeholphngilaaDoor
open Go.RowKit
attribute [local go_sem ↓] Go.wp_at_zero Go.wp_at_succ
set_option linter.unusedSimpArgs false
set_option linter.unusedVariables false
set_option maxRecDepth 100000

set_option maxHeartbeats 12800000 in
theorem mdSum_any (s : ByteArray) (hs : s.size ≤ 1000000) (w : World) (HM : HasMd w) :
    Calls Tryd.prog 10 #[.string s] w fun e w' => e = .returned (.string ⟨(md5L s.data.toList).toArray⟩) ∧ Below w.heap.size w w' := by
  obtain ⟨l, hl⟩ : ∃ l, l = s.data.toList := ⟨_, rfl⟩
  have hlen : l.length = s.size := by rw [hl]; simp
  obtain ⟨q, hq⟩ : ∃ q, q = l.length / 64 := ⟨_, rfl⟩
  obtain ⟨p, hp⟩ : ∃ p, p = (padL l).length / 64 - q := ⟨_, rfl⟩
  have hpl := padL_len l
  have hpn : padN l.length < 64 := Nat.mod_lt _ (by decide)
  have hk : 64 * q + 64 * p = (padL l).length := by omega
  have HOUT := Lib.hid (sum_md5 l q p hq hk)
  have hW1 : (s.extract 0 (64 * q)).data.toList = l.take (64 * q) := by rw [piece_list s _ _ (by omega) (by omega), hl]; rfl
  have hW2 : (s.extract (64 * q) s.size).data.toList = l.drop (64 * q) := by rw [piece_list s _ _ (by omega) (by omega), ← hl, ← hlen, List.take_of_length_le (by simp)]
  have hW3 : (s.extract 0 (64 * q)).size = 64 * q := by simp [ByteArray.size_extract]; omega
  have hD2 : s.extract (64 * q) s.size = ⟨(l.drop (64 * q)).toArray⟩ := by apply ByteArray.ext; apply Array.toList_inj.1; rw [hW2]
  have HB1 := Lib.hid (fun W HM => addBlocks_any (s.extract 0 (64 * q)) q _ hW3 rfl (by omega) md0 md0_lt W HM)
  rw [hW1] at HB1
  have HL1 := runG_lt q (l.take (64 * q)) md0_lt
  have hsz2 : (⟨(l.drop (64 * q) ++ padT l.length).toArray⟩ : ByteArray).size = 64 * p := by
    show (l.drop (64 * q) ++ padT l.length).toArray.size = _
    simp only [List.size_toArray, List.length_append, List.length_drop, padT_len]
    omega
  have HB2 := Lib.hid (fun W HM => addBlocks_any ⟨(l.drop (64 * q) ++ padT l.length).toArray⟩ p _ hsz2 rfl (by omega) (runG blockG q (l.take (64 * q)) md0) HL1 W HM)
  have HL2 := Lib.hid (runG_lt p (l.drop (64 * q) ++ padT l.length) HL1)
  have HP := Lib.hid (fun W => padding_any s.size (by omega) W)
  have hadd : ∀ W, (Op.stringOp .add (s.extract (64 * q) s.size) ⟨(padT s.size).toArray⟩).run Tryd.prog W = .ok (.string ⟨(l.drop (64 * q) ++ padT l.length).toArray⟩) W := fun W => by
    rw [hD2, ← hlen]
    exact run_string_add_lists (P := Tryd.prog) W (l.drop (64 * q)) (padT l.length) (by simp; omega) (by rw [padT_len]; omega)
  rw [show (⟨(l.drop (64 * q) ++ padT l.length).toArray⟩ : ByteArray).data.toList = l.drop (64 * q) ++ padT l.length from rfl] at HB2
  generalize runG blockG p (l.drop (64 * q) ++ padT l.length) (runG blockG q (l.take (64 * q)) md0) = X2 at *
  generalize runG blockG q (l.take (64 * q)) md0 = X1 at *
  obtain ⟨r, hr⟩ : ∃ r, r = s.size % 64 := ⟨_, rfl⟩
  obtain ⟨N, hN⟩ : ∃ N, N = s.size := ⟨_, rfl⟩
  have e1 : (N : Int).tmod 64 = (r : Int) := by rw [Int.tmod_eq_emod_of_nonneg (by omega)]; omega
  have e1b : (N : Int) % 64 = (r : Int) := by omega
  have e2 : IntKind.i64.wrap ((N : Int) - (r : Int)) = ((64 * q : Nat) : Int) := by rw [IntKind.wrap_i64] <;> omega
  have e2b : (N : Int) - (r : Int) = ((64 * q : Nat) : Int) := by omega
  have e3 : ((64 * q : Nat) : Int) ≤ (N : Int) := by omega
  have hs2 : s.size = N := hN.symm
  rw [← hl]
  rw [← hN] at hadd HP
  have HADD := Lib.hid hadd
  generalize (⟨(l.drop (64 * q) ++ padT l.length).toArray⟩ : ByteArray) = T2 at *
  generalize (⟨(padT N).toArray⟩ : ByteArray) = T1 at *
  generalize md5L l = out at *
  clear hl hlen hp hpl hpn hk hW1 hW2 hW3 hD2 hsz2 hq hr hN hadd
  generalize hA : 64 * q = A at *
  clear hA
  have hadd := HADD.out
  have H0 := Blk.new w 47 z4
  have B0 : Below w.heap.size w (w.alloc (.cells z4 47)) := (Below.refl _ _).alloc (Nat.le_refl _) _
  go_enter Tryd.func10, Tryd.ntmps10
  go_upto_region 2 with (first
    | (refine build_blk (t := 47) (qC md0) (by rfl) rfl (by kernel_rfl) ?_)
    | (refine alloc_blk 47 z4 (by rfl) rfl Tryd.q4Zero ?_)
    | (refine store_blk (k := 0) 47 (.agg (qC md0)) (qC md0) (by rfl) rfl rfl rfl H0 (by kernel_rfl) (show (4 : Nat) ≤ 4 from Nat.le_refl 4) (by rfl) (st_whole _ _ rfl) (fun w1 H1 b1 g1 => ?_)))
  have B1 := B0.trans b1
  clear H0 B0 b1 g1
  go_upto_region 3 with (fail)
  refine wp_region_noPanic ?_
  refine wp_region_held_drew (S := (fun w' => True)) (by kernel_rfl) ?_ (fun hHeld => ?_)
  · exact trivial
  refine wpAnyH_take (i := 1) (v := ?_) rfl (by kernel_rfl) (by kernel_rfl) (by kernel_rfl) (fun _ _ _ h => h) (Or.inl ⟨by rfl, ?_⟩) (by assumption) ?_
  rotate_left
  · (intro w hSw; (try dsimp only at hSw); go_simp; (try with_reducible rfl))
  (try simp only [Act.put, List.getElem_toArray, List.getElem_cons_zero, List.getElem_cons_succ, List.setIfInBounds_toArray, List.set_cons_zero, List.set_cons_succ])
  refine wpAnyH_take (i := 2) (v := ?_) rfl (by kernel_rfl) (by kernel_rfl) (by kernel_rfl) (fun _ _ _ h => h) (Or.inl ⟨by rfl, ?_⟩) (by assumption) ?_
  rotate_left
  · (intro w hSw; (try dsimp only at hSw); go_simp; (try with_reducible rfl))
  (try simp only [Act.put, List.getElem_toArray, List.getElem_cons_zero, List.getElem_cons_succ, List.setIfInBounds_toArray, List.set_cons_zero, List.set_cons_succ])
  refine wpAnyH_take (i := 3) (v := ?_) rfl (by kernel_rfl) (by kernel_rfl) (by kernel_rfl) (fun _ _ _ h => h) (Or.inl ⟨by rfl, ?_⟩) (by assumption) ?_
  rotate_left
  · (intro w hSw; (try dsimp only at hSw); go_simp; (try with_reducible rfl))
  (try simp only [Act.put, List.getElem_toArray, List.getElem_cons_zero, List.getElem_cons_succ, List.setIfInBounds_toArray, List.set_cons_zero, List.set_cons_succ])
  refine wpAnyH_ready (rs := [0]) (by kernel_rfl) (by simp) ?_
  refine AllReadyH.cons rfl (fun K hK => ?_) AllReadyH.nil
  simp only [List.getElem_toArray, List.getElem_cons_zero, List.getElem_cons_succ]
  rw [if_pos (by rfl)]
  refine wp_load_op (k := 0) 47 (qC md0) rfl rfl H1.drew (by kernel_rfl) (by kernel_rfl) rfl ?_
  refine hK.out _ _ ?_ (fun hHeld => ?_)
  · exact trivial
  clear hK K
  (try simp only [Act.put, List.getElem_toArray, List.getElem_cons_zero, List.getElem_cons_succ, List.setIfInBounds_toArray, List.set_cons_zero, List.set_cons_succ])
  refine wpAnyH_ready (rs := [4]) (by kernel_rfl) (by simp) ?_
  refine AllReadyH.cons rfl (fun K hK => ?_) AllReadyH.nil
  simp only [List.getElem_toArray, List.getElem_cons_zero, List.getElem_cons_succ]
  go_simp
  with_reducible refine (HB1.out _ (HM.below B1.drew)).mono ?_
  rintro e w2 ⟨rfl, k2⟩
  refine hK.out _ _ ?_ (fun hHeld => ?_)
  · exact trivial
  clear hK K
  (try simp only [Act.put, List.getElem_toArray, List.getElem_cons_zero, List.getElem_cons_succ, List.setIfInBounds_toArray, List.set_cons_zero, List.set_cons_succ])
  refine wpAnyH_ready (rs := [5]) (by kernel_rfl) (by simp) ?_
  refine AllReadyH.cons rfl (fun K hK => ?_) AllReadyH.nil
  simp only [List.getElem_toArray, List.getElem_cons_zero, List.getElem_cons_succ]
  rw [if_pos (by rfl)]
  refine wp_store_op (k := 0) 47 (.agg (qC X1)) (qC X1) (by rfl) rfl rfl (H1.drew.kept k2) (by kernel_rfl) (show (4 : Nat) ≤ 4 from Nat.le_refl 4) (by rfl) (st_whole _ _ rfl) (fun w5 R5 b5 g5 => ?_)
  refine hK.out _ _ ?_ (fun hHeld => ?_)
  · exact trivial
  clear hK K
  (try simp only [Act.put, List.getElem_toArray, List.getElem_cons_zero, List.getElem_cons_succ, List.setIfInBounds_toArray, List.set_cons_zero, List.set_cons_succ])
  refine wpAnyH_done (by kernel_rfl) ?_ _
  refine NoPanic.normal ?_
  have B5 := (B1.drew.trans (k2.mono B1.size)).trans b5
  clear k2 b5 g5 H1 B1
  go_upto_region 4 with (fail)
  refine wp_region_noPanic ?_
  refine wp_region_held_drew (S := (fun w' => True)) (by kernel_rfl) ?_ (fun hHeld => ?_)
  · exact trivial
  refine wpAnyH_take (i := 1) (v := ?_) rfl (by kernel_rfl) (by kernel_rfl) (by kernel_rfl) (fun _ _ _ h => h) (Or.inl ⟨by rfl, ?_⟩) (by assumption) ?_
  rotate_left
  · (intro w hSw; (try dsimp only at hSw); go_simp; (try with_reducible rfl))
  (try simp only [Act.put, List.getElem_toArray, List.getElem_cons_zero, List.getElem_cons_succ, List.setIfInBounds_toArray, List.set_cons_zero, List.set_cons_succ])
  refine wpAnyH_take (i := 2) (v := ?_) rfl (by kernel_rfl) (by kernel_rfl) (by kernel_rfl) (fun _ _ _ h => h) (Or.inl ⟨by rfl, ?_⟩) (by assumption) ?_
  rotate_left
  · (intro w hSw; (try dsimp only at hSw); go_simp; (try with_reducible rfl))
  (try simp only [Act.put, List.getElem_toArray, List.getElem_cons_zero, List.getElem_cons_succ, List.setIfInBounds_toArray, List.set_cons_zero, List.set_cons_succ])
  refine wpAnyH_take (i := 3) (v := ?_) rfl (by kernel_rfl) (by kernel_rfl) (by kernel_rfl) (fun _ _ _ h => h) (Or.inl ⟨by rfl, ?_⟩) (by assumption) ?_
  rotate_left
  · (intro w hSw; (try dsimp only at hSw); go_simp; (try with_reducible rfl))
  (try simp only [Act.put, List.getElem_toArray, List.getElem_cons_zero, List.getElem_cons_succ, List.setIfInBounds_toArray, List.set_cons_zero, List.set_cons_succ])
  refine wpAnyH_take (i := 4) (v := ?_) rfl (by kernel_rfl) (by kernel_rfl) (by kernel_rfl) (fun _ _ _ h => h) (Or.inl ⟨by rfl, ?_⟩) (by assumption) ?_
  rotate_left
  · (intro w hSw; (try dsimp only at hSw); go_simp; (try with_reducible rfl))
  (try simp only [Act.put, List.getElem_toArray, List.getElem_cons_zero, List.getElem_cons_succ, List.setIfInBounds_toArray, List.set_cons_zero, List.set_cons_succ])
  refine wpAnyH_take (i := 5) (v := ?_) rfl (by kernel_rfl) (by kernel_rfl) (by kernel_rfl) (fun _ _ _ h => h) (Or.inl ⟨by rfl, ?_⟩) (by assumption) ?_
  rotate_left
  · (intro w hSw; (try dsimp only at hSw); go_simp; (try with_reducible rfl))
  (try simp only [Act.put, List.getElem_toArray, List.getElem_cons_zero, List.getElem_cons_succ, List.setIfInBounds_toArray, List.set_cons_zero, List.set_cons_succ])
  refine wpAnyH_ready (rs := [0, 6]) (by kernel_rfl) (by simp) ?_
  refine AllReadyH.cons rfl (fun K hK => ?_) (AllReadyH.cons rfl (fun K hK => ?_) AllReadyH.nil)
  · skip
    simp only [List.getElem_toArray, List.getElem_cons_zero, List.getElem_cons_succ]
    rw [if_pos (by rfl)]
    refine wp_load_op (k := 0) 47 (qC X1) rfl rfl R5.drew (by kernel_rfl) (by kernel_rfl) rfl ?_
    refine hK.out _ _ ?_ (fun hHeld => ?_)
    · exact trivial
    clear hK K
    (try simp only [Act.put, List.getElem_toArray, List.getElem_cons_zero, List.getElem_cons_succ, List.setIfInBounds_toArray, List.set_cons_zero, List.set_cons_succ])
    refine wpAnyH_ready (rs := [6]) (by kernel_rfl) (by simp) ?_
    refine AllReadyH.cons rfl (fun K hK => ?_) AllReadyH.nil
    simp only [List.getElem_toArray, List.getElem_cons_zero, List.getElem_cons_succ]
    go_simp
    with_reducible refine (HP.out _).mono ?_
    rintro e w6 ⟨rfl, k6⟩
    refine hK.out _ _ ?_ (fun hHeld => ?_)
    · exact trivial
    clear hK K
    (try simp only [Act.put, List.getElem_toArray, List.getElem_cons_zero, List.getElem_cons_succ, List.setIfInBounds_toArray, List.set_cons_zero, List.set_cons_succ])
    refine wpAnyH_take (i := 7) (v := ?_) rfl (by kernel_rfl) (by kernel_rfl) (by kernel_rfl) (fun _ _ _ h => h) (Or.inl ⟨by rfl, ?_⟩) (by assumption) ?_
    rotate_left
    · (intro w hSw; (try dsimp only at hSw); go_simp; (try with_reducible rfl))
    (try simp only [Act.put, List.getElem_toArray, List.getElem_cons_zero, List.getElem_cons_succ, List.setIfInBounds_toArray, List.set_cons_zero, List.set_cons_succ])
    refine wpAnyH_ready (rs := [8]) (by kernel_rfl) (by simp) ?_
    refine AllReadyH.cons rfl (fun K hK => ?_) AllReadyH.nil
    simp only [List.getElem_toArray, List.getElem_cons_zero, List.getElem_cons_succ]
    go_simp
    with_reducible refine (HB2.out _ (HM.below (B5.drew.trans (k6.mono B5.drew.size)))).mono ?_
    rintro e w7 ⟨rfl, k7⟩
    have K7 := k6.trans (k7.mono k6.size)
    refine hK.out _ _ ?_ (fun hHeld => ?_)
    · exact trivial
    clear hK K
    (try simp only [Act.put, List.getElem_toArray, List.getElem_cons_zero, List.getElem_cons_succ, List.setIfInBounds_toArray, List.set_cons_zero, List.set_cons_succ])
    refine wpAnyH_ready (rs := [9]) (by kernel_rfl) (by simp) ?_
    refine AllReadyH.cons rfl (fun K hK => ?_) AllReadyH.nil
    simp only [List.getElem_toArray, List.getElem_cons_zero, List.getElem_cons_succ]
    rw [if_pos (by rfl)]
    refine wp_store_op (k := 0) 47 (.agg (qC X2)) (qC X2) (by rfl) rfl rfl (R5.drew.kept K7) (by kernel_rfl) (show (4 : Nat) ≤ 4 from Nat.le_refl 4) (by rfl) (st_whole _ _ rfl) (fun w8 R8 b8 g8 => ?_)
    refine hK.out _ _ ?_ (fun hHeld => ?_)
    · exact trivial
    clear hK K
    (try simp only [Act.put, List.getElem_toArray, List.getElem_cons_zero, List.getElem_cons_succ, List.setIfInBounds_toArray, List.set_cons_zero, List.set_cons_succ])
    refine wpAnyH_done (by kernel_rfl) ?_ _
    refine NoPanic.normal ?_
    have B8 := (B5.drew.trans (K7.mono B5.drew.size)).trans b8
    clear k6 k7 K7 b8 g8 R5 B5
    have hBw : w.heap.size ≤ w8.heap.size := B8.size
    have HB0 := build_new w8
    have C0 := B8.alloc hBw (.cells #[.pointer none, .slice none 0 0] 53)
    have R9 := R8.alloc (.cells #[.pointer none, .slice none 0 0] 53)
    have hD9 : w8.heap.size ≤ (w8.alloc (.cells #[.pointer none, .slice none 0 0] 53)).heap.size := by simp
    go_upto_region 6 with (refine alloc_blk 53 #[.pointer none, .slice none 0 0] (by rfl) rfl Tryd.bdZero ?_)
    generalize w8.alloc (.cells #[.pointer none, .slice none 0 0] 53) = w9 at *
    generalize w8.heap.size = D at *
    clear R8 B8
    (try simp only [Act.put, List.setIfInBounds_toArray, List.set_cons_zero, List.set_cons_succ])
    go_upto_region 7 with (refine load_blk (k := 0) 47 (qC X2) (by rfl) rfl rfl R9 (by kernel_rfl) (by kernel_rfl) rfl ?_)
    clear R9
    go_loopw [7, 30] (fun _ i wr => ∃ t : Nat, t ≤ 4 ∧ i = .int .i64 t ∧ Lib.IsBuilder 53 5 D D (Lib.byteCells (outK X2 t)) wr ∧ Below w.heap.size w wr ∧ D ≤ wr.heap.size) (fun _ i _ => 4 - (intOf i).toNat)
    case atStart => exact ⟨0, by omega, rfl, HB0, C0, hD9⟩
    case round =>
      clear HB0 C0 hD9
      obtain ⟨t, ht, rfl, HBk, Bk, hDw⟩ := hrel
      by_cases hlt : t < 4
      · have hx := qN_lt HL2.out t
        have hix := run_index_arr (P := Tryd.prog) wr 47 46 4 t (qC X2) _ Tryd.underlying47 (by kernel_rfl) hlt (by kernel_rfl) (qC_at X2 t hlt)
        have HMu : Hid (∀ W, Calls Tryd.prog 34 #[.int .i64 (revN (qN X2 t) : Nat), .int .i64 4] W fun e w' => e = .returned (.string ⟨(leN (qN X2 t) 4).toArray⟩) ∧ Below W.heap.size W w') := fun W => by
          rw [← put_rev32 (qN X2 t) hx]
          exact must_fits _ 4 W (by omega) (by omega) (rev_lt _ hx)
        have HRv := Lib.hid (fun W => rev_any (qN X2 t) hx W)
        have hrl := rev_lt _ hx
        have HO : Hid (outK X2 (t + 1) = outK X2 t ++ leN (qN X2 t) 4) := rfl
        have HLo := Lib.hid (outK_len X2 t)
        have HLe := Lib.hid (leN_len 4 (qN X2 t))
        generalize revN (qN X2 t) = rv at *
        generalize hlq : leN (qN X2 t) 4 = L4 at *
        generalize qN X2 t = x at *
        clear hlq
        go_wp2_with (refine index_blk (qC X2) _ (by rfl) rfl rfl rfl hix ?_)
        refine (HRv.out _).mono ?_
        rintro e w2 ⟨rfl, rfl⟩
        go_wp2_with fail
        refine (HMu.out _).mono ?_
        rintro e w2 ⟨rfl, k2⟩
        have HB2' := isB_below HBk k2
        have hbn : (Lib.byteCells (outK X2 t)).length ≤ 100 := by
          have hq : (Lib.byteCells (outK X2 t)).length = (outK X2 t).length := by simp [Lib.byteCells]
          have := HLo.out
          omega
        have hpn : (⟨L4.toArray⟩ : ByteArray).size = 4 := by show L4.toArray.size = 4; simpa using HLe.out
        go_wp2_with fail
        refine (build_write D D _ ⟨L4.toArray⟩ _ HB2' (by omega) (Nat.le_trans hDw k2.size)).mono ?_
        rintro e w3 ⟨rfl, HB3, k3⟩
        have HB4 : Lib.IsBuilder 53 5 D D (Lib.byteCells (outK X2 (t + 1))) w3 := by
          rw [HO.out]
          simpa [Lib.byteCells, Lib.strCells] using HB3
        have B3 := (Bk.trans (k2.mono Bk.size)).trans (k3.mono (by omega))
        have hD3 : D ≤ w3.heap.size := Nat.le_trans hDw (Nat.le_trans k2.size k3.size)
        clear hbn hpn HB2' HB3 HBk k2 k3
        go_wp2
        go_roundw
        case rel => exact ⟨t + 1, by omega, by go_num, HB4, B3, hD3⟩
        case measure => simp [intOf]; omega
      · obtain rfl : t = 4 := by omega
        rw [outK_four] at HBk
        go_wp2_with fail
        refine (Tryd.Builder_String_any D D _ _ HBk hDw).mono ?_
        rintro e w4 ⟨rfl, k4⟩
        go_wp2
        go_ret
        exact ⟨by rw [HOUT.out]; rfl, Bk.trans (k4.mono hBw)⟩
  · skip
    simp only [List.getElem_toArray, List.getElem_cons_zero, List.getElem_cons_succ]
    go_simp
    with_reducible refine (HP.out _).mono ?_
    rintro e w6 ⟨rfl, k6⟩
    refine hK.out _ _ ?_ (fun hHeld => ?_)
    · exact trivial
    clear hK K
    (try simp only [Act.put, List.getElem_toArray, List.getElem_cons_zero, List.getElem_cons_succ, List.setIfInBounds_toArray, List.set_cons_zero, List.set_cons_succ])
    refine wpAnyH_take (i := 7) (v := ?_) rfl (by kernel_rfl) (by kernel_rfl) (by kernel_rfl) (fun _ _ _ h => h) (Or.inl ⟨by rfl, ?_⟩) (by assumption) ?_
    rotate_left
    · (intro w hSw; (try dsimp only at hSw); go_simp; (try with_reducible rfl))
    (try simp only [Act.put, List.getElem_toArray, List.getElem_cons_zero, List.getElem_cons_succ, List.setIfInBounds_toArray, List.set_cons_zero, List.set_cons_succ])
    refine wpAnyH_ready (rs := [0]) (by kernel_rfl) (by simp) ?_
    refine AllReadyH.cons rfl (fun K hK => ?_) AllReadyH.nil
    simp only [List.getElem_toArray, List.getElem_cons_zero, List.getElem_cons_succ]
    rw [if_pos (by rfl)]
    refine wp_load_op (k := 0) 47 (qC X1) rfl rfl (R5.drew.kept k6) (by kernel_rfl) (by kernel_rfl) rfl ?_
    refine hK.out _ _ ?_ (fun hHeld => ?_)
    · exact trivial
    clear hK K
    (try simp only [Act.put, List.getElem_toArray, List.getElem_cons_zero, List.getElem_cons_succ, List.setIfInBounds_toArray, List.set_cons_zero, List.set_cons_succ])
    refine wpAnyH_ready (rs := [8]) (by kernel_rfl) (by simp) ?_
    refine AllReadyH.cons rfl (fun K hK => ?_) AllReadyH.nil
    simp only [List.getElem_toArray, List.getElem_cons_zero, List.getElem_cons_succ]
    go_simp
    with_reducible refine (HB2.out _ (HM.below (B5.drew.trans (k6.mono B5.drew.size)))).mono ?_
    rintro e w7 ⟨rfl, k7⟩
    have K7 := k6.trans (k7.mono k6.size)
    refine hK.out _ _ ?_ (fun hHeld => ?_)
    · exact trivial
    clear hK K
    (try simp only [Act.put, List.getElem_toArray, List.getElem_cons_zero, List.getElem_cons_succ, List.setIfInBounds_toArray, List.set_cons_zero, List.set_cons_succ])
    refine wpAnyH_ready (rs := [9]) (by kernel_rfl) (by simp) ?_
    refine AllReadyH.cons rfl (fun K hK => ?_) AllReadyH.nil
    simp only [List.getElem_toArray, List.getElem_cons_zero, List.getElem_cons_succ]
    rw [if_pos (by rfl)]
    refine wp_store_op (k := 0) 47 (.agg (qC X2)) (qC X2) (by rfl) rfl rfl (R5.drew.kept K7) (by kernel_rfl) (show (4 : Nat) ≤ 4 from Nat.le_refl 4) (by rfl) (st_whole _ _ rfl) (fun w8 R8 b8 g8 => ?_)
    refine hK.out _ _ ?_ (fun hHeld => ?_)
    · exact trivial
    clear hK K
    (try simp only [Act.put, List.getElem_toArray, List.getElem_cons_zero, List.getElem_cons_succ, List.setIfInBounds_toArray, List.set_cons_zero, List.set_cons_succ])
    refine wpAnyH_done (by kernel_rfl) ?_ _
    refine NoPanic.normal ?_
    have B8 := (B5.drew.trans (K7.mono B5.drew.size)).trans b8
    clear k6 k7 K7 b8 g8 R5 B5
    have hBw : w.heap.size ≤ w8.heap.size := B8.size
    have HB0 := build_new w8
    have C0 := B8.alloc hBw (.cells #[.pointer none, .slice none 0 0] 53)
    have R9 := R8.alloc (.cells #[.pointer none, .slice none 0 0] 53)
    have hD9 : w8.heap.size ≤ (w8.alloc (.cells #[.pointer none, .slice none 0 0] 53)).heap.size := by simp
    go_upto_region 6 with (refine alloc_blk 53 #[.pointer none, .slice none 0 0] (by rfl) rfl Tryd.bdZero ?_)
    generalize w8.alloc (.cells #[.pointer none, .slice none 0 0] 53) = w9 at *
    generalize w8.heap.size = D at *
    clear R8 B8
    (try simp only [Act.put, List.setIfInBounds_toArray, List.set_cons_zero, List.set_cons_succ])
    go_upto_region 7 with (refine load_blk (k := 0) 47 (qC X2) (by rfl) rfl rfl R9 (by kernel_rfl) (by kernel_rfl) rfl ?_)
    clear R9
    go_loopw [7, 30] (fun _ i wr => ∃ t : Nat, t ≤ 4 ∧ i = .int .i64 t ∧ Lib.IsBuilder 53 5 D D (Lib.byteCells (outK X2 t)) wr ∧ Below w.heap.size w wr ∧ D ≤ wr.heap.size) (fun _ i _ => 4 - (intOf i).toNat)
    case atStart => exact ⟨0, by omega, rfl, HB0, C0, hD9⟩
    case round =>
      clear HB0 C0 hD9
      obtain ⟨t, ht, rfl, HBk, Bk, hDw⟩ := hrel
      by_cases hlt : t < 4
      · have hx := qN_lt HL2.out t
        have hix := run_index_arr (P := Tryd.prog) wr 47 46 4 t (qC X2) _ Tryd.underlying47 (by kernel_rfl) hlt (by kernel_rfl) (qC_at X2 t hlt)
        have HMu : Hid (∀ W, Calls Tryd.prog 34 #[.int .i64 (revN (qN X2 t) : Nat), .int .i64 4] W fun e w' => e = .returned (.string ⟨(leN (qN X2 t) 4).toArray⟩) ∧ Below W.heap.size W w') := fun W => by
          rw [← put_rev32 (qN X2 t) hx]
          exact must_fits _ 4 W (by omega) (by omega) (rev_lt _ hx)
        have HRv := Lib.hid (fun W => rev_any (qN X2 t) hx W)
        have hrl := rev_lt _ hx
        have HO : Hid (outK X2 (t + 1) = outK X2 t ++ leN (qN X2 t) 4) := rfl
        have HLo := Lib.hid (outK_len X2 t)
        have HLe := Lib.hid (leN_len 4 (qN X2 t))
        generalize revN (qN X2 t) = rv at *
        generalize hlq : leN (qN X2 t) 4 = L4 at *
        generalize qN X2 t = x at *
        clear hlq
        go_wp2_with (refine index_blk (qC X2) _ (by rfl) rfl rfl rfl hix ?_)
        refine (HRv.out _).mono ?_
        rintro e w2 ⟨rfl, rfl⟩
        go_wp2_with fail
        refine (HMu.out _).mono ?_
        rintro e w2 ⟨rfl, k2⟩
        have HB2' := isB_below HBk k2
        have hbn : (Lib.byteCells (outK X2 t)).length ≤ 100 := by
          have hq : (Lib.byteCells (outK X2 t)).length = (outK X2 t).length := by simp [Lib.byteCells]
          have := HLo.out
          omega
        have hpn : (⟨L4.toArray⟩ : ByteArray).size = 4 := by show L4.toArray.size = 4; simpa using HLe.out
        go_wp2_with fail
        refine (build_write D D _ ⟨L4.toArray⟩ _ HB2' (by omega) (Nat.le_trans hDw k2.size)).mono ?_
        rintro e w3 ⟨rfl, HB3, k3⟩
        have HB4 : Lib.IsBuilder 53 5 D D (Lib.byteCells (outK X2 (t + 1))) w3 := by
          rw [HO.out]
          simpa [Lib.byteCells, Lib.strCells] using HB3
        have B3 := (Bk.trans (k2.mono Bk.size)).trans (k3.mono (by omega))
        have hD3 : D ≤ w3.heap.size := Nat.le_trans hDw (Nat.le_trans k2.size k3.size)
        clear hbn hpn HB2' HB3 HBk k2 k3
        go_wp2
        go_roundw
        case rel => exact ⟨t + 1, by omega, by go_num, HB4, B3, hD3⟩
        case measure => simp [intOf]; omega
      · obtain rfl : t = 4 := by omega
        rw [outK_four] at HBk
        go_wp2_with fail
        refine (Tryd.Builder_String_any D D _ _ HBk hDw).mono ?_
        rintro e w4 ⟨rfl, k4⟩
        go_wp2
        go_ret
        exact ⟨by rw [HOUT.out]; rfl, Bk.trans (k4.mono hBw)⟩

end Go.Proofs.YtlfeholphngilaaDoor
