/- md5.addBlocks: the whole blocks of a text. -/
import Derived.Test.YtlfeholphngilaaDoorMdBlock
namespace Go.Proofs.YtlfeholphngilaaDoor
open Go.RowKit
attribute [local go_sem ↓] Go.wp_at_zero Go.wp_at_succ
set_option linter.unusedSimpArgs false
set_option linter.unusedVariables false
set_option maxRecDepth 100000

theorem piece_list (s : ByteArray) (a b : Nat) (hb : b ≤ s.size) (hab : a ≤ b) : (s.extract a b).data.toList = (s.data.toList.drop a).take (b - a) := by
  rw [ByteArray.data_extract, Array.toList_extract, List.extract_eq_take_drop]
theorem two_boxes (w : World) (X Y : Array Value) (S T : TypeId) : Blk ((w.alloc (.cells X S)).alloc (.cells Y T)) w.heap.size S X ∧ Blk ((w.alloc (.cells X S)).alloc (.cells Y T)) (w.heap.size + 1) T Y ∧ Below w.heap.size w ((w.alloc (.cells X S)).alloc (.cells Y T)) := by
  have h1 := Blk.new w S X
  have h2 := Blk.new (w.alloc (.cells X S)) T Y
  rw [show (w.alloc (.cells X S)).heap.size = w.heap.size + 1 by simp] at h2
  exact ⟨h1.alloc _, h2, ((Below.refl _ _).alloc (Nat.le_refl _) _).alloc (by simp) _⟩

set_option maxHeartbeats 6400000 in
theorem addBlocks_any (s : ByteArray) (n : Nat) (N : Nat) (hs : s.size = N) (hN : N = 64 * n) (hn : n ≤ 100000) (h : Q4) (hh : ltQ h) (w : World) (HM : HasMd w) :
    Calls Tryd.prog 31 #[.agg (qC h), .string s] w fun e w' => e = .returned (.agg (qC (runG blockG n s.data.toList h))) ∧ Below w.heap.size w w' := by
  obtain ⟨l, hl⟩ : ∃ l, l = s.data.toList := ⟨_, rfl⟩
  have HE : ∀ j : Nat, j < n → (s.extract (64 * j) (64 * j + 64)).data.toList = (l.drop (64 * j)).take 64 ∧ (s.extract (64 * j) (64 * j + 64)).size = 64 := fun j hj => by
    constructor
    · rw [piece_list s _ _ (by omega) (by omega), hl, Nat.add_sub_cancel_left]
    · simp [ByteArray.size_extract]; omega
  obtain ⟨H1, H2, B0⟩ := two_boxes w (qC h) z4 47 47
  have hrl := fun j => runG_lt j l hh
  have hs64 : s.size ≤ 6400000 := by omega
  have HN := Lib.hid hN
  rw [← hl]
  clear hl hN
  go_enter Tryd.func31, Tryd.ntmps31
  go_upto_region 1 with (refine alloc_blk 47 z4 (by rfl) rfl Tryd.q4Zero ?_)
  have e1 : (w.alloc (.cells (qC h) 47)).heap.size = w.heap.size + 1 := by simp
  (try simp only [e1])
  have M1 := HM.below B0
  generalize (w.alloc (.cells (qC h) 47)).alloc (.cells z4 47) = w1 at *
  clear e1
  (try simp only [Act.put, List.setIfInBounds_toArray, List.set_cons_zero, List.set_cons_succ])
  generalize Value.agg (qC h) = v0
  go_wp2_with fail
  go_loopw [5] (fun i wr => ∃ j : Nat, j ≤ n ∧ i = .int .i64 ((64 * j : Nat) : Int) ∧ Blk wr w.heap.size 47 (qC (runG blockG j l h)) ∧ Blk wr (w.heap.size + 1) 47 z4 ∧ HasMd wr ∧ Below w.heap.size w wr) (fun i _ => N - (intOf i).toNat)
  case atStart => exact ⟨0, by omega, rfl, H1, H2, M1, B0⟩
  case round =>
    clear H1 H2 M1 B0
    obtain ⟨j, hj, rfl, G1, G2, GM, GB⟩ := hrel
    by_cases hlt : j < n
    · obtain ⟨hx1, hx2⟩ := HE j hlt
      have hNn := HN.out
      have hX := hrl j
      have HY := Lib.hid (runG_snoc blockG j l h)
      have hjs : 64 * j + 64 ≤ s.size := by omega
      have HW := Lib.hid (fun W => words_any (s.extract (64 * j) (64 * j + 64)) hx2 W)
      rw [hx1] at HW
      have HK := Lib.hid (fun W HM => addBlock_any ((l.drop (64 * j)).take 64) (runG blockG j l h) hX W HM)
      rw [← HY.out] at HK
      have HYG : Hid (∀ W, Blk W w.heap.size 47 (qC (runG blockG (j + 1) l h)) → Blk W w.heap.size 47 (qC (runG blockG (j + 1) l h))) := fun W h => h
      obtain ⟨Y, hY⟩ : ∃ Y, Y = runG blockG (j + 1) l h := ⟨_, rfl⟩
      have HYR := Lib.hid hY
      rw [← hY] at HK
      clear hY HYG
      generalize runG blockG j l h = X at *
      generalize wC ((l.drop (64 * j)).take 64) = V at *
      have hAN : 64 * j + 64 ≤ N := by omega
      have hA1 : 64 * (j + 1) = 64 * j + 64 := by omega
      have HA1 := Lib.hid hA1
      clear hA1 hjs hNn
      generalize hA : 64 * j = A at *
      have HA := Lib.hid hA
      clear hA
      have e3 : IntKind.i64.wrap ((A : Int) + 64) = (A : Int) + 64 := by unfold IntKind.wrap; simp [IntKind.bits, IntKind.signed]; omega
      have e4 : (A : Int) < (N : Int) := by omega
      have e5 : (A : Int) + 64 ≤ (N : Int) := by omega
      have e6 : (A : Int) ≤ (A : Int) + 64 := by omega
      have e7 : (0 : Int) ≤ (A : Int) + 64 := by omega
      have e8 : ((A : Int) + 64).toNat = A + 64 := by omega
      clear HE hx1 hx2
      go_upto_region 4 with (fail)
      refine wp_region_noPanic ?_
      refine wp_region_held_drew (S := (fun w' => True)) (by kernel_rfl) ?_ (fun hHeld => ?_)
      · exact trivial
      refine wpAnyH_take (i := 1) (v := ?_) rfl (by kernel_rfl) (by kernel_rfl) (by kernel_rfl) (fun _ _ _ h => h) (Or.inl ⟨by rfl, ?_⟩) (by assumption) ?_
      rotate_left
      · (intro w hSw; (try dsimp only at hSw); go_simp; (try with_reducible rfl))
      (try simp only [Act.put, List.getElem_toArray, List.getElem_cons_zero, List.getElem_cons_succ, List.setIfInBounds_toArray, List.set_cons_zero, List.set_cons_succ])
      refine wpAnyH_take (i := 2) (v := ?_) rfl (by kernel_rfl) (by kernel_rfl) (by kernel_rfl) (fun _ _ _ h => h) (Or.inl ⟨by rfl, ?_⟩) (by assumption) ?_
      rotate_left
      · (intro w hSw; (try dsimp only at hSw); go_simp; (try with_reducible rfl))
      (try simp only [Act.put, List.getElem_toArray, List.getElem_cons_zero, List.getElem_cons_succ, List.setIfInBounds_toArray, List.set_cons_zero, List.set_cons_succ])
      refine wpAnyH_take (i := 3) (v := ?_) rfl (by kernel_rfl) (by kernel_rfl) (by kernel_rfl) (fun _ _ _ h => h) (Or.inl ⟨by rfl, ?_⟩) (by assumption) ?_
      rotate_left
      · (intro w hSw; (try dsimp only at hSw); go_simp; (try with_reducible rfl))
      (try simp only [Act.put, List.getElem_toArray, List.getElem_cons_zero, List.getElem_cons_succ, List.setIfInBounds_toArray, List.set_cons_zero, List.set_cons_succ])
      refine wpAnyH_take (i := 4) (v := ?_) rfl (by kernel_rfl) (by kernel_rfl) (by kernel_rfl) (fun _ _ _ h => h) (Or.inl ⟨by rfl, ?_⟩) (by assumption) ?_
      rotate_left
      · (intro w hSw; (try dsimp only at hSw); go_simp; (try with_reducible rfl))
      (try simp only [Act.put, List.getElem_toArray, List.getElem_cons_zero, List.getElem_cons_succ, List.setIfInBounds_toArray, List.set_cons_zero, List.set_cons_succ])
      refine wpAnyH_take (i := 5) (v := ?_) rfl (by kernel_rfl) (by kernel_rfl) (by kernel_rfl) (fun _ _ _ h => h) (Or.inl ⟨by rfl, ?_⟩) (by assumption) ?_
      rotate_left
      · (intro w hSw; (try dsimp only at hSw); go_simp; (try with_reducible rfl))
      (try simp only [Act.put, List.getElem_toArray, List.getElem_cons_zero, List.getElem_cons_succ, List.setIfInBounds_toArray, List.set_cons_zero, List.set_cons_succ])
      refine wpAnyH_ready (rs := [0, 6]) (by kernel_rfl) (by simp) ?_
      refine AllReadyH.cons rfl (fun K hK => ?_) (AllReadyH.cons rfl (fun K hK => ?_) AllReadyH.nil)
      · skip
        simp only [List.getElem_toArray, List.getElem_cons_zero, List.getElem_cons_succ]
        rw [if_pos (by rfl)]
        refine wp_load_op (k := 0) 47 (qC X) rfl rfl G1.drew (by kernel_rfl) (by kernel_rfl) rfl ?_
        refine hK.out _ _ ?_ (fun hHeld => ?_)
        · exact trivial
        clear hK K
        (try simp only [Act.put, List.getElem_toArray, List.getElem_cons_zero, List.getElem_cons_succ, List.setIfInBounds_toArray, List.set_cons_zero, List.set_cons_succ])
        refine wpAnyH_ready (rs := [6]) (by kernel_rfl) (by simp) ?_
        refine AllReadyH.cons rfl (fun K hK => ?_) AllReadyH.nil
        simp only [List.getElem_toArray, List.getElem_cons_zero, List.getElem_cons_succ]
        go_simp
        with_reducible refine (HW.out _).mono ?_
        rintro e w2 ⟨rfl, k2⟩
        refine hK.out _ _ ?_ (fun hHeld => ?_)
        · exact trivial
        clear hK K
        (try simp only [Act.put, List.getElem_toArray, List.getElem_cons_zero, List.getElem_cons_succ, List.setIfInBounds_toArray, List.set_cons_zero, List.set_cons_succ])
        refine wpAnyH_ready (rs := [7]) (by kernel_rfl) (by simp) ?_
        refine AllReadyH.cons rfl (fun K hK => ?_) AllReadyH.nil
        simp only [List.getElem_toArray, List.getElem_cons_zero, List.getElem_cons_succ]
        go_simp
        with_reducible refine (HK.out _ ((GM.drew).below k2)).mono ?_
        rintro e w3 ⟨rfl, k3⟩
        have B3 := k2.trans (k3.mono k2.size)
        refine hK.out _ _ ?_ (fun hHeld => ?_)
        · exact trivial
        clear hK K
        (try simp only [Act.put, List.getElem_toArray, List.getElem_cons_zero, List.getElem_cons_succ, List.setIfInBounds_toArray, List.set_cons_zero, List.set_cons_succ])
        refine wpAnyH_ready (rs := [8]) (by kernel_rfl) (by simp) ?_
        refine AllReadyH.cons rfl (fun K hK => ?_) AllReadyH.nil
        simp only [List.getElem_toArray, List.getElem_cons_zero, List.getElem_cons_succ]
        rw [if_pos (by rfl)]
        refine wp_store_op (k := 0) 47 (.agg (qC Y)) (qC Y) (by rfl) rfl rfl (G1.drew.kept B3) (by kernel_rfl) (show (4 : Nat) ≤ 4 from Nat.le_refl 4) (by rfl) (st_whole _ _ rfl) (fun w5 R5 b5 g5 => ?_)
        refine hK.out _ _ ?_ (fun hHeld => ?_)
        · exact trivial
        clear hK K
        (try simp only [Act.put, List.getElem_toArray, List.getElem_cons_zero, List.getElem_cons_succ, List.setIfInBounds_toArray, List.set_cons_zero, List.set_cons_succ])
        refine wpAnyH_done (by kernel_rfl) ?_ _
        refine NoPanic.normal ?_
        have B5 := (GB.drew.trans (B3.mono GB.size)).trans b5
        go_wp2
        go_roundw
        case rel => exact ⟨j + 1, by omega, by rw [HA1.out]; rfl, by rw [← HYR.out]; exact R5, (G2.drew.kept B3).grown g5 (by simp), HM.below B5, B5⟩
        case measure => simp [intOf]; omega
      · skip
        simp only [List.getElem_toArray, List.getElem_cons_zero, List.getElem_cons_succ]
        go_simp
        with_reducible refine (HW.out _).mono ?_
        rintro e w2 ⟨rfl, k2⟩
        refine hK.out _ _ ?_ (fun hHeld => ?_)
        · exact trivial
        clear hK K
        (try simp only [Act.put, List.getElem_toArray, List.getElem_cons_zero, List.getElem_cons_succ, List.setIfInBounds_toArray, List.set_cons_zero, List.set_cons_succ])
        refine wpAnyH_ready (rs := [0]) (by kernel_rfl) (by simp) ?_
        refine AllReadyH.cons rfl (fun K hK => ?_) AllReadyH.nil
        simp only [List.getElem_toArray, List.getElem_cons_zero, List.getElem_cons_succ]
        rw [if_pos (by rfl)]
        refine wp_load_op (k := 0) 47 (qC X) rfl rfl (G1.drew.kept k2) (by kernel_rfl) (by kernel_rfl) rfl ?_
        refine hK.out _ _ ?_ (fun hHeld => ?_)
        · exact trivial
        clear hK K
        (try simp only [Act.put, List.getElem_toArray, List.getElem_cons_zero, List.getElem_cons_succ, List.setIfInBounds_toArray, List.set_cons_zero, List.set_cons_succ])
        refine wpAnyH_ready (rs := [7]) (by kernel_rfl) (by simp) ?_
        refine AllReadyH.cons rfl (fun K hK => ?_) AllReadyH.nil
        simp only [List.getElem_toArray, List.getElem_cons_zero, List.getElem_cons_succ]
        go_simp
        with_reducible refine (HK.out _ ((GM.drew).below k2)).mono ?_
        rintro e w3 ⟨rfl, k3⟩
        have B3 := k2.trans (k3.mono k2.size)
        refine hK.out _ _ ?_ (fun hHeld => ?_)
        · exact trivial
        clear hK K
        (try simp only [Act.put, List.getElem_toArray, List.getElem_cons_zero, List.getElem_cons_succ, List.setIfInBounds_toArray, List.set_cons_zero, List.set_cons_succ])
        refine wpAnyH_ready (rs := [8]) (by kernel_rfl) (by simp) ?_
        refine AllReadyH.cons rfl (fun K hK => ?_) AllReadyH.nil
        simp only [List.getElem_toArray, List.getElem_cons_zero, List.getElem_cons_succ]
        rw [if_pos (by rfl)]
        refine wp_store_op (k := 0) 47 (.agg (qC Y)) (qC Y) (by rfl) rfl rfl (G1.drew.kept B3) (by kernel_rfl) (show (4 : Nat) ≤ 4 from Nat.le_refl 4) (by rfl) (st_whole _ _ rfl) (fun w5 R5 b5 g5 => ?_)
        refine hK.out _ _ ?_ (fun hHeld => ?_)
        · exact trivial
        clear hK K
        (try simp only [Act.put, List.getElem_toArray, List.getElem_cons_zero, List.getElem_cons_succ, List.setIfInBounds_toArray, List.set_cons_zero, List.set_cons_succ])
        refine wpAnyH_done (by kernel_rfl) ?_ _
        refine NoPanic.normal ?_
        have B5 := (GB.drew.trans (B3.mono GB.size)).trans b5
        go_wp2
        go_roundw
        case rel => exact ⟨j + 1, by omega, by rw [HA1.out]; rfl, by rw [← HYR.out]; exact R5, (G2.drew.kept B3).grown g5 (by simp), HM.below B5, B5⟩
        case measure => simp [intOf]; omega
    · obtain rfl : j = n := by omega
      have hNn := HN.out
      have e4 : ((64 * j : Nat) : Int) = (N : Int) := by omega
      have hsz : w.heap.size ≤ w.heap.size := Nat.le_refl _
      generalize 64 * j = A at *
      obtain ⟨X, hX⟩ : ∃ X, X = runG blockG j l h := ⟨_, rfl⟩
      have HXX := Lib.hid hX
      rw [← hX] at G1
      clear hNn HN hX
      go_upto_region 5 with (fail)
      refine wp_region_lit ?_
      refine load_blk (k := 0) 47 (qC X) (by rfl) rfl rfl G1 (by kernel_rfl) (by kernel_rfl) (by rfl) ?_
      (try simp only [Act.put, List.setIfInBounds_toArray, List.set_cons_zero, List.set_cons_succ])
      refine store_blk (k := 0) 47 (.agg (qC X)) (qC X) (by rfl) rfl rfl rfl G2 (by kernel_rfl) (show (4 : Nat) ≤ 4 from Nat.le_refl 4) (by rfl) (st_whole _ _ rfl) ?_
      intro w4 HV b4 g4
      go_wp2
      exact bodyPost_ret (results_blk rfl rfl HV (by kernel_rfl) (by kernel_rfl)) rfl ⟨by rw [HXX.out], GB.trans (b4.mono (by omega))⟩

end Go.Proofs.YtlfeholphngilaaDoor
