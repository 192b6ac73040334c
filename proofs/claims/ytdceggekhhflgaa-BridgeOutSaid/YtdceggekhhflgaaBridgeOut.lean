/- switchyardkeep.BridgeOut. -/
import Derived.Test.YtdceggekhhflgaaKs
import Derived.Test.YtdceggekhhflgaaPs
import Derived.Test.YtdceggekhhflgaaOutM
namespace Go.Proofs.Ytdceggekhhflgaa.bridgeOut
open Go.RowKit
attribute [local go_sem ↓] Go.wp_at_zero Go.wp_at_succ
set_option linter.unusedSimpArgs false
set_option linter.unusedVariables false
set_option maxRecDepth 100000

set_option maxHeartbeats 6400000 in
theorem walk (a0 : Option Addr) (c0 : Nat) (l0 : List PsH) (a1 : Option Addr) (c1 : Nat) (l1 : List Tr) (t2 : Tr) (W : World) (hin0 : PsIn W a0 l0) (hok0 : ∀ x ∈ l0, PsOk W x) (hl0 : l0.length ≤ maxLen) (hin1 : TrIn W a1 l1) (hl1 : l1.length ≤ maxLen) :
    Calls Try.prog 6 #[.slice a0 l0.length c0, .slice a1 l1.length c1, .agg (trC t2)] W fun e w' => e = .returned (.bool true) ∧ Below W.heap.size W w' := by
  have B0 : Below W.heap.size W (W.alloc (.cells (trC t2) 24)) := (Below.refl _ _).alloc (Nat.le_refl _) _
  have HT1 := Blk.new W 24 (trC t2)
  have HSETS : Hid (∀ w, Below W.heap.size W w → Calls Try.prog 22 #[.slice a0 l0.length c0] w fun e w' => e = .returned (.bool (setsB l0)) ∧ Below w.heap.size w w') := fun w hb => sets_any a0 c0 l0 w (hin0.below hb) (fun x hx => (hok0 x hx).below hb) hl0
  cases hst : setsB l0 with
  | false =>
    rw [hst] at HSETS
    clear hin0 hok0 hin1 hst
    go_enter Try.func6, Try.ntmps6
    go_upto_region 1 with (refine box_blk 24 (trC t2) (by rfl) rfl rfl ?_)
    generalize W.alloc (.cells (trC t2) 24) = w1 at *
    go_wp2_with (first
      | (go_at_call 11; refine (passes_any _).mono ?_; rintro e w2 ⟨rfl, k2⟩; have B2 := B0.trans (k2.mono B0.size))
      | (go_at_call 22; refine (HSETS.out _ B2).mono ?_; rintro e w3 ⟨rfl, k3⟩; have B3 := B2.trans (k3.mono B2.size)))
    go_ret
    exact ⟨rfl, B3⟩
  | true =>
    rw [hst] at HSETS
    obtain ⟨hne, hl8, hr⟩ := setsB_yes hst
    by_cases h60 : 60 < l1.length
    · have e60 : decide ((60 : Int) < (l1.length : Int)) = true := decide_eq_true (by omega)
      clear hin0 hok0 hin1 hst hr
      go_enter Try.func6, Try.ntmps6
      go_upto_region 1 with (refine box_blk 24 (trC t2) (by rfl) rfl rfl ?_)
      generalize W.alloc (.cells (trC t2) 24) = w1 at *
      go_wp2_with (first
        | (go_at_call 11; refine (passes_any _).mono ?_; rintro e w2 ⟨rfl, k2⟩; have B2 := B0.trans (k2.mono B0.size))
        | (go_at_call 22; refine (HSETS.out _ B2).mono ?_; rintro e w3 ⟨rfl, k3⟩; have B3 := B2.trans (k3.mono B2.size)))
      go_ret
      exact ⟨rfl, B3⟩
    have e60 : decide ((60 : Int) < (l1.length : Int)) = false := decide_eq_false (by omega)
    have HSERV : Hid (∀ w, Below W.heap.size W w → Calls Try.prog 12 #[.slice a0 l0.length c0, .slice a1 l1.length c1] w fun e w' => (∃ b t c ad hs, e = .returned (.tuple #[.pointer (some ⟨b, 0, none⟩), .int .i64 (srvM (l0.map PsH.x) l1).2.2]) ∧ hs.map PsH.x = l0.map PsH.x ∧ BrgAt w' w.heap.size b t c ad hs 100 (srvM (l0.map PsH.x) l1).1 (srvM (l0.map PsH.x) l1).2.1) ∧ Below w.heap.size w w') := fun w hb =>
      served_any a0 c0 l0 a1 c1 l1 w (hin0.below hb) (fun x hx => (hok0 x hx).below hb) hl8 hr hne (hin1.below hb) (by omega)
    have HPS : Hid (∀ p ∈ l0.map PsH.x, okPs p = true) := fun p hp => by
      obtain ⟨x, hx, rfl⟩ := List.mem_map.1 hp
      exact hr x hx
    have HSRV := Lib.hid (srvM_ok HPS.out (by rw [List.length_map]; exact hl8) (by rw [List.length_map]; exact hne) l1 (by omega))
    generalize srvM (l0.map PsH.x) l1 = sv at *
    obtain ⟨lE, E, tE⟩ := sv
    have HL8 := Lib.hid hl8
    have HNE := Lib.hid hne
    have HN60 : Hid (l1.length ≤ 60) := by show _ ≤ _; omega
    have hpk := pickN_lt t2.port l0.length hne
    clear hin1 hst hr hl8 hne h60
    go_enter Try.func6, Try.ntmps6
    go_upto_region 1 with (refine box_blk 24 (trC t2) (by rfl) rfl rfl ?_)
    generalize W.alloc (.cells (trC t2) 24) = w1 at *
    go_upto_region 8 with (first
      | (go_at_call 11; refine (passes_any _).mono ?_; rintro e w2 ⟨rfl, k2⟩; have B2 := B0.trans (k2.mono B0.size))
      | (go_at_call 22; refine (HSETS.out _ B2).mono ?_; rintro e w3 ⟨rfl, k3⟩; have B3 := B2.trans (k3.mono B2.size))
      | (go_at_call 12; refine (HSERV.out _ B3).mono ?_; rintro e w4 ⟨⟨b, t, cc, ad, hs, rfl, hmap, hbr⟩, k4⟩))
    have HT4 : Blk w4 W.heap.size 24 (trC t2) := ((HT1.kept k2).kept k3).kept k4
    have B4 := B3.trans (k4.mono B3.size)
    refine Code.wp_mono (Q := fun e a w' => e = .normal ∧ ∃ A ta tc u17 u18 u19 u20 u21 u22 u23 u24 u25 u26 u27 u28 u29 u30 u31 u32 u33 u34 u35 u36 u37 u38 u39 u40 u41, a = { tmps := #[.slice a0 l0.length c0, .slice a1 l1.length c1, .agg (trC t2), undef, undef, .pointer (some ⟨W.heap.size, 0, none⟩), .bool false, .pointer (some ⟨b, 0, none⟩), .int .i64 tE, .pointer (some ⟨A, 0, none⟩), .int .i64 (pickN t2.port l0.length : Nat), undef, undef, undef, undef, undef, undef, u17, u18, u19, u20, u21, u22, u23, u24, u25, u26, u27, u28, u29, u30, u31, u32, u33, u34, u35, u36, u37, u38, u39, u40, u41, undef, undef, undef, undef, undef, undef, undef, undef, undef, undef, undef, undef, undef, undef, undef, undef, undef, undef, undef, undef, undef, undef, undef, undef, undef, undef, undef, undef, undef, undef, undef, undef, undef, undef, undef, undef, undef, undef, undef, undef, undef, undef, undef, undef, undef, undef, undef, undef, undef, undef, undef, undef, undef, undef, undef, undef, undef, undef, undef, undef, undef, undef, undef, undef, undef, undef, undef, undef, undef, undef, undef, undef], defers := [] } ∧ Blk w' A 36 (frC (carF t2 ta tc)) ∧ w4.heap.size ≤ A ∧ TgRow w' ta (tagM t2) tc ∧ Blk w' W.heap.size 24 (trC t2) ∧ Below w4.heap.size w4 w') ?_ ?_
    rotate_left
    · skip
      refine wp_region_noPanic ?_
      refine wp_region_held_drew (S := (fun w' => Blk w' W.heap.size 24 (trC t2) ∧ Below w4.heap.size w4 w')) (by kernel_rfl) ?_ (fun hHeld => ?_)
      · exact ⟨HT4, (Below.refl _ _).drew⟩
      refine wpAnyH_take (i := 0) (v := .agg (trC t2)) rfl (by kernel_rfl) (by kernel_rfl) (by kernel_rfl) (fun _ _ _ h => h) (Or.inl ⟨by rfl, fun w hSw => exec_load_blk (k := 0) 24 (trC t2) rfl rfl hSw.1 (by kernel_rfl) (by kernel_rfl) rfl⟩) (by assumption) ?_
      (try simp only [Act.put, List.getElem_toArray, List.getElem_cons_zero, List.getElem_cons_succ, List.setIfInBounds_toArray, List.set_cons_zero, List.set_cons_succ])
      refine wpAnyH_take (i := 2) (v := ?_) rfl (by kernel_rfl) (by kernel_rfl) (by kernel_rfl) (fun _ _ _ h => h) (Or.inl ⟨by rfl, ?_⟩) (by assumption) ?_
      rotate_left
      · (intro w hSw; (try dsimp only at hSw); go_simp; (try with_reducible rfl))
      (try simp only [Act.put, List.getElem_toArray, List.getElem_cons_zero, List.getElem_cons_succ, List.setIfInBounds_toArray, List.set_cons_zero, List.set_cons_succ])
      refine wpAnyH_take (i := 3) (v := .int .i64 t2.port) rfl (by kernel_rfl) (by kernel_rfl) (by kernel_rfl) (fun _ _ _ h => h) (Or.inl ⟨by rfl, fun w hSw => by have c := hSw.1.cv 0 (.int .i64 t2.port) rfl; go_simp⟩) (by assumption) ?_
      (try simp only [Act.put, List.getElem_toArray, List.getElem_cons_zero, List.getElem_cons_succ, List.setIfInBounds_toArray, List.set_cons_zero, List.set_cons_succ])
      refine wpAnyH_take (i := 4) (v := ?_) rfl (by kernel_rfl) (by kernel_rfl) (by kernel_rfl) (fun _ _ _ h => h) (Or.inl ⟨by rfl, ?_⟩) (by assumption) ?_
      rotate_left
      · (intro w hSw; (try dsimp only at hSw); go_simp; (try with_reducible rfl))
      (try simp only [Act.put, List.getElem_toArray, List.getElem_cons_zero, List.getElem_cons_succ, List.setIfInBounds_toArray, List.set_cons_zero, List.set_cons_succ])
      refine wpAnyH_take (i := 5) (v := ?_) rfl (by kernel_rfl) (by kernel_rfl) (by kernel_rfl) (fun _ _ _ h => h) (Or.inl ⟨by rfl, ?_⟩) (by assumption) ?_
      rotate_left
      · (intro w hSw; (try dsimp only at hSw); go_simp; (try with_reducible rfl))
      (try simp only [Act.put, List.getElem_toArray, List.getElem_cons_zero, List.getElem_cons_succ, List.setIfInBounds_toArray, List.set_cons_zero, List.set_cons_succ])
      refine wpAnyH_ready (rs := [1, 7]) (by kernel_rfl) (by simp) ?_
      refine (AllReadyH.cons rfl (fun K hK => ?_) (AllReadyH.cons rfl (fun K hK => ?_) AllReadyH.nil))
      · skip
        simp only [List.getElem_toArray, List.getElem_cons_zero, List.getElem_cons_succ]
        go_simp
        refine (carried_any t2 _).mono ?_
        rintro e w5 ⟨⟨ta, tc, rfl, hTg⟩, k5⟩
        have hS := hHeld.1.kept k5
        have BK := hHeld.2.trans (k5.mono hHeld.2.size)
        refine hK.out _ _ ?_ (fun hHeld => ?_)
        · exact ⟨hS, BK⟩
        clear hK K
        (try simp only [Act.put, List.getElem_toArray, List.getElem_cons_zero, List.getElem_cons_succ, List.setIfInBounds_toArray, List.set_cons_zero, List.set_cons_succ])
        refine wpAnyH_ready (rs := [6, 7]) (by kernel_rfl) (by simp) ?_
        refine (AllReadyH.cons rfl (fun K hK => ?_) (AllReadyH.cons rfl (fun K hK => ?_) AllReadyH.nil))
        · skip
          simp only [List.getElem_toArray, List.getElem_cons_zero, List.getElem_cons_succ]
          go_simp
          refine (pick_val t2.port l0.length _ HNE.out (Nat.le_trans HL8.out (by decide))).mono ?_
          rintro e w' ⟨rfl, rfl⟩
          refine hK.out _ _ ?_ (fun hHeld => ?_)
          · exact hHeld
          clear hK K
          (try simp only [Act.put, List.getElem_toArray, List.getElem_cons_zero, List.getElem_cons_succ, List.setIfInBounds_toArray, List.set_cons_zero, List.set_cons_succ])
          refine wpAnyH_ready (rs := [7]) (by kernel_rfl) (by simp) ?_
          refine AllReadyH.cons rfl (fun K hK => ?_) AllReadyH.nil
          simp only [List.getElem_toArray, List.getElem_cons_zero, List.getElem_cons_succ]
          rw [if_pos (by rfl)]
          refine wp_alloc_opF 36 (frC zFr) rfl Try.frZeroB ?_
          rintro A w6 hA HA k6
          have hAlo : w4.heap.size ≤ A := by rw [hA]; exact hHeld.2.size
          have k6' := k6
          rw [hA] at k6'
          replace hA := Lib.hid hA
          have hS := hHeld.1.kept k6'
          have BK := hHeld.2.trans (k6'.mono hHeld.2.size)
          have hTg := hTg.kept k6'
          refine hK.out _ _ ?_ (fun hHeld => ?_)
          · exact ⟨hS, BK⟩
          clear hK K
          (try simp only [Act.put, List.getElem_toArray, List.getElem_cons_zero, List.getElem_cons_succ, List.setIfInBounds_toArray, List.set_cons_zero, List.set_cons_succ])
          refine wpAnyH_ready (rs := [8]) (by kernel_rfl) (by simp) ?_
          refine AllReadyH.cons rfl (fun K hK => ?_) AllReadyH.nil
          simp only [List.getElem_toArray, List.getElem_cons_zero, List.getElem_cons_succ]
          rw [if_pos (by rfl)]
          refine wp_store_op (k := 0) 36 (frV (carF t2 ta tc)) (frC (carF t2 ta tc)) rfl rfl rfl HA (by kernel_rfl) (show (21 : Nat) ≤ 21 from Nat.le_refl 21) (by rfl) (st_whole' _ _ rfl) (fun w9 HA9 b9 g9 => ?_)
          have hS := hHeld.1.grown g9 (by intro e; have := HT4.lt; cases e; omega)
          have BK := hHeld.2.trans (b9.mono hAlo)
          have hTg9 := hTg.keep fun g C q => g9.block g q.lt (by intro e; cases e; exact absurd (blk_type q HA) (by decide))
          refine hK.out _ _ ?_ (fun hHeld => ?_)
          · exact ⟨hS, BK⟩
          clear hK K
          (try simp only [Act.put, List.getElem_toArray, List.getElem_cons_zero, List.getElem_cons_succ, List.setIfInBounds_toArray, List.set_cons_zero, List.set_cons_succ])
          refine wpAnyH_take (i := 9) (v := ?_) rfl (by kernel_rfl) (by kernel_rfl) (by kernel_rfl) (fun _ _ _ h => h) (Or.inl ⟨by rfl, ?_⟩) (by assumption) ?_
          rotate_left
          · (intro w hSw; (try dsimp only at hSw); go_simp; (try with_reducible rfl))
          (try simp only [Act.put, List.getElem_toArray, List.getElem_cons_zero, List.getElem_cons_succ, List.setIfInBounds_toArray, List.set_cons_zero, List.set_cons_succ])
          refine wpAnyH_done (by kernel_rfl) ?_ _
          refine NoPanic.normal ?_
          exact ⟨rfl, _, _, _, _, _, _, _, _, _, _, _, _, _, _, _, _, _, _, _, _, _, _, _, _, _, _, _, _, rfl, HA9, hAlo, hTg9, hHeld.1, hHeld.2⟩
        · skip
          simp only [List.getElem_toArray, List.getElem_cons_zero, List.getElem_cons_succ]
          rw [if_pos (by rfl)]
          refine wp_alloc_opF 36 (frC zFr) rfl Try.frZeroB ?_
          rintro A w6 hA HA k6
          have hAlo : w4.heap.size ≤ A := by rw [hA]; exact hHeld.2.size
          have k6' := k6
          rw [hA] at k6'
          replace hA := Lib.hid hA
          have hS := hHeld.1.kept k6'
          have BK := hHeld.2.trans (k6'.mono hHeld.2.size)
          have hTg := hTg.kept k6'
          refine hK.out _ _ ?_ (fun hHeld => ?_)
          · exact ⟨hS, BK⟩
          clear hK K
          (try simp only [Act.put, List.getElem_toArray, List.getElem_cons_zero, List.getElem_cons_succ, List.setIfInBounds_toArray, List.set_cons_zero, List.set_cons_succ])
          refine wpAnyH_ready (rs := [6]) (by kernel_rfl) (by simp) ?_
          refine AllReadyH.cons rfl (fun K hK => ?_) AllReadyH.nil
          simp only [List.getElem_toArray, List.getElem_cons_zero, List.getElem_cons_succ]
          go_simp
          refine (pick_val t2.port l0.length _ HNE.out (Nat.le_trans HL8.out (by decide))).mono ?_
          rintro e w' ⟨rfl, rfl⟩
          refine hK.out _ _ ?_ (fun hHeld => ?_)
          · exact hHeld
          clear hK K
          (try simp only [Act.put, List.getElem_toArray, List.getElem_cons_zero, List.getElem_cons_succ, List.setIfInBounds_toArray, List.set_cons_zero, List.set_cons_succ])
          refine wpAnyH_ready (rs := [8]) (by kernel_rfl) (by simp) ?_
          refine AllReadyH.cons rfl (fun K hK => ?_) AllReadyH.nil
          simp only [List.getElem_toArray, List.getElem_cons_zero, List.getElem_cons_succ]
          rw [if_pos (by rfl)]
          refine wp_store_op (k := 0) 36 (frV (carF t2 ta tc)) (frC (carF t2 ta tc)) rfl rfl rfl HA (by kernel_rfl) (show (21 : Nat) ≤ 21 from Nat.le_refl 21) (by rfl) (st_whole' _ _ rfl) (fun w9 HA9 b9 g9 => ?_)
          have hS := hHeld.1.grown g9 (by intro e; have := HT4.lt; cases e; omega)
          have BK := hHeld.2.trans (b9.mono hAlo)
          have hTg9 := hTg.keep fun g C q => g9.block g q.lt (by intro e; cases e; exact absurd (blk_type q HA) (by decide))
          refine hK.out _ _ ?_ (fun hHeld => ?_)
          · exact ⟨hS, BK⟩
          clear hK K
          (try simp only [Act.put, List.getElem_toArray, List.getElem_cons_zero, List.getElem_cons_succ, List.setIfInBounds_toArray, List.set_cons_zero, List.set_cons_succ])
          refine wpAnyH_take (i := 9) (v := ?_) rfl (by kernel_rfl) (by kernel_rfl) (by kernel_rfl) (fun _ _ _ h => h) (Or.inl ⟨by rfl, ?_⟩) (by assumption) ?_
          rotate_left
          · (intro w hSw; (try dsimp only at hSw); go_simp; (try with_reducible rfl))
          (try simp only [Act.put, List.getElem_toArray, List.getElem_cons_zero, List.getElem_cons_succ, List.setIfInBounds_toArray, List.set_cons_zero, List.set_cons_succ])
          refine wpAnyH_done (by kernel_rfl) ?_ _
          refine NoPanic.normal ?_
          exact ⟨rfl, _, _, _, _, _, _, _, _, _, _, _, _, _, _, _, _, _, _, _, _, _, _, _, _, _, _, _, _, rfl, HA9, hAlo, hTg9, hHeld.1, hHeld.2⟩
      · skip
        simp only [List.getElem_toArray, List.getElem_cons_zero, List.getElem_cons_succ]
        rw [if_pos (by rfl)]
        refine wp_alloc_opF 36 (frC zFr) rfl Try.frZeroB ?_
        rintro A w6 hA HA k6
        have hAlo : w4.heap.size ≤ A := by rw [hA]; exact hHeld.2.size
        have k6' := k6
        rw [hA] at k6'
        replace hA := Lib.hid hA
        have hS := hHeld.1.kept k6'
        have BK := hHeld.2.trans (k6'.mono hHeld.2.size)
        refine hK.out _ _ ?_ (fun hHeld => ?_)
        · exact ⟨hS, BK⟩
        clear hK K
        (try simp only [Act.put, List.getElem_toArray, List.getElem_cons_zero, List.getElem_cons_succ, List.setIfInBounds_toArray, List.set_cons_zero, List.set_cons_succ])
        refine wpAnyH_ready (rs := [1]) (by kernel_rfl) (by simp) ?_
        refine AllReadyH.cons rfl (fun K hK => ?_) AllReadyH.nil
        simp only [List.getElem_toArray, List.getElem_cons_zero, List.getElem_cons_succ]
        go_simp
        refine (carried_any t2 _).mono ?_
        rintro e w5 ⟨⟨ta, tc, rfl, hTg⟩, k5⟩
        have hS := hHeld.1.kept k5
        have BK := hHeld.2.trans (k5.mono hHeld.2.size)
        have HA := HA.kept k5
        refine hK.out _ _ ?_ (fun hHeld => ?_)
        · exact ⟨hS, BK⟩
        clear hK K
        (try simp only [Act.put, List.getElem_toArray, List.getElem_cons_zero, List.getElem_cons_succ, List.setIfInBounds_toArray, List.set_cons_zero, List.set_cons_succ])
        refine wpAnyH_ready (rs := [6]) (by kernel_rfl) (by simp) ?_
        refine AllReadyH.cons rfl (fun K hK => ?_) AllReadyH.nil
        simp only [List.getElem_toArray, List.getElem_cons_zero, List.getElem_cons_succ]
        go_simp
        refine (pick_val t2.port l0.length _ HNE.out (Nat.le_trans HL8.out (by decide))).mono ?_
        rintro e w' ⟨rfl, rfl⟩
        refine hK.out _ _ ?_ (fun hHeld => ?_)
        · exact hHeld
        clear hK K
        (try simp only [Act.put, List.getElem_toArray, List.getElem_cons_zero, List.getElem_cons_succ, List.setIfInBounds_toArray, List.set_cons_zero, List.set_cons_succ])
        refine wpAnyH_ready (rs := [8]) (by kernel_rfl) (by simp) ?_
        refine AllReadyH.cons rfl (fun K hK => ?_) AllReadyH.nil
        simp only [List.getElem_toArray, List.getElem_cons_zero, List.getElem_cons_succ]
        rw [if_pos (by rfl)]
        refine wp_store_op (k := 0) 36 (frV (carF t2 ta tc)) (frC (carF t2 ta tc)) rfl rfl rfl HA (by kernel_rfl) (show (21 : Nat) ≤ 21 from Nat.le_refl 21) (by rfl) (st_whole' _ _ rfl) (fun w9 HA9 b9 g9 => ?_)
        have hS := hHeld.1.grown g9 (by intro e; have := HT4.lt; cases e; omega)
        have BK := hHeld.2.trans (b9.mono hAlo)
        have hTg9 := hTg.keep fun g C q => g9.block g q.lt (by intro e; cases e; exact absurd (blk_type q HA) (by decide))
        refine hK.out _ _ ?_ (fun hHeld => ?_)
        · exact ⟨hS, BK⟩
        clear hK K
        (try simp only [Act.put, List.getElem_toArray, List.getElem_cons_zero, List.getElem_cons_succ, List.setIfInBounds_toArray, List.set_cons_zero, List.set_cons_succ])
        refine wpAnyH_take (i := 9) (v := ?_) rfl (by kernel_rfl) (by kernel_rfl) (by kernel_rfl) (fun _ _ _ h => h) (Or.inl ⟨by rfl, ?_⟩) (by assumption) ?_
        rotate_left
        · (intro w hSw; (try dsimp only at hSw); go_simp; (try with_reducible rfl))
        (try simp only [Act.put, List.getElem_toArray, List.getElem_cons_zero, List.getElem_cons_succ, List.setIfInBounds_toArray, List.set_cons_zero, List.set_cons_succ])
        refine wpAnyH_done (by kernel_rfl) ?_ _
        refine NoPanic.normal ?_
        exact ⟨rfl, _, _, _, _, _, _, _, _, _, _, _, _, _, _, _, _, _, _, _, _, _, _, _, _, _, _, _, _, rfl, HA9, hAlo, hTg9, hHeld.1, hHeld.2⟩
    rintro e a w8 ⟨rfl, A, ta, tc, u17, u18, u19, u20, u21, u22, u23, u24, u25, u26, u27, u28, u29, u30, u31, u32, u33, u34, u35, u36, u37, u38, u39, u40, u41, rfl, HF8, hAlo, hTg8, HT8, k8⟩
    have hbr8 := hbr.kept k8
    have B8 := B4.trans (k8.mono B4.size)
    have hlo8 : w3.heap.size ≤ w8.heap.size := Nat.le_trans k4.size k8.size
    have hBW := B3.size
    have h0 := HSRV.out.last0
    have h1 := HSRV.out.last1
    have h2 := HSRV.out.now
    simp only at h0 h1 h2
    have HPL : Hid ((l0.map PsH.x).length ≤ 8) := by show _ ≤ _; rw [List.length_map]; exact HL8.out
    have HKL : Hid (pickN t2.port l0.length < (l0.map PsH.x).length) := by show _ < _; rw [List.length_map]; exact hpk
    have HT6 : Hid (tE ≤ 1000000) := by show _ ≤ _; have := HN60.out; omega
    have HERR : Hid ((inM (l0.map PsH.x) 100 lE E (pickN t2.port l0.length : Nat) (carF t2 ta tc) tE).err = 0) := (in_fine HPS.out HKL.out HPL.out h0 h1 HT6.out E t2 ta tc).1
    have HOUT := Lib.hid (in_out HPS.out HKL.out HPL.out h0 h1 HT6.out E t2 ta tc)
    have hfr : ∀ w, TagsIn w ta (tagM t2) → FrIn w (carF t2 ta tc) := fun w h => ⟨h, Nat.le_trans (tagM_short t2) (by decide), hTg8.cap.1, show (4 : Nat) ≤ 3000 by decide⟩
    have HVC : Hid (∀ w, BrgAt w w3.heap.size b t cc ad hs 100 lE E → TagsIn w ta (tagM t2) → Calls Try.prog 18 #[.pointer (some ⟨b, 0, none⟩), .int .i64 (pickN t2.port l0.length : Nat), .agg (frC (carF t2 ta tc))] w fun e w' => e = .returned (.int .i64 (vidM (l0.map PsH.x) (pickN t2.port l0.length : Nat) (tagM t2))) ∧ Below w.heap.size w w') := fun w h q => by
      have := vid_any (pickN t2.port l0.length : Nat) (carF t2 ta tc) w h q (Nat.le_trans (tagM_short t2) (by decide))
      rw [hmap] at this
      exact this
    have HIC : Hid (∀ w, BrgAt w w3.heap.size b t cc ad hs 100 lE E → TgRow w ta (tagM t2) tc → w3.heap.size ≤ w.heap.size → Calls Try.prog 17 #[.pointer (some ⟨b, 0, none⟩), .int .i64 (pickN t2.port l0.length : Nat), .agg (frC (carF t2 ta tc)), .int .i64 tE] w fun e w' => InPost w3.heap.size b t cc ad hs 100 lE E (pickN t2.port l0.length : Nat) tE (carF t2 ta tc) w e w') := fun w h q hb =>
      in_any (pickN t2.port l0.length : Nat) tE (carF t2 ta tc) w h (hfr w q.inL) (q.toK _) (dstF_lt t2) (adF_lt _) hb
    go_upto_region 11 with (first
      | (refine load_blk 36 (frC (carF t2 ta tc)) (by rfl) rfl rfl HF8 (by kernel_rfl) (by kernel_rfl) (by rfl) ?_)
      | (go_at_call 18; refine (HVC.out _ hbr8 hTg8.inL).mono ?_; rintro e w9 ⟨rfl, k9⟩; have HF9 := HF8.kept k9; have hbr9 := hbr8.kept k9; have hTg9 := hTg8.kept k9)
      | (refine load_blk 36 (frC (carF t2 ta tc)) (by rfl) rfl rfl HF9 (by kernel_rfl) (by kernel_rfl) (by rfl) ?_)
      | (go_at_call 17; refine (HIC.out _ hbr9 hTg9 (Nat.le_trans hlo8 k9.size)).mono ?_; rintro e w10 ⟨v, ss, rfl, ho, hss, hbr10, hx10⟩; obtain ⟨aS, cS, rfl, hIS⟩ := ho.inL; rw [hmap] at hss hbr10; rw [hmap, HERR.out, show errV 0 = .nilIface from rfl]))
    have B10 := (B8.trans (k9.mono B8.size)).trans ((hx10.below (Nat.le_trans hlo8 k9.size)).mono hBW)
    have HIDS := HOUT.out
    generalize (inM (l0.map PsH.x) 100 lE E (pickN t2.port l0.length : Nat) (carF t2 ta tc) tE).out = ids at *
    have HLEN := Lib.hid hss.len
    have HSS := Lib.hid hss
    generalize hV : vidM (l0.map PsH.x) (pickN t2.port l0.length : Nat) (tagM t2) = V at *
    have hV' : vidM (l0.map PsH.x) (pickN t2.port l0.length : Nat) (carF t2 ta tc).tl = V := hV
    rw [hV'] at HSS hss
    clear hV hV'
    have hll : ss.length ≤ 9223372036854775807 := by
      have h1 := HLEN.out
      have h2 : ids.length ≤ 1000000 := by
        have := (List.nodup_iff_pairwise_ne.2 (HIDS.1.imp (fun h => Nat.ne_of_lt h)))
        have h3 : ids.length ≤ 8 := by
          have hsub : ids ⊆ List.range 8 := fun i hi => List.mem_range.2 (Nat.lt_of_lt_of_le (HIDS.2 i hi).lt HPL.out)
          have := this.length_le_of_subset hsub
          simpa using this
        omega
      omega
    have HLL := Lib.hid hll
    clear HVC HIC HERR HOUT hbr10 hx10 hss ho HF8 HF9 hTg8 hTg9 hbr8 hbr9 HT8 hlo8 hfr
    go_wp2
    go_loopw [14, 58] (fun s14 s58 wr => ∃ k : Nat, k ≤ ss.length ∧ s58 = .int .i64 k ∧ s14 = .int .i64 (lastOf ids k) ∧ Below w10.heap.size w10 wr) (fun _ i _ => ss.length - (intOf i).toNat)
    case atStart => exact ⟨0, by omega, rfl, rfl, Below.refl _ _⟩
    case round =>
     obtain ⟨k, hk, rfl, rfl, Bk⟩ := hrel
     by_cases hlt : k < ss.length
     · skip
       have hIk := hIS.below Bk
       obtain ⟨bb, lo, rfl, hbl, hat⟩ := hIk.at hlt
       have q1 : (k : Int) < (ss.length : Int) := by omega
       have q2 : decide ((k : Int) < (ss.length : Int)) = true := decide_eq_true q1
       have q3 : (0 : Int) ≤ (k : Int) := by omega
       have q4 : IntKind.i64.wrap ((k : Int) + 1) = (k : Int) + 1 := by have := HLL.out; rw [IntKind.wrap_i64] <;> omega
       have HK := hat k hlt
       have hki : k < ids.length := by have := HLEN.out; omega
       have hsk := (HSS.out.get k hki hlt)
       have hO := HIDS.2 ids[k] (List.getElem_mem hki)
       have hlast := lastOf_lt HIDS.1 hki
       have HSUC := Lib.hid (lastOf_succ hki)
       generalize hlastE : lastOf ids k = lst at *
       generalize ss[k] = s at *
       generalize ids[k] = i at *
       have hi0 : i < l0.length := by have := hO.lt; rwa [List.length_map] at this
       have hP := hin0.below (B10.trans (Bk.mono B10.size))
       obtain ⟨pb, plo, rfl, hpb, hpat⟩ := hP.at hi0
       have hgi : (l0.map PsH.x).getD i zPs = l0[i].x := by simp [hi0]
       have hgk : (l0.map PsH.x).getD (pickN t2.port l0.length) zPs = l0[pickN t2.port l0.length].x := by simp [hpk]
       have c3i : wr.cell? ⟨pb, plo + i * 4 + 3, none⟩ = some (.int .i64 3) := by
         rw [hpat i hi0 3 _ rfl]
         show some (Value.int .i64 l0[i].x.st) = _
         rw [← hgi, hO.st]
       have c1i := hpat i hi0 1 _ rfl
       have c3k : wr.cell? ⟨pb, plo + pickN t2.port l0.length * 4 + 3, none⟩ = some (.int .i64 3) := by
         rw [hpat _ hpk 3 _ rfl]
         show some (Value.int .i64 l0[pickN t2.port l0.length].x.st) = _
         rw [← hgk, hO.stk]
       have hok := (hok0 _ (List.getElem_mem hi0)).below (B10.trans (Bk.mono B10.size))
       have hmem : memB l0[i].x.inn V = true := by rw [← hgi]; exact hO.mem
       have hsp := hsk.1
       have f1 : decide ((i : Int) ≤ lst) = false := decide_eq_false (by omega)
       have f2 : ((i : Int) == ((pickN t2.port l0.length : Nat) : Int)) = false := by rw [beq_eq_false_iff_ne]; have := hO.ne; omega
       have f2n : (i == pickN t2.port l0.length) = false := beq_eq_false_iff_ne.2 hO.ne
       have f3 : decide ((l0.length : Int) ≤ (i : Int)) = false := decide_eq_false (by omega)
       have f3n : decide (l0.length ≤ i) = false := decide_eq_false (by omega)
       have f4 : (V == 0) = false := beq_eq_false_iff_ne.2 hO.vid0
       have f5 : (i : Int) < (l0.length : Int) := by omega
       have f6 : (0 : Int) ≤ (i : Int) := by omega
       have f7 : ((pickN t2.port l0.length : Nat) : Int) < (l0.length : Int) := by omega
       have f8 : (0 : Int) ≤ ((pickN t2.port l0.length : Nat) : Int) := by omega
       generalize l0[i] = x at *
       generalize pickN t2.port l0.length = kk at *
       have HC := Lib.hid (fun W h => containsIv_any x.ia x.ic x.x.inn V W h (Nat.le_trans hok.ic hok.im))
       rw [hmem] at HC
       have HA4 := Blk.new wr 48 (snC zSnH)
       have b4 : Below wr.heap.size wr (wr.alloc (.cells (snC zSnH) 48)) := (Below.refl _ _).alloc (Nat.le_refl _) _
       clear hat hIk hsk hO hlast hpat hP hgi hgk hmem hbl hin0 hok0
       go_upto_region 17 with (first
         | (refine load_cells (B := bb) (k := lo + k * 22) 48 (snC s) (by rfl) rfl rfl HK (by kernel_rfl) (by kernel_rfl) ?_)
         | (refine alloc_blk 48 (snC zSnH) (by rfl) rfl Try.snZero ?_)
         | (refine store_blk (k := 0) 48 (.agg (snC s)) (snC s) (by rfl) rfl rfl rfl HA4 (by kernel_rfl) (show (22 : Nat) ≤ 22 from Nat.le_refl 22) (by rfl) (st_whole' _ _ rfl) ?_; intro w5 HN5 b5 g5))
       have b45 := b4.trans b5
       have n0 : w5.cell? ⟨wr.heap.size, 0, none⟩ = some (.int .i64 (i : Int)) := by rw [← hsp]; exact HN5.cv 0 _ rfl
       have d3i := (b45.cell hpb).trans c3i
       have d1i := (b45.cell hpb).trans c1i
       have d3k := (b45.cell hpb).trans c3k
       have hok5 := (hok.below b45).i
       have B5 := Bk.trans (b45.mono Bk.size)
       clear HA4 b4 b5 g5 HK b45 Bk c3i c1i c3k HN5 hsp
       generalize wr.heap.size = N at *
       go_wp2_with (go_at_call 32; refine (HC.out _ hok5).mono ?_; rintro e w' ⟨rfl, rfl⟩)
       go_roundw
       case rel => exact ⟨k + 1, by omega, by go_num, by rw [HSUC.out], B5⟩
       case measure => simp [intOf]; omega
     · obtain rfl : k = ss.length := by omega
       have q2 : decide ((ss.length : Int) < (ss.length : Int)) = false := decide_eq_false (by omega)
       go_wp2
       go_ret
       exact ⟨rfl, B10.trans (Bk.mono B10.size)⟩

end Go.Proofs.Ytdceggekhhflgaa.bridgeOut
