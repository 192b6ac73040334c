/- switchyardkeep.BridgeLearns. -/
import Derived.Test.YtdceggekhhflgaaKs
import Derived.Test.YtdceggekhhflgaaPs
import Derived.Test.YtdceggekhhflgaaPlN
import Derived.Test.YtdceggekhhflgaaLsM
namespace Go.Proofs.Ytdceggekhhflgaa.bridgeLearns
open Go.RowKit
attribute [local go_sem ↓] Go.wp_at_zero Go.wp_at_succ
set_option linter.unusedSimpArgs false
set_option linter.unusedVariables false
set_option maxRecDepth 100000

theorem Sents.one {w : World} {f : Fr} {vid : Int} {ps : List Ps} {i : Nat} {ss : List SnH} (h : Sents w f vid ps [i] ss) : ∃ x, ss = [x] ∧ x.p = (i : Int) := by
  have hl := h.len
  obtain ⟨x, rfl⟩ : ∃ x, ss = [x] := by
    cases ss with
    | nil => cases hl
    | cons x m =>
      cases m with
      | nil => exact ⟨x, rfl⟩
      | cons y n => simp at hl
  exact ⟨x, rfl, (h.get 0 (by simp) (by simp)).1⟩

theorem six_eqN {x y : Nat → Nat} (h : ¬ six x = six y) : eqN 6 y x = false := by
  rw [Bool.eq_false_iff]
  intro q
  apply h
  have q := (eqN_iff 6 y x).1 q
  unfold six
  rw [q 0 (by decide), q 1 (by decide), q 2 (by decide), q 3 (by decide), q 4 (by decide), q 5 (by decide)]

theorem dst_one {t : Tr} (h : t.many = false) : dstF t = adF t.to := by
  funext i
  unfold dstF
  rw [h]
  simp

/-- In among plain ports. -/
theorem in_rep {B b tt cc : Nat} {ad : Option Addr} {hs : List PsH} {lX tE : Int} {EX : List Ent} (t : Tr) (ta : Option Addr) (tc j : Nat) (w : World) (h : BrgAt w B b tt cc ad hs 100 lX EX) (hmap : hs.map PsH.x = List.replicate 5 pP) (q : TgRow w ta (tagM t) tc) (hb : B ≤ w.heap.size) :
    Calls Try.prog 17 #[.pointer (some ⟨b, 0, none⟩), .int .i64 (j : Int), .agg (frC (carF t ta tc)), .int .i64 tE] w fun e w' =>
      ∃ v ss, e = .returned (.tuple #[v, errV (inM (List.replicate 5 pP) 100 lX EX (j : Int) (carF t ta tc) tE).err]) ∧ OwnSnH w' w.heap.size v ss ∧ Sents w' (carF t ta tc) (vidM (List.replicate 5 pP) (j : Int) (tagM t)) (List.replicate 5 pP) (inM (List.replicate 5 pP) 100 lX EX (j : Int) (carF t ta tc) tE).out ss ∧
        BrgAt w' B b tt cc ad hs 100 (inM (List.replicate 5 pP) 100 lX EX (j : Int) (carF t ta tc) tE).last (inM (List.replicate 5 pP) 100 lX EX (j : Int) (carF t ta tc) tE).E ∧ Lx B LT w w' := by
  have hfr : FrIn w (carF t ta tc) := ⟨q.inL, Nat.le_trans (tagM_short t) (by decide), q.cap.1, show (4 : Nat) ≤ 3000 by decide⟩
  have := in_any (j : Int) tE (carF t ta tc) w h hfr (q.toK _) (dstF_lt t) (adF_lt _) hb
  unfold InPost at this
  rw [hmap] at this
  exact this

theorem vid_rep_any {B b tt cc : Nat} {ad : Option Addr} {hs : List PsH} {lX : Int} {EX : List Ent} (t : Tr) (ta : Option Addr) (tc j : Nat) (hj : j < 5) (w : World) (h : BrgAt w B b tt cc ad hs 100 lX EX) (hmap : hs.map PsH.x = List.replicate 5 pP) (q : TgRow w ta (tagM t) tc) :
    Calls Try.prog 18 #[.pointer (some ⟨b, 0, none⟩), .int .i64 (j : Int), .agg (frC (carF t ta tc))] w fun e w' => e = .returned (.int .i64 (vidP pP (firstT (tagM t)))) ∧ Below w.heap.size w w' := by
  have := vid_any (j : Int) (carF t ta tc) w h q.inL (Nat.le_trans (tagM_short t) (by decide))
  rw [hmap, show (carF t ta tc).tl = tagM t from rfl, vid_rep j hj] at this
  exact this

set_option maxHeartbeats 6400000 in
theorem walk (a0 : Option Addr) (c0 : Nat) (l0 : List Tr) (t1 : Tr) (a2 : Int) (W : World) (hin0 : TrIn W a0 l0) (hl0 : l0.length ≤ maxLen) :
    Calls Try.prog 8 #[.slice a0 l0.length c0, .agg (trC t1), .int .i64 a2] W fun e w' => e = .returned (.bool true) ∧ Below W.heap.size W w' := by
  have B0 : Below W.heap.size W (W.alloc (.cells (trC t1) 24)) := (Below.refl _ _).alloc (Nat.le_refl _) _
  have HT1 := Blk.new W 24 (trC t1)
  by_cases h60 : 60 < l0.length
  · have e60 : decide ((60 : Int) < (l0.length : Int)) = true := decide_eq_true (by omega)
    clear hin0
    go_enter Try.func8, Try.ntmps8
    go_upto_region 1 with (refine box_blk 24 (trC t1) (by rfl) rfl rfl ?_)
    generalize W.alloc (.cells (trC t1) 24) = w1 at *
    go_wp2_with (go_at_call 11; refine (passes_any _).mono ?_; rintro e w2 ⟨rfl, k2⟩; have B2 := B0.trans (k2.mono B0.size))
    go_ret
    exact ⟨rfl, B2⟩
  have e60 : decide ((60 : Int) < (l0.length : Int)) = false := decide_eq_false (by omega)
  have HN60 : Hid (l0.length ≤ 60) := by show _ ≤ _; omega
  have HSRV := Lib.hid (srvM_ok (ps := List.replicate 5 pP) rep_ok (by simp) (by simp) l0 (by omega))
  obtain ⟨lE, E, tE, hsv⟩ : ∃ lE E tE, srvM (List.replicate 5 pP) l0 = (lE, E, tE) := ⟨_, _, _, rfl⟩
  rw [hsv] at HSRV
  have HSV := Lib.hid hsv
  clear hsv h60
  have h0 := HSRV.out.last0
  have h1 := HSRV.out.last1
  have h2 := HSRV.out.now
  simp only at h0 h1 h2
  have HT6 : Hid (tE ≤ 1000000) := by show _ ≤ _; have := HN60.out; omega
  obtain ⟨t, ht⟩ : ∃ t, manyT t1 false = t := ⟨_, rfl⟩
  have hm : t.many = false := by rw [← ht]; rfl
  have ht5 : (trC t1).setIfInBounds 5 (.bool false) = trC t := by rw [← ht]; rfl
  have hC5 : ∀ {w' : World}, Blk w' W.heap.size 24 (trC (manyT t1 false)) → Blk w' W.heap.size 24 (trC t) := fun h => by rw [← ht]; exact h
  go_enter Try.func8, Try.ntmps8
  go_upto_region 1 with (refine box_blk 24 (trC t1) (by rfl) rfl rfl ?_)
  generalize W.alloc (.cells (trC t1) 24) = w1 at *
  go_upto_region 8 with (first
    | (go_at_call 11; refine (passes_any _).mono ?_; rintro e w2 ⟨rfl, k2⟩; have B2 := B0.trans (k2.mono B0.size))
    | (go_at_call 13; refine (plainPorts_any 5 (by decide) _).mono ?_; rintro e w3 ⟨⟨v, L, rfl, hO, hL, hP⟩, k3⟩; obtain ⟨aP, cP, rfl, hIP⟩ := hO.inL; have B3 := B2.trans (k3.mono B2.size); have HL5 := Lib.hid (show L.length = 5 by have := congrArg List.length hL; simpa using this); have HPR : Hid (∀ x ∈ L, okPs x.x = true) := (fun x hx => by have hm : x.x ∈ L.map PsH.x := List.mem_map.2 ⟨x, hx, rfl⟩; rw [hL] at hm; rw [(List.mem_replicate.1 hm).2]; exact pP_ok); have HPO : Hid (∀ x ∈ L, PsOk w3 x) := (fun x hx => (hP x hx).ok))
    | (go_at_call 12; refine (served_any aP cP L a0 c0 l0 w3 hIP HPO.out (by rw [HL5.out]; decide) HPR.out (by rw [HL5.out]; decide) (hin0.below B3) HN60.out).mono ?_; rintro e w4 ⟨⟨b, tt, cc, ad, hs, rfl, hmap, hbr⟩, k4⟩; rw [hL, HSV.out] at hbr; rw [hL, HSV.out]; rw [hL] at hmap))
  have HT4 : Blk w4 W.heap.size 24 (trC t1) := ((HT1.kept k2).kept k3).kept k4
  have B4 := B3.trans (k4.mono B3.size)
  have hlo4 : w3.heap.size ≤ w4.heap.size := k4.size
  have hT3 : W.heap.size < w3.heap.size := Nat.lt_of_lt_of_le (Nat.lt_of_lt_of_le HT1.lt k2.size) k3.size
  have hW3 := B3.size
  clear hO hP hIP HPO HPR HT1 hin0 B2 B0 k2 k3 k4
  go_upto_region 9 with (refine store_blk (B := W.heap.size) (k := 5) 4 (.bool false) (trC (manyT t1 false)) (by rfl) rfl rfl rfl HT4 (by kernel_rfl) (show (6 : Nat) ≤ 6 from Nat.le_refl 6) (by rfl) rfl ?_; intro w5 HT5 b5 g5)
  have hbr5 := hbr.keep (w' := w5) fun g T C q hg hT => g5.block g q.lt (by intro e; cases e; omega)
  have hlo5 : w3.heap.size ≤ w5.heap.size := Nat.le_trans hlo4 g5.size
  have B5 : Below W.heap.size W w5 := B4.trans b5
  replace HT5 := hC5 HT5
  clear hbr HT4 b5 g5 hC5 ht5 hT3
  refine Code.wp_mono (Q := fun e a w' => e = .normal ∧ ∃ A ta tc u16 u17 u18 u19 u20 u21 u22 u23 u24 u25 u26 u27 u28 u29 u30 u31 u32 u33 u34, a = { tmps := #[.slice a0 l0.length c0, .agg (trC t1), .int .i64 a2, undef, .pointer (some ⟨W.heap.size, 0, none⟩), undef, .bool false, .pointer (some ⟨b, 0, none⟩), .int .i64 tE, .pointer (some ⟨A, 0, none⟩), .int .i64 (pickN t.port 5 : Nat), undef, undef, undef, undef, undef, u16, u17, u18, u19, u20, u21, u22, u23, u24, u25, u26, u27, u28, u29, u30, u31, u32, u33, u34, undef, undef, undef, undef, undef, undef, undef, undef, undef, undef, undef, undef, undef, undef, undef, undef, undef, undef, undef, undef, undef, undef, undef, undef, undef, undef, undef, undef, undef, undef, undef, undef, undef, undef, undef, undef, undef, undef, undef, undef, undef, undef, undef, undef, undef, undef, undef, undef, undef, undef, undef, undef, undef, undef, undef, undef, undef, undef, undef], defers := [] } ∧ Blk w' A 36 (frC (carF t ta tc)) ∧ w5.heap.size ≤ A ∧ TgRow w' ta (tagM t) tc ∧ Blk w' W.heap.size 24 (trC t) ∧ Below w5.heap.size w5 w') ?_ ?_
  rotate_left
  · skip
    refine wp_region_noPanic ?_
    refine wp_region_held_drew (S := (fun w' => Blk w' W.heap.size 24 (trC t) ∧ Below w5.heap.size w5 w')) (by kernel_rfl) ?_ (fun hHeld => ?_)
    · exact ⟨HT5, (Below.refl _ _).drew⟩
    refine wpAnyH_take (i := 0) (v := .agg (trC t)) rfl (by kernel_rfl) (by kernel_rfl) (by kernel_rfl) (fun _ _ _ h => h) (Or.inl ⟨by rfl, fun w hSw => exec_load_blk (k := 0) 24 (trC t) rfl rfl hSw.1 (by kernel_rfl) (by kernel_rfl) rfl⟩) (by assumption) ?_
    (try simp only [Act.put, List.getElem_toArray, List.getElem_cons_zero, List.getElem_cons_succ, List.setIfInBounds_toArray, List.set_cons_zero, List.set_cons_succ])
    refine wpAnyH_take (i := 2) (v := ?_) rfl (by kernel_rfl) (by kernel_rfl) (by kernel_rfl) (fun _ _ _ h => h) (Or.inl ⟨by rfl, ?_⟩) (by assumption) ?_
    rotate_left
    · (intro w hSw; (try dsimp only at hSw); go_simp; (try with_reducible rfl))
    (try simp only [Act.put, List.getElem_toArray, List.getElem_cons_zero, List.getElem_cons_succ, List.setIfInBounds_toArray, List.set_cons_zero, List.set_cons_succ])
    refine wpAnyH_take (i := 3) (v := .int .i64 t.port) rfl (by kernel_rfl) (by kernel_rfl) (by kernel_rfl) (fun _ _ _ h => h) (Or.inl ⟨by rfl, fun w hSw => by have c := hSw.1.cv 0 (.int .i64 t.port) rfl; go_simp⟩) (by assumption) ?_
    (try simp only [Act.put, List.getElem_toArray, List.getElem_cons_zero, List.getElem_cons_succ, List.setIfInBounds_toArray, List.set_cons_zero, List.set_cons_succ])
    refine wpAnyH_ready (rs := [1, 5]) (by kernel_rfl) (by simp) ?_
    refine (AllReadyH.cons rfl (fun K hK => ?_) (AllReadyH.cons rfl (fun K hK => ?_) AllReadyH.nil))
    · skip
      simp only [List.getElem_toArray, List.getElem_cons_zero, List.getElem_cons_succ]
      go_simp
      refine (carried_any t _).mono ?_
      rintro e w6 ⟨⟨ta, tc, rfl, hTg⟩, k6⟩
      have hS := hHeld.1.kept k6
      have BK := hHeld.2.trans (k6.mono hHeld.2.size)
      refine hK.out _ _ ?_ (fun hHeld => ?_)
      · exact ⟨hS, BK⟩
      clear hK K
      (try simp only [Act.put, List.getElem_toArray, List.getElem_cons_zero, List.getElem_cons_succ, List.setIfInBounds_toArray, List.set_cons_zero, List.set_cons_succ])
      refine wpAnyH_ready (rs := [4, 5]) (by kernel_rfl) (by simp) ?_
      refine (AllReadyH.cons rfl (fun K hK => ?_) (AllReadyH.cons rfl (fun K hK => ?_) AllReadyH.nil))
      · skip
        simp only [List.getElem_toArray, List.getElem_cons_zero, List.getElem_cons_succ]
        go_simp
        refine (pick_val t.port 5 _ (by decide) (by decide)).mono ?_
        rintro e w' ⟨rfl, rfl⟩
        refine hK.out _ _ ?_ (fun hHeld => ?_)
        · exact hHeld
        clear hK K
        (try simp only [Act.put, List.getElem_toArray, List.getElem_cons_zero, List.getElem_cons_succ, List.setIfInBounds_toArray, List.set_cons_zero, List.set_cons_succ])
        refine wpAnyH_ready (rs := [5]) (by kernel_rfl) (by simp) ?_
        refine AllReadyH.cons rfl (fun K hK => ?_) AllReadyH.nil
        simp only [List.getElem_toArray, List.getElem_cons_zero, List.getElem_cons_succ]
        rw [if_pos (by rfl)]
        refine wp_alloc_opF 36 (frC zFr) rfl Try.frZeroB ?_
        rintro A w7 hA HA k7
        have hAlo : w5.heap.size ≤ A := by rw [hA]; exact hHeld.2.size
        have k7' := k7
        rw [hA] at k7'
        replace hA := Lib.hid hA
        have hS := hHeld.1.kept k7'
        have BK := hHeld.2.trans (k7'.mono hHeld.2.size)
        have hTg := hTg.kept k7'
        refine hK.out _ _ ?_ (fun hHeld => ?_)
        · exact ⟨hS, BK⟩
        clear hK K
        (try simp only [Act.put, List.getElem_toArray, List.getElem_cons_zero, List.getElem_cons_succ, List.setIfInBounds_toArray, List.set_cons_zero, List.set_cons_succ])
        refine wpAnyH_ready (rs := [6]) (by kernel_rfl) (by simp) ?_
        refine AllReadyH.cons rfl (fun K hK => ?_) AllReadyH.nil
        simp only [List.getElem_toArray, List.getElem_cons_zero, List.getElem_cons_succ]
        rw [if_pos (by rfl)]
        refine wp_store_op (k := 0) 36 (frV (carF t ta tc)) (frC (carF t ta tc)) rfl rfl rfl HA (by kernel_rfl) (show (21 : Nat) ≤ 21 from Nat.le_refl 21) (by rfl) (st_whole' _ _ rfl) (fun w9 HA9 b9 g9 => ?_)
        have hS := hHeld.1.grown g9 (by intro e; have := HT5.lt; cases e; omega)
        have BK := hHeld.2.trans (b9.mono hAlo)
        have hTg9 := hTg.keep fun g C q => g9.block g q.lt (by intro e; cases e; exact absurd (blk_type q HA) (by decide))
        refine hK.out _ _ ?_ (fun hHeld => ?_)
        · exact ⟨hS, BK⟩
        clear hK K
        (try simp only [Act.put, List.getElem_toArray, List.getElem_cons_zero, List.getElem_cons_succ, List.setIfInBounds_toArray, List.set_cons_zero, List.set_cons_succ])
        refine wpAnyH_take (i := 7) (v := ?_) rfl (by kernel_rfl) (by kernel_rfl) (by kernel_rfl) (fun _ _ _ h => h) (Or.inl ⟨by rfl, ?_⟩) (by assumption) ?_
        rotate_left
        · (intro w hSw; (try dsimp only at hSw); go_simp; (try with_reducible rfl))
        (try simp only [Act.put, List.getElem_toArray, List.getElem_cons_zero, List.getElem_cons_succ, List.setIfInBounds_toArray, List.set_cons_zero, List.set_cons_succ])
        refine wpAnyH_done (by kernel_rfl) ?_ _
        refine NoPanic.normal ?_
        exact ⟨rfl, _, _, _, _, _, _, _, _, _, _, _, _, _, _, _, _, _, _, _, _, _, _, rfl, HA9, hAlo, hTg9, hHeld.1, hHeld.2⟩
      · skip
        simp only [List.getElem_toArray, List.getElem_cons_zero, List.getElem_cons_succ]
        rw [if_pos (by rfl)]
        refine wp_alloc_opF 36 (frC zFr) rfl Try.frZeroB ?_
        rintro A w7 hA HA k7
        have hAlo : w5.heap.size ≤ A := by rw [hA]; exact hHeld.2.size
        have k7' := k7
        rw [hA] at k7'
        replace hA := Lib.hid hA
        have hS := hHeld.1.kept k7'
        have BK := hHeld.2.trans (k7'.mono hHeld.2.size)
        have hTg := hTg.kept k7'
        refine hK.out _ _ ?_ (fun hHeld => ?_)
        · exact ⟨hS, BK⟩
        clear hK K
        (try simp only [Act.put, List.getElem_toArray, List.getElem_cons_zero, List.getElem_cons_succ, List.setIfInBounds_toArray, List.set_cons_zero, List.set_cons_succ])
        refine wpAnyH_ready (rs := [4]) (by kernel_rfl) (by simp) ?_
        refine AllReadyH.cons rfl (fun K hK => ?_) AllReadyH.nil
        simp only [List.getElem_toArray, List.getElem_cons_zero, List.getElem_cons_succ]
        go_simp
        refine (pick_val t.port 5 _ (by decide) (by decide)).mono ?_
        rintro e w' ⟨rfl, rfl⟩
        refine hK.out _ _ ?_ (fun hHeld => ?_)
        · exact hHeld
        clear hK K
        (try simp only [Act.put, List.getElem_toArray, List.getElem_cons_zero, List.getElem_cons_succ, List.setIfInBounds_toArray, List.set_cons_zero, List.set_cons_succ])
        refine wpAnyH_ready (rs := [6]) (by kernel_rfl) (by simp) ?_
        refine AllReadyH.cons rfl (fun K hK => ?_) AllReadyH.nil
        simp only [List.getElem_toArray, List.getElem_cons_zero, List.getElem_cons_succ]
        rw [if_pos (by rfl)]
        refine wp_store_op (k := 0) 36 (frV (carF t ta tc)) (frC (carF t ta tc)) rfl rfl rfl HA (by kernel_rfl) (show (21 : Nat) ≤ 21 from Nat.le_refl 21) (by rfl) (st_whole' _ _ rfl) (fun w9 HA9 b9 g9 => ?_)
        have hS := hHeld.1.grown g9 (by intro e; have := HT5.lt; cases e; omega)
        have BK := hHeld.2.trans (b9.mono hAlo)
        have hTg9 := hTg.keep fun g C q => g9.block g q.lt (by intro e; cases e; exact absurd (blk_type q HA) (by decide))
        refine hK.out _ _ ?_ (fun hHeld => ?_)
        · exact ⟨hS, BK⟩
        clear hK K
        (try simp only [Act.put, List.getElem_toArray, List.getElem_cons_zero, List.getElem_cons_succ, List.setIfInBounds_toArray, List.set_cons_zero, List.set_cons_succ])
        refine wpAnyH_take (i := 7) (v := ?_) rfl (by kernel_rfl) (by kernel_rfl) (by kernel_rfl) (fun _ _ _ h => h) (Or.inl ⟨by rfl, ?_⟩) (by assumption) ?_
        rotate_left
        · (intro w hSw; (try dsimp only at hSw); go_simp; (try with_reducible rfl))
        (try simp only [Act.put, List.getElem_toArray, List.getElem_cons_zero, List.getElem_cons_succ, List.setIfInBounds_toArray, List.set_cons_zero, List.set_cons_succ])
        refine wpAnyH_done (by kernel_rfl) ?_ _
        refine NoPanic.normal ?_
        exact ⟨rfl, _, _, _, _, _, _, _, _, _, _, _, _, _, _, _, _, _, _, _, _, _, _, rfl, HA9, hAlo, hTg9, hHeld.1, hHeld.2⟩
    · skip
      simp only [List.getElem_toArray, List.getElem_cons_zero, List.getElem_cons_succ]
      rw [if_pos (by rfl)]
      refine wp_alloc_opF 36 (frC zFr) rfl Try.frZeroB ?_
      rintro A w7 hA HA k7
      have hAlo : w5.heap.size ≤ A := by rw [hA]; exact hHeld.2.size
      have k7' := k7
      rw [hA] at k7'
      replace hA := Lib.hid hA
      have hS := hHeld.1.kept k7'
      have BK := hHeld.2.trans (k7'.mono hHeld.2.size)
      refine hK.out _ _ ?_ (fun hHeld => ?_)
      · exact ⟨hS, BK⟩
      clear hK K
      (try simp only [Act.put, List.getElem_toArray, List.getElem_cons_zero, List.getElem_cons_succ, List.setIfInBounds_toArray, List.set_cons_zero, List.set_cons_succ])
      refine wpAnyH_ready (rs := [1]) (by kernel_rfl) (by simp) ?_
      refine AllReadyH.cons rfl (fun K hK => ?_) AllReadyH.nil
      simp only [List.getElem_toArray, List.getElem_cons_zero, List.getElem_cons_succ]
      go_simp
      refine (carried_any t _).mono ?_
      rintro e w6 ⟨⟨ta, tc, rfl, hTg⟩, k6⟩
      have hS := hHeld.1.kept k6
      have BK := hHeld.2.trans (k6.mono hHeld.2.size)
      have HA := HA.kept k6
      refine hK.out _ _ ?_ (fun hHeld => ?_)
      · exact ⟨hS, BK⟩
      clear hK K
      (try simp only [Act.put, List.getElem_toArray, List.getElem_cons_zero, List.getElem_cons_succ, List.setIfInBounds_toArray, List.set_cons_zero, List.set_cons_succ])
      refine wpAnyH_ready (rs := [4]) (by kernel_rfl) (by simp) ?_
      refine AllReadyH.cons rfl (fun K hK => ?_) AllReadyH.nil
      simp only [List.getElem_toArray, List.getElem_cons_zero, List.getElem_cons_succ]
      go_simp
      refine (pick_val t.port 5 _ (by decide) (by decide)).mono ?_
      rintro e w' ⟨rfl, rfl⟩
      refine hK.out _ _ ?_ (fun hHeld => ?_)
      · exact hHeld
      clear hK K
      (try simp only [Act.put, List.getElem_toArray, List.getElem_cons_zero, List.getElem_cons_succ, List.setIfInBounds_toArray, List.set_cons_zero, List.set_cons_succ])
      refine wpAnyH_ready (rs := [6]) (by kernel_rfl) (by simp) ?_
      refine AllReadyH.cons rfl (fun K hK => ?_) AllReadyH.nil
      simp only [List.getElem_toArray, List.getElem_cons_zero, List.getElem_cons_succ]
      rw [if_pos (by rfl)]
      refine wp_store_op (k := 0) 36 (frV (carF t ta tc)) (frC (carF t ta tc)) rfl rfl rfl HA (by kernel_rfl) (show (21 : Nat) ≤ 21 from Nat.le_refl 21) (by rfl) (st_whole' _ _ rfl) (fun w9 HA9 b9 g9 => ?_)
      have hS := hHeld.1.grown g9 (by intro e; have := HT5.lt; cases e; omega)
      have BK := hHeld.2.trans (b9.mono hAlo)
      have hTg9 := hTg.keep fun g C q => g9.block g q.lt (by intro e; cases e; exact absurd (blk_type q HA) (by decide))
      refine hK.out _ _ ?_ (fun hHeld => ?_)
      · exact ⟨hS, BK⟩
      clear hK K
      (try simp only [Act.put, List.getElem_toArray, List.getElem_cons_zero, List.getElem_cons_succ, List.setIfInBounds_toArray, List.set_cons_zero, List.set_cons_succ])
      refine wpAnyH_take (i := 7) (v := ?_) rfl (by kernel_rfl) (by kernel_rfl) (by kernel_rfl) (fun _ _ _ h => h) (Or.inl ⟨by rfl, ?_⟩) (by assumption) ?_
      rotate_left
      · (intro w hSw; (try dsimp only at hSw); go_simp; (try with_reducible rfl))
      (try simp only [Act.put, List.getElem_toArray, List.getElem_cons_zero, List.getElem_cons_succ, List.setIfInBounds_toArray, List.set_cons_zero, List.set_cons_succ])
      refine wpAnyH_done (by kernel_rfl) ?_ _
      refine NoPanic.normal ?_
      exact ⟨rfl, _, _, _, _, _, _, _, _, _, _, _, _, _, _, _, _, _, _, _, _, _, _, rfl, HA9, hAlo, hTg9, hHeld.1, hHeld.2⟩
  rintro e a w8 ⟨rfl, A, ta, tc, u16, u17, u18, u19, u20, u21, u22, u23, u24, u25, u26, u27, u28, u29, u30, u31, u32, u33, u34, rfl, HF8, hAlo, hTg8, HT8, k8⟩
  have hbr8 := hbr5.kept k8
  have B8 := B5.trans (k8.mono B5.size)
  have hlo8 : w3.heap.size ≤ w8.heap.size := Nat.le_trans hlo5 k8.size
  clear hbr5 HT5 k8 hlo5 B5 hlo4 B4
  have c1 := HT8.cv 1 (.int .i64 t.frm) rfl
  have c2 := HT8.cv 2 (.int .i64 t.to) rfl
  have c3 := HT8.cv 3 (.int .i64 t.vid) rfl
  go_upto_region 11 with (go_at_call 14; refine (pick_val a2 5 _ (by decide) (by decide)).mono ?_; rintro e w' ⟨rfl, rfl⟩)
  go_upto_region 12 with (first
    | (go_at_call 15; refine (carried_any (⟨0, t.to, t.frm, t.vid, 0, false⟩ : Tr) _).mono ?_; rintro e w9 ⟨⟨tb, td, rfl, hTu9⟩, k9⟩)
    | (refine alloc_blk 36 (frC zFr) (by rfl) rfl Try.frZeroB ?_)
    | (refine store_blk (B := w9.heap.size) (k := 0) 36 (frV (carF (⟨0, t.to, t.frm, t.vid, 0, false⟩ : Tr) tb td)) (frC (carF (⟨0, t.to, t.frm, t.vid, 0, false⟩ : Tr) tb td)) (by rfl) rfl rfl rfl (Blk.new w9 36 (frC zFr)) (by kernel_rfl) (show (21 : Nat) ≤ 21 from Nat.le_refl 21) (by rfl) (st_whole' _ _ rfl) ?_; intro w10 HG10 b10 g10))
  have kA := ((Below.refl w9.heap.size w9).alloc (Nat.le_refl _) (.cells (frC zFr) 36)).trans b10
  have k10 := k9.trans (kA.mono k9.size)
  have HF10 := HF8.kept k10
  have hTg10 := hTg8.kept k10
  have hTu10 := hTu9.kept kA
  have hbr10 := hbr8.kept k10
  have hlo10 := Nat.le_trans hlo8 k10.size
  have B10 := B8.trans (k10.mono B8.size)
  obtain ⟨u, hu⟩ : ∃ u, (⟨0, t.to, t.frm, t.vid, 0, false⟩ : Tr) = u := ⟨_, rfl⟩
  have hu1 : u.frm = t.to := by rw [← hu]
  have hu2 : tagM u = tagM t := by rw [← hu]; rfl
  rw [hu] at HG10 hTu10
  have hk := pickN_lt t.port 5 (by decide)
  have hq := pickN_lt a2 5 (by decide)
  clear HF8 hTg8 hTu9 hbr8 hlo8 B8 k9 b10 g10 kA k10 HT8 c1 c2 c3 hu
  generalize pickN t.port 5 = k at *
  generalize pickN a2 5 = q at *
  generalize w9.heap.size = G at *
  have hd := dst_one hm
  have HEQ : Hid (∀ w, (Op.equalIn 10000 33 (.agg (c6 (adF t.frm))) (.agg (c6 (dstF t)))).run Try.prog w = .ok (decide (six (adF t.frm) = six (dstF t))) w) := fun w => run_eql_addr _ _ (adF_lt _) (dstF_lt t) w
  have HNE : Hid (decide (six (adF t.frm) = six (dstF t)) = false → eqN 6 (adF t.to) (adF t.frm) = false) := fun h => by rw [← hd]; exact six_eqN (of_decide_eq_false h)
  clear hd
  generalize decide (six (adF t.frm) = six (dstF t)) = same at *
  have HV := Lib.hid (vid_rep_any t ta tc k hk w10 hbr10 hmap hTg10)
  cases same with
  | true =>
    clear HNE HV
    go_wp2_with (first
      | (refine load_blk (k := 6) 33 (c6 (adF t.frm)) (by rfl) rfl rfl HF10 (by kernel_rfl) (by kernel_rfl) (by rfl) ?_) | (refine load_blk (k := 0) 33 (c6 (dstF t)) (by rfl) rfl rfl HF10 (by kernel_rfl) (by kernel_rfl) (by rfl) ?_)
      | (refine eq_blk .eql 33 (c6 (adF t.frm)) (c6 (dstF t)) _ (by rfl) rfl (Or.inl rfl) rfl rfl (by kernel_rfl) (HEQ.out _) ?_))
    go_ret
    exact ⟨rfl, B10⟩
  | false =>
    have hne := HNE.out rfl
    by_cases hV : vidP pP (firstT (tagM t)) = 0
    · rw [hV] at HV
      clear hV HNE
      go_wp2_with (first
        | (refine load_blk (k := 6) 33 (c6 (adF t.frm)) (by rfl) rfl rfl HF10 (by kernel_rfl) (by kernel_rfl) (by rfl) ?_) | (refine load_blk (k := 0) 33 (c6 (dstF t)) (by rfl) rfl rfl HF10 (by kernel_rfl) (by kernel_rfl) (by rfl) ?_)
        | (refine eq_blk .eql 33 (c6 (adF t.frm)) (c6 (dstF t)) _ (by rfl) rfl (Or.inl rfl) rfl rfl (by kernel_rfl) (HEQ.out _) ?_)
        | (refine load_blk 36 (frC (carF t ta tc)) (by rfl) rfl rfl HF10 (by kernel_rfl) (by kernel_rfl) (by rfl) ?_)
        | (go_at_call 18; refine HV.out.mono ?_; rintro e w11 ⟨rfl, k11⟩; have HF11 := HF10.kept k11; have HG11 := HG10.kept k11; have hTg11 := hTg10.kept k11; have hTu11 := hTu10.kept k11; have hbr11 := hbr10.kept k11; have hlo11 := Nat.le_trans hlo10 k11.size; have B11 := B10.trans (k11.mono B10.size)))
      go_ret
      exact ⟨rfl, B11⟩
    · obtain ⟨E2, he1, he2⟩ := learns_out hk hq h0 h1 HT6.out HSRV.out.kept.ok.len t u hm hu1 hu2 hV hne
      have HE1 := Lib.hid he1
      have eV : (vidP pP (firstT (tagM t)) == 0) = false := beq_eq_false_iff_ne.2 hV
      clear he1 HNE hV hu1 hu2 hm
      generalize vidP pP (firstT (tagM t)) = V at *
      by_cases hkq : k = q
      · subst hkq
        have ekq : ((k : Int) == (k : Int)) = true := by simp
        have HE2 := Lib.hid (fun ta tc => And.intro (he2 ta tc).1 ((he2 ta tc).2.trans (if_pos rfl)))
        clear he2
        go_upto_region 20 with (first
          | (refine load_blk (k := 6) 33 (c6 (adF t.frm)) (by rfl) rfl rfl HF10 (by kernel_rfl) (by kernel_rfl) (by rfl) ?_) | (refine load_blk (k := 0) 33 (c6 (dstF t)) (by rfl) rfl rfl HF10 (by kernel_rfl) (by kernel_rfl) (by rfl) ?_)
          | (refine eq_blk .eql 33 (c6 (adF t.frm)) (c6 (dstF t)) _ (by rfl) rfl (Or.inl rfl) rfl rfl (by kernel_rfl) (HEQ.out _) ?_)
          | (refine load_blk 36 (frC (carF t ta tc)) (by rfl) rfl rfl HF10 (by kernel_rfl) (by kernel_rfl) (by rfl) ?_)
          | (go_at_call 18; refine HV.out.mono ?_; rintro e w11 ⟨rfl, k11⟩; have HF11 := HF10.kept k11; have HG11 := HG10.kept k11; have hTg11 := hTg10.kept k11; have hTu11 := hTu10.kept k11; have hbr11 := hbr10.kept k11; have hlo11 := Nat.le_trans hlo10 k11.size; have B11 := B10.trans (k11.mono B10.size))
          | (refine load_blk 36 (frC (carF u tb td)) (by rfl) rfl rfl HG11 (by kernel_rfl) (by kernel_rfl) (by rfl) ?_)
          | (go_at_call 17; (with_reducible refine (in_rep u tb td k w11 hbr11 hmap hTu11 hlo11).mono ?_); rintro e w12 ⟨v, ss1, rfl, ho1, -, hbr12, hx12⟩; rw [(HE1.out tb td).1, show errV 0 = .nilIface from rfl]; rw [(HE1.out tb td).2.1, (HE1.out tb td).2.2] at hbr12; obtain ⟨aS, cS, rfl, -⟩ := ho1.inL; have HF12 := hx12.blk HF11 (by decide); have hTg12 := hTg11.keep (w' := w12) (fun g C q => (hx12.blk q (by decide)).trans q.symm); have hlo12 := Nat.le_trans hlo11 hx12.size; have B12 := B11.trans ((hx12.below hlo11).mono hW3))
          | (refine load_blk 36 (frC (carF t ta tc)) (by rfl) rfl rfl HF12 (by kernel_rfl) (by kernel_rfl) (by rfl) ?_)
          | (go_at_call 17; (with_reducible refine (in_rep t ta tc k w12 hbr12 hmap hTg12 hlo12).mono ?_); rintro e w13 ⟨v, ss, rfl, ho, hss, -, hx13⟩; rw [(HE2.out ta tc).1, show errV 0 = .nilIface from rfl]; rw [(HE2.out ta tc).2] at hss; have B13 := B12.trans ((hx13.below hlo12).mono hW3); obtain ⟨aT, cT, rfl, hIT⟩ := ho.inL; obtain rfl := Sents.nil hss))
        go_wp2
        go_ret
        exact ⟨rfl, B13⟩
      · have ekq : ((k : Int) == (q : Int)) = false := by rw [beq_eq_false_iff_ne]; omega
        have HE2 := Lib.hid (fun ta tc => And.intro (he2 ta tc).1 ((he2 ta tc).2.trans (if_neg hkq)))
        clear he2
        have ekn : (k == q) = false := beq_eq_false_iff_ne.2 hkq
        go_upto_region 20 with (first
          | (refine load_blk (k := 6) 33 (c6 (adF t.frm)) (by rfl) rfl rfl HF10 (by kernel_rfl) (by kernel_rfl) (by rfl) ?_) | (refine load_blk (k := 0) 33 (c6 (dstF t)) (by rfl) rfl rfl HF10 (by kernel_rfl) (by kernel_rfl) (by rfl) ?_)
          | (refine eq_blk .eql 33 (c6 (adF t.frm)) (c6 (dstF t)) _ (by rfl) rfl (Or.inl rfl) rfl rfl (by kernel_rfl) (HEQ.out _) ?_)
          | (refine load_blk 36 (frC (carF t ta tc)) (by rfl) rfl rfl HF10 (by kernel_rfl) (by kernel_rfl) (by rfl) ?_)
          | (go_at_call 18; refine HV.out.mono ?_; rintro e w11 ⟨rfl, k11⟩; have HF11 := HF10.kept k11; have HG11 := HG10.kept k11; have hTg11 := hTg10.kept k11; have hTu11 := hTu10.kept k11; have hbr11 := hbr10.kept k11; have hlo11 := Nat.le_trans hlo10 k11.size; have B11 := B10.trans (k11.mono B10.size))
          | (refine load_blk 36 (frC (carF u tb td)) (by rfl) rfl rfl HG11 (by kernel_rfl) (by kernel_rfl) (by rfl) ?_)
          | (go_at_call 17; (with_reducible refine (in_rep u tb td q w11 hbr11 hmap hTu11 hlo11).mono ?_); rintro e w12 ⟨v, ss1, rfl, ho1, -, hbr12, hx12⟩; rw [(HE1.out tb td).1, show errV 0 = .nilIface from rfl]; rw [(HE1.out tb td).2.1, (HE1.out tb td).2.2] at hbr12; obtain ⟨aS, cS, rfl, -⟩ := ho1.inL; have HF12 := hx12.blk HF11 (by decide); have hTg12 := hTg11.keep (w' := w12) (fun g C q => (hx12.blk q (by decide)).trans q.symm); have hlo12 := Nat.le_trans hlo11 hx12.size; have B12 := B11.trans ((hx12.below hlo11).mono hW3))
          | (refine load_blk 36 (frC (carF t ta tc)) (by rfl) rfl rfl HF12 (by kernel_rfl) (by kernel_rfl) (by rfl) ?_)
          | (go_at_call 17; (with_reducible refine (in_rep t ta tc k w12 hbr12 hmap hTg12 hlo12).mono ?_); rintro e w13 ⟨v, ss, rfl, ho, hss, -, hx13⟩; rw [(HE2.out ta tc).1, show errV 0 = .nilIface from rfl]; rw [(HE2.out ta tc).2] at hss; have B13 := B12.trans ((hx13.below hlo12).mono hW3); obtain ⟨aT, cT, rfl, hIT⟩ := ho.inL; obtain ⟨x, rfl, hxp⟩ := Sents.one hss))
        obtain ⟨bb, lo, rfl, hbl2, hat⟩ := SnIn.at hIT (k := 0) (by simp)
        have x0 : w13.cell? ⟨bb, lo, none⟩ = some (.int .i64 (q : Int)) := by
          have := hat 0 (by simp) 0 _ rfl
          rw [show lo + 0 * 22 + 0 = lo by omega] at this
          rw [this]
          exact congrArg some (congrArg (Value.int .i64) hxp)
        clear hat hIT
        go_wp2
        go_ret
        exact ⟨rfl, B13⟩

end Go.Proofs.Ytdceggekhhflgaa.bridgeLearns
