/- switchyardkeep.served. -/
import Derived.Test.YtdceggekhhflgaaKp
import Derived.Test.YtdceggekhhflgaaSrvM
import Derived.Test.YtdceggekhhflgaaBrN
namespace Go.Proofs.Ytdceggekhhflgaa
open Go.RowKit
attribute [local go_sem ↓] Go.wp_at_zero Go.wp_at_succ
set_option linter.unusedSimpArgs false
set_option linter.unusedVariables false
set_option maxRecDepth 100000

theorem TgRow.toK {w : World} {ta : Option Addr} {tl : List Tg} {tc : Nat} (h : TgRow w ta tl tc) (B : Nat) : TagsK w B ta tl := by
  have h0 := h.inL
  rcases h with ⟨h, _⟩ | ⟨t, g, rfl, e2, e3, e4⟩
  · exact Or.inl h
  · rcases h0 with h0 | ⟨b, lo, q1, q2, q3⟩
    · exact Or.inl h0
    · rw [e2] at q1
      cases q1
      exact Or.inr ⟨g, 0, e2, q2, Or.inr ⟨_, e4⟩, q3⟩

/-- New, of ports that may be, and an age of 100. -/
theorem newB_100 (a : Option Addr) (c : Nat) (l : List PsH) (w : World) (h : PsIn w a l) (hok : ∀ x ∈ l, PsOk w x) (hl : l.length ≤ 8) (hr : ∀ x ∈ l, okPs x.x = true) :
    Calls Try.prog 28 #[.slice a l.length c, .int .i64 100] w fun e w' => ∃ b t c ad hs, e = .returned (.tuple #[.pointer (some ⟨b, 0, none⟩), .nilIface]) ∧ hs.map PsH.x = l.map PsH.x ∧ BrgAt w' w.heap.size b t c ad hs 100 0 [] ∧ Below w.heap.size w w' := by
  refine (newB_any a c l 100 w h hok hl).mono ?_
  rintro e w' ⟨hb, ⟨i, hi, h1, _⟩ | ⟨_, h1, _⟩ | ⟨_, _, b, t, c, ad, hs, h1, h2, _, _, h5⟩⟩
  · rw [hr _ (List.getElem_mem hi)] at h1; cases h1
  · omega
  · exact ⟨b, t, c, ad, hs, h1, h2, h5, hb⟩

theorem HMAPlen {l hs : List PsH} (h : hs.map PsH.x = l.map PsH.x) : hs.length = l.length := by
  have := congrArg List.length h
  simpa using this

set_option maxHeartbeats 6400000 in
theorem served_any (a : Option Addr) (c : Nat) (l : List PsH) (at_ : Option Addr) (ct : Nat) (m : List Tr) (w : World) (h : PsIn w a l) (hok : ∀ x ∈ l, PsOk w x) (hl : l.length ≤ 8) (hr : ∀ x ∈ l, okPs x.x = true) (hne : 1 ≤ l.length) (hm : TrIn w at_ m) (hml : m.length ≤ 60) :
    Calls Try.prog 12 #[.slice a l.length c, .slice at_ m.length ct] w fun e w' => (∃ b t c ad hs, e = .returned (.tuple #[.pointer (some ⟨b, 0, none⟩), .int .i64 (srvM (l.map PsH.x) m).2.2]) ∧ hs.map PsH.x = l.map PsH.x ∧ BrgAt w' w.heap.size b t c ad hs 100 (srvM (l.map PsH.x) m).1 (srvM (l.map PsH.x) m).2.1) ∧ Below w.heap.size w w' := by
  have HNW := Lib.hid (newB_100 a c l w h hok hl hr)
  have HNE := Lib.hid hne
  have HN8 : Hid (l.length ≤ 281474976710656) := by show _ ≤ _; omega
  have HLM := Lib.hid hml
  have HL8 := Lib.hid hl
  have HRP : Hid (∀ p ∈ l.map PsH.x, okPs p = true) := fun p hp => by
    obtain ⟨x, hx, rfl⟩ := List.mem_map.1 hp
    exact hr x hx
  have q0 : ((l.length : Int) == 0) = false := by rw [beq_eq_false_iff_ne]; omega
  have q0' : (l.length == 0) = false := by rw [beq_eq_false_iff_ne]; omega
  clear h hok hr hl hml
  go_enter Try.func12, Try.ntmps12
  go_wp2_with (go_at_call 28; refine HNW.out.mono ?_; rintro e w1 ⟨b, t, cc, ad, hs, rfl, hmap, hbr, k1⟩)
  have HMAP := Lib.hid hmap
  clear hmap
  go_loopw [8, 31] (fun s8 s31 wr => ∃ k : Nat, k ≤ m.length ∧ s31 = .int .i64 k ∧ (∃ (lE tE : Int) (E : List Ent), s8 = .int .i64 tE ∧ srvM (l.map PsH.x) (m.take k) = (lE, E, tE) ∧ BrgAt wr w.heap.size b t cc ad hs 100 lE E) ∧ Below w.heap.size w wr) (fun _ i _ => m.length - (intOf i).toNat)
  case atStart => exact ⟨0, by omega, rfl, ⟨0, 0, [], rfl, rfl, hbr⟩, k1⟩
  case round =>
    obtain ⟨k, hk, rfl, ⟨lE, tE, E, rfl, hS, hbr⟩, Bk⟩ := hrel
    by_cases hlt : k < m.length
    · have hI := hm.below Bk
      obtain ⟨bb, lo, rfl, hbl, hat⟩ := hI.at hlt
      have q1 : (k : Int) < (m.length : Int) := by omega
      have q2 : decide ((k : Int) < (m.length : Int)) = true := decide_eq_true q1
      have q3 : (0 : Int) ≤ (k : Int) := by omega
      have q4 : IntKind.i64.wrap ((k : Int) + 1) = (k : Int) + 1 := by have := HLM.out; rw [IntKind.wrap_i64] <;> omega
      have HK := hat k hlt
      have hSk := srvM_ok HRP.out (by rw [List.length_map]; exact HL8.out) (by rw [List.length_map]; exact HNE.out) (m.take k) (by rw [List.length_take]; have := HLM.out; omega)
      have hlk : (m.take k).length ≤ 60 := by rw [List.length_take]; have := HLM.out; omega
      have hX := List.getElem?_eq_getElem hlt
      rw [hS] at hSk
      generalize m[k] = x at *
      have HSN := Lib.hid ((srv_take hX).trans (by rw [hS]))
      have p1 := pickN_lt x.port l.length HNE.out
      have p2 := pickN_lt x.after 20 (by decide)
      have g0 := hSk.last0
      have g1 := hSk.last1
      have g2 := hSk.now
      simp only at g0 g1 g2
      have hw1 : IntKind.i64.wrap (tE + pickN x.after 20) = tE + pickN x.after 20 := by rw [IntKind.wrap_i64] <;> omega
      have HERR : Hid (∀ ta tc, (inM (l.map PsH.x) 100 lE E (pickN x.port l.length : Nat) (carF x ta tc) (tE + pickN x.after 20)).err = 0) := fun ta tc =>
        (in_fine HRP.out (by rw [List.length_map]; exact p1) (by rw [List.length_map]; exact HL8.out) g0 (by omega) (by omega) E x ta tc).1
      have hsw := Bk.size
      have HA4 := Blk.new wr 24 (trC zTr)
      have b4 : Below wr.heap.size wr (wr.alloc (.cells (trC zTr) 24)) := (Below.refl _ _).alloc (Nat.le_refl _) _
      clear hat hI hX hSk hlk hS g0 g1 g2 hbl
      go_upto_region 8 with (first
        | (refine load_cells (B := bb) (k := lo + k * 6) 24 (trC x) (by rfl) rfl rfl HK (by kernel_rfl) (by kernel_rfl) ?_)
        | (refine alloc_blk 24 (trC zTr) (by rfl) rfl Try.trZero ?_)
        | (refine store_blk (k := 0) 24 (.agg (trC x)) (trC x) (by rfl) rfl rfl rfl HA4 (by kernel_rfl) (show (6 : Nat) ≤ 6 from Nat.le_refl 6) (by rfl) (st_whole' _ _ rfl) ?_; intro w5 HN5 b5 g5))
      have b45 : Below wr.heap.size wr w5 := b4.trans b5
      have hbr5 := hbr.kept b45
      have B5 : Below w.heap.size w w5 := Bk.trans (b45.mono hsw)
      clear HA4 b4 b5 g5 HK b45 hbr Bk
      generalize wr.heap.size = N at *
      have n4 := HN5.cv 4 (.int .i64 x.after) rfl
      go_upto_region 9 with (go_at_call 14; refine (pick_val x.after 20 _ (by decide) (by decide)).mono ?_; rintro e w' ⟨rfl, rfl⟩)
      have hd5 : Below w5.heap.size w5 w5.drew := (Below.refl _ _).drew
      refine wp_region_noPanic ?_
      refine wp_region_held_drew (S := (fun w' => Blk w' N 24 (trC x))) (by kernel_rfl) ?_ (fun hHeld => ?_)
      · exact HN5
      refine wpAnyH_take (i := 0) (v := ?_) rfl (by kernel_rfl) (by kernel_rfl) (by kernel_rfl) (fun _ _ _ h => h) (Or.inl ⟨by rfl, ?_⟩) (by assumption) ?_
      rotate_left
      · (intro w hSw; (try dsimp only at hSw); go_simp; (try with_reducible rfl))
      (try simp only [Act.put, List.getElem_toArray, List.getElem_cons_zero, List.getElem_cons_succ, List.setIfInBounds_toArray, List.set_cons_zero, List.set_cons_succ])
      refine wpAnyH_take (i := 1) (v := ?_) rfl (by kernel_rfl) (by kernel_rfl) (by kernel_rfl) (fun _ _ _ h => h) (Or.inl ⟨by rfl, ?_⟩) (by assumption) ?_
      rotate_left
      · (intro w hSw; (try dsimp only at hSw); go_simp; (try with_reducible rfl))
      (try simp only [Act.put, List.getElem_toArray, List.getElem_cons_zero, List.getElem_cons_succ, List.setIfInBounds_toArray, List.set_cons_zero, List.set_cons_succ])
      refine wpAnyH_take (i := 2) (v := .int .i64 x.port) rfl (by kernel_rfl) (by kernel_rfl) (by kernel_rfl) (fun _ _ _ h => h) (Or.inl ⟨by rfl, fun w hSw => by have c := hSw.cv 0 (.int .i64 x.port) rfl; go_simp⟩) (by assumption) ?_
      (try simp only [Act.put, List.getElem_toArray, List.getElem_cons_zero, List.getElem_cons_succ, List.setIfInBounds_toArray, List.set_cons_zero, List.set_cons_succ])
      refine wpAnyH_take (i := 3) (v := ?_) rfl (by kernel_rfl) (by kernel_rfl) (by kernel_rfl) (fun _ _ _ h => h) (Or.inl ⟨by rfl, ?_⟩) (by assumption) ?_
      rotate_left
      · (intro w hSw; (try dsimp only at hSw); go_simp; (try with_reducible rfl))
      (try simp only [Act.put, List.getElem_toArray, List.getElem_cons_zero, List.getElem_cons_succ, List.setIfInBounds_toArray, List.set_cons_zero, List.set_cons_succ])
      refine wpAnyH_take (i := 4) (v := ?_) rfl (by kernel_rfl) (by kernel_rfl) (by kernel_rfl) (fun _ _ _ h => h) (Or.inl ⟨by rfl, ?_⟩) (by assumption) ?_
      rotate_left
      · (intro w hSw; (try dsimp only at hSw); go_simp; (try with_reducible rfl))
      (try simp only [Act.put, List.getElem_toArray, List.getElem_cons_zero, List.getElem_cons_succ, List.setIfInBounds_toArray, List.set_cons_zero, List.set_cons_succ])
      refine wpAnyH_take (i := 6) (v := .agg (trC x)) rfl (by kernel_rfl) (by kernel_rfl) (by kernel_rfl) (fun _ _ _ h => h) (Or.inl ⟨by rfl, fun w hSw => exec_load_blk (k := 0) 24 (trC x) rfl rfl hSw (by kernel_rfl) (by kernel_rfl) rfl⟩) (by assumption) ?_
      (try simp only [Act.put, List.getElem_toArray, List.getElem_cons_zero, List.getElem_cons_succ, List.setIfInBounds_toArray, List.set_cons_zero, List.set_cons_succ])
      refine wpAnyH_take (i := 8) (v := ?_) rfl (by kernel_rfl) (by kernel_rfl) (by kernel_rfl) (fun _ _ _ h => h) (Or.inl ⟨by rfl, ?_⟩) (by assumption) ?_
      rotate_left
      · (intro w hSw; (try dsimp only at hSw); go_simp; (try with_reducible rfl))
      (try simp only [Act.put, List.getElem_toArray, List.getElem_cons_zero, List.getElem_cons_succ, List.setIfInBounds_toArray, List.set_cons_zero, List.set_cons_succ])
      refine wpAnyH_ready (rs := [5]) (by kernel_rfl) (by simp) ?_
      refine AllReadyH.cons rfl (fun K hK => ?_) AllReadyH.nil
      simp only [List.getElem_toArray, List.getElem_cons_zero, List.getElem_cons_succ]
      go_simp
      refine (pick_val x.port l.length _ HNE.out HN8.out).mono ?_
      rintro e w' ⟨rfl, rfl⟩
      refine hK.out _ _ ?_ (fun hHeld => ?_)
      · exact HN5
      clear hK K
      (try simp only [Act.put, List.getElem_toArray, List.getElem_cons_zero, List.getElem_cons_succ, List.setIfInBounds_toArray, List.set_cons_zero, List.set_cons_succ])
      refine wpAnyH_ready (rs := [7]) (by kernel_rfl) (by simp) ?_
      refine AllReadyH.cons rfl (fun K hK => ?_) AllReadyH.nil
      simp only [List.getElem_toArray, List.getElem_cons_zero, List.getElem_cons_succ]
      go_simp
      refine (carried_any x _).mono ?_
      rintro e w6 ⟨⟨ta, tc, rfl, hTg⟩, k6⟩
      have hN6 := (HN5.drew).kept k6
      have hbr6 := (hbr5.kept hd5).kept k6
      have B6 := (B5.trans (hd5.mono B5.size)).trans (k6.mono (Nat.le_trans B5.size hd5.size))
      refine hK.out _ _ ?_ (fun hHeld => ?_)
      · exact hN6
      clear hK K
      (try simp only [Act.put, List.getElem_toArray, List.getElem_cons_zero, List.getElem_cons_succ, List.setIfInBounds_toArray, List.set_cons_zero, List.set_cons_succ])
      refine wpAnyH_ready (rs := [9]) (by kernel_rfl) (by simp) ?_
      refine AllReadyH.cons rfl (fun K hK => ?_) AllReadyH.nil
      simp only [List.getElem_toArray, List.getElem_cons_zero, List.getElem_cons_succ]
      go_simp
      refine (in_any (pickN x.port l.length : Nat) (tE + pickN x.after 20) (carF x ta tc) _ hbr6 ⟨hTg.inL, Nat.le_trans (tagM_short x) (by decide), hTg.cap.1, show (4 : Nat) ≤ 3000 by decide⟩ (hTg.toK _) (dstF_lt x) (adF_lt _) B6.size).mono ?_
      rintro e w7 ⟨v7, ss7, rfl, ho7, hss7, hbr7, hx7⟩
      obtain ⟨a7, c7, rfl, -⟩ := ho7.inL
      rw [HMAP.out] at hbr7 ⊢
      rw [(HERR.out ta tc), show errV 0 = .nilIface from rfl]
      have hN7 := hx7.blk hN6 (by decide)
      have B7 := B6.trans (hx7.below B6.size)
      refine hK.out _ _ ?_ (fun hHeld => ?_)
      · exact hN7
      clear hK K
      (try simp only [Act.put, List.getElem_toArray, List.getElem_cons_zero, List.getElem_cons_succ, List.setIfInBounds_toArray, List.set_cons_zero, List.set_cons_succ])
      refine wpAnyH_take (i := 10) (v := ?_) rfl (by kernel_rfl) (by kernel_rfl) (by kernel_rfl) (fun _ _ _ h => h) (Or.inl ⟨by rfl, ?_⟩) (by assumption) ?_
      rotate_left
      · (intro w hSw; (try dsimp only at hSw); go_simp; (try with_reducible rfl))
      (try simp only [Act.put, List.getElem_toArray, List.getElem_cons_zero, List.getElem_cons_succ, List.setIfInBounds_toArray, List.set_cons_zero, List.set_cons_succ])
      refine wpAnyH_take (i := 11) (v := ?_) rfl (by kernel_rfl) (by kernel_rfl) (by kernel_rfl) (fun _ _ _ h => h) (Or.inl ⟨by rfl, ?_⟩) (by assumption) ?_
      rotate_left
      · (intro w hSw; (try dsimp only at hSw); go_simp; (try with_reducible rfl))
      (try simp only [Act.put, List.getElem_toArray, List.getElem_cons_zero, List.getElem_cons_succ, List.setIfInBounds_toArray, List.set_cons_zero, List.set_cons_succ])
      refine wpAnyH_take (i := 12) (v := ?_) rfl (by kernel_rfl) (by kernel_rfl) (by kernel_rfl) (fun _ _ _ h => h) (Or.inl ⟨by rfl, ?_⟩) (by assumption) ?_
      rotate_left
      · (intro w hSw; (try dsimp only at hSw); go_simp; (try with_reducible rfl))
      (try simp only [Act.put, List.getElem_toArray, List.getElem_cons_zero, List.getElem_cons_succ, List.setIfInBounds_toArray, List.set_cons_zero, List.set_cons_succ])
      refine wpAnyH_take (i := 13) (v := ?_) rfl (by kernel_rfl) (by kernel_rfl) (by kernel_rfl) (fun _ _ _ h => h) (Or.inl ⟨by rfl, ?_⟩) (by assumption) ?_
      rotate_left
      · (intro w hSw; (try dsimp only at hSw); go_simp; (try with_reducible rfl))
      (try simp only [Act.put, List.getElem_toArray, List.getElem_cons_zero, List.getElem_cons_succ, List.setIfInBounds_toArray, List.set_cons_zero, List.set_cons_succ])
      refine wpAnyH_take (i := 14) (v := ?_) rfl (by kernel_rfl) (by kernel_rfl) (by kernel_rfl) (fun _ _ _ h => h) (Or.inl ⟨by rfl, ?_⟩) (by assumption) ?_
      rotate_left
      · (intro w hSw; (try dsimp only at hSw); go_simp; (try with_reducible rfl))
      (try simp only [Act.put, List.getElem_toArray, List.getElem_cons_zero, List.getElem_cons_succ, List.setIfInBounds_toArray, List.set_cons_zero, List.set_cons_succ])
      refine wpAnyH_done (by kernel_rfl) ?_ _
      refine NoPanic.normal ?_
      have HST : Hid (BrgAt w7 w.heap.size b t cc ad hs 100 (srvM (l.map PsH.x) (m.take (k + 1))).1 (srvM (l.map PsH.x) (m.take (k + 1))).2.1) := by
        show BrgAt _ _ _ _ _ _ _ _ _ _
        rw [HSN.out]
        unfold srvStep
        simp only [List.length_map]
        exact hbr7
      have HTM : Hid ((srvM (l.map PsH.x) (m.take (k + 1))).2.2 = tE + pickN x.after 20) := by
        show _ = _
        rw [HSN.out]
        rfl
      clear hbr7 hbr6 hbr5
      go_wp2
      go_roundw
      case rel => exact ⟨k + 1, by omega, by go_num, ⟨_, _, _, by rw [← HTM.out]; rfl, rfl, HST.out⟩, B7⟩
      case measure => simp [intOf]; omega
    · obtain rfl : k = m.length := by omega
      have q2 : decide ((m.length : Int) < (m.length : Int)) = false := decide_eq_false (by omega)
      rw [List.take_length] at hS
      have HS := Lib.hid hS
      clear hS
      go_wp2
      go_ret2
      rw [HS.out]
      exact ⟨⟨_, _, _, _, _, rfl, HMAP.out, hbr⟩, Bk⟩

end Go.Proofs.Ytdceggekhhflgaa
