/- package bridge: New at every list of ports. -/
import Derived.Test.YtdceggekhhflgaaBrJ
import Derived.Test.YtdceggekhhflgaaAnyT
namespace Go.Proofs.Ytdceggekhhflgaa
open Go.RowKit
attribute [local go_sem ↓] Go.wp_at_zero Go.wp_at_succ
set_option linter.unusedSimpArgs false
set_option linter.unusedVariables false
set_option maxRecDepth 100000

theorem OwnPsH.drewP {w : World} {base : Nat} {v : Value} {l : List PsH} (h : OwnPsH w base v l) : OwnPsH w.drew base v l := h

theorem OwnPsH.apartP {w w' : World} {base : Nat} {v : Value} {l : List PsH} (h : OwnPsH w base v l) (hg : w.grownBy w' v.ownBlock) {g : Nat} {T : TypeId} {C : Array Value} (hb : Blk w g T C) (hT : T ≠ 59) : w'.heap[g]? = w.heap[g]? := by
  refine hg.block g hb.lt ?_
  intro e
  rcases h.blk with h1 | ⟨g1, C1, e1, _, h1⟩
  · rw [h1] at e; cases e
  · rw [e1] at e
    cases e
    exact hT (blk_type hb h1)

theorem OwnPsH.full {w : World} {base : Nat} {v : Value} {l : List PsH} (h : OwnPsH w base v l) : ∃ ad c, v = .slice ad l.length c ∧ l.length ≤ c ∧ c ≤ maxLen ∧ (l = [] ∨ ∃ g cur, ad = some ⟨g, 0, none⟩ ∧ base ≤ g ∧ Blk w g 59 cur ∧ PsAt w g 0 l) := by
  rcases h with ⟨rfl, rfl⟩ | ⟨h1, g, cap, rfl, h2⟩
  · exact ⟨none, 0, rfl, Nat.le_refl _, Nat.zero_le _, Or.inl rfl⟩
  · rcases h2.2 with ⟨e, h3⟩ | ⟨g', cap', cur, e1, e2, e3, e4, e5, e6⟩
    · cases e
    · cases e1
      exact ⟨_, _, rfl, e4, e5, Or.inr ⟨g, cur, rfl, e2, e3, ps_own rfl h2⟩⟩

theorem newB_long (a : Option Addr) (c : Nat) (l : List PsH) (age : Int) (w : World) (h : 8 < l.length) (hl : l.length ≤ maxLen) :
    Calls Try.prog 28 #[.slice a l.length c, .int .i64 age] w fun e w' => e = .returned (.tuple #[.pointer none, .iface 71 (.int .i64 4)]) ∧ w = w' := by
  have d1 : decide ((8 : Int) < (l.length : Int)) = true := decide_eq_true (by omega)
  go_enter Try.func28, Try.ntmps28
  go_wp2
  go_ret2
  exact ⟨rfl, rfl⟩

/-- What New answers. -/
def NewPost (l : List PsH) (age : Int) (w : World) (e : Ending) (w' : World) : Prop :=
  Below w.heap.size w w' ∧
  ((∃ i, ∃ hi : i < l.length, okPs l[i].x = false ∧ (∀ x ∈ l.take i, okPs x.x = true) ∧ ∃ q, e = .returned (.tuple #[.pointer none, .iface 86 (.pointer (some ⟨q, 0, none⟩))]) ∧ Blk w' q 88 #[.int .i64 1, .int .i64 (i : Nat)])
  ∨ ((∀ x ∈ l, okPs x.x = true) ∧ (age < 1 ∨ 300 < age) ∧ e = .returned (.tuple #[.pointer none, .iface 71 (.int .i64 2)]))
  ∨ ((∀ x ∈ l, okPs x.x = true) ∧ (1 ≤ age ∧ age ≤ 300) ∧ ∃ b t c ad hs, e = .returned (.tuple #[.pointer (some ⟨b, 0, none⟩), .nilIface]) ∧ hs.map PsH.x = l.map PsH.x ∧ w.heap.size ≤ b ∧ b < w'.heap.size ∧ BrgAt w' w.heap.size b t c ad hs age 0 []))

theorem okPs_short {p : Ps} (h : okPs p = true) : p.inn.length ≤ 64 ∧ p.bare.length ≤ 64 := by
  unfold okPs listB at h
  simp only [Bool.and_eq_true, decide_eq_true_eq] at h
  exact ⟨h.2.2.1.1, h.2.2.2.1.1⟩

set_option maxHeartbeats 6400000 in
theorem newB_any (a : Option Addr) (c : Nat) (l : List PsH) (age : Int) (w : World) (h : PsIn w a l) (hok : ∀ x ∈ l, PsOk w x) (hl : l.length ≤ 8) :
    Calls Try.prog 28 #[.slice a l.length c, .int .i64 age] w fun e w' => NewPost l age w e w' := by
  have d1 : decide ((8 : Int) < (l.length : Int)) = false := decide_eq_false (by omega)
  have HL := Lib.hid hl
  have HOK := Lib.hid hok
  have B0 : Below w.heap.size w (w.alloc (.cells #[.slice none 0 0, .pointer none] 74)) := (Below.refl _ _).alloc (Nat.le_refl _) _
  have HB0 := Blk.new w 74 #[.slice none 0 0, .pointer none]
  clear hok hl
  go_enter Try.func28, Try.ntmps28
  go_wp2_with fail
  go_loopw [19] (fun s19 wr => ∃ k : Nat, k ≤ l.length ∧ s19 = .int .i64 k ∧ (∀ x ∈ l.take k, okPs x.x = true) ∧ Below w.heap.size w wr ∧ ∃ v L, Blk wr w.heap.size 74 #[v, .pointer none] ∧ OwnPsH wr w.heap.size v L ∧ L.map PsH.x = (l.take k).map PsH.x ∧ (∀ h ∈ L, PsKp wr w.heap.size h)) (fun i _ => l.length - (intOf i).toNat)
  case atStart => exact ⟨0, by omega, rfl, by simp, B0, _, [], HB0, OwnPsH.nil _ _, rfl, by simp⟩
  case round =>
    obtain ⟨k, hk, rfl, hall, Bk, v, L, HB, HO, HL2, HP⟩ := hrel
    by_cases hlt : k < l.length
    · obtain ⟨a0, c0, rfl, -⟩ := HO.inL
      have hI := h.below Bk
      obtain ⟨b, lo, rfl, hbl, hat⟩ := hI.at hlt
      have q1 : (k : Int) < (l.length : Int) := by omega
      have q2 : decide ((k : Int) < (l.length : Int)) = true := decide_eq_true q1
      have q3 : (0 : Int) ≤ (k : Int) := by omega
      have q4 : IntKind.i64.wrap ((k : Int) + 1) = (k : Int) + 1 := by have := HL.out; rw [IntKind.wrap_i64] <;> omega
      have HK := hat k hlt
      have hkx := (HOK.out _ (List.getElem_mem hlt)).below Bk
      have hsn := Lib.hid (show l.take (k + 1) = l.take k ++ [l[k]] by rw [List.take_add_one, List.getElem?_eq_getElem hlt]; rfl)
      have HBAD : Hid (okPs l[k].x = false → ∀ q w', Blk w' q 88 #[.int .i64 1, .int .i64 (k : Int)] → Below w.heap.size w w' → NewPost l age w (.returned (.tuple #[.pointer none, .iface 86 (.pointer (some ⟨q, 0, none⟩))])) w') := fun q0 q w' hq hb => ⟨hb, Or.inl ⟨k, hlt, q0, hall, q, rfl, hq⟩⟩
      generalize l[k] = x at *
      have HQ := Blk.new wr 59 (psC zPsH)
      have bQ : Below wr.heap.size wr (wr.alloc (.cells (psC zPsH) 59)) := (Below.refl _ _).alloc (Nat.le_refl _) _
      clear hat hI h hbl
      go_upto_region 7 with (first
        | (refine load_cells (B := b) (k := lo + k * 4) 59 (psC x) (by rfl) rfl rfl HK (by kernel_rfl) (by kernel_rfl) ?_)
        | (refine alloc_blk 59 (psC zPsH) (by rfl) rfl Try.psZero ?_)
        | (refine store_blk (B := wr.heap.size) (k := 0) 59 (.agg (psC x)) (psC x) (by rfl) rfl rfl rfl HQ (by kernel_rfl) (show (4 : Nat) ≤ 4 from Nat.le_refl 4) (by rfl) (st_whole' _ _ rfl) ?_; intro w0 HQ0 b0 g0))
      have k0 := bQ.trans b0
      have hk0 := hkx.below k0
      clear bQ b0 g0 HK hkx HQ B0 HB0
      have hown : ∀ g, (Value.slice a0 L.length c0).ownBlock = some g → g < wr.heap.size := fun g e => by
        rcases HO.blk with h1 | ⟨g1, C1, e1, _, h1⟩
        · rw [h1] at e; cases e
        · rw [e1] at e; cases e; exact h1.lt
      have s0 := k0.size
      have sB := Bk.size
      generalize hQe : wr.heap.size = Q at *
      have HRI := Lib.hid (psRight_any x w0 hk0)
      cases hb : okPs x.x with
      | false =>
        rw [hb] at HRI
        have HBD := Lib.hid (HBAD.out hb)
        clear HBAD hb
        go_upto_region 8 with (first
          | (refine load_blk 59 (psC x) (by rfl) rfl rfl HQ0 (by kernel_rfl) (by kernel_rfl) (by rfl) ?_)
          | (go_at_call 30; refine HRI.out.mono ?_; rintro e w1 ⟨rfl, k1⟩))
        have HA := Blk.new w1 88 #[.int .i64 1, .int .i64 (k : Int)]
        have Bk1 := Bk.trans (k0.mono sB)
        have B2 := (Bk1.trans (k1.mono Bk1.size)).alloc (Bk1.trans (k1.mono Bk1.size)).size (.cells #[.int .i64 1, .int .i64 (k : Int)] 88)
        go_wp2
        go_ret2
        exact HBD.out _ _ HA B2
      | true =>
        rw [hb] at HRI
        have hsh := okPs_short hb
        have HI90 : Hid (x.x.inn.length ≤ 90000) := Nat.le_trans hsh.1 (by decide)
        have HB90 : Hid (x.x.bare.length ≤ 90000) := Nat.le_trans hsh.2 (by decide)
        have HTR := Lib.hid hb
        clear HBAD hb hsh
        go_upto_region 9 with (first
          | (refine load_blk 59 (psC x) (by rfl) rfl rfl HQ0 (by kernel_rfl) (by kernel_rfl) (by rfl) ?_)
          | (go_at_call 30; refine HRI.out.mono ?_; rintro e w1 ⟨rfl, k1⟩))
        have HQ1 := (HQ0.kept k1).drew
        have hk1 := (hk0.below k1).below (Below.refl w1.heap.size w1).drew
        have k01 := (k0.trans (k1.mono s0)).drew
        have s1 : Q ≤ w1.drew.heap.size := Nat.le_trans s0 k1.size
        clear HRI HQ0 hk0 k0 k1
        refine wp_region_noPanic ?_
        refine wp_region_T (fun w' => Blk w' Q 59 (psC x)) (fun w' => True) (fun j => j == 7 || j == 9) (by kernel_rfl) (⟨HQ1, trivial⟩) (fun hHeld => ?_)
        refine wpAnyT_takeT (i := 0) (v := ?_) rfl (by kernel_rfl) (by kernel_rfl) (by kernel_rfl) (by rfl) (fun _ _ _ h => h) (Or.inl ⟨by rfl, ?_⟩) (by assumption) ?_
        rotate_left
        · intro w hSw; clear hSw; go_simp; (try with_reducible rfl)
        (try simp only [Act.put, List.getElem_toArray, List.getElem_cons_zero, List.getElem_cons_succ, List.setIfInBounds_toArray, List.set_cons_zero, List.set_cons_succ])
        refine wpAnyT_take (i := 1) (v := (.slice x.ia x.x.inn.length x.ic)) rfl (by kernel_rfl) (by kernel_rfl) (by kernel_rfl) (by rfl) (by kernel_rfl) (fun _ _ _ h => h) (Or.inl ⟨by rfl, fun w hSw => by have c := hSw.cv 1 (.slice x.ia x.x.inn.length x.ic) rfl; go_simp⟩) (by assumption) ?_
        (try simp only [Act.put, List.getElem_toArray, List.getElem_cons_zero, List.getElem_cons_succ, List.setIfInBounds_toArray, List.set_cons_zero, List.set_cons_succ])
        refine wpAnyT_takeT (i := 3) (v := ?_) rfl (by kernel_rfl) (by kernel_rfl) (by kernel_rfl) (by rfl) (fun _ _ _ h => h) (Or.inl ⟨by rfl, ?_⟩) (by assumption) ?_
        rotate_left
        · intro w hSw; clear hSw; go_simp; (try with_reducible rfl)
        (try simp only [Act.put, List.getElem_toArray, List.getElem_cons_zero, List.getElem_cons_succ, List.setIfInBounds_toArray, List.set_cons_zero, List.set_cons_succ])
        refine wpAnyT_take (i := 4) (v := (.slice x.ba x.x.bare.length x.bc)) rfl (by kernel_rfl) (by kernel_rfl) (by kernel_rfl) (by rfl) (by kernel_rfl) (fun _ _ _ h => h) (Or.inl ⟨by rfl, fun w hSw => by have c := hSw.cv 2 (.slice x.ba x.x.bare.length x.bc) rfl; go_simp⟩) (by assumption) ?_
        (try simp only [Act.put, List.getElem_toArray, List.getElem_cons_zero, List.getElem_cons_succ, List.setIfInBounds_toArray, List.set_cons_zero, List.set_cons_succ])
        refine wpAnyT_one (r := 2) (by kernel_rfl) rfl (by rfl) (by rfl) (fun K hK => ?_)
        (try simp only [List.getElem_toArray, List.getElem_cons_zero, List.getElem_cons_succ])
        go_simp
        refine (cloneIv_any x.ia x.ic x.x.inn _ (hk1.i) HI90.out).mono ?_
        rintro e w2 ⟨⟨v2, rfl, hv2⟩, k2⟩
        obtain ⟨a2, c2, rfl, l2, m2, i2⟩ := hv2.toB
        have HQ2 := HQ1.kept k2
        have hk2 := hk1.below k2
        refine hK _ _ ?_ (fun hHeld => ?_)
        · exact ⟨HQ2, trivial⟩
        clear hK K
        (try simp only [Act.put, List.getElem_toArray, List.getElem_cons_zero, List.getElem_cons_succ, List.setIfInBounds_toArray, List.set_cons_zero, List.set_cons_succ])
        refine wpAnyT_takeT (i := 6) (v := ?_) rfl (by kernel_rfl) (by kernel_rfl) (by kernel_rfl) (by rfl) (fun _ _ _ h => h) (Or.inl ⟨by rfl, ?_⟩) (by assumption) ?_
        rotate_left
        · intro w hSw; clear hSw; go_simp; (try with_reducible rfl)
        (try simp only [Act.put, List.getElem_toArray, List.getElem_cons_zero, List.getElem_cons_succ, List.setIfInBounds_toArray, List.set_cons_zero, List.set_cons_succ])
        refine wpAnyT_one (r := 5) (by kernel_rfl) rfl (by rfl) (by rfl) (fun K hK => ?_)
        (try simp only [List.getElem_toArray, List.getElem_cons_zero, List.getElem_cons_succ])
        go_simp
        refine (cloneIv_any x.ba x.bc x.x.bare _ (hk2.b) HB90.out).mono ?_
        rintro e w3 ⟨⟨v3, rfl, hv3⟩, k3⟩
        obtain ⟨a3, c3, rfl, l3, m3, i3⟩ := hv3.toB
        have HQ3 := HQ2.kept k3
        have hk3 := hk2.below k3
        refine hK _ _ ?_ (fun hHeld => ?_)
        · exact ⟨HQ3, trivial⟩
        clear hK K
        (try simp only [Act.put, List.getElem_toArray, List.getElem_cons_zero, List.getElem_cons_succ, List.setIfInBounds_toArray, List.set_cons_zero, List.set_cons_succ])
        refine wpAnyT_last (r := 7) (by kernel_rfl) rfl (by rfl) (by rfl) (fun K hK => ?_)
        (try simp only [List.getElem_toArray, List.getElem_cons_zero, List.getElem_cons_succ])
        refine wp_store_op (B := Q) (k := 1) 57 (.slice a2 x.x.inn.length c2) (psC ⟨x.x, a2, c2, x.ba, x.bc⟩) (by rfl) rfl rfl HQ3 (by kernel_rfl) (show (2 : Nat) ≤ 4 by decide) (by rfl) rfl (fun w4 HQ4 b4 g4 => ?_)
        refine hK _ _ ?_ (fun hHeld => ?_)
        · exact trivial
        clear hK K
        (try simp only [Act.put, List.getElem_toArray, List.getElem_cons_zero, List.getElem_cons_succ, List.setIfInBounds_toArray, List.set_cons_zero, List.set_cons_succ])
        refine wpAnyH_take (i := 8) (v := ?_) rfl (by kernel_rfl) (by kernel_rfl) (by kernel_rfl) (fun _ _ _ h => h) (Or.inl ⟨by rfl, ?_⟩) (by assumption) ?_
        rotate_left
        · (intro w hSw; clear hSw; go_simp; (try with_reducible rfl))
        (try simp only [Act.put, List.getElem_toArray, List.getElem_cons_zero, List.getElem_cons_succ, List.setIfInBounds_toArray, List.set_cons_zero, List.set_cons_succ])
        refine wpAnyH_ready (rs := [9]) (by kernel_rfl) (by simp) ?_
        refine AllReadyH.cons rfl (fun K hK => ?_) AllReadyH.nil
        simp only [List.getElem_toArray, List.getElem_cons_zero, List.getElem_cons_succ]
        rw [if_pos (by rfl)]
        refine wp_store_op (B := Q) (k := 2) 57 (.slice a3 x.x.bare.length c3) (psC ⟨x.x, a2, c2, a3, c3⟩) (by rfl) rfl rfl HQ4 (by kernel_rfl) (show (3 : Nat) ≤ 4 by decide) (by rfl) rfl (fun w5 HQ5 b5 g5 => ?_)
        refine hK.out _ _ ?_ (fun hHeld => ?_)
        · exact trivial
        clear hK K
        (try simp only [Act.put, List.getElem_toArray, List.getElem_cons_zero, List.getElem_cons_succ, List.setIfInBounds_toArray, List.set_cons_zero, List.set_cons_succ])
        refine wpAnyH_done (by kernel_rfl) ?_ _
        refine NoPanic.normal ?_
        have k03 := (k01.trans (k2.mono s1)).trans (k3.mono (Nat.le_trans s1 k2.size))
        have k05 := (k03.trans b4).trans b5
        have HB5 := HB.kept (show Below wr.heap.size wr w5 by rw [hQe]; exact k05)
        have HO5 := HO.kept (show Below wr.heap.size wr w5 by rw [hQe]; exact k05)
        have HP5 := fun h q => (HP h q).keep (w' := w5) fun g C r _ => k05.block g (by rw [← hQe]; exact r.lt)
        have Bk5 := Bk.trans (k05.mono sB)
        have ib : ∀ (g : Nat) (C : Array Value), Blk w3 g 3 C → Blk w5 g 3 C := fun g C r => (r.grown g4 (by intro e; cases e; exact absurd (blk_type r HQ3) (by decide))).grown g5 (by intro e; cases e; exact absurd (blk_type (r.grown g4 (by intro e; cases e; exact absurd (blk_type r HQ3) (by decide))) HQ4) (by decide))
        have HY5 : PsKp w5 w.heap.size (⟨x.x, a2, c2, a3, c3⟩ : PsH) := ⟨(i2.mono (Nat.le_trans sB s1)).keep fun g C r _ => (ib g C (r.kept k3)).trans r.symm, (i3.mono (Nat.le_trans sB (Nat.le_trans s1 k2.size))).keep fun g C r _ => (ib g C r).trans r.symm, l2, l3, m2, m3⟩
        have hLs : L.length ≤ 100000 := by
          have e1 := congrArg List.length HL2
          rw [List.length_map, List.length_map, List.length_take] at e1
          have := HL.out
          omega
        clear HB HO HP k01 k03 k05 ib i2 i3 b4 g4 b5 g5 HQ1 HQ2 HQ3 HQ4 hk1 hk2 hk3 k2 k3
        go_upto_region 10 with fail
        refine wp_region_noPanic ?_
        refine wp_region_T (fun w' => Blk w' w.heap.size 74 #[.slice a0 L.length c0, .pointer none]) (fun w' => Blk w' Q 59 (psC (⟨x.x, a2, c2, a3, c3⟩ : PsH))) (fun j => j == 7) (by kernel_rfl) (⟨HB5.drew, HQ5.drew⟩) (fun hHeld => ?_)
        refine wpAnyT_takeT (i := 0) (v := ?_) rfl (by kernel_rfl) (by kernel_rfl) (by kernel_rfl) (by rfl) (fun _ _ _ h => h) (Or.inl ⟨by rfl, ?_⟩) (by assumption) ?_
        rotate_left
        · intro w hSw; clear hSw; go_simp; (try with_reducible rfl)
        (try simp only [Act.put, List.getElem_toArray, List.getElem_cons_zero, List.getElem_cons_succ, List.setIfInBounds_toArray, List.set_cons_zero, List.set_cons_succ])
        refine wpAnyT_takeT (i := 1) (v := ?_) rfl (by kernel_rfl) (by kernel_rfl) (by kernel_rfl) (by rfl) (fun _ _ _ h => h) (Or.inl ⟨by rfl, ?_⟩) (by assumption) ?_
        rotate_left
        · intro w hSw; clear hSw; go_simp; (try with_reducible rfl)
        (try simp only [Act.put, List.getElem_toArray, List.getElem_cons_zero, List.getElem_cons_succ, List.setIfInBounds_toArray, List.set_cons_zero, List.set_cons_succ])
        refine wpAnyT_takeT (i := 2) (v := ?_) rfl (by kernel_rfl) (by kernel_rfl) (by kernel_rfl) (by rfl) (fun _ _ _ h => h) (Or.inl ⟨by rfl, ?_⟩) (by assumption) ?_
        rotate_left
        · intro w hSw; clear hSw; go_simp; (try with_reducible rfl)
        (try simp only [Act.put, List.getElem_toArray, List.getElem_cons_zero, List.getElem_cons_succ, List.setIfInBounds_toArray, List.set_cons_zero, List.set_cons_succ])
        refine wpAnyT_takeT (i := 3) (v := ?_) rfl (by kernel_rfl) (by kernel_rfl) (by kernel_rfl) (by rfl) (fun _ _ _ h => h) (Or.inl ⟨by rfl, ?_⟩) (by assumption) ?_
        rotate_left
        · intro w hSw; clear hSw; go_simp; (try with_reducible rfl)
        (try simp only [Act.put, List.getElem_toArray, List.getElem_cons_zero, List.getElem_cons_succ, List.setIfInBounds_toArray, List.set_cons_zero, List.set_cons_succ])
        refine wpAnyT_take (i := 4) (v := (.slice a0 L.length c0)) rfl (by kernel_rfl) (by kernel_rfl) (by kernel_rfl) (by rfl) (by kernel_rfl) (fun _ _ _ h => h) (Or.inl ⟨by rfl, fun w hSw => by have c := hSw.cv 0 (.slice a0 L.length c0) rfl; go_simp⟩) (by assumption) ?_
        (try simp only [Act.put, List.getElem_toArray, List.getElem_cons_zero, List.getElem_cons_succ, List.setIfInBounds_toArray, List.set_cons_zero, List.set_cons_succ])
        refine wpAnyT_takeT (i := 5) (v := (.agg (psC (⟨x.x, a2, c2, a3, c3⟩ : PsH)))) rfl (by kernel_rfl) (by kernel_rfl) (by kernel_rfl) (by rfl) (fun _ _ _ h => h) (Or.inl ⟨by rfl, fun w hSw => exec_load_blk (k := 0) 59 (psC (⟨x.x, a2, c2, a3, c3⟩ : PsH)) rfl rfl hSw (by kernel_rfl) (by kernel_rfl) rfl⟩) (by assumption) ?_
        (try simp only [Act.put, List.getElem_toArray, List.getElem_cons_zero, List.getElem_cons_succ, List.setIfInBounds_toArray, List.set_cons_zero, List.set_cons_succ])
        refine wpAnyT_one (r := 6) (by kernel_rfl) rfl (by rfl) (by rfl) (fun K hK => ?_)
        (try simp only [List.getElem_toArray, List.getElem_cons_zero, List.getElem_cons_succ])
        refine slice_ps (⟨x.x, a2, c2, a3, c3⟩ : PsH) rfl rfl (fun w6 HG6 k6 s6 => ?_)
        have HB6 := HB5.drew.kept k6
        have HQ6 := HQ5.drew.kept k6
        have HO6 := HO5.drewP.kept k6
        have HP6 := fun h q => (HP5 h q).keep (w' := w6) fun g C r _ => k6.block g r.lt
        have HY6 := HY5.keep (w' := w6) fun g C r _ => k6.block g r.lt
        have Bk6 := Bk5.drew.trans (k6.mono Bk5.size)
        refine hK _ _ ?_ (fun hHeld => ?_)
        · exact ⟨HB6, HQ6⟩
        clear hK K
        (try simp only [Act.put, List.getElem_toArray, List.getElem_cons_zero, List.getElem_cons_succ, List.setIfInBounds_toArray, List.set_cons_zero, List.set_cons_succ])
        refine wpAnyT_last (r := 7) (by kernel_rfl) rfl (by rfl) (by rfl) (fun K hK => ?_)
        (try simp only [List.getElem_toArray, List.getElem_cons_zero, List.getElem_cons_succ])
        refine append_ps (⟨x.x, a2, c2, a3, c3⟩ : PsH) rfl rfl rfl HO6 HG6 hLs Bk6.size (fun v7 w7 HO7 b7 g7 => ?_)
        have ap := fun (g : Nat) (T : TypeId) (C : Array Value) (r : Blk w6 g T C) (hT : T ≠ 59) => HO6.apartP g7 r hT
        have HB7 : Blk w7 w.heap.size 74 #[.slice a0 L.length c0, .pointer none] := (ap _ _ _ HB6 (by decide)).trans HB6
        have HP7 := fun h q => (HP6 h q).keep (w' := w7) fun g C r _ => ap g _ C r (by decide)
        have HY7 := HY6.keep (w' := w7) fun g C r _ => ap g _ C r (by decide)
        have Bk7 := Bk6.trans b7
        have HQ7 := HQ6.grown g7 (by intro e; exact absurd (hown _ e.symm) (Nat.lt_irrefl _))
        obtain ⟨a7, c7, rfl, -⟩ := HO7.inL
        refine hK _ _ ?_ (fun hHeld => ?_)
        · exact HQ7
        clear hK K
        (try simp only [Act.put, List.getElem_toArray, List.getElem_cons_zero, List.getElem_cons_succ, List.setIfInBounds_toArray, List.set_cons_zero, List.set_cons_succ])
        refine wpAnyH_take (i := 8) (v := ?_) rfl (by kernel_rfl) (by kernel_rfl) (by kernel_rfl) (fun _ _ _ h => h) (Or.inl ⟨by rfl, ?_⟩) (by assumption) ?_
        rotate_left
        · (intro w hSw; clear hSw; go_simp; (try with_reducible rfl))
        (try simp only [Act.put, List.getElem_toArray, List.getElem_cons_zero, List.getElem_cons_succ, List.setIfInBounds_toArray, List.set_cons_zero, List.set_cons_succ])
        refine wpAnyH_take (i := 9) (v := ?_) rfl (by kernel_rfl) (by kernel_rfl) (by kernel_rfl) (fun _ _ _ h => h) (Or.inl ⟨by rfl, ?_⟩) (by assumption) ?_
        rotate_left
        · (intro w hSw; clear hSw; go_simp; (try with_reducible rfl))
        (try simp only [Act.put, List.getElem_toArray, List.getElem_cons_zero, List.getElem_cons_succ, List.setIfInBounds_toArray, List.set_cons_zero, List.set_cons_succ])
        refine wpAnyH_ready (rs := [10]) (by kernel_rfl) (by simp) ?_
        refine AllReadyH.cons rfl (fun K hK => ?_) AllReadyH.nil
        simp only [List.getElem_toArray, List.getElem_cons_zero, List.getElem_cons_succ]
        rw [if_pos (by rfl)]
        refine wp_store_op (B := w.heap.size) (k := 0) 29 (.slice a7 (L ++ [(⟨x.x, a2, c2, a3, c3⟩ : PsH)]).length c7) #[.slice a7 (L ++ [(⟨x.x, a2, c2, a3, c3⟩ : PsH)]).length c7, .pointer none] (by rfl) rfl rfl HB7 (by kernel_rfl) (show (1 : Nat) ≤ 2 by decide) (by rfl) rfl (fun w8 HB8 b8 g8 => ?_)
        have HO8 := HO7.other HB7 (by decide) g8
        have kp := fun (g : Nat) (C : Array Value) (r : Blk w7 g 3 C) => g8.block g r.lt (by intro e; cases e; exact absurd (blk_type r HB7) (by decide))
        have HP8 := fun h q => (HP7 h q).keep (w' := w8) fun g C r _ => kp g C r
        have HY8 := HY7.keep (w' := w8) fun g C r _ => kp g C r
        have Bk8 := Bk7.trans b8
        have HQ8 := HQ7.grown g8 (by intro e; cases e; exact absurd (blk_type HQ7 HB7) (by decide))
        refine hK.out _ _ ?_ (fun hHeld => ?_)
        · exact HQ8
        clear hK K
        (try simp only [Act.put, List.getElem_toArray, List.getElem_cons_zero, List.getElem_cons_succ, List.setIfInBounds_toArray, List.set_cons_zero, List.set_cons_succ])
        refine wpAnyH_done (by kernel_rfl) ?_ _
        refine NoPanic.normal ?_
        have HMAP : Hid ((L ++ [(⟨x.x, a2, c2, a3, c3⟩ : PsH)]).map PsH.x = (l.take (k + 1)).map PsH.x) := by
          show _ = _
          rw [hsn.out, List.map_append, List.map_append, HL2]
          rfl
        have HALL : Hid (∀ y ∈ l.take (k + 1), okPs y.x = true) := fun y hy => by
          rw [hsn.out] at hy
          rcases List.mem_append.1 hy with q | q
          · exact hall y q
          · rw [List.mem_singleton.1 q]; exact HTR.out
        go_wp2
        go_roundw
        case rel => exact ⟨k + 1, by omega, by go_num, HALL.out, Bk8, _, _, HB8, HO8, HMAP.out, fun y hy => by
          rcases List.mem_append.1 hy with q | q
          · exact HP8 y q
          · rw [List.mem_singleton.1 q]; exact HY8⟩
        case measure => simp [intOf]; omega
    · obtain rfl : k = l.length := by omega
      have q2 : decide ((l.length : Int) < (l.length : Int)) = false := decide_eq_false (by omega)
      rw [List.take_length] at hall HL2
      obtain ⟨ad, cc, rfl, hlc, hcm, hrow⟩ := HO.full
      have HALL := Lib.hid hall
      clear hall
      by_cases hage : 1 ≤ age ∧ age ≤ 300
      · have HN := Lib.hid (new_ok age wr hage.1 hage.2)
        have HAGE := Lib.hid hage
        clear hage
        go_wp2_with (first
          | (go_at_call 50; refine HN.out.mono ?_; rintro e w1 ⟨rfl, hT1, k1, hs1⟩; have HB1 := HB.kept k1)
          | (refine store_blk (B := w.heap.size) (k := 1) 72 (.pointer (some ⟨wr.heap.size, 0, none⟩)) #[.slice ad L.length cc, .pointer (some ⟨wr.heap.size, 0, none⟩)] (by rfl) rfl rfl rfl HB1 (by kernel_rfl) (show (2 : Nat) ≤ 2 from Nat.le_refl 2) (by rfl) rfl ?_; intro w2 HB2 b2 g2))
        go_ret2
        have kp : ∀ (g : Nat) (T : TypeId) (C : Array Value), Blk w1 g T C → T ≠ 74 → w2.heap[g]? = w1.heap[g]? := fun g T C r hT => g2.block g r.lt (by intro e; cases e; exact hT (blk_type r HB1))
        obtain ⟨vt, hbt, hrt⟩ := hT1.row
        refine ⟨(Bk.trans (k1.mono Bk.size)).trans b2, Or.inr (Or.inr ⟨HALL.out, HAGE.out, w.heap.size, wr.heap.size, cc, ad, L, rfl, HL2, Nat.le_refl _, HB2.lt, HB2, ?_, fun y hy => ((HP y hy).keep fun g C r _ => k1.block g r.lt).keep fun g C r _ => kp g _ C r (by decide),
          ⟨⟨vt, (kp _ _ _ hbt (by decide)).trans hbt, (hrt.mono Bk.size).keep fun g C r _ => kp g _ C r (by decide)⟩, ⟨Bk.size, fun q => q⟩, hT1.ok, hT1.a0, hT1.a1, hT1.l0, hT1.l1⟩, Nat.le_refl _, ?_, hlc, hcm, fun y hy => ?_⟩)⟩
        · rcases hrow with q | ⟨g, cur, e1, e2, e3, e4⟩
          · exact Or.inl q
          · have e3' := e3.kept k1
            exact Or.inr ⟨g, cur, e1, e2, (kp _ _ _ e3' (by decide)).trans e3', (e4.blk (k1.block g e3.lt)).blk (kp _ _ _ e3' (by decide))⟩
        · have e1 := congrArg List.length HL2
          rw [List.length_map, List.length_map] at e1
          rw [e1]; exact HL.out
        · have hm : y.x ∈ L.map PsH.x := List.mem_map.2 ⟨y, hy, rfl⟩
          rw [HL2] at hm
          obtain ⟨z, hz, ez⟩ := List.mem_map.1 hm
          rw [← ez]
          exact HALL.out z hz
      · have HN := Lib.hid (new_bad age wr (by omega))
        have HAGE : Hid (age < 1 ∨ 300 < age) := by show _ ∨ _; omega
        clear hage
        go_wp2_with (go_at_call 50; refine HN.out.mono ?_; rintro e w1 ⟨rfl, rfl⟩)
        go_ret2
        exact ⟨Bk, Or.inr (Or.inl ⟨HALL.out, HAGE.out, rfl⟩)⟩

end Go.Proofs.Ytdceggekhhflgaa
