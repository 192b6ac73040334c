/- switchyardlaw.BridgeRights: which ports may be set so, and which bridges may be, the program and the reference say alike. -/
import Derived.Test.YtdceggekhhflgaaDoorRefNew
import Derived.Test.YtdceggekhhflgaaDoorBrNd
import Derived.Test.YtdceggekhhflgaaDoorPlaced
namespace Go.Proofs.YtdceggekhhflgaaDoor
open Go.RowKit
attribute [local go_sem ↓] Go.wp_at_zero Go.wp_at_succ
set_option linter.unusedSimpArgs false
set_option linter.unusedVariables false
set_option maxRecDepth 100000

theorem placed_errno (x : Int) (w : World) (hE : HasErr w) : Calls Tryd.prog 8 #[.iface 28 (.int .i64 x), .agg (ftC x (-1))] w fun e w' => e = .returned (.bool true) ∧ Below w.heap.size w w' := by
  have hb0 : Below w.heap.size w (w.alloc (.cells (ftC x (-1)) 30)) := (Below.refl _ _).alloc (Nat.le_refl _) _
  have HB := Blk.new w 30 (ftC x (-1))
  have hE1 : HasErr (w.alloc (.cells (ftC x (-1)) 30)) := hE.below hb0
  go_enter Tryd.func8, Tryd.ntmps8
  go_upto_region 1 with (fail)
  generalize w.alloc (.cells (ftC x (-1)) 30) = w1 at *
  go_wp2_with fail
  refine (place_errno x _ hE1).mono ?_
  rintro e w2 ⟨rfl, b2⟩
  have HB2 := HB.kept b2
  have c0 := HB2.cv 0 (.int .i64 x) rfl
  have c1 := HB2.cv 1 (.int .i64 (-1)) rfl
  have e1 : (x == x) = true := by simp
  go_wp2
  go_ret
  exact ⟨rfl, hb0.trans (b2.mono hb0.size)⟩

/-- An error of New's beside its Fault. -/
def PlErr (w : World) (ev : Value) (er pl : Int) : Prop := ErrAs w ev er pl ∨ (ev = .iface 28 (.int .i64 er) ∧ pl = -1)

theorem PlErr.below {w w' : World} {ev : Value} {er pl : Int} (h : PlErr w ev er pl) (hb : Below w.heap.size w w') : PlErr w' ev er pl := h.elim (fun h => Or.inl (h.below hb)) Or.inr

theorem placed_ev {w : World} {ev : Value} {er pl : Int} (hE : HasErr w) (h : PlErr w ev er pl) : Calls Tryd.prog 8 #[ev, .agg (ftC er pl)] w fun e w' => e = .returned (.bool true) ∧ Below w.heap.size w w' := by
  rcases h with h | ⟨rfl, rfl⟩
  · exact placed_any ev er pl w hE h
  · exact placed_errno er w hE

theorem first_bad : ∀ l : List PsH, (∀ x ∈ l, okPs x.x = true) ∨ ∃ i, ∃ hi : i < l.length, okPs l[i].x = false ∧ (∀ x ∈ l.take i, okPs x.x = true)
  | [] => Or.inl (by simp)
  | x :: l => by
    cases hx : okPs x.x with
    | false => exact Or.inr ⟨0, by simp, hx, by simp⟩
    | true =>
      rcases first_bad l with h | ⟨i, hi, h1, h2⟩
      · refine Or.inl fun y hy => ?_
        rcases List.mem_cons.1 hy with rfl | hy
        · exact hx
        · exact h y hy
      · refine Or.inr ⟨i + 1, by simpa using hi, by simpa using h1, fun y hy => ?_⟩
        rw [List.take_succ_cons] at hy
        rcases List.mem_cons.1 hy with rfl | hy
        · exact hx
        · exact h2 y hy

theorem bad_same {l : List PsH} {i j : Nat} {hi : i < l.length} {hj : j < l.length} (h1 : okPs l[i].x = false) (h2 : ∀ x ∈ l.take i, okPs x.x = true) (k1 : okPs l[j].x = false) (k2 : ∀ x ∈ l.take j, okPs x.x = true) : i = j := by
  have hm : ∀ {p q : Nat} (hp : p < l.length), p < q → l[p] ∈ l.take q := fun {p q} hp hpq => by
    have : (l.take q)[p]? = some l[p] := by rw [List.getElem?_take_of_lt hpq, List.getElem?_eq_getElem hp]
    exact List.mem_of_getElem? this
  rcases Nat.lt_trichotomy i j with h | h | h
  · rw [k2 _ (hm hi h)] at h1; cases h1
  · exact h
  · rw [h2 _ (hm hj h)] at k1; cases k1

/-- What both make of a list that may not be. -/
def BothBad (a : Option Addr) (c : Nat) (l : List PsH) (age er pl : Int) (W : World) : Prop := (er == 0) = false ∧ (∀ w, Below W.heap.size W w → Calls Tryd.prog 6 #[.slice a l.length c, .int .i64 age] w fun e w' => e = .returned (.tuple #[.pointer none, .agg (ftC er pl)]) ∧ Below w.heap.size w w') ∧
  (∀ w, Below W.heap.size W w → Calls Tryd.prog 7 #[.slice a l.length c, .int .i64 age] w fun e w' => ∃ ev, e = .returned (.tuple #[.pointer none, ev]) ∧ PlErr w' ev er pl ∧ Below w.heap.size w w')

/-- .. that may. -/
def BothGood (a : Option Addr) (c : Nat) (l : List PsH) (age : Int) (W : World) : Prop := (∀ w, Below W.heap.size W w → Calls Tryd.prog 6 #[.slice a l.length c, .int .i64 age] w fun e w' => ∃ q, e = .returned (.tuple #[.pointer (some ⟨q, 0, none⟩), .agg (ftC 0 (-1))]) ∧ Below w.heap.size w w') ∧
  (∀ w, Below W.heap.size W w → Calls Tryd.prog 7 #[.slice a l.length c, .int .i64 age] w fun e w' => ∃ b, e = .returned (.tuple #[.pointer (some ⟨b, 0, none⟩), .nilIface]) ∧ Below w.heap.size w w')

theorem both_ways (a : Option Addr) (c : Nat) (l : List PsH) (age : Int) (W : World) (h : PsIn W a l) (hok : ∀ x ∈ l, PsOk W x) (hl : l.length ≤ maxLen) : (∃ er pl, BothBad a c l age er pl W) ∨ BothGood a c l age W := by
  by_cases h8 : 8 < l.length
  · refine Or.inl ⟨4, -1, rfl, fun w hb => rnew_long a c l age w h8 hl, fun w hb => (newB_long a c l age w h8 hl).mono ?_⟩
    rintro e w' ⟨rfl, rfl⟩
    exact ⟨_, rfl, Or.inr ⟨rfl, rfl⟩, Below.refl _ _⟩
  · have h8' : l.length ≤ 8 := by omega
    have HR := fun w (hb : Below W.heap.size W w) => rnew_any a c l age w (h.below hb) (fun x hx => (hok x hx).below hb) h8'
    have HN := fun w (hb : Below W.heap.size W w) => newB_any a c l age w (h.below hb) (fun x hx => (hok x hx).below hb) h8'
    rcases first_bad l with hall | ⟨i, hi, h1, h2⟩
    · have no : ∀ (j : Nat) (hj : j < l.length), ¬ okPs l[j].x = false := fun j hj q => by rw [hall _ (List.getElem_mem hj)] at q; cases q
      by_cases hage : age < 1 ∨ 300 < age
      · refine Or.inl ⟨2, -1, rfl, fun w hb => (HR w hb).mono ?_, fun w hb => (HN w hb).mono ?_⟩
        · rintro e w' ⟨kb, ⟨j, hj, q, -⟩ | ⟨-, -, rfl⟩ | ⟨-, q, -⟩⟩
          · exact absurd q (no j hj)
          · exact ⟨rfl, kb⟩
          · omega
        · rintro e w' ⟨kb, ⟨j, hj, q, -⟩ | ⟨-, -, rfl⟩ | ⟨-, q, -⟩⟩
          · exact absurd q (no j hj)
          · exact ⟨_, rfl, Or.inr ⟨rfl, rfl⟩, kb⟩
          · omega
      · refine Or.inr ⟨fun w hb => (HR w hb).mono ?_, fun w hb => (HN w hb).mono ?_⟩
        · rintro e w' ⟨kb, ⟨j, hj, q, -⟩ | ⟨-, q, -⟩ | ⟨-, -, q, t, v, rfl, -⟩⟩
          · exact absurd q (no j hj)
          · exact absurd q hage
          · exact ⟨q, rfl, kb⟩
        · rintro e w' ⟨kb, ⟨j, hj, q, -⟩ | ⟨-, q, -⟩ | ⟨-, -, b, t, c', ad, hs, rfl, -⟩⟩
          · exact absurd q (no j hj)
          · exact absurd q hage
          · exact ⟨b, rfl, kb⟩
    · have nall : ¬ ∀ x ∈ l, okPs x.x = true := fun q => by rw [q _ (List.getElem_mem hi)] at h1; cases h1
      refine Or.inl ⟨1, (i : Nat), rfl, fun w hb => (HR w hb).mono ?_, fun w hb => (HN w hb).mono ?_⟩
      · rintro e w' ⟨kb, ⟨j, hj, q1, q2, rfl⟩ | ⟨q, -⟩ | ⟨q, -⟩⟩
        · obtain rfl := bad_same h1 h2 q1 q2
          exact ⟨rfl, kb⟩
        · exact absurd q nall
        · exact absurd q nall
      · rintro e w' ⟨kb, ⟨j, hj, q1, q2, q, rfl, hq⟩ | ⟨q, -⟩ | ⟨q, -⟩⟩
        · obtain rfl := bad_same h1 h2 q1 q2
          exact ⟨_, rfl, Or.inl (Or.inr ⟨by decide, q, rfl, hq⟩), kb⟩
        · exact absurd q nall
        · exact absurd q nall
namespace bridgeRights

set_option maxHeartbeats 6400000 in
theorem walk (a0 : Option Addr) (c0 : Nat) (l0 : List PsH) (a1 : Int) (W : World) (hin0 : PsIn W a0 l0) (hok0 : ∀ x ∈ l0, PsOk W x) (hl0 : l0.length ≤ maxLen) (hE : HasErr W) :
    Calls Tryd.prog 3 #[.slice a0 l0.length c0, .int .i64 a1] W fun e w' => e = .returned (.bool true) ∧ Below W.heap.size W w' := by
  by_cases h12 : 12 < l0.length
  · have d1 : decide ((12 : Int) < (l0.length : Int)) = true := decide_eq_true (by omega)
    clear hin0 hok0
    go_enter Tryd.func3, Tryd.ntmps3
    go_wp2
    go_ret
    exact ⟨rfl, Below.refl _ _⟩
  have d1 : decide ((12 : Int) < (l0.length : Int)) = false := decide_eq_false (by omega)
  have HL := Lib.hid (show l0.length ≤ 12 by omega)
  have HW := Lib.hid (both_ways a0 c0 l0 a1 W hin0 hok0 hl0)
  have HOK := Lib.hid hok0
  have HE := Lib.hid hE
  clear hok0 hE h12 hl0
  go_enter Tryd.func3, Tryd.ntmps3
  go_wp2_with fail
  go_loopw [16] (fun s16 wr => ∃ k : Nat, k ≤ l0.length ∧ s16 = .int .i64 k ∧ Below W.heap.size W wr) (fun i _ => l0.length - (intOf i).toNat)
  case atStart => exact ⟨0, by omega, rfl, Below.refl _ _⟩
  case round =>
    obtain ⟨k, hk, rfl, Bk⟩ := hrel
    by_cases hlt : k < l0.length
    · have hI := hin0.below Bk
      obtain ⟨b, lo, rfl, hbl, hat⟩ := hI.at hlt
      have q1 : (k : Int) < (l0.length : Int) := by omega
      have q2 : decide ((k : Int) < (l0.length : Int)) = true := decide_eq_true q1
      have q3 : (0 : Int) ≤ (k : Int) := by omega
      have q4 : IntKind.i64.wrap ((k : Int) + 1) = (k : Int) + 1 := by have := HL.out; rw [IntKind.wrap_i64] <;> omega
      have HK := hat k hlt
      have hkx := (HOK.out _ (List.getElem_mem hlt)).below Bk
      generalize l0[k] = x at *
      have HQ := Blk.new wr 25 (psC zPsH)
      have bQ : Below wr.heap.size wr (wr.alloc (.cells (psC zPsH) 25)) := (Below.refl _ _).alloc (Nat.le_refl _) _
      clear hat hI hin0 hbl HW
      go_upto_region 6 with (first
        | (refine load_cells (B := b) (k := lo + k * 4) 25 (psC x) (by rfl) rfl rfl HK (by kernel_rfl) (by kernel_rfl) ?_)
        | (refine alloc_blk 25 (psC zPsH) (by rfl) rfl Tryd.psZero ?_)
        | (refine store_blk (B := wr.heap.size) (k := 0) 25 (.agg (psC x)) (psC x) (by rfl) rfl rfl rfl HQ (by kernel_rfl) (show (4 : Nat) ≤ 4 from Nat.le_refl 4) (by rfl) (st_whole' _ _ rfl) ?_; intro w0 HQ0 b0 g0))
      have k0 := bQ.trans b0
      have hk0 := hkx.below k0
      have Bk0 := Bk.trans (k0.mono Bk.size)
      have c1 := HQ0.cv 1 (.slice x.ia x.x.inn.length x.ic) rfl
      have c2 := HQ0.cv 2 (.slice x.ba x.x.bare.length x.bc) rfl
      clear bQ b0 g0 HK hkx HQ k0
      generalize wr.heap.size = P at *
      obtain ⟨z, z1, z2⟩ : ∃ z, IntKind.i64.wrap ((x.x.inn.length : Int) + (x.x.bare.length : Int)) = z ∧ wrap64 ((x.x.inn.length : Int) + (x.x.bare.length : Int)) = z := ⟨_, IntWalk.i64_left _, rfl⟩
      cases hz : decide ((200 : Int) < z) with
      | true =>
        go_wp2
        go_ret
        exact ⟨rfl, Bk0⟩
      | false =>
        go_upto_region 8 with (fail)
        have hd : Below w0.heap.size w0 w0.drew := (Below.refl _ _).drew
        replace HQ0 := HQ0.kept hd
        replace hk0 := hk0.below hd
        replace Bk0 := Bk0.drew
        have eb : (okPs x.x != okPs x.x) = false := by simp
        clear c1 c2 hd
        refine wp_region_noPanic ?_
        refine wp_region_held_drew (S := (fun w' => Blk w' P 25 (psC x) ∧ PsOk w' x ∧ Below W.heap.size W w')) (by kernel_rfl) ?_ (fun hHeld => ?_)
        · exact ⟨HQ0, hk0, Bk0⟩
        refine wpAnyH_take (i := 0) (v := .agg (psC x)) rfl (by kernel_rfl) (by kernel_rfl) (by kernel_rfl) (fun _ _ _ h => h) (Or.inl ⟨by rfl, fun w hSw => exec_load_blk (k := 0) 25 (psC x) rfl rfl hSw.1 (by kernel_rfl) (by kernel_rfl) rfl⟩) (by assumption) ?_
        (try simp only [Act.put, List.getElem_toArray, List.getElem_cons_zero, List.getElem_cons_succ, List.setIfInBounds_toArray, List.set_cons_zero, List.set_cons_succ])
        refine wpAnyH_take (i := 2) (v := .agg (psC x)) rfl (by kernel_rfl) (by kernel_rfl) (by kernel_rfl) (fun _ _ _ h => h) (Or.inl ⟨by rfl, fun w hSw => exec_load_blk (k := 0) 25 (psC x) rfl rfl hSw.1 (by kernel_rfl) (by kernel_rfl) rfl⟩) (by assumption) ?_
        (try simp only [Act.put, List.getElem_toArray, List.getElem_cons_zero, List.getElem_cons_succ, List.setIfInBounds_toArray, List.set_cons_zero, List.set_cons_succ])
        refine wpAnyH_ready (rs := [1]) (by kernel_rfl) (by simp) ?_
        refine AllReadyH.cons rfl (fun K hK => ?_) AllReadyH.nil
        simp only [List.getElem_toArray, List.getElem_cons_zero, List.getElem_cons_succ]
        go_simp
        refine (psRight_any x _ hHeld.2.1).mono ?_
        rintro e w1 ⟨rfl, k1⟩
        have S1 := And.intro (hHeld.1.kept k1) (And.intro (hHeld.2.1.below k1) (hHeld.2.2.trans (k1.mono hHeld.2.2.size)))
        refine hK.out _ _ ?_ (fun hHeld => ?_)
        · exact S1
        clear hK K
        (try simp only [Act.put, List.getElem_toArray, List.getElem_cons_zero, List.getElem_cons_succ, List.setIfInBounds_toArray, List.set_cons_zero, List.set_cons_succ])
        refine wpAnyH_ready (rs := [3]) (by kernel_rfl) (by simp) ?_
        refine AllReadyH.cons rfl (fun K hK => ?_) AllReadyH.nil
        simp only [List.getElem_toArray, List.getElem_cons_zero, List.getElem_cons_succ]
        go_simp
        refine (psRef_any x _ hHeld.2.1).mono ?_
        rintro e w2 ⟨rfl, k2⟩
        have S2 := And.intro (hHeld.1.kept k2) (And.intro (hHeld.2.1.below k2) (hHeld.2.2.trans (k2.mono hHeld.2.2.size)))
        refine hK.out _ _ ?_ (fun hHeld => ?_)
        · exact S2
        clear hK K
        (try simp only [Act.put, List.getElem_toArray, List.getElem_cons_zero, List.getElem_cons_succ, List.setIfInBounds_toArray, List.set_cons_zero, List.set_cons_succ])
        refine wpAnyH_take (i := 4) (v := ?_) rfl (by kernel_rfl) (by kernel_rfl) (by kernel_rfl) (fun _ _ _ h => h) (Or.inl ⟨by rfl, ?_⟩) (by assumption) ?_
        rotate_left
        · (intro w hSw; (try dsimp only at hSw); go_simp; (try with_reducible rfl))
        (try simp only [Act.put, List.getElem_toArray, List.getElem_cons_zero, List.getElem_cons_succ, List.setIfInBounds_toArray, List.set_cons_zero, List.set_cons_succ])
        refine wpAnyH_done (by kernel_rfl) ?_ _
        refine NoPanic.normal ?_
        go_wp2
        go_roundw
        case rel => exact ⟨k + 1, by omega, by go_num, hHeld.2.2⟩
        case measure => simp [intOf]; omega
    · obtain rfl : k = l0.length := by omega
      have q2 : decide ((l0.length : Int) < (l0.length : Int)) = false := decide_eq_false (by omega)
      have HF := fun w => Blk.new w 30 (ftC 0 0)
      clear hin0
      rcases HW.out with ⟨er, pl, e0, h1, h2⟩ | ⟨h1, h2⟩
      · have H1 := Lib.hid h1
        have H2 := Lib.hid h2
        clear h1 h2 HW HF
        go_upto_region 12 with (first
          | (go_at_call 6; refine (H1.out _ Bk).mono ?_; rintro e w1 ⟨rfl, k1⟩; have B1 := Bk.trans (k1.mono Bk.size))
          | (refine alloc_blk 30 (ftC 0 0) (by rfl) rfl Tryd.ftZero ?_)
          | (refine store_blk (B := w1.heap.size) (k := 0) 30 (.agg (ftC er pl)) (ftC er pl) (by rfl) rfl rfl rfl (Blk.new w1 30 (ftC 0 0)) (by kernel_rfl) (show (2 : Nat) ≤ 2 from Nat.le_refl 2) rfl rfl ?_; intro w2 HF2 b2 g2))
        have k12 := ((Below.refl w1.heap.size w1).alloc (Nat.le_refl _) (.cells (ftC 0 0) 30)).trans b2
        have B2 := B1.trans (k12.mono B1.size)
        go_wp2_with (first
          | (go_at_call 7; refine (H2.out _ B2).mono ?_; rintro e w3 ⟨ev, rfl, hev, k3⟩; have HF3 := HF2.kept k3; have B3 := B2.trans (k3.mono B2.size))
          | (refine load_blk 30 (ftC er pl) (by rfl) rfl rfl HF3 (by kernel_rfl) (by kernel_rfl) (by rfl) ?_)
          | (go_at_call 8; refine (placed_ev (HE.out.below B3) hev).mono ?_; rintro e w4 ⟨rfl, k4⟩; have HF4 := HF3.kept k4; have B4 := B3.trans (k4.mono B3.size))
          | (refine load_blk 30 (ftC er pl) (by rfl) rfl rfl HF4 (by kernel_rfl) (by kernel_rfl) (by rfl) ?_)
          | (go_at_call 9; refine (is_any er pl _).mono ?_; rintro e w5 ⟨rfl, k5⟩; rw [e0]))
        go_ret
        exact ⟨rfl, B4.trans (k5.mono B4.size)⟩
      · have H1 := Lib.hid h1
        have H2 := Lib.hid h2
        clear h1 h2 HW HF
        go_upto_region 12 with (first
          | (go_at_call 6; refine (H1.out _ Bk).mono ?_; rintro e w1 ⟨q, rfl, k1⟩; have B1 := Bk.trans (k1.mono Bk.size))
          | (refine alloc_blk 30 (ftC 0 0) (by rfl) rfl Tryd.ftZero ?_)
          | (refine store_blk (B := w1.heap.size) (k := 0) 30 (.agg (ftC 0 (-1))) (ftC 0 (-1)) (by rfl) rfl rfl rfl (Blk.new w1 30 (ftC 0 0)) (by kernel_rfl) (show (2 : Nat) ≤ 2 from Nat.le_refl 2) rfl rfl ?_; intro w2 HF2 b2 g2))
        have k12 := ((Below.refl w1.heap.size w1).alloc (Nat.le_refl _) (.cells (ftC 0 0) 30)).trans b2
        have B2 := B1.trans (k12.mono B1.size)
        go_wp2_with (first
          | (go_at_call 7; refine (H2.out _ B2).mono ?_; rintro e w3 ⟨b, rfl, k3⟩; have HF3 := HF2.kept k3; have B3 := B2.trans (k3.mono B2.size))
          | (refine load_blk 30 (ftC 0 (-1)) (by rfl) rfl rfl HF3 (by kernel_rfl) (by kernel_rfl) (by rfl) ?_)
          | (go_at_call 8; refine (placed_ev (HE.out.below B3) (Or.inl ErrAs.nil)).mono ?_; rintro e w4 ⟨rfl, k4⟩; have HF4 := HF3.kept k4; have B4 := B3.trans (k4.mono B3.size))
          | (refine load_blk 30 (ftC 0 (-1)) (by rfl) rfl rfl HF4 (by kernel_rfl) (by kernel_rfl) (by rfl) ?_)
          | (go_at_call 9; refine (is_any 0 (-1) _).mono ?_; rintro e w5 ⟨rfl, k5⟩))
        go_ret
        exact ⟨rfl, B4.trans (k5.mono B4.size)⟩
end bridgeRights

end Go.Proofs.YtdceggekhhflgaaDoor
