/- switchyardkeep.BridgeBlocked. -/
import Derived.Test.YtdceggekhhflgaaKs
import Derived.Test.YtdceggekhhflgaaPs
import Derived.Test.YtdceggekhhflgaaPlN
namespace Go.Proofs.Ytdceggekhhflgaa.bridgeBlocked
open Go.RowKit
attribute [local go_sem ↓] Go.wp_at_zero Go.wp_at_succ
set_option linter.unusedSimpArgs false
set_option linter.unusedVariables false
set_option maxRecDepth 100000

theorem box_int {P : Program} {ops : Array Oper} {rest : List Oper} {o : Oper} {a : Act} {w : World} {Q : Exit → Act → World → Prop} {x : Operand} (t : TypeId) (z : Int) (hw : Region.wanted o (yielded ops a.tmps) = true) (ho : o.op = .box t x) (hx : a.eval x = .int .i64 z)
    (h : wpList P ops Q rest (a.put o.dst (.pointer (some ⟨w.heap.size, 0, none⟩))) (w.alloc (.cells #[.int .i64 z] t))) : wpList P ops Q (o :: rest) a w :=
  wpList_step fun K hK => by
    have h1 : (Instr.box t (.int .i64 z)).run P w = .ok (.pointer (some ⟨w.heap.size, 0, none⟩)) (w.alloc (.cells #[.int .i64 z] t)) := by
      simp [Instr.box, newVar, newRow, newObj, Value.cells]
      rfl
    rw [if_pos hw]
    unfold Oper.wp execOp
    simp only [ho, hx, Sem.run_bind, Sem.run_pure, Result.andThen_ok, h1]
    exact hK _ _ h

theorem noport {w : World} {f : Fr} {vid : Int} {ps : List Ps} {is : List Nat} {ss : List SnH} (h : Sents w f vid ps is ss) {k : Nat} (hk : ∀ i ∈ is, i ≠ k) : ∀ s ∈ ss, (s.p == (k : Int)) = false := fun s hs => by
  obtain ⟨i, hi, e⟩ := Sents.mem h s hs
  rw [e, beq_eq_false_iff_ne]
  have := hk i hi
  omega

theorem drewT {w : World} {ta : Option Addr} {tl : List Tg} {tc : Nat} (h : TgRow w ta tl tc) : TgRow w.drew ta tl tc := h

theorem enters_blocked1 : ∀ args w, (callFunc 35 args).run Try.prog w = .ok (.enter 35 args) w := fun args w => by kernel_rfl

set_option maxHeartbeats 1600000 in
theorem blocked1_one (s : SnH) (P : Nat) (k : Int) (w : World) (h : Blk w P 3 #[.int .i64 k]) :
    Calls Try.prog 35 #[.agg (snC s), .pointer (some ⟨P, 0, none⟩)] w fun e w' => e = .returned (.bool (s.p == k)) ∧ Below w.heap.size w w' := by
  have hb0 : Below w.heap.size w (w.alloc (.cells (snC s) 48)) := (Below.refl _ _).alloc (Nat.le_refl _) _
  have c0 := (Blk.new w 48 (snC s)).cv 0 (.int .i64 s.p) rfl
  have c1 := (h.kept hb0).cv 0 (.int .i64 k) rfl
  go_enter Try.func35, Try.ntmps35
  go_wp2_with (refine box_blk 48 (snC s) (by rfl) rfl rfl ?_)
  go_ret
  exact ⟨rfl, hb0⟩

set_option maxHeartbeats 1600000 in
theorem blocked1_index (a : Option Addr) (c : Nat) (l : List SnH) (P : Nat) (k : Int) (w : World) (h : SnIn w a l) (hlen : l.length ≤ 8) (hP : Blk w P 3 #[.int .i64 k]) (hno : ∀ s ∈ l, (s.p == k) = false) :
    Calls Try.prog 45 #[.slice a l.length c, .func (.func 35) #[] #[.pointer (some ⟨P, 0, none⟩)]] w fun e w' => e = .returned (.int .i64 (-1)) ∧ Below w.heap.size w w' := by
  have HLEN := Lib.hid hlen
  have HNO := Lib.hid hno
  have HON := Lib.hid (fun s w h => blocked1_one s P k w h)
  clear hlen hno
  go_enter Try.func45, Try.ntmps45
  go_wp2_with fail
  go_loopw [8] (fun i wr => ∃ j : Nat, j ≤ l.length ∧ i = .int .i64 j ∧ Below w.heap.size w wr) (fun i _ => l.length - (intOf i).toNat)
  case atStart => exact ⟨0, by omega, rfl, Below.refl _ _⟩
  case round =>
    obtain ⟨j, hj, rfl, Bk⟩ := hrel
    by_cases hlt : j < l.length
    · have hI := h.below Bk
      obtain ⟨b, lo, rfl, hbl, hat⟩ := hI.at hlt
      have q1 : (j : Int) < (l.length : Int) := by omega
      have q2 : decide ((j : Int) < (l.length : Int)) = true := decide_eq_true q1
      have q3 : (0 : Int) ≤ (j : Int) := by omega
      have q4 : IntKind.i64.wrap ((j : Int) + 1) = (j : Int) + 1 := by have := HLEN.out; rw [IntKind.wrap_i64] <;> omega
      have HK := hat j hlt
      have hx := HNO.out _ (List.getElem_mem hlt)
      generalize l[j] = s at *
      have HP1 := Lib.hid (HON.out s wr (hP.kept Bk))
      rw [hx] at HP1
      clear hat hI h HON hbl hx
      go_wp2_with (first
        | (refine load_cells (B := b) (k := lo + j * 22) 48 (snC s) (by rfl) rfl rfl HK (by kernel_rfl) (by kernel_rfl) ?_)
        | (refine HP1.out.mono ?_; rintro e w1 ⟨rfl, k1⟩))
      go_roundw
      case rel => exact ⟨j + 1, by omega, by go_num, Bk.trans (k1.mono Bk.size)⟩
      case measure => simp [intOf]; omega
    · obtain rfl : j = l.length := by omega
      have q2 : decide ((l.length : Int) < (l.length : Int)) = false := decide_eq_false (by omega)
      go_wp2
      go_ret
      exact ⟨rfl, Bk⟩

theorem blocked1_no (a : Option Addr) (c : Nat) (l : List SnH) (P : Nat) (k : Int) (w : World) (h : SnIn w a l) (hlen : l.length ≤ 8) (hP : Blk w P 3 #[.int .i64 k]) (hno : ∀ s ∈ l, (s.p == k) = false) :
    Calls Try.prog 20 #[.slice a l.length c, .func (.func 35) #[] #[.pointer (some ⟨P, 0, none⟩)]] w fun e w' => e = .returned (.bool false) ∧ Below w.heap.size w w' := by
  have HI := Lib.hid (blocked1_index a c l P k w h hlen hP hno)
  clear hno hlen
  go_enter Try.func20, Try.ntmps20
  go_wp2_with (refine HI.out.mono ?_; rintro e w' ⟨rfl, kb⟩)
  go_ret
  exact ⟨rfl, kb⟩

theorem known_c6 (n : Nat) (hn : n < 256) (w : World) : Calls Try.prog 34 #[.int .i64 (n : Int)] w fun e w' => e = .returned (.agg (c6 (knownF n))) ∧ Below w.heap.size w w' :=
  (known_fits n hn w).mono fun e w' h => ⟨h.1, h.2⟩

theorem look_gone (age : Int) (E : List Ent) (k : Int) (hk : 0 ≤ k) (vid : Int) (a : Nat → Nat) (now : Int) : (lookM age (forgetM E k) vid a now == k) = false := by
  rw [beq_eq_false_iff_ne]
  unfold lookM forgetM
  cases h : (E.filter fun e => !(e.port == k)).find? fun e => keyE vid a e && aliveE age now e with
  | none =>
    show (-1 : Int) ≠ k
    omega
  | some e =>
    have := (List.mem_filter.1 (List.mem_of_find?_eq_some h)).2
    show e.port ≠ k
    simpa using this

theorem blocked_in {k : Nat} (hk : k < 5) (last now : Int) (E : List Ent) (t : Tr) (ta : Option Addr) (tc : Nat) : inM (ps5 k 1) 100 last E (k : Int) (carF t ta tc) now = ⟨0, last, E, []⟩ := by
  rw [in_live (by rw [ps5_len]; exact hk), ps5_at k 1 hk]
  unfold liveM
  have : deadB (pSt 1) (vidM (ps5 k 1) (k : Int) (carF t ta tc).tl) (carF t ta tc).d = true := by
    unfold deadB
    rfl
  simp only [this, if_true]

/-- A frame that goes to bridges alone. -/
theorem known_in {ps : List Ps} {j : Nat} (hj : j < ps.length) (last now : Int) (E : List Ent) (t : Tr) (ta : Option Addr) (tc : Nat) (n : Nat) (hn : n < 16) : inM ps 100 last E (j : Int) { carF t ta tc with d := knownF n } now = ⟨0, last, E, []⟩ := by
  have hr : rightB { carF t ta tc with d := knownF n } = true := carF_right t ta tc
  unfold inM
  rw [hasB_nat hj, hr, if_neg (by simp), if_neg (by simp)]
  unfold liveM
  have hres : resv (knownF n) = (n : Int) := by
    unfold resv
    rw [if_pos ⟨hn, rfl⟩]
    rfl
  have : deadB (ps.getD (j : Int).toNat zPs) (vidM ps (j : Int) (carF t ta tc).tl) (knownF n) = true := by
    unfold deadB
    rw [hres, decide_eq_true (show (0 : Int) ≤ (n : Int) by omega)]
    simp
  simp only [this, if_true]

theorem sn_keep {w w' : World} {base : Nat} {v : Value} {l : List SnH} (h : OwnSnH w base v l) (hk : ∀ g C, Blk w g 48 C → w'.heap[g]? = w.heap[g]?) : OwnSnH w' base v l := by
  rcases h with h | ⟨h1, g, cap, rfl, h2⟩
  · exact Or.inl h
  · refine Or.inr ⟨h1, g, cap, rfl, ?_⟩
    rcases h2 with ⟨q0, q | ⟨g', cap', cur, e, e1, e2, e3⟩⟩
    · exact ⟨q0, Or.inl q⟩
    · exact ⟨q0, Or.inr ⟨g', cap', cur, e, e1, (hk g' cur e2).trans e2, e3⟩⟩

set_option maxHeartbeats 6400000 in
theorem walk (a0 : Option Addr) (c0 : Nat) (l0 : List Tr) (t1 : Tr) (a2 : Int) (W : World) (hin0 : TrIn W a0 l0) (hl0 : l0.length ≤ maxLen) :
    Calls Try.prog 10 #[.slice a0 l0.length c0, .agg (trC t1), .int .i64 a2] W fun e w' => e = .returned (.bool true) ∧ Below W.heap.size W w' := by
  have b0 : Below W.heap.size W (W.alloc (.cells (trC t1) 24)) := (Below.refl _ _).alloc (Nat.le_refl _) _
  have B0 := b0.alloc b0.size (.cells #[.int .i64 a2] 3)
  have HT1 := (Blk.new W 24 (trC t1)).alloc (.cells #[.int .i64 a2] 3)
  have HP1 := Blk.new (W.alloc (.cells (trC t1) 24)) 3 #[.int .i64 a2]
  have hTP : W.heap.size < (W.alloc (.cells (trC t1) 24)).heap.size := (Blk.new W 24 (trC t1)).lt
  have e1 : (W.alloc (.cells (trC t1) 24)).heap.size = W.heap.size + 1 := by simp
  rw [e1] at HP1 hTP
  clear b0 e1
  by_cases h60 : 60 < l0.length
  · have e60 : decide ((60 : Int) < (l0.length : Int)) = true := decide_eq_true (by omega)
    clear hin0
    go_enter Try.func10, Try.ntmps10
    go_upto_region 1 with (first
      | (refine box_blk 24 (trC t1) (by rfl) rfl rfl ?_)
      | (refine box_int 3 a2 (by rfl) rfl rfl ?_))
    generalize W.heap.size + 1 = P at *
    generalize (W.alloc (.cells (trC t1) 24)).alloc (.cells #[.int .i64 a2] 3) = w1 at *
    go_wp2_with (go_at_call 11; refine (passes_any _).mono ?_; rintro e w2 ⟨rfl, k2⟩; have B2 := B0.trans (k2.mono B0.size))
    go_ret
    exact ⟨rfl, B2⟩
  have e60 : decide ((60 : Int) < (l0.length : Int)) = false := decide_eq_false (by omega)
  have HN60 : Hid (l0.length ≤ 60) := by show _ ≤ _; omega
  have HSRV := Lib.hid (srvM_ok (ps := List.replicate 5 pP) (fun p hp => by rw [(List.mem_replicate.1 hp).2]; exact pP_ok) (by simp) (by simp) l0 (by omega))
  obtain ⟨lE, E, tE, hsv⟩ : ∃ lE E tE, srvM (List.replicate 5 pP) l0 = (lE, E, tE) := ⟨_, _, _, rfl⟩
  rw [hsv] at HSRV
  have HSV := Lib.hid hsv
  clear hsv h60
  have h0 := HSRV.out.last0
  have h1 := HSRV.out.last1
  have h2 := HSRV.out.now
  simp only at h0 h1 h2
  have HT6 : Hid (tE ≤ 1000000) := by show _ ≤ _; have := HN60.out; omega
  go_enter Try.func10, Try.ntmps10
  go_upto_region 1 with (first
    | (refine box_blk 24 (trC t1) (by rfl) rfl rfl ?_)
    | (refine box_int 3 a2 (by rfl) rfl rfl ?_))
  generalize W.heap.size + 1 = P at *
  generalize (W.alloc (.cells (trC t1) 24)).alloc (.cells #[.int .i64 a2] 3) = w1 at *
  go_upto_region 8 with (first
    | (go_at_call 11; refine (passes_any _).mono ?_; rintro e w2 ⟨rfl, k2⟩; have B2 := B0.trans (k2.mono B0.size))
    | (go_at_call 13; refine (plainPorts_any 5 (by decide) _).mono ?_; rintro e w3 ⟨⟨v, L, rfl, hO, hL, hP⟩, k3⟩; obtain ⟨aP, cP, rfl, hIP⟩ := hO.inL; have B3 := B2.trans (k3.mono B2.size); have HL5 := Lib.hid (show L.length = 5 by have := congrArg List.length hL; simpa using this); have HPR : Hid (∀ x ∈ L, okPs x.x = true) := (fun x hx => by have hm : x.x ∈ L.map PsH.x := List.mem_map.2 ⟨x, hx, rfl⟩; rw [hL] at hm; rw [(List.mem_replicate.1 hm).2]; exact pP_ok); have HPO : Hid (∀ x ∈ L, PsOk w3 x) := (fun x hx => (hP x hx).ok))
    | (go_at_call 12; refine (served_any aP cP L a0 c0 l0 w3 hIP HPO.out (by rw [HL5.out]; decide) HPR.out (by rw [HL5.out]; decide) (hin0.below B3) HN60.out).mono ?_; rintro e w4 ⟨⟨b, t, cc, ad, hs, rfl, hmap, hbr⟩, k4⟩; rw [hL, HSV.out] at hbr; rw [hL, HSV.out]; rw [hL] at hmap))
  have HT4 : Blk w4 W.heap.size 24 (trC t1) := ((HT1.kept k2).kept k3).kept k4
  have HP4 : Blk w4 P 3 #[.int .i64 a2] := ((HP1.kept k2).kept k3).kept k4
  have B4 := B3.trans (k4.mono B3.size)
  have hlo4 : w3.heap.size ≤ w4.heap.size := k4.size
  have hP3 : P < w3.heap.size := Nat.lt_of_lt_of_le (Nat.lt_of_lt_of_le HP1.lt k2.size) k3.size
  have hW3 := B3.size
  clear hO hP hIP HPO HPR HT1 HP1 hin0 B2 B0 k2 k3 k4
  have p4 := HP4.cv 0 (.int .i64 a2) rfl
  go_upto_region 9 with (first
    | (go_at_call 14; refine (pick_val a2 5 _ (by decide) (by decide)).mono ?_; rintro e w' ⟨rfl, rfl⟩)
    | (refine store_blk (B := P) (k := 0) 3 (.int .i64 (pickN a2 5 : Nat)) #[.int .i64 (pickN a2 5 : Nat)] (by rfl) rfl rfl rfl HP4 (by kernel_rfl) (show (1 : Nat) ≤ 1 from Nat.le_refl 1) (by rfl) rfl ?_; intro w5 HP5 b5 g5; have HT5 := HT4.grown g5 (by intro e; cases e; omega); have hbr5 := hbr.keep (w' := w5) fun g T C q hg hT => g5.block g q.lt (by intro e; cases e; omega); have p5 := HP5.cv 0 (.int .i64 (pickN a2 5 : Nat)) rfl))
  have hlo5 : w3.heap.size ≤ w5.heap.size := Nat.le_trans hlo4 g5.size
  have B5 : Below W.heap.size W w5 := B4.trans (b5.mono (Nat.le_of_lt hTP))
  have hk := pickN_lt a2 5 (by decide)
  have hln : hs.length = 5 := by have := congrArg List.length hmap; simpa using this
  clear hbr HP4 HT4 b5 g5 p4 p5
  generalize pickN a2 5 = k at *
  have hk5 : k < hs.length := by rw [hln]; exact hk
  have hmap2 := set_map hs k hk5 1 hmap
  have HSTC : Hid (∀ w, Blk w P 3 #[.int .i64 (k : Int)] → Blk w W.heap.size 24 (trC t1) → Calls Try.prog 16 #[.pointer (some ⟨b, 0, none⟩), .int .i64 (k : Int), .int .i64 1] w5.drew fun e w' => e = .returned .nilIface ∧ BrgAt w' w3.heap.size b t cc ad (hs.set k (setSt hs[k] 1)) 100 lE (forgetM E (k : Int)) ∧ Blk w' P 3 #[.int .i64 (k : Int)] ∧ Blk w' W.heap.size 24 (trC t1) ∧ Lx w3.heap.size ST w5.drew w') := fun w _ _ => by
    refine (state_ok k hk5 1 w5.drew (hbr5.kept (Below.refl _ _).drew) rfl hlo5).mono ?_
    rintro e w' ⟨h1, h2, h3⟩
    exact ⟨h1, h2, h3.blk HP5.drew (by decide), h3.blk HT5.drew (by decide), h3⟩
  generalize hs.set k (setSt hs[k] 1) = hs2 at *
  have HLN := Lib.hid (look_gone 100 E (k : Int) (by omega) 1 (adF t1.to) tE)
  generalize forgetM E (k : Int) = EF at *
  have hd5 : Below w5.heap.size w5 w5.drew := (Below.refl _ _).drew
  refine wp_region_noPanic ?_
  refine wp_region_held_drew (S := (fun w' => Blk w' P 3 #[.int .i64 (k : Int)] ∧ Blk w' W.heap.size 24 (trC t1))) (by kernel_rfl) ?_ (fun hHeld => ?_)
  · exact ⟨HP5, HT5⟩
  refine wpAnyH_take (i := 0) (v := ?_) rfl (by kernel_rfl) (by kernel_rfl) (by kernel_rfl) (fun _ _ _ h => h) (Or.inl ⟨by rfl, ?_⟩) (by assumption) ?_
  rotate_left
  · (intro w hSw; (try dsimp only at hSw); go_simp; (try with_reducible rfl))
  (try simp only [Act.put, List.getElem_toArray, List.getElem_cons_zero, List.getElem_cons_succ, List.setIfInBounds_toArray, List.set_cons_zero, List.set_cons_succ])
  refine wpAnyH_take (i := 1) (v := .int .i64 (k : Int)) rfl (by kernel_rfl) (by kernel_rfl) (by kernel_rfl) (fun _ _ _ h => h) (Or.inl ⟨by rfl, fun w hSw => by have c := hSw.1.cv 0 (.int .i64 (k : Int)) rfl; go_simp⟩) (by assumption) ?_
  (try simp only [Act.put, List.getElem_toArray, List.getElem_cons_zero, List.getElem_cons_succ, List.setIfInBounds_toArray, List.set_cons_zero, List.set_cons_succ])
  refine wpAnyH_ready (rs := [2]) (by kernel_rfl) (by simp) ?_
  refine AllReadyH.cons rfl (fun K hK => ?_) AllReadyH.nil
  simp only [List.getElem_toArray, List.getElem_cons_zero, List.getElem_cons_succ]
  go_simp
  refine (HSTC.out _ hHeld.1 hHeld.2).mono ?_
  rintro e w8 ⟨rfl, hbr8, hP8, hT8, hx8⟩
  refine hK.out _ _ ?_ (fun hHeld => ?_)
  · exact ⟨hP8, hT8⟩
  clear hK K
  (try simp only [Act.put, List.getElem_toArray, List.getElem_cons_zero, List.getElem_cons_succ, List.setIfInBounds_toArray, List.set_cons_zero, List.set_cons_succ])
  refine wpAnyH_take (i := 3) (v := ?_) rfl (by kernel_rfl) (by kernel_rfl) (by kernel_rfl) (fun _ _ _ h => h) (Or.inl ⟨by rfl, ?_⟩) (by assumption) ?_
  rotate_left
  · (intro w hSw; (try dsimp only at hSw); go_simp; (try with_reducible rfl))
  (try simp only [Act.put, List.getElem_toArray, List.getElem_cons_zero, List.getElem_cons_succ, List.setIfInBounds_toArray, List.set_cons_zero, List.set_cons_succ])
  refine wpAnyH_take (i := 4) (v := ?_) rfl (by kernel_rfl) (by kernel_rfl) (by kernel_rfl) (fun _ _ _ h => h) (Or.inl ⟨by rfl, ?_⟩) (by assumption) ?_
  rotate_left
  · (intro w hSw; (try dsimp only at hSw); go_simp; (try with_reducible rfl))
  (try simp only [Act.put, List.getElem_toArray, List.getElem_cons_zero, List.getElem_cons_succ, List.setIfInBounds_toArray, List.set_cons_zero, List.set_cons_succ])
  refine wpAnyH_take (i := 5) (v := ?_) rfl (by kernel_rfl) (by kernel_rfl) (by kernel_rfl) (fun _ _ _ h => h) (Or.inl ⟨by rfl, ?_⟩) (by assumption) ?_
  rotate_left
  · (intro w hSw; (try dsimp only at hSw); go_simp; (try with_reducible rfl))
  (try simp only [Act.put, List.getElem_toArray, List.getElem_cons_zero, List.getElem_cons_succ, List.setIfInBounds_toArray, List.set_cons_zero, List.set_cons_succ])
  refine wpAnyH_take (i := 6) (v := ?_) rfl (by kernel_rfl) (by kernel_rfl) (by kernel_rfl) (fun _ _ _ h => h) (Or.inl ⟨by rfl, ?_⟩) (by assumption) ?_
  rotate_left
  · (intro w hSw; (try dsimp only at hSw); go_simp; (try with_reducible rfl))
  (try simp only [Act.put, List.getElem_toArray, List.getElem_cons_zero, List.getElem_cons_succ, List.setIfInBounds_toArray, List.set_cons_zero, List.set_cons_succ])
  refine wpAnyH_take (i := 7) (v := .int .i64 t1.to) rfl (by kernel_rfl) (by kernel_rfl) (by kernel_rfl) (fun _ _ _ h => h) (Or.inl ⟨by rfl, fun w hSw => by have c := hSw.2.cv 2 (.int .i64 t1.to) rfl; go_simp⟩) (by assumption) ?_
  (try simp only [Act.put, List.getElem_toArray, List.getElem_cons_zero, List.getElem_cons_succ, List.setIfInBounds_toArray, List.set_cons_zero, List.set_cons_succ])
  refine wpAnyH_take (i := 9) (v := ?_) rfl (by kernel_rfl) (by kernel_rfl) (by kernel_rfl) (fun _ _ _ h => h) (Or.inl ⟨by rfl, ?_⟩) (by assumption) ?_
  rotate_left
  · (intro w hSw; (try dsimp only at hSw); go_simp; (try with_reducible rfl))
  (try simp only [Act.put, List.getElem_toArray, List.getElem_cons_zero, List.getElem_cons_succ, List.setIfInBounds_toArray, List.set_cons_zero, List.set_cons_succ])
  refine wpAnyH_take (i := 11) (v := .int .i64 (k : Int)) rfl (by kernel_rfl) (by kernel_rfl) (by kernel_rfl) (fun _ _ _ h => h) (Or.inl ⟨by rfl, fun w hSw => by have c := hSw.1.cv 0 (.int .i64 (k : Int)) rfl; go_simp⟩) (by assumption) ?_
  (try simp only [Act.put, List.getElem_toArray, List.getElem_cons_zero, List.getElem_cons_succ, List.setIfInBounds_toArray, List.set_cons_zero, List.set_cons_succ])
  refine wpAnyH_ready (rs := [8]) (by kernel_rfl) (by simp) ?_
  refine AllReadyH.cons rfl (fun K hK => ?_) AllReadyH.nil
  simp only [List.getElem_toArray, List.getElem_cons_zero, List.getElem_cons_succ]
  go_simp
  refine (address_any t1.to _).mono ?_
  rintro e w9 ⟨rfl, k9⟩
  have hbr9 := hbr8.kept k9
  have S9 := And.intro (hHeld.1.kept k9) (hHeld.2.kept k9)
  refine hK.out _ _ ?_ (fun hHeld => ?_)
  · exact S9
  clear hK K
  (try simp only [Act.put, List.getElem_toArray, List.getElem_cons_zero, List.getElem_cons_succ, List.setIfInBounds_toArray, List.set_cons_zero, List.set_cons_succ])
  refine wpAnyH_ready (rs := [10]) (by kernel_rfl) (by simp) ?_
  refine AllReadyH.cons rfl (fun K hK => ?_) AllReadyH.nil
  simp only [List.getElem_toArray, List.getElem_cons_zero, List.getElem_cons_succ]
  go_simp
  refine (where_any 1 (adF t1.to) tE _ hbr9).mono ?_
  rintro e w10 ⟨rfl, k10⟩
  have hbr10 := hbr9.kept k10
  have S10 := And.intro (hHeld.1.kept k10) (hHeld.2.kept k10)
  have hl := HLN.out
  refine hK.out _ _ ?_ (fun hHeld => ?_)
  · exact S10
  clear hK K
  (try simp only [Act.put, List.getElem_toArray, List.getElem_cons_zero, List.getElem_cons_succ, List.setIfInBounds_toArray, List.set_cons_zero, List.set_cons_succ])
  refine wpAnyH_take (i := 12) (v := ?_) rfl (by kernel_rfl) (by kernel_rfl) (by kernel_rfl) (fun _ _ _ h => h) (Or.inl ⟨by rfl, ?_⟩) (by assumption) ?_
  rotate_left
  · (intro w hSw; (try dsimp only at hSw); go_simp; (try with_reducible rfl))
  (try simp only [Act.put, List.getElem_toArray, List.getElem_cons_zero, List.getElem_cons_succ, List.setIfInBounds_toArray, List.set_cons_zero, List.set_cons_succ])
  refine wpAnyH_take (i := 13) (v := ?_) rfl (by kernel_rfl) (by kernel_rfl) (by kernel_rfl) (fun _ _ _ h => h) (Or.inl ⟨by rfl, ?_⟩) (by assumption) ?_
  rotate_left
  · (intro w hSw; (try dsimp only at hSw); go_simp; (try with_reducible rfl))
  (try simp only [Act.put, List.getElem_toArray, List.getElem_cons_zero, List.getElem_cons_succ, List.setIfInBounds_toArray, List.set_cons_zero, List.set_cons_succ])
  refine wpAnyH_done (by kernel_rfl) ?_ _
  refine NoPanic.normal ?_
  have hlo8 : w3.heap.size ≤ w8.heap.size := Nat.le_trans (Nat.le_trans hlo5 hd5.size) hx8.size
  have B8 : Below W.heap.size W w8 := (B5.trans (hd5.mono (Nat.le_trans hW3 hlo5))).trans ((hx8.below (Nat.le_trans hlo5 hd5.size)).mono hW3)
  have k810 := k9.trans (k10.mono k9.size)
  have hlo10 := Nat.le_trans hlo8 k810.size
  have B10 := B8.trans (k810.mono (Nat.le_trans hW3 hlo8))
  have HP10 := hHeld.1
  have HT10 := hHeld.2
  have p10 := HP10.cv 0 (.int .i64 (k : Int)) rfl
  clear hHeld S9 S10 hP8 hT8 hx8 k9 k10 k810 hbr8 hbr9 HP5 HT5 hbr5 HSTC hd5 hln hk5 hl
  go_upto_region 12 with (first
    | (refine load_blk 24 (trC t1) (by rfl) rfl rfl HT10 (by kernel_rfl) (by kernel_rfl) (by rfl) ?_)
    | (go_at_call 15; refine (carried_any t1 _).mono ?_; rintro e w11 ⟨⟨ta, tc, rfl, hTg11⟩, k11⟩)
    | (refine alloc_blk 36 (frC zFr) (by rfl) rfl Try.frZeroB ?_)
    | (refine store_blk (B := w11.heap.size) (k := 0) 36 (frV (carF t1 ta tc)) (frC (carF t1 ta tc)) (by rfl) rfl rfl rfl (Blk.new w11 36 (frC zFr)) (by kernel_rfl) (show (21 : Nat) ≤ 21 from Nat.le_refl 21) (by rfl) (st_whole' _ _ rfl) ?_; intro w12 HF12 b12 g12))
  have k12 := k11.trans ((((Below.refl w11.heap.size w11).alloc (Nat.le_refl _) (.cells (frC zFr) 36)).trans b12).mono k11.size)
  have hA11 : w3.heap.size ≤ w11.heap.size := Nat.le_trans hlo10 k11.size
  have hTg12 := hTg11.kept (((Below.refl w11.heap.size w11).alloc (Nat.le_refl _) (.cells (frC zFr) 36)).trans b12)
  have hfr : ∀ w, TagsIn w ta (tagM t1) → FrIn w (carF t1 ta tc) := fun w h => ⟨h, Nat.le_trans (tagM_short t1) (by decide), hTg11.cap.1, show (4 : Nat) ≤ 3000 by decide⟩
  have hfg : ∀ n w, TagsIn w ta (tagM t1) → FrIn w { carF t1 ta tc with d := knownF n } := fun n w h => ⟨h, Nat.le_trans (tagM_short t1) (by decide), hTg11.cap.1, show (4 : Nat) ≤ 3000 by decide⟩
  have HT12 := HT10.kept k12; have HP12 := HP10.kept k12
  have hbr12 := hbr10.kept k12
  have hlo12 := Nat.le_trans hlo10 k12.size
  have B12 := B10.trans (k12.mono (Nat.le_trans hW3 hlo10))
  have p12 := HP12.cv 0 (.int .i64 (k : Int)) rfl
  have HIC : Hid (∀ (j : Nat) lX EX w, BrgAt w w3.heap.size b t cc ad hs2 100 lX EX → TgRow w ta (tagM t1) tc → w3.heap.size ≤ w.heap.size → Calls Try.prog 17 #[.pointer (some ⟨b, 0, none⟩), .int .i64 (j : Int), .agg (frC (carF t1 ta tc)), .int .i64 tE] w fun e w' =>
      ∃ v ss, e = .returned (.tuple #[v, errV (inM (ps5 k 1) 100 lX EX (j : Int) (carF t1 ta tc) tE).err]) ∧ OwnSnH w' w.heap.size v ss ∧ Sents w' (carF t1 ta tc) (vidM (ps5 k 1) (j : Int) (tagM t1)) (ps5 k 1) (inM (ps5 k 1) 100 lX EX (j : Int) (carF t1 ta tc) tE).out ss ∧
        BrgAt w' w3.heap.size b t cc ad hs2 100 (inM (ps5 k 1) 100 lX EX (j : Int) (carF t1 ta tc) tE).last (inM (ps5 k 1) 100 lX EX (j : Int) (carF t1 ta tc) tE).E ∧ Lx w3.heap.size LT w w') := fun j lX EX w h q hb => by
    have := in_any (j : Int) tE (carF t1 ta tc) w h (hfr w q.inL) (q.toK _) (dstF_lt t1) (adF_lt _) hb
    unfold InPost at this
    rw [hmap2] at this
    exact this
  obtain ⟨j, hj, hj5⟩ : ∃ j : Nat, ((k : Int) + 1).tmod 5 = (j : Int) ∧ j < 5 := by
    refine ⟨(k + 1) % 5, ?_, Nat.mod_lt _ (by decide)⟩
    rw [Int.tmod_eq_emod_of_nonneg (by omega)]
    omega
  have r1 : IntKind.i64.wrap ((k : Int) + 1) = (k : Int) + 1 := by rw [IntKind.wrap_i64] <;> omega
  have r2 : wrap64 ((k : Int) + 1) = (k : Int) + 1 := by unfold wrap64; omega
  have r3 : IntKind.i64.wrap (j : Int) = (j : Int) := by rw [IntKind.wrap_i64] <;> omega
  have r4 : wrap64 (j : Int) = (j : Int) := by unfold wrap64; omega
  have hn := pickN_lt t1.to 16 (by decide)
  have hn256 := Nat.lt_of_lt_of_le hn (show 16 ≤ 256 by decide)
  have HB1 := Lib.hid (fun ta tc => blocked_in hk lE tE EF t1 ta tc)
  have HQ2 := Lib.hid (other_out hj5 (show stB 1 = true from rfl) (by decide) hk h0 h1 HT6.out t1 ta tc (E := EF))
  generalize hn0 : pickN t1.to 16 = n at *
  have HN0 := Lib.hid hn0
  clear hn0
  have HIG : Hid (∀ (j : Nat) lX EX w, BrgAt w w3.heap.size b t cc ad hs2 100 lX EX → TgRow w ta (tagM t1) tc → w3.heap.size ≤ w.heap.size → Calls Try.prog 17 #[.pointer (some ⟨b, 0, none⟩), .int .i64 (j : Int), .agg (frC { carF t1 ta tc with d := knownF n }), .int .i64 tE] w fun e w' =>
      ∃ v ss, e = .returned (.tuple #[v, errV (inM (ps5 k 1) 100 lX EX (j : Int) { carF t1 ta tc with d := knownF n } tE).err]) ∧ OwnSnH w' w.heap.size v ss ∧ Sents w' { carF t1 ta tc with d := knownF n } (vidM (ps5 k 1) (j : Int) (tagM t1)) (ps5 k 1) (inM (ps5 k 1) 100 lX EX (j : Int) { carF t1 ta tc with d := knownF n } tE).out ss ∧
        BrgAt w' w3.heap.size b t cc ad hs2 100 (inM (ps5 k 1) 100 lX EX (j : Int) { carF t1 ta tc with d := knownF n } tE).last (inM (ps5 k 1) 100 lX EX (j : Int) { carF t1 ta tc with d := knownF n } tE).E ∧ Lx w3.heap.size LT w w') := fun j lX EX w h q hb => by
    have := in_any (j : Int) tE { carF t1 ta tc with d := knownF n } w h (hfg n w q.inL) (q.toK _) (knownF_lt n hn256) (adF_lt _) hb
    unfold InPost at this
    rw [hmap2] at this
    exact this
  have HKN : Hid (∀ lX EX, inM (ps5 k 1) 100 lX EX (j : Int) { carF t1 ta tc with d := knownF n } tE = ⟨0, lX, EX, []⟩) := fun lX EX => known_in (by rw [ps5_len]; exact hj5) lX tE EX t1 ta tc n hn
  generalize hz : lookM 100 EF 1 (adF t1.frm) tE = z at *
  clear hmap2 hmap HP10 HT10 hbr10 B10 hlo10 p10 hTg11 k11 b12 g12 k12 hfr hfg
  go_upto_region 17 with (first
    | (refine load_blk (k := 6) 33 (c6 (adF t1.frm)) (by rfl) rfl rfl HF12 (by kernel_rfl) (by kernel_rfl) (by rfl) ?_)
    | (go_at_call 19; (with_reducible refine (where_any 1 (adF t1.frm) tE w12 hbr12).mono ?_); rintro e w13 ⟨rfl, k13⟩; rw [hz]; have HF13 := HF12.kept k13; have HT13 := HT12.kept k13; have t13 := HT13.cv 2 (.int .i64 t1.to) rfl; have HP13 := HP12.kept k13; have p13 := HP13.cv 0 (.int .i64 (k : Int)) rfl; have hTg13 := hTg12.kept k13; have hbr13 := hbr12.kept k13; have hlo13 := Nat.le_trans hlo12 (k13).size; have B13 := B12.trans ((k13).mono (Nat.le_trans hW3 hlo12)))
    | (refine load_blk 36 (frC (carF t1 ta tc)) (by rfl) rfl rfl HF13 (by kernel_rfl) (by kernel_rfl) (by rfl) ?_)
    | (go_at_call 17; (with_reducible refine (HIC.out k _ _ w13 hbr13 hTg13 hlo13).mono ?_); rintro e w14 ⟨v, ss, rfl, ho, hss, hbr14, hx14⟩; have HF14 := hx14.blk HF13 (by decide); have HT14 := hx14.blk HT13 (by decide); have t14 := HT14.cv 2 (.int .i64 t1.to) rfl; have HP14 := hx14.blk HP13 (by decide); have p14 := HP14.cv 0 (.int .i64 (k : Int)) rfl; have hTg14 := hTg13.keep (w' := w14) (fun g C q => (hx14.blk q (by decide)).trans q.symm); have hlo14 := Nat.le_trans hlo13 hx14.size; have B14 := B13.trans ((hx14.below hlo13).mono hW3); rw [HB1.out ta tc] at hss hbr14; rw [HB1.out ta tc, show errV (InR.err ⟨0, lE, EF, []⟩) = .nilIface from rfl]; obtain rfl := Sents.nil hss; obtain ⟨aS, cS, rfl, -⟩ := ho.inL)
    | (refine load_blk (k := 6) 33 (c6 (adF t1.frm)) (by rfl) rfl rfl HF14 (by kernel_rfl) (by kernel_rfl) (by rfl) ?_)
    | (go_at_call 19; (with_reducible refine (where_any 1 (adF t1.frm) tE w14 hbr14).mono ?_); rintro e w15 ⟨rfl, k15⟩; rw [hz]; have HF15 := HF14.kept k15; have HT15 := HT14.kept k15; have t15 := HT15.cv 2 (.int .i64 t1.to) rfl; have HP15 := HP14.kept k15; have p15 := HP15.cv 0 (.int .i64 (k : Int)) rfl; have hTg15 := hTg14.kept k15; have hbr15 := hbr14.kept k15; have hlo15 := Nat.le_trans hlo14 (k15).size; have B15 := B14.trans ((k15).mono (Nat.le_trans hW3 hlo14)))
    | (refine load_blk 36 (frC (carF t1 ta tc)) (by rfl) rfl rfl HF15 (by kernel_rfl) (by kernel_rfl) (by rfl) ?_)
    | (go_at_call 17; (with_reducible refine (HIC.out j _ _ w15 hbr15 hTg15 hlo15).mono ?_); rintro e w16 ⟨v, ss, rfl, ho16, hss, hbr16, hx16⟩; have HF16 := hx16.blk HF15 (by decide); have HT16 := hx16.blk HT15 (by decide); have t16 := HT16.cv 2 (.int .i64 t1.to) rfl; have HP16 := hx16.blk HP15 (by decide); have p16 := HP16.cv 0 (.int .i64 (k : Int)) rfl; have hTg16 := hTg15.keep (w' := w16) (fun g C q => (hx16.blk q (by decide)).trans q.symm); have hlo16 := Nat.le_trans hlo15 hx16.size; have B16 := B15.trans ((hx16.below hlo15).mono hW3); rw [HQ2.out.1, show errV 0 = .nilIface from rfl]; obtain ⟨aT, cT, rfl, -⟩ := ho16.inL; have hssl : ss.length ≤ 8 := (by rw [← hss.len]; exact HQ2.out.2.2); have hno := Lib.hid (noport hss HQ2.out.2.1); clear hss))
  clear HIC HB1 HQ2 ho hss HF12 HF13 HF14 HF15 HP12 HP13 HP14 HP15 HT12 HT13 HT14 HT15 hTg12 hTg13 hTg14 hTg15 hbr12 hbr13 hbr14 hbr15 hx14 hx16 p12 p13 p14 p15 t13 t14 t15 hz hlo12 hlo13 hlo14 hlo15 B12 B13 B14 B15 k13 k15
  generalize w11.heap.size = A at *
  go_upto_region 20 with (first
    | (refine load_blk 36 (frC (carF t1 ta tc)) (by rfl) rfl rfl HF16 (by kernel_rfl) (by kernel_rfl) (by rfl) ?_)
    | (refine alloc_blk 36 (frC zFr) (by rfl) rfl Try.frZeroB ?_)
    | (refine store_blk (B := w16.heap.size) (k := 0) 36 (frV (carF t1 ta tc)) (frC (carF t1 ta tc)) (by rfl) rfl rfl rfl (Blk.new w16 36 (frC zFr)) (by kernel_rfl) (show (21 : Nat) ≤ 21 from Nat.le_refl 21) (by rfl) (st_whole' _ _ rfl) ?_; intro w17 HG17 b17 g17; have k17 := ((Below.refl w16.heap.size w16).alloc (Nat.le_refl _) (.cells (frC zFr) 36)).trans b17; have hO17 := ho16.kept k17; have HT17 := HT16.kept k17; have t17 := HT17.cv 2 (.int .i64 t1.to) rfl; have HP17 := HP16.kept k17; have p17 := HP17.cv 0 (.int .i64 (k : Int)) rfl; have hTg17 := hTg16.kept k17; have hbr17 := hbr16.kept k17; have hlo17 := Nat.le_trans hlo16 (k17).size; have B17 := B16.trans ((k17).mono (Nat.le_trans hW3 hlo16)))
    | (go_at_call 14; refine (pick_val t1.to 16 _ (by decide) (by decide)).mono ?_; rintro e w' ⟨rfl, rfl⟩; rw [HN0.out])
    | (go_at_call 34; refine (known_c6 n hn256 _).mono ?_; rintro e w18 ⟨rfl, k18⟩; have HG18 := HG17.kept k18; have hO18 := hO17.kept k18; have HT18 := HT17.kept k18; have t18 := HT18.cv 2 (.int .i64 t1.to) rfl; have HP18 := HP17.kept k18; have p18 := HP18.cv 0 (.int .i64 (k : Int)) rfl; have hTg18 := hTg17.kept k18; have hbr18 := hbr17.kept k18; have hlo18 := Nat.le_trans hlo17 (k18).size; have B18 := B17.trans ((k18).mono (Nat.le_trans hW3 hlo17)))
    | (refine store_blk (B := w16.heap.size) (k := 0) 33 (.agg (c6 (knownF n))) (frC { carF t1 ta tc with d := knownF n }) (by rfl) rfl rfl rfl HG18 (by kernel_rfl) (show (6 : Nat) ≤ 21 by decide) (by rfl) rfl ?_; intro w19 HG19 b19 g19; have hO19 := sn_keep hO18 (fun g C q => g19.block g q.lt (by intro e; cases e; exact absurd (blk_type q HG18) (by decide))); have HP19 := HP18.grown g19 (by intro e; cases e; exact absurd (blk_type HP18 HG18) (by decide)); have p19 := HP19.cv 0 (.int .i64 (k : Int)) rfl; have hTg19 := hTg18.keep (w' := w19) (fun g C q => g19.block g q.lt (by intro e; cases e; exact absurd (blk_type q HG18) (by decide))); have hbr19 := hbr18.keep (w' := w19) (fun g T C q _ hT => g19.block g q.lt (by intro e; cases e; have h := blk_type q HG18; subst h; exact absurd hT (by decide))); have hlo19 := Nat.le_trans hlo18 g19.size; have B19 := B18.trans (b19.mono (Nat.le_trans hW3 hlo16)))
    | (refine load_blk 36 (frC { carF t1 ta tc with d := knownF n }) (by rfl) rfl rfl HG19 (by kernel_rfl) (by kernel_rfl) (by rfl) ?_)
    | (go_at_call 17; refine (HIG.out j _ _ w19 hbr19 hTg19 hlo19).mono ?_; rintro e w20 ⟨v, ss2, rfl, ho20, hss20, hbr20, hx20⟩; have hO20 := sn_keep hO19 (fun g C q => (hx20.blk q (by decide)).trans q.symm); have HP20 := hx20.blk HP19 (by decide); have hlo20 := Nat.le_trans hlo19 hx20.size; have B20 := B19.trans ((hx20.below hlo19).mono hW3); rw [HKN.out] at hss20; rw [HKN.out, show errV (InR.err ⟨0, _, _, []⟩) = .nilIface from rfl]; obtain rfl := Sents.nil hss20; obtain ⟨aU, cU, rfl, -⟩ := ho20.inL; obtain ⟨aT', cT', eT, hIT20⟩ := hO20.inL; obtain ⟨rfl, -, rfl⟩ := (Value.slice.inj eT)))
  go_wp2_with (go_at_call 20; refine (blocked1_no aT cT ss P (k : Int) w20 hIT20 hssl HP20 hno.out).mono ?_; rintro e w21 ⟨rfl, k21⟩)
  go_ret
  exact ⟨rfl, B20.trans (k21.mono (Nat.le_trans hW3 hlo20))⟩

end Go.Proofs.Ytdceggekhhflgaa.bridgeBlocked
