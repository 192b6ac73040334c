/- switchyardkeep.BridgeQuiet. -/
import Derived.Test.YtdceggekhhflgaaKs
import Derived.Test.YtdceggekhhflgaaPs
import Derived.Test.YtdceggekhhflgaaPlN
namespace Go.Proofs.Ytdceggekhhflgaa.bridgeQuiet
open Go.RowKit
attribute [local go_sem ↓] Go.wp_at_zero Go.wp_at_succ
set_option linter.unusedSimpArgs false
set_option linter.unusedVariables false
set_option maxRecDepth 100000

theorem box_int {P : Program} {ops : Array Oper} {rest : List Oper} {o : Oper} {a : Act} {w : World} {Q : Exit → Act → World → Prop} {x : Operand} (t : TypeId) (z : Int) (hw : Region.wanted o (yielded ops a.tmps) = true) (ho : o.op = .box t x) (hx : a.eval x = .int .i64 z)
    (h : wpList P ops Q rest (a.put o.dst (.pointer (some ⟨w.heap.size, 0, none⟩))) (w.alloc (.cells #[.int .i64 z] t))) : wpList P ops Q (o :: rest) a w :=
  wpList_step fun K hK => by
    have h1 : (Instr.box t (.int .i64 z)).run P w = .ok (.pointer (some ⟨w.heap.size, 0, none⟩)) (w.alloc (.cells #[.int .i64 z] t)) := by
      simp [Instr.box, newVar, newRow, newObj, Value.cells]
      rfl
    rw [if_pos hw]
    unfold Oper.wp execOp
    simp only [ho, hx, Sem.run_bind, Sem.run_pure, Result.andThen_ok, h1]
    exact hK _ _ h

theorem noport {w : World} {f : Fr} {vid : Int} {ps : List Ps} {is : List Nat} {ss : List SnH} (h : Sents w f vid ps is ss) {k : Nat} (hk : ∀ i ∈ is, i ≠ k) : ∀ s ∈ ss, (s.p == (k : Int)) = false := fun s hs => by
  obtain ⟨i, hi, e⟩ := Sents.mem h s hs
  rw [e, beq_eq_false_iff_ne]
  have := hk i hi
  omega

theorem drewT {w : World} {ta : Option Addr} {tl : List Tg} {tc : Nat} (h : TgRow w ta tl tc) : TgRow w.drew ta tl tc := h

theorem enters_quiet1 : ∀ args w, (callFunc 21 args).run Try.prog w = .ok (.enter 21 args) w := fun args w => by kernel_rfl

set_option maxHeartbeats 1600000 in
theorem quiet1_one (s : SnH) (P : Nat) (k : Int) (w : World) (h : Blk w P 3 #[.int .i64 k]) :
    Calls Try.prog 21 #[.agg (snC s), .pointer (some ⟨P, 0, none⟩)] w fun e w' => e = .returned (.bool (s.p == k)) ∧ Below w.heap.size w w' := by
  have hb0 : Below w.heap.size w (w.alloc (.cells (snC s) 48)) := (Below.refl _ _).alloc (Nat.le_refl _) _
  have c0 := (Blk.new w 48 (snC s)).cv 0 (.int .i64 s.p) rfl
  have c1 := (h.kept hb0).cv 0 (.int .i64 k) rfl
  go_enter Try.func21, Try.ntmps21
  go_wp2_with (refine box_blk 48 (snC s) (by rfl) rfl rfl ?_)
  go_ret
  exact ⟨rfl, hb0⟩

set_option maxHeartbeats 1600000 in
theorem quiet1_index (a : Option Addr) (c : Nat) (l : List SnH) (P : Nat) (k : Int) (w : World) (h : SnIn w a l) (hlen : l.length ≤ 8) (hP : Blk w P 3 #[.int .i64 k]) (hno : ∀ s ∈ l, (s.p == k) = false) :
    Calls Try.prog 45 #[.slice a l.length c, .func (.func 21) #[] #[.pointer (some ⟨P, 0, none⟩)]] w fun e w' => e = .returned (.int .i64 (-1)) ∧ Below w.heap.size w w' := by
  have HLEN := Lib.hid hlen
  have HNO := Lib.hid hno
  have HON := Lib.hid (fun s w h => quiet1_one s P k w h)
  clear hlen hno
  go_enter Try.func45, Try.ntmps45
  go_wp2_with fail
  go_loopw [8] (fun i wr => ∃ j : Nat, j ≤ l.length ∧ i = .int .i64 j ∧ Below w.heap.size w wr) (fun i _ => l.length - (intOf i).toNat)
  case atStart => exact ⟨0, by omega, rfl, Below.refl _ _⟩
  case round =>
    obtain ⟨j, hj, rfl, Bk⟩ := hrel
    by_cases hlt : j < l.length
    · have hI := h.below Bk
      obtain ⟨b, lo, rfl, hbl, hat⟩ := hI.at hlt
      have q1 : (j : Int) < (l.length : Int) := by omega
      have q2 : decide ((j : Int) < (l.length : Int)) = true := decide_eq_true q1
      have q3 : (0 : Int) ≤ (j : Int) := by omega
      have q4 : IntKind.i64.wrap ((j : Int) + 1) = (j : Int) + 1 := by have := HLEN.out; rw [IntKind.wrap_i64] <;> omega
      have HK := hat j hlt
      have hx := HNO.out _ (List.getElem_mem hlt)
      generalize l[j] = s at *
      have HP1 := Lib.hid (HON.out s wr (hP.kept Bk))
      rw [hx] at HP1
      clear hat hI h HON hbl hx
      go_wp2_with (first
        | (refine load_cells (B := b) (k := lo + j * 22) 48 (snC s) (by rfl) rfl rfl HK (by kernel_rfl) (by kernel_rfl) ?_)
        | (refine HP1.out.mono ?_; rintro e w1 ⟨rfl, k1⟩))
      go_roundw
      case rel => exact ⟨j + 1, by omega, by go_num, Bk.trans (k1.mono Bk.size)⟩
      case measure => simp [intOf]; omega
    · obtain rfl : j = l.length := by omega
      have q2 : decide ((l.length : Int) < (l.length : Int)) = false := decide_eq_false (by omega)
      go_wp2
      go_ret
      exact ⟨rfl, Bk⟩

theorem quiet1_no (a : Option Addr) (c : Nat) (l : List SnH) (P : Nat) (k : Int) (w : World) (h : SnIn w a l) (hlen : l.length ≤ 8) (hP : Blk w P 3 #[.int .i64 k]) (hno : ∀ s ∈ l, (s.p == k) = false) :
    Calls Try.prog 20 #[.slice a l.length c, .func (.func 21) #[] #[.pointer (some ⟨P, 0, none⟩)]] w fun e w' => e = .returned (.bool false) ∧ Below w.heap.size w w' := by
  have HI := Lib.hid (quiet1_index a c l P k w h hlen hP hno)
  clear hno hlen
  go_enter Try.func20, Try.ntmps20
  go_wp2_with (refine HI.out.mono ?_; rintro e w' ⟨rfl, kb⟩)
  go_ret
  exact ⟨rfl, kb⟩

set_option maxHeartbeats 6400000 in
theorem walk (a0 : Option Addr) (c0 : Nat) (l0 : List Tr) (t1 : Tr) (a2 : Int) (W : World) (hin0 : TrIn W a0 l0) (hl0 : l0.length ≤ maxLen) :
    Calls Try.prog 3 #[.slice a0 l0.length c0, .agg (trC t1), .int .i64 a2] W fun e w' => e = .returned (.bool true) ∧ Below W.heap.size W w' := by
  have b0 : Below W.heap.size W (W.alloc (.cells (trC t1) 24)) := (Below.refl _ _).alloc (Nat.le_refl _) _
  have B0 := b0.alloc b0.size (.cells #[.int .i64 a2] 3)
  have HT1 := (Blk.new W 24 (trC t1)).alloc (.cells #[.int .i64 a2] 3)
  have HP1 := Blk.new (W.alloc (.cells (trC t1) 24)) 3 #[.int .i64 a2]
  have hTP : W.heap.size < (W.alloc (.cells (trC t1) 24)).heap.size := (Blk.new W 24 (trC t1)).lt
  have e1 : (W.alloc (.cells (trC t1) 24)).heap.size = W.heap.size + 1 := by simp
  rw [e1] at HP1 hTP
  clear b0 e1
  by_cases h60 : 60 < l0.length
  · have e60 : decide ((60 : Int) < (l0.length : Int)) = true := decide_eq_true (by omega)
    clear hin0
    go_enter Try.func3, Try.ntmps3
    go_upto_region 1 with (first
      | (refine box_blk 24 (trC t1) (by rfl) rfl rfl ?_)
      | (refine box_int 3 a2 (by rfl) rfl rfl ?_))
    generalize W.heap.size + 1 = P at *
    generalize (W.alloc (.cells (trC t1) 24)).alloc (.cells #[.int .i64 a2] 3) = w1 at *
    go_wp2_with (go_at_call 11; refine (passes_any _).mono ?_; rintro e w2 ⟨rfl, k2⟩; have B2 := B0.trans (k2.mono B0.size))
    go_ret
    exact ⟨rfl, B2⟩
  have e60 : decide ((60 : Int) < (l0.length : Int)) = false := decide_eq_false (by omega)
  have HN60 : Hid (l0.length ≤ 60) := by show _ ≤ _; omega
  have HSRV := Lib.hid (srvM_ok (ps := List.replicate 5 pP) (fun p hp => by rw [(List.mem_replicate.1 hp).2]; exact pP_ok) (by simp) (by simp) l0 (by omega))
  obtain ⟨lE, E, tE, hsv⟩ : ∃ lE E tE, srvM (List.replicate 5 pP) l0 = (lE, E, tE) := ⟨_, _, _, rfl⟩
  rw [hsv] at HSRV
  have HSV := Lib.hid hsv
  clear hsv h60
  have h0 := HSRV.out.last0
  have h1 := HSRV.out.last1
  have h2 := HSRV.out.now
  simp only at h0 h1 h2
  have HT6 : Hid (tE ≤ 1000000) := by show _ ≤ _; have := HN60.out; omega
  go_enter Try.func3, Try.ntmps3
  go_upto_region 1 with (first
    | (refine box_blk 24 (trC t1) (by rfl) rfl rfl ?_)
    | (refine box_int 3 a2 (by rfl) rfl rfl ?_))
  generalize W.heap.size + 1 = P at *
  generalize (W.alloc (.cells (trC t1) 24)).alloc (.cells #[.int .i64 a2] 3) = w1 at *
  go_upto_region 8 with (first
    | (go_at_call 11; refine (passes_any _).mono ?_; rintro e w2 ⟨rfl, k2⟩; have B2 := B0.trans (k2.mono B0.size))
    | (go_at_call 13; refine (plainPorts_any 5 (by decide) _).mono ?_; rintro e w3 ⟨⟨v, L, rfl, hO, hL, hP⟩, k3⟩; obtain ⟨aP, cP, rfl, hIP⟩ := hO.inL; have B3 := B2.trans (k3.mono B2.size); have HL5 := Lib.hid (show L.length = 5 by have := congrArg List.length hL; simpa using this); have HPR : Hid (∀ x ∈ L, okPs x.x = true) := (fun x hx => by have hm : x.x ∈ L.map PsH.x := List.mem_map.2 ⟨x, hx, rfl⟩; rw [hL] at hm; rw [(List.mem_replicate.1 hm).2]; exact pP_ok); have HPO : Hid (∀ x ∈ L, PsOk w3 x) := (fun x hx => (hP x hx).ok))
    | (go_at_call 12; refine (served_any aP cP L a0 c0 l0 w3 hIP HPO.out (by rw [HL5.out]; decide) HPR.out (by rw [HL5.out]; decide) (hin0.below B3) HN60.out).mono ?_; rintro e w4 ⟨⟨b, t, cc, ad, hs, rfl, hmap, hbr⟩, k4⟩; rw [hL, HSV.out] at hbr; rw [hL, HSV.out]; rw [hL] at hmap))
  have HT4 : Blk w4 W.heap.size 24 (trC t1) := ((HT1.kept k2).kept k3).kept k4
  have HP4 : Blk w4 P 3 #[.int .i64 a2] := ((HP1.kept k2).kept k3).kept k4
  have B4 := B3.trans (k4.mono B3.size)
  have hlo4 : w3.heap.size ≤ w4.heap.size := k4.size
  have hP3 : P < w3.heap.size := Nat.lt_of_lt_of_le (Nat.lt_of_lt_of_le HP1.lt k2.size) k3.size
  have hW3 := B3.size
  clear hO hP hIP HPO HPR HT1 HP1 hin0 B2 B0 k2 k3 k4
  have p4 := HP4.cv 0 (.int .i64 a2) rfl
  go_upto_region 10 with (first
    | (go_at_call 14; refine (pick_val a2 5 _ (by decide) (by decide)).mono ?_; rintro e w' ⟨rfl, rfl⟩)
    | (refine store_blk (B := P) (k := 0) 3 (.int .i64 (pickN a2 5 : Nat)) #[.int .i64 (pickN a2 5 : Nat)] (by rfl) rfl rfl rfl HP4 (by kernel_rfl) (show (1 : Nat) ≤ 1 from Nat.le_refl 1) (by rfl) rfl ?_; intro w5 HP5 b5 g5; have HT5 := HT4.grown g5 (by intro e; cases e; omega); have hbr5 := hbr.keep (w' := w5) fun g T C q hg hT => g5.block g q.lt (by intro e; cases e; omega); have p5 := HP5.cv 0 (.int .i64 (pickN a2 5 : Nat)) rfl)
    | (refine load_blk 24 (trC t1) (by rfl) rfl rfl HT5 (by kernel_rfl) (by kernel_rfl) (by rfl) ?_)
    | (go_at_call 15; refine (carried_any t1 _).mono ?_; rintro e w6 ⟨⟨ta, tc, rfl, hTg6⟩, k6⟩; have HP6 := HP5.kept k6; have hbr6 := hbr5.kept k6)
    | (refine alloc_blk 36 (frC zFr) (by rfl) rfl Try.frZeroB ?_)
    | (refine store_blk (B := w6.heap.size) (k := 0) 36 (frV (carF t1 ta tc)) (frC (carF t1 ta tc)) (by rfl) rfl rfl rfl (Blk.new w6 36 (frC zFr)) (by kernel_rfl) (show (21 : Nat) ≤ 21 from Nat.le_refl 21) (by rfl) (st_whole' _ _ rfl) ?_; intro w7 HF7 b7 g7))
  have k67 := ((Below.refl w6.heap.size w6).alloc (Nat.le_refl _) (.cells (frC zFr) 36)).trans b7
  have HP7 := HP6.kept k67
  have hbr7 := hbr6.kept k67
  have hTg7 := hTg6.kept k67
  have hlo7 : w3.heap.size ≤ w7.heap.size := Nat.le_trans (Nat.le_trans (Nat.le_trans hlo4 g5.size) k6.size) k67.size
  have B7 : Below W.heap.size W w7 := ((B4.trans (b5.mono (Nat.le_of_lt hTP))).trans (k6.mono (Nat.le_trans B4.size g5.size))).trans (k67.mono (Nat.le_trans (Nat.le_trans B4.size g5.size) k6.size))
  have hk := pickN_lt a2 5 (by decide)
  have p7 := HP7.cv 0 (.int .i64 (pickN a2 5 : Nat)) rfl
  have hFlo : w3.heap.size ≤ w6.heap.size := Nat.le_trans (Nat.le_trans hlo4 g5.size) k6.size
  have hfr : ∀ w, TagsIn w ta (tagM t1) → FrIn w (carF t1 ta tc) := fun w h => ⟨h, Nat.le_trans (tagM_short t1) (by decide), hTg6.cap.1, show (4 : Nat) ≤ 3000 by decide⟩
  have hln : hs.length = 5 := by have := congrArg List.length hmap; simpa using this
  clear hbr hbr5 hbr6 HP4 HP5 HP6 HT4 k6 b5 g5 b7 g7 k67 p5 hTg6
  generalize pickN a2 5 = k at *
  generalize w6.heap.size = A at *
  have hk5 : k < hs.length := by rw [hln]; exact hk
  have HSTC := Lib.hid (state_ok k hk5 2 w7 hbr7 rfl hlo7)
  have hmap2 := set_map hs k hk5 2 hmap
  generalize hs.set k (setSt hs[k] 2) = hs2 at *
  have HVC : Hid (∀ (j : Nat) lX EX w, BrgAt w w3.heap.size b t cc ad hs2 100 lX EX → TagsIn w ta (tagM t1) → Calls Try.prog 18 #[.pointer (some ⟨b, 0, none⟩), .int .i64 (j : Int), .agg (frC (carF t1 ta tc))] w fun e w' => e = .returned (.int .i64 (vidM (ps5 k 2) (j : Int) (tagM t1))) ∧ Below w.heap.size w w') := fun j lX EX w h q => by
    have := vid_any (j : Int) (carF t1 ta tc) w h q (Nat.le_trans (tagM_short t1) (by decide))
    rw [hmap2] at this
    exact this
  have HIC : Hid (∀ (j : Nat) lX EX w, BrgAt w w3.heap.size b t cc ad hs2 100 lX EX → TgRow w ta (tagM t1) tc → w3.heap.size ≤ w.heap.size → Calls Try.prog 17 #[.pointer (some ⟨b, 0, none⟩), .int .i64 (j : Int), .agg (frC (carF t1 ta tc)), .int .i64 tE] w fun e w' =>
      ∃ v ss, e = .returned (.tuple #[v, errV (inM (ps5 k 2) 100 lX EX (j : Int) (carF t1 ta tc) tE).err]) ∧ OwnSnH w' w.heap.size v ss ∧ Sents w' (carF t1 ta tc) (vidM (ps5 k 2) (j : Int) (tagM t1)) (ps5 k 2) (inM (ps5 k 2) 100 lX EX (j : Int) (carF t1 ta tc) tE).out ss ∧
        BrgAt w' w3.heap.size b t cc ad hs2 100 (inM (ps5 k 2) 100 lX EX (j : Int) (carF t1 ta tc) tE).last (inM (ps5 k 2) 100 lX EX (j : Int) (carF t1 ta tc) tE).E ∧ Lx w3.heap.size LT w w') := fun j lX EX w h q hb => by
    have := in_any (j : Int) tE (carF t1 ta tc) w h (hfr w q.inL) (q.toK _) (dstF_lt t1) (adF_lt _) hb
    unfold InPost at this
    rw [hmap2] at this
    exact this
  clear hmap2 hk5 hmap hfr hln
  obtain ⟨l2, E2, hq1, hl20, hl21, hlk⟩ := quiet_first hk h0 h1 HT6.out t1 (E := E)
  have HQ1 := Lib.hid hq1
  have STE : stE E (k : Int) 2 = E := if_neg (by decide)
  generalize hV : vidM (ps5 k 2) (k : Int) (tagM t1) = V at *
  obtain ⟨j, hj, hj5⟩ : ∃ j : Nat, ((k : Int) + 1).tmod 5 = (j : Int) ∧ j < 5 := by
    refine ⟨(k + 1) % 5, ?_, Nat.mod_lt _ (by decide)⟩
    rw [Int.tmod_eq_emod_of_nonneg (by omega)]
    omega
  have r1 : IntKind.i64.wrap ((k : Int) + 1) = (k : Int) + 1 := by rw [IntKind.wrap_i64] <;> omega
  have r2 : wrap64 ((k : Int) + 1) = (k : Int) + 1 := by unfold wrap64; omega
  have r3 : IntKind.i64.wrap (j : Int) = (j : Int) := by rw [IntKind.wrap_i64] <;> omega
  have r4 : wrap64 (j : Int) = (j : Int) := by unfold wrap64; omega
  have HQ2 : Hid ((inM (ps5 k 2) 100 l2 E2 (j : Int) (carF t1 ta tc) tE).err = 0 ∧ (∀ i ∈ (inM (ps5 k 2) 100 l2 E2 (j : Int) (carF t1 ta tc) tE).out, i ≠ k) ∧ (inM (ps5 k 2) 100 l2 E2 (j : Int) (carF t1 ta tc) tE).out.length ≤ 8) := other_out hj5 rfl (by decide) hk hl20 hl21 HT6.out t1 ta tc
  have HVC1 := Lib.hid (fun lX EX w h q => HVC.out k lX EX w h q)
  rw [hV] at HVC1
  clear hq1
  go_upto_region 16 with (first
    | (go_at_call 16; refine HSTC.out.mono ?_; rintro e w8 ⟨rfl, hbr8, hx8⟩; rw [STE] at hbr8; have HF8 := hx8.blk HF7 (by decide); have HP8 := hx8.blk HP7 (by decide); have p8 := HP8.cv 0 (.int .i64 (k : Int)) rfl; have hTg8 := hTg7.keep (w' := w8) (fun g C q => (hx8.blk q (by decide)).trans q.symm); have hlo8 := Nat.le_trans hlo7 hx8.size; have B8 := B7.trans ((hx8.below hlo7).mono hW3))
    | (refine load_blk 36 (frC (carF t1 ta tc)) (by rfl) rfl rfl HF8 (by kernel_rfl) (by kernel_rfl) (by rfl) ?_)
    | (go_at_call 17; refine (HIC.out k _ _ w8 hbr8 hTg8 hlo8).mono ?_; rintro e w9 ⟨v, ss, rfl, ho, hss, hbr9, hx9⟩; have HF9 := hx9.blk HF8 (by decide); have HP9 := hx9.blk HP8 (by decide); have p9 := HP9.cv 0 (.int .i64 (k : Int)) rfl; have hTg9 := hTg8.keep (w' := w9) (fun g C q => (hx9.blk q (by decide)).trans q.symm); have hlo9 := Nat.le_trans hlo8 hx9.size; have B9 := B8.trans ((hx9.below hlo8).mono hW3); rw [HQ1.out ta tc] at hss hbr9; rw [HQ1.out ta tc, show errV (InR.err ⟨0, l2, E2, []⟩) = .nilIface from rfl]; obtain rfl := Sents.nil hss; obtain ⟨aS, cS, rfl, -⟩ := ho.inL)
    | (go_at_call 18; refine (HVC1.out _ _ _ hbr9 hTg9.inL).mono ?_; rintro e w10 ⟨rfl, k10⟩; have HF10 := HF9.kept k10; have HP10 := HP9.kept k10; have p10 := HP10.cv 0 (.int .i64 (k : Int)) rfl; have hTg10 := hTg9.kept k10; have hbr10 := hbr9.kept k10; have hlo10 := Nat.le_trans hlo9 k10.size; have B10 := B9.trans (k10.mono (Nat.le_trans hW3 hlo9)))
    | (refine load_blk 36 (frC (carF t1 ta tc)) (by rfl) rfl rfl HF9 (by kernel_rfl) (by kernel_rfl) (by rfl) ?_))
  rcases hlk with hV0 | ⟨hV1, hlk⟩
  · have e0 : decide ((0 : Int) < V) = false := decide_eq_false (by omega)
    refine wp_region_noPanic ?_
    refine wp_region_held_drew (S := (fun w' => BrgAt w' w3.heap.size b t cc ad hs2 100 l2 E2 ∧ Blk w' A 36 (frC (carF t1 ta tc)) ∧ Blk w' P 3 #[.int .i64 (k : Int)])) (by kernel_rfl) ?_ (fun hHeld => ?_)
    · exact ⟨hbr10.kept (Below.refl _ _).drew, HF10, HP10⟩
    refine wpAnyH_take (i := 0) (v := ?_) rfl (by kernel_rfl) (by kernel_rfl) (by kernel_rfl) (fun _ _ _ h => h) (Or.inl ⟨by rfl, ?_⟩) (by assumption) ?_
    rotate_left
    · (intro w hSw; (try dsimp only at hSw); go_simp; (try with_reducible rfl))
    (try simp only [Act.put, List.getElem_toArray, List.getElem_cons_zero, List.getElem_cons_succ, List.setIfInBounds_toArray, List.set_cons_zero, List.set_cons_succ])
    refine wpAnyH_take (i := 1) (v := ?_) rfl (by kernel_rfl) (by kernel_rfl) (by kernel_rfl) (fun _ _ _ h => h) (Or.inl ⟨by rfl, ?_⟩) (by assumption) ?_
    rotate_left
    · (intro w hSw; (try dsimp only at hSw); go_simp; (try with_reducible rfl))
    (try simp only [Act.put, List.getElem_toArray, List.getElem_cons_zero, List.getElem_cons_succ, List.setIfInBounds_toArray, List.set_cons_zero, List.set_cons_succ])
    refine wpAnyH_take (i := 2) (v := ?_) rfl (by kernel_rfl) (by kernel_rfl) (by kernel_rfl) (fun _ _ _ h => h) (Or.inl ⟨by rfl, ?_⟩) (by assumption) ?_
    rotate_left
    · (intro w hSw; (try dsimp only at hSw); go_simp; (try with_reducible rfl))
    (try simp only [Act.put, List.getElem_toArray, List.getElem_cons_zero, List.getElem_cons_succ, List.setIfInBounds_toArray, List.set_cons_zero, List.set_cons_succ])
    refine wpAnyH_take (i := 3) (v := undef) rfl (by kernel_rfl) (by kernel_rfl) (by kernel_rfl) (fun _ _ _ h => h) (Or.inr ⟨by rfl, rfl⟩) (by assumption) ?_
    (try simp only [Act.put, List.getElem_toArray, List.getElem_cons_zero, List.getElem_cons_succ, List.setIfInBounds_toArray, List.set_cons_zero, List.set_cons_succ])
    refine wpAnyH_take (i := 4) (v := undef) rfl (by kernel_rfl) (by kernel_rfl) (by kernel_rfl) (fun _ _ _ h => h) (Or.inr ⟨by rfl, rfl⟩) (by assumption) ?_
    (try simp only [Act.put, List.getElem_toArray, List.getElem_cons_zero, List.getElem_cons_succ, List.setIfInBounds_toArray, List.set_cons_zero, List.set_cons_succ])
    refine wpAnyH_take (i := 5) (v := undef) rfl (by kernel_rfl) (by kernel_rfl) (by kernel_rfl) (fun _ _ _ h => h) (Or.inr ⟨by rfl, rfl⟩) (by assumption) ?_
    (try simp only [Act.put, List.getElem_toArray, List.getElem_cons_zero, List.getElem_cons_succ, List.setIfInBounds_toArray, List.set_cons_zero, List.set_cons_succ])
    refine wpAnyH_take (i := 6) (v := undef) rfl (by kernel_rfl) (by kernel_rfl) (by kernel_rfl) (fun _ _ _ h => h) (Or.inr ⟨by rfl, rfl⟩) (by assumption) ?_
    (try simp only [Act.put, List.getElem_toArray, List.getElem_cons_zero, List.getElem_cons_succ, List.setIfInBounds_toArray, List.set_cons_zero, List.set_cons_succ])
    refine wpAnyH_take (i := 7) (v := undef) rfl (by kernel_rfl) (by kernel_rfl) (by kernel_rfl) (fun _ _ _ h => h) (Or.inr ⟨by rfl, rfl⟩) (by assumption) ?_
    (try simp only [Act.put, List.getElem_toArray, List.getElem_cons_zero, List.getElem_cons_succ, List.setIfInBounds_toArray, List.set_cons_zero, List.set_cons_succ])
    refine wpAnyH_take (i := 8) (v := undef) rfl (by kernel_rfl) (by kernel_rfl) (by kernel_rfl) (fun _ _ _ h => h) (Or.inr ⟨by rfl, rfl⟩) (by assumption) ?_
    (try simp only [Act.put, List.getElem_toArray, List.getElem_cons_zero, List.getElem_cons_succ, List.setIfInBounds_toArray, List.set_cons_zero, List.set_cons_succ])
    refine wpAnyH_take (i := 9) (v := undef) rfl (by kernel_rfl) (by kernel_rfl) (by kernel_rfl) (fun _ _ _ h => h) (Or.inr ⟨by rfl, rfl⟩) (by assumption) ?_
    (try simp only [Act.put, List.getElem_toArray, List.getElem_cons_zero, List.getElem_cons_succ, List.setIfInBounds_toArray, List.set_cons_zero, List.set_cons_succ])
    refine wpAnyH_take (i := 10) (v := undef) rfl (by kernel_rfl) (by kernel_rfl) (by kernel_rfl) (fun _ _ _ h => h) (Or.inr ⟨by rfl, rfl⟩) (by assumption) ?_
    (try simp only [Act.put, List.getElem_toArray, List.getElem_cons_zero, List.getElem_cons_succ, List.setIfInBounds_toArray, List.set_cons_zero, List.set_cons_succ])
    refine wpAnyH_take (i := 11) (v := ?_) rfl (by kernel_rfl) (by kernel_rfl) (by kernel_rfl) (fun _ _ _ h => h) (Or.inl ⟨by rfl, ?_⟩) (by assumption) ?_
    rotate_left
    · (intro w hSw; (try dsimp only at hSw); go_simp; (try with_reducible rfl))
    (try simp only [Act.put, List.getElem_toArray, List.getElem_cons_zero, List.getElem_cons_succ, List.setIfInBounds_toArray, List.set_cons_zero, List.set_cons_succ])
    refine wpAnyH_done (by kernel_rfl) ?_ _
    refine NoPanic.normal ?_
    have hd : Below w10.heap.size w10 w10.drew := (Below.refl _ _).drew
    have hbr11 := hHeld.1
    have HF11 := hHeld.2.1
    have HP11 := hHeld.2.2
    have p11 := HP11.cv 0 (.int .i64 (k : Int)) rfl
    have hTg11 := hTg10.kept hd
    have hlo11 : w3.heap.size ≤ w10.drew.heap.size := Nat.le_trans hlo10 hd.size
    have B11 := B10.trans (hd.mono (Nat.le_trans hW3 hlo10))
    clear HQ1 HVC HVC1 HSTC hHeld HF8 HF9 HF10 HP8 HP9 HP10 p8 p9 p10 hbr8 hbr9 hbr10 hd
    go_wp2_with (first
      | (refine load_blk 36 (frC (carF t1 ta tc)) (by rfl) rfl rfl HF11 (by kernel_rfl) (by kernel_rfl) (by rfl) ?_)
      | (go_at_call 17; refine (HIC.out j _ _ w10.drew hbr11 hTg11 hlo11).mono ?_; rintro e w12 ⟨v, ss, rfl, ho, hss, hbr12, hx12⟩; have HF12 := hx12.blk HF11 (by decide); have HP12 := hx12.blk HP11 (by decide); have p12 := HP12.cv 0 (.int .i64 (k : Int)) rfl; have hTg12 := hTg11.keep (w' := w12) (fun g C q => (hx12.blk q (by decide)).trans q.symm); have hlo12 := Nat.le_trans hlo11 hx12.size; have B12 := B11.trans ((hx12.below hlo11).mono hW3); rw [HQ2.out.1, show errV 0 = .nilIface from rfl]; obtain ⟨aT, cT, rfl, hIT⟩ := ho.inL; have hssl : ss.length ≤ 8 := (by rw [← hss.len]; exact HQ2.out.2.2); have hno : ∀ s ∈ ss, (s.p == (k : Int)) = false := noport hss HQ2.out.2.1)
      | (go_at_call 20; refine (quiet1_no aT cT ss P (k : Int) w12 hIT hssl HP12 hno).mono ?_; rintro e w13 ⟨rfl, k13⟩))
    go_ret
    exact ⟨rfl, B12.trans (k13.mono (Nat.le_trans hW3 hlo12))⟩
  · have e0 : decide ((0 : Int) < V) = true := decide_eq_true (by omega)
    have HLK := Lib.hid hlk
    clear hlk
    refine wp_region_noPanic ?_
    refine wp_region_held_drew (S := (fun w' => BrgAt w' w3.heap.size b t cc ad hs2 100 l2 E2 ∧ Blk w' A 36 (frC (carF t1 ta tc)) ∧ Blk w' P 3 #[.int .i64 (k : Int)])) (by kernel_rfl) ?_ (fun hHeld => ?_)
    · exact ⟨hbr10.kept (Below.refl _ _).drew, HF10, HP10⟩
    refine wpAnyH_take (i := 0) (v := ?_) rfl (by kernel_rfl) (by kernel_rfl) (by kernel_rfl) (fun _ _ _ h => h) (Or.inl ⟨by rfl, ?_⟩) (by assumption) ?_
    rotate_left
    · (intro w hSw; (try dsimp only at hSw); go_simp; (try with_reducible rfl))
    (try simp only [Act.put, List.getElem_toArray, List.getElem_cons_zero, List.getElem_cons_succ, List.setIfInBounds_toArray, List.set_cons_zero, List.set_cons_succ])
    refine wpAnyH_take (i := 1) (v := ?_) rfl (by kernel_rfl) (by kernel_rfl) (by kernel_rfl) (fun _ _ _ h => h) (Or.inl ⟨by rfl, ?_⟩) (by assumption) ?_
    rotate_left
    · (intro w hSw; (try dsimp only at hSw); go_simp; (try with_reducible rfl))
    (try simp only [Act.put, List.getElem_toArray, List.getElem_cons_zero, List.getElem_cons_succ, List.setIfInBounds_toArray, List.set_cons_zero, List.set_cons_succ])
    refine wpAnyH_take (i := 2) (v := ?_) rfl (by kernel_rfl) (by kernel_rfl) (by kernel_rfl) (fun _ _ _ h => h) (Or.inl ⟨by rfl, ?_⟩) (by assumption) ?_
    rotate_left
    · (intro w hSw; (try dsimp only at hSw); go_simp; (try with_reducible rfl))
    (try simp only [Act.put, List.getElem_toArray, List.getElem_cons_zero, List.getElem_cons_succ, List.setIfInBounds_toArray, List.set_cons_zero, List.set_cons_succ])
    refine wpAnyH_take (i := 3) (v := ?_) rfl (by kernel_rfl) (by kernel_rfl) (by kernel_rfl) (fun _ _ _ h => h) (Or.inl ⟨by rfl, ?_⟩) (by assumption) ?_
    rotate_left
    · (intro w hSw; (try dsimp only at hSw); go_simp; (try with_reducible rfl))
    (try simp only [Act.put, List.getElem_toArray, List.getElem_cons_zero, List.getElem_cons_succ, List.setIfInBounds_toArray, List.set_cons_zero, List.set_cons_succ])
    refine wpAnyH_take (i := 4) (v := ?_) rfl (by kernel_rfl) (by kernel_rfl) (by kernel_rfl) (fun _ _ _ h => h) (Or.inl ⟨by rfl, ?_⟩) (by assumption) ?_
    rotate_left
    · (intro w hSw; (try dsimp only at hSw); go_simp; (try with_reducible rfl))
    (try simp only [Act.put, List.getElem_toArray, List.getElem_cons_zero, List.getElem_cons_succ, List.setIfInBounds_toArray, List.set_cons_zero, List.set_cons_succ])
    refine wpAnyH_take (i := 5) (v := ?_) rfl (by kernel_rfl) (by kernel_rfl) (by kernel_rfl) (fun _ _ _ h => h) (Or.inl ⟨by rfl, ?_⟩) (by assumption) ?_
    rotate_left
    · (intro w hSw; (try dsimp only at hSw); go_simp; (try with_reducible rfl))
    (try simp only [Act.put, List.getElem_toArray, List.getElem_cons_zero, List.getElem_cons_succ, List.setIfInBounds_toArray, List.set_cons_zero, List.set_cons_succ])
    refine wpAnyH_take (i := 6) (v := .agg (c6 (adF t1.frm))) rfl (by kernel_rfl) (by kernel_rfl) (by kernel_rfl) (fun _ _ _ h => h) (Or.inl ⟨by rfl, fun w hSw => exec_load_blk (k := 6) 33 (c6 (adF t1.frm)) rfl rfl hSw.2.1 (by kernel_rfl) (by kernel_rfl) rfl⟩) (by assumption) ?_
    (try simp only [Act.put, List.getElem_toArray, List.getElem_cons_zero, List.getElem_cons_succ, List.setIfInBounds_toArray, List.set_cons_zero, List.set_cons_succ])
    refine wpAnyH_take (i := 7) (v := ?_) rfl (by kernel_rfl) (by kernel_rfl) (by kernel_rfl) (fun _ _ _ h => h) (Or.inl ⟨by rfl, ?_⟩) (by assumption) ?_
    rotate_left
    · (intro w hSw; (try dsimp only at hSw); go_simp; (try with_reducible rfl))
    (try simp only [Act.put, List.getElem_toArray, List.getElem_cons_zero, List.getElem_cons_succ, List.setIfInBounds_toArray, List.set_cons_zero, List.set_cons_succ])
    refine wpAnyH_take (i := 9) (v := .int .i64 (k : Int)) rfl (by kernel_rfl) (by kernel_rfl) (by kernel_rfl) (fun _ _ _ h => h) (Or.inl ⟨by rfl, fun w hSw => by have c := hSw.2.2.cv 0 (.int .i64 (k : Int)) rfl; go_simp⟩) (by assumption) ?_
    (try simp only [Act.put, List.getElem_toArray, List.getElem_cons_zero, List.getElem_cons_succ, List.setIfInBounds_toArray, List.set_cons_zero, List.set_cons_succ])
    refine wpAnyH_ready (rs := [8]) (by kernel_rfl) (by simp) ?_
    refine AllReadyH.cons rfl (fun K hK => ?_) AllReadyH.nil
    simp only [List.getElem_toArray, List.getElem_cons_zero, List.getElem_cons_succ]
    go_simp
    refine (where_any V (adF t1.frm) tE _ hHeld.1).mono ?_
    rintro e w11 ⟨rfl, k11⟩
    rw [HLK.out]
    have S11 := And.intro (hHeld.1.kept k11) (And.intro (hHeld.2.1.kept k11) (hHeld.2.2.kept k11))
    have hTg11 := (drewT hTg10).kept k11
    refine hK.out _ _ ?_ (fun hHeld => ?_)
    · exact S11
    clear hK K
    (try simp only [Act.put, List.getElem_toArray, List.getElem_cons_zero, List.getElem_cons_succ, List.setIfInBounds_toArray, List.set_cons_zero, List.set_cons_succ])
    refine wpAnyH_take (i := 10) (v := ?_) rfl (by kernel_rfl) (by kernel_rfl) (by kernel_rfl) (fun _ _ _ h => h) (Or.inl ⟨by rfl, ?_⟩) (by assumption) ?_
    rotate_left
    · (intro w hSw; (try dsimp only at hSw); go_simp; (try with_reducible rfl))
    (try simp only [Act.put, List.getElem_toArray, List.getElem_cons_zero, List.getElem_cons_succ, List.setIfInBounds_toArray, List.set_cons_zero, List.set_cons_succ])
    refine wpAnyH_take (i := 11) (v := ?_) rfl (by kernel_rfl) (by kernel_rfl) (by kernel_rfl) (fun _ _ _ h => h) (Or.inl ⟨by rfl, ?_⟩) (by assumption) ?_
    rotate_left
    · (intro w hSw; (try dsimp only at hSw); go_simp; (try with_reducible rfl))
    (try simp only [Act.put, List.getElem_toArray, List.getElem_cons_zero, List.getElem_cons_succ, List.setIfInBounds_toArray, List.set_cons_zero, List.set_cons_succ])
    refine wpAnyH_done (by kernel_rfl) ?_ _
    refine NoPanic.normal ?_
    have hd : Below w10.heap.size w10 w10.drew := (Below.refl _ _).drew
    have hbr11 := hHeld.1
    have HF11 := hHeld.2.1
    have HP11 := hHeld.2.2
    have p11 := HP11.cv 0 (.int .i64 (k : Int)) rfl
    have hlo11 : w3.heap.size ≤ w11.heap.size := Nat.le_trans (Nat.le_trans hlo10 hd.size) k11.size
    have B11 := (B10.trans (hd.mono (Nat.le_trans hW3 hlo10))).trans (k11.mono (Nat.le_trans hW3 (Nat.le_trans hlo10 hd.size)))
    clear HQ1 HVC HVC1 HSTC hHeld HF8 HF9 HF10 HP8 HP9 HP10 p8 p9 p10 hbr8 hbr9 hbr10 hd k11 S11
    go_wp2_with (first
      | (refine load_blk 36 (frC (carF t1 ta tc)) (by rfl) rfl rfl HF11 (by kernel_rfl) (by kernel_rfl) (by rfl) ?_)
      | (go_at_call 17; refine (HIC.out j _ _ w11 hbr11 hTg11 hlo11).mono ?_; rintro e w12 ⟨v, ss, rfl, ho, hss, hbr12, hx12⟩; have HF12 := hx12.blk HF11 (by decide); have HP12 := hx12.blk HP11 (by decide); have p12 := HP12.cv 0 (.int .i64 (k : Int)) rfl; have hTg12 := hTg11.keep (w' := w12) (fun g C q => (hx12.blk q (by decide)).trans q.symm); have hlo12 := Nat.le_trans hlo11 hx12.size; have B12 := B11.trans ((hx12.below hlo11).mono hW3); rw [HQ2.out.1, show errV 0 = .nilIface from rfl]; obtain ⟨aT, cT, rfl, hIT⟩ := ho.inL; have hssl : ss.length ≤ 8 := (by rw [← hss.len]; exact HQ2.out.2.2); have hno : ∀ s ∈ ss, (s.p == (k : Int)) = false := noport hss HQ2.out.2.1)
      | (go_at_call 20; refine (quiet1_no aT cT ss P (k : Int) w12 hIT hssl HP12 hno).mono ?_; rintro e w13 ⟨rfl, k13⟩))
    go_ret
    exact ⟨rfl, B12.trans (k13.mono (Nat.le_trans hW3 hlo12))⟩

end Go.Proofs.Ytdceggekhhflgaa.bridgeQuiet
