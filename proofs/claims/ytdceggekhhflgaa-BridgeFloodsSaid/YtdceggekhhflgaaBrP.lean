/- package bridge: where a frame goes. -/
import Derived.Test.YtdceggekhhflgaaBrO
namespace Go.Proofs.Ytdceggekhhflgaa
open Go.RowKit
attribute [local go_sem ↓] Go.wp_at_zero Go.wp_at_succ
set_option linter.unusedSimpArgs false
set_option linter.unusedVariables false
set_option maxRecDepth 100000
set_option linter.unusedSectionVars false
variable [Zone]

/-- A frame as it is sent by a port. -/
def SentOk (w : World) (f : Fr) (vid : Int) (ps : List Ps) (i : Nat) (s : SnH) : Prop :=
  s.p = (i : Int) ∧ ∃ ta tc, s.f = { f with ta := ta, tl := tagsOf (firstT f.tl) vid (ps.getD i zPs), tc := tc } ∧ TgRow w ta (tagsOf (firstT f.tl) vid (ps.getD i zPs)) tc

/-- .. and by some. -/
def Sents (w : World) (f : Fr) (vid : Int) (ps : List Ps) : List Nat → List SnH → Prop
  | [], [] => True
  | i :: is, s :: ss => SentOk w f vid ps i s ∧ Sents w f vid ps is ss
  | _, _ => False
section
variable {w w' : World} {f : Fr} {vid : Int} {ps : List Ps}

theorem Sents.keep (hk : ∀ g C, Blk w g 68 C → w'.heap[g]? = w.heap[g]?) : ∀ {is : List Nat} {ss : List SnH}, Sents w f vid ps is ss → Sents w' f vid ps is ss
  | [], [], _ => trivial
  | i :: is, s :: ss, ⟨⟨h1, ta, tc, h2, h3⟩, h4⟩ => ⟨⟨h1, ta, tc, h2, h3.keep hk⟩, Sents.keep hk h4⟩
  | [], _ :: _, h => h.elim
  | _ :: _, [], h => h.elim

theorem Sents.snoc {i : Nat} {s : SnH} (hs : SentOk w f vid ps i s) : ∀ {is : List Nat} {ss : List SnH}, Sents w f vid ps is ss → Sents w f vid ps (is ++ [i]) (ss ++ [s])
  | [], [], _ => ⟨hs, trivial⟩
  | j :: is, x :: ss, ⟨h1, h2⟩ => ⟨h1, Sents.snoc hs h2⟩
  | [], _ :: _, h => h.elim
  | _ :: _, [], h => h.elim

theorem Sents.len : ∀ {is : List Nat} {ss : List SnH}, Sents w f vid ps is ss → is.length = ss.length
  | [], [], _ => rfl
  | _ :: is, _ :: ss, ⟨_, h2⟩ => by rw [List.length_cons, List.length_cons, Sents.len h2]
  | [], _ :: _, h => h.elim
  | _ :: _, [], h => h.elim

theorem Sents.get : ∀ {is : List Nat} {ss : List SnH}, Sents w f vid ps is ss → ∀ (j : Nat) (h1 : j < is.length) (h2 : j < ss.length), SentOk w f vid ps is[j] ss[j]
  | i :: is, s :: ss, ⟨h1, _⟩, 0, _, _ => h1
  | i :: is, s :: ss, ⟨_, h⟩, j + 1, h1, h2 => Sents.get h j (by simpa using h1) (by simpa using h2)
  | [], [], _, j, h1, _ => by simp at h1
end

theorem exec_build_blkB {P : Program} {a : Act} {o : Oper} {w : World} {t : TypeId} {parts : Array (Nat × Operand)} (X : Array Value) (ho : o.op = .build t parts)
    (hf : P.built t (parts.map fun (i, x) => (i, a.eval x)).toList = some X) : (execOp a.eval o).run P w = .ok (.value (.agg X)) w := by
  have h1 := run_build (P := P) w t (parts.map fun (i, x) => (i, a.eval x)) X hf
  unfold execOp
  simp only [ho, Sem.run_bind, Result.andThen_ok, h1, Sem.run_pure]

theorem wp_alloc_int {o : Oper} {a : Act} {w : World} {K : Act → World → Prop} {Q : Exit → Act → World → Prop} (ho : o.op = .alloc 3)
    (hK : ∀ b w', b = w.heap.size → Blk w' b 3 #[.int .i64 0] → Below b w w' → K (a.put o.dst (.pointer (some ⟨b, 0, none⟩))) w') : Oper.wp Try.prog o a w K Q := by
  have hz : (Try.prog.info? 3).map (·.zero) = some (some (.int .i64 0)) := by kernel_rfl
  have h1 : (Instr.alloc 3 true (.tuple #[])).run Try.prog w = .ok (.pointer (some ⟨w.heap.size, 0, none⟩)) (w.alloc (.cells #[.int .i64 0] 3)) := by
    cases hi : Try.prog.info? 3 with
    | none => rw [hi] at hz; cases hz
    | some i =>
      rw [hi] at hz
      simp only [Option.map_some, Option.some.injEq] at hz
      simp [Instr.alloc, zeroValue, typeInfo, hi, hz, newVar, newRow, newObj, Value.cells]
      rfl
  unfold Oper.wp execOp
  simp only [ho, Sem.run_bind, Sem.run_pure, Result.andThen_ok, h1]
  exact hK _ _ rfl (Blk.new w 3 _) ((Below.refl _ _).alloc (Nat.le_refl _) _)

/-- Blocks of other types are as they were where a row of frames has grown. -/
theorem OwnSnH.apart {w w' : World} {base : Nat} {v : Value} {l : List SnH} (h : OwnSnH w base v l) (hg : w.grownBy w' v.ownBlock) {g : Nat} {T : TypeId} {C : Array Value} (hb : Blk w g T C) (hT : T ≠ 48) : w'.heap[g]? = w.heap[g]? := by
  refine hg.block g hb.lt ?_
  intro e
  rcases h.blk with h1 | ⟨g1, C1, e1, _, h1⟩
  · rw [h1] at e; cases e
  · rw [e1] at e
    cases e
    exact hT (blk_type hb h1)

/-- What stands while frames are sent. -/
structure OutI (w0 : World) (B b t c : Nat) (ad : Option Addr) (hs : List PsH) (age last : Int) (E : List Ent) (port vid at_ : Int) (f : Fr) (P V F A : Nat) (v : Value) (ids : List Nat) (L : List SnH) (w : World) : Prop where
  br : BrgAt w B b t c ad hs age last E
  hv : Blk w V 3 #[.int .i64 vid]
  hf : Blk w F 36 (frC f)
  hp : Blk w P 3 #[.int .i64 port]
  ha : Blk w A 3 #[.int .i64 at_]
  own : OwnSnH w w0.heap.size v L
  sents : Sents w f vid (hs.map PsH.x) ids L
  bel : Below w0.heap.size w0 w
section
variable {w0 w w' : World} {B b t c : Nat} {ad : Option Addr} {hs : List PsH} {age last : Int} {E : List Ent} {port vid at_ : Int} {f : Fr} {P V F A : Nat} {v : Value} {ids : List Nat} {L : List SnH}

theorem OutI.kept (h : OutI w0 B b t c ad hs age last E port vid at_ f P V F A v ids L w) (k : Below w.heap.size w w') : OutI w0 B b t c ad hs age last E port vid at_ f P V F A v ids L w' :=
  ⟨h.br.kept k, h.hv.kept k, h.hf.kept k, h.hp.kept k, h.ha.kept k, h.own.kept k, h.sents.keep fun g C q => k.block g q.lt, h.bel.trans (k.mono h.bel.size)⟩

theorem OutI.app (h : OutI w0 B b t c ad hs age last E port vid at_ f P V F A v ids L w) {v' : Value} {i : Nat} {y : SnH} (ho : OwnSnH w' w0.heap.size v' (L ++ [y])) (hb : Below w0.heap.size w w') (hg : w.grownBy w' v.ownBlock) (hs' : SentOk w' f vid (hs.map PsH.x) i y) :
    OutI w0 B b t c ad hs age last E port vid at_ f P V F A v' (ids ++ [i]) (L ++ [y]) w' := by
  have hk : ∀ g T C, Blk w g T C → T ≠ 48 → w'.heap[g]? = w.heap[g]? := fun g T C q hT => h.own.apart hg q hT
  refine ⟨h.br.keep fun g T C q _ hT => hk g T C q (by rintro rfl; exact absurd hT (by decide)), (hk _ _ _ h.hv (by decide)).trans h.hv, (hk _ _ _ h.hf (by decide)).trans h.hf, (hk _ _ _ h.hp (by decide)).trans h.hp, (hk _ _ _ h.ha (by decide)).trans h.ha, ho, ?_, h.bel.trans hb⟩
  exact Sents.snoc hs' (h.sents.keep fun g C q => hk g _ C q (by decide))
end

set_option maxHeartbeats 6400000 in
theorem out_any {B b t c : Nat} {ad : Option Addr} {hs : List PsH} {age last : Int} {E : List Ent} (port vid now : Int) (f : Fr) (w : World) (h : BrgAt w B b t c ad hs age last E) (hT : TagsIn w f.ta f.tl) (hl : f.tl.length ≤ 20) (hB : Zone.up B ≤ w.heap.size) :
    Calls Try.prog 42 #[.pointer (some ⟨b, 0, none⟩), .int .i64 port, .int .i64 vid, frV f, .int .i64 now] w fun e w' =>
      (∃ v ss, e = .returned v ∧ OwnSnH w' w.heap.size v ss ∧ Sents w' f vid (hs.map PsH.x) (outM (lookM age E vid f.d now) port vid (hs.map PsH.x)) ss) ∧ Below w.heap.size w w' := by
  have HFEW := Lib.hid h.few
  have b1 : Below w.heap.size w (w.alloc (.cells #[.int .i64 port] 3)) := (Below.refl _ _).alloc (Nat.le_refl _) _
  have HP := Blk.new w 3 #[.int .i64 port]
  have HRT := Lib.hid (fun v r w h => retag_any f v r w h hl)
  clear hl
  unfold frV
  go_enter Try.func42, Try.ntmps42
  go_upto_region 1 with (refine box_blk 36 (frC f) (by rfl) rfl rfl ?_)
  have e1 : (w.alloc (.cells #[.int .i64 port] 3)).heap.size = w.heap.size + 1 := by simp
  have HV := Blk.new (w.alloc (.cells #[.int .i64 port] 3)) 3 #[.int .i64 vid]
  have b2 := b1.alloc b1.size (.cells #[.int .i64 vid] 3)
  have e2 : ((w.alloc (.cells #[.int .i64 port] 3)).alloc (.cells #[.int .i64 vid] 3)).heap.size = w.heap.size + 1 + 1 := by simp
  have HF := Blk.new ((w.alloc (.cells #[.int .i64 port] 3)).alloc (.cells #[.int .i64 vid] 3)) 36 (frC f)
  have b3 := b2.alloc b2.size (.cells (frC f) 36)
  replace HP := (HP.alloc (.cells #[.int .i64 vid] 3)).alloc (.cells (frC f) 36)
  replace HV := HV.alloc (.cells (frC f) 36)
  rw [e1] at HV
  rw [e2] at HF
  have h1 := h.kept b3
  have hT1 := hT.below b3
  have hsz : w.heap.size + 1 + 1 < (((w.alloc (.cells #[.int .i64 port] 3)).alloc (.cells #[.int .i64 vid] 3)).alloc (.cells (frC f) 36)).heap.size := by simp
  generalize ((w.alloc (.cells #[.int .i64 port] 3)).alloc (.cells #[.int .i64 vid] 3)).alloc (.cells (frC f) 36) = w1 at *
  clear b1 b2 e1 e2 h
  refine Code.wp_mono (Q := fun e a w' => e = .normal ∧ ∃ A u16 u17 u18 u19 u20 u21 u22 u23 u24, a = { tmps := #[.pointer (some ⟨b, 0, none⟩), .int .i64 port, .int .i64 vid, .agg (frC f), .int .i64 now, undef, .pointer (some ⟨w.heap.size, 0, none⟩), .pointer (some ⟨w.heap.size + 1, 0, none⟩), .pointer (some ⟨w.heap.size + 1 + 1, 0, none⟩), undef, .slice none 0 0, .pointer (some ⟨A, 0, none⟩), undef, undef, undef, undef, u16, u17, u18, u19, u20, u21, u22, u23, u24, undef, undef, undef, undef, undef, undef, undef, undef, undef, undef, undef, undef, undef, undef, undef, undef, undef, undef, undef, undef, undef, undef, undef, undef, undef, undef, undef, undef, undef], defers := [] } ∧ Blk w' A 3 #[.int .i64 (lookM age E vid f.d now)] ∧ BrgAt w' B b t c ad hs age last E ∧ Blk w' (w.heap.size + 1) 3 #[.int .i64 vid] ∧ Blk w' (w.heap.size + 1 + 1) 36 (frC f) ∧ Blk w' w.heap.size 3 #[.int .i64 port] ∧ Below w1.heap.size w1 w') ?_ ?_
  · rintro e a w5 ⟨rfl, A, u16, u17, u18, u19, u20, u21, u22, u23, u24, rfl, HA5, h5, HV5, HF5, HP5, k5⟩
    have hI5 : OutI w B b t c ad hs age last E port vid (lookM age E vid f.d now) f w.heap.size (w.heap.size + 1) (w.heap.size + 1 + 1) A (.slice none 0 0) [] [] w5 := ⟨h5, HV5, HF5, HP5, HA5, OwnSnH.nil _ _, trivial, b3.trans (k5.mono b3.size)⟩
    have c0 := h5.blk.cv 0 _ rfl
    clear HA5 h5 HV5 HF5 HP5 k5 HP HV HF hT1 h1 hsz
    go_wp2
    go_loopw [13, 31] (fun s13 s31 wr => ∃ k : Nat, k ≤ hs.length ∧ s31 = .int .i64 k ∧ ∃ v0 L, v0 = s13 ∧ OutI w B b t c ad hs age last E port vid (lookM age E vid f.d now) f w.heap.size (w.heap.size + 1) (w.heap.size + 1 + 1) A v0 ((List.range k).filter fun i => leavesB (lookM age E vid f.d now) port vid i ((hs.map PsH.x).getD i zPs)) L wr) (fun _ i _ => hs.length - (intOf i).toNat)
    case atStart => exact ⟨0, by omega, rfl, _, [], rfl, hI5⟩
    case round =>
      obtain ⟨k, hk, rfl, v0, L, rfl, hI⟩ := hrel
      by_cases hlt : k < hs.length
      · have hbr := hI.br
        obtain ⟨g, cur, rfl, hg, hgb, hcs⟩ := hbr.at hlt
        have hkp := (hbr.kp _ (List.getElem_mem hlt)).ok
        have q1 : (k : Int) < (hs.length : Int) := by omega
        have q2 : decide ((k : Int) < (hs.length : Int)) = true := decide_eq_true q1
        have q3 : (0 : Int) ≤ (k : Int) := by omega
        have q4 : IntKind.i64.wrap ((k : Int) + 1) = (k : Int) + 1 := by have := HFEW.out; rw [IntKind.wrap_i64] <;> omega
        have HPS : Hid ((hs.map PsH.x).getD k zPs = hs[k].x) := by
          show _ = _
          simp [hlt]
        have HSUC := Lib.hid (range_succ_filter (fun i => leavesB (lookM age E vid f.d now) port vid i ((hs.map PsH.x).getD i zPs)) k)
        have hLs : L.length ≤ 100000 := by
          have e1 := hI.sents.len
          have e2 := List.length_filter_le (fun i => leavesB (lookM age E vid f.d now) port vid i ((hs.map PsH.x).getD i zPs)) (List.range k)
          rw [List.length_range] at e2
          have := HFEW.out
          omega
        generalize hs[k] = x at *
        have HQ := Blk.new wr 59 (psC zPsH)
        have bQ : Below wr.heap.size wr (wr.alloc (.cells (psC zPsH) 59)) := (Below.refl _ _).alloc (Nat.le_refl _) _
        clear hbr hg hgb
        go_upto_region 7 with (first
          | (refine load_cells (B := g) (k := k * 4) 59 (psC x) (by rfl) rfl rfl hcs (by kernel_rfl) (by kernel_rfl) ?_)
          | (refine alloc_blk 59 (psC zPsH) (by rfl) rfl Try.psZero ?_)
          | (refine store_blk (B := wr.heap.size) (k := 0) 59 (.agg (psC x)) (psC x) (by rfl) rfl rfl rfl HQ (by kernel_rfl) (show (4 : Nat) ≤ 4 from Nat.le_refl 4) (by rfl) (st_whole' _ _ rfl) ?_; intro w6 HQ6 b6 g6))
        have k6 := bQ.trans b6
        have hI6 := hI.kept k6
        replace hkp := hkp.below k6
        clear hI bQ b6 g6 k6 HQ hcs
        generalize wr.heap.size = Q at *
        have HL := Lib.hid (leaves_any (k : Int) port (lookM age E vid f.d now) vid x w.heap.size A (w.heap.size + 1) w6 hkp hI6.hp hI6.ha hI6.hv)
        cases hb : leavesB (lookM age E vid f.d now) port vid k x.x with
        | false =>
          unfold leavesB at hb
          rw [hb] at HL
          go_upto_region 9 with (first
            | (refine load_blk 59 (psC x) (by rfl) rfl rfl HQ6 (by kernel_rfl) (by kernel_rfl) (by rfl) ?_)
            | (go_at_call 68; refine HL.out.mono ?_; rintro e w7 ⟨rfl, k7⟩))
          have hI7 := hI6.kept k7
          have HIF : Hid (OutI w B b t c (some ⟨g, 0, none⟩) hs age last E port vid (lookM age E vid f.d now) f w.heap.size (w.heap.size + 1) (w.heap.size + 1 + 1) A v0 ((List.range (k + 1)).filter fun i => leavesB (lookM age E vid f.d now) port vid i ((hs.map PsH.x).getD i zPs)) L w7) := by
            show OutI _ _ _ _ _ _ _ _ _ _ _ _ _ _ _ _ _ _ _ _ _ _
            rw [HSUC.out, HPS.out]
            unfold leavesB
            rw [hb]
            simpa [leavesB] using hI7
          clear hI7 hI6
          go_wp2
          go_roundw
          case rel => exact ⟨k + 1, by omega, by go_num, _, L, rfl, HIF.out⟩
          case measure => simp [intOf]; omega
        | true =>
          have HSN : Hid ((List.range (k + 1)).filter (fun i => leavesB (lookM age E vid f.d now) port vid i ((hs.map PsH.x).getD i zPs)) = (List.range k).filter (fun i => leavesB (lookM age E vid f.d now) port vid i ((hs.map PsH.x).getD i zPs)) ++ [k]) := by
            show _ = _
            rw [HSUC.out]
            simp only [HPS.out, hb]
            rfl
          unfold leavesB at hb
          rw [hb] at HL
          clear HSUC
          generalize (List.range k).filter (fun i => leavesB (lookM age E vid f.d now) port vid i ((hs.map PsH.x).getD i zPs)) = ids at *
          go_upto_region 8 with (first
            | (refine load_blk 59 (psC x) (by rfl) rfl rfl HQ6 (by kernel_rfl) (by kernel_rfl) (by rfl) ?_)
            | (go_at_call 68; refine HL.out.mono ?_; rintro e w7 ⟨rfl, k7⟩))
          have hI7 := (hI6.kept k7).kept (Below.refl w7.heap.size w7).drew
          have HQ7 := (HQ6.kept k7).drew
          replace hkp := (hkp.below k7).below (Below.refl w7.heap.size w7).drew
          clear hI6 HQ6 HL k7
          refine wp_region_noPanic ?_
          refine wp_region_held_drew (S := (fun w' => Blk w' (w.heap.size + 1) 3 #[.int .i64 vid] ∧ Blk w' (w.heap.size + 1 + 1) 36 (frC f) ∧ Blk w' Q 59 (psC x))) (by kernel_rfl) ?_ (fun hHeld => ?_)
          · exact ⟨hI7.hv, hI7.hf, HQ7⟩
          refine wpAnyH_take (i := 0) (v := ?_) rfl (by kernel_rfl) (by kernel_rfl) (by kernel_rfl) (fun _ _ _ h => h) (Or.inl ⟨by rfl, ?_⟩) (by assumption) ?_
          rotate_left
          · (intro w hSw; (try dsimp only at hSw); go_simp; (try with_reducible rfl))
          (try simp only [Act.put, List.getElem_toArray, List.getElem_cons_zero, List.getElem_cons_succ, List.setIfInBounds_toArray, List.set_cons_zero, List.set_cons_succ])
          refine wpAnyH_take (i := 1) (v := ?_) rfl (by kernel_rfl) (by kernel_rfl) (by kernel_rfl) (fun _ _ _ h => h) (Or.inl ⟨by rfl, ?_⟩) (by assumption) ?_
          rotate_left
          · (intro w hSw; (try dsimp only at hSw); go_simp; (try with_reducible rfl))
          (try simp only [Act.put, List.getElem_toArray, List.getElem_cons_zero, List.getElem_cons_succ, List.setIfInBounds_toArray, List.set_cons_zero, List.set_cons_succ])
          refine wpAnyH_take (i := 2) (v := .agg (frC f)) rfl (by kernel_rfl) (by kernel_rfl) (by kernel_rfl) (fun _ _ _ h => h) (Or.inl ⟨by rfl, fun w hSw => exec_load_blk (k := 0) 36 (frC f) rfl rfl hSw.2.1 (by kernel_rfl) (by kernel_rfl) rfl⟩) (by assumption) ?_
          (try simp only [Act.put, List.getElem_toArray, List.getElem_cons_zero, List.getElem_cons_succ, List.setIfInBounds_toArray, List.set_cons_zero, List.set_cons_succ])
          refine wpAnyH_take (i := 3) (v := .int .i64 vid) rfl (by kernel_rfl) (by kernel_rfl) (by kernel_rfl) (fun _ _ _ h => h) (Or.inl ⟨by rfl, fun w hSw => by have c := hSw.1.cv 0 (.int .i64 vid) rfl; go_simp⟩) (by assumption) ?_
          (try simp only [Act.put, List.getElem_toArray, List.getElem_cons_zero, List.getElem_cons_succ, List.setIfInBounds_toArray, List.set_cons_zero, List.set_cons_succ])
          refine wpAnyH_take (i := 4) (v := ?_) rfl (by kernel_rfl) (by kernel_rfl) (by kernel_rfl) (fun _ _ _ h => h) (Or.inl ⟨by rfl, ?_⟩) (by assumption) ?_
          rotate_left
          · (intro w hSw; (try dsimp only at hSw); go_simp; (try with_reducible rfl))
          (try simp only [Act.put, List.getElem_toArray, List.getElem_cons_zero, List.getElem_cons_succ, List.setIfInBounds_toArray, List.set_cons_zero, List.set_cons_succ])
          refine wpAnyH_take (i := 5) (v := .slice x.ba x.x.bare.length x.bc) rfl (by kernel_rfl) (by kernel_rfl) (by kernel_rfl) (fun _ _ _ h => h) (Or.inl ⟨by rfl, fun w hSw => by have c := hSw.2.2.cv 2 (.slice x.ba x.x.bare.length x.bc) rfl; go_simp⟩) (by assumption) ?_
          (try simp only [Act.put, List.getElem_toArray, List.getElem_cons_zero, List.getElem_cons_succ, List.setIfInBounds_toArray, List.set_cons_zero, List.set_cons_succ])
          refine wpAnyH_take (i := 6) (v := .int .i64 vid) rfl (by kernel_rfl) (by kernel_rfl) (by kernel_rfl) (fun _ _ _ h => h) (Or.inl ⟨by rfl, fun w hSw => by have c := hSw.1.cv 0 (.int .i64 vid) rfl; go_simp⟩) (by assumption) ?_
          (try simp only [Act.put, List.getElem_toArray, List.getElem_cons_zero, List.getElem_cons_succ, List.setIfInBounds_toArray, List.set_cons_zero, List.set_cons_succ])
          refine wpAnyH_ready (rs := [7]) (by kernel_rfl) (by simp) ?_
          refine AllReadyH.cons rfl (fun K hK => ?_) AllReadyH.nil
          simp only [List.getElem_toArray, List.getElem_cons_zero, List.getElem_cons_succ]
          go_simp
          refine (containsIv_any x.ba x.bc x.x.bare vid _ hkp.b (Nat.le_trans hkp.bc hkp.bm)).mono ?_
          rintro e w' ⟨rfl, rfl⟩
          refine hK.out _ _ ?_ (fun hHeld => ?_)
          · exact hHeld
          clear hK K
          (try simp only [Act.put, List.getElem_toArray, List.getElem_cons_zero, List.getElem_cons_succ, List.setIfInBounds_toArray, List.set_cons_zero, List.set_cons_succ])
          refine wpAnyH_ready (rs := [8]) (by kernel_rfl) (by simp) ?_
          refine AllReadyH.cons rfl (fun K hK => ?_) AllReadyH.nil
          simp only [List.getElem_toArray, List.getElem_cons_zero, List.getElem_cons_succ]
          go_simp
          refine (HRT.out vid (memB x.x.bare vid) _ (hT.below hI7.bel)).mono ?_
          rintro e w8 ⟨⟨ta, tc, rfl, hTg⟩, k8⟩
          have hI8 := hI7.kept k8
          have HQ8 := HQ7.kept k8
          refine hK.out _ _ ?_ (fun hHeld => ?_)
          · exact ⟨hI8.hv, hI8.hf, HQ8⟩
          clear hK K
          (try simp only [Act.put, List.getElem_toArray, List.getElem_cons_zero, List.getElem_cons_succ, List.setIfInBounds_toArray, List.set_cons_zero, List.set_cons_succ])
          refine wpAnyH_take (i := 9) (v := .agg (snC ⟨(k : Int), { f with ta := ta, tl := (if memB x.x.bare vid = true then [] else [⟨false, (firstT f.tl).p, (firstT f.tl).d, vid⟩]), tc := tc }⟩)) rfl (by kernel_rfl) (by kernel_rfl) (by kernel_rfl) (fun _ _ _ h => h) (Or.inl ⟨by rfl, fun w hSw => exec_build_blkB (t := 48) (snC ⟨(k : Int), { f with ta := ta, tl := (if memB x.x.bare vid = true then [] else [⟨false, (firstT f.tl).p, (firstT f.tl).d, vid⟩]), tc := tc }⟩) rfl (by kernel_rfl)⟩) (by assumption) ?_
          (try simp only [Act.put, List.getElem_toArray, List.getElem_cons_zero, List.getElem_cons_succ, List.setIfInBounds_toArray, List.set_cons_zero, List.set_cons_succ])
          refine wpAnyH_ready (rs := [10]) (by kernel_rfl) (by simp) ?_
          refine AllReadyH.cons rfl (fun K hK => ?_) AllReadyH.nil
          simp only [List.getElem_toArray, List.getElem_cons_zero, List.getElem_cons_succ]
          rw [if_pos (by rfl)]
          refine slice_sn ⟨(k : Int), { f with ta := ta, tl := (if memB x.x.bare vid = true then [] else [⟨false, (firstT f.tl).p, (firstT f.tl).d, vid⟩]), tc := tc }⟩ rfl rfl ?_
          intro w9 HG9 k9 s9
          have hTg9 := hTg.kept k9
          have hI9 := hI8.kept k9
          have HQ9 := HQ8.kept k9
          refine hK.out _ _ ?_ (fun hHeld => ?_)
          · exact ⟨hI9.hv, hI9.hf, HQ9⟩
          clear hK K
          (try simp only [Act.put, List.getElem_toArray, List.getElem_cons_zero, List.getElem_cons_succ, List.setIfInBounds_toArray, List.set_cons_zero, List.set_cons_succ])
          refine wpAnyH_ready (rs := [11]) (by kernel_rfl) (by simp) ?_
          refine AllReadyH.cons rfl (fun K hK => ?_) AllReadyH.nil
          simp only [List.getElem_toArray, List.getElem_cons_zero, List.getElem_cons_succ]
          rw [if_pos (by rfl)]
          refine append_sn ⟨(k : Int), { f with ta := ta, tl := (if memB x.x.bare vid = true then [] else [⟨false, (firstT f.tl).p, (firstT f.tl).d, vid⟩]), tc := tc }⟩ rfl rfl rfl hI9.own HG9 hLs hI9.bel.size ?_
          intro v10 w10 hO10 b10 g10
          have hTg10 := hTg9.keep fun g C q => hI9.own.apart g10 q (by decide)
          have hI10 := hI9.app hO10 b10 g10 (i := k) ⟨rfl, ta, tc, by simp only [tagsOf, HPS.out], by simp only [tagsOf, HPS.out]; exact hTg10⟩
          have HQ10 := (hI9.own.apart g10 HQ9 (by decide)).trans HQ9
          refine hK.out _ _ ?_ (fun hHeld => ?_)
          · exact ⟨hI10.hv, hI10.hf, HQ10⟩
          clear hK K
          (try simp only [Act.put, List.getElem_toArray, List.getElem_cons_zero, List.getElem_cons_succ, List.setIfInBounds_toArray, List.set_cons_zero, List.set_cons_succ])
          refine wpAnyH_take (i := 12) (v := ?_) rfl (by kernel_rfl) (by kernel_rfl) (by kernel_rfl) (fun _ _ _ h => h) (Or.inl ⟨by rfl, ?_⟩) (by assumption) ?_
          rotate_left
          · (intro w hSw; (try dsimp only at hSw); go_simp; (try with_reducible rfl))
          (try simp only [Act.put, List.getElem_toArray, List.getElem_cons_zero, List.getElem_cons_succ, List.setIfInBounds_toArray, List.set_cons_zero, List.set_cons_succ])
          refine wpAnyH_done (by kernel_rfl) ?_ _
          refine NoPanic.normal ?_
          go_wp2
          go_roundw
          case rel => exact ⟨k + 1, by omega, by go_num, _, _, rfl, by rw [HSN.out]; exact hI10⟩
          case measure => simp [intOf]; omega
      · obtain rfl : k = hs.length := by omega
        have q2 : decide ((hs.length : Int) < (hs.length : Int)) = false := decide_eq_false (by omega)
        have HIF := Lib.hid hI
        clear hI
        go_wp2
        go_ret
        exact ⟨⟨_, L, rfl, HIF.out.own, by unfold outM; rw [List.length_map]; exact HIF.out.sents⟩, HIF.out.bel⟩
  refine wp_region_noPanic ?_
  refine wp_region_held_drew (S := (fun w' => BrgAt w' B b t c ad hs age last E ∧ Blk w' (w.heap.size + 1) 3 #[.int .i64 vid] ∧ Blk w' (w.heap.size + 1 + 1) 36 (frC f) ∧ Blk w' w.heap.size 3 #[.int .i64 port] ∧ Below w1.heap.size w1 w')) (by kernel_rfl) ?_ (fun hHeld => ?_)
  · exact ⟨h1.kept (Below.refl _ _).drew, HV, HF, HP, (Below.refl _ _).drew⟩
  refine wpAnyH_take (i := 0) (v := ?_) rfl (by kernel_rfl) (by kernel_rfl) (by kernel_rfl) (fun _ _ _ h => h) (Or.inl ⟨by rfl, ?_⟩) (by assumption) ?_
  rotate_left
  · (intro w hSw; (try dsimp only at hSw); go_simp; (try with_reducible rfl))
  (try simp only [Act.put, List.getElem_toArray, List.getElem_cons_zero, List.getElem_cons_succ, List.setIfInBounds_toArray, List.set_cons_zero, List.set_cons_succ])
  refine wpAnyH_take (i := 1) (v := ?_) rfl (by kernel_rfl) (by kernel_rfl) (by kernel_rfl) (fun _ _ _ h => h) (Or.inl ⟨by rfl, ?_⟩) (by assumption) ?_
  rotate_left
  · (intro w hSw; (try dsimp only at hSw); go_simp; (try with_reducible rfl))
  (try simp only [Act.put, List.getElem_toArray, List.getElem_cons_zero, List.getElem_cons_succ, List.setIfInBounds_toArray, List.set_cons_zero, List.set_cons_succ])
  refine wpAnyH_take (i := 2) (v := ?_) rfl (by kernel_rfl) (by kernel_rfl) (by kernel_rfl) (fun _ _ _ h => h) (Or.inl ⟨by rfl, ?_⟩) (by assumption) ?_
  rotate_left
  · (intro w hSw; (try dsimp only at hSw); go_simp; (try with_reducible rfl))
  (try simp only [Act.put, List.getElem_toArray, List.getElem_cons_zero, List.getElem_cons_succ, List.setIfInBounds_toArray, List.set_cons_zero, List.set_cons_succ])
  refine wpAnyH_take (i := 3) (v := .pointer (some ⟨t, 0, none⟩)) rfl (by kernel_rfl) (by kernel_rfl) (by kernel_rfl) (fun _ _ _ h => h) (Or.inl ⟨by rfl, fun w hSw => by have c := hSw.1.blk.cv 1 (.pointer (some ⟨t, 0, none⟩)) rfl; go_simp⟩) (by assumption) ?_
  (try simp only [Act.put, List.getElem_toArray, List.getElem_cons_zero, List.getElem_cons_succ, List.setIfInBounds_toArray, List.set_cons_zero, List.set_cons_succ])
  refine wpAnyH_take (i := 4) (v := .int .i64 vid) rfl (by kernel_rfl) (by kernel_rfl) (by kernel_rfl) (fun _ _ _ h => h) (Or.inl ⟨by rfl, fun w hSw => by have c := hSw.2.1.cv 0 (.int .i64 vid) rfl; go_simp⟩) (by assumption) ?_
  (try simp only [Act.put, List.getElem_toArray, List.getElem_cons_zero, List.getElem_cons_succ, List.setIfInBounds_toArray, List.set_cons_zero, List.set_cons_succ])
  refine wpAnyH_take (i := 5) (v := ?_) rfl (by kernel_rfl) (by kernel_rfl) (by kernel_rfl) (fun _ _ _ h => h) (Or.inl ⟨by rfl, ?_⟩) (by assumption) ?_
  rotate_left
  · (intro w hSw; (try dsimp only at hSw); go_simp; (try with_reducible rfl))
  (try simp only [Act.put, List.getElem_toArray, List.getElem_cons_zero, List.getElem_cons_succ, List.setIfInBounds_toArray, List.set_cons_zero, List.set_cons_succ])
  refine wpAnyH_take (i := 6) (v := .agg (c6 f.d)) rfl (by kernel_rfl) (by kernel_rfl) (by kernel_rfl) (fun _ _ _ h => h) (Or.inl ⟨by rfl, fun w hSw => exec_load_blk (k := 0) 33 (c6 f.d) rfl rfl hSw.2.2.1 (by kernel_rfl) (by kernel_rfl) rfl⟩) (by assumption) ?_
  (try simp only [Act.put, List.getElem_toArray, List.getElem_cons_zero, List.getElem_cons_succ, List.setIfInBounds_toArray, List.set_cons_zero, List.set_cons_succ])
  refine wpAnyH_take (i := 7) (v := ?_) rfl (by kernel_rfl) (by kernel_rfl) (by kernel_rfl) (fun _ _ _ h => h) (Or.inl ⟨by rfl, ?_⟩) (by assumption) ?_
  rotate_left
  · (intro w hSw; (try dsimp only at hSw); go_simp; (try with_reducible rfl))
  (try simp only [Act.put, List.getElem_toArray, List.getElem_cons_zero, List.getElem_cons_succ, List.setIfInBounds_toArray, List.set_cons_zero, List.set_cons_succ])
  refine wpAnyH_ready (rs := [8, 9]) (by kernel_rfl) (by simp) ?_
  refine AllReadyH.cons rfl (fun K hK => ?_) (AllReadyH.cons rfl (fun K hK => ?_) AllReadyH.nil)
  · skip
    simp only [List.getElem_toArray, List.getElem_cons_zero, List.getElem_cons_succ]
    go_simp
    refine (lnLook_any B t age last E vid f.d now _ hHeld.1.tab).mono ?_
    rintro e w2 ⟨rfl, k2⟩
    have S2 := And.intro (hHeld.1.kept k2) (And.intro (hHeld.2.1.kept k2) (And.intro (hHeld.2.2.1.kept k2) (And.intro (hHeld.2.2.2.1.kept k2) (hHeld.2.2.2.2.trans (k2.mono hHeld.2.2.2.2.size)))))
    refine hK.out _ _ ?_ (fun hHeld => ?_)
    · exact S2
    clear hK K
    (try simp only [Act.put, List.getElem_toArray, List.getElem_cons_zero, List.getElem_cons_succ, List.setIfInBounds_toArray, List.set_cons_zero, List.set_cons_succ])
    refine wpAnyH_ready (rs := [9]) (by kernel_rfl) (by simp) ?_
    refine AllReadyH.cons rfl (fun K hK => ?_) AllReadyH.nil
    simp only [List.getElem_toArray, List.getElem_cons_zero, List.getElem_cons_succ]
    rw [if_pos (by rfl)]
    refine wp_alloc_int rfl ?_
    rintro A w3 hA HA3 k3
    subst hA
    have H0 := hHeld
    have S3 := And.intro (hHeld.1.kept k3) (And.intro (hHeld.2.1.kept k3) (And.intro (hHeld.2.2.1.kept k3) (And.intro (hHeld.2.2.2.1.kept k3) (hHeld.2.2.2.2.trans (k3.mono hHeld.2.2.2.2.size)))))
    refine hK.out _ _ ?_ (fun hHeld => ?_)
    · exact S3
    clear hK K
    (try simp only [Act.put, List.getElem_toArray, List.getElem_cons_zero, List.getElem_cons_succ, List.setIfInBounds_toArray, List.set_cons_zero, List.set_cons_succ])
    refine wpAnyH_ready (rs := [10]) (by kernel_rfl) (by simp) ?_
    refine AllReadyH.cons rfl (fun K hK => ?_) AllReadyH.nil
    simp only [List.getElem_toArray, List.getElem_cons_zero, List.getElem_cons_succ]
    rw [if_pos (by rfl)]
    refine wp_store_op (B := w2.heap.size) (k := 0) 3 (.int .i64 (lookM age E vid f.d now)) #[.int .i64 (lookM age E vid f.d now)] rfl rfl rfl HA3 (by kernel_rfl) (show (1 : Nat) ≤ 1 from Nat.le_refl 1) (by rfl) rfl ?_
    intro w4 HA4 b4 g4
    have KK := k3.trans b4
    have S4 := And.intro (H0.1.kept KK) (And.intro (H0.2.1.kept KK) (And.intro (H0.2.2.1.kept KK) (And.intro (H0.2.2.2.1.kept KK) (H0.2.2.2.2.trans (KK.mono H0.2.2.2.2.size)))))
    refine hK.out _ _ ?_ (fun hHeld => ?_)
    · exact S4
    clear hK K
    (try simp only [Act.put, List.getElem_toArray, List.getElem_cons_zero, List.getElem_cons_succ, List.setIfInBounds_toArray, List.set_cons_zero, List.set_cons_succ])
    refine wpAnyH_done (by kernel_rfl) ?_ _
    refine NoPanic.normal ?_
    exact ⟨rfl, _, _, _, _, _, _, _, _, _, _, rfl, HA4, hHeld.1, hHeld.2.1, hHeld.2.2.1, hHeld.2.2.2.1, hHeld.2.2.2.2⟩
  · skip
    simp only [List.getElem_toArray, List.getElem_cons_zero, List.getElem_cons_succ]
    rw [if_pos (by rfl)]
    refine wp_alloc_int rfl ?_
    rintro A w3 hA HA3 k3
    subst hA
    have H0 := hHeld
    have S3 := And.intro (hHeld.1.kept k3) (And.intro (hHeld.2.1.kept k3) (And.intro (hHeld.2.2.1.kept k3) (And.intro (hHeld.2.2.2.1.kept k3) (hHeld.2.2.2.2.trans (k3.mono hHeld.2.2.2.2.size)))))
    refine hK.out _ _ ?_ (fun hHeld => ?_)
    · exact S3
    clear hK K
    (try simp only [Act.put, List.getElem_toArray, List.getElem_cons_zero, List.getElem_cons_succ, List.setIfInBounds_toArray, List.set_cons_zero, List.set_cons_succ])
    refine wpAnyH_ready (rs := [8]) (by kernel_rfl) (by simp) ?_
    refine AllReadyH.cons rfl (fun K hK => ?_) AllReadyH.nil
    simp only [List.getElem_toArray, List.getElem_cons_zero, List.getElem_cons_succ]
    go_simp
    refine (lnLook_any B t age last E vid f.d now _ hHeld.1.tab).mono ?_
    rintro e w2 ⟨rfl, k2⟩
    have S2 := And.intro (hHeld.1.kept k2) (And.intro (hHeld.2.1.kept k2) (And.intro (hHeld.2.2.1.kept k2) (And.intro (hHeld.2.2.2.1.kept k2) (hHeld.2.2.2.2.trans (k2.mono hHeld.2.2.2.2.size)))))
    refine hK.out _ _ ?_ (fun hHeld => ?_)
    · exact S2
    clear hK K
    (try simp only [Act.put, List.getElem_toArray, List.getElem_cons_zero, List.getElem_cons_succ, List.setIfInBounds_toArray, List.set_cons_zero, List.set_cons_succ])
    refine wpAnyH_ready (rs := [10]) (by kernel_rfl) (by simp) ?_
    refine AllReadyH.cons rfl (fun K hK => ?_) AllReadyH.nil
    simp only [List.getElem_toArray, List.getElem_cons_zero, List.getElem_cons_succ]
    rw [if_pos (by rfl)]
    refine wp_store_op (B := w1.drew.heap.size) (k := 0) 3 (.int .i64 (lookM age E vid f.d now)) #[.int .i64 (lookM age E vid f.d now)] rfl rfl rfl (HA3.kept k2) (by kernel_rfl) (show (1 : Nat) ≤ 1 from Nat.le_refl 1) (by rfl) rfl ?_
    intro w4 HA4 b4 g4
    have KK := (k3.trans (k2.mono k3.size)).trans b4
    have S4 := And.intro (H0.1.kept KK) (And.intro (H0.2.1.kept KK) (And.intro (H0.2.2.1.kept KK) (And.intro (H0.2.2.2.1.kept KK) (H0.2.2.2.2.trans (KK.mono H0.2.2.2.2.size)))))
    refine hK.out _ _ ?_ (fun hHeld => ?_)
    · exact S4
    clear hK K
    (try simp only [Act.put, List.getElem_toArray, List.getElem_cons_zero, List.getElem_cons_succ, List.setIfInBounds_toArray, List.set_cons_zero, List.set_cons_succ])
    refine wpAnyH_done (by kernel_rfl) ?_ _
    refine NoPanic.normal ?_
    exact ⟨rfl, _, _, _, _, _, _, _, _, _, _, rfl, HA4, hHeld.1, hHeld.2.1, hHeld.2.2.1, hHeld.2.2.2.1, hHeld.2.2.2.2⟩

end Go.Proofs.Ytdceggekhhflgaa
