/- package bridge: Where, by which ports a frame leaves, its tags then. -/
import Derived.Test.YtdceggekhhflgaaBrV
import Derived.Great.BuildSlice
namespace Go.Proofs.Ytdceggekhhflgaa
open Go.RowKit
attribute [local go_sem ↓] Go.wp_at_zero Go.wp_at_succ
set_option linter.unusedSimpArgs false
set_option linter.unusedVariables false
set_option maxRecDepth 100000
set_option linter.unusedSectionVars false
variable [Zone]

set_option maxHeartbeats 1600000 in
theorem where_any {B b t c : Nat} {ad : Option Addr} {hs : List PsH} {age last : Int} {E : List Ent} (vid : Int) (a : Nat → Nat) (now : Int) (w : World) (h : BrgAt w B b t c ad hs age last E) :
    Calls Try.prog 19 #[.pointer (some ⟨b, 0, none⟩), .int .i64 vid, .agg (c6 a), .int .i64 now] w fun e w' => e = .returned (.int .i64 (lookM age E vid a now)) ∧ Below w.heap.size w w' := by
  have b1 : Below w.heap.size w (w.alloc (.cells (c6 a) 33)) := (Below.refl _ _).alloc (Nat.le_refl _) _
  have h1 := h.kept b1
  have HA := Blk.new w 33 (c6 a)
  clear h
  go_enter Try.func19, Try.ntmps19
  go_upto_region 1 with (refine box_blk 33 (c6 a) (by rfl) rfl rfl ?_)
  have hd : Below (w.alloc (.cells (c6 a) 33)).heap.size (w.alloc (.cells (c6 a) 33)) (w.alloc (.cells (c6 a) 33)).drew := (Below.refl _ _).drew
  generalize w.alloc (.cells (c6 a) 33) = w1 at *
  refine wp_region_noPanic ?_
  refine wp_region_held_drew (S := (fun w' => BrgAt w' B b t c ad hs age last E ∧ Blk w' w.heap.size 33 (c6 a))) (by kernel_rfl) ?_ (fun hHeld => ?_)
  · exact ⟨h1.kept (Below.refl _ _).drew, HA.drew⟩
  refine wpAnyH_take (i := 0) (v := ?_) rfl (by kernel_rfl) (by kernel_rfl) (by kernel_rfl) (fun _ _ _ h => h) (Or.inl ⟨by rfl, ?_⟩) (by assumption) ?_
  rotate_left
  · (intro w hSw; (try dsimp only at hSw); go_simp; (try with_reducible rfl))
  (try simp only [Act.put, List.getElem_toArray, List.getElem_cons_zero, List.getElem_cons_succ, List.setIfInBounds_toArray, List.set_cons_zero, List.set_cons_succ])
  refine wpAnyH_take (i := 1) (v := ?_) rfl (by kernel_rfl) (by kernel_rfl) (by kernel_rfl) (fun _ _ _ h => h) (Or.inl ⟨by rfl, ?_⟩) (by assumption) ?_
  rotate_left
  · (intro w hSw; (try dsimp only at hSw); go_simp; (try with_reducible rfl))
  (try simp only [Act.put, List.getElem_toArray, List.getElem_cons_zero, List.getElem_cons_succ, List.setIfInBounds_toArray, List.set_cons_zero, List.set_cons_succ])
  refine wpAnyH_take (i := 2) (v := ?_) rfl (by kernel_rfl) (by kernel_rfl) (by kernel_rfl) (fun _ _ _ h => h) (Or.inl ⟨by rfl, ?_⟩) (by assumption) ?_
  rotate_left
  · (intro w hSw; (try dsimp only at hSw); go_simp; (try with_reducible rfl))
  (try simp only [Act.put, List.getElem_toArray, List.getElem_cons_zero, List.getElem_cons_succ, List.setIfInBounds_toArray, List.set_cons_zero, List.set_cons_succ])
  refine wpAnyH_take (i := 3) (v := .pointer (some ⟨t, 0, none⟩)) rfl (by kernel_rfl) (by kernel_rfl) (by kernel_rfl) (fun _ _ _ h => h) (Or.inl ⟨by rfl, fun w hSw => by have c := hSw.1.blk.cv 1 (.pointer (some ⟨t, 0, none⟩)) rfl; go_simp⟩) (by assumption) ?_
  (try simp only [Act.put, List.getElem_toArray, List.getElem_cons_zero, List.getElem_cons_succ, List.setIfInBounds_toArray, List.set_cons_zero, List.set_cons_succ])
  refine wpAnyH_take (i := 4) (v := ?_) rfl (by kernel_rfl) (by kernel_rfl) (by kernel_rfl) (fun _ _ _ h => h) (Or.inl ⟨by rfl, ?_⟩) (by assumption) ?_
  rotate_left
  · (intro w hSw; (try dsimp only at hSw); go_simp; (try with_reducible rfl))
  (try simp only [Act.put, List.getElem_toArray, List.getElem_cons_zero, List.getElem_cons_succ, List.setIfInBounds_toArray, List.set_cons_zero, List.set_cons_succ])
  refine wpAnyH_take (i := 5) (v := .agg (c6 a)) rfl (by kernel_rfl) (by kernel_rfl) (by kernel_rfl) (fun _ _ _ h => h) (Or.inl ⟨by rfl, fun w hSw => exec_load_blk (k := 0) 33 (c6 a) rfl rfl hSw.2 (by kernel_rfl) (by kernel_rfl) rfl⟩) (by assumption) ?_
  (try simp only [Act.put, List.getElem_toArray, List.getElem_cons_zero, List.getElem_cons_succ, List.setIfInBounds_toArray, List.set_cons_zero, List.set_cons_succ])
  refine wpAnyH_take (i := 6) (v := ?_) rfl (by kernel_rfl) (by kernel_rfl) (by kernel_rfl) (fun _ _ _ h => h) (Or.inl ⟨by rfl, ?_⟩) (by assumption) ?_
  rotate_left
  · (intro w hSw; (try dsimp only at hSw); go_simp; (try with_reducible rfl))
  (try simp only [Act.put, List.getElem_toArray, List.getElem_cons_zero, List.getElem_cons_succ, List.setIfInBounds_toArray, List.set_cons_zero, List.set_cons_succ])
  refine wpAnyH_ready (rs := [7]) (by kernel_rfl) (by simp) ?_
  refine AllReadyH.cons rfl (fun K hK => ?_) AllReadyH.nil
  simp only [List.getElem_toArray, List.getElem_cons_zero, List.getElem_cons_succ]
  go_simp
  refine (lnLook_any B t age last E vid a now _ hHeld.1.tab).mono ?_
  rintro e w2 ⟨rfl, k2⟩
  have hS2 := hHeld.1.kept k2
  have HA2 := hHeld.2.kept k2
  refine hK.out _ _ ?_ (fun hHeld => ?_)
  · exact ⟨hS2, HA2⟩
  clear hK K
  (try simp only [Act.put, List.getElem_toArray, List.getElem_cons_zero, List.getElem_cons_succ, List.setIfInBounds_toArray, List.set_cons_zero, List.set_cons_succ])
  refine wpAnyH_take (i := 8) (v := ?_) rfl (by kernel_rfl) (by kernel_rfl) (by kernel_rfl) (fun _ _ _ h => h) (Or.inl ⟨by rfl, ?_⟩) (by assumption) ?_
  rotate_left
  · (intro w hSw; (try dsimp only at hSw); go_simp; (try with_reducible rfl))
  (try simp only [Act.put, List.getElem_toArray, List.getElem_cons_zero, List.getElem_cons_succ, List.setIfInBounds_toArray, List.set_cons_zero, List.set_cons_succ])
  refine wpAnyH_done (by kernel_rfl) ?_ _
  refine NoPanic.normal ?_
  go_wp2
  go_ret
  exact ⟨rfl, (b1.trans (hd.mono b1.size)).trans (k2.mono (Nat.le_trans b1.size hd.size))⟩

set_option maxHeartbeats 1600000 in
theorem leaves_any (i port at_ vid : Int) (x : PsH) (P1 P2 P3 : Nat) (w : World) (h : PsOk w x) (H1 : Blk w P1 3 #[.int .i64 port]) (H2 : Blk w P2 3 #[.int .i64 at_]) (H3 : Blk w P3 3 #[.int .i64 vid]) :
    Calls Try.prog 68 #[.int .i64 i, .agg (psC x), .pointer (some ⟨P1, 0, none⟩), .pointer (some ⟨P2, 0, none⟩), .pointer (some ⟨P3, 0, none⟩)] w fun e w' => e = .returned (.bool (((i != port) && (decide (at_ < 0) || (i == at_))) && ((x.x.st == 3) && memB x.x.inn vid))) ∧ Below w.heap.size w w' := by
  have b1 : Below w.heap.size w (w.alloc (.cells (psC x) 59)) := (Below.refl _ _).alloc (Nat.le_refl _) _
  have HP := Blk.new w 59 (psC x)
  have h1 := h.below b1
  have HC := Lib.hid (containsIv_any x.ia x.ic x.x.inn vid _ h1.i (Nat.le_trans h1.ic h1.im))
  have c1 := (H1.kept b1).cv 0 _ rfl
  have c2 := (H2.kept b1).cv 0 _ rfl
  have c3 := (H3.kept b1).cv 0 _ rfl
  have p1 := HP.cv 1 (.slice x.ia x.x.inn.length x.ic) rfl
  have p3 := HP.cv 3 (.int .i64 x.x.st) rfl
  clear H1 H2 H3 HP h1 h
  generalize memB x.x.inn vid = mm at *
  cases e1 : (i != port)
  · skip
    go_enter Try.func68, Try.ntmps68
    go_wp2_with (first
      | (refine box_blk 59 (psC x) (by rfl) rfl rfl ?_)
      | (go_at_call 32; refine HC.out.mono ?_; rintro e w' ⟨rfl, rfl⟩))
    go_ret
    exact ⟨rfl, b1⟩
  · cases e2 : decide (at_ < 0)
    · cases e3 : (i == at_)
      · skip
        go_enter Try.func68, Try.ntmps68
        go_wp2_with (first
          | (refine box_blk 59 (psC x) (by rfl) rfl rfl ?_)
          | (go_at_call 32; refine HC.out.mono ?_; rintro e w' ⟨rfl, rfl⟩))
        go_ret
        exact ⟨rfl, b1⟩
      · skip
        cases e4 : (x.x.st == 3)
        · skip
          go_enter Try.func68, Try.ntmps68
          go_wp2_with (first
            | (refine box_blk 59 (psC x) (by rfl) rfl rfl ?_)
            | (go_at_call 32; refine HC.out.mono ?_; rintro e w' ⟨rfl, rfl⟩))
          go_ret
          exact ⟨rfl, b1⟩
        · cases mm
          all_goals (
            go_enter Try.func68, Try.ntmps68
            go_wp2_with (first
              | (refine box_blk 59 (psC x) (by rfl) rfl rfl ?_)
              | (go_at_call 32; refine HC.out.mono ?_; rintro e w' ⟨rfl, rfl⟩))
            go_ret
            exact ⟨rfl, b1⟩)
    · skip
      cases e4 : (x.x.st == 3)
      · skip
        go_enter Try.func68, Try.ntmps68
        go_wp2_with (first
          | (refine box_blk 59 (psC x) (by rfl) rfl rfl ?_)
          | (go_at_call 32; refine HC.out.mono ?_; rintro e w' ⟨rfl, rfl⟩))
        go_ret
        exact ⟨rfl, b1⟩
      · cases mm
        all_goals (
          go_enter Try.func68, Try.ntmps68
          go_wp2_with (first
            | (refine box_blk 59 (psC x) (by rfl) rfl rfl ?_)
            | (go_at_call 32; refine HC.out.mono ?_; rintro e w' ⟨rfl, rfl⟩))
          go_ret
          exact ⟨rfl, b1⟩)

theorem Try.tgParts : (Try.prog.info? 68).map (fun i => (i.zero, i.size, i.bytes)) = some (some (.agg (tgC zTg)), 4, 32) := by kernel_rfl

theorem fill_tg (v : Tg) : Instr.fill (fun i => some (i * 4, 4)) ((Array.range (1 * 4)).map ((Value.agg (tgC zTg)).cells[· % (Value.agg (tgC zTg)).cells.size]!)) [(0, .agg (tgC v))] = some (tgC v) := by kernel_rfl

/-- Of one alone. -/
theorem slice_tg {o : Oper} {a : Act} {w : World} {K : Act → World → Prop} {Q : Exit → Act → World → Prop} {x : Operand} (y : Tg) (ho : o.op = .buildSlice 34 1 #[(0, x)]) (hx : a.eval x = .agg (tgC y))
    (h : ∀ w1, Blk w1 w.heap.size 68 (tgC y) → Below w.heap.size w w1 → w.heap.size < w1.heap.size → K (a.put o.dst (.slice (some ⟨w.heap.size, 0, none⟩) 1 1)) w1) : Oper.wp Try.prog o a w K Q := by
  obtain ⟨i0, hi, hz0, hz1, hz2⟩ := info_parts Try.tgParts
  refine wp_buildSlice 34 68 1 _ ho (tgC y) i0 (.agg (tgC zTg)) Try.underlying34 hi hz0 (by rw [hz1]; decide) (by rw [hz1]; decide) (by rw [hz1]; simp only [List.map_toArray, List.map_cons, List.map_nil, hx]; exact fill_tg y) (h _ (Blk.new w _ _) ((Below.refl _ _).alloc (Nat.le_refl _) _) (Blk.new w _ _).lt)

theorem sliceL_tg {ops : Array Oper} {rest : List Oper} {o : Oper} {a : Act} {w : World} {Q : Exit → Act → World → Prop} {x : Operand} (y : Tg) (hg : o.guard = none) (ho : o.op = .buildSlice 34 1 #[(0, x)]) (hx : a.eval x = .agg (tgC y))
    (h : ∀ w1, Blk w1 w.heap.size 68 (tgC y) → Below w.heap.size w w1 → w.heap.size < w1.heap.size → wpList Try.prog ops Q rest (a.put o.dst (.slice (some ⟨w.heap.size, 0, none⟩) 1 1)) w1) : wpList Try.prog ops Q (o :: rest) a w :=
  wpList_plain hg fun _ hK => slice_tg y ho hx fun w1 hB hb hs => hK _ _ (h w1 hB hb hs)

/-- No tags, or one in a block of its own. -/
def TgRow (w : World) (ta : Option Addr) (tl : List Tg) (tc : Nat) : Prop := (tl = [] ∧ ta = none ∧ tc = 0) ∨ ∃ t g, tl = [t] ∧ ta = some ⟨g, 0, none⟩ ∧ tc = 1 ∧ Blk w g 68 (tgC t)

theorem TgRow.keep {w w' : World} {ta : Option Addr} {tl : List Tg} {tc : Nat} (h : TgRow w ta tl tc) (hk : ∀ g C, Blk w g 68 C → w'.heap[g]? = w.heap[g]?) : TgRow w' ta tl tc := by
  rcases h with h | ⟨t, g, e1, e2, e3, e4⟩
  · exact Or.inl h
  · exact Or.inr ⟨t, g, e1, e2, e3, (hk g _ e4).trans e4⟩

theorem TgRow.kept {w w' : World} {ta : Option Addr} {tl : List Tg} {tc : Nat} (h : TgRow w ta tl tc) (hb : Below w.heap.size w w') : TgRow w' ta tl tc := h.keep fun g C q => hb.block g q.lt

theorem TgRow.inL {w : World} {ta : Option Addr} {tl : List Tg} {tc : Nat} (h : TgRow w ta tl tc) : TagsIn w ta tl := by
  rcases h with ⟨h, _⟩ | ⟨t, g, rfl, e2, e3, e4⟩
  · exact Or.inl h
  · refine Or.inr ⟨g, 0, e2, e4.lt, fun j hj => ?_⟩
    have hj0 : j = 0 := by simp at hj; omega
    subst hj0
    exact ⟨e4.cv 0 _ rfl, e4.cv 1 _ rfl, e4.cv 2 _ rfl, e4.cv 3 _ rfl⟩

theorem TgRow.cap {w : World} {ta : Option Addr} {tl : List Tg} {tc : Nat} (h : TgRow w ta tl tc) : tl.length ≤ tc ∧ tl.length ≤ 1 := by
  rcases h with ⟨rfl, _, rfl⟩ | ⟨t, g, rfl, e2, rfl, e4⟩ <;> simp

theorem Try.frZeroB : (Try.prog.info? 36).map (·.zero) = some (some (.agg (frC zFr))) := by kernel_rfl

set_option maxHeartbeats 3200000 in
theorem retag_any (f : Fr) (vid : Int) (bare : Bool) (w : World) (hT : TagsIn w f.ta f.tl) (hl : f.tl.length ≤ 20) :
    Calls Try.prog 69 #[frV f, .int .i64 vid, .bool bare] w fun e w' => (∃ ta tc, e = .returned (.agg (frC { f with ta := ta, tl := (if bare then [] else [⟨false, (firstT f.tl).p, (firstT f.tl).d, vid⟩]), tc := tc })) ∧ TgRow w' ta (if bare then [] else [⟨false, (firstT f.tl).p, (firstT f.tl).d, vid⟩]) tc) ∧ Below w.heap.size w w' := by
  have b0 : Below w.heap.size w (w.alloc (.cells (frC f) 36)) := (Below.refl _ _).alloc (Nat.le_refl _) _
  have hF0 : Blk (w.alloc (.cells (frC f) 36)) w.heap.size 36 (frC f) := HasF.new w f
  have HFT := Lib.hid (fun w h => firstTag_any f w h hl)
  clear hl
  unfold frV
  go_enter Try.func69, Try.ntmps69
  go_upto_region 1 with (first
    | (refine box_blk 36 (frC f) (by rfl) rfl rfl ?_)
    | (refine alloc_blk 36 (frC zFr) (by rfl) rfl Try.frZeroB ?_))
  simp only [Act.put, List.setIfInBounds_toArray, List.set_cons_zero, List.set_cons_succ]
  have HR := Blk.new (w.alloc (.cells (frC f) 36)) 36 (frC zFr)
  have hF1 := hF0.alloc (.cells (frC zFr) 36)
  have b1 : Below w.heap.size w ((w.alloc (.cells (frC f) 36)).alloc (.cells (frC zFr) 36)) := b0.alloc b0.size _
  have hT1 := hT.below b1
  generalize hN : (w.alloc (.cells (frC f) 36)).heap.size = R at *
  have hn : w.heap.size < R := by rw [← hN]; simp
  generalize (w.alloc (.cells (frC f) 36)).alloc (.cells (frC zFr) 36) = w1 at *
  clear hF0 b0 hN hT
  go_upto_region 2 with (first
    | (refine load_blk 36 (frC f) (by rfl) rfl rfl hF1 (by kernel_rfl) (by kernel_rfl) (by rfl) ?_)
    | (go_at_call 43; refine (HFT.out _ hT1).mono ?_; rintro e w3 ⟨rfl, k3⟩)
    | (refine alloc_blk 68 (tgC zTg) (by rfl) rfl Try.tgZero ?_)
    | (refine store_blk (B := w3.heap.size) (k := 0) 68 (.agg (tgC (firstT f.tl))) (tgC (firstT f.tl)) (by rfl) rfl rfl rfl (Blk.new w3 68 (tgC zTg)) (by kernel_rfl) (show (4 : Nat) ≤ 4 from Nat.le_refl 4) (by rfl) (st_whole' _ _ rfl) ?_; intro w4 HT4 b4 g4))
  have k4 := k3.trans ((((Below.refl _ _).alloc (Nat.le_refl _) _).trans b4).mono k3.size)
  have B4 := b1.trans (k4.mono b1.size)
  have hF4 := hF1.kept k4
  have HR4 := HR.kept k4
  clear hF1 HR b1 k3 k4 b4 g4 hT1 HFT
  generalize hTT : firstT f.tl = tt at *
  generalize w3.heap.size = N at *
  generalize hFe : w.heap.size = F0 at *
  obtain ⟨ts, tp, td, tv⟩ := tt
  have HTT := Lib.hid hTT
  clear hTT
  have t1 := HT4.cv 1 (.int .i64 tp) rfl
  have t2 := HT4.cv 2 (.bool td) rfl
  simp only [Act.put, List.setIfInBounds_toArray, List.set_cons_zero, List.set_cons_succ]
  have c4 := hF4.lt
  cases bare with
  | true =>
    go_wp2_with (first
      | (refine store_blk (B := F0) (k := 12) 34 (.slice none 0 0) (frC { f with ta := none, tl := [], tc := 0 }) (by rfl) rfl rfl rfl hF4 (by kernel_rfl) (show (13 : Nat) ≤ 21 by decide) (by rfl) rfl ?_; intro w5 HF5 b5 g5; have HR5 := HR4.grown g5 (by intro e; cases e; omega))
      | (refine load_blk 36 (frC { f with ta := none, tl := [], tc := 0 }) (by rfl) rfl rfl HF5 (by kernel_rfl) (by kernel_rfl) (by rfl) ?_)
      | (refine store_blk (B := R) (k := 0) 36 (.agg (frC { f with ta := none, tl := [], tc := 0 })) (frC { f with ta := none, tl := [], tc := 0 }) (by rfl) rfl rfl rfl HR5 (by kernel_rfl) (show (21 : Nat) ≤ 21 from Nat.le_refl 21) (by rfl) (st_whole' _ _ rfl) ?_; intro w6 HR6 b6 g6))
    exact bodyPost_ret (results_blk rfl rfl HR6 (by kernel_rfl) (by kernel_rfl)) rfl ⟨⟨none, 0, rfl, Or.inl ⟨rfl, rfl, rfl⟩⟩, B4.trans (b5.trans (b6.mono (by omega)))⟩
  | false =>
    go_upto_region 5 with (first
      | (refine store_blk (B := F0) (k := 12) 34 (.slice none 0 0) (frC { f with ta := none, tl := [], tc := 0 }) (by rfl) rfl rfl rfl hF4 (by kernel_rfl) (show (13 : Nat) ≤ 21 by decide) (by rfl) rfl ?_; intro w5 HF5 b5 g5; have HR5 := HR4.grown g5 (by intro e; cases e; omega); have HT5 : Blk w5 N 68 (tgC ⟨ts, tp, td, tv⟩) := HT4.grown g5 (by intro e; cases e; exact absurd (blk_type HT4 hF4) (by decide)); have u1 := HT5.cv 1 (.int .i64 tp) rfl; have u2 := HT5.cv 2 (.bool td) rfl)
      | (refine build_blk (tgC ⟨false, tp, td, vid⟩) (by rfl) rfl (by kernel_rfl) ?_)
      | (refine sliceL_tg ⟨false, tp, td, vid⟩ (by rfl) rfl rfl ?_; intro w6 HG6 k6 s6; have HF6 := HF5.kept k6; have HR6 := HR5.kept k6)
      | (refine store_blk (B := F0) (k := 12) 34 (.slice (some ⟨w5.heap.size, 0, none⟩) 1 1) (frC { f with ta := some ⟨w5.heap.size, 0, none⟩, tl := [⟨false, tp, td, vid⟩], tc := 1 }) (by rfl) rfl rfl rfl HF6 (by kernel_rfl) (show (13 : Nat) ≤ 21 by decide) (by rfl) rfl ?_; intro w7 HF7 b7 g7; have HR7 := HR6.grown g7 (by intro e; cases e; omega); have HG7 := HG6.grown g7 (by intro e; have := HF5.lt; cases e; omega)))
    simp only [Act.put, List.setIfInBounds_toArray, List.set_cons_zero, List.set_cons_succ]
    go_wp2_with (first
      | (refine load_blk 36 (frC { f with ta := some ⟨w5.heap.size, 0, none⟩, tl := [⟨false, tp, td, vid⟩], tc := 1 }) (by rfl) rfl rfl HF7 (by kernel_rfl) (by kernel_rfl) (by rfl) ?_)
      | (refine store_blk (B := R) (k := 0) 36 (.agg (frC { f with ta := some ⟨w5.heap.size, 0, none⟩, tl := [⟨false, tp, td, vid⟩], tc := 1 })) (frC { f with ta := some ⟨w5.heap.size, 0, none⟩, tl := [⟨false, tp, td, vid⟩], tc := 1 }) (by rfl) rfl rfl rfl HR7 (by kernel_rfl) (show (21 : Nat) ≤ 21 from Nat.le_refl 21) (by rfl) (st_whole' _ _ rfl) ?_; intro w8 HR8 b8 g8))
    have HG8 := HG7.grown g8 (by intro e; have := HR5.lt; cases e; omega)
    exact bodyPost_ret (results_blk rfl rfl HR8 (by kernel_rfl) (by kernel_rfl)) rfl ⟨⟨_, 1, by rw [HTT.out], Or.inr ⟨_, _, rfl, rfl, rfl, by rw [HTT.out]; exact HG8⟩⟩, B4.trans (b5.trans ((k6.mono (Nat.le_of_lt HF5.lt)).trans (b7.trans (b8.mono (by omega)))))⟩

end Go.Proofs.Ytdceggekhhflgaa
