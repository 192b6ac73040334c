/- switchyardkeep.BridgeFloods. -/
import Derived.Test.YtdceggekhhflgaaKs
import Derived.Test.YtdceggekhhflgaaPs
import Derived.Test.YtdceggekhhflgaaPlN
import Derived.Test.YtdceggekhhflgaaLsM
import Derived.BigQuiet
import Derived.BigGuard
namespace Go.Proofs.Ytdceggekhhflgaa
open Go.RowKit
set_option linter.unusedSimpArgs false
set_option linter.unusedVariables false
set_option maxRecDepth 100000

theorem Own.plain [Zone] {B g : Nat} (h : Own B g) : @Own zone0 B g := ⟨h.1, fun q => q⟩

theorem Lx.plain [Zone] {B : Nat} {TS : List TypeId} {w w' : World} (h : Lx B TS w w') : @Lx zone0 B TS w w' :=
  @Lx.mk zone0 _ _ _ _ h.os h.tape h.output h.size (fun k hk hq => h.block k hk (by
    rcases hq with q | q | q
    · exact Or.inl q
    · exact q.elim
    · exact Or.inr (Or.inr q)))

theorem RowE.plain [Zone] {w : World} {B : Nat} {T : TypeId} {v : Value} {l : List Ent} (h : RowE w B T v l) : @RowE zone0 w B T v l := by
  rcases h with ⟨h0, h | ⟨g, cap, cur, e, h1, h2⟩⟩
  · exact ⟨h0, Or.inl h⟩
  · exact ⟨h0, Or.inr ⟨g, cap, cur, e, h1.plain, h2⟩⟩

theorem Tab.plain [Zone] {w : World} {B t : Nat} {age last : Int} {l : List Ent} (h : Tab w B t age last l) : @Tab zone0 w B t age last l := by
  obtain ⟨v, hb, hr⟩ := h.row
  exact @Tab.mk zone0 _ _ _ _ _ _ ⟨v, hb, hr.plain⟩ h.lo.plain h.ok h.a0 h.a1 h.l0 h.l1

theorem BrgAt.plain [Zone] {w : World} {B b t c : Nat} {ad : Option Addr} {hs : List PsH} {age last : Int} {E : List Ent} (h : BrgAt w B b t c ad hs age last E) : @BrgAt zone0 w B b t c ad hs age last E :=
  @BrgAt.mk zone0 _ _ _ _ _ _ _ _ _ _ h.blk h.row h.kp h.tab.plain h.lo h.few h.lc h.cm h.right

/-- A table whose blocks lie below U. -/
def TabLow (w : World) (t U : Nat) : Prop := t < U ∧ ∀ age last v, Blk w t 104 (tabC age last v) → ∀ g, v.ownBlock = some g → g < U

theorem TabLow.keep {w w' : World} {t U : Nat} (h : TabLow w t U) (hk : w'.heap[t]? = w.heap[t]?) : TabLow w' t U :=
  ⟨h.1, fun age last v q => h.2 age last v (hk.symm.trans q)⟩

theorem tabC_inj {age last age' last' : Int} {v v' : Value} (h : tabC age last v = tabC age' last' v') : v = v' := by
  unfold tabC at h
  simp only [Array.mk.injEq, List.cons.injEq] at h
  exact h.2.2.1

theorem blk_cells {w : World} {k : Nat} {T T' : TypeId} {C C' : Array Value} (h : Blk w k T C) (h' : Blk w k T' C') : C = C' := by
  have e : some (Obj.cells C T (0, 0)) = some (Obj.cells C' T' (0, 0)) := h.symm.trans h'
  injection e with e
  injection e

theorem BrgAt.low {w : World} {B b t c : Nat} {ad : Option Addr} {hs : List PsH} {age last : Int} {E : List Ent} (h : BrgAt w B b t c ad hs age last E) : TabLow w t w.heap.size := by
  obtain ⟨v, hb, hr⟩ := h.tab.row
  refine ⟨hb.lt, fun age' last' v' q g hg => ?_⟩
  have e := tabC_inj (blk_cells q hb)
  subst e
  rcases hr.own with q1 | ⟨g1, C1, q1, _, q2⟩
  · rw [q1] at hg; cases hg
  · rw [q1] at hg; cases hg; exact q2.lt

theorem BrgAt.zoned {w : World} {B b t c : Nat} {ad : Option Addr} {hs : List PsH} {age last : Int} {E : List Ent} (U N : Nat) (h : BrgAt w B b t c ad hs age last E) (hl : TabLow w t U) : @BrgAt (zoneUN U N) w B b t c ad hs age last E := by
  obtain ⟨v, hb, hr⟩ := h.tab.row
  have hg := hl.2 _ _ _ hb
  have hr2 : @RowE (zoneUN U N) w B 100 v E := by
    rcases hr with ⟨h0, h | ⟨g, cap, cur, e, h1, h2⟩⟩
    · exact ⟨h0, Or.inl h⟩
    · refine ⟨h0, Or.inr ⟨g, cap, cur, e, ⟨h1.1, fun q => ?_⟩, h2⟩⟩
      have := hg g (by rw [e]; rfl)
      have := q.1
      omega
  exact @BrgAt.mk (zoneUN U N) _ _ _ _ _ _ _ _ _ _ h.blk h.row h.kp (@Tab.mk (zoneUN U N) _ _ _ _ _ _ ⟨v, hb, hr2⟩ ⟨h.tab.lo.1, fun q => by have := q.1; have := hl.1; omega⟩ h.tab.ok h.tab.a0 h.tab.a1 h.tab.l0 h.tab.l1) h.lo h.few h.lc h.cm h.right

/-- In, and what lies from U on and below N stands as it stood. -/
theorem in_apart {B b t c : Nat} {ad : Option Addr} {hs : List PsH} {age last : Int} {E : List Ent} (U N : Nat) (port now : Int) (f : Fr) (w : World) (h : BrgAt w B b t c ad hs age last E) (hl : TabLow w t U) (hf : FrIn w f) (hK : TagsK w B f.ta f.tl) (hd : ∀ i, f.d i < 256) (hsb : ∀ i, f.s i < 256) (hB : B ≤ w.heap.size) (hN : N ≤ w.heap.size) :
    Calls Try.prog 17 #[.pointer (some ⟨b, 0, none⟩), .int .i64 port, frV f, .int .i64 now] w fun e w' => InPost B b t c ad hs age last E port now f w e w' ∧ ∀ k, U ≤ k → k < N → w'.heap[k]? = w.heap[k]? := by
  refine (@in_any (zoneUN U N) B b t c ad hs age last E port now f w (h.zoned U N hl) hf hK hd hsb (Nat.max_le.2 ⟨hB, hN⟩)).mono ?_
  rintro e w' ⟨v, ss, h1, h2, h3, h4, h5⟩
  exact ⟨⟨v, ss, h1, h2, h3, @BrgAt.plain (zoneUN U N) _ _ _ _ _ _ _ _ _ _ h4, @Lx.plain (zoneUN U N) _ _ _ _ h5⟩, fun k hU hk => @Lx.block (zoneUN U N) _ _ _ _ h5 k (Nat.lt_of_lt_of_le hk hN) (Or.inr (Or.inl ⟨hU, hk⟩))⟩

end Go.Proofs.Ytdceggekhhflgaa
namespace Go.Proofs.Ytdceggekhhflgaa.bridgeFloods
open Go.RowKit
attribute [local go_sem ↓] Go.wp_at_zero Go.wp_at_succ
set_option linter.unusedSimpArgs false
set_option linter.unusedVariables false
set_option maxRecDepth 100000

theorem six_eqN' {x y : Nat → Nat} (h : ¬ six x = six y) : eqN 6 x y = false := by
  rw [Bool.eq_false_iff]
  intro q
  apply h
  have q := (eqN_iff 6 x y).1 q
  unfold six
  rw [q 0 (by decide), q 1 (by decide), q 2 (by decide), q 3 (by decide), q 4 (by decide), q 5 (by decide)]

theorem dst_one {t : Tr} (h : t.many = false) : dstF t = adF t.to := by
  funext i
  unfold dstF
  rw [h]
  simp

theorem many_id {t : Tr} (h : t.many = false) : manyT t false = t := by
  obtain ⟨a, b, c, d, e, f⟩ := t
  cases h
  rfl

theorem flood_cells {t : Tr} (h : t.many = false) (ta : Option Addr) (tc : Nat) : ((frC (carF t ta tc)).toList.take 0 ++ (Value.int .u8 3).cells.toList ++ (frC (carF t ta tc)).toList.drop (0 + (Value.int .u8 3).cells.toList.length)).toArray = frC (carF (manyT t true) ta tc) := by
  have h1 := dst_one h
  have h2 : dstF (manyT t true) = fun i => if i = 0 then 3 else adF t.to i := by
    funext i
    unfold dstF manyT
    simp
  unfold carF
  rw [h1, h2]
  rfl

theorem vid_of {B b tt cc : Nat} {ad : Option Addr} {hs : List PsH} {lX : Int} {EX : List Ent} {ps : List Ps} (t : Tr) (ta : Option Addr) (tc j : Nat) (w : World) (h : BrgAt w B b tt cc ad hs 100 lX EX) (hmap : hs.map PsH.x = ps) (q : TgRow w ta (tagM t) tc) :
    Calls Try.prog 18 #[.pointer (some ⟨b, 0, none⟩), .int .i64 (j : Int), .agg (frC (carF t ta tc))] w fun e w' => e = .returned (.int .i64 (vidM ps (j : Int) (tagM t))) ∧ Below w.heap.size w w' := by
  have := vid_any (j : Int) (carF t ta tc) w h q.inL (Nat.le_trans (tagM_short t) (by decide))
  rw [hmap] at this
  exact this

theorem fr_of {w : World} {t : Tr} {ta : Option Addr} {tc : Nat} (q : TgRow w ta (tagM t) tc) : FrIn w (carF t ta tc) := ⟨q.inL, Nat.le_trans (tagM_short t) (by decide), q.cap.1, show (4 : Nat) ≤ 3000 by decide⟩

theorem in_of1 {B b tt cc : Nat} {ad : Option Addr} {hs : List PsH} {lX tE : Int} {EX : List Ent} {ps : List Ps} (U N : Nat) (t : Tr) (ta : Option Addr) (tc j : Nat) (w : World) (h : BrgAt w B b tt cc ad hs 100 lX EX) (hmap : hs.map PsH.x = ps) (hl : TabLow w tt U) (q : TgRow w ta (tagM t) tc) (hb : B ≤ w.heap.size) (hN : N ≤ w.heap.size) :
    Calls Try.prog 17 #[.pointer (some ⟨b, 0, none⟩), .int .i64 (j : Int), .agg (frC (carF t ta tc)), .int .i64 tE] w fun e w' =>
      ∃ v ss, e = .returned (.tuple #[v, errV (inM ps 100 lX EX (j : Int) (carF t ta tc) tE).err]) ∧ OwnSnH w' w.heap.size v ss ∧ Sents w' (carF t ta tc) (vidM ps (j : Int) (tagM t)) ps (inM ps 100 lX EX (j : Int) (carF t ta tc) tE).out ss ∧ Lx B LT w w' ∧ ∀ k, U ≤ k → k < N → w'.heap[k]? = w.heap[k]? := by
  have := in_apart U N (j : Int) tE (carF t ta tc) w h hl (fr_of q) (q.toK _) (dstF_lt t) (adF_lt _) hb hN
  unfold InPost at this
  rw [hmap] at this
  refine this.mono ?_
  rintro e w' ⟨⟨v, ss, h1, h2, h3, -, h5⟩, h6⟩
  exact ⟨v, ss, h1, h2, h3, h5, h6⟩

theorem in_of2 {B b tt cc : Nat} {ad : Option Addr} {hs : List PsH} {lX tE : Int} {EX : List Ent} {ps : List Ps} (t : Tr) (ta : Option Addr) (tc j : Nat) (w : World) (h : BrgAt w B b tt cc ad hs 100 lX EX) (hmap : hs.map PsH.x = ps) (q : TgRow w ta (tagM t) tc) (hb : B ≤ w.heap.size) :
    Calls Try.prog 17 #[.pointer (some ⟨b, 0, none⟩), .int .i64 (j : Int), .agg (frC (carF t ta tc)), .int .i64 tE] w fun e w' =>
      ∃ v ss, e = .returned (.tuple #[v, errV (inM ps 100 lX EX (j : Int) (carF t ta tc) tE).err]) ∧ OwnSnH w' w.heap.size v ss ∧ Sents w' (carF t ta tc) (vidM ps (j : Int) (tagM t)) ps (inM ps 100 lX EX (j : Int) (carF t ta tc) tE).out ss ∧ Lx B LT w w' := by
  have := in_any (j : Int) tE (carF t ta tc) w h (fr_of q) (q.toK _) (dstF_lt t) (adF_lt _) hb
  unfold InPost at this
  rw [hmap] at this
  refine this.mono ?_
  rintro e w' ⟨v, ss, h1, h2, h3, -, h5⟩
  exact ⟨v, ss, h1, h2, h3, h5⟩

theorem sn_keep {w w' : World} {base : Nat} {v : Value} {l : List SnH} (h : OwnSnH w base v l) (hk : ∀ g C, Blk w g 48 C → w'.heap[g]? = w.heap[g]?) : OwnSnH w' base v l := by
  rcases h with h | ⟨h1, g, cap, rfl, h2⟩
  · exact Or.inl h
  · refine Or.inr ⟨h1, g, cap, rfl, ?_⟩
    rcases h2 with ⟨q0, q | ⟨g', cap', cur, e, e1, e2, e3⟩⟩
    · exact ⟨q0, Or.inl q⟩
    · exact ⟨q0, Or.inr ⟨g', cap', cur, e, e1, (hk g' cur e2).trans e2, e3⟩⟩

theorem sent_ports {w : World} {f : Fr} {vid : Int} {ps : List Ps} {is : List Nat} {ss : List SnH} (h : Sents w f vid ps is ss) : ∀ j (h1 : j < is.length) (h2 : j < ss.length), (ss[j]).p = (is[j] : Int) := fun j h1 h2 => (h.get j h1 h2).1

set_option maxHeartbeats 6400000 in
theorem walk (a0 : Option Addr) (c0 : Nat) (l0 : List PsH) (a1 : Option Addr) (c1 : Nat) (l1 : List Tr) (t2 : Tr) (W : World) (hin0 : PsIn W a0 l0) (hok0 : ∀ x ∈ l0, PsOk W x) (hl0 : l0.length ≤ maxLen) (hin1 : TrIn W a1 l1) (hl1 : l1.length ≤ maxLen) :
    Calls Try.prog 9 #[.slice a0 l0.length c0, .slice a1 l1.length c1, .agg (trC t2)] W fun e w' => e = .returned (.bool true) ∧ Below W.heap.size W w' := by
  have B0 : Below W.heap.size W (W.alloc (.cells (trC t2) 24)) := (Below.refl _ _).alloc (Nat.le_refl _) _
  have HT1 := Blk.new W 24 (trC t2)
  have HSETS : Hid (∀ w, Below W.heap.size W w → Calls Try.prog 22 #[.slice a0 l0.length c0] w fun e w' => e = .returned (.bool (setsB l0)) ∧ Below w.heap.size w w') := fun w hb => sets_any a0 c0 l0 w (hin0.below hb) (fun x hx => (hok0 x hx).below hb) hl0
  cases hst : setsB l0 with
  | false =>
    rw [hst] at HSETS
    clear hin0 hok0 hin1 hst
    go_enter Try.func9, Try.ntmps9
    go_upto_region 1 with (refine box_blk 24 (trC t2) (by rfl) rfl rfl ?_)
    generalize W.alloc (.cells (trC t2) 24) = w1 at *
    go_wp2_with (first
      | (go_at_call 11; refine (passes_any _).mono ?_; rintro e w2 ⟨rfl, k2⟩; have B2 := B0.trans (k2.mono B0.size))
      | (go_at_call 22; refine (HSETS.out _ B2).mono ?_; rintro e w3 ⟨rfl, k3⟩; have B3 := B2.trans (k3.mono B2.size)))
    go_ret
    exact ⟨rfl, B3⟩
  | true =>
    rw [hst] at HSETS
    obtain ⟨hne, hl8, hr⟩ := setsB_yes hst
    by_cases h60 : 60 < l1.length
    · have e60 : decide ((60 : Int) < (l1.length : Int)) = true := decide_eq_true (by omega)
      clear hin0 hok0 hin1 hst hr
      go_enter Try.func9, Try.ntmps9
      go_upto_region 1 with (refine box_blk 24 (trC t2) (by rfl) rfl rfl ?_)
      generalize W.alloc (.cells (trC t2) 24) = w1 at *
      go_wp2_with (first
        | (go_at_call 11; refine (passes_any _).mono ?_; rintro e w2 ⟨rfl, k2⟩; have B2 := B0.trans (k2.mono B0.size))
        | (go_at_call 22; refine (HSETS.out _ B2).mono ?_; rintro e w3 ⟨rfl, k3⟩; have B3 := B2.trans (k3.mono B2.size)))
      go_ret
      exact ⟨rfl, B3⟩
    have e60 : decide ((60 : Int) < (l1.length : Int)) = false := decide_eq_false (by omega)
    have HSERV : Hid (∀ w, Below W.heap.size W w → Calls Try.prog 12 #[.slice a0 l0.length c0, .slice a1 l1.length c1] w fun e w' => (∃ b t c ad hs, e = .returned (.tuple #[.pointer (some ⟨b, 0, none⟩), .int .i64 (srvM (l0.map PsH.x) l1).2.2]) ∧ hs.map PsH.x = l0.map PsH.x ∧ BrgAt w' w.heap.size b t c ad hs 100 (srvM (l0.map PsH.x) l1).1 (srvM (l0.map PsH.x) l1).2.1) ∧ Below w.heap.size w w') := fun w hb =>
      served_any a0 c0 l0 a1 c1 l1 w (hin0.below hb) (fun x hx => (hok0 x hx).below hb) hl8 hr hne (hin1.below hb) (by omega)
    have HPS : Hid (∀ p ∈ l0.map PsH.x, okPs p = true) := fun p hp => by
      obtain ⟨x, hx, rfl⟩ := List.mem_map.1 hp
      exact hr x hx
    have HSRV := Lib.hid (srvM_ok HPS.out (by rw [List.length_map]; exact hl8) (by rw [List.length_map]; exact hne) l1 (by omega))
    generalize srvM (l0.map PsH.x) l1 = sv at *
    obtain ⟨lE, E, tE⟩ := sv
    have HL8 := Lib.hid hl8
    have HNE := Lib.hid hne
    have HN60 : Hid (l1.length ≤ 60) := by show _ ≤ _; omega
    have hpk := pickN_lt t2.port l0.length hne
    clear hin1 hst hr hl8 hne h60
    go_enter Try.func9, Try.ntmps9
    go_upto_region 1 with (refine box_blk 24 (trC t2) (by rfl) rfl rfl ?_)
    generalize W.alloc (.cells (trC t2) 24) = w1 at *
    go_upto_region 9 with (first
      | (go_at_call 11; refine (passes_any _).mono ?_; rintro e w2 ⟨rfl, k2⟩; have B2 := B0.trans (k2.mono B0.size))
      | (go_at_call 22; refine (HSETS.out _ B2).mono ?_; rintro e w3 ⟨rfl, k3⟩; have B3 := B2.trans (k3.mono B2.size))
      | (go_at_call 12; (with_reducible refine (HSERV.out w3 B3).mono ?_); rintro e w4 ⟨⟨b, tt, cc, ad, hs, rfl, hmap, hbr⟩, k4⟩; have B4 := B3.trans (k4.mono B3.size))
      | (go_at_call 12; (with_reducible refine (HSERV.out w4 B4).mono ?_); rintro e w5 ⟨⟨b2, tu, cu, au, hu, rfl, hmau, hbu⟩, k5⟩))
    have HT5 : Blk w5 W.heap.size 24 (trC t2) := (((HT1.kept k2).kept k3).kept k4).kept k5
    have hT3 : W.heap.size < w3.heap.size := Nat.lt_of_lt_of_le (Nat.lt_of_lt_of_le HT1.lt k2.size) k3.size
    have h34 : w3.heap.size ≤ w4.heap.size := k4.size
    have h45 : w4.heap.size ≤ w5.heap.size := k5.size
    have hlow4 : TabLow w4 tt w4.heap.size := hbr.low
    have hlow5 := hlow4.keep (w' := w5) (k5.block tt hlow4.1)
    have htt : w3.heap.size ≤ tt := hbr.tab.lo.1
    have hbr5 := hbr.kept k5
    have B5 := B4.trans (k5.mono B4.size)
    have hBW := B3.size
    clear HT1 hbr hlow4 k2 k3 k4 k5 B0 hin0 hok0 HSERV HSETS
    obtain ⟨t, ht⟩ : ∃ t, manyT t2 false = t := ⟨_, rfl⟩
    have hm : t.many = false := by rw [← ht]; rfl
    have hC5 : ∀ {w' : World}, Blk w' W.heap.size 24 (trC (manyT t2 false)) → Blk w' W.heap.size 24 (trC t) := fun h => by rw [← ht]; exact h
    clear ht
    go_upto_region 10 with (refine store_blk (B := W.heap.size) (k := 5) 4 (.bool false) (trC (manyT t2 false)) (by rfl) rfl rfl rfl HT5 (by kernel_rfl) (show (6 : Nat) ≤ 6 from Nat.le_refl 6) (by rfl) rfl ?_; intro w6 HT6 b6 g6)
    have h56 := g6.size
    have hbr6 := hbr5.keep (w' := w6) fun g T C q hg hT => g6.block g q.lt (by intro e; cases e; omega)
    have hlow6 := hlow5.keep (w' := w6) (g6.block tt (Nat.lt_of_lt_of_le hlow5.1 h45) (by intro e; cases e; omega))
    have hz6 : ∀ g, w4.heap.size ≤ g → g < w5.heap.size → w6.heap[g]? = w5.heap[g]? := fun g h1 h2 => g6.block g h2 (by intro e; cases e; omega)
    have B6 : Below W.heap.size W w6 := B5.trans b6
    replace HT6 := hC5 HT6
    clear HT5 hC5 b6 g6 hbr5 hlow5 B5 hpk
    refine Code.wp_mono (Q := fun e a w' => e = .normal ∧ ∃ A ta tc u20 u21 u22 u23 u24 u25 u26 u27 u28 u29 u30 u31 u32 u33 u34 u35 u36 u37 u38 u39 u40 u41 u42 u43 u44 u45 u46 u47 u48 u49 u50 u51 u52 u53 u54 u55, a = { tmps := #[.slice a0 l0.length c0, .slice a1 l1.length c1, .agg (trC t2), undef, undef, .pointer (some ⟨W.heap.size, 0, none⟩), .bool false, .pointer (some ⟨b, 0, none⟩), .int .i64 tE, .pointer (some ⟨b2, 0, none⟩), .int .i64 tE, .pointer (some ⟨A, 0, none⟩), .int .i64 (pickN t.port l0.length : Nat), undef, undef, undef, undef, undef, undef, undef, u20, u21, u22, u23, u24, u25, u26, u27, u28, u29, u30, u31, u32, u33, u34, u35, u36, u37, u38, u39, u40, u41, u42, u43, u44, u45, u46, u47, u48, u49, u50, u51, u52, u53, u54, u55, undef, undef, undef, undef, undef, undef, undef, undef, undef, undef, undef, undef, undef, undef, undef, undef, undef, undef, undef, undef, undef, undef, undef, undef, undef, undef, undef, undef, undef, undef, undef, undef, undef, undef, undef, undef, undef, undef, undef, undef, undef, undef, undef, undef, undef, undef, undef, undef, undef, undef, undef, undef, undef, undef, undef, undef, undef, undef, undef, undef, undef, undef, undef, undef, undef, undef, undef, undef, undef, undef, undef, undef, undef, undef, undef], defers := [] } ∧ Blk w' A 36 (frC (carF t ta tc)) ∧ w6.heap.size ≤ A ∧ TgRow w' ta (tagM t) tc ∧ Blk w' W.heap.size 24 (trC t) ∧ Below w6.heap.size w6 w') ?_ ?_
    rotate_left
    · skip
      refine wp_region_noPanic ?_
      refine wp_region_held_drew (S := (fun w' => Blk w' W.heap.size 24 (trC t) ∧ Below w6.heap.size w6 w')) (by kernel_rfl) ?_ (fun hHeld => ?_)
      · exact ⟨HT6, (Below.refl _ _).drew⟩
      refine wpAnyH_take (i := 0) (v := .agg (trC t)) rfl (by kernel_rfl) (by kernel_rfl) (by kernel_rfl) (fun _ _ _ h => h) (Or.inl ⟨by rfl, fun w hSw => exec_load_blk (k := 0) 24 (trC t) rfl rfl hSw.1 (by kernel_rfl) (by kernel_rfl) rfl⟩) (by assumption) ?_
      (try simp only [Act.put, List.getElem_toArray, List.getElem_cons_zero, List.getElem_cons_succ, List.setIfInBounds_toArray, List.set_cons_zero, List.set_cons_succ])
      refine wpAnyH_take (i := 2) (v := ?_) rfl (by kernel_rfl) (by kernel_rfl) (by kernel_rfl) (fun _ _ _ h => h) (Or.inl ⟨by rfl, ?_⟩) (by assumption) ?_
      rotate_left
      · (intro w hSw; (try dsimp only at hSw); go_simp; (try with_reducible rfl))
      (try simp only [Act.put, List.getElem_toArray, List.getElem_cons_zero, List.getElem_cons_succ, List.setIfInBounds_toArray, List.set_cons_zero, List.set_cons_succ])
      refine wpAnyH_take (i := 3) (v := .int .i64 t.port) rfl (by kernel_rfl) (by kernel_rfl) (by kernel_rfl) (fun _ _ _ h => h) (Or.inl ⟨by rfl, fun w hSw => by have c := hSw.1.cv 0 (.int .i64 t.port) rfl; go_simp⟩) (by assumption) ?_
      (try simp only [Act.put, List.getElem_toArray, List.getElem_cons_zero, List.getElem_cons_succ, List.setIfInBounds_toArray, List.set_cons_zero, List.set_cons_succ])
      refine wpAnyH_take (i := 4) (v := ?_) rfl (by kernel_rfl) (by kernel_rfl) (by kernel_rfl) (fun _ _ _ h => h) (Or.inl ⟨by rfl, ?_⟩) (by assumption) ?_
      rotate_left
      · (intro w hSw; (try dsimp only at hSw); go_simp; (try with_reducible rfl))
      (try simp only [Act.put, List.getElem_toArray, List.getElem_cons_zero, List.getElem_cons_succ, List.setIfInBounds_toArray, List.set_cons_zero, List.set_cons_succ])
      refine wpAnyH_take (i := 5) (v := ?_) rfl (by kernel_rfl) (by kernel_rfl) (by kernel_rfl) (fun _ _ _ h => h) (Or.inl ⟨by rfl, ?_⟩) (by assumption) ?_
      rotate_left
      · (intro w hSw; (try dsimp only at hSw); go_simp; (try with_reducible rfl))
      (try simp only [Act.put, List.getElem_toArray, List.getElem_cons_zero, List.getElem_cons_succ, List.setIfInBounds_toArray, List.set_cons_zero, List.set_cons_succ])
      refine wpAnyH_ready (rs := [1, 7]) (by kernel_rfl) (by simp) ?_
      refine (AllReadyH.cons rfl (fun K hK => ?_) (AllReadyH.cons rfl (fun K hK => ?_) AllReadyH.nil))
      · skip
        simp only [List.getElem_toArray, List.getElem_cons_zero, List.getElem_cons_succ]
        go_simp
        refine (carried_any t _).mono ?_
        rintro e w7 ⟨⟨ta, tc, rfl, hTg⟩, k7⟩
        have hS := hHeld.1.kept k7
        have BK := hHeld.2.trans (k7.mono hHeld.2.size)
        refine hK.out _ _ ?_ (fun hHeld => ?_)
        · exact ⟨hS, BK⟩
        clear hK K
        (try simp only [Act.put, List.getElem_toArray, List.getElem_cons_zero, List.getElem_cons_succ, List.setIfInBounds_toArray, List.set_cons_zero, List.set_cons_succ])
        refine wpAnyH_ready (rs := [6, 7]) (by kernel_rfl) (by simp) ?_
        refine (AllReadyH.cons rfl (fun K hK => ?_) (AllReadyH.cons rfl (fun K hK => ?_) AllReadyH.nil))
        · skip
          simp only [List.getElem_toArray, List.getElem_cons_zero, List.getElem_cons_succ]
          go_simp
          refine (pick_val t.port l0.length _ HNE.out (Nat.le_trans HL8.out (by decide))).mono ?_
          rintro e w' ⟨rfl, rfl⟩
          refine hK.out _ _ ?_ (fun hHeld => ?_)
          · exact hHeld
          clear hK K
          (try simp only [Act.put, List.getElem_toArray, List.getElem_cons_zero, List.getElem_cons_succ, List.setIfInBounds_toArray, List.set_cons_zero, List.set_cons_succ])
          refine wpAnyH_ready (rs := [7]) (by kernel_rfl) (by simp) ?_
          refine AllReadyH.cons rfl (fun K hK => ?_) AllReadyH.nil
          simp only [List.getElem_toArray, List.getElem_cons_zero, List.getElem_cons_succ]
          rw [if_pos (by rfl)]
          refine wp_alloc_opF 36 (frC zFr) rfl Try.frZeroB ?_
          rintro A w8 hA HA k8
          have hAlo : w6.heap.size ≤ A := by rw [hA]; exact hHeld.2.size
          have k8' := k8
          rw [hA] at k8'
          replace hA := Lib.hid hA
          have hS := hHeld.1.kept k8'
          have BK := hHeld.2.trans (k8'.mono hHeld.2.size)
          have hTg := hTg.kept k8'
          refine hK.out _ _ ?_ (fun hHeld => ?_)
          · exact ⟨hS, BK⟩
          clear hK K
          (try simp only [Act.put, List.getElem_toArray, List.getElem_cons_zero, List.getElem_cons_succ, List.setIfInBounds_toArray, List.set_cons_zero, List.set_cons_succ])
          refine wpAnyH_ready (rs := [8]) (by kernel_rfl) (by simp) ?_
          refine AllReadyH.cons rfl (fun K hK => ?_) AllReadyH.nil
          simp only [List.getElem_toArray, List.getElem_cons_zero, List.getElem_cons_succ]
          rw [if_pos (by rfl)]
          refine wp_store_op (k := 0) 36 (frV (carF t ta tc)) (frC (carF t ta tc)) rfl rfl rfl HA (by kernel_rfl) (show (21 : Nat) ≤ 21 from Nat.le_refl 21) (by rfl) (st_whole' _ _ rfl) (fun w9 HA9 b9 g9 => ?_)
          have hS := hHeld.1.grown g9 (by intro e; have := HT6.lt; cases e; omega)
          have BK := hHeld.2.trans (b9.mono hAlo)
          have hTg9 := hTg.keep fun g C q => g9.block g q.lt (by intro e; cases e; exact absurd (blk_type q HA) (by decide))
          refine hK.out _ _ ?_ (fun hHeld => ?_)
          · exact ⟨hS, BK⟩
          clear hK K
          (try simp only [Act.put, List.getElem_toArray, List.getElem_cons_zero, List.getElem_cons_succ, List.setIfInBounds_toArray, List.set_cons_zero, List.set_cons_succ])
          refine wpAnyH_take (i := 9) (v := ?_) rfl (by kernel_rfl) (by kernel_rfl) (by kernel_rfl) (fun _ _ _ h => h) (Or.inl ⟨by rfl, ?_⟩) (by assumption) ?_
          rotate_left
          · (intro w hSw; (try dsimp only at hSw); go_simp; (try with_reducible rfl))
          (try simp only [Act.put, List.getElem_toArray, List.getElem_cons_zero, List.getElem_cons_succ, List.setIfInBounds_toArray, List.set_cons_zero, List.set_cons_succ])
          refine wpAnyH_done (by kernel_rfl) ?_ _
          refine NoPanic.normal ?_
          exact ⟨rfl, _, _, _, _, _, _, _, _, _, _, _, _, _, _, _, _, _, _, _, _, _, _, _, _, _, _, _, _, _, _, _, _, _, _, _, _, _, _, _, rfl, HA9, hAlo, hTg9, hHeld.1, hHeld.2⟩
        · skip
          simp only [List.getElem_toArray, List.getElem_cons_zero, List.getElem_cons_succ]
          rw [if_pos (by rfl)]
          refine wp_alloc_opF 36 (frC zFr) rfl Try.frZeroB ?_
          rintro A w8 hA HA k8
          have hAlo : w6.heap.size ≤ A := by rw [hA]; exact hHeld.2.size
          have k8' := k8
          rw [hA] at k8'
          replace hA := Lib.hid hA
          have hS := hHeld.1.kept k8'
          have BK := hHeld.2.trans (k8'.mono hHeld.2.size)
          have hTg := hTg.kept k8'
          refine hK.out _ _ ?_ (fun hHeld => ?_)
          · exact ⟨hS, BK⟩
          clear hK K
          (try simp only [Act.put, List.getElem_toArray, List.getElem_cons_zero, List.getElem_cons_succ, List.setIfInBounds_toArray, List.set_cons_zero, List.set_cons_succ])
          refine wpAnyH_ready (rs := [6]) (by kernel_rfl) (by simp) ?_
          refine AllReadyH.cons rfl (fun K hK => ?_) AllReadyH.nil
          simp only [List.getElem_toArray, List.getElem_cons_zero, List.getElem_cons_succ]
          go_simp
          refine (pick_val t.port l0.length _ HNE.out (Nat.le_trans HL8.out (by decide))).mono ?_
          rintro e w' ⟨rfl, rfl⟩
          refine hK.out _ _ ?_ (fun hHeld => ?_)
          · exact hHeld
          clear hK K
          (try simp only [Act.put, List.getElem_toArray, List.getElem_cons_zero, List.getElem_cons_succ, List.setIfInBounds_toArray, List.set_cons_zero, List.set_cons_succ])
          refine wpAnyH_ready (rs := [8]) (by kernel_rfl) (by simp) ?_
          refine AllReadyH.cons rfl (fun K hK => ?_) AllReadyH.nil
          simp only [List.getElem_toArray, List.getElem_cons_zero, List.getElem_cons_succ]
          rw [if_pos (by rfl)]
          refine wp_store_op (k := 0) 36 (frV (carF t ta tc)) (frC (carF t ta tc)) rfl rfl rfl HA (by kernel_rfl) (show (21 : Nat) ≤ 21 from Nat.le_refl 21) (by rfl) (st_whole' _ _ rfl) (fun w9 HA9 b9 g9 => ?_)
          have hS := hHeld.1.grown g9 (by intro e; have := HT6.lt; cases e; omega)
          have BK := hHeld.2.trans (b9.mono hAlo)
          have hTg9 := hTg.keep fun g C q => g9.block g q.lt (by intro e; cases e; exact absurd (blk_type q HA) (by decide))
          refine hK.out _ _ ?_ (fun hHeld => ?_)
          · exact ⟨hS, BK⟩
          clear hK K
          (try simp only [Act.put, List.getElem_toArray, List.getElem_cons_zero, List.getElem_cons_succ, List.setIfInBounds_toArray, List.set_cons_zero, List.set_cons_succ])
          refine wpAnyH_take (i := 9) (v := ?_) rfl (by kernel_rfl) (by kernel_rfl) (by kernel_rfl) (fun _ _ _ h => h) (Or.inl ⟨by rfl, ?_⟩) (by assumption) ?_
          rotate_left
          · (intro w hSw; (try dsimp only at hSw); go_simp; (try with_reducible rfl))
          (try simp only [Act.put, List.getElem_toArray, List.getElem_cons_zero, List.getElem_cons_succ, List.setIfInBounds_toArray, List.set_cons_zero, List.set_cons_succ])
          refine wpAnyH_done (by kernel_rfl) ?_ _
          refine NoPanic.normal ?_
          exact ⟨rfl, _, _, _, _, _, _, _, _, _, _, _, _, _, _, _, _, _, _, _, _, _, _, _, _, _, _, _, _, _, _, _, _, _, _, _, _, _, _, _, rfl, HA9, hAlo, hTg9, hHeld.1, hHeld.2⟩
      · skip
        simp only [List.getElem_toArray, List.getElem_cons_zero, List.getElem_cons_succ]
        rw [if_pos (by rfl)]
        refine wp_alloc_opF 36 (frC zFr) rfl Try.frZeroB ?_
        rintro A w8 hA HA k8
        have hAlo : w6.heap.size ≤ A := by rw [hA]; exact hHeld.2.size
        have k8' := k8
        rw [hA] at k8'
        replace hA := Lib.hid hA
        have hS := hHeld.1.kept k8'
        have BK := hHeld.2.trans (k8'.mono hHeld.2.size)
        refine hK.out _ _ ?_ (fun hHeld => ?_)
        · exact ⟨hS, BK⟩
        clear hK K
        (try simp only [Act.put, List.getElem_toArray, List.getElem_cons_zero, List.getElem_cons_succ, List.setIfInBounds_toArray, List.set_cons_zero, List.set_cons_succ])
        refine wpAnyH_ready (rs := [1]) (by kernel_rfl) (by simp) ?_
        refine AllReadyH.cons rfl (fun K hK => ?_) AllReadyH.nil
        simp only [List.getElem_toArray, List.getElem_cons_zero, List.getElem_cons_succ]
        go_simp
        refine (carried_any t _).mono ?_
        rintro e w7 ⟨⟨ta, tc, rfl, hTg⟩, k7⟩
        have hS := hHeld.1.kept k7
        have BK := hHeld.2.trans (k7.mono hHeld.2.size)
        have HA := HA.kept k7
        refine hK.out _ _ ?_ (fun hHeld => ?_)
        · exact ⟨hS, BK⟩
        clear hK K
        (try simp only [Act.put, List.getElem_toArray, List.getElem_cons_zero, List.getElem_cons_succ, List.setIfInBounds_toArray, List.set_cons_zero, List.set_cons_succ])
        refine wpAnyH_ready (rs := [6]) (by kernel_rfl) (by simp) ?_
        refine AllReadyH.cons rfl (fun K hK => ?_) AllReadyH.nil
        simp only [List.getElem_toArray, List.getElem_cons_zero, List.getElem_cons_succ]
        go_simp
        refine (pick_val t.port l0.length _ HNE.out (Nat.le_trans HL8.out (by decide))).mono ?_
        rintro e w' ⟨rfl, rfl⟩
        refine hK.out _ _ ?_ (fun hHeld => ?_)
        · exact hHeld
        clear hK K
        (try simp only [Act.put, List.getElem_toArray, List.getElem_cons_zero, List.getElem_cons_succ, List.setIfInBounds_toArray, List.set_cons_zero, List.set_cons_succ])
        refine wpAnyH_ready (rs := [8]) (by kernel_rfl) (by simp) ?_
        refine AllReadyH.cons rfl (fun K hK => ?_) AllReadyH.nil
        simp only [List.getElem_toArray, List.getElem_cons_zero, List.getElem_cons_succ]
        rw [if_pos (by rfl)]
        refine wp_store_op (k := 0) 36 (frV (carF t ta tc)) (frC (carF t ta tc)) rfl rfl rfl HA (by kernel_rfl) (show (21 : Nat) ≤ 21 from Nat.le_refl 21) (by rfl) (st_whole' _ _ rfl) (fun w9 HA9 b9 g9 => ?_)
        have hS := hHeld.1.grown g9 (by intro e; have := HT6.lt; cases e; omega)
        have BK := hHeld.2.trans (b9.mono hAlo)
        have hTg9 := hTg.keep fun g C q => g9.block g q.lt (by intro e; cases e; exact absurd (blk_type q HA) (by decide))
        refine hK.out _ _ ?_ (fun hHeld => ?_)
        · exact ⟨hS, BK⟩
        clear hK K
        (try simp only [Act.put, List.getElem_toArray, List.getElem_cons_zero, List.getElem_cons_succ, List.setIfInBounds_toArray, List.set_cons_zero, List.set_cons_succ])
        refine wpAnyH_take (i := 9) (v := ?_) rfl (by kernel_rfl) (by kernel_rfl) (by kernel_rfl) (fun _ _ _ h => h) (Or.inl ⟨by rfl, ?_⟩) (by assumption) ?_
        rotate_left
        · (intro w hSw; (try dsimp only at hSw); go_simp; (try with_reducible rfl))
        (try simp only [Act.put, List.getElem_toArray, List.getElem_cons_zero, List.getElem_cons_succ, List.setIfInBounds_toArray, List.set_cons_zero, List.set_cons_succ])
        refine wpAnyH_done (by kernel_rfl) ?_ _
        refine NoPanic.normal ?_
        exact ⟨rfl, _, _, _, _, _, _, _, _, _, _, _, _, _, _, _, _, _, _, _, _, _, _, _, _, _, _, _, _, _, _, _, _, _, _, _, _, _, _, _, rfl, HA9, hAlo, hTg9, hHeld.1, hHeld.2⟩
    rintro e a w8 ⟨rfl, A, ta, tc, u20, u21, u22, u23, u24, u25, u26, u27, u28, u29, u30, u31, u32, u33, u34, u35, u36, u37, u38, u39, u40, u41, u42, u43, u44, u45, u46, u47, u48, u49, u50, u51, u52, u53, u54, u55, rfl, HF8, hAlo, hTg8, -, k8⟩
    have hbr8 := hbr6.kept k8
    have hlow8 := hlow6.keep (w' := w8) (k8.block tt (Nat.lt_of_lt_of_le hlow6.1 (Nat.le_trans h45 h56)))
    have hz8 : ∀ g, w4.heap.size ≤ g → g < w5.heap.size → w8.heap[g]? = w5.heap[g]? := fun g h1 h2 => (k8.block g (Nat.lt_of_lt_of_le h2 h56)).trans (hz6 g h1 h2)
    have B8 := B6.trans (k8.mono B6.size)
    have h58 : w5.heap.size ≤ w8.heap.size := Nat.le_trans h56 k8.size
    clear hbr6 hlow6 hz6 HT6 k8 B6 h56
    have h0 := HSRV.out.last0
    have h1 := HSRV.out.last1
    have h2 := HSRV.out.now
    simp only at h0 h1 h2
    have HPL : Hid ((l0.map PsH.x).length ≤ 8) := by show _ ≤ _; rw [List.length_map]; exact HL8.out
    have hpk := pickN_lt t.port l0.length HNE.out
    have HKL : Hid (pickN t.port l0.length < (l0.map PsH.x).length) := by show _ < _; rw [List.length_map]; exact hpk
    have HTT : Hid (tE ≤ 1000000) := by show _ ≤ _; have := HN60.out; omega
    generalize hPS : l0.map PsH.x = PS at *
    generalize pickN t.port l0.length = k at *
    have HVC := Lib.hid (vid_of t ta tc k w8 hbr8 hmap hTg8)
    have HEQ : Hid (∀ w, (Op.equalIn 10000 33 (.agg (c6 (adF t.frm))) (.agg (c6 (dstF t)))).run Try.prog w = .ok (decide (six (adF t.frm) = six (dstF t))) w) := fun w => run_eql_addr _ _ (adF_lt _) (dstF_lt t) w
    have hd := dst_one hm
    have HNQ : Hid (decide (six (adF t.frm) = six (dstF t)) = false → eqN 6 (adF t.frm) (adF t.to) = false) := fun h => by rw [← hd]; exact six_eqN' (of_decide_eq_false h)
    generalize decide (six (adF t.frm) = six (dstF t)) = same at *
    have HD := Lib.hid hd
    have HM := Lib.hid hm
    clear hd hm
    generalize hV : vidM PS (k : Int) (tagM t) = V at *
    have HVE := Lib.hid hV
    clear hV
    go_upto_region 12 with (first
      | (refine load_blk 36 (frC (carF t ta tc)) (by rfl) rfl rfl HF8 (by kernel_rfl) (by kernel_rfl) (by rfl) ?_)
      | (go_at_call 18; refine HVC.out.mono ?_; rintro e w9 ⟨rfl, k9⟩))
    have HF9 := HF8.kept k9
    have hTg9 := hTg8.kept k9
    have hbr9 := hbr8.kept k9
    have hlow9 := hlow8.keep (w' := w9) (k9.block tt (Nat.lt_of_lt_of_le hlow8.1 (Nat.le_trans h45 h58)))
    have hz9 : ∀ g, w4.heap.size ≤ g → g < w5.heap.size → w9.heap[g]? = w5.heap[g]? := fun g h1 h2 => (k9.block g (Nat.lt_of_lt_of_le h2 h58)).trans (hz8 g h1 h2)
    have h59 : w5.heap.size ≤ w9.heap.size := Nat.le_trans h58 k9.size
    have B9 := B8.trans (k9.mono B8.size)
    have h8A : A < w9.heap.size := HF9.lt
    clear HF8 hTg8 hbr8 hlow8 hz8 B8 HVC k9 h58
    by_cases hV0 : V = 0
    · subst hV0
      clear HEQ HNQ
      go_wp2_with (first
        | go_big_skip)
      go_ret
      exact ⟨rfl, B9⟩
    have eV : (V == 0) = false := beq_eq_false_iff_ne.2 hV0
    cases same with
    | true =>
      clear HNQ
      go_wp2_with (first
        | go_big_skip
        | (refine load_blk (k := 6) 33 (c6 (adF t.frm)) (by rfl) rfl rfl HF9 (by kernel_rfl) (by kernel_rfl) (by rfl) ?_) | (refine load_blk (k := 0) 33 (c6 (dstF t)) (by rfl) rfl rfl HF9 (by kernel_rfl) (by kernel_rfl) (by rfl) ?_)
        | (refine eq_blk .eql 33 (c6 (adF t.frm)) (c6 (dstF t)) _ (by rfl) rfl (Or.inl rfl) rfl rfl (by kernel_rfl) (HEQ.out _) ?_))
      go_ret
      exact ⟨rfl, B9⟩
    | false =>
      have hne := HNQ.out rfl
      have HWH := Lib.hid (where_any V (dstF t) tE w9 hbr9)
      cases hat : decide ((0 : Int) ≤ lookM 100 E V (dstF t) tE) with
      | true =>
        generalize lookM 100 E V (dstF t) tE = z at *
        clear HNQ hne
        go_wp2_with (first
          | (refine load_blk (k := 6) 33 (c6 (adF t.frm)) (by rfl) rfl rfl HF9 (by kernel_rfl) (by kernel_rfl) (by rfl) ?_) | (refine load_blk (k := 0) 33 (c6 (dstF t)) (by rfl) rfl rfl HF9 (by kernel_rfl) (by kernel_rfl) (by rfl) ?_)
          | (refine eq_blk .eql 33 (c6 (adF t.frm)) (c6 (dstF t)) _ (by rfl) rfl (Or.inl rfl) rfl rfl (by kernel_rfl) (HEQ.out _) ?_)
          | (go_at_call 19; refine HWH.out.mono ?_; rintro e w10 ⟨rfl, k10⟩))
        go_ret
        exact ⟨rfl, B9.trans (k10.mono B9.size)⟩
      | false =>
        have hat2 : lookM 100 E (vidM PS (k : Int) (tagM t)) (adF t.to) tE < 0 := by rw [HVE.out, ← HD.out]; exact Int.not_le.1 (of_decide_eq_false hat)
        have hfl := floods_out HPS.out HKL.out HPL.out h0 h1 HTT.out HSRV.out.kept HSRV.out.even t hne hat2 ta ta tc tc
        rw [many_id HM.out] at hfl
        have hf1 := in_fine HPS.out HKL.out HPL.out h0 h1 HTT.out E t ta tc
        have hf2 := in_fine HPS.out HKL.out HPL.out h0 h1 HTT.out E (manyT t true) ta tc
        have hio := in_out HPS.out HKL.out HPL.out h0 h1 HTT.out E t ta tc
        obtain ⟨out, hout⟩ : ∃ out, (inM PS 100 lE E (k : Int) (carF t ta tc) tE).out = out := ⟨_, rfl⟩
        rw [hout] at hfl hio
        have HER1 := Lib.hid hf1.1
        have HER2 := Lib.hid hf2.1
        have HOU1 := Lib.hid hout
        have HOU2 := Lib.hid hfl.symm
        have HLEN : Hid (out.length ≤ 8) := Nat.le_trans (sorted_len hio.1 (fun i hi => (hio.2 i hi).lt)) HPL.out
        have HD2 : Hid (dstF t 0 = 2) := by show _ = _; rw [HD.out]; rfl
        generalize lookM 100 E V (dstF t) tE = z at *
        clear hfl hf1 hf2 hio hout hat2 hne HNQ
        go_upto_region 14 with (first
          | (refine load_blk (k := 6) 33 (c6 (adF t.frm)) (by rfl) rfl rfl HF9 (by kernel_rfl) (by kernel_rfl) (by rfl) ?_) | (refine load_blk (k := 0) 33 (c6 (dstF t)) (by rfl) rfl rfl HF9 (by kernel_rfl) (by kernel_rfl) (by rfl) ?_)
          | (refine eq_blk .eql 33 (c6 (adF t.frm)) (c6 (dstF t)) _ (by rfl) rfl (Or.inl rfl) rfl rfl (by kernel_rfl) (HEQ.out _) ?_)
          | (go_at_call 19; refine HWH.out.mono ?_; rintro e w10 ⟨rfl, k10⟩))
        have HF10 := HF9.kept k10
        clear HWH HEQ
        go_upto_region 16 with (first
          | (refine load_blk 36 (frC (carF t ta tc)) (by rfl) rfl rfl HF10 (by kernel_rfl) (by kernel_rfl) (by rfl) ?_)
          | (refine alloc_blk 36 (frC zFr) (by rfl) rfl Try.frZeroB ?_)
          | (refine store_blk (B := w10.heap.size) (k := 0) 36 (frV (carF t ta tc)) (frC (carF t ta tc)) (by rfl) rfl rfl rfl (Blk.new w10 36 (frC zFr)) (by kernel_rfl) (show (21 : Nat) ≤ 21 from Nat.le_refl 21) (by rfl) (st_whole' _ _ rfl) ?_; intro w12 HG12 b12 g12; have cg := HG12.cv 0 (.int .u8 2) (by show some (Value.int .u8 ((dstF t 0 : Nat) : Int)) = _; rw [HD2.out]; rfl))
          | (refine store_blk (B := w10.heap.size) (k := 0) 5 (.int .u8 3) (frC (carF (manyT t true) ta tc)) (by rfl) rfl rfl rfl HG12 (by kernel_rfl) (show (1 : Nat) ≤ 21 by decide) (by rfl) (flood_cells HM.out ta tc) ?_; intro w13 HG13 b13 g13))
        have kG := (((Below.refl w10.heap.size w10).alloc (Nat.le_refl _) (.cells (frC zFr) 36)).trans b12).trans b13
        have k13 := k10.trans (kG.mono k10.size)
        have HF13 := HF10.kept kG
        have hTg13 := hTg9.kept k13
        have hbr13 := hbr9.kept k13
        have hlow13 := hlow9.keep (w' := w13) (k13.block tt (Nat.lt_of_lt_of_le hlow9.1 (Nat.le_trans h45 h59)))
        have hz13 : ∀ g, w4.heap.size ≤ g → g < w5.heap.size → w13.heap[g]? = w5.heap[g]? := fun g h1 h2 => (k13.block g (Nat.lt_of_lt_of_le h2 h59)).trans (hz9 g h1 h2)
        have h513 : w5.heap.size ≤ w13.heap.size := Nat.le_trans h59 k13.size
        have h313 := Nat.le_trans h34 (Nat.le_trans h45 h513)
        have B13 := B9.trans (k13.mono B9.size)
        clear HF9 HF10 hTg9 hbr9 hlow9 hz9 h59 B9 k10 k13 kG b12 g12 b13 g13 HG12 cg
        generalize w10.heap.size = G at *
        go_upto_region 17 with (first
          | (refine load_blk 36 (frC (carF t ta tc)) (by rfl) rfl rfl HF13 (by kernel_rfl) (by kernel_rfl) (by rfl) ?_)
          | (go_at_call 17; (with_reducible refine (in_of1 w4.heap.size w5.heap.size t ta tc k w13 hbr13 hmap hlow13 hTg13 h313 h513).mono ?_); rintro e w14 ⟨v1, ss1, rfl, ho1, hss1, hx14, hzz⟩; rw [HOU1.out] at hss1; rw [HER1.out, show errV 0 = .nilIface from rfl]; have HN1 := Lib.hid hss1.len; obtain ⟨aS, cS, rfl, -⟩ := ho1.inL; rw [← HN1.out]))
        have HG14 := hx14.blk HG13 (by decide)
        have hTg14 : TgRow w14 ta (tagM (manyT t true)) tc := hTg13.keep (w' := w14) (fun g C q => (hx14.blk q (by decide)).trans q.symm)
        have hbu14 := hbu.keep (w' := w14) fun g T C q hg hT => (hzz g hg q.lt).trans (hz13 g hg q.lt)
        have h414 : w4.heap.size ≤ w14.heap.size := Nat.le_trans (Nat.le_trans h45 h513) hx14.size
        have B14 := B13.trans ((hx14.below h313).mono hBW)
        have HP1 := Lib.hid (sent_ports hss1)
        clear hss1 hbr13 hlow13 hz13 hzz HF13 HG13 hTg13 B13 h313 h513
        go_upto_region 18 with (first
          | (refine load_blk 36 (frC (carF (manyT t true) ta tc)) (by rfl) rfl rfl HG14 (by kernel_rfl) (by kernel_rfl) (by rfl) ?_)
          | (go_at_call 17; (with_reducible refine (in_of2 (manyT t true) ta tc k w14 hbu14 hmau hTg14 h414).mono ?_); rintro e w15 ⟨v2, ss2, rfl, ho2, hss2, hx15⟩; rw [HOU2.out] at hss2; rw [HER2.out, show errV 0 = .nilIface from rfl]; have HN2 := Lib.hid hss2.len; obtain ⟨aT, cT, rfl, hIT⟩ := ho2.inL; rw [← HN2.out]))
        have ho1' := sn_keep ho1 (fun g C q => (hx15.blk q (by decide)).trans q.symm)
        obtain ⟨aS', cS', eS, hIS⟩ := ho1'.inL
        obtain ⟨rfl, -, rfl⟩ := (Value.slice.inj eS)
        have HP2 := Lib.hid (sent_ports hss2)
        have B15 := B14.trans ((hx15.below h414).mono (Nat.le_trans hBW h34))
        clear hss2 ho1 ho1' ho2 hbu14 hbu HG14 hTg14 hx14 hx15 B14 eS HER1 HER2 HOU1 HOU2
        have hll : out.length ≤ 9223372036854775807 := Nat.le_trans HLEN.out (by decide)
        have enn : ((out.length : Int) != (out.length : Int)) = false := by simp
        go_wp2_with fail
        go_loopw [116] (fun s116 wr => ∃ j : Nat, j ≤ out.length ∧ s116 = .int .i64 j ∧ Below w15.heap.size w15 wr) (fun i _ => out.length - (intOf i).toNat)
        case atStart => exact ⟨0, by omega, rfl, Below.refl _ _⟩
        case round =>
          obtain ⟨j, hj, rfl, Bk⟩ := hrel
          by_cases hlt : j < out.length
          · have hj1 : j < ss1.length := by rw [← HN1.out]; exact hlt
            have hj2 : j < ss2.length := by rw [← HN2.out]; exact hlt
            obtain ⟨p1, o1, rfl, -, hat1⟩ := (hIS.below Bk).at hj1
            obtain ⟨p2, o2, rfl, -, hat2⟩ := (hIT.below Bk).at hj2
            have q1 : (j : Int) < (out.length : Int) := by omega
            have q2 : decide ((j : Int) < (out.length : Int)) = true := decide_eq_true q1
            have q3 : (0 : Int) ≤ (j : Int) := by omega
            have q4 : IntKind.i64.wrap ((j : Int) + 1) = (j : Int) + 1 := by rw [IntKind.wrap_i64] <;> omega
            have x1 : wr.cell? ⟨p1, o1 + j * 22, none⟩ = some (.int .i64 (out[j] : Nat)) := by
              have := hat1 j hj1 0 _ rfl
              rw [Nat.add_zero] at this
              rw [this]
              exact congrArg some (congrArg (Value.int .i64) (HP1.out j hlt hj1))
            have x2 : wr.cell? ⟨p2, o2 + j * 22, none⟩ = some (.int .i64 (out[j] : Nat)) := by
              have := hat2 j hj2 0 _ rfl
              rw [Nat.add_zero] at this
              rw [this]
              exact congrArg some (congrArg (Value.int .i64) (HP2.out j hlt hj2))
            generalize out[j] = m at *
            have em : ((m : Int) != (m : Int)) = false := by simp
            have emn : (m != m) = false := by simp
            clear hat1 hat2 hIS hIT HP1 HP2
            go_upto_region 23 with (fail)
            go_quiet (fail)
            go_wp2
            go_roundw
            case rel => exact ⟨j + 1, by omega, by go_num, ⟨Bk.os, Bk.tape, Bk.output, Bk.size, Bk.block⟩⟩
            case measure => simp [intOf]; omega
          · obtain rfl : j = out.length := by omega
            have q2 : decide ((out.length : Int) < (out.length : Int)) = false := decide_eq_false (by omega)
            go_wp2
            go_ret
            exact ⟨rfl, B15.trans (Bk.mono B15.size)⟩

end Go.Proofs.Ytdceggekhhflgaa.bridgeFloods
