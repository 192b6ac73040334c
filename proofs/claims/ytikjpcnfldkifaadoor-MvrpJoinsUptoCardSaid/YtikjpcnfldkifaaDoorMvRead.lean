/- mvrp.Read at every text. -/
import Derived.Test.YtikjpcnfldkifaaDoorMvK
import Derived.Test.YtikjpcnfldkifaaDoorExp
import Derived.RangeFuncBound
namespace Go.Proofs.YtikjpcnfldkifaaDoor
open Go.RowKit
attribute [local go_sem ↓] Go.wp_at_zero Go.wp_at_succ
attribute [local go_sem] Oper.semAt_some
set_option linter.unusedSimpArgs false
set_option linter.unusedVariables false
set_option maxRecDepth 100000

/-- Between two messages, or in one that begins at m: the reader, the list in its box. -/
structure MvSt (S : ByteArray) (R : MvR) (g bl base : Nat) (mo : Option Nat) (st : RSt) (v : Value) (hs : List MvH) (W : World) : Prop where
  inv : MvI S.data.toList R mo st (xs hs)
  rd : RdT W g S 0 st
  box : Blk W bl 22 #[v]
  own : OwnAs W base v hs
  bs : base ≤ W.heap.size

theorem MvSt.keepC {S : ByteArray} {R : MvR} {g bl base : Nat} {mo : Option Nat} {st : RSt} {v : Value} {hs : List MvH} {W W' : World} (h : MvSt S R g bl base mo st v hs W) (hk : KeepC W W') : MvSt S R g bl base mo st v hs W' :=
  ⟨h.inv, rdT_keepC h.rd hk, hk.blk h.box, h.own.keepC hk, Nat.le_trans h.bs hk.size⟩

theorem MvSt.of {S : ByteArray} {R : MvR} {g bl base : Nat} {mo : Option Nat} {st : RSt} {v : Value} {hs : List MvH} {W W' : World} (h : MvSt S R g bl base mo st v hs W) (hb : Below W.heap.size W W') : MvSt S R g bl base mo st v hs W' := h.keepC (KeepC.of hb)

/-- The reader has read on. -/
theorem MvSt.reads {S : ByteArray} {R : MvR} {g bl base : Nat} {mo mo' : Option Nat} {st st' : RSt} {v : Value} {hs : List MvH} {W W' : World} (h : MvSt S R g bl base mo st v hs W) (hg : W.grownBy W' (some g)) (hr : RdT W' g S 0 st') (hlt : g < base) (hI : MvI S.data.toList R mo' st' (xs hs)) : MvSt S R g bl base mo' st' v hs W' := by
  obtain ⟨C, hB⟩ := rd_blk h.rd
  exact ⟨hI, hr, h.box.reads h.rd (by decide) hg, h.own.grown hg hlt, Nat.le_trans h.bs hg.size⟩

theorem at_end_mono {S : List UInt8} {st st' : RSt} (h : AtEnd S (nxA S st) st') : st'.2.1 ≠ 0 ∨ (st.2.1 = 0 ∧ st.1 ≤ st'.1) := by
  obtain ⟨_, ⟨q, hA, rfl⟩ | ⟨z, z1, _, _⟩⟩ := h
  · unfold nxA at hA
    by_cases c : st.2.1 ≠ 0
    · rw [if_pos c] at hA; cases hA
    · rw [if_neg c] at hA
      obtain ⟨_, _, hq⟩ := at_fin hA
      exact Or.inr ⟨by simpa using c, by show st.1 ≤ q; omega⟩
  · exact Or.inl z1

theorem mv_rdLeft {S : ByteArray} {g n : Nat} {st st' : RSt} {W W' : World} (h : RdT W g S 0 st) (h' : RdT W' g S 0 st') (h0 : st.2.1 = 0) (hn : st.1 ≤ n) (hlt : st'.2.1 ≠ 0 ∨ st.1 < st'.1) : rdLeft n W' g < rdLeft n W g := by
  obtain ⟨p, e, x⟩ := st
  obtain ⟨p', e', x'⟩ := st'
  obtain rfl : e = 0 := h0
  rw [rdLeft_ok h]
  have hn : p ≤ n := hn
  rcases hlt with q | q
  · rw [rdLeft_bad h' q]; omega
  · by_cases q2 : e' = 0
    · subst q2
      rw [rdLeft_ok h']
      have q : p < p' := q
      omega
    · rw [rdLeft_bad h' q2]; omega

/-- Between two attributes. -/
def MvJ (S : ByteArray) (R : MvR) (g bl base : Nat) (mo : Option Nat) (p : Nat) (obs : List (Nat × Obj)) (w0 : World) (st : RSt) (W : World) : Prop := ∃ v hs, MvSt S R g bl base mo st v hs W ∧ MvW obs w0 W ∧ (st.2.1 ≠ 0 ∨ p < st.1)

/-- Behind a round. -/
def MvNx (J : RSt → World → Prop) (n g : Nat) (W3 W' : World) : Prop := ∃ st, J st W' ∧ rdLeft n W' g < rdLeft n W3 g

theorem yield_nx {F : Fence} {m l : Nat} {args : Array Value} {W W3 : World} {J : RSt → World → Prop} {n g : Nat} (h : YieldAt F m Tryd.prog l args W fun e W' => e = .returned (.bool true) ∧ MvNx J n g W3 W') :
    YieldAt F m Tryd.prog l args W fun e W' => e = .returned (.bool true) ∧ ∃ st, J st W' ∧ rdLeft n W' g < rdLeft n W3 g := YieldAt.mono h (fun _ _ q => q)

/-- Between two messages. -/
def MvO (S : ByteArray) (R : MvR) (g bl base : Nat) (obs : List (Nat × Obj)) (w0 : World) (st : RSt) (W : World) : Prop := ∃ v hs, MvSt S R g bl base none st v hs W ∧ MvW obs w0 W

set_option maxHeartbeats 25600000 in
theorem mvRead_any (S : ByteArray) (w : World) (hS : S.size ≤ 100000) :
    Calls Tryd.prog 18 #[.string S] w fun e w' => ∃ v er hs, e = .returned (.tuple #[v, er]) ∧ xs hs = (rdMvs S.data.toList).recs ∧ OwnAs w' w.heap.size v hs ∧ ErrAs w' er (rdMvs S.data.toList).er (rdMvs S.data.toList).pl ∧ Below w.heap.size w w' := by
  have hls : S.data.toList.length = S.size := by simp
  have hb : S.size ≤ 281474976710656 := by omega
  obtain ⟨R, hR⟩ : ∃ R, rdMvs S.data.toList = R := ⟨_, rfl⟩
  have hI0 := mv_start S.data.toList
  rw [hR] at hI0 ⊢
  clear hR
  refine calls_of_marks Tryd.func18 rfl ?_
  simp only [Tryd.ntmps18, List.size_toArray, List.length_cons, List.length_nil, Nat.reduceAdd, Nat.reduceSub, Array.replicate_succ, Array.replicate_zero, List.push_toArray, List.append_toArray, List.nil_append, List.cons_append]
  go_wp2_with fail
  refine (new_t S 0 _).mono ?_
  rintro e w1 ⟨rfl, HR1, b1⟩
  obtain ⟨g, hg⟩ : ∃ g, w.heap.size = g := ⟨_, rfl⟩
  rw [hg] at HR1 b1
  have hg1 := HR1.lt
  have HX3 := Blk.new w1 128 #[.pointer (some ⟨g, 0, none⟩)]
  have b3 : Below w1.heap.size w1 (w1.alloc (.cells #[.pointer (some ⟨g, 0, none⟩)] 128)) := (Below.refl _ _).alloc (Nat.le_refl _) _
  have HR3 := HR1.below b3
  have hgb : g < w1.heap.size := hg1
  obtain ⟨base, hbase⟩ : ∃ base, w1.heap.size = base := ⟨_, rfl⟩
  rw [hbase] at HX3 b3 hgb
  have B3 : Below g w (w1.alloc (.cells #[.pointer (some ⟨g, 0, none⟩)] 128)) := b1.trans (b3.mono (Nat.le_of_lt hgb))
  have hs3 : base ≤ (w1.alloc (.cells #[.pointer (some ⟨g, 0, none⟩)] 128)).heap.size := by rw [World.size_alloc, hbase]; omega
  go_upto_region 2 with (fail)
  generalize w1.alloc (.cells #[.pointer (some ⟨g, 0, none⟩)] 128) = w3 at *
  have c3 := HX3.cv 0 (.pointer (some ⟨g, 0, none⟩)) rfl
  have HEX := Lib.hid (exp_t ⟨#[0]⟩ (by decide) (0, 0, -1) w3 HR3 (Nat.zero_le _) (by omega))
  go_wp2_with fail
  refine HEX.out.mono ?_
  rintro e w4 ⟨rfl, HR4, g4⟩
  have HR4 : RdT w4 g S 0 (exS S.data.toList (0, 0, -1) [0]) := HR4
  have HX4 := HX3.reads HR3 (by decide) g4
  have B4 : Below g w w4 := grown_belowA B3 g4 (by omega) (Nat.le_refl _)
  have hs4 : base ≤ w4.heap.size := Nat.le_trans hs3 g4.size
  generalize exS S.data.toList (0, 0, -1) [0] = st0 at *
  have hBL := Blk.new w4 22 #[.slice none 0 0]
  have b5 : Below w4.heap.size w4 (w4.alloc (.cells #[.slice none 0 0] 22)) := (Below.refl _ _).alloc (Nat.le_refl _) _
  have hs5 : (w4.alloc (.cells #[.slice none 0 0] 22)).heap.size = w4.heap.size + 1 := by simp
  have HX5 := HX4.kept b5
  have HR5 := HR4.below b5
  have B5 := B4.trans (b5.mono (by omega))
  have hbr4 := HX4.lt
  clear HEX HR3 HX3 b3 B3 c3 g4 HX4 HR4 B4 HR1 b1 hg1
  go_upto_region 4 with (fail)
  obtain ⟨bl, hbl⟩ : ∃ bl, w4.heap.size = bl := ⟨_, rfl⟩
  rw [hbl] at hBL hs5 hbr4 hs4
  have hlt5 : bl < (w4.alloc (.cells #[.slice none 0 0] 22)).heap.size := by rw [hs5]; omega
  clear hs5
  generalize w4.alloc (.cells #[.slice none 0 0] 22) = w5 at *
  have c5 := HX5.cv 0 (.pointer (some ⟨g, 0, none⟩)) rfl
  have HMS := Lib.hid (messages_any g w5)
  go_wp2_with fail
  refine HMS.out.mono ?_
  rintro e w6 ⟨rfl, HM6, b6, hs6⟩
  have hlt6 : w5.heap.size < w6.heap.size := by rw [hs6]; omega
  clear hs6
  have HX6 := HX5.kept b6
  have HR6 := HR5.below b6
  have HL6 := hBL.kept b6
  have B6 := B5.trans (b6.mono (by omega))
  clear HMS HX5 HR5 hBL B5 b6 c5 b5
  go_wp2_with fail
  obtain ⟨b1, hb1⟩ : ∃ b1, w5.heap.size = b1 := ⟨_, rfl⟩
  rw [hb1] at HM6 hlt5 hlt6 ⊢
  refine rf_outer rfl (enters_of Tryd.func84 (by kernel_rfl) rfl) ?_
  intro fn RL W hRL HL HD bW hW
  obtain ⟨D, hD⟩ : ∃ D, w6.heap.size = D := ⟨_, rfl⟩
  have hsW : w6.heap.size ≤ W.heap.size := bW.size
  have hMW : MvW [(D + 1, .loop (RL .ready)), (base, .cells #[.pointer (some ⟨g, 0, none⟩)] 128 (0, 0)), (b1, .cells #[.pointer (some ⟨g, 0, none⟩)] 128 (0, 0)), (D, .deferred (some []))] w W := by
    have q0 : MvW [] w W := ⟨by rw [hg]; exact B6.trans (bW.mono (by omega)), by simp⟩
    rw [hD] at HL HD
    exact (((q0.cons HD (okO_mark _)).cons (HM6.kept bW) (okO_rd _)).cons (HX6.kept bW) (okO_rd _)).cons HL (okO_loop _)
  have hST : MvSt S R g bl base none st0 (.slice none 0 0) [] W := ⟨hI0, HR6.below bW, HL6.kept bW, OwnAs.nil _ _, by omega⟩
  have hno : ∀ p ∈ [(base, Obj.cells #[.pointer (some ⟨g, 0, none⟩)] 128 (0, 0)), (b1, .cells #[.pointer (some ⟨g, 0, none⟩)] 128 (0, 0)), (D, .deferred (some []))], p.1 ≠ D + 1 := by
    intro p hp
    simp only [List.mem_cons, List.not_mem_nil, or_false] at hp
    rcases hp with rfl | rfl | rfl
    · show base ≠ D + 1; rw [hD] at hlt6; omega
    · show b1 ≠ D + 1; rw [hD] at hlt6; omega
    · show D ≠ D + 1; omega
  have hbD : base < D ∧ bl < D ∧ b1 < D := by rw [hD] at hlt6; omega
  rw [hD]
  clear HL HD bW HM6 HX6 HR6 HL6 hI0 B6
  have hgw : w.heap.size ≤ g := Nat.le_of_eq hg
  rw [hD] at hlt6
  clear hb1 hD hW hsW
  have HIT : Calls Tryd.prog 84 #[.func (.yield (D + 1)) #[] #[], .pointer (some ⟨b1, 0, none⟩)] W fun e W2 => (∃ v, e = .returned v) ∧ ∃ z v hs, MvEnd R (zrR S.data.toList 0 z) (xs hs) ∧ z.1 ≤ S.size ∧ RdT W2 g S 0 z ∧ Blk W2 bl 22 #[v] ∧ OwnAs W2 base v hs ∧
      MvW [(D + 1, .loop (RL .ready)), (base, .cells #[.pointer (some ⟨g, 0, none⟩)] 128 (0, 0)), (b1, .cells #[.pointer (some ⟨g, 0, none⟩)] 128 (0, 0)), (D, .deferred (some []))] w W2 := by
    have HI := messages_it (l := D + 1) (b1 := b1) hb (MvO S R g bl base [(D + 1, .loop (RL .ready)), (base, .cells #[.pointer (some ⟨g, 0, none⟩)] 128 (0, 0)), (b1, .cells #[.pointer (some ⟨g, 0, none⟩)] 128 (0, 0)), (D, .deferred (some []))] w)
      (fun st W ⟨v, hs, h1, h2⟩ => ⟨h1.rd, by rw [← hls]; exact h1.inv.1, h2.tail.tail.head⟩) ?body st0 W ⟨_, _, hST, hMW⟩
    case body =>
      intro st W0 W ⟨v, hs, h1, h2⟩ hmv hrW gW
      obtain ⟨hI2, hs0, hlt⟩ := (head_round _ _ _ _ h1.inv).1 hmv
      have hst1 : st.1 ≤ S.size := by rw [← hls]; exact h1.inv.1
      have HMS := fun (W' : World) (st' : RSt) (h' : RdT W' g S 0 st') (hq : st'.2.1 ≠ 0 ∨ st.1 < st'.1) => mv_rdLeft (n := S.size) h1.rd h' hs0 hst1 hq
      have h3 : MvSt S R g bl base (some st.1) (mhS S.data.toList st) v hs W := h1.reads gW hrW hgb hI2
      have h4 := h2.reads h1.rd gW hgw
      have hMS := Lib.hid HMS
      have hgW := gW.size
      clear h1 h2 hmv gW hrW hI2 HMS
      generalize mhS S.data.toList st = st2 at *
      generalize st.1 = p at *
      refine yield_nx (yield_of hRL h4.head rfl ?_)
      have hBa := Blk.new W 3 #[.int .i64 (p : Nat)]
      have bA : Below W.heap.size W (W.alloc (.cells #[.int .i64 (p : Nat)] 3)) := (Below.refl _ _).alloc (Nat.le_refl _) _
      have h5 := (h4.of bA).tail.cons hBa (okO_int _)
      have h5H := Lib.hid (h4.of bA).head
      have h3a := h3.of bA
      obtain ⟨ba, hba⟩ : ∃ ba, W.heap.size = ba := ⟨_, rfl⟩
      have hDba : D + 1 < ba := by rw [← hba]; exact (Array.getElem?_eq_some_iff.1 h4.head).1
      rw [hba] at h5
      gi_wp2
      generalize hWa : W.alloc (.cells #[.int .i64 (p : Nat)] 3) = Wa at *
      have h5L := h5H.out
      clear h5H
      refine ⟨h5L, ?_⟩
      have h6 := (h5.cons h5L (okO_loop _)).turn (r' := RL .busy) (by rw [hg]; omega) (by
        intro q hq
        rcases List.mem_cons.1 hq with rfl | hq
        · show ba ≠ D + 1; omega
        · exact hno q hq)
      have h3b := h3a.keepC (KeepC.putLoop (.loop (RL .busy)) h5L)
      have hWs : W.heap.size < (Wa.putObj (D + 1) (.loop (RL .busy))).heap.size := by rw [World.putObj_size, ← hWa, World.size_alloc]; omega
      rw [hba] at hWs
      clear hWa hBa bA h5 h5L h3a h3 h4
      generalize Wa.putObj (D + 1) (.loop (RL .busy)) = Wb at *
      have cB := (show Blk Wb base 128 #[.pointer (some ⟨g, 0, none⟩)] from h6.tail.tail.head).cv 0 (.pointer (some ⟨g, 0, none⟩)) rfl
      have HAT := Lib.hid (attrs_any g Wb)
      gi_wp2_with (refine ⟨trivial, rfl, ?_⟩; gi_at_call 56; refine (CallsIn.inRound (D + 1) (callsIn_wide.2 HAT.out)).mono ?_; rintro e Wc ⟨rfl, HB2, bC, hsC⟩)
      have h7 := h6.of bC
      have h3c := h3b.of bC
      obtain ⟨b2, hb2⟩ : ∃ b2, Wb.heap.size = b2 := ⟨_, rfl⟩
      rw [hb2] at HB2 hWs ⊢
      have hbc : b2 < Wc.heap.size := by rw [hsC, hb2]; omega
      clear hsC cB HAT bC h6 h3b
      refine rf_inner h7.head rfl (enters_of Tryd.func87 (by kernel_rfl) rfl) ?_
      intro fn2 RL2 W2 hRL2 HL2 bW2 hW2
      obtain ⟨L2, hL2⟩ : ∃ L2, Wc.heap.size = L2 := ⟨_, rfl⟩
      rw [hL2] at HL2 hbc ⊢
      have h8 : MvW (((L2, .loop (RL2 .ready)) :: (ba, .cells #[.int .i64 (p : Nat)] 3 (0, 0)) :: (b2, .cells #[.pointer (some ⟨g, 0, none⟩)] 128 (0, 0)) :: [(D + 1, .loop (RL .busy)), (base, .cells #[.pointer (some ⟨g, 0, none⟩)] 128 (0, 0)), (b1, .cells #[.pointer (some ⟨g, 0, none⟩)] 128 (0, 0)), (D, .deferred (some []))])) w W2 := by
        have q := ((h7.of bW2).tail.tail.cons ((h7.of bW2).head) (okO_loop _))
        exact ((q.cons (HB2.kept bW2) (okO_rd _)).cons ((h7.of bW2).tail.head) (okO_int _)).cons HL2 (okO_loop _)
      have h3d := h3c.of bW2
      have hno2 : ∀ q ∈ ((ba, Obj.cells #[.int .i64 (p : Nat)] 3 (0, 0)) :: (b2, .cells #[.pointer (some ⟨g, 0, none⟩)] 128 (0, 0)) :: [(D + 1, .loop (RL .busy)), (base, .cells #[.pointer (some ⟨g, 0, none⟩)] 128 (0, 0)), (b1, .cells #[.pointer (some ⟨g, 0, none⟩)] 128 (0, 0)), (D, .deferred (some []))]), q.1 ≠ L2 := by
        intro q hq
        simp only [List.mem_cons, List.not_mem_nil, or_false] at hq
        rcases hq with rfl | rfl | rfl | rfl | rfl | rfl
        · show ba ≠ L2; omega
        · show b2 ≠ L2; omega
        · show D + 1 ≠ L2; omega
        · show base ≠ L2; omega
        · show b1 ≠ L2; omega
        · show D ≠ L2; omega
      clear HL2 bW2 h7 h3c HB2 hL2 hW2 hb2 hba
      have HIN : Calls Tryd.prog 87 #[.func (.yield L2) #[] #[], .pointer (some ⟨b2, 0, none⟩)] W2 fun e W3 => (∃ v, e = .returned v) ∧ ∃ st3 v hs, MvSt S R g bl base none st3 v hs W3 ∧ MvW (((L2, .loop (RL2 .ready)) :: (ba, .cells #[.int .i64 (p : Nat)] 3 (0, 0)) :: (b2, .cells #[.pointer (some ⟨g, 0, none⟩)] 128 (0, 0)) :: [(D + 1, .loop (RL .busy)), (base, .cells #[.pointer (some ⟨g, 0, none⟩)] 128 (0, 0)), (b1, .cells #[.pointer (some ⟨g, 0, none⟩)] 128 (0, 0)), (D, .deferred (some []))])) w W3 ∧ (st3.2.1 ≠ 0 ∨ p < st3.1) := by
        refine attrs_it (l := L2) (b1 := b2) hb (MvJ S R g bl base (some p) p (((L2, .loop (RL2 .ready)) :: (ba, .cells #[.int .i64 (p : Nat)] 3 (0, 0)) :: (b2, .cells #[.pointer (some ⟨g, 0, none⟩)] 128 (0, 0)) :: [(D + 1, .loop (RL .busy)), (base, .cells #[.pointer (some ⟨g, 0, none⟩)] 128 (0, 0)), (b1, .cells #[.pointer (some ⟨g, 0, none⟩)] 128 (0, 0)), (D, .deferred (some []))])) w) (fun W3 => ∃ st3 v hs, MvSt S R g bl base none st3 v hs W3 ∧ MvW (((L2, .loop (RL2 .ready)) :: (ba, .cells #[.int .i64 (p : Nat)] 3 (0, 0)) :: (b2, .cells #[.pointer (some ⟨g, 0, none⟩)] 128 (0, 0)) :: [(D + 1, .loop (RL .busy)), (base, .cells #[.pointer (some ⟨g, 0, none⟩)] 128 (0, 0)), (b1, .cells #[.pointer (some ⟨g, 0, none⟩)] 128 (0, 0)), (D, .deferred (some []))])) w W3 ∧ (st3.2.1 ≠ 0 ∨ p < st3.1))
          (fun st W ⟨v, hs, k1, k2, k3⟩ => ⟨k1.rd, k2.tail.tail.head⟩) ?_ st2 W2 ⟨v, hs, h3d, h8, Or.inr hlt⟩
        clear h3d h8
        intro st3 W3 ⟨v, hs, k1, k2, k3⟩
        obtain ⟨a1, a2, a3⟩ := attr_round _ _ _ _ _ k1.inv
        refine ⟨_, a1, ?_, ?_⟩
        · intro hd st' W4 hO h0 HOv hr4 g4
          obtain ⟨hI', hs0', hlt', hl40⟩ := a3 hd.x st' hO h0
          have hst3 : st3.1 ≤ S.size := by rw [← hls]; exact k1.inv.1
          have HMS := Lib.hid (fun (W' : World) (st'' : RSt) (h' : RdT W' g S 0 st'') (hq : st''.2.1 ≠ 0 ∨ st3.1 < st''.1) => mv_rdLeft (n := S.size) k1.rd h' hs0' hst3 hq)
          have hprog : Hid (p < st3.1) := by
            rcases k3 with q | q
            · exact absurd hs0' q
            · exact q
          have box4 := k1.box.reads k1.rd (by decide) g4
          have own4 := k1.own.grown g4 hgb
          have hev4 := HOv.mono k1.bs
          have k6 := k2.reads k1.rd g4 hgw
          have hb4 : base ≤ W4.heap.size := Nat.le_trans k1.bs g4.size
          have hxl : (xs hs).length = hs.length := xs_len hs
          have hI2' := Lib.hid hI'
          have hlt2 := Lib.hid hlt'
          have hl41 : hs.length ≤ 40 := by rw [← hxl]; exact hl40
          clear a1 a2 a3 k1 k2 k3 hO HOv g4 hI' hlt' hs0' hl40 hst3
          refine yield_nx (yield_of hRL2 k6.head rfl ?_)
          have HZ := Blk.new W4 36 (mvC zMvH)
          have b45 : Below W4.heap.size W4 (W4.alloc (.cells (mvC zMvH) 36)) := (Below.refl _ _).alloc (Nat.le_refl _) _
          gi_wp2_with (refine storeR (k := 0) 36 (.agg (mvC hd)) (mvC hd) (by rfl) rfl rfl rfl HZ (by kernel_rfl) (show (3 : Nat) ≤ 3 from Nat.le_refl 3) (by rfl) (st_whole _ _ rfl) ?_; intro W5 HA5 b5 g5)
          have b46 := b45.trans b5
          have k7 := k6.of b46
          have box5 := box4.kept b46
          have own5 := own4.kept b46
          have hev5 := hev4.kept b46
          have hr5 := hr4.below b46
          have hb5 : base ≤ W5.heap.size := Nat.le_trans hb4 b46.size
          refine ⟨k7.head, ?_⟩
          have kc := KeepC.putLoop (.loop (RL2 .busy)) k7.head
          have k8 := k7.turn (r' := RL2 .busy) (by omega) hno2
          have box6 := kc.blk box5
          have own6 := own5.keepC kc
          have hev6 := hev5.keepC kc
          have hr6 := rdT_keepC hr5 kc
          have HA6 := kc.blk HA5
          have hb6 : base ≤ (W5.putObj L2 (.loop (RL2 .busy))).heap.size := Nat.le_trans hb5 kc.size
          clear HZ b45 b5 g5 b46 k6 k7 box4 own4 hev4 hr4 box5 own5 hev5 hr5 HA5 kc hb4 hb5
          generalize W5.putObj L2 (.loop (RL2 .busy)) = W6 at *
          generalize W4.heap.size = bt at *
          have c5 := box6.cv 0 v rfl
          obtain ⟨hs2, hhs2⟩ : ∃ hs2 : List MvH, hs ++ [hd] = hs2 := ⟨_, rfl⟩
          have HHS := Lib.hid hhs2
          have hx2 : xs hs ++ [hd.x] = xs hs2 := by rw [← hhs2, xs_snoc]
          rw [hx2, xs_len] at hI2'
          clear hhs2 hx2
          by_cases hc : 40 < hs2.length
          · have d40 : decide ((40 : Int) < (hs2.length : Int)) = true := decide_eq_true (by omega)
            have hI9 : Hid (MvI S.data.toList R (some p) (flR st' 4 (p : Nat)) (xs hs2)) := by
              have q := hI2'.out
              unfold lmS at q
              rw [if_pos hc] at q
              exact q
            clear hI2' hc
            gi_wp2_with (first
              | (refine loadR (k := 0) 36 (mvC hd) (by rfl) rfl rfl HA6 (by kernel_rfl) (by kernel_rfl) rfl ?_)
              | (refine sliceR_mh hd (by rfl) rfl rfl ?_; intro W7 HG7 b7; have own7 := own6.kept b7; have hev7 := hev6.kept b7; have hr7 := hr6.below b7; have box7 := box6.kept b7; have k9 := k8.of b7; have hb7 : base ≤ W7.heap.size := Nat.le_trans hb6 b7.size)
              | (refine appendR_mh hd rfl rfl rfl rfl own7.row HG7 (by omega) hb7 ?_; intro v' W8 HO8 g8; rw [HHS.out] at HO8; obtain ⟨a8, c8, rfl, hin8⟩ := HO8.inL; have box8 := mh_blk own7.row g8 box7 (by decide); have hr8 := mh_rd own7.row g8 hr7; have hev8 := mh_iv own7.row g8 hev7; have evs8 := fun x hx => mh_iv own7.row g8 (own7.ev x hx); have k10 := mh_W own7.row g8 k9 (by omega); have hb8 : base ≤ W8.heap.size := Nat.le_trans hb7 g8.size)
              | (refine storeR (k := 0) 22 (.slice a8 hs2.length c8) #[.slice a8 hs2.length c8] (by rfl) rfl rfl rfl box8 (by kernel_rfl) (by exact Nat.le_refl 1) rfl rfl ?_; intro W9 box9 b9 g9; have hr9 := hr8.other box8 (by decide) (by decide) g9; have own9 : OwnAs W9 base (.slice a8 hs2.length c8) hs2 := OwnAs.other ⟨HO8, fun x hx => (List.mem_append.1 (by rw [HHS.out]; exact hx)).elim (fun q => evs8 x q) (fun q => by rw [List.mem_singleton.1 q]; exact hev8)⟩ box8 (by decide) (by decide) g9; have k11 := k10.grown g9 box8 (by decide) (by decide) (by omega); have c9 := box9.cv 0 (.slice a8 hs2.length c8) rfl; have cb9 := (show Blk W9 base 128 #[.pointer (some ⟨g, 0, none⟩)] from k11.tail.tail.tail.tail.head).cv 0 (.pointer (some ⟨g, 0, none⟩)) rfl; have ca9 := (show Blk W9 ba 3 #[.int .i64 (p : Nat)] from k11.tail.head).cv 0 (.int .i64 (p : Nat)) rfl; have hb9 : base ≤ W9.heap.size := Nat.le_trans hb8 g9.size)
              | (refine ⟨trivial, rfl, ?_⟩; gi_at_call 57; refine (CallsIn.inRound L2 (callsIn_wide.2 (fail_t st' 4 p (by decide) _ hr9))).mono ?_; rintro e W10 ⟨rfl, hr10, g10⟩))
            have k12 := k11.reads hr9 g10 hgw
            have st12 : MvSt S R g bl base (some p) (flR st' 4 (p : Nat)) (.slice a8 hs2.length c8) hs2 W10 := ⟨hI9.out, hr10, box9.reads hr9 (by decide) g10, own9.grown g10 hgb, Nat.le_trans hb9 g10.size⟩
            have kc := KeepC.putLoop (.loop (RL2 .ready)) k12.head
            exact ⟨k12.head, rfl, _, ⟨_, hs2, st12.keepC kc, k12.turn (by omega) hno2, Or.inl (flR_ne st' 4 _ (by decide))⟩, HMS.out _ _ (rdT_keepC hr10 kc) (Or.inl (flR_ne st' 4 _ (by decide)))⟩
          · have d40 : decide ((40 : Int) < (hs2.length : Int)) = false := decide_eq_false (by omega)
            have hI9 : Hid (MvI S.data.toList R (some p) st' (xs hs2)) := by
              have q := hI2'.out
              unfold lmS at q
              rw [if_neg hc] at q
              exact q
            clear hI2' hc
            gi_wp2_with (first
              | (refine loadR (k := 0) 36 (mvC hd) (by rfl) rfl rfl HA6 (by kernel_rfl) (by kernel_rfl) rfl ?_)
              | (refine sliceR_mh hd (by rfl) rfl rfl ?_; intro W7 HG7 b7; have own7 := own6.kept b7; have hev7 := hev6.kept b7; have hr7 := hr6.below b7; have box7 := box6.kept b7; have k9 := k8.of b7; have hb7 : base ≤ W7.heap.size := Nat.le_trans hb6 b7.size)
              | (refine appendR_mh hd rfl rfl rfl rfl own7.row HG7 (by omega) hb7 ?_; intro v' W8 HO8 g8; rw [HHS.out] at HO8; obtain ⟨a8, c8, rfl, hin8⟩ := HO8.inL; have box8 := mh_blk own7.row g8 box7 (by decide); have hr8 := mh_rd own7.row g8 hr7; have hev8 := mh_iv own7.row g8 hev7; have evs8 := fun x hx => mh_iv own7.row g8 (own7.ev x hx); have k10 := mh_W own7.row g8 k9 (by omega); have hb8 : base ≤ W8.heap.size := Nat.le_trans hb7 g8.size)
              | (refine storeR (k := 0) 22 (.slice a8 hs2.length c8) #[.slice a8 hs2.length c8] (by rfl) rfl rfl rfl box8 (by kernel_rfl) (by exact Nat.le_refl 1) rfl rfl ?_; intro W9 box9 b9 g9; have hr9 := hr8.other box8 (by decide) (by decide) g9; have own9 : OwnAs W9 base (.slice a8 hs2.length c8) hs2 := OwnAs.other ⟨HO8, fun x hx => (List.mem_append.1 (by rw [HHS.out]; exact hx)).elim (fun q => evs8 x q) (fun q => by rw [List.mem_singleton.1 q]; exact hev8)⟩ box8 (by decide) (by decide) g9; have k11 := k10.grown g9 box8 (by decide) (by decide) (by omega); have c9 := box9.cv 0 (.slice a8 hs2.length c8) rfl; have cb9 := (show Blk W9 base 128 #[.pointer (some ⟨g, 0, none⟩)] from k11.tail.tail.tail.tail.head).cv 0 (.pointer (some ⟨g, 0, none⟩)) rfl; have ca9 := (show Blk W9 ba 3 #[.int .i64 (p : Nat)] from k11.tail.head).cv 0 (.int .i64 (p : Nat)) rfl; have hb9 : base ≤ W9.heap.size := Nat.le_trans hb8 g9.size))
            have st12 : MvSt S R g bl base (some p) st' (.slice a8 hs2.length c8) hs2 W9 := ⟨hI9.out, hr9, box9, own9, hb9⟩
            have kc := KeepC.putLoop (.loop (RL2 .ready)) k11.head
            exact ⟨k11.head, rfl, _, ⟨_, hs2, st12.keepC kc, k11.turn (by omega) hno2, Or.inr (Nat.lt_trans hprog.out hlt2.out)⟩, HMS.out _ _ (rdT_keepC hr9 kc) (Or.inr hlt2.out)⟩
        · intro st' W4 hE hr4 g4
          refine ⟨st', v, hs, k1.reads g4 hr4 hgb (a2 st' hE), k2.reads k1.rd g4 hgw, ?_⟩
          rcases at_end_mono hE with q | ⟨q1, q2⟩
          · exact Or.inl q
          · rcases k3 with q | q
            · exact absurd q1 q
            · exact Or.inr (by omega)
      refine HIN.mono ?_
      rintro e W3 ⟨hv3, st3, v3, hs3, k1, k2, k3⟩
      refine ⟨hv3, k2.head, ?_⟩
      have kcX := KeepC.putLoop (.loop (RL2 .exhausted)) k2.head
      have kX := k2.turn (r' := RL2 .exhausted) (by omega) hno2
      have k1X := k1.keepC kcX
      generalize W3.putObj L2 (.loop (RL2 .exhausted)) = W4 at *
      have kY := kX.tail.tail.tail
      have kcY := KeepC.putLoop (.loop (RL .ready)) kY.head
      exact ⟨kY.head, rfl, st3, ⟨v3, hs3, k1X.keepC kcY, kY.turn (by omega) hno⟩, hMS.out _ _ (rdT_keepC k1X.rd kcY) k3⟩
    refine HI.mono ?_
    rintro e W2 ⟨hv, st, W0, ⟨v, hs, h1, h2⟩, hmv, hr2, hg2⟩
    have hE := (head_round _ _ _ _ h1.inv).2 hmv
    obtain ⟨C, hB⟩ := rd_blk h1.rd
    refine ⟨hv, mhS S.data.toList st, v, hs, hE, by rw [← hls]; exact mhS_le _ _ h1.inv.1, hr2, h1.box.reads h1.rd (by decide) hg2, h1.own.grown hg2 hgb, h2.reads h1.rd hg2 (by omega)⟩
  refine HIT.mono ?_
  rintro e W2 ⟨hv, z, v, hs, hE, hz, HR2, HL2, HO2, HW2⟩
  refine ⟨hv, HW2.head, ?_⟩
  have kc : KeepC W2 (W2.putObj (D + 1) (.loop (RL .exhausted))) := KeepC.putLoop _ HW2.head
  have HR7 := rdT_keepC HR2 kc
  have HL7 := kc.blk HL2
  have HO7 := HO2.keepC kc
  have HW7 := HW2.turn (r' := RL .exhausted) (by rw [hg]; omega) hno
  generalize W2.putObj (D + 1) (.loop (RL .exhausted)) = w7 at *
  clear HIT hST hMW HR2 HL2 HO2 HW2 kc hRL hno
  have c4 := (show Blk w7 base 128 #[.pointer (some ⟨g, 0, none⟩)] from HW7.tail.head).cv 0 (.pointer (some ⟨g, 0, none⟩)) rfl
  have HZ := Lib.hid (zeros_t z w7 HR7 hz (by omega))
  rcases hE with ⟨hz1, hRo⟩ | ⟨hz1, hne, x, hx, hRb⟩
  · rw [hz1] at HZ
    subst hRo
    clear hz1
    go_wp2_with fail
    refine HZ.out.mono ?_
    rintro e w8 ⟨rfl, HR8, g8⟩
    have HL8 := HL7.reads HR7 (by decide) g8
    have HO8 := HO7.grown g8 hgb
    have HW8 := HW7.reads HR7 g8 hgw
    have c8 := HL8.cv 0 v rfl
    have HD8 : w8.heap[D]? = some (.deferred (some [])) := HW8.tail.tail.tail.head
    clear HZ HR7 HL7 HO7 HW7 c4 g8 HR8
    go_wp2
    have kc := KeepC.putMark (.deferred none) HD8
    exact ret_marks HD8 (results_tmp2 rfl _ _ _) ⟨v, _, hs, rfl, rfl, (HO8.keepC kc).mono (by omega), Or.inl ⟨rfl, rfl, rfl⟩, HW8.be.trans (belowPut _ (by omega) HD8)⟩
  · rw [hz1] at HZ
    subst hRb
    clear hz1
    go_wp2_with fail
    refine HZ.out.mono ?_
    rintro e w8 ⟨rfl, HR8, g8⟩
    have HW8 := HW7.reads HR7 g8 hgw
    have c8 := (show Blk w8 base 128 #[.pointer (some ⟨g, 0, none⟩)] from HW8.tail.head).cv 0 (.pointer (some ⟨g, 0, none⟩)) rfl
    have HER := Lib.hid (err_t _ w8 HR8 hne)
    clear HZ HR7 HL7 HO7 HW7 c4 g8 HR8
    go_wp2_with fail
    refine HER.out.mono ?_
    rintro e w9 ⟨rfl, hF9, b9⟩
    have HW9 := HW8.of b9
    have HD9 : w9.heap[D]? = some (.deferred (some [])) := HW9.tail.tail.tail.head
    rw [hx] at hF9
    clear HER HW8 c8 b9
    go_wp2
    have kc := KeepC.putMark (.deferred none) HD9
    exact ret_marks HD9 (results_tmp2 rfl _ _ _) ⟨_, _, [], rfl, rfl, OwnAs.nil _ _, Or.inr ⟨hne, _, rfl, kc.same _ _ _ _ hF9⟩, HW9.be.trans (belowPut _ (by omega) HD9)⟩

end Go.Proofs.YtikjpcnfldkifaaDoor
