/- tlv.Read at every text. -/
import Derived.Test.YticjmjoiggnblaaDoorTlRound
namespace Go.Proofs.YticjmjoiggnblaaDoor
open Go.RowKit
attribute [local go_sem ↓] Go.wp_at_zero Go.wp_at_succ
set_option linter.unusedSimpArgs false
set_option linter.unusedVariables false
set_option maxRecDepth 100000

theorem grown_belT {B g : Nat} {a w w' : World} (h : Below B a w) (hg : w.grownBy w' (some g)) (hB : B ≤ w.heap.size) (hr : B ≤ g) : Below B a w' :=
  h.grown hg hB fun k e => by cases e; exact hr
theorem results_tmp4 {fn : Func} {t u v x : Tmp} (h : fn.results = #[.tmp t, .tmp u, .tmp v, .tmp x]) (tmps : Array Value) (P : Program) (w : World) :
    (results fn tmps).run P w = .ok (.tuple #[tmps.getD t undef, tmps.getD u undef, tmps.getD v undef, tmps.getD x undef]) w := by
  simp [results, h]
/-- A row of one's own grows: a reader stays where it is. -/
theorem rdT_tl {w w' : World} {v : Value} {l : List Tl} {base gr off : Nat} {s : ByteArray} {st : RSt} (hO : OwnTl w base v l) (hg : w.grownBy w' v.ownBlock) (h : RdT w gr s off st) : RdT w' gr s off st := by
  rcases hO.blk with e | ⟨g, C, e, _, hB⟩
  · rw [e] at hg
    exact h.below ⟨hg.os, hg.tape, hg.output, hg.size, fun k hk => hg.block k hk (by simp)⟩
  · rw [e] at hg
    exact h.other hB (by decide) (by decide) hg
theorem rdT_ni {w w' : World} {v : Value} {l : List Nat} {base gr off : Nat} {s : ByteArray} {st : RSt} (hO : OwnNat w base v l) (hg : w.grownBy w' v.ownBlock) (h : RdT w gr s off st) : RdT w' gr s off st := by
  rcases hO.blk with e | ⟨g, C, e, _, hB⟩
  · rw [e] at hg
    exact h.below ⟨hg.os, hg.tape, hg.output, hg.size, fun k hk => hg.block k hk (by simp)⟩
  · rw [e] at hg
    exact h.other hB (by decide) (by decide) hg
theorem own_tl_ni {w w' : World} {v u : Value} {l : List Tl} {m : List Nat} {base B : Nat} (hO : OwnTl w base v l) (hg : w.grownBy w' v.ownBlock) (h : OwnNat w B u m) : OwnNat w' B u m := by
  rcases hO.blk with e | ⟨g, C, e, _, hB⟩
  · rw [e] at hg
    exact h.grown hg (fun q hq => by cases hq)
  · rw [e] at hg
    exact h.other hB (by decide) hg
theorem own_ni_tl {w w' : World} {v u : Value} {l : List Tl} {m : List Nat} {base B : Nat} (hO : OwnNat w B u m) (hg : w.grownBy w' u.ownBlock) (h : OwnTl w base v l) : OwnTl w' base v l := by
  rcases hO.blk with e | ⟨g, C, e, _, hB⟩
  · rw [e] at hg
    exact h.grown hg (fun q hq => by cases hq)
  · rw [e] at hg
    exact h.other hB (by decide) hg

set_option maxHeartbeats 6400000 in
theorem tlRead_any (s : ByteArray) (w : World) (hs : s.size ≤ 100000) (R : TlR) (hR : rdAll s.data.toList = R) :
    Calls Tryd.prog 15 #[.string s] w fun e w' => ∃ v1 v2 er, e = .returned (.tuple #[v1, v2, .int .i64 (R.fin : Nat), er]) ∧ OwnTl w' w.heap.size v1 R.recs ∧ OwnNat w' w.heap.size v2 R.offs ∧ ErrAs w' er R.er R.pl ∧ Below w.heap.size w w' := by
  have hb : s.size ≤ 281474976710656 := by omega
  have hls : s.data.toList.length = s.size := by simp
  have hI0 := inv_start s.data.toList
  rw [hR] at hI0
  clear hR
  go_enter Tryd.func15, Tryd.ntmps15
  go_wp2_with fail
  refine (new_t s 0 _).mono ?_
  rintro e w1 ⟨rfl, HR1, b1⟩
  have hg1 := HR1.lt
  generalize hgg : w.heap.size = g at *
  go_wp2_with fail
  go_loopw [6, 7] (fun v1 v2 wr => ∃ st l a, RdInv s.data.toList R st l a ∧ RdT wr g s 0 st ∧ OwnTl wr w1.heap.size v1 l ∧ OwnNat wr w1.heap.size v2 a ∧ Below g w wr ∧ w1.heap.size ≤ wr.heap.size ∧ a.length = l.length) (fun _ _ wr => rdLeft s.size wr g)
  case atStart => exact ⟨_, _, _, hI0, HR1, Or.inl ⟨rfl, rfl⟩, Or.inl ⟨rfl, rfl⟩, b1, Nat.le_refl _, rfl⟩
  case round =>
    rename_i wr0
    obtain ⟨st, l, a, hI, HR, HO, HN, Bk, hsz, hal⟩ := hrel
    have hp : st.1 ≤ s.size := by rw [← hls]; exact hI.1
    have hp2 : (hdS s.data.toList st).1 ≤ s.size := by rw [← hls]; exact hdS_le _ _ hI.1
    have hrd := rd_round _ _ _ _ _ hI
    have hgb : g ≤ wr.heap.size := by omega
    have HH := Lib.hid (fun (W : World) (h : RdT W g s 0 st) => readHead_t st W h hp hb)
    have HZ := Lib.hid (fun (W : World) (h : RdT W g s 0 (hdS s.data.toList st)) => zeros_t _ W h hp2 (by omega))
    have e0 : ((0 : Nat) : Int) + (st.1 : Int) = ((st.1 : Nat) : Int) := by omega
    have HA : Hid (∀ W, RdT W g s 0 st → Calls Tryd.prog 51 #[.pointer (some ⟨g, 0, none⟩)] W fun e w' => e = .returned (.int .i64 ((st.1 : Nat) : Int)) ∧ W = w') := fun W h => by
      rw [← e0]
      exact atT st W h
    rcases hrd with ⟨k0, z0, hne, r1, r2, r3, r4, r5⟩ | ⟨k0, z1, rfl⟩ | ⟨k1, hl2, hs0, hI2, hlt⟩
    · rw [k0] at HH
      rw [z0] at HZ
      have hr1 := Lib.hid r1
      have hr2 := Lib.hid r2
      have hr3 := Lib.hid r3
      have hr4 := Lib.hid r4
      have hr5 := Lib.hid r5
      have HER := Lib.hid (fun (W : World) (h : RdT W g s 0 (zrR s.data.toList 0 (hdS s.data.toList st)).2) => err_t _ W h hne)
      clear hI HO HN r1 r2 r3 r4 r5 k0 z0 hp hp2 hI0 HR1 b1 hg1 hal
      generalize (zrR s.data.toList 0 (hdS s.data.toList st)).2 = st3 at *
      generalize hdS s.data.toList st = st2 at *
      generalize nmV s.data.toList 0 st 2 % 512 = Z at *
      go_wp2_with fail
      refine (HA.out _ HR).mono ?_
      rintro e w2 ⟨rfl, rfl⟩
      go_wp2_with fail
      refine (HH.out _ HR).mono ?_
      rintro e w3 ⟨rfl, HR3, g3⟩
      have B3 := grown_belT Bk g3 hgb (Nat.le_refl _)
      go_wp2_with fail
      refine (HZ.out _ HR3).mono ?_
      rintro e w4 ⟨rfl, HR4, g4⟩
      have B4 := grown_belT B3 g4 (Nat.le_trans hgb g3.size) (Nat.le_refl _)
      go_wp2_with fail
      refine (HER.out _ HR4).mono ?_
      rintro e w5 ⟨rfl, hF5, b5⟩
      go_wp2
      (try simp only [Exit.inBlock, Exit.then]); refine bodyPost_ret (results_tmp4 rfl _ _ _) rfl ?_
      rw [hr1.out, hr2.out, hr3.out, hr4.out, hr5.out]
      subst hgg
      exact ⟨_, _, _, rfl, Or.inl ⟨rfl, rfl⟩, Or.inl ⟨rfl, rfl⟩, Or.inr ⟨hne, _, rfl, hF5⟩, B4.trans (b5.mono (by have := B4.size; omega))⟩
    · rw [k0] at HH
      rw [z1] at HZ
      clear k0 z1 hp hp2 hI0 HR1 b1 hal hI
      generalize (zrR s.data.toList 0 (hdS s.data.toList st)).2 = st3 at *
      generalize hdS s.data.toList st = st2 at *
      generalize nmV s.data.toList 0 st 2 % 512 = Z at *
      go_wp2_with fail
      refine (HA.out _ HR).mono ?_
      rintro e w2 ⟨rfl, rfl⟩
      go_wp2_with fail
      refine (HH.out _ HR).mono ?_
      rintro e w3 ⟨rfl, HR3, g3⟩
      have B3 := grown_belT Bk g3 hgb (Nat.le_refl _)
      have HO3 := HO.grown g3 (fun q hq => by cases hq; omega)
      have HN3 := HN.grown g3 (fun q hq => by cases hq; omega)
      go_wp2_with fail
      refine (HZ.out _ HR3).mono ?_
      rintro e w4 ⟨rfl, HR4, g4⟩
      have B4 := grown_belT B3 g4 (Nat.le_trans hgb g3.size) (Nat.le_refl _)
      have HO4 := HO3.grown g4 (fun q hq => by cases hq; omega)
      have HN4 := HN3.grown g4 (fun q hq => by cases hq; omega)
      clear HR HR3 HR4 g3 g4 B3 HO HN HO3 HN3 Bk
      go_wp2
      (try simp only [Exit.inBlock, Exit.then]); refine bodyPost_ret (results_tmp4 rfl _ _ _) rfl ?_
      subst hgg
      exact ⟨_, _, _, rfl, HO4.mono (Nat.le_of_lt hg1), HN4.mono (Nat.le_of_lt hg1), Or.inl ⟨rfl, rfl, rfl⟩, B4⟩
    · have hK : ((nmV s.data.toList 0 st 2 / 512 : Nat) : Int) ≠ 0 := by omega
      have HB := Lib.hid (fun (W : World) (h : RdT W g s 0 (hdS s.data.toList st)) => bytes_t _ (nmV s.data.toList 0 st 2 % 512 : Nat) W h hp2 (by omega))
      have hnx : Hid (nxT s.data.toList st = ⟨(nmV s.data.toList 0 st 2 / 512 : Nat), ⟨(tkN s.data.toList 0 (hdS s.data.toList st) (nmV s.data.toList 0 st 2 % 512 : Nat) false).1.toArray⟩⟩) := rfl
      have hnS : Hid (nxS s.data.toList st = (tkN s.data.toList 0 (hdS s.data.toList st) (nmV s.data.toList 0 st 2 % 512 : Nat) false).2) := rfl
      rw [hnx.out] at hI2
      rw [hnS.out] at hI2 hlt
      have hdK : (((nmV s.data.toList 0 st 2 / 512 : Nat) : Int) == 0) = false := by simpa using hK
      have hms : rdLeft s.size wr g = s.size + 1 - st.1 := by
        obtain ⟨p, e, x⟩ := st
        obtain rfl : e = 0 := hs0
        exact rdLeft_ok HR
      have HI2 := Lib.hid hI2
      have HLT := Lib.hid hlt
      clear hI k1 hp2 hI0 HR1 b1 hK hnx hnS HZ hI2 hlt
      generalize (tkN s.data.toList 0 (hdS s.data.toList st) (nmV s.data.toList 0 st 2 % 512 : Nat) false).2 = st3 at *
      generalize (tkN s.data.toList 0 (hdS s.data.toList st) (nmV s.data.toList 0 st 2 % 512 : Nat) false).1 = tx at *
      generalize hdS s.data.toList st = st2 at *
      generalize nmV s.data.toList 0 st 2 % 512 = Z at *
      generalize nmV s.data.toList 0 st 2 / 512 = K at *
      go_wp2_with fail
      refine (HA.out _ HR).mono ?_
      rintro e w2 ⟨rfl, rfl⟩
      go_wp2_with fail
      refine (HH.out _ HR).mono ?_
      rintro e w3 ⟨rfl, HR3, g3⟩
      have B3 := grown_belT Bk g3 hgb (Nat.le_refl _)
      have HO3 := HO.grown g3 (fun q hq => by cases hq; omega)
      have HN3 := HN.grown g3 (fun q hq => by cases hq; omega)
      have hs3 := g3.size
      clear HO HN Bk g3 HR
      go_wp2_with fail
      refine (HB.out _ HR3).mono ?_
      rintro e w4 ⟨rfl, HR4, g4⟩
      have B4 := grown_belT B3 g4 (Nat.le_trans hgb hs3) (Nat.le_refl _)
      have HO4 := HO3.grown g4 (fun q hq => by cases hq; omega)
      have HN4 := HN3.grown g4 (fun q hq => by cases hq; omega)
      have hs4 := g4.size
      clear HO3 HN3 B3 g4 HR3 HA HH HB
      go_wp2_with (first
        | (refine sliceL_tl ⟨(K : Int), ⟨tx.toArray⟩⟩ rfl rfl rfl ?_; intro w5 HG5 b5 s5; have HO5 := HO4.kept b5; have HN5 := HN4.kept b5; have HR5 := HR4.below b5; have B5 := B4.trans (b5.mono (by have := B4.size; omega)))
        | (refine appendL_tl ⟨(K : Int), ⟨tx.toArray⟩⟩ rfl rfl rfl rfl HO5 HG5 (by omega) (by omega) ?_; intro v6 w6 HO6 b6 g6; have HN6 := own_tl_ni HO5 g6 HN5; have HR6 := rdT_tl HO5 g6 HR5; have B6 := B5.trans (b6.mono (by omega)); have hs6 := b6.size)
        | (refine sliceL_ni st.1 rfl rfl rfl ?_; intro w7 HG7 b7 s7; have HO7 := HO6.kept b7; have HN7 := HN6.kept b7; have HR7 := HR6.below b7; have B7 := B6.trans (b7.mono (by have := B6.size; omega)))
        | (refine appendL_ni st.1 rfl rfl rfl rfl HN7 HG7 (by omega) (by omega) ?_; intro v8 w8 HN8 b8 g8; have HO8 := own_ni_tl HN7 g8 HO7; have HR8 := rdT_ni HN7 g8 HR7; have B8 := B7.trans (b8.mono (by omega)); have hs8 := b8.size))
      go_roundw
      case rel => exact ⟨st3, _, _, HI2.out, HR8, HO8, HN8, B8, by omega, by simp [hal]⟩
      case measure =>
        show rdLeft s.size w8 g < rdLeft s.size wr g
        rw [hms]
        rcases HLT.out with q | q
        · obtain ⟨p3, e3, x3⟩ := st3
          rw [rdLeft_bad HR8 q]
          omega
        · obtain ⟨p3, e3, x3⟩ := st3
          by_cases h3 : e3 = 0
          · subst h3
            rw [rdLeft_ok HR8]
            have q : st.1 < p3 := q
            omega
          · rw [rdLeft_bad HR8 h3]
            omega

end Go.Proofs.YticjmjoiggnblaaDoor
