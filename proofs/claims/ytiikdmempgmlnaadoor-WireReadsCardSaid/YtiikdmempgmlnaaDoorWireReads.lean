/- switchyardlaw.WireReads returns true for every text, every number and every list of things to do, and changes nothing that was there. -/
import Derived.Test.YtiikdmempgmlnaaDoorReads4
import Derived.Test.YtiikdmempgmlnaaDoorRdS
import Derived.Deep.RegionHeld3
import Derived.Deep.AppendLies
import Derived.Laws.EntriesVeiled
import Derived.Deep.DeepCutAuto
import Derived.Deep.CutBlock
namespace Go.Proofs.YtiikdmempgmlnaaDoor
open Go.RowKit
set_option linter.unusedVariables false

namespace wireReads

theorem tell_zero (x : Int) (w : World) (hx : x = 0) : Calls Tryd.prog 24 #[.nilIface] w fun e w' => e = .returned (.int .i64 x) ∧ w = w' := by
  subst hx
  exact tell_nil w

theorem grown_of {w w' : World} (hb : Below w.heap.size w w') (row : Option Nat) : w.grownBy w' row := ⟨hb.os, hb.tape, hb.output, hb.size, fun k hk _ => hb.block k hk⟩

theorem takeN_pl (s : List UInt8) (off : Nat) (st : RSt) (n : Int) (num : Bool) (h : st.2.1 = 0 → st.2.2 = -1) : (takeN s off st n num).2.2.1 = 0 → (takeN s off st n num).2.2.2 = -1 := by
  unfold takeN
  split
  · exact h
  · split
    · intro q; exact absurd q (show ¬ (2 : Int) = 0 by decide)
    · split
      · intro q; exact absurd q (show ¬ (7 : Int) = 0 by decide)
      · exact h

theorem stepR_pl (s : List UInt8) (off : Nat) (x : Int × Int) (st : RSt) (h : st.2.1 = 0 → st.2.2 = -1) : (stepR s off x st).2.2.1 = 0 → (stepR s off x st).2.2.2 = -1 := by
  have h1 := takeN_pl s off st x.2 false h
  have h2 := takeN_pl s off st x.2 true h
  unfold stepR
  split
  · exact h1
  · split
    · exact h2
    · split
      · split
        · exact h
        · split
          · exact h
          · intro q; exact absurd q (show ¬ (15 : Int) = 0 by decide)
      · split
        · exact h1
        · split
          · split
            · exact h
            · intro q; exact absurd q (show ¬ (6 : Int) = 0 by decide)
          · exact h

theorem stN_pl (s : List UInt8) (off : Nat) (l : List (Int × Int)) (k : Nat) : (stN s off l k).2.1 = 0 → (stN s off l k).2.2 = -1 := by
  induction k with
  | zero => intro _; rfl
  | succ k ih => exact stepR_pl s off _ _ ih

theorem placed_z (w : World) : Calls Tryd.prog 26 #[.nilIface, .agg #[.int .i64 0, .int .i64 (-1)]] w fun e w' => e = .returned (.bool true) ∧ Below w.heap.size w w' := by
  go_enter Tryd.func26, Tryd.ntmps26
  go_wp2_with fail
  refine (place_nil _).mono ?_
  rintro e w1 ⟨rfl, rfl⟩
  go_wp2
  go_ret
  exact ⟨rfl, (Below.refl _ _).alloc (Nat.le_refl _) _⟩

theorem placed_e (q : Nat) (x y : Int) (w : World) (hE : HasErr w) (hp : Flt w q x y) : Calls Tryd.prog 26 #[.iface 64 (.pointer (some ⟨q, 0, none⟩)), .agg #[.int .i64 x, .int .i64 y]] w fun e w' => e = .returned (.bool true) ∧ Below w.heap.size w w' := by
  have hE1 := hE.alloc (.cells #[.int .i64 x, .int .i64 y] 38)
  have hp1 := hp.alloc (.cells #[.int .i64 x, .int .i64 y] 38)
  have b1 : Below w.heap.size w _ := (Below.refl _ _).alloc (Nat.le_refl _) (.cells #[.int .i64 x, .int .i64 y] 38)
  have k0 : (w.alloc (.cells #[.int .i64 x, .int .i64 y] 38)).cell? ⟨w.heap.size, 0, none⟩ = some (.int .i64 x) := cell_of_row _ _ 0 _ _ (0, 0) (heap_alloc_new w _)
  have k1 : (w.alloc (.cells #[.int .i64 x, .int .i64 y] 38)).cell? ⟨w.heap.size, 1, none⟩ = some (.int .i64 y) := cell_of_row _ _ 1 _ _ (0, 0) (heap_alloc_new w _)
  have hlt : w.heap.size < (w.alloc (.cells #[.int .i64 x, .int .i64 y] 38)).heap.size := by simp
  go_enter Tryd.func26, Tryd.ntmps26
  go_wp2_with fail
  generalize w.alloc (.cells #[.int .i64 x, .int .i64 y] 38) = w0 at *
  refine (place_at q x y _ hE1 hp1).mono ?_
  rintro e w1 ⟨rfl, hb⟩
  have m0 := (hb.cell (p := ⟨w.heap.size, 0, none⟩) hlt).trans k0
  have m1 := (hb.cell (p := ⟨w.heap.size, 1, none⟩) hlt).trans k1
  go_wp2
  go_ret
  exact ⟨rfl, b1.trans (hb.mono b1.size)⟩

theorem long (s : ByteArray) (o : Int) (v : Option Addr) (n c : Nat) (w : World) (h : 100 < s.size ∨ 30 < n ∨ o < 0 ∨ 1099511627776 < o) :
    Calls Tryd.prog 4 #[.string s, .int .i64 o, .slice v n c] w fun e w' => e = .returned (.bool true) ∧ Below w.heap.size w w' := by
  by_cases h1 : 100 < s.size
  · go_enter Tryd.func4, Tryd.ntmps4
    go_wp2
    go_ret
    exact ⟨rfl, Below.refl _ _⟩
  · by_cases h2 : 30 < n
    · go_enter Tryd.func4, Tryd.ntmps4
      go_wp2
      go_ret
      exact ⟨rfl, Below.refl _ _⟩
    · by_cases h3 : o < 0
      · go_enter Tryd.func4, Tryd.ntmps4
        go_wp2
        go_ret
        exact ⟨rfl, Below.refl _ _⟩
      · have h4 : 1099511627776 < o := by omega
        go_enter Tryd.func4, Tryd.ntmps4
        go_wp2
        go_ret
        exact ⟨rfl, Below.refl _ _⟩

set_option maxHeartbeats 3200000 in
set_option maxRecDepth 100000 in
theorem short (s : ByteArray) (off : Nat) (l : List (Int × Int)) (lb lo lc : Nat) (w : World) (hT : HasTab w) (hE : HasErr w) (hs : s.size ≤ 100) (ho : off ≤ 1099511627776) (hl : l.length ≤ 30) (hl0 : 0 < l.length) (hlb : lb < w.heap.size) (hR : ReadsAt w lb lo l) :
    Calls Tryd.prog 4 #[.string s, .int .i64 off, .slice (some ⟨lb, lo, none⟩) l.length lc] w fun e w' => e = .returned (.bool true) ∧ Below w.heap.size w w' := by
  have h1 : ¬ (100 : Int) < s.size := by omega
  have h2 : ¬ (30 : Int) < l.length := by omega
  have h3 : ¬ (off : Int) < 0 := by omega
  have h4 : ¬ (1099511627776 : Int) < off := by omega
  go_enter Tryd.func4, Tryd.ntmps4
  go_wp2_with fail
  refine (new_any _ _ _).mono ?_
  rintro e w2 ⟨rfl, rfl⟩
  have r2 := rd_new w s off none
  have hb2 : Below w.heap.size w _ := (Below.refl _ _).alloc (Nat.le_refl _) (.cells #[.string s, .int .i64 off, .pointer none] 66)
  have sz2 : (w.alloc (.cells #[.string s, .int .i64 off, .pointer none] 66)).heap.size = w.heap.size + 1 := by simp
  generalize w.alloc (.cells #[.string s, .int .i64 off, .pointer none] 66) = w2 at *
  have st2 : RdS w2 w.heap.size s off (stN s.data.toList off l 0) := by
    refine ⟨none, ?_, Or.inl ⟨rfl, rfl⟩⟩
    have e1 : s.extract 0 s.size = s := by
      apply ByteArray.ext
      apply Array.toList_inj.1
      rw [Lib.extract_to_end, List.drop_zero]
    show Rd w2 w.heap.size (s.extract 0 s.size) ((off : Int) + ((0 : Nat) : Int)) none
    rw [e1, show (off : Int) + ((0 : Nat) : Int) = off by omega]
    exact r2
  have hT2 := hT.below hb2
  have hR2 : ReadsAt w2 lb lo l := fun j h => ⟨(hb2.cell (p := ⟨lb, _, none⟩) hlb).trans (hR j h).1, (hb2.cell (p := ⟨lb, _, none⟩) hlb).trans (hR j h).2⟩
  clear r2 h1 h2 h3 h4
  go_wp2_with fail
  refine (reads_any s off l lb lo lc _ hT2 hs ho hl hl0 (by omega) hR2).mono ?_
  rintro e w3 ⟨v, base, rfl, hbase, own3, b3⟩
  obtain ⟨vg, vc, rfl, hvg, hvlt⟩ := own3.form hl0
  have want3 : ∀ j, j < l.length → w3.cell? ⟨vg, j, none⟩ = some (.string ⟨(lineN s.data.toList off l j).toArray⟩) := fun j hj => by
    rw [own3.cellAt j (by omega), List.getElem?_map, List.getElem?_range hj]
    rfl
  have hgv : w.heap.size < vg := by omega
  have bF : Below w3.heap.size w3 (w3.alloc (.cells #[.int .i64 (stN s.data.toList off l l.length).2.1, .int .i64 (stN s.data.toList off l l.length).2.2] 38)) := (Below.refl _ _).alloc (Nat.le_refl _) _
  have n3 : Nt (w3.alloc (.cells #[.int .i64 (stN s.data.toList off l l.length).2.1, .int .i64 (stN s.data.toList off l l.length).2.2] 38)) w3.heap.size (stN s.data.toList off l l.length).2.1 (stN s.data.toList off l l.length).2.2 := heap_alloc_new w3 _
  have hb3 := hb2.trans (b3.mono hb2.size)
  have hb4 := hb3.trans (bF.mono hb3.size)
  have st4 := (st2.below b3).below bF
  have want4 : ∀ j, j < l.length → (w3.alloc (.cells #[.int .i64 (stN s.data.toList off l l.length).2.1, .int .i64 (stN s.data.toList off l l.length).2.2] 38)).cell? ⟨vg, j, none⟩ = some (.string ⟨(lineN s.data.toList off l j).toArray⟩) := fun j hj => (bF.cell (p := ⟨vg, j, none⟩) hvlt).trans (want3 j hj)
  have vlt4 : vg < (w3.alloc (.cells #[.int .i64 (stN s.data.toList off l l.length).2.1, .int .i64 (stN s.data.toList off l l.length).2.2] 38)).heap.size := Nat.lt_of_lt_of_le hvlt bF.size
  have hgp : w.heap.size < w3.heap.size := by omega
  have sz4 : (w3.alloc (.cells #[.int .i64 (stN s.data.toList off l l.length).2.1, .int .i64 (stN s.data.toList off l l.length).2.2] 38)).heap.size = w3.heap.size + 1 := by simp
  obtain ⟨g, hg⟩ : ∃ g, g = w.heap.size := ⟨_, rfl⟩
  rw [← hg] at st4 hgv hb4 hlb hgp
  rw [← hg]
  clear own3 hbase hvg st2 b3 hb2 sz2 hT2 hR2 hb3 want3 hvlt bF
  have HB := Lib.hid hg
  clear hg
  go_wp2
  obtain ⟨fp, hfp⟩ : ∃ fp, fp = w3.heap.size := ⟨_, rfl⟩
  rw [← hfp] at n3 hgp sz4
  rw [← hfp]
  generalize w3.alloc (.cells #[.int .i64 (stN s.data.toList off l l.length).2.1, .int .i64 (stN s.data.toList off l l.length).2.2] 38) = w4 at *
  clear hfp
  go_loopw [47] (fun i wr => ∃ k : Nat, k ≤ l.length ∧ i = .int .i64 k ∧ RdS wr g s off (stN s.data.toList off l k) ∧ Nt wr fp (stN s.data.toList off l l.length).2.1 (stN s.data.toList off l l.length).2.2 ∧
      (∀ j, j < l.length → wr.cell? ⟨vg, j, none⟩ = some (.string ⟨(lineN s.data.toList off l j).toArray⟩)) ∧ vg < wr.heap.size ∧ Below g w wr) (fun i _ => l.length - (intOf i).toNat)
  case atStart => exact ⟨0, Nat.zero_le _, rfl, st4, n3, want4, vlt4, hb4⟩
  case round =>
    obtain ⟨k, hk, rfl, hrs, hnt, hwant, hvl, hbel⟩ := hrel
    by_cases hlt : k < l.length
    · obtain ⟨x1, x2, hxk⟩ : ∃ x1 x2, l[k] = (x1, x2) := ⟨_, _, rfl⟩
      have hgd : l.getD k (0, 0) = (x1, x2) := by rw [List.getD_eq_getElem?_getD, List.getElem?_eq_getElem hlt]; exact hxk
      have hx1 : wr.cell? ⟨lb, lo + k * 2, none⟩ = some (.int .i64 x1) := by
        have q := (hbel.cell (p := ⟨lb, lo + k * 2, none⟩) hlb).trans (hR k hlt).1
        rw [hxk] at q; exact q
      have hx2 : wr.cell? ⟨lb, lo + k * 2 + 1, none⟩ = some (.int .i64 x2) := by
        have q := (hbel.cell (p := ⟨lb, lo + k * 2 + 1, none⟩) hlb).trans (hR k hlt).2
        rw [hxk] at q; exact q
      have hple := stN_le s.data.toList off l k
      have hok := stN_e s.data.toList off l k
      have hLs : s.data.toList.length = s.size := by simp
      rw [hLs] at hple
      have HST : Hid (stN s.data.toList off l (k + 1) = (stepR s.data.toList off (x1, x2) (stN s.data.toList off l k)).2) := by show _ = _; rw [stN, hgd]
      have HLN : Hid (lineN s.data.toList off l k = lineOf s.data.toList off (stepR s.data.toList off (x1, x2) (stN s.data.toList off l k))) := by show _ = _; rw [lineN, hgd]
      have HW := Lib.hid hwant
      clear hgd hxk hLs hwant
      generalize stN s.data.toList off l k = st at *
      go_upto_block 2 with (fail)
      go_cut [12] (fun s12 wx => s12 = .string ⟨(stepR s.data.toList off (x1, x2) st).1.toArray⟩ ∧ RdS wx g s off (stepR s.data.toList off (x1, x2) st).2 ∧ (wr.alloc (.cells #[.int .i64 x1, .int .i64 x2] 42)).grownBy wx (some g))
      case first =>
        have rs1 := hrs.below ((Below.refl _ _).alloc (Nat.le_refl _) (.cells #[.int .i64 x1, .int .i64 x2] 42))
        have bel1 := hbel.alloc (by have := hrs.lt; omega) (.cells #[.int .i64 x1, .int .i64 x2] 42)
        have gg : ∀ k, some g = some k → g ≤ k := fun k h => by cases h; omega
        have lt1 : g ≤ (wr.alloc (.cells #[.int .i64 x1, .int .i64 x2] 42)).heap.size := by have := rs1.lt; omega
        by_cases c0 : x1 = 0
        · subst c0
          have HS : Hid (stepR s.data.toList off (0, x2) st = takeN s.data.toList off st x2 false) := by show _ = _; simp [stepR]
          go_wp2_with fail
          refine (bytes_s st x2 _ rs1 hple hs ho).mono ?_
          rintro e w4 ⟨rfl, r4, g4⟩
          go_wp2_with fail
          go_meet
          exact ⟨by rw [HS.out], by rw [HS.out]; exact r4, g4⟩
        have c0b : (x1 == 0) = false := beq_eq_false_iff_ne.2 c0
        by_cases c1 : x1 = 1
        · subst c1
          have HS : Hid (stepR s.data.toList off (1, x2) st = (Lib.itoa (wrap64 (beN (takeN s.data.toList off st x2 true).1)), (takeN s.data.toList off st x2 true).2)) := by show _ = _; simp [stepR]
          go_wp2_with fail
          refine (num_s st x2 _ rs1 hple hs ho).mono ?_
          rintro e w4 ⟨rfl, r4, g4⟩
          have hT4 : HasTab w4 := by have q := bel1.grown g4 lt1 gg; rw [HB.out] at q; exact hT.below q
          go_wp2_with fail
          refine (itoa_any _ _ hT4 (wrap64_in _).1 (wrap64_in _).2).mono ?_
          rintro e w5 ⟨rfl, b5⟩
          go_wp2_with fail
          go_meet
          exact ⟨by rw [HS.out], by rw [HS.out]; exact r4.below b5, grownBy_trans g4 (grown_of b5 _)⟩
        have c1b : (x1 == 1) = false := beq_eq_false_iff_ne.2 c1
        by_cases c2 : x1 = 2
        · subst c2
          go_wp2_with fail
          refine (zeros_s st x2 _ rs1 hple hs ho).mono ?_
          rintro e w4 ⟨b, rfl, hb, r4, g4⟩
          go_wp2_with fail
          refine (Tryd.strconv_FormatBool b _).mono ?_
          rintro e w5 ⟨rfl, hw5⟩
          subst hw5
          go_wp2_with fail
          go_meet
          exact ⟨by rw [← hb], r4, g4⟩
        have c2b : (x1 == 2) = false := beq_eq_false_iff_ne.2 c2
        by_cases c3 : x1 = 3
        · subst c3
          obtain ⟨p, e0, pl⟩ := st
          have hp0 : p ≤ s.size := hple
          have hlt1 := takeN_len s.data.toList off (p, e0, pl) x2 false
          have hok1 := takeN_e s.data.toList off (p, e0, pl) x2 false hok
          have hno := takeN_noted s.data.toList off (p, e0, pl) x2 false
          rw [Array.length_toList] at hlt1
          have HS : Hid (stepR s.data.toList off (3, x2) (p, e0, pl) = (Lib.itoa ((off : Int) + p) ++ [32] ++ Lib.itoa (takeN s.data.toList off (p, e0, pl) x2 false).1.length ++ [32] ++ (takeN s.data.toList off (p, e0, pl) x2 false).1 ++ [32] ++ Lib.itoa (takeN s.data.toList off (p, e0, pl) x2 false).2.2.1, (takeN s.data.toList off (p, e0, pl) x2 false).2)) := by show _ = _; simp [stepR]
          go_wp2_with fail
          refine (sub_s (p, e0, pl) x2 _ rs1 hple hs ho).mono ?_
          rintro e w4 ⟨f, rfl, hb4, hf4, hr4, g4⟩
          generalize takeN s.data.toList off (p, e0, pl) x2 false = tt at *
          obtain ⟨t, p3, e3, pl3⟩ := tt
          have hsz : (wr.alloc (.cells #[.int .i64 3, .int .i64 x2] 42)).heap.size = wr.heap.size + 1 := by simp
          have hgb : g < wr.heap.size + 1 := by have := rs1.lt; omega
          have hbs : wr.heap.size + 1 ≤ w4.heap.size := by have := g4.size; omega
          have bel4 := bel1.grown g4 lt1 gg
          clear hrs rs1 hnt bel1 hbel hx1 hx2 HW
          have a1 : ∀ w', w4.grownBy w' (some (wr.heap.size + 1)) → (wr.alloc (.cells #[.int .i64 3, .int .i64 x2] 42)).grownBy w' (some g) := fun w' h => grown_drop g4 h (by omega)
          obtain ⟨b, hbd⟩ : ∃ b, b = (wr.alloc (.cells #[.int .i64 3, .int .i64 x2] 42)).heap.size := ⟨_, rfl⟩
          have hb4 : Rd w4 b ⟨t.toArray⟩ ((off : Int) + (p : Int)) f := by rw [hbd]; exact hb4
          rw [← hsz, ← hbd] at hgb hbs
          rw [← hsz, ← hbd] at a1
          have A1 := Lib.hid a1
          clear a1
          rw [← hbd]
          clear hbd hsz
          go_wp2_with fail
          refine (at_any _ hb4).mono ?_
          rintro e w5 ⟨rfl, rfl⟩
          go_wp2_with fail
          refine (left_any _ hb4).mono ?_
          rintro e w5 ⟨rfl, rfl⟩
          have zt : (⟨t.toArray⟩ : ByteArray).size = t.length := by show t.toArray.size = _; simp
          rw [zt]
          have htl : t.length ≤ 100 := Nat.le_trans hlt1 hs
          have hple4 : (off : Int) + (p : Int) + ((⟨t.toArray⟩ : ByteArray).size : Int) ≤ 281474976710656 := by rw [zt]; omega
          go_wp2_with fail
          refine (sub_all _ _ hb4 hf4 (by rw [zt]) (fun q => by rw [hno q]) (by omega) hple4).mono ?_
          rintro e w5 ⟨rfl, hb5, g5⟩
          rw [zt] at hb5
          have hf5 : Fs w5 e3 pl3 f := hf4.kept hb4 g5
          have hr5 : Rd w5 g (s.extract p3 s.size) ((off : Int) + (p3 : Int)) f := hr4.kept g5 (by intro e; cases e; omega)
          have bel5 := bel4.grown g5 (by omega) (fun k h => by cases h; omega)
          have gA := A1.out _ g5
          have hEw : HasErr w5 := by have q := bel5; rw [HB.out] at q; exact hE.below q
          have hTw : HasTab w5 := by have q := bel5; rw [HB.out] at q; exact hT.below q
          have zn : ((⟨t.toArray⟩ : ByteArray).extract t.length t.length).size = 0 := by rw [ByteArray.size_extract]; omega
          have zn1 : (((⟨t.toArray⟩ : ByteArray).extract t.length t.length).size : Int) = 0 := by omega
          generalize (⟨t.toArray⟩ : ByteArray).extract t.length t.length = nil at *
          clear hb4 hf4 hr4 bel4 g4 g5 A1 hple4 zn
          have v1 : IntKind.i64.wrap ((off : Int) + (p : Int) + (t.length : Int)) = (off : Int) + (p : Int) + (t.length : Int) := by rw [IntKind.wrap_i64]; omega
          have he0 : 0 ≤ e3 := hok1.1
          have he1 : e3 ≤ 15 := hok1.2
          have L1 := Lib.itoa_length_le ((off : Int) + (p : Int)) (by omega) (by omega)
          have L2 := Lib.itoa_length_le (t.length : Int) (by omega) (by omega)
          have L3 := Lib.itoa_length_le e3 (by omega) (by omega)
          obtain ⟨y1, hy1⟩ : ∃ y1, y1 = Lib.itoa ((off : Int) + (p : Int)) ++ [32] := ⟨_, rfl⟩
          obtain ⟨y2, hy2⟩ : ∃ y2, y2 = y1 ++ Lib.itoa (t.length : Int) := ⟨_, rfl⟩
          obtain ⟨y3, hy3⟩ : ∃ y3, y3 = y2 ++ [32] := ⟨_, rfl⟩
          obtain ⟨y4, hy4⟩ : ∃ y4, y4 = y3 ++ t := ⟨_, rfl⟩
          obtain ⟨y5, hy5⟩ : ∃ y5, y5 = y4 ++ [32] := ⟨_, rfl⟩
          obtain ⟨y6, hy6⟩ : ∃ y6, y6 = y5 ++ Lib.itoa e3 := ⟨_, rfl⟩
          have z1 : y1.length ≤ 22 := by rw [hy1, List.length_append, List.length_singleton]; omega
          have z2 : y2.length ≤ 43 := by rw [hy2, List.length_append]; omega
          have z3 : y3.length ≤ 44 := by rw [hy3, List.length_append, List.length_singleton]; omega
          have z4 : y4.length ≤ 144 := by rw [hy4, List.length_append]; omega
          have z5 : y5.length ≤ 145 := by rw [hy5, List.length_append, List.length_singleton]; omega
          have d1 : ∀ W, (Op.stringOp .add ⟨(Lib.itoa ((off : Int) + (p : Int))).toArray⟩ ⟨#[32]⟩).run Tryd.prog W = .ok (.string ⟨y1.toArray⟩) W := fun W => by rw [hy1]; exact run_string_add_lists W _ [32] (by omega) (by decide)
          have d2 : ∀ W, (Op.stringOp .add ⟨y1.toArray⟩ ⟨(Lib.itoa (t.length : Int)).toArray⟩).run Tryd.prog W = .ok (.string ⟨y2.toArray⟩) W := fun W => by rw [hy2]; exact run_string_add_lists W _ _ (by omega) (by omega)
          have d3 : ∀ W, (Op.stringOp .add ⟨y2.toArray⟩ ⟨#[32]⟩).run Tryd.prog W = .ok (.string ⟨y3.toArray⟩) W := fun W => by rw [hy3]; exact run_string_add_lists W _ [32] (by omega) (by decide)
          have d4 : ∀ W, (Op.stringOp .add ⟨y3.toArray⟩ ⟨t.toArray⟩).run Tryd.prog W = .ok (.string ⟨y4.toArray⟩) W := fun W => by rw [hy4]; exact run_string_add_lists W _ _ (by omega) (by omega)
          have d5 : ∀ W, (Op.stringOp .add ⟨y4.toArray⟩ ⟨#[32]⟩).run Tryd.prog W = .ok (.string ⟨y5.toArray⟩) W := fun W => by rw [hy5]; exact run_string_add_lists W _ [32] (by omega) (by decide)
          have d6 : ∀ W, (Op.stringOp .add ⟨y5.toArray⟩ ⟨(Lib.itoa e3).toArray⟩).run Tryd.prog W = .ok (.string ⟨y6.toArray⟩) W := fun W => by rw [hy6]; exact run_string_add_lists W _ _ (by omega) (by omega)
          have HY : Hid (y6 = Lib.itoa ((off : Int) + p) ++ [32] ++ Lib.itoa (t.length : Int) ++ [32] ++ t ++ [32] ++ Lib.itoa e3) := by show _ = _; rw [hy6, hy5, hy4, hy3, hy2, hy1]
          have v2 : IntKind.i64.wrap e3 = e3 := by rw [IntKind.wrap_i64]; omega
          have zt2 := zt
          clear hy1 hy2 hy3 hy4 hy5 hy6 z1 z2 z3 z4 z5 hlt1 hok1 hok
          have HNo := Lib.hid hno
          clear hno
          by_cases he : e3 = 0
          · have hfz : Fs w5 0 pl3 f := by rw [← he]; exact hf5
            have HE0 := Lib.hid he
            clear he
            go_wp2_with fail
            refine (err_z _ hb5 hfz).mono ?_
            rintro e w6 ⟨rfl, rfl⟩
            go_wp2_with fail
            refine (left_any _ hb5).mono ?_
            rintro e w6 ⟨rfl, rfl⟩
            rw [zn1]
            go_wp2_with fail
            refine (at_any _ hb5).mono ?_
            rintro e w6 ⟨rfl, rfl⟩
            go_wp2_with fail
            refine (itoa_any ((off : Int) + (p : Int)) _ hTw (by omega) (by omega)).mono ?_
            rintro e w6 ⟨rfl, b6⟩
            go_wp2_with fail
            refine (itoa_any (t.length : Int) _ (hTw.below b6) (by omega) (by omega)).mono ?_
            rintro e w7 ⟨rfl, b7⟩
            have B7 := b6.trans (b7.mono b6.size)
            go_wp2_with fail
            refine (err_z _ (hb5.below B7) (hfz.below B7)).mono ?_
            rintro e w8 ⟨rfl, rfl⟩
            go_wp2_with fail
            refine (tell_zero e3 _ HE0.out).mono ?_
            rintro e w8 ⟨rfl, rfl⟩
            go_wp2_with fail
            refine (itoa_any e3 _ (hTw.below B7) (by omega) (by omega)).mono ?_
            rintro e w9 ⟨rfl, b9⟩
            have B9 := B7.trans (b9.mono B7.size)
            have hr9 := hr5.below B9
            have hf9 := hf5.below B9
            go_wp2_with fail
            go_meet
            exact ⟨by rw [HS.out, HY.out], by rw [HS.out]; exact ⟨f, hr9, hf9⟩, grownBy_trans gA (grown_of B9 _)⟩
          · go_wp2_with fail
            refine (err_e _ hb5 hf5 he).mono ?_
            rintro e w6 ⟨q, rfl, q6, b6⟩
            go_wp2_with fail
            refine (itoa_any ((off : Int) + (p : Int)) _ (hTw.below b6) (by omega) (by omega)).mono ?_
            rintro e w7 ⟨rfl, b7⟩
            have B7 := b6.trans (b7.mono b6.size)
            go_wp2_with fail
            refine (itoa_any (t.length : Int) _ (hTw.below B7) (by omega) (by omega)).mono ?_
            rintro e w8 ⟨rfl, b8⟩
            have B8 := B7.trans (b8.mono B7.size)
            go_wp2_with fail
            refine (err_e _ (hb5.below B8) (hf5.below B8) he).mono ?_
            rintro e wa ⟨qa, rfl, qfa, ba⟩
            have Ba := B8.trans (ba.mono B8.size)
            go_wp2_with fail
            refine (tell_at qa e3 _ _ (hEw.below Ba) qfa).mono ?_
            rintro e wb ⟨rfl, bb⟩
            have Bb := Ba.trans (bb.mono Ba.size)
            go_wp2_with fail
            refine (itoa_any e3 _ (hTw.below Bb) (by omega) (by omega)).mono ?_
            rintro e w9 ⟨rfl, b9⟩
            have B9 := Bb.trans (b9.mono Bb.size)
            have hr9 := hr5.below B9
            have hf9 := hf5.below B9
            go_wp2_with fail
            go_meet
            exact ⟨by rw [HS.out, HY.out], by rw [HS.out]; exact ⟨f, hr9, hf9⟩, grownBy_trans gA (grown_of B9 _)⟩
        have c3b : (x1 == 3) = false := beq_eq_false_iff_ne.2 c3
        by_cases c4 : x1 = 4
        · subst c4
          have HS : Hid ((stepR s.data.toList off (4, x2) st).1 = []) := by show _ = _; obtain ⟨p, e0, pl⟩ := st; by_cases he : e0 = 0 <;> simp [stepR, he]
          go_wp2_with fail
          refine (fail_s st x2 _ rs1).mono ?_
          rintro e w4 ⟨rfl, r4, g4⟩
          go_wp2_with fail
          go_meet
          exact ⟨by rw [HS.out], r4, g4⟩
        have c4b : (x1 == 4) = false := beq_eq_false_iff_ne.2 c4
        have HS : Hid (stepR s.data.toList off (x1, x2) st = ([], st)) := by show _ = _; simp [stepR, c0, c1, c2, c3, c4]
        clear c0 c1 c2 c3 c4
        go_wp2_with fail
        go_meet
        exact ⟨by rw [HS.out], by rw [HS.out]; exact rs1, World.grownBy.refl _ _⟩
      case rest =>
        obtain ⟨rfl, r3, g3⟩ := hcut
        have glt := hrs.lt
        have a1 : Below wr.heap.size wr (wr.alloc (.cells #[.int .i64 x1, .int .i64 x2] 42)) := (Below.refl _ _).alloc (Nat.le_refl _) _
        have bel1 := hbel.alloc (by omega) (.cells #[.int .i64 x1, .int .i64 x2] 42)
        have bel3 := bel1.grown g3 (by have := a1.size; omega) (fun k h => by cases h; omega)
        have want3 : ∀ j, j < l.length → wc.cell? ⟨vg, j, none⟩ = some (.string ⟨(lineN s.data.toList off l j).toArray⟩) := fun j hj => g3.cell ((a1.cell (p := ⟨vg, j, none⟩) hvl).trans (HW.out j hj)) (by intro e; have e2 := Option.some.inj e; have e3 : vg = g := e2; omega)
        have nt3 := (hnt.below a1).kept g3 (by intro e; cases e; omega)
        have vlt3 : vg < wc.heap.size := Nat.lt_of_lt_of_le hvl (Nat.le_trans a1.size g3.size)
        have hle3 := stepR_le s.data.toList off (x1, x2) st (by rw [Array.length_toList]; exact hple)
        have hlen3 := stepR_len s.data.toList off (x1, x2) st (by rw [Array.length_toList]; exact hs) ho (by rw [Array.length_toList]; exact hple) hok
        have hTc : HasTab wc := by have q := bel3; rw [HB.out] at q; exact hT.below q
        clear hrs hx1 hx2 hple hok hnt a1 bel1 g3 hbel
        have k0 := want3 k hlt
        rw [HLN.out] at k0
        have HW3 := Lib.hid want3
        clear want3 HW
        generalize stepR s.data.toList off (x1, x2) st = rr at *
        obtain ⟨got, p3, e3, pl3⟩ := rr
        obtain ⟨f3, hr3, hf3⟩ := r3
        have hp3 : p3 ≤ s.size := by rw [Array.length_toList] at hle3; exact hle3
        have hg3 : got.length ≤ 200 := hlen3
        have r3d : Rd wc.drew g (s.extract p3 s.size) ((off : Int) + (p3 : Int)) f3 := hr3
        have hTd : HasTab wc.drew := hTc
        have HLeft : ∀ W, Rd W g (s.extract p3 s.size) ((off : Int) + (p3 : Int)) f3 → Calls Tryd.prog 22 #[.pointer (some ⟨g, 0, none⟩)] W fun e w' => e = .returned (.int .i64 ((s.size : Int) - (p3 : Int))) ∧ W = w' := by
          intro W hW
          refine (left_any _ hW).mono ?_
          rintro e w' ⟨rfl, rfl⟩
          have e1 := rest_size s p3 hp3
          exact ⟨by rw [e1, Int.ofNat_sub hp3], rfl⟩
        have HLe := Lib.hid HLeft
        clear HLeft
        have L1 := Lib.itoa_length_le ((s.size : Int) - (p3 : Int)) (by omega) (by omega)
        have L2 := Lib.itoa_length_le ((off : Int) + (p3 : Int)) (by omega) (by omega)
        obtain ⟨y1, hy1⟩ : ∃ y1, y1 = got ++ [124] := ⟨_, rfl⟩
        obtain ⟨y2, hy2⟩ : ∃ y2, y2 = y1 ++ Lib.itoa ((s.size : Int) - (p3 : Int)) := ⟨_, rfl⟩
        obtain ⟨y3, hy3⟩ : ∃ y3, y3 = y2 ++ [32] := ⟨_, rfl⟩
        obtain ⟨y4, hy4⟩ : ∃ y4, y4 = y3 ++ Lib.itoa ((off : Int) + (p3 : Int)) := ⟨_, rfl⟩
        have z1 : y1.length ≤ 201 := by rw [hy1, List.length_append]; show got.length + 1 ≤ 201; omega
        have z2 : y2.length ≤ 222 := by rw [hy2, List.length_append]; omega
        have z3 : y3.length ≤ 223 := by rw [hy3, List.length_append]; show y2.length + 1 ≤ 223; omega
        have d1 : ∀ W, (Op.stringOp .add ⟨got.toArray⟩ ⟨#[124]⟩).run Tryd.prog W = .ok (.string ⟨y1.toArray⟩) W := fun W => by rw [hy1]; exact run_string_add_lists W got [124] (by omega) (by decide)
        have d2 : ∀ W, (Op.stringOp .add ⟨y1.toArray⟩ ⟨(Lib.itoa ((s.size : Int) - (p3 : Int))).toArray⟩).run Tryd.prog W = .ok (.string ⟨y2.toArray⟩) W := fun W => by rw [hy2]; exact run_string_add_lists W y1 _ (by omega) (by omega)
        have d3 : ∀ W, (Op.stringOp .add ⟨y2.toArray⟩ ⟨#[32]⟩).run Tryd.prog W = .ok (.string ⟨y3.toArray⟩) W := fun W => by rw [hy3]; exact run_string_add_lists W y2 [32] (by omega) (by decide)
        have d4 : ∀ W, (Op.stringOp .add ⟨y3.toArray⟩ ⟨(Lib.itoa ((off : Int) + (p3 : Int))).toArray⟩).run Tryd.prog W = .ok (.string ⟨y4.toArray⟩) W := fun W => by rw [hy4]; exact run_string_add_lists W y3 _ (by omega) (by omega)
        have e1 : lineOf s.data.toList off (got, p3, e3, pl3) = y4 := by
          show got ++ [124] ++ Lib.itoa ((s.data.toList.length : Int) - (p3 : Int)) ++ [32] ++ Lib.itoa ((off : Int) + (p3 : Int)) = _
          rw [hy4, hy3, hy2, hy1, Array.length_toList]
          rfl
        rw [e1] at k0
        clear hle3 hlen3 hy1 hy2 hy3 hy4 z1 z2 z3 e1
        go_wp2
        go_region_held3 (fun w' => w'.cell? ⟨vg, k, none⟩ = some (.string ⟨y4.toArray⟩))
          (first
            | exact k6
            | exact k5
            | exact k0)
          (first
            | (go_at_call 22; (with_reducible refine (HLe.out _ r3d).mono ?_); rintro e w5 ⟨rfl, rfl⟩)
            | (go_at_call 16; (with_reducible refine (itoa_any ((s.size : Int) - (p3 : Int)) _ ?_ ?_ ?_).mono ?_); exact hTd; omega; omega; rintro e w5 ⟨rfl, b5⟩; have r5 := r3d.below b5; have k5 := (b5.cell (p := ⟨vg, k, none⟩) vlt3).trans k0)
            | (go_at_call 21; (with_reducible refine (at_any _ r5).mono ?_); rintro e w6 ⟨rfl, rfl⟩)
            | (go_at_call 16; (with_reducible refine (itoa_any ((off : Int) + (p3 : Int)) _ ?_ ?_ ?_).mono ?_); exact hTd.below b5; omega; omega; rintro e w6 ⟨rfl, b6⟩; have r6 := r5.below b6; have k6 := (b6.cell (p := ⟨vg, k, none⟩) (Nat.lt_of_lt_of_le vlt3 b5.size)).trans k5))
        clear d1 d2 d3 d4
        go_wp2
        have s5 : wc.heap.size ≤ w5.heap.size := b5.size
        have bt : Below wc.heap.size wc w6 := (show Below wc.heap.size wc w5 from ⟨b5.os, b5.tape, b5.output, b5.size, b5.block⟩).trans (b6.mono s5)
        have q1 := nt3.below bt
        have q2 : ∀ j, j < l.length → w6.cell? ⟨vg, j, none⟩ = some (.string ⟨(lineN s.data.toList off l j).toArray⟩) := fun j hj => (bt.cell (p := ⟨vg, j, none⟩) vlt3).trans (HW3.out j hj)
        have q3 := bel3.trans (bt.mono (show g ≤ wc.heap.size by have := HB.out; have := bel3.size; omega))
        go_roundw
        case rel => exact ⟨k + 1, by omega, by go_num, by rw [HST.out]; exact ⟨f3, r6, hf3.below bt⟩, q1, q2, Nat.lt_of_lt_of_le vlt3 bt.size, q3⟩
        case measure => simp [intOf]; omega
    · obtain rfl : k = l.length := by omega
      obtain ⟨f, hr, hf⟩ := hrs
      have hpl := stN_pl s.data.toList off l l.length
      generalize stN s.data.toList off l l.length = st at *
      obtain ⟨p, e0, pl⟩ := st
      have k0 : wr.cell? ⟨fp, 0, none⟩ = some (.int .i64 e0) := hnt.c0
      have k1 : wr.cell? ⟨fp, 1, none⟩ = some (.int .i64 pl) := hnt.c1
      have hrd : Rd wr.drew g (s.extract p s.size) ((off : Int) + (p : Int)) f := hr
      have hfd : Fs wr.drew e0 pl f := hf
      have hbd := hbel.drew
      have plt : fp < wr.drew.heap.size := hnt.lt
      have hEd : HasErr wr.drew := by have q := hbd; rw [HB.out] at q; exact hE.below q
      have gs : g ≤ wr.drew.heap.size := by have := HB.out; have := hbd.size; omega
      clear hwant hnt hr hf hbel
      by_cases he : e0 = 0
      · subst he
        have hpl' : pl = -1 := hpl rfl
        subst hpl'
        go_wp2
        go_region_held3 (fun w' => w'.cell? ⟨fp, 0, none⟩ = some (.int .i64 0) ∧ w'.cell? ⟨fp, 1, none⟩ = some (.int .i64 (-1)))
          (first
            | exact ⟨m0, m1⟩
            | exact ⟨k0, k1⟩)
          (first
            | (go_at_call 23; (with_reducible refine (err_z _ hrd hfd).mono ?_); rintro e w5 ⟨rfl, rfl⟩)
            | (go_at_call 26; (with_reducible refine (placed_z _).mono ?_); rintro e w6 ⟨rfl, b6⟩; have m0 := (b6.cell (p := ⟨fp, 0, none⟩) plt).trans k0; have m1 := (b6.cell (p := ⟨fp, 1, none⟩) plt).trans k1))
        go_wp2
        go_ret
        have bz := hbd.trans (b6.mono gs)
        rw [HB.out] at bz
        exact ⟨rfl, bz⟩
      · go_wp2
        go_region_held3 (fun w' => w'.cell? ⟨fp, 0, none⟩ = some (.int .i64 e0) ∧ w'.cell? ⟨fp, 1, none⟩ = some (.int .i64 pl))
          (first
            | exact ⟨n0, n1⟩
            | exact ⟨m0, m1⟩
            | exact ⟨k0, k1⟩)
          (first
            | (go_at_call 23; (with_reducible refine (err_e _ hrd hfd he).mono ?_); rintro e w5 ⟨q, rfl, q5, b5⟩; have m0 := (b5.cell (p := ⟨fp, 0, none⟩) plt).trans k0; have m1 := (b5.cell (p := ⟨fp, 1, none⟩) plt).trans k1; have hE5 := hEd.below b5)
            | (go_at_call 26; (with_reducible refine (placed_e q e0 pl _ hE5 q5).mono ?_); rintro e w6 ⟨rfl, b6⟩; have n0 := (b6.cell (p := ⟨fp, 0, none⟩) (Nat.lt_of_lt_of_le plt b5.size)).trans m0; have n1 := (b6.cell (p := ⟨fp, 1, none⟩) (Nat.lt_of_lt_of_le plt b5.size)).trans m1))
        go_wp2
        go_ret
        have bz := (hbd.trans (b5.mono gs)).trans (b6.mono (Nat.le_trans gs b5.size))
        rw [HB.out] at bz
        exact ⟨rfl, bz⟩

set_option maxHeartbeats 1600000 in
theorem none_ (s : ByteArray) (off : Nat) (v : Option Addr) (lc : Nat) (w : World) (hT : HasTab w) (hs : s.size ≤ 100) (ho : off ≤ 1099511627776) :
    Calls Tryd.prog 4 #[.string s, .int .i64 off, .slice v 0 lc] w fun e w' => e = .returned (.bool true) ∧ Below w.heap.size w w' := by
  have h1 : ¬ (100 : Int) < s.size := by omega
  have h3 : ¬ (off : Int) < 0 := by omega
  have h4 : ¬ (1099511627776 : Int) < off := by omega
  go_enter Tryd.func4, Tryd.ntmps4
  go_wp2_with fail
  refine (new_any _ _ _).mono ?_
  rintro e w2 ⟨rfl, rfl⟩
  have r2 := rd_new w s off none
  have hb2 : Below w.heap.size w _ := (Below.refl _ _).alloc (Nat.le_refl _) (.cells #[.string s, .int .i64 off, .pointer none] 66)
  generalize w.alloc (.cells #[.string s, .int .i64 off, .pointer none] 66) = w2 at *
  have hT2 := hT.below hb2
  clear h1 h3 h4
  go_wp2_with fail
  refine (reads_nil s off v lc _ hT2 hs ho).mono ?_
  rintro e w3 ⟨rfl, b3⟩
  have r3 := r2.below b3
  have hb3 := hb2.trans (b3.mono hb2.size)
  have bF : Below w3.heap.size w3 (w3.alloc (.cells #[.int .i64 0, .int .i64 (-1)] 38)) := (Below.refl _ _).alloc (Nat.le_refl _) _
  have n3 : Nt (w3.alloc (.cells #[.int .i64 0, .int .i64 (-1)] 38)) w3.heap.size 0 (-1) := heap_alloc_new w3 _
  have hb4 := hb3.trans (bF.mono hb3.size)
  have r4 := r3.below bF
  obtain ⟨g, hg⟩ : ∃ g, g = w.heap.size := ⟨_, rfl⟩
  rw [← hg] at r4 hb4
  rw [← hg]
  have gs : g ≤ (w3.alloc (.cells #[.int .i64 0, .int .i64 (-1)] 38)).heap.size := by have := hb4.size; omega
  clear r2 hb2 b3 r3 hb3 bF hT2
  have HB := Lib.hid hg
  clear hg
  go_wp2
  obtain ⟨fp, hfp⟩ : ∃ fp, fp = w3.heap.size := ⟨_, rfl⟩
  rw [← hfp] at n3
  rw [← hfp]
  generalize w3.alloc (.cells #[.int .i64 0, .int .i64 (-1)] 38) = w4 at *
  clear hfp
  have k0 : w4.cell? ⟨fp, 0, none⟩ = some (.int .i64 0) := n3.c0
  have k1 : w4.cell? ⟨fp, 1, none⟩ = some (.int .i64 (-1)) := n3.c1
  have hrd : Rd w4.drew g s off none := r4
  have hbd := hb4.drew
  have plt : fp < w4.drew.heap.size := n3.lt
  have gs : g ≤ w4.drew.heap.size := gs
  clear n3 r4 hb4
  refine wp_loop_rounds 1 ?_
  rw [rounds_succ]
  go_wp2
  go_region_held3 (fun w' => w'.cell? ⟨fp, 0, none⟩ = some (.int .i64 0) ∧ w'.cell? ⟨fp, 1, none⟩ = some (.int .i64 (-1)))
    (first
      | exact ⟨m0, m1⟩
      | exact ⟨k0, k1⟩)
    (first
      | (go_at_call 23; (with_reducible refine (err_none _ hrd).mono ?_); rintro e w5 ⟨rfl, rfl⟩)
      | (go_at_call 26; (with_reducible refine (placed_z _).mono ?_); rintro e w6 ⟨rfl, b6⟩; have m0 := (b6.cell (p := ⟨fp, 0, none⟩) plt).trans k0; have m1 := (b6.cell (p := ⟨fp, 1, none⟩) plt).trans k1))
  go_wp2
  go_ret
  have bz := hbd.trans (b6.mono gs)
  rw [HB.out] at bz
  exact ⟨rfl, bz⟩

/-- At every argument. -/
theorem walk (s : ByteArray) (o : Int) (l : List (Int × Int)) (v : Option Addr) (lb lo lc : Nat) (w : World) (hT : HasTab w) (hE : HasErr w) (hv : 0 < l.length → v = some ⟨lb, lo, none⟩ ∧ lb < w.heap.size ∧ ReadsAt w lb lo l) :
    Calls Tryd.prog 4 #[.string s, .int .i64 o, .slice v l.length lc] w fun e w' => e = .returned (.bool true) ∧ Below w.heap.size w w' := by
  by_cases h : 100 < s.size ∨ 30 < l.length ∨ o < 0 ∨ 1099511627776 < o
  · exact long s o v l.length lc w h
  · obtain ⟨off, rfl⟩ : ∃ off : Nat, o = off := ⟨o.toNat, by omega⟩
    by_cases h0 : 0 < l.length
    · obtain ⟨rfl, h1, h2⟩ := hv h0
      exact short s off l lb lo lc w hT hE (by omega) (by omega) (by omega) h0 h1 h2
    · have e0 : l.length = 0 := by omega
      rw [e0]
      exact none_ s off v lc w hT (by omega) (by omega)
end wireReads
end Go.Proofs.YtiikdmempgmlnaaDoor
