/- switchyardlaw.PrioReads returns true at every text, and changes nothing that was there. -/
import Derived.Test.YtceiiolpggolbaaDoorRefPrRead
import Derived.Test.YtceiiolpggolbaaDoorPlaced
import Derived.Test.YtceiiolpggolbaaDoorVeEq
namespace Go.Proofs.YtceiiolpggolbaaDoor.prioReads
open Go.RowKit
attribute [local go_sem ↓] Go.wp_at_zero Go.wp_at_succ
set_option linter.unusedSimpArgs false
set_option linter.unusedVariables false
set_option maxRecDepth 100000

def st0 : RSt := (0, 0, -1)
/-- The state behind both names. -/
def stE (l : List UInt8) : RSt := rpSt l 0 (rdBs l 0 st0)

theorem st_bad (l : List UInt8) (st : RSt) (h : ¬ st.2.1 = 0) : rpSt l 0 st = st := by
  have e1 : rdS1 l 0 st = st := by unfold rdS1; rw [tkN_bad l 0 st 2 true h]
  have e2 : rdN l 0 st = 0 := by unfold rdN; rw [tkN_bad l 0 st 2 true h]; rfl
  unfold rpSt
  rw [e1, e2, if_pos (by decide), flR_bad st 2 _ h]
theorem rd_bad (l : List UInt8) (st : RSt) (h : ¬ (rdS1 l 0 st).2.1 = 0) : rdBs l 0 st = rdS1 l 0 st := by
  unfold rdBs
  rw [tkN_bad l 0 _ 6 false h]
theorem go1 (l : List UInt8) (st : RSt) (h : st.2.1 = 0) (hn : st.1 + 2 ≤ l.length) : rdS1 l 0 st = (st.1 + 2, st.2) ∧ rdN l 0 st = beN ((l.drop st.1).take 2) := by
  have e := tkN_go l 0 st 2 true h hn (by simp)
  unfold rdS1 rdN
  rw [show ((2 : Int)) = ((2 : Nat) : Int) from rfl, e]
  exact ⟨rfl, rfl⟩
theorem miss1 (l : List UInt8) (st : RSt) (h : st.2.1 = 0) (hn : ¬ st.1 + 2 ≤ l.length) (hp : st.1 ≤ l.length) : rdS1 l 0 st = (st.1, 7, (st.1 : Int)) := by
  have e := tkN_miss l 0 st 2 true h hn hp (by simp)
  unfold rdS1
  rw [show ((2 : Int)) = ((2 : Nat) : Int) from rfl, e]
  simp
theorem go2 (l : List UInt8) (st : RSt) (h : (rdS1 l 0 st).2.1 = 0) (hn : (rdS1 l 0 st).1 + 6 ≤ l.length) : rdBs l 0 st = ((rdS1 l 0 st).1 + 6, (rdS1 l 0 st).2) ∧ rdA l 0 st = (l.drop (rdS1 l 0 st).1).take 6 := by
  have e := tkN_go l 0 (rdS1 l 0 st) 6 false h hn (by simp)
  unfold rdBs rdA
  rw [show ((6 : Int)) = ((6 : Nat) : Int) from rfl, e]
  exact ⟨rfl, rfl⟩
theorem miss2 (l : List UInt8) (st : RSt) (h : (rdS1 l 0 st).2.1 = 0) (hn : ¬ (rdS1 l 0 st).1 + 6 ≤ l.length) (hp : (rdS1 l 0 st).1 ≤ l.length) : rdBs l 0 st = ((rdS1 l 0 st).1, 7, ((rdS1 l 0 st).1 : Int)) := by
  have e := tkN_miss l 0 (rdS1 l 0 st) 6 false h hn hp (by simp)
  unfold rdBs
  rw [show ((6 : Int)) = ((6 : Nat) : Int) from rfl, e]
  simp

theorem ref_any (s : ByteArray) (hs : s.size ≤ 100) : ∃ (X Y : Array Value) (e pl : Int), X.size = 8 ∧ Y.size = 2 ∧ (Value.agg X).cells.toList.all (·.oneCell') = true ∧ (Value.agg Y).cells.toList.all (·.oneCell') = true ∧
    (∀ w, Calls Tryd.prog 20 #[.string s] w fun r w' => r = .returned (.tuple #[.agg X, .agg Y, .agg (ftC e pl)]) ∧ Below w.heap.size w w') ∧
    ((e = 0 ∧ pl = -1 ∧ (stE s.data.toList).2.1 = 0 ∧ X = brC (rdB s.data.toList 0 st0) ∧ Y = rpC s.data.toList 0 (rdBs s.data.toList 0 st0)) ∨ (e ≠ 0 ∧ (stE s.data.toList).2 = (e, pl))) := by
  have hls : s.data.toList.length = s.size := by simp
  by_cases h2 : 2 ≤ s.size
  · obtain ⟨a1, a2⟩ := go1 s.data.toList st0 rfl (by rw [hls]; exact h2)
    have a3 : (rdS1 s.data.toList 0 st0).2.1 = 0 := by rw [a1]; rfl
    have a4 : (rdS1 s.data.toList 0 st0).1 = 2 := by rw [a1]; rfl
    by_cases h8 : 8 ≤ s.size
    · obtain ⟨b1, b2⟩ := go2 s.data.toList st0 a3 (by rw [a4, hls]; omega)
      have b3 : (rdBs s.data.toList 0 st0).2.1 = 0 := by rw [b1]; exact a3
      have b4 : (rdBs s.data.toList 0 st0).1 = 8 := by rw [b1, a4]
      have b5 : (rdBs s.data.toList 0 st0).2 = (0, -1) := by rw [b1, a1]; rfl
      by_cases h10 : 10 ≤ s.size
      · obtain ⟨c1, c2⟩ := go1 s.data.toList (rdBs s.data.toList 0 st0) b3 (by rw [b4, hls]; omega)
        have c3 : rdN s.data.toList 0 (rdBs s.data.toList 0 st0) = beAt s 8 := by rw [c2, b4]; rfl
        by_cases hz : beAt s 8 % 4096 = 0
        · refine ⟨_, _, 2, 8, rfl, rfl, rfl, rfl, fun w => refPrRead_d s w (by omega) h10 hz, Or.inr ⟨by decide, ?_⟩⟩
          unfold stE rpSt
          rw [c3, if_pos hz, c1, b4, b5]
          rfl
        · refine ⟨_, _, 0, -1, rfl, rfl, rfl, rfl, fun w => refPrRead_e s w (by omega) h10 hz, Or.inl ⟨rfl, rfl, ?_, ?_, ?_⟩⟩
          · unfold stE rpSt
            rw [c3, if_neg hz, c1]
            exact b3
          · unfold rdB
            rw [if_pos b3, a2, b2, a4]
            rfl
          · unfold rpC
            rw [c3, if_neg hz]
            rfl
      · have c1 := miss1 s.data.toList (rdBs s.data.toList 0 st0) b3 (by rw [b4, hls]; omega) (by rw [b4, hls]; omega)
        refine ⟨_, _, 7, 8, rfl, rfl, rfl, rfl, fun w => refPrRead_c s w (by omega) h8 h10, Or.inr ⟨by decide, ?_⟩⟩
        have c2 : rdN s.data.toList 0 (rdBs s.data.toList 0 st0) = 0 := rdN_bad _ _ _ (by rw [c1]; simp)
        unfold stE rpSt
        rw [c2, if_pos (by decide), c1, flR_bad _ _ _ (by simp), b4]
        rfl
    · have b1 := miss2 s.data.toList st0 a3 (by rw [a4, hls]; omega) (by rw [a4, hls]; omega)
      refine ⟨_, _, 7, 2, rfl, rfl, rfl, rfl, fun w => refPrRead_b s w (by omega) h2 h8, Or.inr ⟨by decide, ?_⟩⟩
      unfold stE
      rw [b1, st_bad _ _ (by simp), a4]
      rfl
  · have a1 := miss1 s.data.toList st0 rfl (by rw [hls]; exact h2) (Nat.zero_le _)
    refine ⟨_, _, 7, 0, rfl, rfl, rfl, rfl, fun w => refPrRead_a s w (by omega) h2, Or.inr ⟨by decide, ?_⟩⟩
    unfold stE
    rw [rd_bad _ _ (by rw [a1]; simp), st_bad _ _ (by rw [a1]; simp), a1]
    rfl

/-- What is held against each other. -/
def Tr3 (w : World) (A D E : Nat) (X Y Z : Array Value) : Prop := Blk w A 25 X ∧ Blk w D 27 Y ∧ Blk w E 42 Z
theorem Tr3.kept {w w' : World} {A D E : Nat} {X Y Z : Array Value} (h : Tr3 w A D E X Y Z) (hb : Below w.heap.size w w') : Tr3 w' A D E X Y Z := ⟨h.1.kept hb, h.2.1.kept hb, h.2.2.kept hb⟩
theorem Tr3.al {w : World} {A D E : Nat} {X Y Z : Array Value} (h : Tr3 w A D E X Y Z) (o : Obj) : Tr3 (w.alloc o) A D E X Y Z := ⟨h.1.alloc _, h.2.1.alloc _, h.2.2.alloc _⟩
def Five (w : World) (A D E : Nat) (X Y Z X' Y' : Array Value) (c d : Nat) : Prop := Tr3 w A D E X Y Z ∧ Blk w c 25 X' ∧ Blk w d 27 Y'
theorem Five.kept {w w' : World} {A D E c d : Nat} {X Y Z X' Y' : Array Value} (h : Five w A D E X Y Z X' Y' c d) (hb : Below w.heap.size w w') : Five w' A D E X Y Z X' Y' c d := ⟨h.1.kept hb, h.2.1.kept hb, h.2.2.kept hb⟩
theorem Five.drew {w : World} {A D E c d : Nat} {X Y Z X' Y' : Array Value} (h : Five w A D E X Y Z X' Y' c d) : Five w.drew A D E X Y Z X' Y' c d := h
theorem tri_grown {w w' : World} {A D E g : Nat} {X Y Z : Array Value} (h : Tr3 w A D E X Y Z) (hg : w.grownBy w' (some g)) (h0 : A ≠ g) (h1 : D ≠ g) (h2 : E ≠ g) : Tr3 w' A D E X Y Z := ⟨h.1.grown hg (by simpa using h0), h.2.1.grown hg (by simpa using h1), h.2.2.grown hg (by simpa using h2)⟩

set_option maxHeartbeats 6400000 in
theorem walk (s : ByteArray) (w : World) (hE : HasErr w) :
    Calls Tryd.prog 4 #[.string s] w fun e w' => e = .returned (.bool true) ∧ Below w.heap.size w w' := by
  by_cases hs : s.size ≤ 100
  · have hgt : decide ((100 : Int) < (s.size : Int)) = false := decide_eq_false (by omega)
    obtain ⟨X, Y, e0, pl0, hX, hY, oX, oY, hcall, hspec⟩ := ref_any s hs
    have HC := Lib.hid hcall
    have HS := Lib.hid hspec
    have hls : s.data.toList.length = s.size := by simp
    have hp1 : (rdBs s.data.toList 0 st0).1 ≤ s.size := by have := rdBs_le s.data.toList 0 st0 (Nat.zero_le _); omega
    have HR1 : Hid (∀ {g : Nat} (W : World), RdT W g s 0 (0, 0, -1) → Calls Tryd.prog 22 #[.pointer (some ⟨g, 0, none⟩)] W fun e w' => e = .returned (.agg (brC (rdB s.data.toList 0 st0))) ∧ RdT w' g s 0 (rdBs s.data.toList 0 st0) ∧ W.grownBy w' (some g)) := fun W h => prRead_t (off := 0) st0 W h (Nat.zero_le _) (by omega)
    have HR2 : Hid (∀ {g : Nat} (W : World), RdT W g s 0 (rdBs s.data.toList 0 st0) → Calls Tryd.prog 23 #[.pointer (some ⟨g, 0, none⟩)] W fun e w' => e = .returned (.agg (rpC s.data.toList 0 (rdBs s.data.toList 0 st0))) ∧ RdT w' g s 0 (stE s.data.toList) ∧ W.grownBy w' (some g)) := fun W h => prReadPort_t (off := 0) (rdBs s.data.toList 0 st0) W h hp1 (by omega)
    have hX2 : (brC (rdB s.data.toList 0 st0)).size = 8 := rfl
    have hY2 : (rpC s.data.toList 0 (rdBs s.data.toList 0 st0)).size = 2 := by unfold rpC; split <;> rfl
    have oX2 : (Value.agg (brC (rdB s.data.toList 0 st0))).cells.toList.all (·.oneCell') = true := rfl
    have oY2 : (Value.agg (rpC s.data.toList 0 (rdBs s.data.toList 0 st0))).cells.toList.all (·.oneCell') = true := by unfold rpC; split <;> rfl
    have hBr : ∀ W, (Op.equalIn 10000 25 (.agg (brC (rdB s.data.toList 0 st0))) (.agg (brC (rdB s.data.toList 0 st0)))).run Tryd.prog W = .ok true W := fun W => by
      have h := run_eql_br 9997 (rdB s.data.toList 0 st0) (rdB s.data.toList 0 st0) W
      rw [eqB_refl] at h
      exact h
    have hPt : ∀ W, (Op.equalIn 10000 27 (.agg (rpC s.data.toList 0 (rdBs s.data.toList 0 st0))) (.agg (rpC s.data.toList 0 (rdBs s.data.toList 0 st0)))).run Tryd.prog W = .ok true W := fun W => by
      have key : ∀ p n : Int, (Op.equalIn 10000 27 (.agg (ptC p n)) (.agg (ptC p n))).run Tryd.prog W = .ok true W := fun p n => by
        have h := run_eql_pt 9997 ⟨p, n⟩ ⟨p, n⟩ W
        have e : eqP ⟨p, n⟩ ⟨p, n⟩ = true := by simp [eqP]
        rw [e] at h
        exact h
      unfold rpC
      split <;> exact key _ _
    have HBr := Lib.hid hBr
    have HPt := Lib.hid hPt
    clear hcall hspec hp1 hls hBr hPt
    generalize brC (rdB s.data.toList 0 st0) = X2 at *
    generalize rpC s.data.toList 0 (rdBs s.data.toList 0 st0) = Y2 at *
    generalize rdBs s.data.toList 0 st0 = s1 at *
    generalize stE s.data.toList = s2 at *
    have B00 := Below.refl w.heap.size w
    have hcs : (e0 = 0 ∧ pl0 = -1 ∧ s2.2.1 = 0 ∧ X = X2 ∧ Y = Y2) ∨ (e0 ≠ 0 ∧ s2.2 = (e0, pl0)) := HS.out
    clear HS
    rcases hcs with ⟨rfl, rfl, h0, rfl, rfl⟩ | ⟨hne, hs2⟩
    · skip
      go_enter Tryd.func4, Tryd.ntmps4
      go_wp2_with fail
      refine (HC.out _).mono ?_
      rintro e w1 ⟨rfl, k1⟩
      have F1 : Tr3 (((w1.alloc (.cells (brC zBr) 25)).alloc (.cells (ptC 0 0) 27)).alloc (.cells (ftC 0 0) 42)) w1.heap.size (w1.alloc (.cells (brC zBr) 25)).heap.size ((w1.alloc (.cells (brC zBr) 25)).alloc (.cells (ptC 0 0) 27)).heap.size (brC zBr) (ptC 0 0) (ftC 0 0) :=
        ⟨((Blk.new w1 _ _).alloc _).alloc _, (Blk.new _ _ _).alloc _, Blk.new _ _ _⟩
      have B1 : Below w.heap.size w (((w1.alloc (.cells (brC zBr) 25)).alloc (.cells (ptC 0 0) 27)).alloc (.cells (ftC 0 0) 42)) :=
        ((k1.alloc k1.size _).alloc (by have := k1.size; simp; omega) _).alloc (by have := k1.size; simp; omega) _
      have hs1 := k1.size
      go_wp2_with (first
        | (refine alloc_blk 25 (brC zBr) (by rfl) rfl Tryd.brZero ?_)
        | (refine alloc_blk 27 (ptC 0 0) (by rfl) rfl Tryd.ptZero ?_)
        | (refine alloc_blk 42 (ftC 0 0) (by rfl) rfl Tryd.ftZero ?_)
        | (refine store_blk (k := 0) 25 (.agg X) X (by rfl) rfl rfl rfl F1.1 (by rw [show (Value.agg X).cells = X from rfl, hX]; kernel_rfl) (by show 0 + X.toList.length ≤ 8; simp; omega) (oX) (st_whole _ _ hX.symm) ?_; intro wa Aa ba ga; have Fa : Tr3 wa w1.heap.size (w1.alloc (.cells (brC zBr) 25)).heap.size ((w1.alloc (.cells (brC zBr) 25)).alloc (.cells (ptC 0 0) 27)).heap.size X (ptC 0 0) (ftC 0 0) := ⟨Aa, F1.2.1.grown ga (by simp <;> omega), F1.2.2.grown ga (by simp <;> omega)⟩; have Ba := grown_belowA B1 ga B1.size (by omega))
        | (refine store_blk (k := 0) 27 (.agg Y) Y (by rfl) rfl rfl rfl Fa.2.1 (by rw [show (Value.agg Y).cells = Y from rfl, hY]; kernel_rfl) (by show 0 + Y.toList.length ≤ 2; simp; omega) (oY) (st_whole _ _ hY.symm) ?_; intro wb Ab bb gb; have Fb : Tr3 wb w1.heap.size (w1.alloc (.cells (brC zBr) 25)).heap.size ((w1.alloc (.cells (brC zBr) 25)).alloc (.cells (ptC 0 0) 27)).heap.size X Y (ftC 0 0) := ⟨Fa.1.grown gb (by simp <;> omega), Ab, Fa.2.2.grown gb (by simp <;> omega)⟩; have Bb := grown_belowA Ba gb Ba.size (by first | omega | (simp <;> omega)))
        | (refine store_blk (k := 0) 42 (.agg (ftC 0 (-1))) (ftC 0 (-1)) (by rfl) rfl rfl rfl Fb.2.2 (by kernel_rfl) (by exact Nat.le_refl 2) rfl rfl ?_; intro wc Ac bc gc; have Fc : Tr3 wc w1.heap.size (w1.alloc (.cells (brC zBr) 25)).heap.size ((w1.alloc (.cells (brC zBr) 25)).alloc (.cells (ptC 0 0) 27)).heap.size X Y (ftC 0 (-1)) := ⟨Fb.1.grown gc (by simp <;> omega), Fb.2.1.grown gc (by simp <;> omega), Ac⟩; have Bc := grown_belowA Bb gc Bb.size (by first | omega | (simp <;> omega))))
      clear F1 B1 Aa ba ga Fa Ba Ab bb gb Fb Bb Ac bc gc
      have lD : (w1.alloc (.cells (brC zBr) 25)).heap.size = w1.heap.size + 1 := by simp
      have lE : ((w1.alloc (.cells (brC zBr) 25)).alloc (.cells (ptC 0 0) 27)).heap.size = w1.heap.size + 1 + 1 := by simp
      rw [lD, lE] at Fc
      clear lD lE
      generalize w1.heap.size = n at *
      refine (new_t s 0 _).mono ?_
      rintro e w3 ⟨rfl, H3, k3⟩
      have F3 := Fc.kept k3
      have B3 := Bc.trans (k3.mono Bc.size)
      have hn3 : n + 1 + 1 < wc.heap.size := Fc.2.2.lt
      clear Fc Bc k3 k1
      generalize wc.heap.size = g at *
      go_wp2_with fail
      refine (HR1.out _ H3).mono ?_
      rintro e w4 ⟨rfl, H4, g4⟩
      have F4 := tri_grown F3 g4 (by omega) (by omega) (by omega)
      have B4 := grown_belowA B3 g4 B3.size (by omega)
      have lg : g < w3.heap.size := H3.lt
      have lg4 : w3.heap.size ≤ w4.heap.size := g4.size
      clear F3 B3 H3 g4
      go_wp2_with (first
        | (refine alloc_blk 25 (brC zBr) (by rfl) rfl Tryd.brZero ?_)
        | (refine store_blk (k := 0) 25 (.agg X) X (by rfl) rfl rfl rfl (Blk.new w4 _ _) (by rw [show (Value.agg X).cells = X from rfl, hX]; kernel_rfl) (by show 0 + X.toList.length ≤ 8; simp; omega) (oX) (st_whole _ _ hX.symm) ?_; intro w5 A5 b5 g5; have F5 := tri_grown (F4.al (.cells (brC zBr) 25)) g5 (by omega) (by omega) (by omega); have H5 := (H4.al (.cells (brC zBr) 25)).other (Blk.new w4 _ _) (by decide) (by decide) g5; have B5 := grown_belowA (B4.alloc B4.size (.cells (brC zBr) 25)) g5 (by have := B4.size; simp; omega) B4.size))
      clear F4 B4 H4 b5 g5
      generalize w4.heap.size = c at *
      refine (HR2.out _ H5).mono ?_
      rintro e w6 ⟨rfl, H6, g6⟩
      have F6 := tri_grown F5 g6 (by omega) (by omega) (by omega)
      have A6 := A5.grown g6 (by simp; omega)
      have B6 := grown_belowA B5 g6 B5.size (by omega)
      have lc : c < w5.heap.size := A5.lt
      have lc6 : w5.heap.size ≤ w6.heap.size := g6.size
      clear F5 A5 B5 H5 g6
      go_upto_region 9 with (first
        | (refine alloc_blk 27 (ptC 0 0) (by rfl) rfl Tryd.ptZero ?_)
        | (refine store_blk (k := 0) 27 (.agg Y) Y (by rfl) rfl rfl rfl (Blk.new w6 _ _) (by rw [show (Value.agg Y).cells = Y from rfl, hY]; kernel_rfl) (by show 0 + Y.toList.length ≤ 2; simp; omega) (oY) (st_whole _ _ hY.symm) ?_; intro w7 D7 b7 g7; have F7 := tri_grown (F6.al (.cells (ptC 0 0) 27)) g7 (by omega) (by omega) (by omega); have A7 := (A6.alloc (.cells (ptC 0 0) 27)).grown g7 (by simp; omega); have H7 := (H6.al (.cells (ptC 0 0) 27)).other (Blk.new w6 _ _) (by decide) (by decide) g7; have B7 := grown_belowA (B6.alloc B6.size (.cells (ptC 0 0) 27)) g7 (by have := B6.size; simp; omega) B6.size))
      (try simp only [Act.put, List.setIfInBounds_toArray, List.set_cons_zero, List.set_cons_succ])
      have V7 : Five w7 n (n + 1) (n + 1 + 1) X Y (ftC 0 (-1)) X Y c w6.heap.size := ⟨F7, A7, D7⟩
      clear F6 A6 B6 H6 b7 g7 F7 A7 D7
      generalize w6.heap.size = d at *
      refine wp_region_noPanic ?_
      refine wp_region_held_drew (S := (fun w' => Five w' n (n + 1) (n + 1 + 1) X Y (ftC 0 (-1)) X Y c d)) (by kernel_rfl) ?_ (fun hHeld => ?_)
      · exact V7
      refine wpAnyH_take (i := 0) (v := ?_) rfl (by kernel_rfl) (by kernel_rfl) (by kernel_rfl) (fun _ _ _ h => h) (Or.inl ⟨by rfl, ?_⟩) (by assumption) ?_
      rotate_left
      · (intro w hSw; (try dsimp only at hSw); go_simp; (try with_reducible rfl))
      (try simp only [Act.put, List.getElem_toArray, List.getElem_cons_zero, List.getElem_cons_succ, List.setIfInBounds_toArray, List.set_cons_zero, List.set_cons_succ])
      refine wpAnyH_take (i := 2) (v := .agg ((ftC 0 (-1)))) rfl (by kernel_rfl) (by kernel_rfl) (by kernel_rfl) (fun _ _ _ h => h) (Or.inl ⟨by rfl, fun w hSw => exec_load_blk (k := 0) 42 ((ftC 0 (-1))) rfl rfl hSw.1.2.2 (by kernel_rfl) (by kernel_rfl) rfl⟩) (by assumption) ?_
      (try simp only [Act.put, List.getElem_toArray, List.getElem_cons_zero, List.getElem_cons_succ, List.setIfInBounds_toArray, List.set_cons_zero, List.set_cons_succ])
      refine wpAnyH_ready (rs := [1]) (by kernel_rfl) (by simp) ?_
      refine AllReadyH.cons rfl (fun K hK => ?_) AllReadyH.nil
      simp only [List.getElem_toArray, List.getElem_cons_zero, List.getElem_cons_succ]
      go_simp
      with_reducible refine (err_ok s2 _ H7.drew h0).mono ?_
      rintro e w8 ⟨rfl, rfl⟩
      refine hK.out _ _ ?_ (fun hHeld => ?_)
      · exact V7
      clear hK K
      (try simp only [Act.put, List.getElem_toArray, List.getElem_cons_zero, List.getElem_cons_succ, List.setIfInBounds_toArray, List.set_cons_zero, List.set_cons_succ])
      refine wpAnyH_ready (rs := [3]) (by kernel_rfl) (by simp) ?_
      refine AllReadyH.cons rfl (fun K hK => ?_) AllReadyH.nil
      simp only [List.getElem_toArray, List.getElem_cons_zero, List.getElem_cons_succ]
      go_simp
      with_reducible refine (placed_any _ 0 (-1) _ (hE.below B7.drew) ErrAs.nil).mono ?_
      rintro e w9 ⟨rfl, k9⟩
      have V9 := V7.drew.kept k9
      have B9 := B7.drew.trans (k9.mono B7.size)
      refine hK.out _ _ ?_ (fun hHeld => ?_)
      · exact V9
      clear hK K
      (try simp only [Act.put, List.getElem_toArray, List.getElem_cons_zero, List.getElem_cons_succ, List.setIfInBounds_toArray, List.set_cons_zero, List.set_cons_succ])
      refine wpAnyH_take (i := 4) (v := ?_) rfl (by kernel_rfl) (by kernel_rfl) (by kernel_rfl) (fun _ _ _ h => h) (Or.inl ⟨by rfl, ?_⟩) (by assumption) ?_
      rotate_left
      · (intro w hSw; (try dsimp only at hSw); go_simp; (try with_reducible rfl))
      (try simp only [Act.put, List.getElem_toArray, List.getElem_cons_zero, List.getElem_cons_succ, List.setIfInBounds_toArray, List.set_cons_zero, List.set_cons_succ])
      refine wpAnyH_take (i := 5) (v := .agg ((ftC 0 (-1)))) rfl (by kernel_rfl) (by kernel_rfl) (by kernel_rfl) (fun _ _ _ h => h) (Or.inl ⟨by rfl, fun w hSw => exec_load_blk (k := 0) 42 ((ftC 0 (-1))) rfl rfl hSw.1.2.2 (by kernel_rfl) (by kernel_rfl) rfl⟩) (by assumption) ?_
      (try simp only [Act.put, List.getElem_toArray, List.getElem_cons_zero, List.getElem_cons_succ, List.setIfInBounds_toArray, List.set_cons_zero, List.set_cons_succ])
      refine wpAnyH_ready (rs := [6]) (by kernel_rfl) (by simp) ?_
      refine AllReadyH.cons rfl (fun K hK => ?_) AllReadyH.nil
      simp only [List.getElem_toArray, List.getElem_cons_zero, List.getElem_cons_succ]
      go_simp
      with_reducible refine (is_any 0 (-1) _).mono ?_
      rintro e w10 ⟨rfl, k10⟩
      have V10 := V9.kept k10
      have B10 := B9.trans (k10.mono B9.size)
      refine hK.out _ _ ?_ (fun hHeld => ?_)
      · exact V10
      clear hK K
      (try simp only [Act.put, List.getElem_toArray, List.getElem_cons_zero, List.getElem_cons_succ, List.setIfInBounds_toArray, List.set_cons_zero, List.set_cons_succ])
      refine wpAnyH_take (i := 7) (v := ?_) rfl (by kernel_rfl) (by kernel_rfl) (by kernel_rfl) (fun _ _ _ h => h) (Or.inl ⟨by rfl, ?_⟩) (by assumption) ?_
      rotate_left
      · (intro w hSw; (try dsimp only at hSw); go_simp; (try with_reducible rfl))
      (try simp only [Act.put, List.getElem_toArray, List.getElem_cons_zero, List.getElem_cons_succ, List.setIfInBounds_toArray, List.set_cons_zero, List.set_cons_succ])
      refine wpAnyH_take (i := 8) (v := ?_) rfl (by kernel_rfl) (by kernel_rfl) (by kernel_rfl) (fun _ _ _ h => h) (Or.inl ⟨by rfl, ?_⟩) (by assumption) ?_
      rotate_left
      · (intro w hSw; (try dsimp only at hSw); go_simp; (try with_reducible rfl))
      (try simp only [Act.put, List.getElem_toArray, List.getElem_cons_zero, List.getElem_cons_succ, List.setIfInBounds_toArray, List.set_cons_zero, List.set_cons_succ])
      refine wpAnyH_take (i := 9) (v := .agg X) rfl (by kernel_rfl) (by kernel_rfl) (by kernel_rfl) (fun _ _ _ h => h) (Or.inl ⟨by rfl, fun w hSw => exec_load_blk (k := 0) 25 X rfl rfl hSw.2.1 (by kernel_rfl) (by rw [hX]; kernel_rfl) (by rw [List.drop_zero]; exact List.take_of_length_le (by simp))⟩) (by assumption) ?_
      (try simp only [Act.put, List.getElem_toArray, List.getElem_cons_zero, List.getElem_cons_succ, List.setIfInBounds_toArray, List.set_cons_zero, List.set_cons_succ])
      refine wpAnyH_take (i := 10) (v := .agg X) rfl (by kernel_rfl) (by kernel_rfl) (by kernel_rfl) (fun _ _ _ h => h) (Or.inl ⟨by rfl, fun w hSw => exec_load_blk (k := 0) 25 X rfl rfl hSw.1.1 (by kernel_rfl) (by rw [hX]; kernel_rfl) (by rw [List.drop_zero]; exact List.take_of_length_le (by simp))⟩) (by assumption) ?_
      (try simp only [Act.put, List.getElem_toArray, List.getElem_cons_zero, List.getElem_cons_succ, List.setIfInBounds_toArray, List.set_cons_zero, List.set_cons_succ])
      refine wpAnyH_take (i := 11) (v := .bool true) rfl (by kernel_rfl) (by kernel_rfl) (by kernel_rfl) (fun _ _ _ h => h) (Or.inl ⟨by rfl, fun w hSw => exec_eq_agg .eql 25 X X true rfl (Or.inl rfl) rfl rfl (by kernel_rfl) (HBr.out _)⟩) (by assumption) ?_
      (try simp only [Act.put, List.getElem_toArray, List.getElem_cons_zero, List.getElem_cons_succ, List.setIfInBounds_toArray, List.set_cons_zero, List.set_cons_succ])
      refine wpAnyH_take (i := 12) (v := ?_) rfl (by kernel_rfl) (by kernel_rfl) (by kernel_rfl) (fun _ _ _ h => h) (Or.inl ⟨by rfl, ?_⟩) (by assumption) ?_
      rotate_left
      · (intro w hSw; (try dsimp only at hSw); go_simp; (try with_reducible rfl))
      (try simp only [Act.put, List.getElem_toArray, List.getElem_cons_zero, List.getElem_cons_succ, List.setIfInBounds_toArray, List.set_cons_zero, List.set_cons_succ])
      refine wpAnyH_take (i := 13) (v := .agg Y) rfl (by kernel_rfl) (by kernel_rfl) (by kernel_rfl) (fun _ _ _ h => h) (Or.inl ⟨by rfl, fun w hSw => exec_load_blk (k := 0) 27 Y rfl rfl hSw.2.2 (by kernel_rfl) (by rw [hY]; kernel_rfl) (by rw [List.drop_zero]; exact List.take_of_length_le (by simp))⟩) (by assumption) ?_
      (try simp only [Act.put, List.getElem_toArray, List.getElem_cons_zero, List.getElem_cons_succ, List.setIfInBounds_toArray, List.set_cons_zero, List.set_cons_succ])
      refine wpAnyH_take (i := 14) (v := .agg Y) rfl (by kernel_rfl) (by kernel_rfl) (by kernel_rfl) (fun _ _ _ h => h) (Or.inl ⟨by rfl, fun w hSw => exec_load_blk (k := 0) 27 Y rfl rfl hSw.1.2.1 (by kernel_rfl) (by rw [hY]; kernel_rfl) (by rw [List.drop_zero]; exact List.take_of_length_le (by simp))⟩) (by assumption) ?_
      (try simp only [Act.put, List.getElem_toArray, List.getElem_cons_zero, List.getElem_cons_succ, List.setIfInBounds_toArray, List.set_cons_zero, List.set_cons_succ])
      refine wpAnyH_take (i := 15) (v := .bool true) rfl (by kernel_rfl) (by kernel_rfl) (by kernel_rfl) (fun _ _ _ h => h) (Or.inl ⟨by rfl, fun w hSw => exec_eq_agg .eql 27 Y Y true rfl (Or.inl rfl) rfl rfl (by kernel_rfl) (HPt.out _)⟩) (by assumption) ?_
      (try simp only [Act.put, List.getElem_toArray, List.getElem_cons_zero, List.getElem_cons_succ, List.setIfInBounds_toArray, List.set_cons_zero, List.set_cons_succ])
      refine wpAnyH_take (i := 16) (v := ?_) rfl (by kernel_rfl) (by kernel_rfl) (by kernel_rfl) (fun _ _ _ h => h) (Or.inl ⟨by rfl, ?_⟩) (by assumption) ?_
      rotate_left
      · (intro w hSw; (try dsimp only at hSw); go_simp; (try with_reducible rfl))
      (try simp only [Act.put, List.getElem_toArray, List.getElem_cons_zero, List.getElem_cons_succ, List.setIfInBounds_toArray, List.set_cons_zero, List.set_cons_succ])
      refine wpAnyH_take (i := 17) (v := ?_) rfl (by kernel_rfl) (by kernel_rfl) (by kernel_rfl) (fun _ _ _ h => h) (Or.inl ⟨by rfl, ?_⟩) (by assumption) ?_
      rotate_left
      · (intro w hSw; (try dsimp only at hSw); go_simp; (try with_reducible rfl))
      (try simp only [Act.put, List.getElem_toArray, List.getElem_cons_zero, List.getElem_cons_succ, List.setIfInBounds_toArray, List.set_cons_zero, List.set_cons_succ])
      refine wpAnyH_take (i := 18) (v := ?_) rfl (by kernel_rfl) (by kernel_rfl) (by kernel_rfl) (fun _ _ _ h => h) (Or.inl ⟨by rfl, ?_⟩) (by assumption) ?_
      rotate_left
      · (intro w hSw; (try dsimp only at hSw); go_simp; (try with_reducible rfl))
      (try simp only [Act.put, List.getElem_toArray, List.getElem_cons_zero, List.getElem_cons_succ, List.setIfInBounds_toArray, List.set_cons_zero, List.set_cons_succ])
      refine wpAnyH_take (i := 19) (v := ?_) rfl (by kernel_rfl) (by kernel_rfl) (by kernel_rfl) (fun _ _ _ h => h) (Or.inl ⟨by rfl, ?_⟩) (by assumption) ?_
      rotate_left
      · (intro w hSw; (try dsimp only at hSw); go_simp; (try with_reducible rfl))
      (try simp only [Act.put, List.getElem_toArray, List.getElem_cons_zero, List.getElem_cons_succ, List.setIfInBounds_toArray, List.set_cons_zero, List.set_cons_succ])
      refine wpAnyH_done (by kernel_rfl) ?_ _
      refine NoPanic.normal ?_
      go_wp2
      go_ret
      exact ⟨rfl, B10⟩
    · have h0 : s2.2.1 ≠ 0 := by rw [hs2]; exact hne
      have hz : (e0 == 0) = false := by simpa using hne
      go_enter Tryd.func4, Tryd.ntmps4
      go_wp2_with fail
      refine (HC.out _).mono ?_
      rintro e w1 ⟨rfl, k1⟩
      have F1 : Tr3 (((w1.alloc (.cells (brC zBr) 25)).alloc (.cells (ptC 0 0) 27)).alloc (.cells (ftC 0 0) 42)) w1.heap.size (w1.alloc (.cells (brC zBr) 25)).heap.size ((w1.alloc (.cells (brC zBr) 25)).alloc (.cells (ptC 0 0) 27)).heap.size (brC zBr) (ptC 0 0) (ftC 0 0) :=
        ⟨((Blk.new w1 _ _).alloc _).alloc _, (Blk.new _ _ _).alloc _, Blk.new _ _ _⟩
      have B1 : Below w.heap.size w (((w1.alloc (.cells (brC zBr) 25)).alloc (.cells (ptC 0 0) 27)).alloc (.cells (ftC 0 0) 42)) :=
        ((k1.alloc k1.size _).alloc (by have := k1.size; simp; omega) _).alloc (by have := k1.size; simp; omega) _
      have hs1 := k1.size
      go_wp2_with (first
        | (refine alloc_blk 25 (brC zBr) (by rfl) rfl Tryd.brZero ?_)
        | (refine alloc_blk 27 (ptC 0 0) (by rfl) rfl Tryd.ptZero ?_)
        | (refine alloc_blk 42 (ftC 0 0) (by rfl) rfl Tryd.ftZero ?_)
        | (refine store_blk (k := 0) 25 (.agg X) X (by rfl) rfl rfl rfl F1.1 (by rw [show (Value.agg X).cells = X from rfl, hX]; kernel_rfl) (by show 0 + X.toList.length ≤ 8; simp; omega) (oX) (st_whole _ _ hX.symm) ?_; intro wa Aa ba ga; have Fa : Tr3 wa w1.heap.size (w1.alloc (.cells (brC zBr) 25)).heap.size ((w1.alloc (.cells (brC zBr) 25)).alloc (.cells (ptC 0 0) 27)).heap.size X (ptC 0 0) (ftC 0 0) := ⟨Aa, F1.2.1.grown ga (by simp <;> omega), F1.2.2.grown ga (by simp <;> omega)⟩; have Ba := grown_belowA B1 ga B1.size (by omega))
        | (refine store_blk (k := 0) 27 (.agg Y) Y (by rfl) rfl rfl rfl Fa.2.1 (by rw [show (Value.agg Y).cells = Y from rfl, hY]; kernel_rfl) (by show 0 + Y.toList.length ≤ 2; simp; omega) (oY) (st_whole _ _ hY.symm) ?_; intro wb Ab bb gb; have Fb : Tr3 wb w1.heap.size (w1.alloc (.cells (brC zBr) 25)).heap.size ((w1.alloc (.cells (brC zBr) 25)).alloc (.cells (ptC 0 0) 27)).heap.size X Y (ftC 0 0) := ⟨Fa.1.grown gb (by simp <;> omega), Ab, Fa.2.2.grown gb (by simp <;> omega)⟩; have Bb := grown_belowA Ba gb Ba.size (by first | omega | (simp <;> omega)))
        | (refine store_blk (k := 0) 42 (.agg (ftC e0 pl0)) (ftC e0 pl0) (by rfl) rfl rfl rfl Fb.2.2 (by kernel_rfl) (by exact Nat.le_refl 2) rfl rfl ?_; intro wc Ac bc gc; have Fc : Tr3 wc w1.heap.size (w1.alloc (.cells (brC zBr) 25)).heap.size ((w1.alloc (.cells (brC zBr) 25)).alloc (.cells (ptC 0 0) 27)).heap.size X Y (ftC e0 pl0) := ⟨Fb.1.grown gc (by simp <;> omega), Fb.2.1.grown gc (by simp <;> omega), Ac⟩; have Bc := grown_belowA Bb gc Bb.size (by first | omega | (simp <;> omega))))
      clear F1 B1 Aa ba ga Fa Ba Ab bb gb Fb Bb Ac bc gc
      have lD : (w1.alloc (.cells (brC zBr) 25)).heap.size = w1.heap.size + 1 := by simp
      have lE : ((w1.alloc (.cells (brC zBr) 25)).alloc (.cells (ptC 0 0) 27)).heap.size = w1.heap.size + 1 + 1 := by simp
      rw [lD, lE] at Fc
      clear lD lE
      generalize w1.heap.size = n at *
      refine (new_t s 0 _).mono ?_
      rintro e w3 ⟨rfl, H3, k3⟩
      have F3 := Fc.kept k3
      have B3 := Bc.trans (k3.mono Bc.size)
      have hn3 : n + 1 + 1 < wc.heap.size := Fc.2.2.lt
      clear Fc Bc k3 k1
      generalize wc.heap.size = g at *
      go_wp2_with fail
      refine (HR1.out _ H3).mono ?_
      rintro e w4 ⟨rfl, H4, g4⟩
      have F4 := tri_grown F3 g4 (by omega) (by omega) (by omega)
      have B4 := grown_belowA B3 g4 B3.size (by omega)
      have lg : g < w3.heap.size := H3.lt
      have lg4 : w3.heap.size ≤ w4.heap.size := g4.size
      clear F3 B3 H3 g4
      go_wp2_with (first
        | (refine alloc_blk 25 (brC zBr) (by rfl) rfl Tryd.brZero ?_)
        | (refine store_blk (k := 0) 25 (.agg X2) X2 (by rfl) rfl rfl rfl (Blk.new w4 _ _) (by rw [show (Value.agg X2).cells = X2 from rfl, hX2]; kernel_rfl) (by show 0 + X2.toList.length ≤ 8; simp; omega) (oX2) (st_whole _ _ hX2.symm) ?_; intro w5 A5 b5 g5; have F5 := tri_grown (F4.al (.cells (brC zBr) 25)) g5 (by omega) (by omega) (by omega); have H5 := (H4.al (.cells (brC zBr) 25)).other (Blk.new w4 _ _) (by decide) (by decide) g5; have B5 := grown_belowA (B4.alloc B4.size (.cells (brC zBr) 25)) g5 (by have := B4.size; simp; omega) B4.size))
      clear F4 B4 H4 b5 g5
      generalize w4.heap.size = c at *
      refine (HR2.out _ H5).mono ?_
      rintro e w6 ⟨rfl, H6, g6⟩
      have F6 := tri_grown F5 g6 (by omega) (by omega) (by omega)
      have A6 := A5.grown g6 (by simp; omega)
      have B6 := grown_belowA B5 g6 B5.size (by omega)
      have lc : c < w5.heap.size := A5.lt
      have lc6 : w5.heap.size ≤ w6.heap.size := g6.size
      clear F5 A5 B5 H5 g6
      go_upto_region 9 with (first
        | (refine alloc_blk 27 (ptC 0 0) (by rfl) rfl Tryd.ptZero ?_)
        | (refine store_blk (k := 0) 27 (.agg Y2) Y2 (by rfl) rfl rfl rfl (Blk.new w6 _ _) (by rw [show (Value.agg Y2).cells = Y2 from rfl, hY2]; kernel_rfl) (by show 0 + Y2.toList.length ≤ 2; simp; omega) (oY2) (st_whole _ _ hY2.symm) ?_; intro w7 D7 b7 g7; have F7 := tri_grown (F6.al (.cells (ptC 0 0) 27)) g7 (by omega) (by omega) (by omega); have A7 := (A6.alloc (.cells (ptC 0 0) 27)).grown g7 (by simp; omega); have H7 := (H6.al (.cells (ptC 0 0) 27)).other (Blk.new w6 _ _) (by decide) (by decide) g7; have B7 := grown_belowA (B6.alloc B6.size (.cells (ptC 0 0) 27)) g7 (by have := B6.size; simp; omega) B6.size))
      (try simp only [Act.put, List.setIfInBounds_toArray, List.set_cons_zero, List.set_cons_succ])
      have V7 : Five w7 n (n + 1) (n + 1 + 1) X Y (ftC e0 pl0) X2 Y2 c w6.heap.size := ⟨F7, A7, D7⟩
      clear F6 A6 B6 H6 b7 g7 F7 A7 D7
      generalize w6.heap.size = d at *
      refine wp_region_noPanic ?_
      refine wp_region_held_drew (S := (fun w' => Five w' n (n + 1) (n + 1 + 1) X Y (ftC e0 pl0) X2 Y2 c d)) (by kernel_rfl) ?_ (fun hHeld => ?_)
      · exact V7
      refine wpAnyH_take (i := 0) (v := ?_) rfl (by kernel_rfl) (by kernel_rfl) (by kernel_rfl) (fun _ _ _ h => h) (Or.inl ⟨by rfl, ?_⟩) (by assumption) ?_
      rotate_left
      · (intro w hSw; (try dsimp only at hSw); go_simp; (try with_reducible rfl))
      (try simp only [Act.put, List.getElem_toArray, List.getElem_cons_zero, List.getElem_cons_succ, List.setIfInBounds_toArray, List.set_cons_zero, List.set_cons_succ])
      refine wpAnyH_take (i := 2) (v := .agg ((ftC e0 pl0))) rfl (by kernel_rfl) (by kernel_rfl) (by kernel_rfl) (fun _ _ _ h => h) (Or.inl ⟨by rfl, fun w hSw => exec_load_blk (k := 0) 42 ((ftC e0 pl0)) rfl rfl hSw.1.2.2 (by kernel_rfl) (by kernel_rfl) rfl⟩) (by assumption) ?_
      (try simp only [Act.put, List.getElem_toArray, List.getElem_cons_zero, List.getElem_cons_succ, List.setIfInBounds_toArray, List.set_cons_zero, List.set_cons_succ])
      refine wpAnyH_ready (rs := [1]) (by kernel_rfl) (by simp) ?_
      refine AllReadyH.cons rfl (fun K hK => ?_) AllReadyH.nil
      simp only [List.getElem_toArray, List.getElem_cons_zero, List.getElem_cons_succ]
      go_simp
      with_reducible refine (err_t s2 _ H7.drew h0).mono ?_
      rintro e w8 ⟨rfl, hf8, k8⟩
      have V8 := V7.drew.kept k8
      have B8 := B7.drew.trans (k8.mono B7.size)
      rw [hs2] at hf8
      refine hK.out _ _ ?_ (fun hHeld => ?_)
      · exact V8
      clear hK K
      (try simp only [Act.put, List.getElem_toArray, List.getElem_cons_zero, List.getElem_cons_succ, List.setIfInBounds_toArray, List.set_cons_zero, List.set_cons_succ])
      refine wpAnyH_ready (rs := [3]) (by kernel_rfl) (by simp) ?_
      refine AllReadyH.cons rfl (fun K hK => ?_) AllReadyH.nil
      simp only [List.getElem_toArray, List.getElem_cons_zero, List.getElem_cons_succ]
      go_simp
      have hea : ErrAs w8 (.iface 83 (.pointer (some ⟨w7.heap.size, 0, none⟩))) e0 pl0 := Or.inr ⟨hne, _, rfl, hf8⟩
      with_reducible refine (placed_any _ e0 pl0 _ (hE.below B8) hea).mono ?_
      rintro e w9 ⟨rfl, k9⟩
      have V9 := V8.kept k9
      have B9 := B8.trans (k9.mono B8.size)
      refine hK.out _ _ ?_ (fun hHeld => ?_)
      · exact V9
      clear hK K
      (try simp only [Act.put, List.getElem_toArray, List.getElem_cons_zero, List.getElem_cons_succ, List.setIfInBounds_toArray, List.set_cons_zero, List.set_cons_succ])
      refine wpAnyH_take (i := 4) (v := ?_) rfl (by kernel_rfl) (by kernel_rfl) (by kernel_rfl) (fun _ _ _ h => h) (Or.inl ⟨by rfl, ?_⟩) (by assumption) ?_
      rotate_left
      · (intro w hSw; (try dsimp only at hSw); go_simp; (try with_reducible rfl))
      (try simp only [Act.put, List.getElem_toArray, List.getElem_cons_zero, List.getElem_cons_succ, List.setIfInBounds_toArray, List.set_cons_zero, List.set_cons_succ])
      refine wpAnyH_take (i := 5) (v := .agg ((ftC e0 pl0))) rfl (by kernel_rfl) (by kernel_rfl) (by kernel_rfl) (fun _ _ _ h => h) (Or.inl ⟨by rfl, fun w hSw => exec_load_blk (k := 0) 42 ((ftC e0 pl0)) rfl rfl hSw.1.2.2 (by kernel_rfl) (by kernel_rfl) rfl⟩) (by assumption) ?_
      (try simp only [Act.put, List.getElem_toArray, List.getElem_cons_zero, List.getElem_cons_succ, List.setIfInBounds_toArray, List.set_cons_zero, List.set_cons_succ])
      refine wpAnyH_ready (rs := [6]) (by kernel_rfl) (by simp) ?_
      refine AllReadyH.cons rfl (fun K hK => ?_) AllReadyH.nil
      simp only [List.getElem_toArray, List.getElem_cons_zero, List.getElem_cons_succ]
      go_simp
      with_reducible refine (is_any e0 pl0 _).mono ?_
      rw [hz]
      rintro e w10 ⟨rfl, k10⟩
      have V10 := V9.kept k10
      have B10 := B9.trans (k10.mono B9.size)
      refine hK.out _ _ ?_ (fun hHeld => ?_)
      · exact V10
      clear hK K
      (try simp only [Act.put, List.getElem_toArray, List.getElem_cons_zero, List.getElem_cons_succ, List.setIfInBounds_toArray, List.set_cons_zero, List.set_cons_succ])
      refine wpAnyH_take (i := 7) (v := ?_) rfl (by kernel_rfl) (by kernel_rfl) (by kernel_rfl) (fun _ _ _ h => h) (Or.inl ⟨by rfl, ?_⟩) (by assumption) ?_
      rotate_left
      · (intro w hSw; (try dsimp only at hSw); go_simp; (try with_reducible rfl))
      (try simp only [Act.put, List.getElem_toArray, List.getElem_cons_zero, List.getElem_cons_succ, List.setIfInBounds_toArray, List.set_cons_zero, List.set_cons_succ])
      refine wpAnyH_take (i := 8) (v := ?_) rfl (by kernel_rfl) (by kernel_rfl) (by kernel_rfl) (fun _ _ _ h => h) (Or.inl ⟨by rfl, ?_⟩) (by assumption) ?_
      rotate_left
      · (intro w hSw; (try dsimp only at hSw); go_simp; (try with_reducible rfl))
      (try simp only [Act.put, List.getElem_toArray, List.getElem_cons_zero, List.getElem_cons_succ, List.setIfInBounds_toArray, List.set_cons_zero, List.set_cons_succ])
      refine wpAnyH_take (i := 9) (v := undef) rfl (by kernel_rfl) (by kernel_rfl) (by kernel_rfl) (fun _ _ _ h => h) (Or.inr ⟨by rfl, rfl⟩) (by assumption) ?_
      (try simp only [Act.put, List.getElem_toArray, List.getElem_cons_zero, List.getElem_cons_succ, List.setIfInBounds_toArray, List.set_cons_zero, List.set_cons_succ])
      refine wpAnyH_take (i := 10) (v := undef) rfl (by kernel_rfl) (by kernel_rfl) (by kernel_rfl) (fun _ _ _ h => h) (Or.inr ⟨by rfl, rfl⟩) (by assumption) ?_
      (try simp only [Act.put, List.getElem_toArray, List.getElem_cons_zero, List.getElem_cons_succ, List.setIfInBounds_toArray, List.set_cons_zero, List.set_cons_succ])
      refine wpAnyH_take (i := 11) (v := undef) rfl (by kernel_rfl) (by kernel_rfl) (by kernel_rfl) (fun _ _ _ h => h) (Or.inr ⟨by rfl, rfl⟩) (by assumption) ?_
      (try simp only [Act.put, List.getElem_toArray, List.getElem_cons_zero, List.getElem_cons_succ, List.setIfInBounds_toArray, List.set_cons_zero, List.set_cons_succ])
      refine wpAnyH_take (i := 12) (v := undef) rfl (by kernel_rfl) (by kernel_rfl) (by kernel_rfl) (fun _ _ _ h => h) (Or.inr ⟨by rfl, rfl⟩) (by assumption) ?_
      (try simp only [Act.put, List.getElem_toArray, List.getElem_cons_zero, List.getElem_cons_succ, List.setIfInBounds_toArray, List.set_cons_zero, List.set_cons_succ])
      refine wpAnyH_take (i := 13) (v := undef) rfl (by kernel_rfl) (by kernel_rfl) (by kernel_rfl) (fun _ _ _ h => h) (Or.inr ⟨by rfl, rfl⟩) (by assumption) ?_
      (try simp only [Act.put, List.getElem_toArray, List.getElem_cons_zero, List.getElem_cons_succ, List.setIfInBounds_toArray, List.set_cons_zero, List.set_cons_succ])
      refine wpAnyH_take (i := 14) (v := undef) rfl (by kernel_rfl) (by kernel_rfl) (by kernel_rfl) (fun _ _ _ h => h) (Or.inr ⟨by rfl, rfl⟩) (by assumption) ?_
      (try simp only [Act.put, List.getElem_toArray, List.getElem_cons_zero, List.getElem_cons_succ, List.setIfInBounds_toArray, List.set_cons_zero, List.set_cons_succ])
      refine wpAnyH_take (i := 15) (v := undef) rfl (by kernel_rfl) (by kernel_rfl) (by kernel_rfl) (fun _ _ _ h => h) (Or.inr ⟨by rfl, rfl⟩) (by assumption) ?_
      (try simp only [Act.put, List.getElem_toArray, List.getElem_cons_zero, List.getElem_cons_succ, List.setIfInBounds_toArray, List.set_cons_zero, List.set_cons_succ])
      refine wpAnyH_take (i := 16) (v := undef) rfl (by kernel_rfl) (by kernel_rfl) (by kernel_rfl) (fun _ _ _ h => h) (Or.inr ⟨by rfl, rfl⟩) (by assumption) ?_
      (try simp only [Act.put, List.getElem_toArray, List.getElem_cons_zero, List.getElem_cons_succ, List.setIfInBounds_toArray, List.set_cons_zero, List.set_cons_succ])
      refine wpAnyH_take (i := 17) (v := ?_) rfl (by kernel_rfl) (by kernel_rfl) (by kernel_rfl) (fun _ _ _ h => h) (Or.inl ⟨by rfl, ?_⟩) (by assumption) ?_
      rotate_left
      · (intro w hSw; (try dsimp only at hSw); go_simp; (try with_reducible rfl))
      (try simp only [Act.put, List.getElem_toArray, List.getElem_cons_zero, List.getElem_cons_succ, List.setIfInBounds_toArray, List.set_cons_zero, List.set_cons_succ])
      refine wpAnyH_take (i := 18) (v := ?_) rfl (by kernel_rfl) (by kernel_rfl) (by kernel_rfl) (fun _ _ _ h => h) (Or.inl ⟨by rfl, ?_⟩) (by assumption) ?_
      rotate_left
      · (intro w hSw; (try dsimp only at hSw); go_simp; (try with_reducible rfl))
      (try simp only [Act.put, List.getElem_toArray, List.getElem_cons_zero, List.getElem_cons_succ, List.setIfInBounds_toArray, List.set_cons_zero, List.set_cons_succ])
      refine wpAnyH_take (i := 19) (v := ?_) rfl (by kernel_rfl) (by kernel_rfl) (by kernel_rfl) (fun _ _ _ h => h) (Or.inl ⟨by rfl, ?_⟩) (by assumption) ?_
      rotate_left
      · (intro w hSw; (try dsimp only at hSw); go_simp; (try with_reducible rfl))
      (try simp only [Act.put, List.getElem_toArray, List.getElem_cons_zero, List.getElem_cons_succ, List.setIfInBounds_toArray, List.set_cons_zero, List.set_cons_succ])
      refine wpAnyH_done (by kernel_rfl) ?_ _
      refine NoPanic.normal ?_
      go_wp2
      go_ret
      exact ⟨rfl, B10⟩
  · have hgt : decide ((100 : Int) < (s.size : Int)) = true := decide_eq_true (by omega)
    go_enter Tryd.func4, Tryd.ntmps4
    go_wp2
    go_ret
    exact ⟨rfl, Below.refl _ _⟩

end Go.Proofs.YtceiiolpggolbaaDoor.prioReads
