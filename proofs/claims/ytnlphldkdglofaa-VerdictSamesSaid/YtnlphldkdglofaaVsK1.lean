/- Texts one behind the other. Frames held against each other: the reference's FrameSame. The reference's SameVerdict at any two. switchyardlaw.heavy, big, much at verdicts of any size: they answer. A frame that comes in. switchyardlaw.VerdictSames returns true at every two verdicts, and changes nothing that was there. The end of a row's proof where of the world behind the call only this is known: below the old heap's size nothing is changed. -/
import Derived.Test.YtnlphldkdglofaaFrSame1
import Derived.Test.YtnlphldkdglofaaFrSame2
import Derived.Test.YtnlphldkdglofaaFrSame3
import Derived.Test.YtnlphldkdglofaaVd
import Derived.Test.YtnlphldkdglofaaBoxB
import Derived.Test.YtnlphldkdglofaaStOp
import Derived.OrdersHeld
import Derived.Test.YtnlphldkdglofaaFr
import Derived.Test.YtnlphldkdglofaaSmV
import Derived.Below
import Derived.ChangeSame
namespace Go.Proofs.Ytnlphldkdglofaa
open Go.RowKit

/-- FrameSame, the document's answer. -/
theorem refSame_any (f g : Fr) (w : World) (hf : FrIn w f) (hg : FrIn w g) :
    Calls Try.prog 14 #[frV f, frV g] w fun e w' => e = .returned (.bool (sameB f g)) ∧ Below w.heap.size w w' := by
  unfold sameB
  cases h1 : eq6 f.d g.d with
  | false => exact refSame_0 f g w h1
  | true =>
    cases h2 : eq6 f.s g.s with
    | false => exact refSame_1 f g w h1 h2
    | true =>
      cases h3 : tagsEq f.tl g.tl with
      | false => exact refSame_2 f g w hf hg h1 h2 h3
      | true =>
        cases h4 : (f.k == g.k) with
        | false => exact refSame_3 f g w hf hg h1 h2 h3 h4
        | true =>
          cases h5 : (f.t == g.t) with
          | false => exact refSame_4 f g w hf hg h1 h2 h3 h4 h5
          | true =>
            cases h6 : (f.da == g.da) with
            | false => exact refSame_5 f g w hf hg h1 h2 h3 h4 h5 h6
            | true =>
              cases h7 : (f.sa == g.sa) with
              | false => exact refSame_6 f g w hf hg h1 h2 h3 h4 h5 h6 h7
              | true =>
                cases h8 : (f.ct == g.ct) with
                | false => exact refSame_7 f g w hf hg h1 h2 h3 h4 h5 h6 h7 h8
                | true =>
                  cases h9 : (f.ou == g.ou) with
                  | false => exact refSame_8 f g w hf hg h1 h2 h3 h4 h5 h6 h7 h8 h9
                  | true =>
                    cases h10 : (f.pi == g.pi) with
                    | false => exact refSame_9 f g w hf hg h1 h2 h3 h4 h5 h6 h7 h8 h9 h10
                    | true =>
                      cases h11 : (f.bo.toList == g.bo.toList) with
                      | false => exact refSame_10 f g w hf hg h1 h2 h3 h4 h5 h6 h7 h8 h9 h10 h11
                      | true =>
                        exact refSame_11 f g w hf hg h1 h2 h3 h4 h5 h6 h7 h8 h9 h10 h11

end Go.Proofs.Ytnlphldkdglofaa

namespace Go.Proofs.Ytnlphldkdglofaa
open Go.RowKit
attribute [local go_sem ↓] Go.wp_at_zero Go.wp_at_succ
set_option linter.unusedSimpArgs false
set_option linter.unusedVariables false
set_option maxRecDepth 100000

theorem wp_alloc_op {P : Program} {o : Oper} {a : Act} {w : World} {K : Act → World → Prop} {Q : Exit → Act → World → Prop} (t : TypeId) (Z : Array Value) (ho : o.op = .alloc t) (hz : (P.info? t).map (·.zero) = some (some (.agg Z)))
    (hK : ∀ b w', b = w.heap.size → Blk w' b t Z → Below b w w' → K (a.put o.dst (.pointer (some ⟨b, 0, none⟩))) w') : Oper.wp P o a w K Q := by
  have h1 : (Instr.alloc t true (.tuple #[])).run P w = .ok (.pointer (some ⟨w.heap.size, 0, none⟩)) (w.alloc (.cells Z t)) := by
    cases hi : P.info? t with
    | none => rw [hi] at hz; cases hz
    | some i =>
      rw [hi] at hz
      simp only [Option.map_some, Option.some.injEq] at hz
      simp [Instr.alloc, zeroValue, typeInfo, hi, hz, newVar, newRow, newObj, Value.cells]
      rfl
  unfold Oper.wp execOp
  simp only [ho, Sem.run_bind, Sem.run_pure, Result.andThen_ok, h1]
  exact hK _ _ rfl (Blk.new w t Z) ((Below.refl _ _).alloc (Nat.le_refl _) _)

theorem wpAnyH_weaken {P : Program} {md : Region.Mode} {ops : Array Oper} {Q : Exit → Act → World → Prop} {S S' : World → Prop} (hS : ∀ w, S' w → S w) : ∀ (fuel : Nat) (listed : Array Bool) (a : Act) (w : World), wpAnyH P md ops Q S' fuel listed a w → wpAnyH P md ops Q S fuel listed a w
  | 0, _, _, _, h => h
  | fuel + 1, _, _, _, h => ⟨h.1, fun i hi => wpOp_mono (fun a' w' h' => ⟨hS _ h'.1, wpAnyH_weaken hS fuel _ a' w' h'.2⟩) (h.2 i hi)⟩

theorem grown_belowV {B g : Nat} {a w w' : World} (h : Below B a w) (hg : w.grownBy w' (some g)) (hB : B ≤ w.heap.size) (hr : B ≤ g) : Below B a w' :=
  h.grown hg hB fun k e => by cases e; exact hr

/-- Two verdicts and four new blocks, wherever they lie. -/
structure Four (x y : Vd) (w : World) (B b5 b6 b7 b8 : Nat) (u : World) : Prop where
  ha : Blk u w.heap.size 61 (vdC x)
  hb : Blk u B 61 (vdC y)
  h5 : Blk u b5 44 (msC zMs (.slice none 0 0))
  h6 : Blk u b6 44 (msC zMs (.slice none 0 0))
  h7 : Blk u b7 52 (ldC zLd zLdA)
  h8 : Blk u b8 52 (ldC zLd zLdA)
  hbe : Below w.heap.size w u
  hn : b5 ≠ b6 ∧ b5 ≠ b7 ∧ b5 ≠ b8 ∧ b6 ≠ b7 ∧ b6 ≠ b8 ∧ b7 ≠ b8
  hn2 : B < b5 ∧ B < b6 ∧ B < b7 ∧ B < b8

theorem chain_start6 {P : Program} {ops : Array Oper} {Q : Exit → Act → World → Prop} {a : Act} {w : World} {l : List Oper} {n : Nat} {p q p5 p6 p7 p8 : Value} (h2 : At a 2 p) (h3 : At a 3 q) (h5 : At a 5 p5) (h6 : At a 6 p6) (h7 : At a 7 p7) (h8 : At a 8 p8) (hn : a.tmps.size = n) (hd : a.defers = [])
    (h : ∀ a0, At a0 2 p → At a0 3 q → At a0 5 p5 → At a0 6 p6 → At a0 7 p7 → At a0 8 p8 → a0.tmps.size = n → a0.defers = [] → wpList P ops Q l a0 w) : wpList P ops Q l a w := h a h2 h3 h5 h6 h7 h8 hn hd

set_option maxHeartbeats 6400000 in
theorem refVd_any (x y : Vd) (w : World) (hx : VdIn w x) (hy : VdIn w y) (hf : FrIn w x.fr) (hg : FrIn w y.fr) :
    Calls Try.prog 6 #[.agg (vdC x), .agg (vdC y)] w fun e w' => e = .returned (.bool (refVd x y)) ∧ Below w.heap.size w w' := by
  go_enter Try.func6, Try.ntmps6
  go_upto_region 1 with (first
    | (refine box_blk (o := ⟨some 2, _, _, _, _, _⟩) 61 (vdC x) (by rfl) (by rfl) rfl ?_; intro w1 HA1 B1)
    | (refine box_blk (o := ⟨some 3, _, _, _, _, _⟩) 61 (vdC y) (by rfl) (by rfl) rfl ?_; intro w2 HB2 b2; have HA2 := HA1.kept b2; have B2 := B1.trans (b2.mono B1.size)))
  (try simp only [Act.put, List.setIfInBounds_toArray, List.set_cons_zero, List.set_cons_succ])
  have hBl := HB2.lt
  have hAB := HA1.lt
  clear HA1 b2
  generalize w1.heap.size = B at *
  refine wp_region_noPanic ?_
  refine wp_region_held_drew (S := (fun w' => Blk w' w.heap.size 61 (vdC x) ∧ Blk w' B 61 (vdC y))) (by kernel_rfl) ?_ (fun hHeld => ?_)
  · exact ⟨HA2, HB2⟩
  have HA3 := HA2.drew
  have HB3 := HB2.drew
  have B3 := B2.drew
  have hBl3 : B < w2.drew.heap.size := hBl
  clear HA2 HB2 B2 hBl
  generalize w2.drew = w3 at *
  refine wpAnyH_take (i := 0) (v := ?_) rfl (by kernel_rfl) (by kernel_rfl) (by kernel_rfl) (fun _ _ _ h => h) (Or.inl ⟨by rfl, ?_⟩) (by assumption) ?_
  rotate_left
  · (intro w hSw; (try dsimp only at hSw); go_simp; (try with_reducible rfl))
  (try simp only [Act.put, List.getElem_toArray, List.getElem_cons_zero, List.getElem_cons_succ, List.setIfInBounds_toArray, List.set_cons_zero, List.set_cons_succ])
  refine wpAnyH_take (i := 2) (v := ?_) rfl (by kernel_rfl) (by kernel_rfl) (by kernel_rfl) (fun _ _ _ h => h) (Or.inl ⟨by rfl, ?_⟩) (by assumption) ?_
  rotate_left
  · (intro w hSw; (try dsimp only at hSw); go_simp; (try with_reducible rfl))
  (try simp only [Act.put, List.getElem_toArray, List.getElem_cons_zero, List.getElem_cons_succ, List.setIfInBounds_toArray, List.set_cons_zero, List.set_cons_succ])
  refine wpAnyH_take (i := 4) (v := ?_) rfl (by kernel_rfl) (by kernel_rfl) (by kernel_rfl) (fun _ _ _ h => h) (Or.inl ⟨by rfl, ?_⟩) (by assumption) ?_
  rotate_left
  · (intro w hSw; (try dsimp only at hSw); go_simp; (try with_reducible rfl))
  (try simp only [Act.put, List.getElem_toArray, List.getElem_cons_zero, List.getElem_cons_succ, List.setIfInBounds_toArray, List.set_cons_zero, List.set_cons_succ])
  refine wpAnyH_take (i := 6) (v := ?_) rfl (by kernel_rfl) (by kernel_rfl) (by kernel_rfl) (fun _ _ _ h => h) (Or.inl ⟨by rfl, ?_⟩) (by assumption) ?_
  rotate_left
  · (intro w hSw; (try dsimp only at hSw); go_simp; (try with_reducible rfl))
  (try simp only [Act.put, List.getElem_toArray, List.getElem_cons_zero, List.getElem_cons_succ, List.setIfInBounds_toArray, List.set_cons_zero, List.set_cons_succ])
  refine wpAnyH_take (i := 1) (v := .agg (mstC x)) rfl (by kernel_rfl) (by kernel_rfl) (by kernel_rfl) (fun _ _ _ h => h) (Or.inl ⟨by rfl, fun w hSw => exec_load_blk (k := 86) 44 (mstC x) rfl rfl hSw.1 (by kernel_rfl) (by kernel_rfl) (by kernel_rfl)⟩) (by assumption) ?_
  (try simp only [Act.put, List.getElem_toArray, List.getElem_cons_zero, List.getElem_cons_succ, List.setIfInBounds_toArray, List.set_cons_zero, List.set_cons_succ])
  refine wpAnyH_take (i := 3) (v := .agg (mstC y)) rfl (by kernel_rfl) (by kernel_rfl) (by kernel_rfl) (fun _ _ _ h => h) (Or.inl ⟨by rfl, fun w hSw => exec_load_blk (k := 86) 44 (mstC y) rfl rfl hSw.2 (by kernel_rfl) (by kernel_rfl) (by kernel_rfl)⟩) (by assumption) ?_
  (try simp only [Act.put, List.getElem_toArray, List.getElem_cons_zero, List.getElem_cons_succ, List.setIfInBounds_toArray, List.set_cons_zero, List.set_cons_succ])
  refine wpAnyH_take (i := 5) (v := .agg (ldC x.ld x.lq)) rfl (by kernel_rfl) (by kernel_rfl) (by kernel_rfl) (fun _ _ _ h => h) (Or.inl ⟨by rfl, fun w hSw => exec_load_blk (k := 131) 52 (ldC x.ld x.lq) rfl rfl hSw.1 (by kernel_rfl) (by kernel_rfl) (by kernel_rfl)⟩) (by assumption) ?_
  (try simp only [Act.put, List.getElem_toArray, List.getElem_cons_zero, List.getElem_cons_succ, List.setIfInBounds_toArray, List.set_cons_zero, List.set_cons_succ])
  refine wpAnyH_take (i := 7) (v := .agg (ldC y.ld y.lq)) rfl (by kernel_rfl) (by kernel_rfl) (by kernel_rfl) (fun _ _ _ h => h) (Or.inl ⟨by rfl, fun w hSw => exec_load_blk (k := 131) 52 (ldC y.ld y.lq) rfl rfl hSw.2 (by kernel_rfl) (by kernel_rfl) (by kernel_rfl)⟩) (by assumption) ?_
  (try simp only [Act.put, List.getElem_toArray, List.getElem_cons_zero, List.getElem_cons_succ, List.setIfInBounds_toArray, List.set_cons_zero, List.set_cons_succ])
  have tail : ∀ (b5 b6 b7 b8 : Nat) (u : World), Four x y w B b5 b6 b7 b8 u → (?G : Nat → Nat → Nat → Nat → World → Prop) b5 b6 b7 b8 u := ?tl
  · have HA := HA3
    have HB := HB3
    have HW := B3
    have hB3 : B < w3.heap.size := hBl3
    refine wpAnyH_ready (rs := [8, 9, 10, 11]) (by kernel_rfl) (by simp) ?_
    refine AllReadyH.cons rfl (fun K hK => ?_) (AllReadyH.cons rfl (fun K hK => ?_) (AllReadyH.cons rfl (fun K hK => ?_) (AllReadyH.cons rfl (fun K hK => ?_) AllReadyH.nil)))
    · simp only [List.getElem_toArray, List.getElem_cons_zero, List.getElem_cons_succ]
      rw [if_pos (by rfl)]
      refine wp_alloc_op 44 (msC zMs (.slice none 0 0)) rfl Try.msZero (fun b5 u1 e5 H5 n5 => ?_)
      have lHA := HA.lt
      have lHB := HB.lt
      rw [← e5] at lHA lHB
      have e5' : b5 = w3.heap.size := e5
      replace HA := HA.kept (by rw [← e5']; exact n5)
      replace HB := HB.kept (by rw [← e5']; exact n5)
      replace HW := HW.trans (n5.mono (by omega))
      clear e5 e5' n5
      refine hK.out _ _ ?_ (fun hHeld => ?_)
      · exact ⟨HA, HB⟩
      clear hK K
      (try simp only [Act.put, List.getElem_toArray, List.getElem_cons_zero, List.getElem_cons_succ, List.setIfInBounds_toArray, List.set_cons_zero, List.set_cons_succ])
      refine wpAnyH_ready (rs := [9, 10, 11]) (by kernel_rfl) (by simp) ?_
      refine AllReadyH.cons rfl (fun K hK => ?_) (AllReadyH.cons rfl (fun K hK => ?_) (AllReadyH.cons rfl (fun K hK => ?_) AllReadyH.nil))
      · simp only [List.getElem_toArray, List.getElem_cons_zero, List.getElem_cons_succ]
        rw [if_pos (by rfl)]
        refine wp_alloc_op 44 (msC zMs (.slice none 0 0)) rfl Try.msZero (fun b6 u2 e6 H6 n6 => ?_)
        have lHA := HA.lt
        have lHB := HB.lt
        have lH5 := H5.lt
        rw [← e6] at lHA lHB lH5
        have e6' : b6 = u1.heap.size := e6
        replace HA := HA.kept (by rw [← e6']; exact n6)
        replace HB := HB.kept (by rw [← e6']; exact n6)
        replace H5 := H5.kept (by rw [← e6']; exact n6)
        replace HW := HW.trans (n6.mono (by omega))
        clear e6 e6' n6
        refine hK.out _ _ ?_ (fun hHeld => ?_)
        · exact ⟨HA, HB⟩
        clear hK K
        (try simp only [Act.put, List.getElem_toArray, List.getElem_cons_zero, List.getElem_cons_succ, List.setIfInBounds_toArray, List.set_cons_zero, List.set_cons_succ])
        refine wpAnyH_ready (rs := [10, 11]) (by kernel_rfl) (by simp) ?_
        refine AllReadyH.cons rfl (fun K hK => ?_) (AllReadyH.cons rfl (fun K hK => ?_) AllReadyH.nil)
        · simp only [List.getElem_toArray, List.getElem_cons_zero, List.getElem_cons_succ]
          rw [if_pos (by rfl)]
          refine wp_alloc_op 52 (ldC zLd zLdA) rfl Try.ldZero (fun b7 u3 e7 H7 n7 => ?_)
          have lHA := HA.lt
          have lHB := HB.lt
          have lH5 := H5.lt
          have lH6 := H6.lt
          rw [← e7] at lHA lHB lH5 lH6
          have e7' : b7 = u2.heap.size := e7
          replace HA := HA.kept (by rw [← e7']; exact n7)
          replace HB := HB.kept (by rw [← e7']; exact n7)
          replace H5 := H5.kept (by rw [← e7']; exact n7)
          replace H6 := H6.kept (by rw [← e7']; exact n7)
          replace HW := HW.trans (n7.mono (by omega))
          clear e7 e7' n7
          refine hK.out _ _ ?_ (fun hHeld => ?_)
          · exact ⟨HA, HB⟩
          clear hK K
          (try simp only [Act.put, List.getElem_toArray, List.getElem_cons_zero, List.getElem_cons_succ, List.setIfInBounds_toArray, List.set_cons_zero, List.set_cons_succ])
          refine wpAnyH_ready (rs := [11]) (by kernel_rfl) (by simp) ?_
          refine AllReadyH.cons rfl (fun K hK => ?_) AllReadyH.nil
          · simp only [List.getElem_toArray, List.getElem_cons_zero, List.getElem_cons_succ]
            rw [if_pos (by rfl)]
            refine wp_alloc_op 52 (ldC zLd zLdA) rfl Try.ldZero (fun b8 u4 e8 H8 n8 => ?_)
            have lHA := HA.lt
            have lHB := HB.lt
            have lH5 := H5.lt
            have lH6 := H6.lt
            have lH7 := H7.lt
            rw [← e8] at lHA lHB lH5 lH6 lH7
            have e8' : b8 = u3.heap.size := e8
            replace HA := HA.kept (by rw [← e8']; exact n8)
            replace HB := HB.kept (by rw [← e8']; exact n8)
            replace H5 := H5.kept (by rw [← e8']; exact n8)
            replace H6 := H6.kept (by rw [← e8']; exact n8)
            replace H7 := H7.kept (by rw [← e8']; exact n8)
            replace HW := HW.trans (n8.mono (by omega))
            clear e8 e8' n8
            refine hK.out _ _ ?_ (fun hHeld => ?_)
            · exact ⟨HA, HB⟩
            clear hK K
            (try simp only [Act.put, List.getElem_toArray, List.getElem_cons_zero, List.getElem_cons_succ, List.setIfInBounds_toArray, List.set_cons_zero, List.set_cons_succ])
            exact tail b5 b6 b7 b8 u4 ⟨HA, HB, H5, H6, H7, H8, HW, by omega, by omega⟩
        · simp only [List.getElem_toArray, List.getElem_cons_zero, List.getElem_cons_succ]
          rw [if_pos (by rfl)]
          refine wp_alloc_op 52 (ldC zLd zLdA) rfl Try.ldZero (fun b8 u3 e8 H8 n8 => ?_)
          have lHA := HA.lt
          have lHB := HB.lt
          have lH5 := H5.lt
          have lH6 := H6.lt
          rw [← e8] at lHA lHB lH5 lH6
          have e8' : b8 = u2.heap.size := e8
          replace HA := HA.kept (by rw [← e8']; exact n8)
          replace HB := HB.kept (by rw [← e8']; exact n8)
          replace H5 := H5.kept (by rw [← e8']; exact n8)
          replace H6 := H6.kept (by rw [← e8']; exact n8)
          replace HW := HW.trans (n8.mono (by omega))
          clear e8 e8' n8
          refine hK.out _ _ ?_ (fun hHeld => ?_)
          · exact ⟨HA, HB⟩
          clear hK K
          (try simp only [Act.put, List.getElem_toArray, List.getElem_cons_zero, List.getElem_cons_succ, List.setIfInBounds_toArray, List.set_cons_zero, List.set_cons_succ])
          refine wpAnyH_ready (rs := [10]) (by kernel_rfl) (by simp) ?_
          refine AllReadyH.cons rfl (fun K hK => ?_) AllReadyH.nil
          · simp only [List.getElem_toArray, List.getElem_cons_zero, List.getElem_cons_succ]
            rw [if_pos (by rfl)]
            refine wp_alloc_op 52 (ldC zLd zLdA) rfl Try.ldZero (fun b7 u4 e7 H7 n7 => ?_)
            have lHA := HA.lt
            have lHB := HB.lt
            have lH5 := H5.lt
            have lH6 := H6.lt
            have lH8 := H8.lt
            rw [← e7] at lHA lHB lH5 lH6 lH8
            have e7' : b7 = u3.heap.size := e7
            replace HA := HA.kept (by rw [← e7']; exact n7)
            replace HB := HB.kept (by rw [← e7']; exact n7)
            replace H5 := H5.kept (by rw [← e7']; exact n7)
            replace H6 := H6.kept (by rw [← e7']; exact n7)
            replace H8 := H8.kept (by rw [← e7']; exact n7)
            replace HW := HW.trans (n7.mono (by omega))
            clear e7 e7' n7
            refine hK.out _ _ ?_ (fun hHeld => ?_)
            · exact ⟨HA, HB⟩
            clear hK K
            (try simp only [Act.put, List.getElem_toArray, List.getElem_cons_zero, List.getElem_cons_succ, List.setIfInBounds_toArray, List.set_cons_zero, List.set_cons_succ])
            exact tail b5 b6 b7 b8 u4 ⟨HA, HB, H5, H6, H7, H8, HW, by omega, by omega⟩
      · simp only [List.getElem_toArray, List.getElem_cons_zero, List.getElem_cons_succ]
        rw [if_pos (by rfl)]
        refine wp_alloc_op 52 (ldC zLd zLdA) rfl Try.ldZero (fun b7 u2 e7 H7 n7 => ?_)
        have lHA := HA.lt
        have lHB := HB.lt
        have lH5 := H5.lt
        rw [← e7] at lHA lHB lH5
        have e7' : b7 = u1.heap.size := e7
        replace HA := HA.kept (by rw [← e7']; exact n7)
        replace HB := HB.kept (by rw [← e7']; exact n7)
        replace H5 := H5.kept (by rw [← e7']; exact n7)
        replace HW := HW.trans (n7.mono (by omega))
        clear e7 e7' n7
        refine hK.out _ _ ?_ (fun hHeld => ?_)
        · exact ⟨HA, HB⟩
        clear hK K
        (try simp only [Act.put, List.getElem_toArray, List.getElem_cons_zero, List.getElem_cons_succ, List.setIfInBounds_toArray, List.set_cons_zero, List.set_cons_succ])
        refine wpAnyH_ready (rs := [9, 11]) (by kernel_rfl) (by simp) ?_
        refine AllReadyH.cons rfl (fun K hK => ?_) (AllReadyH.cons rfl (fun K hK => ?_) AllReadyH.nil)
        · simp only [List.getElem_toArray, List.getElem_cons_zero, List.getElem_cons_succ]
          rw [if_pos (by rfl)]
          refine wp_alloc_op 44 (msC zMs (.slice none 0 0)) rfl Try.msZero (fun b6 u3 e6 H6 n6 => ?_)
          have lHA := HA.lt
          have lHB := HB.lt
          have lH5 := H5.lt
          have lH7 := H7.lt
          rw [← e6] at lHA lHB lH5 lH7
          have e6' : b6 = u2.heap.size := e6
          replace HA := HA.kept (by rw [← e6']; exact n6)
          replace HB := HB.kept (by rw [← e6']; exact n6)
          replace H5 := H5.kept (by rw [← e6']; exact n6)
          replace H7 := H7.kept (by rw [← e6']; exact n6)
          replace HW := HW.trans (n6.mono (by omega))
          clear e6 e6' n6
          refine hK.out _ _ ?_ (fun hHeld => ?_)
          · exact ⟨HA, HB⟩
          clear hK K
          (try simp only [Act.put, List.getElem_toArray, List.getElem_cons_zero, List.getElem_cons_succ, List.setIfInBounds_toArray, List.set_cons_zero, List.set_cons_succ])
          refine wpAnyH_ready (rs := [11]) (by kernel_rfl) (by simp) ?_
          refine AllReadyH.cons rfl (fun K hK => ?_) AllReadyH.nil
          · simp only [List.getElem_toArray, List.getElem_cons_zero, List.getElem_cons_succ]
            rw [if_pos (by rfl)]
            refine wp_alloc_op 52 (ldC zLd zLdA) rfl Try.ldZero (fun b8 u4 e8 H8 n8 => ?_)
            have lHA := HA.lt
            have lHB := HB.lt
            have lH5 := H5.lt
            have lH7 := H7.lt
            have lH6 := H6.lt
            rw [← e8] at lHA lHB lH5 lH7 lH6
            have e8' : b8 = u3.heap.size := e8
            replace HA := HA.kept (by rw [← e8']; exact n8)
            replace HB := HB.kept (by rw [← e8']; exact n8)
            replace H5 := H5.kept (by rw [← e8']; exact n8)
            replace H7 := H7.kept (by rw [← e8']; exact n8)
            replace H6 := H6.kept (by rw [← e8']; exact n8)
            replace HW := HW.trans (n8.mono (by omega))
            clear e8 e8' n8
            refine hK.out _ _ ?_ (fun hHeld => ?_)
            · exact ⟨HA, HB⟩
            clear hK K
            (try simp only [Act.put, List.getElem_toArray, List.getElem_cons_zero, List.getElem_cons_succ, List.setIfInBounds_toArray, List.set_cons_zero, List.set_cons_succ])
            exact tail b5 b6 b7 b8 u4 ⟨HA, HB, H5, H6, H7, H8, HW, by omega, by omega⟩
        · simp only [List.getElem_toArray, List.getElem_cons_zero, List.getElem_cons_succ]
          rw [if_pos (by rfl)]
          refine wp_alloc_op 52 (ldC zLd zLdA) rfl Try.ldZero (fun b8 u3 e8 H8 n8 => ?_)
          have lHA := HA.lt
          have lHB := HB.lt
          have lH5 := H5.lt
          have lH7 := H7.lt
          rw [← e8] at lHA lHB lH5 lH7
          have e8' : b8 = u2.heap.size := e8
          replace HA := HA.kept (by rw [← e8']; exact n8)
          replace HB := HB.kept (by rw [← e8']; exact n8)
          replace H5 := H5.kept (by rw [← e8']; exact n8)
          replace H7 := H7.kept (by rw [← e8']; exact n8)
          replace HW := HW.trans (n8.mono (by omega))
          clear e8 e8' n8
          refine hK.out _ _ ?_ (fun hHeld => ?_)
          · exact ⟨HA, HB⟩
          clear hK K
          (try simp only [Act.put, List.getElem_toArray, List.getElem_cons_zero, List.getElem_cons_succ, List.setIfInBounds_toArray, List.set_cons_zero, List.set_cons_succ])
          refine wpAnyH_ready (rs := [9]) (by kernel_rfl) (by simp) ?_
          refine AllReadyH.cons rfl (fun K hK => ?_) AllReadyH.nil
          · simp only [List.getElem_toArray, List.getElem_cons_zero, List.getElem_cons_succ]
            rw [if_pos (by rfl)]
            refine wp_alloc_op 44 (msC zMs (.slice none 0 0)) rfl Try.msZero (fun b6 u4 e6 H6 n6 => ?_)
            have lHA := HA.lt
            have lHB := HB.lt
            have lH5 := H5.lt
            have lH7 := H7.lt
            have lH8 := H8.lt
            rw [← e6] at lHA lHB lH5 lH7 lH8
            have e6' : b6 = u3.heap.size := e6
            replace HA := HA.kept (by rw [← e6']; exact n6)
            replace HB := HB.kept (by rw [← e6']; exact n6)
            replace H5 := H5.kept (by rw [← e6']; exact n6)
            replace H7 := H7.kept (by rw [← e6']; exact n6)
            replace H8 := H8.kept (by rw [← e6']; exact n6)
            replace HW := HW.trans (n6.mono (by omega))
            clear e6 e6' n6
            refine hK.out _ _ ?_ (fun hHeld => ?_)
            · exact ⟨HA, HB⟩
            clear hK K
            (try simp only [Act.put, List.getElem_toArray, List.getElem_cons_zero, List.getElem_cons_succ, List.setIfInBounds_toArray, List.set_cons_zero, List.set_cons_succ])
            exact tail b5 b6 b7 b8 u4 ⟨HA, HB, H5, H6, H7, H8, HW, by omega, by omega⟩
      · simp only [List.getElem_toArray, List.getElem_cons_zero, List.getElem_cons_succ]
        rw [if_pos (by rfl)]
        refine wp_alloc_op 52 (ldC zLd zLdA) rfl Try.ldZero (fun b8 u2 e8 H8 n8 => ?_)
        have lHA := HA.lt
        have lHB := HB.lt
        have lH5 := H5.lt
        rw [← e8] at lHA lHB lH5
        have e8' : b8 = u1.heap.size := e8
        replace HA := HA.kept (by rw [← e8']; exact n8)
        replace HB := HB.kept (by rw [← e8']; exact n8)
        replace H5 := H5.kept (by rw [← e8']; exact n8)
        replace HW := HW.trans (n8.mono (by omega))
        clear e8 e8' n8
        refine hK.out _ _ ?_ (fun hHeld => ?_)
        · exact ⟨HA, HB⟩
        clear hK K
        (try simp only [Act.put, List.getElem_toArray, List.getElem_cons_zero, List.getElem_cons_succ, List.setIfInBounds_toArray, List.set_cons_zero, List.set_cons_succ])
        refine wpAnyH_ready (rs := [9, 10]) (by kernel_rfl) (by simp) ?_
        refine AllReadyH.cons rfl (fun K hK => ?_) (AllReadyH.cons rfl (fun K hK => ?_) AllReadyH.nil)
        · simp only [List.getElem_toArray, List.getElem_cons_zero, List.getElem_cons_succ]
          rw [if_pos (by rfl)]
          refine wp_alloc_op 44 (msC zMs (.slice none 0 0)) rfl Try.msZero (fun b6 u3 e6 H6 n6 => ?_)
          have lHA := HA.lt
          have lHB := HB.lt
          have lH5 := H5.lt
          have lH8 := H8.lt
          rw [← e6] at lHA lHB lH5 lH8
          have e6' : b6 = u2.heap.size := e6
          replace HA := HA.kept (by rw [← e6']; exact n6)
          replace HB := HB.kept (by rw [← e6']; exact n6)
          replace H5 := H5.kept (by rw [← e6']; exact n6)
          replace H8 := H8.kept (by rw [← e6']; exact n6)
          replace HW := HW.trans (n6.mono (by omega))
          clear e6 e6' n6
          refine hK.out _ _ ?_ (fun hHeld => ?_)
          · exact ⟨HA, HB⟩
          clear hK K
          (try simp only [Act.put, List.getElem_toArray, List.getElem_cons_zero, List.getElem_cons_succ, List.setIfInBounds_toArray, List.set_cons_zero, List.set_cons_succ])
          refine wpAnyH_ready (rs := [10]) (by kernel_rfl) (by simp) ?_
          refine AllReadyH.cons rfl (fun K hK => ?_) AllReadyH.nil
          · simp only [List.getElem_toArray, List.getElem_cons_zero, List.getElem_cons_succ]
            rw [if_pos (by rfl)]
            refine wp_alloc_op 52 (ldC zLd zLdA) rfl Try.ldZero (fun b7 u4 e7 H7 n7 => ?_)
            have lHA := HA.lt
            have lHB := HB.lt
            have lH5 := H5.lt
            have lH8 := H8.lt
            have lH6 := H6.lt
            rw [← e7] at lHA lHB lH5 lH8 lH6
            have e7' : b7 = u3.heap.size := e7
            replace HA := HA.kept (by rw [← e7']; exact n7)
            replace HB := HB.kept (by rw [← e7']; exact n7)
            replace H5 := H5.kept (by rw [← e7']; exact n7)
            replace H8 := H8.kept (by rw [← e7']; exact n7)
            replace H6 := H6.kept (by rw [← e7']; exact n7)
            replace HW := HW.trans (n7.mono (by omega))
            clear e7 e7' n7
            refine hK.out _ _ ?_ (fun hHeld => ?_)
            · exact ⟨HA, HB⟩
            clear hK K
            (try simp only [Act.put, List.getElem_toArray, List.getElem_cons_zero, List.getElem_cons_succ, List.setIfInBounds_toArray, List.set_cons_zero, List.set_cons_succ])
            exact tail b5 b6 b7 b8 u4 ⟨HA, HB, H5, H6, H7, H8, HW, by omega, by omega⟩
        · simp only [List.getElem_toArray, List.getElem_cons_zero, List.getElem_cons_succ]
          rw [if_pos (by rfl)]
          refine wp_alloc_op 52 (ldC zLd zLdA) rfl Try.ldZero (fun b7 u3 e7 H7 n7 => ?_)
          have lHA := HA.lt
          have lHB := HB.lt
          have lH5 := H5.lt
          have lH8 := H8.lt
          rw [← e7] at lHA lHB lH5 lH8
          have e7' : b7 = u2.heap.size := e7
          replace HA := HA.kept (by rw [← e7']; exact n7)
          replace HB := HB.kept (by rw [← e7']; exact n7)
          replace H5 := H5.kept (by rw [← e7']; exact n7)
          replace H8 := H8.kept (by rw [← e7']; exact n7)
          replace HW := HW.trans (n7.mono (by omega))
          clear e7 e7' n7
          refine hK.out _ _ ?_ (fun hHeld => ?_)
          · exact ⟨HA, HB⟩
          clear hK K
          (try simp only [Act.put, List.getElem_toArray, List.getElem_cons_zero, List.getElem_cons_succ, List.setIfInBounds_toArray, List.set_cons_zero, List.set_cons_succ])
          refine wpAnyH_ready (rs := [9]) (by kernel_rfl) (by simp) ?_
          refine AllReadyH.cons rfl (fun K hK => ?_) AllReadyH.nil
          · simp only [List.getElem_toArray, List.getElem_cons_zero, List.getElem_cons_succ]
            rw [if_pos (by rfl)]
            refine wp_alloc_op 44 (msC zMs (.slice none 0 0)) rfl Try.msZero (fun b6 u4 e6 H6 n6 => ?_)
            have lHA := HA.lt
            have lHB := HB.lt
            have lH5 := H5.lt
            have lH8 := H8.lt
            have lH7 := H7.lt
            rw [← e6] at lHA lHB lH5 lH8 lH7
            have e6' : b6 = u3.heap.size := e6
            replace HA := HA.kept (by rw [← e6']; exact n6)
            replace HB := HB.kept (by rw [← e6']; exact n6)
            replace H5 := H5.kept (by rw [← e6']; exact n6)
            replace H8 := H8.kept (by rw [← e6']; exact n6)
            replace H7 := H7.kept (by rw [← e6']; exact n6)
            replace HW := HW.trans (n6.mono (by omega))
            clear e6 e6' n6
            refine hK.out _ _ ?_ (fun hHeld => ?_)
            · exact ⟨HA, HB⟩
            clear hK K
            (try simp only [Act.put, List.getElem_toArray, List.getElem_cons_zero, List.getElem_cons_succ, List.setIfInBounds_toArray, List.set_cons_zero, List.set_cons_succ])
            exact tail b5 b6 b7 b8 u4 ⟨HA, HB, H5, H6, H7, H8, HW, by omega, by omega⟩
    · simp only [List.getElem_toArray, List.getElem_cons_zero, List.getElem_cons_succ]
      rw [if_pos (by rfl)]
      refine wp_alloc_op 44 (msC zMs (.slice none 0 0)) rfl Try.msZero (fun b6 u1 e6 H6 n6 => ?_)
      have lHA := HA.lt
      have lHB := HB.lt
      rw [← e6] at lHA lHB
      have e6' : b6 = w3.heap.size := e6
      replace HA := HA.kept (by rw [← e6']; exact n6)
      replace HB := HB.kept (by rw [← e6']; exact n6)
      replace HW := HW.trans (n6.mono (by omega))
      clear e6 e6' n6
      refine hK.out _ _ ?_ (fun hHeld => ?_)
      · exact ⟨HA, HB⟩
      clear hK K
      (try simp only [Act.put, List.getElem_toArray, List.getElem_cons_zero, List.getElem_cons_succ, List.setIfInBounds_toArray, List.set_cons_zero, List.set_cons_succ])
      refine wpAnyH_ready (rs := [8, 10, 11]) (by kernel_rfl) (by simp) ?_
      refine AllReadyH.cons rfl (fun K hK => ?_) (AllReadyH.cons rfl (fun K hK => ?_) (AllReadyH.cons rfl (fun K hK => ?_) AllReadyH.nil))
      · simp only [List.getElem_toArray, List.getElem_cons_zero, List.getElem_cons_succ]
        rw [if_pos (by rfl)]
        refine wp_alloc_op 44 (msC zMs (.slice none 0 0)) rfl Try.msZero (fun b5 u2 e5 H5 n5 => ?_)
        have lHA := HA.lt
        have lHB := HB.lt
        have lH6 := H6.lt
        rw [← e5] at lHA lHB lH6
        have e5' : b5 = u1.heap.size := e5
        replace HA := HA.kept (by rw [← e5']; exact n5)
        replace HB := HB.kept (by rw [← e5']; exact n5)
        replace H6 := H6.kept (by rw [← e5']; exact n5)
        replace HW := HW.trans (n5.mono (by omega))
        clear e5 e5' n5
        refine hK.out _ _ ?_ (fun hHeld => ?_)
        · exact ⟨HA, HB⟩
        clear hK K
        (try simp only [Act.put, List.getElem_toArray, List.getElem_cons_zero, List.getElem_cons_succ, List.setIfInBounds_toArray, List.set_cons_zero, List.set_cons_succ])
        refine wpAnyH_ready (rs := [10, 11]) (by kernel_rfl) (by simp) ?_
        refine AllReadyH.cons rfl (fun K hK => ?_) (AllReadyH.cons rfl (fun K hK => ?_) AllReadyH.nil)
        · simp only [List.getElem_toArray, List.getElem_cons_zero, List.getElem_cons_succ]
          rw [if_pos (by rfl)]
          refine wp_alloc_op 52 (ldC zLd zLdA) rfl Try.ldZero (fun b7 u3 e7 H7 n7 => ?_)
          have lHA := HA.lt
          have lHB := HB.lt
          have lH6 := H6.lt
          have lH5 := H5.lt
          rw [← e7] at lHA lHB lH6 lH5
          have e7' : b7 = u2.heap.size := e7
          replace HA := HA.kept (by rw [← e7']; exact n7)
          replace HB := HB.kept (by rw [← e7']; exact n7)
          replace H6 := H6.kept (by rw [← e7']; exact n7)
          replace H5 := H5.kept (by rw [← e7']; exact n7)
          replace HW := HW.trans (n7.mono (by omega))
          clear e7 e7' n7
          refine hK.out _ _ ?_ (fun hHeld => ?_)
          · exact ⟨HA, HB⟩
          clear hK K
          (try simp only [Act.put, List.getElem_toArray, List.getElem_cons_zero, List.getElem_cons_succ, List.setIfInBounds_toArray, List.set_cons_zero, List.set_cons_succ])
          refine wpAnyH_ready (rs := [11]) (by kernel_rfl) (by simp) ?_
          refine AllReadyH.cons rfl (fun K hK => ?_) AllReadyH.nil
          · simp only [List.getElem_toArray, List.getElem_cons_zero, List.getElem_cons_succ]
            rw [if_pos (by rfl)]
            refine wp_alloc_op 52 (ldC zLd zLdA) rfl Try.ldZero (fun b8 u4 e8 H8 n8 => ?_)
            have lHA := HA.lt
            have lHB := HB.lt
            have lH6 := H6.lt
            have lH5 := H5.lt
            have lH7 := H7.lt
            rw [← e8] at lHA lHB lH6 lH5 lH7
            have e8' : b8 = u3.heap.size := e8
            replace HA := HA.kept (by rw [← e8']; exact n8)
            replace HB := HB.kept (by rw [← e8']; exact n8)
            replace H6 := H6.kept (by rw [← e8']; exact n8)
            replace H5 := H5.kept (by rw [← e8']; exact n8)
            replace H7 := H7.kept (by rw [← e8']; exact n8)
            replace HW := HW.trans (n8.mono (by omega))
            clear e8 e8' n8
            refine hK.out _ _ ?_ (fun hHeld => ?_)
            · exact ⟨HA, HB⟩
            clear hK K
            (try simp only [Act.put, List.getElem_toArray, List.getElem_cons_zero, List.getElem_cons_succ, List.setIfInBounds_toArray, List.set_cons_zero, List.set_cons_succ])
            exact tail b5 b6 b7 b8 u4 ⟨HA, HB, H5, H6, H7, H8, HW, by omega, by omega⟩
        · simp only [List.getElem_toArray, List.getElem_cons_zero, List.getElem_cons_succ]
          rw [if_pos (by rfl)]
          refine wp_alloc_op 52 (ldC zLd zLdA) rfl Try.ldZero (fun b8 u3 e8 H8 n8 => ?_)
          have lHA := HA.lt
          have lHB := HB.lt
          have lH6 := H6.lt
          have lH5 := H5.lt
          rw [← e8] at lHA lHB lH6 lH5
          have e8' : b8 = u2.heap.size := e8
          replace HA := HA.kept (by rw [← e8']; exact n8)
          replace HB := HB.kept (by rw [← e8']; exact n8)
          replace H6 := H6.kept (by rw [← e8']; exact n8)
          replace H5 := H5.kept (by rw [← e8']; exact n8)
          replace HW := HW.trans (n8.mono (by omega))
          clear e8 e8' n8
          refine hK.out _ _ ?_ (fun hHeld => ?_)
          · exact ⟨HA, HB⟩
          clear hK K
          (try simp only [Act.put, List.getElem_toArray, List.getElem_cons_zero, List.getElem_cons_succ, List.setIfInBounds_toArray, List.set_cons_zero, List.set_cons_succ])
          refine wpAnyH_ready (rs := [10]) (by kernel_rfl) (by simp) ?_
          refine AllReadyH.cons rfl (fun K hK => ?_) AllReadyH.nil
          · simp only [List.getElem_toArray, List.getElem_cons_zero, List.getElem_cons_succ]
            rw [if_pos (by rfl)]
            refine wp_alloc_op 52 (ldC zLd zLdA) rfl Try.ldZero (fun b7 u4 e7 H7 n7 => ?_)
            have lHA := HA.lt
            have lHB := HB.lt
            have lH6 := H6.lt
            have lH5 := H5.lt
            have lH8 := H8.lt
            rw [← e7] at lHA lHB lH6 lH5 lH8
            have e7' : b7 = u3.heap.size := e7
            replace HA := HA.kept (by rw [← e7']; exact n7)
            replace HB := HB.kept (by rw [← e7']; exact n7)
            replace H6 := H6.kept (by rw [← e7']; exact n7)
            replace H5 := H5.kept (by rw [← e7']; exact n7)
            replace H8 := H8.kept (by rw [← e7']; exact n7)
            replace HW := HW.trans (n7.mono (by omega))
            clear e7 e7' n7
            refine hK.out _ _ ?_ (fun hHeld => ?_)
            · exact ⟨HA, HB⟩
            clear hK K
            (try simp only [Act.put, List.getElem_toArray, List.getElem_cons_zero, List.getElem_cons_succ, List.setIfInBounds_toArray, List.set_cons_zero, List.set_cons_succ])
            exact tail b5 b6 b7 b8 u4 ⟨HA, HB, H5, H6, H7, H8, HW, by omega, by omega⟩
      · simp only [List.getElem_toArray, List.getElem_cons_zero, List.getElem_cons_succ]
        rw [if_pos (by rfl)]
        refine wp_alloc_op 52 (ldC zLd zLdA) rfl Try.ldZero (fun b7 u2 e7 H7 n7 => ?_)
        have lHA := HA.lt
        have lHB := HB.lt
        have lH6 := H6.lt
        rw [← e7] at lHA lHB lH6
        have e7' : b7 = u1.heap.size := e7
        replace HA := HA.kept (by rw [← e7']; exact n7)
        replace HB := HB.kept (by rw [← e7']; exact n7)
        replace H6 := H6.kept (by rw [← e7']; exact n7)
        replace HW := HW.trans (n7.mono (by omega))
        clear e7 e7' n7
        refine hK.out _ _ ?_ (fun hHeld => ?_)
        · exact ⟨HA, HB⟩
        clear hK K
        (try simp only [Act.put, List.getElem_toArray, List.getElem_cons_zero, List.getElem_cons_succ, List.setIfInBounds_toArray, List.set_cons_zero, List.set_cons_succ])
        refine wpAnyH_ready (rs := [8, 11]) (by kernel_rfl) (by simp) ?_
        refine AllReadyH.cons rfl (fun K hK => ?_) (AllReadyH.cons rfl (fun K hK => ?_) AllReadyH.nil)
        · simp only [List.getElem_toArray, List.getElem_cons_zero, List.getElem_cons_succ]
          rw [if_pos (by rfl)]
          refine wp_alloc_op 44 (msC zMs (.slice none 0 0)) rfl Try.msZero (fun b5 u3 e5 H5 n5 => ?_)
          have lHA := HA.lt
          have lHB := HB.lt
          have lH6 := H6.lt
          have lH7 := H7.lt
          rw [← e5] at lHA lHB lH6 lH7
          have e5' : b5 = u2.heap.size := e5
          replace HA := HA.kept (by rw [← e5']; exact n5)
          replace HB := HB.kept (by rw [← e5']; exact n5)
          replace H6 := H6.kept (by rw [← e5']; exact n5)
          replace H7 := H7.kept (by rw [← e5']; exact n5)
          replace HW := HW.trans (n5.mono (by omega))
          clear e5 e5' n5
          refine hK.out _ _ ?_ (fun hHeld => ?_)
          · exact ⟨HA, HB⟩
          clear hK K
          (try simp only [Act.put, List.getElem_toArray, List.getElem_cons_zero, List.getElem_cons_succ, List.setIfInBounds_toArray, List.set_cons_zero, List.set_cons_succ])
          refine wpAnyH_ready (rs := [11]) (by kernel_rfl) (by simp) ?_
          refine AllReadyH.cons rfl (fun K hK => ?_) AllReadyH.nil
          · simp only [List.getElem_toArray, List.getElem_cons_zero, List.getElem_cons_succ]
            rw [if_pos (by rfl)]
            refine wp_alloc_op 52 (ldC zLd zLdA) rfl Try.ldZero (fun b8 u4 e8 H8 n8 => ?_)
            have lHA := HA.lt
            have lHB := HB.lt
            have lH6 := H6.lt
            have lH7 := H7.lt
            have lH5 := H5.lt
            rw [← e8] at lHA lHB lH6 lH7 lH5
            have e8' : b8 = u3.heap.size := e8
            replace HA := HA.kept (by rw [← e8']; exact n8)
            replace HB := HB.kept (by rw [← e8']; exact n8)
            replace H6 := H6.kept (by rw [← e8']; exact n8)
            replace H7 := H7.kept (by rw [← e8']; exact n8)
            replace H5 := H5.kept (by rw [← e8']; exact n8)
            replace HW := HW.trans (n8.mono (by omega))
            clear e8 e8' n8
            refine hK.out _ _ ?_ (fun hHeld => ?_)
            · exact ⟨HA, HB⟩
            clear hK K
            (try simp only [Act.put, List.getElem_toArray, List.getElem_cons_zero, List.getElem_cons_succ, List.setIfInBounds_toArray, List.set_cons_zero, List.set_cons_succ])
            exact tail b5 b6 b7 b8 u4 ⟨HA, HB, H5, H6, H7, H8, HW, by omega, by omega⟩
        · simp only [List.getElem_toArray, List.getElem_cons_zero, List.getElem_cons_succ]
          rw [if_pos (by rfl)]
          refine wp_alloc_op 52 (ldC zLd zLdA) rfl Try.ldZero (fun b8 u3 e8 H8 n8 => ?_)
          have lHA := HA.lt
          have lHB := HB.lt
          have lH6 := H6.lt
          have lH7 := H7.lt
          rw [← e8] at lHA lHB lH6 lH7
          have e8' : b8 = u2.heap.size := e8
          replace HA := HA.kept (by rw [← e8']; exact n8)
          replace HB := HB.kept (by rw [← e8']; exact n8)
          replace H6 := H6.kept (by rw [← e8']; exact n8)
          replace H7 := H7.kept (by rw [← e8']; exact n8)
          replace HW := HW.trans (n8.mono (by omega))
          clear e8 e8' n8
          refine hK.out _ _ ?_ (fun hHeld => ?_)
          · exact ⟨HA, HB⟩
          clear hK K
          (try simp only [Act.put, List.getElem_toArray, List.getElem_cons_zero, List.getElem_cons_succ, List.setIfInBounds_toArray, List.set_cons_zero, List.set_cons_succ])
          refine wpAnyH_ready (rs := [8]) (by kernel_rfl) (by simp) ?_
          refine AllReadyH.cons rfl (fun K hK => ?_) AllReadyH.nil
          · simp only [List.getElem_toArray, List.getElem_cons_zero, List.getElem_cons_succ]
            rw [if_pos (by rfl)]
            refine wp_alloc_op 44 (msC zMs (.slice none 0 0)) rfl Try.msZero (fun b5 u4 e5 H5 n5 => ?_)
            have lHA := HA.lt
            have lHB := HB.lt
            have lH6 := H6.lt
            have lH7 := H7.lt
            have lH8 := H8.lt
            rw [← e5] at lHA lHB lH6 lH7 lH8
            have e5' : b5 = u3.heap.size := e5
            replace HA := HA.kept (by rw [← e5']; exact n5)
            replace HB := HB.kept (by rw [← e5']; exact n5)
            replace H6 := H6.kept (by rw [← e5']; exact n5)
            replace H7 := H7.kept (by rw [← e5']; exact n5)
            replace H8 := H8.kept (by rw [← e5']; exact n5)
            replace HW := HW.trans (n5.mono (by omega))
            clear e5 e5' n5
            refine hK.out _ _ ?_ (fun hHeld => ?_)
            · exact ⟨HA, HB⟩
            clear hK K
            (try simp only [Act.put, List.getElem_toArray, List.getElem_cons_zero, List.getElem_cons_succ, List.setIfInBounds_toArray, List.set_cons_zero, List.set_cons_succ])
            exact tail b5 b6 b7 b8 u4 ⟨HA, HB, H5, H6, H7, H8, HW, by omega, by omega⟩
      · simp only [List.getElem_toArray, List.getElem_cons_zero, List.getElem_cons_succ]
        rw [if_pos (by rfl)]
        refine wp_alloc_op 52 (ldC zLd zLdA) rfl Try.ldZero (fun b8 u2 e8 H8 n8 => ?_)
        have lHA := HA.lt
        have lHB := HB.lt
        have lH6 := H6.lt
        rw [← e8] at lHA lHB lH6
        have e8' : b8 = u1.heap.size := e8
        replace HA := HA.kept (by rw [← e8']; exact n8)
        replace HB := HB.kept (by rw [← e8']; exact n8)
        replace H6 := H6.kept (by rw [← e8']; exact n8)
        replace HW := HW.trans (n8.mono (by omega))
        clear e8 e8' n8
        refine hK.out _ _ ?_ (fun hHeld => ?_)
        · exact ⟨HA, HB⟩
        clear hK K
        (try simp only [Act.put, List.getElem_toArray, List.getElem_cons_zero, List.getElem_cons_succ, List.setIfInBounds_toArray, List.set_cons_zero, List.set_cons_succ])
        refine wpAnyH_ready (rs := [8, 10]) (by kernel_rfl) (by simp) ?_
        refine AllReadyH.cons rfl (fun K hK => ?_) (AllReadyH.cons rfl (fun K hK => ?_) AllReadyH.nil)
        · simp only [List.getElem_toArray, List.getElem_cons_zero, List.getElem_cons_succ]
          rw [if_pos (by rfl)]
          refine wp_alloc_op 44 (msC zMs (.slice none 0 0)) rfl Try.msZero (fun b5 u3 e5 H5 n5 => ?_)
          have lHA := HA.lt
          have lHB := HB.lt
          have lH6 := H6.lt
          have lH8 := H8.lt
          rw [← e5] at lHA lHB lH6 lH8
          have e5' : b5 = u2.heap.size := e5
          replace HA := HA.kept (by rw [← e5']; exact n5)
          replace HB := HB.kept (by rw [← e5']; exact n5)
          replace H6 := H6.kept (by rw [← e5']; exact n5)
          replace H8 := H8.kept (by rw [← e5']; exact n5)
          replace HW := HW.trans (n5.mono (by omega))
          clear e5 e5' n5
          refine hK.out _ _ ?_ (fun hHeld => ?_)
          · exact ⟨HA, HB⟩
          clear hK K
          (try simp only [Act.put, List.getElem_toArray, List.getElem_cons_zero, List.getElem_cons_succ, List.setIfInBounds_toArray, List.set_cons_zero, List.set_cons_succ])
          refine wpAnyH_ready (rs := [10]) (by kernel_rfl) (by simp) ?_
          refine AllReadyH.cons rfl (fun K hK => ?_) AllReadyH.nil
          · simp only [List.getElem_toArray, List.getElem_cons_zero, List.getElem_cons_succ]
            rw [if_pos (by rfl)]
            refine wp_alloc_op 52 (ldC zLd zLdA) rfl Try.ldZero (fun b7 u4 e7 H7 n7 => ?_)
            have lHA := HA.lt
            have lHB := HB.lt
            have lH6 := H6.lt
            have lH8 := H8.lt
            have lH5 := H5.lt
            rw [← e7] at lHA lHB lH6 lH8 lH5
            have e7' : b7 = u3.heap.size := e7
            replace HA := HA.kept (by rw [← e7']; exact n7)
            replace HB := HB.kept (by rw [← e7']; exact n7)
            replace H6 := H6.kept (by rw [← e7']; exact n7)
            replace H8 := H8.kept (by rw [← e7']; exact n7)
            replace H5 := H5.kept (by rw [← e7']; exact n7)
            replace HW := HW.trans (n7.mono (by omega))
            clear e7 e7' n7
            refine hK.out _ _ ?_ (fun hHeld => ?_)
            · exact ⟨HA, HB⟩
            clear hK K
            (try simp only [Act.put, List.getElem_toArray, List.getElem_cons_zero, List.getElem_cons_succ, List.setIfInBounds_toArray, List.set_cons_zero, List.set_cons_succ])
            exact tail b5 b6 b7 b8 u4 ⟨HA, HB, H5, H6, H7, H8, HW, by omega, by omega⟩
        · simp only [List.getElem_toArray, List.getElem_cons_zero, List.getElem_cons_succ]
          rw [if_pos (by rfl)]
          refine wp_alloc_op 52 (ldC zLd zLdA) rfl Try.ldZero (fun b7 u3 e7 H7 n7 => ?_)
          have lHA := HA.lt
          have lHB := HB.lt
          have lH6 := H6.lt
          have lH8 := H8.lt
          rw [← e7] at lHA lHB lH6 lH8
          have e7' : b7 = u2.heap.size := e7
          replace HA := HA.kept (by rw [← e7']; exact n7)
          replace HB := HB.kept (by rw [← e7']; exact n7)
          replace H6 := H6.kept (by rw [← e7']; exact n7)
          replace H8 := H8.kept (by rw [← e7']; exact n7)
          replace HW := HW.trans (n7.mono (by omega))
          clear e7 e7' n7
          refine hK.out _ _ ?_ (fun hHeld => ?_)
          · exact ⟨HA, HB⟩
          clear hK K
          (try simp only [Act.put, List.getElem_toArray, List.getElem_cons_zero, List.getElem_cons_succ, List.setIfInBounds_toArray, List.set_cons_zero, List.set_cons_succ])
          refine wpAnyH_ready (rs := [8]) (by kernel_rfl) (by simp) ?_
          refine AllReadyH.cons rfl (fun K hK => ?_) AllReadyH.nil
          · simp only [List.getElem_toArray, List.getElem_cons_zero, List.getElem_cons_succ]
            rw [if_pos (by rfl)]
            refine wp_alloc_op 44 (msC zMs (.slice none 0 0)) rfl Try.msZero (fun b5 u4 e5 H5 n5 => ?_)
            have lHA := HA.lt
            have lHB := HB.lt
            have lH6 := H6.lt
            have lH8 := H8.lt
            have lH7 := H7.lt
            rw [← e5] at lHA lHB lH6 lH8 lH7
            have e5' : b5 = u3.heap.size := e5
            replace HA := HA.kept (by rw [← e5']; exact n5)
            replace HB := HB.kept (by rw [← e5']; exact n5)
            replace H6 := H6.kept (by rw [← e5']; exact n5)
            replace H8 := H8.kept (by rw [← e5']; exact n5)
            replace H7 := H7.kept (by rw [← e5']; exact n5)
            replace HW := HW.trans (n5.mono (by omega))
            clear e5 e5' n5
            refine hK.out _ _ ?_ (fun hHeld => ?_)
            · exact ⟨HA, HB⟩
            clear hK K
            (try simp only [Act.put, List.getElem_toArray, List.getElem_cons_zero, List.getElem_cons_succ, List.setIfInBounds_toArray, List.set_cons_zero, List.set_cons_succ])
            exact tail b5 b6 b7 b8 u4 ⟨HA, HB, H5, H6, H7, H8, HW, by omega, by omega⟩
    · simp only [List.getElem_toArray, List.getElem_cons_zero, List.getElem_cons_succ]
      rw [if_pos (by rfl)]
      refine wp_alloc_op 52 (ldC zLd zLdA) rfl Try.ldZero (fun b7 u1 e7 H7 n7 => ?_)
      have lHA := HA.lt
      have lHB := HB.lt
      rw [← e7] at lHA lHB
      have e7' : b7 = w3.heap.size := e7
      replace HA := HA.kept (by rw [← e7']; exact n7)
      replace HB := HB.kept (by rw [← e7']; exact n7)
      replace HW := HW.trans (n7.mono (by omega))
      clear e7 e7' n7
      refine hK.out _ _ ?_ (fun hHeld => ?_)
      · exact ⟨HA, HB⟩
      clear hK K
      (try simp only [Act.put, List.getElem_toArray, List.getElem_cons_zero, List.getElem_cons_succ, List.setIfInBounds_toArray, List.set_cons_zero, List.set_cons_succ])
      refine wpAnyH_ready (rs := [8, 9, 11]) (by kernel_rfl) (by simp) ?_
      refine AllReadyH.cons rfl (fun K hK => ?_) (AllReadyH.cons rfl (fun K hK => ?_) (AllReadyH.cons rfl (fun K hK => ?_) AllReadyH.nil))
      · simp only [List.getElem_toArray, List.getElem_cons_zero, List.getElem_cons_succ]
        rw [if_pos (by rfl)]
        refine wp_alloc_op 44 (msC zMs (.slice none 0 0)) rfl Try.msZero (fun b5 u2 e5 H5 n5 => ?_)
        have lHA := HA.lt
        have lHB := HB.lt
        have lH7 := H7.lt
        rw [← e5] at lHA lHB lH7
        have e5' : b5 = u1.heap.size := e5
        replace HA := HA.kept (by rw [← e5']; exact n5)
        replace HB := HB.kept (by rw [← e5']; exact n5)
        replace H7 := H7.kept (by rw [← e5']; exact n5)
        replace HW := HW.trans (n5.mono (by omega))
        clear e5 e5' n5
        refine hK.out _ _ ?_ (fun hHeld => ?_)
        · exact ⟨HA, HB⟩
        clear hK K
        (try simp only [Act.put, List.getElem_toArray, List.getElem_cons_zero, List.getElem_cons_succ, List.setIfInBounds_toArray, List.set_cons_zero, List.set_cons_succ])
        refine wpAnyH_ready (rs := [9, 11]) (by kernel_rfl) (by simp) ?_
        refine AllReadyH.cons rfl (fun K hK => ?_) (AllReadyH.cons rfl (fun K hK => ?_) AllReadyH.nil)
        · simp only [List.getElem_toArray, List.getElem_cons_zero, List.getElem_cons_succ]
          rw [if_pos (by rfl)]
          refine wp_alloc_op 44 (msC zMs (.slice none 0 0)) rfl Try.msZero (fun b6 u3 e6 H6 n6 => ?_)
          have lHA := HA.lt
          have lHB := HB.lt
          have lH7 := H7.lt
          have lH5 := H5.lt
          rw [← e6] at lHA lHB lH7 lH5
          have e6' : b6 = u2.heap.size := e6
          replace HA := HA.kept (by rw [← e6']; exact n6)
          replace HB := HB.kept (by rw [← e6']; exact n6)
          replace H7 := H7.kept (by rw [← e6']; exact n6)
          replace H5 := H5.kept (by rw [← e6']; exact n6)
          replace HW := HW.trans (n6.mono (by omega))
          clear e6 e6' n6
          refine hK.out _ _ ?_ (fun hHeld => ?_)
          · exact ⟨HA, HB⟩
          clear hK K
          (try simp only [Act.put, List.getElem_toArray, List.getElem_cons_zero, List.getElem_cons_succ, List.setIfInBounds_toArray, List.set_cons_zero, List.set_cons_succ])
          refine wpAnyH_ready (rs := [11]) (by kernel_rfl) (by simp) ?_
          refine AllReadyH.cons rfl (fun K hK => ?_) AllReadyH.nil
          · simp only [List.getElem_toArray, List.getElem_cons_zero, List.getElem_cons_succ]
            rw [if_pos (by rfl)]
            refine wp_alloc_op 52 (ldC zLd zLdA) rfl Try.ldZero (fun b8 u4 e8 H8 n8 => ?_)
            have lHA := HA.lt
            have lHB := HB.lt
            have lH7 := H7.lt
            have lH5 := H5.lt
            have lH6 := H6.lt
            rw [← e8] at lHA lHB lH7 lH5 lH6
            have e8' : b8 = u3.heap.size := e8
            replace HA := HA.kept (by rw [← e8']; exact n8)
            replace HB := HB.kept (by rw [← e8']; exact n8)
            replace H7 := H7.kept (by rw [← e8']; exact n8)
            replace H5 := H5.kept (by rw [← e8']; exact n8)
            replace H6 := H6.kept (by rw [← e8']; exact n8)
            replace HW := HW.trans (n8.mono (by omega))
            clear e8 e8' n8
            refine hK.out _ _ ?_ (fun hHeld => ?_)
            · exact ⟨HA, HB⟩
            clear hK K
            (try simp only [Act.put, List.getElem_toArray, List.getElem_cons_zero, List.getElem_cons_succ, List.setIfInBounds_toArray, List.set_cons_zero, List.set_cons_succ])
            exact tail b5 b6 b7 b8 u4 ⟨HA, HB, H5, H6, H7, H8, HW, by omega, by omega⟩
        · simp only [List.getElem_toArray, List.getElem_cons_zero, List.getElem_cons_succ]
          rw [if_pos (by rfl)]
          refine wp_alloc_op 52 (ldC zLd zLdA) rfl Try.ldZero (fun b8 u3 e8 H8 n8 => ?_)
          have lHA := HA.lt
          have lHB := HB.lt
          have lH7 := H7.lt
          have lH5 := H5.lt
          rw [← e8] at lHA lHB lH7 lH5
          have e8' : b8 = u2.heap.size := e8
          replace HA := HA.kept (by rw [← e8']; exact n8)
          replace HB := HB.kept (by rw [← e8']; exact n8)
          replace H7 := H7.kept (by rw [← e8']; exact n8)
          replace H5 := H5.kept (by rw [← e8']; exact n8)
          replace HW := HW.trans (n8.mono (by omega))
          clear e8 e8' n8
          refine hK.out _ _ ?_ (fun hHeld => ?_)
          · exact ⟨HA, HB⟩
          clear hK K
          (try simp only [Act.put, List.getElem_toArray, List.getElem_cons_zero, List.getElem_cons_succ, List.setIfInBounds_toArray, List.set_cons_zero, List.set_cons_succ])
          refine wpAnyH_ready (rs := [9]) (by kernel_rfl) (by simp) ?_
          refine AllReadyH.cons rfl (fun K hK => ?_) AllReadyH.nil
          · simp only [List.getElem_toArray, List.getElem_cons_zero, List.getElem_cons_succ]
            rw [if_pos (by rfl)]
            refine wp_alloc_op 44 (msC zMs (.slice none 0 0)) rfl Try.msZero (fun b6 u4 e6 H6 n6 => ?_)
            have lHA := HA.lt
            have lHB := HB.lt
            have lH7 := H7.lt
            have lH5 := H5.lt
            have lH8 := H8.lt
            rw [← e6] at lHA lHB lH7 lH5 lH8
            have e6' : b6 = u3.heap.size := e6
            replace HA := HA.kept (by rw [← e6']; exact n6)
            replace HB := HB.kept (by rw [← e6']; exact n6)
            replace H7 := H7.kept (by rw [← e6']; exact n6)
            replace H5 := H5.kept (by rw [← e6']; exact n6)
            replace H8 := H8.kept (by rw [← e6']; exact n6)
            replace HW := HW.trans (n6.mono (by omega))
            clear e6 e6' n6
            refine hK.out _ _ ?_ (fun hHeld => ?_)
            · exact ⟨HA, HB⟩
            clear hK K
            (try simp only [Act.put, List.getElem_toArray, List.getElem_cons_zero, List.getElem_cons_succ, List.setIfInBounds_toArray, List.set_cons_zero, List.set_cons_succ])
            exact tail b5 b6 b7 b8 u4 ⟨HA, HB, H5, H6, H7, H8, HW, by omega, by omega⟩
      · simp only [List.getElem_toArray, List.getElem_cons_zero, List.getElem_cons_succ]
        rw [if_pos (by rfl)]
        refine wp_alloc_op 44 (msC zMs (.slice none 0 0)) rfl Try.msZero (fun b6 u2 e6 H6 n6 => ?_)
        have lHA := HA.lt
        have lHB := HB.lt
        have lH7 := H7.lt
        rw [← e6] at lHA lHB lH7
        have e6' : b6 = u1.heap.size := e6
        replace HA := HA.kept (by rw [← e6']; exact n6)
        replace HB := HB.kept (by rw [← e6']; exact n6)
        replace H7 := H7.kept (by rw [← e6']; exact n6)
        replace HW := HW.trans (n6.mono (by omega))
        clear e6 e6' n6
        refine hK.out _ _ ?_ (fun hHeld => ?_)
        · exact ⟨HA, HB⟩
        clear hK K
        (try simp only [Act.put, List.getElem_toArray, List.getElem_cons_zero, List.getElem_cons_succ, List.setIfInBounds_toArray, List.set_cons_zero, List.set_cons_succ])
        refine wpAnyH_ready (rs := [8, 11]) (by kernel_rfl) (by simp) ?_
        refine AllReadyH.cons rfl (fun K hK => ?_) (AllReadyH.cons rfl (fun K hK => ?_) AllReadyH.nil)
        · simp only [List.getElem_toArray, List.getElem_cons_zero, List.getElem_cons_succ]
          rw [if_pos (by rfl)]
          refine wp_alloc_op 44 (msC zMs (.slice none 0 0)) rfl Try.msZero (fun b5 u3 e5 H5 n5 => ?_)
          have lHA := HA.lt
          have lHB := HB.lt
          have lH7 := H7.lt
          have lH6 := H6.lt
          rw [← e5] at lHA lHB lH7 lH6
          have e5' : b5 = u2.heap.size := e5
          replace HA := HA.kept (by rw [← e5']; exact n5)
          replace HB := HB.kept (by rw [← e5']; exact n5)
          replace H7 := H7.kept (by rw [← e5']; exact n5)
          replace H6 := H6.kept (by rw [← e5']; exact n5)
          replace HW := HW.trans (n5.mono (by omega))
          clear e5 e5' n5
          refine hK.out _ _ ?_ (fun hHeld => ?_)
          · exact ⟨HA, HB⟩
          clear hK K
          (try simp only [Act.put, List.getElem_toArray, List.getElem_cons_zero, List.getElem_cons_succ, List.setIfInBounds_toArray, List.set_cons_zero, List.set_cons_succ])
          refine wpAnyH_ready (rs := [11]) (by kernel_rfl) (by simp) ?_
          refine AllReadyH.cons rfl (fun K hK => ?_) AllReadyH.nil
          · simp only [List.getElem_toArray, List.getElem_cons_zero, List.getElem_cons_succ]
            rw [if_pos (by rfl)]
            refine wp_alloc_op 52 (ldC zLd zLdA) rfl Try.ldZero (fun b8 u4 e8 H8 n8 => ?_)
            have lHA := HA.lt
            have lHB := HB.lt
            have lH7 := H7.lt
            have lH6 := H6.lt
            have lH5 := H5.lt
            rw [← e8] at lHA lHB lH7 lH6 lH5
            have e8' : b8 = u3.heap.size := e8
            replace HA := HA.kept (by rw [← e8']; exact n8)
            replace HB := HB.kept (by rw [← e8']; exact n8)
            replace H7 := H7.kept (by rw [← e8']; exact n8)
            replace H6 := H6.kept (by rw [← e8']; exact n8)
            replace H5 := H5.kept (by rw [← e8']; exact n8)
            replace HW := HW.trans (n8.mono (by omega))
            clear e8 e8' n8
            refine hK.out _ _ ?_ (fun hHeld => ?_)
            · exact ⟨HA, HB⟩
            clear hK K
            (try simp only [Act.put, List.getElem_toArray, List.getElem_cons_zero, List.getElem_cons_succ, List.setIfInBounds_toArray, List.set_cons_zero, List.set_cons_succ])
            exact tail b5 b6 b7 b8 u4 ⟨HA, HB, H5, H6, H7, H8, HW, by omega, by omega⟩
        · simp only [List.getElem_toArray, List.getElem_cons_zero, List.getElem_cons_succ]
          rw [if_pos (by rfl)]
          refine wp_alloc_op 52 (ldC zLd zLdA) rfl Try.ldZero (fun b8 u3 e8 H8 n8 => ?_)
          have lHA := HA.lt
          have lHB := HB.lt
          have lH7 := H7.lt
          have lH6 := H6.lt
          rw [← e8] at lHA lHB lH7 lH6
          have e8' : b8 = u2.heap.size := e8
          replace HA := HA.kept (by rw [← e8']; exact n8)
          replace HB := HB.kept (by rw [← e8']; exact n8)
          replace H7 := H7.kept (by rw [← e8']; exact n8)
          replace H6 := H6.kept (by rw [← e8']; exact n8)
          replace HW := HW.trans (n8.mono (by omega))
          clear e8 e8' n8
          refine hK.out _ _ ?_ (fun hHeld => ?_)
          · exact ⟨HA, HB⟩
          clear hK K
          (try simp only [Act.put, List.getElem_toArray, List.getElem_cons_zero, List.getElem_cons_succ, List.setIfInBounds_toArray, List.set_cons_zero, List.set_cons_succ])
          refine wpAnyH_ready (rs := [8]) (by kernel_rfl) (by simp) ?_
          refine AllReadyH.cons rfl (fun K hK => ?_) AllReadyH.nil
          · simp only [List.getElem_toArray, List.getElem_cons_zero, List.getElem_cons_succ]
            rw [if_pos (by rfl)]
            refine wp_alloc_op 44 (msC zMs (.slice none 0 0)) rfl Try.msZero (fun b5 u4 e5 H5 n5 => ?_)
            have lHA := HA.lt
            have lHB := HB.lt
            have lH7 := H7.lt
            have lH6 := H6.lt
            have lH8 := H8.lt
            rw [← e5] at lHA lHB lH7 lH6 lH8
            have e5' : b5 = u3.heap.size := e5
            replace HA := HA.kept (by rw [← e5']; exact n5)
            replace HB := HB.kept (by rw [← e5']; exact n5)
            replace H7 := H7.kept (by rw [← e5']; exact n5)
            replace H6 := H6.kept (by rw [← e5']; exact n5)
            replace H8 := H8.kept (by rw [← e5']; exact n5)
            replace HW := HW.trans (n5.mono (by omega))
            clear e5 e5' n5
            refine hK.out _ _ ?_ (fun hHeld => ?_)
            · exact ⟨HA, HB⟩
            clear hK K
            (try simp only [Act.put, List.getElem_toArray, List.getElem_cons_zero, List.getElem_cons_succ, List.setIfInBounds_toArray, List.set_cons_zero, List.set_cons_succ])
            exact tail b5 b6 b7 b8 u4 ⟨HA, HB, H5, H6, H7, H8, HW, by omega, by omega⟩
      · simp only [List.getElem_toArray, List.getElem_cons_zero, List.getElem_cons_succ]
        rw [if_pos (by rfl)]
        refine wp_alloc_op 52 (ldC zLd zLdA) rfl Try.ldZero (fun b8 u2 e8 H8 n8 => ?_)
        have lHA := HA.lt
        have lHB := HB.lt
        have lH7 := H7.lt
        rw [← e8] at lHA lHB lH7
        have e8' : b8 = u1.heap.size := e8
        replace HA := HA.kept (by rw [← e8']; exact n8)
        replace HB := HB.kept (by rw [← e8']; exact n8)
        replace H7 := H7.kept (by rw [← e8']; exact n8)
        replace HW := HW.trans (n8.mono (by omega))
        clear e8 e8' n8
        refine hK.out _ _ ?_ (fun hHeld => ?_)
        · exact ⟨HA, HB⟩
        clear hK K
        (try simp only [Act.put, List.getElem_toArray, List.getElem_cons_zero, List.getElem_cons_succ, List.setIfInBounds_toArray, List.set_cons_zero, List.set_cons_succ])
        refine wpAnyH_ready (rs := [8, 9]) (by kernel_rfl) (by simp) ?_
        refine AllReadyH.cons rfl (fun K hK => ?_) (AllReadyH.cons rfl (fun K hK => ?_) AllReadyH.nil)
        · simp only [List.getElem_toArray, List.getElem_cons_zero, List.getElem_cons_succ]
          rw [if_pos (by rfl)]
          refine wp_alloc_op 44 (msC zMs (.slice none 0 0)) rfl Try.msZero (fun b5 u3 e5 H5 n5 => ?_)
          have lHA := HA.lt
          have lHB := HB.lt
          have lH7 := H7.lt
          have lH8 := H8.lt
          rw [← e5] at lHA lHB lH7 lH8
          have e5' : b5 = u2.heap.size := e5
          replace HA := HA.kept (by rw [← e5']; exact n5)
          replace HB := HB.kept (by rw [← e5']; exact n5)
          replace H7 := H7.kept (by rw [← e5']; exact n5)
          replace H8 := H8.kept (by rw [← e5']; exact n5)
          replace HW := HW.trans (n5.mono (by omega))
          clear e5 e5' n5
          refine hK.out _ _ ?_ (fun hHeld => ?_)
          · exact ⟨HA, HB⟩
          clear hK K
          (try simp only [Act.put, List.getElem_toArray, List.getElem_cons_zero, List.getElem_cons_succ, List.setIfInBounds_toArray, List.set_cons_zero, List.set_cons_succ])
          refine wpAnyH_ready (rs := [9]) (by kernel_rfl) (by simp) ?_
          refine AllReadyH.cons rfl (fun K hK => ?_) AllReadyH.nil
          · simp only [List.getElem_toArray, List.getElem_cons_zero, List.getElem_cons_succ]
            rw [if_pos (by rfl)]
            refine wp_alloc_op 44 (msC zMs (.slice none 0 0)) rfl Try.msZero (fun b6 u4 e6 H6 n6 => ?_)
            have lHA := HA.lt
            have lHB := HB.lt
            have lH7 := H7.lt
            have lH8 := H8.lt
            have lH5 := H5.lt
            rw [← e6] at lHA lHB lH7 lH8 lH5
            have e6' : b6 = u3.heap.size := e6
            replace HA := HA.kept (by rw [← e6']; exact n6)
            replace HB := HB.kept (by rw [← e6']; exact n6)
            replace H7 := H7.kept (by rw [← e6']; exact n6)
            replace H8 := H8.kept (by rw [← e6']; exact n6)
            replace H5 := H5.kept (by rw [← e6']; exact n6)
            replace HW := HW.trans (n6.mono (by omega))
            clear e6 e6' n6
            refine hK.out _ _ ?_ (fun hHeld => ?_)
            · exact ⟨HA, HB⟩
            clear hK K
            (try simp only [Act.put, List.getElem_toArray, List.getElem_cons_zero, List.getElem_cons_succ, List.setIfInBounds_toArray, List.set_cons_zero, List.set_cons_succ])
            exact tail b5 b6 b7 b8 u4 ⟨HA, HB, H5, H6, H7, H8, HW, by omega, by omega⟩
        · simp only [List.getElem_toArray, List.getElem_cons_zero, List.getElem_cons_succ]
          rw [if_pos (by rfl)]
          refine wp_alloc_op 44 (msC zMs (.slice none 0 0)) rfl Try.msZero (fun b6 u3 e6 H6 n6 => ?_)
          have lHA := HA.lt
          have lHB := HB.lt
          have lH7 := H7.lt
          have lH8 := H8.lt
          rw [← e6] at lHA lHB lH7 lH8
          have e6' : b6 = u2.heap.size := e6
          replace HA := HA.kept (by rw [← e6']; exact n6)
          replace HB := HB.kept (by rw [← e6']; exact n6)
          replace H7 := H7.kept (by rw [← e6']; exact n6)
          replace H8 := H8.kept (by rw [← e6']; exact n6)
          replace HW := HW.trans (n6.mono (by omega))
          clear e6 e6' n6
          refine hK.out _ _ ?_ (fun hHeld => ?_)
          · exact ⟨HA, HB⟩
          clear hK K
          (try simp only [Act.put, List.getElem_toArray, List.getElem_cons_zero, List.getElem_cons_succ, List.setIfInBounds_toArray, List.set_cons_zero, List.set_cons_succ])
          refine wpAnyH_ready (rs := [8]) (by kernel_rfl) (by simp) ?_
          refine AllReadyH.cons rfl (fun K hK => ?_) AllReadyH.nil
          · simp only [List.getElem_toArray, List.getElem_cons_zero, List.getElem_cons_succ]
            rw [if_pos (by rfl)]
            refine wp_alloc_op 44 (msC zMs (.slice none 0 0)) rfl Try.msZero (fun b5 u4 e5 H5 n5 => ?_)
            have lHA := HA.lt
            have lHB := HB.lt
            have lH7 := H7.lt
            have lH8 := H8.lt
            have lH6 := H6.lt
            rw [← e5] at lHA lHB lH7 lH8 lH6
            have e5' : b5 = u3.heap.size := e5
            replace HA := HA.kept (by rw [← e5']; exact n5)
            replace HB := HB.kept (by rw [← e5']; exact n5)
            replace H7 := H7.kept (by rw [← e5']; exact n5)
            replace H8 := H8.kept (by rw [← e5']; exact n5)
            replace H6 := H6.kept (by rw [← e5']; exact n5)
            replace HW := HW.trans (n5.mono (by omega))
            clear e5 e5' n5
            refine hK.out _ _ ?_ (fun hHeld => ?_)
            · exact ⟨HA, HB⟩
            clear hK K
            (try simp only [Act.put, List.getElem_toArray, List.getElem_cons_zero, List.getElem_cons_succ, List.setIfInBounds_toArray, List.set_cons_zero, List.set_cons_succ])
            exact tail b5 b6 b7 b8 u4 ⟨HA, HB, H5, H6, H7, H8, HW, by omega, by omega⟩
    · simp only [List.getElem_toArray, List.getElem_cons_zero, List.getElem_cons_succ]
      rw [if_pos (by rfl)]
      refine wp_alloc_op 52 (ldC zLd zLdA) rfl Try.ldZero (fun b8 u1 e8 H8 n8 => ?_)
      have lHA := HA.lt
      have lHB := HB.lt
      rw [← e8] at lHA lHB
      have e8' : b8 = w3.heap.size := e8
      replace HA := HA.kept (by rw [← e8']; exact n8)
      replace HB := HB.kept (by rw [← e8']; exact n8)
      replace HW := HW.trans (n8.mono (by omega))
      clear e8 e8' n8
      refine hK.out _ _ ?_ (fun hHeld => ?_)
      · exact ⟨HA, HB⟩
      clear hK K
      (try simp only [Act.put, List.getElem_toArray, List.getElem_cons_zero, List.getElem_cons_succ, List.setIfInBounds_toArray, List.set_cons_zero, List.set_cons_succ])
      refine wpAnyH_ready (rs := [8, 9, 10]) (by kernel_rfl) (by simp) ?_
      refine AllReadyH.cons rfl (fun K hK => ?_) (AllReadyH.cons rfl (fun K hK => ?_) (AllReadyH.cons rfl (fun K hK => ?_) AllReadyH.nil))
      · simp only [List.getElem_toArray, List.getElem_cons_zero, List.getElem_cons_succ]
        rw [if_pos (by rfl)]
        refine wp_alloc_op 44 (msC zMs (.slice none 0 0)) rfl Try.msZero (fun b5 u2 e5 H5 n5 => ?_)
        have lHA := HA.lt
        have lHB := HB.lt
        have lH8 := H8.lt
        rw [← e5] at lHA lHB lH8
        have e5' : b5 = u1.heap.size := e5
        replace HA := HA.kept (by rw [← e5']; exact n5)
        replace HB := HB.kept (by rw [← e5']; exact n5)
        replace H8 := H8.kept (by rw [← e5']; exact n5)
        replace HW := HW.trans (n5.mono (by omega))
        clear e5 e5' n5
        refine hK.out _ _ ?_ (fun hHeld => ?_)
        · exact ⟨HA, HB⟩
        clear hK K
        (try simp only [Act.put, List.getElem_toArray, List.getElem_cons_zero, List.getElem_cons_succ, List.setIfInBounds_toArray, List.set_cons_zero, List.set_cons_succ])
        refine wpAnyH_ready (rs := [9, 10]) (by kernel_rfl) (by simp) ?_
        refine AllReadyH.cons rfl (fun K hK => ?_) (AllReadyH.cons rfl (fun K hK => ?_) AllReadyH.nil)
        · simp only [List.getElem_toArray, List.getElem_cons_zero, List.getElem_cons_succ]
          rw [if_pos (by rfl)]
          refine wp_alloc_op 44 (msC zMs (.slice none 0 0)) rfl Try.msZero (fun b6 u3 e6 H6 n6 => ?_)
          have lHA := HA.lt
          have lHB := HB.lt
          have lH8 := H8.lt
          have lH5 := H5.lt
          rw [← e6] at lHA lHB lH8 lH5
          have e6' : b6 = u2.heap.size := e6
          replace HA := HA.kept (by rw [← e6']; exact n6)
          replace HB := HB.kept (by rw [← e6']; exact n6)
          replace H8 := H8.kept (by rw [← e6']; exact n6)
          replace H5 := H5.kept (by rw [← e6']; exact n6)
          replace HW := HW.trans (n6.mono (by omega))
          clear e6 e6' n6
          refine hK.out _ _ ?_ (fun hHeld => ?_)
          · exact ⟨HA, HB⟩
          clear hK K
          (try simp only [Act.put, List.getElem_toArray, List.getElem_cons_zero, List.getElem_cons_succ, List.setIfInBounds_toArray, List.set_cons_zero, List.set_cons_succ])
          refine wpAnyH_ready (rs := [10]) (by kernel_rfl) (by simp) ?_
          refine AllReadyH.cons rfl (fun K hK => ?_) AllReadyH.nil
          · simp only [List.getElem_toArray, List.getElem_cons_zero, List.getElem_cons_succ]
            rw [if_pos (by rfl)]
            refine wp_alloc_op 52 (ldC zLd zLdA) rfl Try.ldZero (fun b7 u4 e7 H7 n7 => ?_)
            have lHA := HA.lt
            have lHB := HB.lt
            have lH8 := H8.lt
            have lH5 := H5.lt
            have lH6 := H6.lt
            rw [← e7] at lHA lHB lH8 lH5 lH6
            have e7' : b7 = u3.heap.size := e7
            replace HA := HA.kept (by rw [← e7']; exact n7)
            replace HB := HB.kept (by rw [← e7']; exact n7)
            replace H8 := H8.kept (by rw [← e7']; exact n7)
            replace H5 := H5.kept (by rw [← e7']; exact n7)
            replace H6 := H6.kept (by rw [← e7']; exact n7)
            replace HW := HW.trans (n7.mono (by omega))
            clear e7 e7' n7
            refine hK.out _ _ ?_ (fun hHeld => ?_)
            · exact ⟨HA, HB⟩
            clear hK K
            (try simp only [Act.put, List.getElem_toArray, List.getElem_cons_zero, List.getElem_cons_succ, List.setIfInBounds_toArray, List.set_cons_zero, List.set_cons_succ])
            exact tail b5 b6 b7 b8 u4 ⟨HA, HB, H5, H6, H7, H8, HW, by omega, by omega⟩
        · simp only [List.getElem_toArray, List.getElem_cons_zero, List.getElem_cons_succ]
          rw [if_pos (by rfl)]
          refine wp_alloc_op 52 (ldC zLd zLdA) rfl Try.ldZero (fun b7 u3 e7 H7 n7 => ?_)
          have lHA := HA.lt
          have lHB := HB.lt
          have lH8 := H8.lt
          have lH5 := H5.lt
          rw [← e7] at lHA lHB lH8 lH5
          have e7' : b7 = u2.heap.size := e7
          replace HA := HA.kept (by rw [← e7']; exact n7)
          replace HB := HB.kept (by rw [← e7']; exact n7)
          replace H8 := H8.kept (by rw [← e7']; exact n7)
          replace H5 := H5.kept (by rw [← e7']; exact n7)
          replace HW := HW.trans (n7.mono (by omega))
          clear e7 e7' n7
          refine hK.out _ _ ?_ (fun hHeld => ?_)
          · exact ⟨HA, HB⟩
          clear hK K
          (try simp only [Act.put, List.getElem_toArray, List.getElem_cons_zero, List.getElem_cons_succ, List.setIfInBounds_toArray, List.set_cons_zero, List.set_cons_succ])
          refine wpAnyH_ready (rs := [9]) (by kernel_rfl) (by simp) ?_
          refine AllReadyH.cons rfl (fun K hK => ?_) AllReadyH.nil
          · simp only [List.getElem_toArray, List.getElem_cons_zero, List.getElem_cons_succ]
            rw [if_pos (by rfl)]
            refine wp_alloc_op 44 (msC zMs (.slice none 0 0)) rfl Try.msZero (fun b6 u4 e6 H6 n6 => ?_)
            have lHA := HA.lt
            have lHB := HB.lt
            have lH8 := H8.lt
            have lH5 := H5.lt
            have lH7 := H7.lt
            rw [← e6] at lHA lHB lH8 lH5 lH7
            have e6' : b6 = u3.heap.size := e6
            replace HA := HA.kept (by rw [← e6']; exact n6)
            replace HB := HB.kept (by rw [← e6']; exact n6)
            replace H8 := H8.kept (by rw [← e6']; exact n6)
            replace H5 := H5.kept (by rw [← e6']; exact n6)
            replace H7 := H7.kept (by rw [← e6']; exact n6)
            replace HW := HW.trans (n6.mono (by omega))
            clear e6 e6' n6
            refine hK.out _ _ ?_ (fun hHeld => ?_)
            · exact ⟨HA, HB⟩
            clear hK K
            (try simp only [Act.put, List.getElem_toArray, List.getElem_cons_zero, List.getElem_cons_succ, List.setIfInBounds_toArray, List.set_cons_zero, List.set_cons_succ])
            exact tail b5 b6 b7 b8 u4 ⟨HA, HB, H5, H6, H7, H8, HW, by omega, by omega⟩
      · simp only [List.getElem_toArray, List.getElem_cons_zero, List.getElem_cons_succ]
        rw [if_pos (by rfl)]
        refine wp_alloc_op 44 (msC zMs (.slice none 0 0)) rfl Try.msZero (fun b6 u2 e6 H6 n6 => ?_)
        have lHA := HA.lt
        have lHB := HB.lt
        have lH8 := H8.lt
        rw [← e6] at lHA lHB lH8
        have e6' : b6 = u1.heap.size := e6
        replace HA := HA.kept (by rw [← e6']; exact n6)
        replace HB := HB.kept (by rw [← e6']; exact n6)
        replace H8 := H8.kept (by rw [← e6']; exact n6)
        replace HW := HW.trans (n6.mono (by omega))
        clear e6 e6' n6
        refine hK.out _ _ ?_ (fun hHeld => ?_)
        · exact ⟨HA, HB⟩
        clear hK K
        (try simp only [Act.put, List.getElem_toArray, List.getElem_cons_zero, List.getElem_cons_succ, List.setIfInBounds_toArray, List.set_cons_zero, List.set_cons_succ])
        refine wpAnyH_ready (rs := [8, 10]) (by kernel_rfl) (by simp) ?_
        refine AllReadyH.cons rfl (fun K hK => ?_) (AllReadyH.cons rfl (fun K hK => ?_) AllReadyH.nil)
        · simp only [List.getElem_toArray, List.getElem_cons_zero, List.getElem_cons_succ]
          rw [if_pos (by rfl)]
          refine wp_alloc_op 44 (msC zMs (.slice none 0 0)) rfl Try.msZero (fun b5 u3 e5 H5 n5 => ?_)
          have lHA := HA.lt
          have lHB := HB.lt
          have lH8 := H8.lt
          have lH6 := H6.lt
          rw [← e5] at lHA lHB lH8 lH6
          have e5' : b5 = u2.heap.size := e5
          replace HA := HA.kept (by rw [← e5']; exact n5)
          replace HB := HB.kept (by rw [← e5']; exact n5)
          replace H8 := H8.kept (by rw [← e5']; exact n5)
          replace H6 := H6.kept (by rw [← e5']; exact n5)
          replace HW := HW.trans (n5.mono (by omega))
          clear e5 e5' n5
          refine hK.out _ _ ?_ (fun hHeld => ?_)
          · exact ⟨HA, HB⟩
          clear hK K
          (try simp only [Act.put, List.getElem_toArray, List.getElem_cons_zero, List.getElem_cons_succ, List.setIfInBounds_toArray, List.set_cons_zero, List.set_cons_succ])
          refine wpAnyH_ready (rs := [10]) (by kernel_rfl) (by simp) ?_
          refine AllReadyH.cons rfl (fun K hK => ?_) AllReadyH.nil
          · simp only [List.getElem_toArray, List.getElem_cons_zero, List.getElem_cons_succ]
            rw [if_pos (by rfl)]
            refine wp_alloc_op 52 (ldC zLd zLdA) rfl Try.ldZero (fun b7 u4 e7 H7 n7 => ?_)
            have lHA := HA.lt
            have lHB := HB.lt
            have lH8 := H8.lt
            have lH6 := H6.lt
            have lH5 := H5.lt
            rw [← e7] at lHA lHB lH8 lH6 lH5
            have e7' : b7 = u3.heap.size := e7
            replace HA := HA.kept (by rw [← e7']; exact n7)
            replace HB := HB.kept (by rw [← e7']; exact n7)
            replace H8 := H8.kept (by rw [← e7']; exact n7)
            replace H6 := H6.kept (by rw [← e7']; exact n7)
            replace H5 := H5.kept (by rw [← e7']; exact n7)
            replace HW := HW.trans (n7.mono (by omega))
            clear e7 e7' n7
            refine hK.out _ _ ?_ (fun hHeld => ?_)
            · exact ⟨HA, HB⟩
            clear hK K
            (try simp only [Act.put, List.getElem_toArray, List.getElem_cons_zero, List.getElem_cons_succ, List.setIfInBounds_toArray, List.set_cons_zero, List.set_cons_succ])
            exact tail b5 b6 b7 b8 u4 ⟨HA, HB, H5, H6, H7, H8, HW, by omega, by omega⟩
        · simp only [List.getElem_toArray, List.getElem_cons_zero, List.getElem_cons_succ]
          rw [if_pos (by rfl)]
          refine wp_alloc_op 52 (ldC zLd zLdA) rfl Try.ldZero (fun b7 u3 e7 H7 n7 => ?_)
          have lHA := HA.lt
          have lHB := HB.lt
          have lH8 := H8.lt
          have lH6 := H6.lt
          rw [← e7] at lHA lHB lH8 lH6
          have e7' : b7 = u2.heap.size := e7
          replace HA := HA.kept (by rw [← e7']; exact n7)
          replace HB := HB.kept (by rw [← e7']; exact n7)
          replace H8 := H8.kept (by rw [← e7']; exact n7)
          replace H6 := H6.kept (by rw [← e7']; exact n7)
          replace HW := HW.trans (n7.mono (by omega))
          clear e7 e7' n7
          refine hK.out _ _ ?_ (fun hHeld => ?_)
          · exact ⟨HA, HB⟩
          clear hK K
          (try simp only [Act.put, List.getElem_toArray, List.getElem_cons_zero, List.getElem_cons_succ, List.setIfInBounds_toArray, List.set_cons_zero, List.set_cons_succ])
          refine wpAnyH_ready (rs := [8]) (by kernel_rfl) (by simp) ?_
          refine AllReadyH.cons rfl (fun K hK => ?_) AllReadyH.nil
          · simp only [List.getElem_toArray, List.getElem_cons_zero, List.getElem_cons_succ]
            rw [if_pos (by rfl)]
            refine wp_alloc_op 44 (msC zMs (.slice none 0 0)) rfl Try.msZero (fun b5 u4 e5 H5 n5 => ?_)
            have lHA := HA.lt
            have lHB := HB.lt
            have lH8 := H8.lt
            have lH6 := H6.lt
            have lH7 := H7.lt
            rw [← e5] at lHA lHB lH8 lH6 lH7
            have e5' : b5 = u3.heap.size := e5
            replace HA := HA.kept (by rw [← e5']; exact n5)
            replace HB := HB.kept (by rw [← e5']; exact n5)
            replace H8 := H8.kept (by rw [← e5']; exact n5)
            replace H6 := H6.kept (by rw [← e5']; exact n5)
            replace H7 := H7.kept (by rw [← e5']; exact n5)
            replace HW := HW.trans (n5.mono (by omega))
            clear e5 e5' n5
            refine hK.out _ _ ?_ (fun hHeld => ?_)
            · exact ⟨HA, HB⟩
            clear hK K
            (try simp only [Act.put, List.getElem_toArray, List.getElem_cons_zero, List.getElem_cons_succ, List.setIfInBounds_toArray, List.set_cons_zero, List.set_cons_succ])
            exact tail b5 b6 b7 b8 u4 ⟨HA, HB, H5, H6, H7, H8, HW, by omega, by omega⟩
      · simp only [List.getElem_toArray, List.getElem_cons_zero, List.getElem_cons_succ]
        rw [if_pos (by rfl)]
        refine wp_alloc_op 52 (ldC zLd zLdA) rfl Try.ldZero (fun b7 u2 e7 H7 n7 => ?_)
        have lHA := HA.lt
        have lHB := HB.lt
        have lH8 := H8.lt
        rw [← e7] at lHA lHB lH8
        have e7' : b7 = u1.heap.size := e7
        replace HA := HA.kept (by rw [← e7']; exact n7)
        replace HB := HB.kept (by rw [← e7']; exact n7)
        replace H8 := H8.kept (by rw [← e7']; exact n7)
        replace HW := HW.trans (n7.mono (by omega))
        clear e7 e7' n7
        refine hK.out _ _ ?_ (fun hHeld => ?_)
        · exact ⟨HA, HB⟩
        clear hK K
        (try simp only [Act.put, List.getElem_toArray, List.getElem_cons_zero, List.getElem_cons_succ, List.setIfInBounds_toArray, List.set_cons_zero, List.set_cons_succ])
        refine wpAnyH_ready (rs := [8, 9]) (by kernel_rfl) (by simp) ?_
        refine AllReadyH.cons rfl (fun K hK => ?_) (AllReadyH.cons rfl (fun K hK => ?_) AllReadyH.nil)
        · simp only [List.getElem_toArray, List.getElem_cons_zero, List.getElem_cons_succ]
          rw [if_pos (by rfl)]
          refine wp_alloc_op 44 (msC zMs (.slice none 0 0)) rfl Try.msZero (fun b5 u3 e5 H5 n5 => ?_)
          have lHA := HA.lt
          have lHB := HB.lt
          have lH8 := H8.lt
          have lH7 := H7.lt
          rw [← e5] at lHA lHB lH8 lH7
          have e5' : b5 = u2.heap.size := e5
          replace HA := HA.kept (by rw [← e5']; exact n5)
          replace HB := HB.kept (by rw [← e5']; exact n5)
          replace H8 := H8.kept (by rw [← e5']; exact n5)
          replace H7 := H7.kept (by rw [← e5']; exact n5)
          replace HW := HW.trans (n5.mono (by omega))
          clear e5 e5' n5
          refine hK.out _ _ ?_ (fun hHeld => ?_)
          · exact ⟨HA, HB⟩
          clear hK K
          (try simp only [Act.put, List.getElem_toArray, List.getElem_cons_zero, List.getElem_cons_succ, List.setIfInBounds_toArray, List.set_cons_zero, List.set_cons_succ])
          refine wpAnyH_ready (rs := [9]) (by kernel_rfl) (by simp) ?_
          refine AllReadyH.cons rfl (fun K hK => ?_) AllReadyH.nil
          · simp only [List.getElem_toArray, List.getElem_cons_zero, List.getElem_cons_succ]
            rw [if_pos (by rfl)]
            refine wp_alloc_op 44 (msC zMs (.slice none 0 0)) rfl Try.msZero (fun b6 u4 e6 H6 n6 => ?_)
            have lHA := HA.lt
            have lHB := HB.lt
            have lH8 := H8.lt
            have lH7 := H7.lt
            have lH5 := H5.lt
            rw [← e6] at lHA lHB lH8 lH7 lH5
            have e6' : b6 = u3.heap.size := e6
            replace HA := HA.kept (by rw [← e6']; exact n6)
            replace HB := HB.kept (by rw [← e6']; exact n6)
            replace H8 := H8.kept (by rw [← e6']; exact n6)
            replace H7 := H7.kept (by rw [← e6']; exact n6)
            replace H5 := H5.kept (by rw [← e6']; exact n6)
            replace HW := HW.trans (n6.mono (by omega))
            clear e6 e6' n6
            refine hK.out _ _ ?_ (fun hHeld => ?_)
            · exact ⟨HA, HB⟩
            clear hK K
            (try simp only [Act.put, List.getElem_toArray, List.getElem_cons_zero, List.getElem_cons_succ, List.setIfInBounds_toArray, List.set_cons_zero, List.set_cons_succ])
            exact tail b5 b6 b7 b8 u4 ⟨HA, HB, H5, H6, H7, H8, HW, by omega, by omega⟩
        · simp only [List.getElem_toArray, List.getElem_cons_zero, List.getElem_cons_succ]
          rw [if_pos (by rfl)]
          refine wp_alloc_op 44 (msC zMs (.slice none 0 0)) rfl Try.msZero (fun b6 u3 e6 H6 n6 => ?_)
          have lHA := HA.lt
          have lHB := HB.lt
          have lH8 := H8.lt
          have lH7 := H7.lt
          rw [← e6] at lHA lHB lH8 lH7
          have e6' : b6 = u2.heap.size := e6
          replace HA := HA.kept (by rw [← e6']; exact n6)
          replace HB := HB.kept (by rw [← e6']; exact n6)
          replace H8 := H8.kept (by rw [← e6']; exact n6)
          replace H7 := H7.kept (by rw [← e6']; exact n6)
          replace HW := HW.trans (n6.mono (by omega))
          clear e6 e6' n6
          refine hK.out _ _ ?_ (fun hHeld => ?_)
          · exact ⟨HA, HB⟩
          clear hK K
          (try simp only [Act.put, List.getElem_toArray, List.getElem_cons_zero, List.getElem_cons_succ, List.setIfInBounds_toArray, List.set_cons_zero, List.set_cons_succ])
          refine wpAnyH_ready (rs := [8]) (by kernel_rfl) (by simp) ?_
          refine AllReadyH.cons rfl (fun K hK => ?_) AllReadyH.nil
          · simp only [List.getElem_toArray, List.getElem_cons_zero, List.getElem_cons_succ]
            rw [if_pos (by rfl)]
            refine wp_alloc_op 44 (msC zMs (.slice none 0 0)) rfl Try.msZero (fun b5 u4 e5 H5 n5 => ?_)
            have lHA := HA.lt
            have lHB := HB.lt
            have lH8 := H8.lt
            have lH7 := H7.lt
            have lH6 := H6.lt
            rw [← e5] at lHA lHB lH8 lH7 lH6
            have e5' : b5 = u3.heap.size := e5
            replace HA := HA.kept (by rw [← e5']; exact n5)
            replace HB := HB.kept (by rw [← e5']; exact n5)
            replace H8 := H8.kept (by rw [← e5']; exact n5)
            replace H7 := H7.kept (by rw [← e5']; exact n5)
            replace H6 := H6.kept (by rw [← e5']; exact n5)
            replace HW := HW.trans (n5.mono (by omega))
            clear e5 e5' n5
            refine hK.out _ _ ?_ (fun hHeld => ?_)
            · exact ⟨HA, HB⟩
            clear hK K
            (try simp only [Act.put, List.getElem_toArray, List.getElem_cons_zero, List.getElem_cons_succ, List.setIfInBounds_toArray, List.set_cons_zero, List.set_cons_succ])
            exact tail b5 b6 b7 b8 u4 ⟨HA, HB, H5, H6, H7, H8, HW, by omega, by omega⟩
  case tl =>
    intro b5 b6 b7 b8 u hF
    obtain ⟨HA, HB, H5, H6, H7, H8, HW, ⟨d1, d2, d3, d4, d5, d6⟩, e1, e2, e3, e4⟩ := hF
    have lA : w.heap.size < B := hAB
    refine wpAnyH_ready (rs := [12]) (by kernel_rfl) (by simp) ?_
    refine AllReadyH.cons rfl (fun K hK => ?_) AllReadyH.nil
    simp only [List.getElem_toArray, List.getElem_cons_zero, List.getElem_cons_succ]
    rw [if_pos (by rfl)]
    refine wp_store_op (k := 0) 44 (.agg (mstC x)) (mstC x) (by rfl) rfl rfl H5 (by kernel_rfl) (Nat.le_refl _) (by rfl) (st_whole _ _ rfl) (fun u1 G bb gg => ?_)
    replace HA := HA.grown gg (by simp; omega)
    replace HB := HB.grown gg (by simp; omega)
    replace H6 := H6.grown gg (by simp; omega)
    replace H7 := H7.grown gg (by simp; omega)
    replace H8 := H8.grown gg (by simp; omega)
    replace HW := grown_belowV HW gg HW.size (by omega)
    replace H5 := G
    clear bb gg G
    refine hK.out _ _ ?_ (fun hHeld => ?_)
    · exact ⟨HA, HB⟩
    clear hK K
    (try simp only [Act.put, List.getElem_toArray, List.getElem_cons_zero, List.getElem_cons_succ, List.setIfInBounds_toArray, List.set_cons_zero, List.set_cons_succ])
    refine wpAnyH_ready (rs := [13]) (by kernel_rfl) (by simp) ?_
    refine AllReadyH.cons rfl (fun K hK => ?_) AllReadyH.nil
    simp only [List.getElem_toArray, List.getElem_cons_zero, List.getElem_cons_succ]
    rw [if_pos (by rfl)]
    refine wp_store_op (k := 0) 44 (.agg (mstC y)) (mstC y) (by rfl) rfl rfl H6 (by kernel_rfl) (Nat.le_refl _) (by rfl) (st_whole _ _ rfl) (fun u2 G bb gg => ?_)
    replace HA := HA.grown gg (by simp; omega)
    replace HB := HB.grown gg (by simp; omega)
    replace H5 := H5.grown gg (by simp; omega)
    replace H7 := H7.grown gg (by simp; omega)
    replace H8 := H8.grown gg (by simp; omega)
    replace HW := grown_belowV HW gg HW.size (by omega)
    replace H6 := G
    clear bb gg G
    refine hK.out _ _ ?_ (fun hHeld => ?_)
    · exact ⟨HA, HB⟩
    clear hK K
    (try simp only [Act.put, List.getElem_toArray, List.getElem_cons_zero, List.getElem_cons_succ, List.setIfInBounds_toArray, List.set_cons_zero, List.set_cons_succ])
    refine wpAnyH_ready (rs := [14]) (by kernel_rfl) (by simp) ?_
    refine AllReadyH.cons rfl (fun K hK => ?_) AllReadyH.nil
    simp only [List.getElem_toArray, List.getElem_cons_zero, List.getElem_cons_succ]
    rw [if_pos (by rfl)]
    refine wp_store_op (k := 0) 52 (.agg (ldC x.ld x.lq)) (ldC x.ld x.lq) (by rfl) rfl rfl H7 (by kernel_rfl) (Nat.le_refl _) (by rfl) (st_whole _ _ rfl) (fun u3 G bb gg => ?_)
    replace HA := HA.grown gg (by simp; omega)
    replace HB := HB.grown gg (by simp; omega)
    replace H5 := H5.grown gg (by simp; omega)
    replace H6 := H6.grown gg (by simp; omega)
    replace H8 := H8.grown gg (by simp; omega)
    replace HW := grown_belowV HW gg HW.size (by omega)
    replace H7 := G
    clear bb gg G
    refine hK.out _ _ ?_ (fun hHeld => ?_)
    · exact ⟨HA, HB⟩
    clear hK K
    (try simp only [Act.put, List.getElem_toArray, List.getElem_cons_zero, List.getElem_cons_succ, List.setIfInBounds_toArray, List.set_cons_zero, List.set_cons_succ])
    refine wpAnyH_ready (rs := [15]) (by kernel_rfl) (by simp) ?_
    refine AllReadyH.cons rfl (fun K hK => ?_) AllReadyH.nil
    simp only [List.getElem_toArray, List.getElem_cons_zero, List.getElem_cons_succ]
    rw [if_pos (by rfl)]
    refine wp_store_op (k := 0) 52 (.agg (ldC y.ld y.lq)) (ldC y.ld y.lq) (by rfl) rfl rfl H8 (by kernel_rfl) (Nat.le_refl _) (by rfl) (st_whole _ _ rfl) (fun u4 G bb gg => ?_)
    replace HA := HA.grown gg (by simp; omega)
    replace HB := HB.grown gg (by simp; omega)
    replace H5 := H5.grown gg (by simp; omega)
    replace H6 := H6.grown gg (by simp; omega)
    replace H7 := H7.grown gg (by simp; omega)
    replace HW := grown_belowV HW gg HW.size (by omega)
    replace H8 := G
    clear bb gg G
    refine hK.out _ _ ?_ (fun hHeld => ?_)
    · exact ⟨HA, HB⟩
    clear hK K
    (try simp only [Act.put, List.getElem_toArray, List.getElem_cons_zero, List.getElem_cons_succ, List.setIfInBounds_toArray, List.set_cons_zero, List.set_cons_succ])
    refine wpAnyH_done (by kernel_rfl) ?_ _
    refine NoPanic.normal ?_
    go_upto_region 2 with (fail)
    refine wp_region_lit ?_
    rename_i hK
    refine chain_start6 (p := .pointer (some ⟨w.heap.size, 0, none⟩)) (q := .pointer (some ⟨B, 0, none⟩)) (p5 := .pointer (some ⟨b5, 0, none⟩)) (p6 := .pointer (some ⟨b6, 0, none⟩)) (p7 := .pointer (some ⟨b7, 0, none⟩)) (p8 := .pointer (some ⟨b8, 0, none⟩)) (n := 204) rfl rfl rfl rfl rfl rfl rfl rfl ?_
    intro a0 h2 h3 h5 h6 h7 h8 hn hd
    refine cmp5 ((x.k == y.k)) (Sm.refl 9 _) h2 h2 h3 (fun _ _ _ => wanted_plain rfl _) (fun _ _ _ => wanted_plain rfl _) (fun _ _ _ => wanted_plain rfl _) (fun _ _ _ => wanted_plain rfl _) (fun _ _ _ => wanted_plain rfl _) rfl rfl rfl rfl rfl (by rw [hn]; decide) (fun _ h => ex_field (k := 0) rfl h (by kernel_rfl)) (fun _ h => ex_load (v := .int .i64 x.k) rfl h (by have c := HA.cv 0 (.int .i64 x.k) rfl; go_simp)) (fun _ h => ex_field (k := 0) rfl h (by kernel_rfl)) (fun _ h => ex_load (v := .int .i64 y.k) rfl h (by have c := HB.cv 0 (.int .i64 y.k) rfl; go_simp)) (fun _ h h' => ex_eq rfl h h' (by first | (go_simp; done) | (go_simp; rfl) | (go_simp; simp))) ?_
    intro a1 S1 G1 A1
    refine one_move S1 A1 rfl rfl rfl (by rw [hn]; decide) ?_
    intro a2 S A2
    clear S1 A1 G1
    rcases Bool.eq_false_or_eq_true ((x.k == y.k)) with c0 | c0
    rotate_left
    · rw [c0] at A2
      refine skip_to 204 4 _ _ A2 (S.sz.trans hn) (by kernel_rfl) ?_
      intro a' e1 e2 e3
      exact chain_end hK rfl (e2.trans (S.df.trans hd)) e3 ⟨by simp [refVd, c0], HW⟩
    rw [c0] at A2
    have G := A2
    clear A2
    refine cmp5 ((x.e == y.e)) S G h2 h3 (fun _ _ q => wanted_at rfl (by kernel_rfl) q) (fun _ _ q => wanted_at rfl (by kernel_rfl) q) (fun _ _ q => wanted_at rfl (by kernel_rfl) q) (fun _ _ q => wanted_at rfl (by kernel_rfl) q) (fun _ _ q => wanted_at rfl (by kernel_rfl) q) rfl rfl rfl rfl rfl (by rw [hn]; decide) (fun _ h => ex_field (k := 1) rfl h (by kernel_rfl)) (fun _ h => ex_load (v := .int .i64 x.e) rfl h (by have c := HA.cv 1 (.int .i64 x.e) rfl; go_simp)) (fun _ h => ex_field (k := 1) rfl h (by kernel_rfl)) (fun _ h => ex_load (v := .int .i64 y.e) rfl h (by have c := HB.cv 1 (.int .i64 y.e) rfl; go_simp)) (fun _ h h' => ex_eq rfl h h' (by first | (go_simp; done) | (go_simp; rfl) | (go_simp; simp))) ?_
    intro a1 S1 G1 A1
    clear S G
    refine pick_move S1 G1 A1 rfl rfl rfl rfl rfl rfl (by rw [hn]; decide) ?_
    intro a2 S A2
    clear S1 A1 G1
    rcases Bool.eq_false_or_eq_true ((x.e == y.e)) with c1 | c1
    rotate_left
    · rw [c1] at A2
      refine skip_to 204 4 _ _ A2 (S.sz.trans hn) (by kernel_rfl) ?_
      intro a' e1 e2 e3
      exact chain_end hK rfl (e2.trans (S.df.trans hd)) e3 ⟨by simp [refVd, c0, c1], HW⟩
    rw [c1] at A2
    have G := A2
    clear A2
    refine cmp5 ((x.p == y.p)) S G h2 h3 (fun _ _ q => wanted_at rfl (by kernel_rfl) q) (fun _ _ q => wanted_at rfl (by kernel_rfl) q) (fun _ _ q => wanted_at rfl (by kernel_rfl) q) (fun _ _ q => wanted_at rfl (by kernel_rfl) q) (fun _ _ q => wanted_at rfl (by kernel_rfl) q) rfl rfl rfl rfl rfl (by rw [hn]; decide) (fun _ h => ex_field (k := 2) rfl h (by kernel_rfl)) (fun _ h => ex_load (v := .int .i64 x.p) rfl h (by have c := HA.cv 2 (.int .i64 x.p) rfl; go_simp)) (fun _ h => ex_field (k := 2) rfl h (by kernel_rfl)) (fun _ h => ex_load (v := .int .i64 y.p) rfl h (by have c := HB.cv 2 (.int .i64 y.p) rfl; go_simp)) (fun _ h h' => ex_eq rfl h h' (by first | (go_simp; done) | (go_simp; rfl) | (go_simp; simp))) ?_
    intro a1 S1 G1 A1
    clear S G
    refine pick_move S1 G1 A1 rfl rfl rfl rfl rfl rfl (by rw [hn]; decide) ?_
    intro a2 S A2
    clear S1 A1 G1
    rcases Bool.eq_false_or_eq_true ((x.p == y.p)) with c2 | c2
    rotate_left
    · rw [c2] at A2
      refine skip_to 204 4 _ _ A2 (S.sz.trans hn) (by kernel_rfl) ?_
      intro a' e1 e2 e3
      exact chain_end hK rfl (e2.trans (S.df.trans hd)) e3 ⟨by simp [refVd, c0, c1, c2], HW⟩
    rw [c2] at A2
    have G := A2
    clear A2
    refine cal5 (sameB x.fr y.fr) S G h2 h3 (fun _ _ q => wanted_at rfl (by kernel_rfl) q) (fun _ _ q => wanted_at rfl (by kernel_rfl) q) (fun _ _ q => wanted_at rfl (by kernel_rfl) q) (fun _ _ q => wanted_at rfl (by kernel_rfl) q) (fun _ _ q => wanted_at rfl (by kernel_rfl) q) rfl rfl rfl rfl rfl (by rw [hn]; decide) (fun _ h => ex_field (k := 3) rfl h (by kernel_rfl)) (fun _ h => exec_load_blk _ (frC x.fr) rfl h HA (by kernel_rfl) (by kernel_rfl) (by kernel_rfl)) (fun _ h => ex_field (k := 3) rfl h (by kernel_rfl)) (fun _ h => exec_load_blk _ (frC y.fr) rfl h HB (by kernel_rfl) (by kernel_rfl) (by kernel_rfl)) (fun _ h h' => ex_call2 rfl h h' Try.func14 (by kernel_rfl) rfl) (refSame_any x.fr y.fr _ (hf.below HW) (hg.below HW)) ?_
    intro a1 u kk S1 G1 A1
    replace HA := HA.kept kk
    replace HB := HB.kept kk
    replace H5 := H5.kept kk
    replace H6 := H6.kept kk
    replace H7 := H7.kept kk
    replace H8 := H8.kept kk
    replace HW := HW.trans (kk.mono HW.size)
    clear S G
    refine pick_move S1 G1 A1 rfl rfl rfl rfl rfl rfl (by rw [hn]; decide) ?_
    intro a2 S A2
    clear S1 A1 G1
    rcases Bool.eq_false_or_eq_true (sameB x.fr y.fr) with c3 | c3
    rotate_left
    · rw [c3] at A2
      refine skip_to 204 4 _ _ A2 (S.sz.trans hn) (by kernel_rfl) ?_
      intro a' e1 e2 e3
      exact chain_end hK rfl (e2.trans (S.df.trans hd)) e3 ⟨by simp [refVd, c0, c1, c2, c3], HW⟩
    rw [c3] at A2
    have G := A2
    clear A2
    refine cmp5 (eqAr x.ar y.ar) S G h2 h3 (fun _ _ q => wanted_at rfl (by kernel_rfl) q) (fun _ _ q => wanted_at rfl (by kernel_rfl) q) (fun _ _ q => wanted_at rfl (by kernel_rfl) q) (fun _ _ q => wanted_at rfl (by kernel_rfl) q) (fun _ _ q => wanted_at rfl (by kernel_rfl) q) rfl rfl rfl rfl rfl (by rw [hn]; decide) (fun _ h => ex_field (k := 24) rfl h (by kernel_rfl)) (fun _ h => exec_load_blk _ (arC x.ar) rfl h HA (by kernel_rfl) (by kernel_rfl) (by kernel_rfl)) (fun _ h => ex_field (k := 24) rfl h (by kernel_rfl)) (fun _ h => exec_load_blk _ (arC y.ar) rfl h HB (by kernel_rfl) (by kernel_rfl) (by kernel_rfl)) (fun _ h h' => exec_eq_agg .eql _ (arC x.ar) (arC y.ar) (eqAr x.ar y.ar) rfl (Or.inl rfl) h h' (by kernel_rfl) (run_eql_ar x.ar y.ar _)) ?_
    intro a1 S1 G1 A1
    clear S G
    refine pick_move S1 G1 A1 rfl rfl rfl rfl rfl rfl (by rw [hn]; decide) ?_
    intro a2 S A2
    clear S1 A1 G1
    rcases Bool.eq_false_or_eq_true (eqAr x.ar y.ar) with c4 | c4
    rotate_left
    · rw [c4] at A2
      refine skip_to 204 4 _ _ A2 (S.sz.trans hn) (by kernel_rfl) ?_
      intro a' e1 e2 e3
      exact chain_end hK rfl (e2.trans (S.df.trans hd)) e3 ⟨by simp [refVd, c0, c1, c2, c3, c4], HW⟩
    rw [c4] at A2
    have G := A2
    clear A2
    refine cmp5 (eqPa x.pa y.pa) S G h2 h3 (fun _ _ q => wanted_at rfl (by kernel_rfl) q) (fun _ _ q => wanted_at rfl (by kernel_rfl) q) (fun _ _ q => wanted_at rfl (by kernel_rfl) q) (fun _ _ q => wanted_at rfl (by kernel_rfl) q) (fun _ _ q => wanted_at rfl (by kernel_rfl) q) rfl rfl rfl rfl rfl (by rw [hn]; decide) (fun _ h => ex_field (k := 45) rfl h (by kernel_rfl)) (fun _ h => exec_load_blk _ (paC x.pa) rfl h HA (by kernel_rfl) (by kernel_rfl) (by kernel_rfl)) (fun _ h => ex_field (k := 45) rfl h (by kernel_rfl)) (fun _ h => exec_load_blk _ (paC y.pa) rfl h HB (by kernel_rfl) (by kernel_rfl) (by kernel_rfl)) (fun _ h h' => exec_eq_agg .eql _ (paC x.pa) (paC y.pa) (eqPa x.pa y.pa) rfl (Or.inl rfl) h h' (by kernel_rfl) (run_eql_pa x.pa y.pa _)) ?_
    intro a1 S1 G1 A1
    clear S G
    refine pick_move S1 G1 A1 rfl rfl rfl rfl rfl rfl (by rw [hn]; decide) ?_
    intro a2 S A2
    clear S1 A1 G1
    rcases Bool.eq_false_or_eq_true (eqPa x.pa y.pa) with c5 | c5
    rotate_left
    · rw [c5] at A2
      refine skip_to 204 4 _ _ A2 (S.sz.trans hn) (by kernel_rfl) ?_
      intro a' e1 e2 e3
      exact chain_end hK rfl (e2.trans (S.df.trans hd)) e3 ⟨by simp [refVd, c0, c1, c2, c3, c4, c5], HW⟩
    rw [c5] at A2
    have G := A2
    clear A2
    refine cmp5 (eqBp x.bp y.bp) S G h2 h3 (fun _ _ q => wanted_at rfl (by kernel_rfl) q) (fun _ _ q => wanted_at rfl (by kernel_rfl) q) (fun _ _ q => wanted_at rfl (by kernel_rfl) q) (fun _ _ q => wanted_at rfl (by kernel_rfl) q) (fun _ _ q => wanted_at rfl (by kernel_rfl) q) rfl rfl rfl rfl rfl (by rw [hn]; decide) (fun _ h => ex_field (k := 55) rfl h (by kernel_rfl)) (fun _ h => exec_load_blk _ (bpC x.bp) rfl h HA (by kernel_rfl) (by kernel_rfl) (by kernel_rfl)) (fun _ h => ex_field (k := 55) rfl h (by kernel_rfl)) (fun _ h => exec_load_blk _ (bpC y.bp) rfl h HB (by kernel_rfl) (by kernel_rfl) (by kernel_rfl)) (fun _ h h' => exec_eq_agg .eql _ (bpC x.bp) (bpC y.bp) (eqBp x.bp y.bp) rfl (Or.inl rfl) h h' (by kernel_rfl) (run_eql_bp 9996 x.bp y.bp _)) ?_
    intro a1 S1 G1 A1
    clear S G
    refine pick_move S1 G1 A1 rfl rfl rfl rfl rfl rfl (by rw [hn]; decide) ?_
    intro a2 S A2
    clear S1 A1 G1
    rcases Bool.eq_false_or_eq_true (eqBp x.bp y.bp) with c6 | c6
    rotate_left
    · rw [c6] at A2
      refine skip_to 204 4 _ _ A2 (S.sz.trans hn) (by kernel_rfl) ?_
      intro a' e1 e2 e3
      exact chain_end hK rfl (e2.trans (S.df.trans hd)) e3 ⟨by simp [refVd, c0, c1, c2, c3, c4, c5, c6], HW⟩
    rw [c6] at A2
    have G := A2
    clear A2
    refine cmp5 (eqLc x.lc y.lc) S G h2 h3 (fun _ _ q => wanted_at rfl (by kernel_rfl) q) (fun _ _ q => wanted_at rfl (by kernel_rfl) q) (fun _ _ q => wanted_at rfl (by kernel_rfl) q) (fun _ _ q => wanted_at rfl (by kernel_rfl) q) (fun _ _ q => wanted_at rfl (by kernel_rfl) q) rfl rfl rfl rfl rfl (by rw [hn]; decide) (fun _ h => ex_field (k := 142) rfl h (by kernel_rfl)) (fun _ h => exec_load_blk _ (lcC x.lc) rfl h HA (by kernel_rfl) (by kernel_rfl) (by kernel_rfl)) (fun _ h => ex_field (k := 142) rfl h (by kernel_rfl)) (fun _ h => exec_load_blk _ (lcC y.lc) rfl h HB (by kernel_rfl) (by kernel_rfl) (by kernel_rfl)) (fun _ h h' => exec_eq_agg .eql _ (lcC x.lc) (lcC y.lc) (eqLc x.lc y.lc) rfl (Or.inl rfl) h h' (by kernel_rfl) (run_eql_lc 9996 x.lc y.lc _)) ?_
    intro a1 S1 G1 A1
    clear S G
    refine pick_move S1 G1 A1 rfl rfl rfl rfl rfl rfl (by rw [hn]; decide) ?_
    intro a2 S A2
    clear S1 A1 G1
    rcases Bool.eq_false_or_eq_true (eqLc x.lc y.lc) with c7 | c7
    rotate_left
    · rw [c7] at A2
      refine skip_to 204 4 _ _ A2 (S.sz.trans hn) (by kernel_rfl) ?_
      intro a' e1 e2 e3
      exact chain_end hK rfl (e2.trans (S.df.trans hd)) e3 ⟨by simp [refVd, c0, c1, c2, c3, c4, c5, c6, c7], HW⟩
    rw [c7] at A2
    have G := A2
    clear A2
    refine cmp5 (eqMk x.mr y.mr) S G h2 h3 (fun _ _ q => wanted_at rfl (by kernel_rfl) q) (fun _ _ q => wanted_at rfl (by kernel_rfl) q) (fun _ _ q => wanted_at rfl (by kernel_rfl) q) (fun _ _ q => wanted_at rfl (by kernel_rfl) q) (fun _ _ q => wanted_at rfl (by kernel_rfl) q) rfl rfl rfl rfl rfl (by rw [hn]; decide) (fun _ h => ex_field (k := 165) rfl h (by kernel_rfl)) (fun _ h => exec_load_blk _ (mkC x.mr) rfl h HA (by kernel_rfl) (by kernel_rfl) (by kernel_rfl)) (fun _ h => ex_field (k := 165) rfl h (by kernel_rfl)) (fun _ h => exec_load_blk _ (mkC y.mr) rfl h HB (by kernel_rfl) (by kernel_rfl) (by kernel_rfl)) (fun _ h h' => exec_eq_agg .eql _ (mkC x.mr) (mkC y.mr) (eqMk x.mr y.mr) rfl (Or.inl rfl) h h' (by kernel_rfl) (run_eql_mk 9997 x.mr y.mr _)) ?_
    intro a1 S1 G1 A1
    clear S G
    refine pick_move S1 G1 A1 rfl rfl rfl rfl rfl rfl (by rw [hn]; decide) ?_
    intro a2 S A2
    clear S1 A1 G1
    rcases Bool.eq_false_or_eq_true (eqMk x.mr y.mr) with c8 | c8
    rotate_left
    · rw [c8] at A2
      refine skip_to 204 4 _ _ A2 (S.sz.trans hn) (by kernel_rfl) ?_
      intro a' e1 e2 e3
      exact chain_end hK rfl (e2.trans (S.df.trans hd)) e3 ⟨by simp [refVd, c0, c1, c2, c3, c4, c5, c6, c7, c8], HW⟩
    rw [c8] at A2
    have G := A2
    clear A2
    refine cmp5 (eqBp x.ms.base y.ms.base) S G h5 h6 (fun _ _ q => wanted_at rfl (by kernel_rfl) q) (fun _ _ q => wanted_at rfl (by kernel_rfl) q) (fun _ _ q => wanted_at rfl (by kernel_rfl) q) (fun _ _ q => wanted_at rfl (by kernel_rfl) q) (fun _ _ q => wanted_at rfl (by kernel_rfl) q) rfl rfl rfl rfl rfl (by rw [hn]; decide) (fun _ h => ex_field (k := 0) rfl h (by kernel_rfl)) (fun _ h => exec_load_blk _ (bpC x.ms.base) rfl h H5 (by kernel_rfl) (by kernel_rfl) (by kernel_rfl)) (fun _ h => ex_field (k := 0) rfl h (by kernel_rfl)) (fun _ h => exec_load_blk _ (bpC y.ms.base) rfl h H6 (by kernel_rfl) (by kernel_rfl) (by kernel_rfl)) (fun _ h h' => exec_eq_agg .eql _ (bpC x.ms.base) (bpC y.ms.base) (eqBp x.ms.base y.ms.base) rfl (Or.inl rfl) h h' (by kernel_rfl) (run_eql_bp 9996 x.ms.base y.ms.base _)) ?_
    intro a1 S1 G1 A1
    clear S G
    refine pick_move S1 G1 A1 rfl rfl rfl rfl rfl rfl (by rw [hn]; decide) ?_
    intro a2 S A2
    clear S1 A1 G1
    rcases Bool.eq_false_or_eq_true (eqBp x.ms.base y.ms.base) with c9 | c9
    rotate_left
    · rw [c9] at A2
      refine skip_to 204 4 _ _ A2 (S.sz.trans hn) (by kernel_rfl) ?_
      intro a' e1 e2 e3
      exact chain_end hK rfl (e2.trans (S.df.trans hd)) e3 ⟨by simp [refVd, c0, c1, c2, c3, c4, c5, c6, c7, c8, c9], HW⟩
    rw [c9] at A2
    have G := A2
    clear A2
    refine cmp5 ((x.ms.name.toList == y.ms.name.toList)) S G h5 h6 (fun _ _ q => wanted_at rfl (by kernel_rfl) q) (fun _ _ q => wanted_at rfl (by kernel_rfl) q) (fun _ _ q => wanted_at rfl (by kernel_rfl) q) (fun _ _ q => wanted_at rfl (by kernel_rfl) q) (fun _ _ q => wanted_at rfl (by kernel_rfl) q) rfl rfl rfl rfl rfl (by rw [hn]; decide) (fun _ h => ex_field (k := 31) rfl h (by kernel_rfl)) (fun _ h => ex_load (v := .string x.ms.name) rfl h (by have c := H5.cv 31 (.string x.ms.name) rfl; go_simp)) (fun _ h => ex_field (k := 31) rfl h (by kernel_rfl)) (fun _ h => ex_load (v := .string y.ms.name) rfl h (by have c := H6.cv 31 (.string y.ms.name) rfl; go_simp)) (fun _ h h' => ex_eq rfl h h' (by first | (go_simp; done) | (go_simp; rfl) | (go_simp; simp))) ?_
    intro a1 S1 G1 A1
    clear S G
    refine pick_move S1 G1 A1 rfl rfl rfl rfl rfl rfl (by rw [hn]; decide) ?_
    intro a2 S A2
    clear S1 A1 G1
    rcases Bool.eq_false_or_eq_true ((x.ms.name.toList == y.ms.name.toList)) with c10 | c10
    rotate_left
    · rw [c10] at A2
      refine skip_to 204 4 _ _ A2 (S.sz.trans hn) (by kernel_rfl) ?_
      intro a' e1 e2 e3
      exact chain_end hK rfl (e2.trans (S.df.trans hd)) e3 ⟨by simp [refVd, c0, c1, c2, c3, c4, c5, c6, c7, c8, c9, c10], HW⟩
    rw [c10] at A2
    have G := A2
    clear A2
    refine cmp5 ((x.ms.rev == y.ms.rev)) S G h5 h6 (fun _ _ q => wanted_at rfl (by kernel_rfl) q) (fun _ _ q => wanted_at rfl (by kernel_rfl) q) (fun _ _ q => wanted_at rfl (by kernel_rfl) q) (fun _ _ q => wanted_at rfl (by kernel_rfl) q) (fun _ _ q => wanted_at rfl (by kernel_rfl) q) rfl rfl rfl rfl rfl (by rw [hn]; decide) (fun _ h => ex_field (k := 32) rfl h (by kernel_rfl)) (fun _ h => ex_load (v := .int .i64 x.ms.rev) rfl h (by have c := H5.cv 32 (.int .i64 x.ms.rev) rfl; go_simp)) (fun _ h => ex_field (k := 32) rfl h (by kernel_rfl)) (fun _ h => ex_load (v := .int .i64 y.ms.rev) rfl h (by have c := H6.cv 32 (.int .i64 y.ms.rev) rfl; go_simp)) (fun _ h h' => ex_eq rfl h h' (by first | (go_simp; done) | (go_simp; rfl) | (go_simp; simp))) ?_
    intro a1 S1 G1 A1
    clear S G
    refine pick_move S1 G1 A1 rfl rfl rfl rfl rfl rfl (by rw [hn]; decide) ?_
    intro a2 S A2
    clear S1 A1 G1
    rcases Bool.eq_false_or_eq_true ((x.ms.rev == y.ms.rev)) with c11 | c11
    rotate_left
    · rw [c11] at A2
      refine skip_to 204 4 _ _ A2 (S.sz.trans hn) (by kernel_rfl) ?_
      intro a' e1 e2 e3
      exact chain_end hK rfl (e2.trans (S.df.trans hd)) e3 ⟨by simp [refVd, c0, c1, c2, c3, c4, c5, c6, c7, c8, c9, c10, c11], HW⟩
    rw [c11] at A2
    have G := A2
    clear A2
    refine cmp5 ((x.ms.dig.toList == y.ms.dig.toList)) S G h5 h6 (fun _ _ q => wanted_at rfl (by kernel_rfl) q) (fun _ _ q => wanted_at rfl (by kernel_rfl) q) (fun _ _ q => wanted_at rfl (by kernel_rfl) q) (fun _ _ q => wanted_at rfl (by kernel_rfl) q) (fun _ _ q => wanted_at rfl (by kernel_rfl) q) rfl rfl rfl rfl rfl (by rw [hn]; decide) (fun _ h => ex_field (k := 33) rfl h (by kernel_rfl)) (fun _ h => ex_load (v := .string x.ms.dig) rfl h (by have c := H5.cv 33 (.string x.ms.dig) rfl; go_simp)) (fun _ h => ex_field (k := 33) rfl h (by kernel_rfl)) (fun _ h => ex_load (v := .string y.ms.dig) rfl h (by have c := H6.cv 33 (.string y.ms.dig) rfl; go_simp)) (fun _ h h' => ex_eq rfl h h' (by first | (go_simp; done) | (go_simp; rfl) | (go_simp; simp))) ?_
    intro a1 S1 G1 A1
    clear S G
    refine pick_move S1 G1 A1 rfl rfl rfl rfl rfl rfl (by rw [hn]; decide) ?_
    intro a2 S A2
    clear S1 A1 G1
    rcases Bool.eq_false_or_eq_true ((x.ms.dig.toList == y.ms.dig.toList)) with c12 | c12
    rotate_left
    · rw [c12] at A2
      refine skip_to 204 4 _ _ A2 (S.sz.trans hn) (by kernel_rfl) ?_
      intro a' e1 e2 e3
      exact chain_end hK rfl (e2.trans (S.df.trans hd)) e3 ⟨by simp [refVd, c0, c1, c2, c3, c4, c5, c6, c7, c8, c9, c10, c11, c12], HW⟩
    rw [c12] at A2
    have G := A2
    clear A2
    refine cmp5 ((x.ms.cost == y.ms.cost)) S G h5 h6 (fun _ _ q => wanted_at rfl (by kernel_rfl) q) (fun _ _ q => wanted_at rfl (by kernel_rfl) q) (fun _ _ q => wanted_at rfl (by kernel_rfl) q) (fun _ _ q => wanted_at rfl (by kernel_rfl) q) (fun _ _ q => wanted_at rfl (by kernel_rfl) q) rfl rfl rfl rfl rfl (by rw [hn]; decide) (fun _ h => ex_field (k := 34) rfl h (by kernel_rfl)) (fun _ h => ex_load (v := .int .i64 x.ms.cost) rfl h (by have c := H5.cv 34 (.int .i64 x.ms.cost) rfl; go_simp)) (fun _ h => ex_field (k := 34) rfl h (by kernel_rfl)) (fun _ h => ex_load (v := .int .i64 y.ms.cost) rfl h (by have c := H6.cv 34 (.int .i64 y.ms.cost) rfl; go_simp)) (fun _ h h' => ex_eq rfl h h' (by first | (go_simp; done) | (go_simp; rfl) | (go_simp; simp))) ?_
    intro a1 S1 G1 A1
    clear S G
    refine pick_move S1 G1 A1 rfl rfl rfl rfl rfl rfl (by rw [hn]; decide) ?_
    intro a2 S A2
    clear S1 A1 G1
    rcases Bool.eq_false_or_eq_true ((x.ms.cost == y.ms.cost)) with c13 | c13
    rotate_left
    · rw [c13] at A2
      refine skip_to 204 4 _ _ A2 (S.sz.trans hn) (by kernel_rfl) ?_
      intro a' e1 e2 e3
      exact chain_end hK rfl (e2.trans (S.df.trans hd)) e3 ⟨by simp [refVd, c0, c1, c2, c3, c4, c5, c6, c7, c8, c9, c10, c11, c12, c13], HW⟩
    rw [c13] at A2
    have G := A2
    clear A2
    refine cmp5 (eqB x.ms.br y.ms.br) S G h5 h6 (fun _ _ q => wanted_at rfl (by kernel_rfl) q) (fun _ _ q => wanted_at rfl (by kernel_rfl) q) (fun _ _ q => wanted_at rfl (by kernel_rfl) q) (fun _ _ q => wanted_at rfl (by kernel_rfl) q) (fun _ _ q => wanted_at rfl (by kernel_rfl) q) rfl rfl rfl rfl rfl (by rw [hn]; decide) (fun _ h => ex_field (k := 35) rfl h (by kernel_rfl)) (fun _ h => exec_load_blk _ (brC x.ms.br) rfl h H5 (by kernel_rfl) (by kernel_rfl) (by kernel_rfl)) (fun _ h => ex_field (k := 35) rfl h (by kernel_rfl)) (fun _ h => exec_load_blk _ (brC y.ms.br) rfl h H6 (by kernel_rfl) (by kernel_rfl) (by kernel_rfl)) (fun _ h h' => exec_eq_agg .eql _ (brC x.ms.br) (brC y.ms.br) (eqB x.ms.br y.ms.br) rfl (Or.inl rfl) h h' (by kernel_rfl) (run_eql_br 9997 x.ms.br y.ms.br _)) ?_
    intro a1 S1 G1 A1
    clear S G
    refine pick_move S1 G1 A1 rfl rfl rfl rfl rfl rfl (by rw [hn]; decide) ?_
    intro a2 S A2
    clear S1 A1 G1
    rcases Bool.eq_false_or_eq_true (eqB x.ms.br y.ms.br) with c14 | c14
    rotate_left
    · rw [c14] at A2
      refine skip_to 204 4 _ _ A2 (S.sz.trans hn) (by kernel_rfl) ?_
      intro a' e1 e2 e3
      exact chain_end hK rfl (e2.trans (S.df.trans hd)) e3 ⟨by simp [refVd, c0, c1, c2, c3, c4, c5, c6, c7, c8, c9, c10, c11, c12, c13, c14], HW⟩
    rw [c14] at A2
    have G := A2
    clear A2
    refine cmp5 ((x.ms.hop == y.ms.hop)) S G h5 h6 (fun _ _ q => wanted_at rfl (by kernel_rfl) q) (fun _ _ q => wanted_at rfl (by kernel_rfl) q) (fun _ _ q => wanted_at rfl (by kernel_rfl) q) (fun _ _ q => wanted_at rfl (by kernel_rfl) q) (fun _ _ q => wanted_at rfl (by kernel_rfl) q) rfl rfl rfl rfl rfl (by rw [hn]; decide) (fun _ h => ex_field (k := 43) rfl h (by kernel_rfl)) (fun _ h => ex_load (v := .int .i64 x.ms.hop) rfl h (by have c := H5.cv 43 (.int .i64 x.ms.hop) rfl; go_simp)) (fun _ h => ex_field (k := 43) rfl h (by kernel_rfl)) (fun _ h => ex_load (v := .int .i64 y.ms.hop) rfl h (by have c := H6.cv 43 (.int .i64 y.ms.hop) rfl; go_simp)) (fun _ h h' => ex_eq rfl h h' (by first | (go_simp; done) | (go_simp; rfl) | (go_simp; simp))) ?_
    intro a1 S1 G1 A1
    clear S G
    refine pick_move S1 G1 A1 rfl rfl rfl rfl rfl rfl (by rw [hn]; decide) ?_
    intro a2 S A2
    clear S1 A1 G1
    rcases Bool.eq_false_or_eq_true ((x.ms.hop == y.ms.hop)) with c15 | c15
    rotate_left
    · rw [c15] at A2
      refine skip_to 204 4 _ _ A2 (S.sz.trans hn) (by kernel_rfl) ?_
      intro a' e1 e2 e3
      exact chain_end hK rfl (e2.trans (S.df.trans hd)) e3 ⟨by simp [refVd, c0, c1, c2, c3, c4, c5, c6, c7, c8, c9, c10, c11, c12, c13, c14, c15], HW⟩
    rw [c15] at A2
    have G := A2
    clear A2
    refine cal5 (eqL eqIn x.il y.il) S G h5 h6 (fun _ _ q => wanted_at rfl (by kernel_rfl) q) (fun _ _ q => wanted_at rfl (by kernel_rfl) q) (fun _ _ q => wanted_at rfl (by kernel_rfl) q) (fun _ _ q => wanted_at rfl (by kernel_rfl) q) (fun _ _ q => wanted_at rfl (by kernel_rfl) q) rfl rfl rfl rfl rfl (by rw [hn]; decide) (fun _ h => ex_field (k := 44) rfl h (by kernel_rfl)) (fun _ h => ex_load (v := .slice x.ia x.il.length x.ic) rfl h (by have c := H5.cv 44 (.slice x.ia x.il.length x.ic) rfl; go_simp)) (fun _ h => ex_field (k := 44) rfl h (by kernel_rfl)) (fun _ h => ex_load (v := .slice y.ia y.il.length y.ic) rfl h (by have c := H6.cv 44 (.slice y.ia y.il.length y.ic) rfl; go_simp)) (fun _ h h' => ex_call2 rfl h h' Try.func15 (by kernel_rfl) rfl) (eqInsL_any x.ia x.ic y.ia y.ic x.il y.il _ (hx.ins.below HW) (hy.ins.below HW) hx.len.1 hy.len.1) ?_
    intro a1 u kk S1 G1 A1
    replace HA := HA.kept kk
    replace HB := HB.kept kk
    replace H5 := H5.kept kk
    replace H6 := H6.kept kk
    replace H7 := H7.kept kk
    replace H8 := H8.kept kk
    replace HW := HW.trans (kk.mono HW.size)
    clear S G
    refine pick_move S1 G1 A1 rfl rfl rfl rfl rfl rfl (by rw [hn]; decide) ?_
    intro a2 S A2
    clear S1 A1 G1
    rcases Bool.eq_false_or_eq_true (eqL eqIn x.il y.il) with c16 | c16
    rotate_left
    · rw [c16] at A2
      refine skip_to 204 4 _ _ A2 (S.sz.trans hn) (by kernel_rfl) ?_
      intro a' e1 e2 e3
      exact chain_end hK rfl (e2.trans (S.df.trans hd)) e3 ⟨by simp [refVd, c0, c1, c2, c3, c4, c5, c6, c7, c8, c9, c10, c11, c12, c13, c14, c15, c16], HW⟩
    rw [c16] at A2
    have G := A2
    clear A2
    refine cmp5 (eqNm x.ld.ch y.ld.ch) S G h7 h8 (fun _ _ q => wanted_at rfl (by kernel_rfl) q) (fun _ _ q => wanted_at rfl (by kernel_rfl) q) (fun _ _ q => wanted_at rfl (by kernel_rfl) q) (fun _ _ q => wanted_at rfl (by kernel_rfl) q) (fun _ _ q => wanted_at rfl (by kernel_rfl) q) rfl rfl rfl rfl rfl (by rw [hn]; decide) (fun _ h => ex_field (k := 0) rfl h (by kernel_rfl)) (fun _ h => exec_load_blk _ (nmC x.ld.ch) rfl h H7 (by kernel_rfl) (by kernel_rfl) (by kernel_rfl)) (fun _ h => ex_field (k := 0) rfl h (by kernel_rfl)) (fun _ h => exec_load_blk _ (nmC y.ld.ch) rfl h H8 (by kernel_rfl) (by kernel_rfl) (by kernel_rfl)) (fun _ h h' => exec_eq_agg .eql _ (nmC x.ld.ch) (nmC y.ld.ch) (eqNm x.ld.ch y.ld.ch) rfl (Or.inl rfl) h h' (by kernel_rfl) (run_eql_nm 9995 x.ld.ch y.ld.ch _)) ?_
    intro a1 S1 G1 A1
    clear S G
    refine pick_move S1 G1 A1 rfl rfl rfl rfl rfl rfl (by rw [hn]; decide) ?_
    intro a2 S A2
    clear S1 A1 G1
    rcases Bool.eq_false_or_eq_true (eqNm x.ld.ch y.ld.ch) with c17 | c17
    rotate_left
    · rw [c17] at A2
      refine skip_to 204 4 _ _ A2 (S.sz.trans hn) (by kernel_rfl) ?_
      intro a' e1 e2 e3
      exact chain_end hK rfl (e2.trans (S.df.trans hd)) e3 ⟨by simp [refVd, c0, c1, c2, c3, c4, c5, c6, c7, c8, c9, c10, c11, c12, c13, c14, c15, c16, c17], HW⟩
    rw [c17] at A2
    have G := A2
    clear A2
    refine cmp5 (eqNm x.ld.po y.ld.po) S G h7 h8 (fun _ _ q => wanted_at rfl (by kernel_rfl) q) (fun _ _ q => wanted_at rfl (by kernel_rfl) q) (fun _ _ q => wanted_at rfl (by kernel_rfl) q) (fun _ _ q => wanted_at rfl (by kernel_rfl) q) (fun _ _ q => wanted_at rfl (by kernel_rfl) q) rfl rfl rfl rfl rfl (by rw [hn]; decide) (fun _ h => ex_field (k := 2) rfl h (by kernel_rfl)) (fun _ h => exec_load_blk _ (nmC x.ld.po) rfl h H7 (by kernel_rfl) (by kernel_rfl) (by kernel_rfl)) (fun _ h => ex_field (k := 2) rfl h (by kernel_rfl)) (fun _ h => exec_load_blk _ (nmC y.ld.po) rfl h H8 (by kernel_rfl) (by kernel_rfl) (by kernel_rfl)) (fun _ h h' => exec_eq_agg .eql _ (nmC x.ld.po) (nmC y.ld.po) (eqNm x.ld.po y.ld.po) rfl (Or.inl rfl) h h' (by kernel_rfl) (run_eql_nm 9995 x.ld.po y.ld.po _)) ?_
    intro a1 S1 G1 A1
    clear S G
    refine pick_move S1 G1 A1 rfl rfl rfl rfl rfl rfl (by rw [hn]; decide) ?_
    intro a2 S A2
    clear S1 A1 G1
    rcases Bool.eq_false_or_eq_true (eqNm x.ld.po y.ld.po) with c18 | c18
    rotate_left
    · rw [c18] at A2
      refine skip_to 204 4 _ _ A2 (S.sz.trans hn) (by kernel_rfl) ?_
      intro a' e1 e2 e3
      exact chain_end hK rfl (e2.trans (S.df.trans hd)) e3 ⟨by simp [refVd, c0, c1, c2, c3, c4, c5, c6, c7, c8, c9, c10, c11, c12, c13, c14, c15, c16, c17, c18], HW⟩
    rw [c18] at A2
    have G := A2
    clear A2
    refine cmp5 ((x.ld.tt == y.ld.tt)) S G h7 h8 (fun _ _ q => wanted_at rfl (by kernel_rfl) q) (fun _ _ q => wanted_at rfl (by kernel_rfl) q) (fun _ _ q => wanted_at rfl (by kernel_rfl) q) (fun _ _ q => wanted_at rfl (by kernel_rfl) q) (fun _ _ q => wanted_at rfl (by kernel_rfl) q) rfl rfl rfl rfl rfl (by rw [hn]; decide) (fun _ h => ex_field (k := 4) rfl h (by kernel_rfl)) (fun _ h => ex_load (v := .int .i64 x.ld.tt) rfl h (by have c := H7.cv 4 (.int .i64 x.ld.tt) rfl; go_simp)) (fun _ h => ex_field (k := 4) rfl h (by kernel_rfl)) (fun _ h => ex_load (v := .int .i64 y.ld.tt) rfl h (by have c := H8.cv 4 (.int .i64 y.ld.tt) rfl; go_simp)) (fun _ h h' => ex_eq rfl h h' (by first | (go_simp; done) | (go_simp; rfl) | (go_simp; simp))) ?_
    intro a1 S1 G1 A1
    clear S G
    refine pick_move S1 G1 A1 rfl rfl rfl rfl rfl rfl (by rw [hn]; decide) ?_
    intro a2 S A2
    clear S1 A1 G1
    rcases Bool.eq_false_or_eq_true ((x.ld.tt == y.ld.tt)) with c19 | c19
    rotate_left
    · rw [c19] at A2
      refine skip_to 204 4 _ _ A2 (S.sz.trans hn) (by kernel_rfl) ?_
      intro a' e1 e2 e3
      exact chain_end hK rfl (e2.trans (S.df.trans hd)) e3 ⟨by simp [refVd, c0, c1, c2, c3, c4, c5, c6, c7, c8, c9, c10, c11, c12, c13, c14, c15, c16, c17, c18, c19], HW⟩
    rw [c19] at A2
    have G := A2
    clear A2
    refine cal5 (decide (x.ld.de = y.ld.de)) S G h7 h8 (fun _ _ q => wanted_at rfl (by kernel_rfl) q) (fun _ _ q => wanted_at rfl (by kernel_rfl) q) (fun _ _ q => wanted_at rfl (by kernel_rfl) q) (fun _ _ q => wanted_at rfl (by kernel_rfl) q) (fun _ _ q => wanted_at rfl (by kernel_rfl) q) rfl rfl rfl rfl rfl (by rw [hn]; decide) (fun _ h => ex_field (k := 5) rfl h (by kernel_rfl)) (fun _ h => ex_load (v := .slice x.lq.de.1 x.ld.de.length x.lq.de.2) rfl h (by have c := H7.cv 5 (.slice x.lq.de.1 x.ld.de.length x.lq.de.2) rfl; go_simp)) (fun _ h => ex_field (k := 5) rfl h (by kernel_rfl)) (fun _ h => ex_load (v := .slice y.lq.de.1 y.ld.de.length y.lq.de.2) rfl h (by have c := H8.cv 5 (.slice y.lq.de.1 y.ld.de.length y.lq.de.2) rfl; go_simp)) (fun _ h h' => ex_call2 rfl h h' Try.func16 (by kernel_rfl) rfl) (eqTxt_any x.lq.de.1 x.lq.de.2 y.lq.de.1 y.lq.de.2 x.ld.de y.ld.de _ (hx.below HW).ld.1 (hy.below HW).ld.1 hx.len.2.2.1 hy.len.2.2.1) ?_
    intro a1 u kk S1 G1 A1
    replace HA := HA.kept kk
    replace HB := HB.kept kk
    replace H5 := H5.kept kk
    replace H6 := H6.kept kk
    replace H7 := H7.kept kk
    replace H8 := H8.kept kk
    replace HW := HW.trans (kk.mono HW.size)
    clear S G
    refine pick_move S1 G1 A1 rfl rfl rfl rfl rfl rfl (by rw [hn]; decide) ?_
    intro a2 S A2
    clear S1 A1 G1
    rcases Bool.eq_false_or_eq_true (decide (x.ld.de = y.ld.de)) with c20 | c20
    rotate_left
    · rw [c20] at A2
      refine skip_to 204 4 _ _ A2 (S.sz.trans hn) (by kernel_rfl) ?_
      intro a' e1 e2 e3
      exact chain_end hK rfl (e2.trans (S.df.trans hd)) e3 ⟨by simp [refVd, c0, c1, c2, c3, c4, c5, c6, c7, c8, c9, c10, c11, c12, c13, c14, c15, c16, c17, c18, c19, c20], HW⟩
    rw [c20] at A2
    have G := A2
    clear A2
    refine cal5 (decide (x.ld.ho = y.ld.ho)) S G h7 h8 (fun _ _ q => wanted_at rfl (by kernel_rfl) q) (fun _ _ q => wanted_at rfl (by kernel_rfl) q) (fun _ _ q => wanted_at rfl (by kernel_rfl) q) (fun _ _ q => wanted_at rfl (by kernel_rfl) q) (fun _ _ q => wanted_at rfl (by kernel_rfl) q) rfl rfl rfl rfl rfl (by rw [hn]; decide) (fun _ h => ex_field (k := 6) rfl h (by kernel_rfl)) (fun _ h => ex_load (v := .slice x.lq.ho.1 x.ld.ho.length x.lq.ho.2) rfl h (by have c := H7.cv 6 (.slice x.lq.ho.1 x.ld.ho.length x.lq.ho.2) rfl; go_simp)) (fun _ h => ex_field (k := 6) rfl h (by kernel_rfl)) (fun _ h => ex_load (v := .slice y.lq.ho.1 y.ld.ho.length y.lq.ho.2) rfl h (by have c := H8.cv 6 (.slice y.lq.ho.1 y.ld.ho.length y.lq.ho.2) rfl; go_simp)) (fun _ h h' => ex_call2 rfl h h' Try.func16 (by kernel_rfl) rfl) (eqTxt_any x.lq.ho.1 x.lq.ho.2 y.lq.ho.1 y.lq.ho.2 x.ld.ho y.ld.ho _ (hx.below HW).ld.2.1 (hy.below HW).ld.2.1 hx.len.2.2.2.1 hy.len.2.2.2.1) ?_
    intro a1 u kk S1 G1 A1
    replace HA := HA.kept kk
    replace HB := HB.kept kk
    replace H5 := H5.kept kk
    replace H6 := H6.kept kk
    replace H7 := H7.kept kk
    replace H8 := H8.kept kk
    replace HW := HW.trans (kk.mono HW.size)
    clear S G
    refine pick_move S1 G1 A1 rfl rfl rfl rfl rfl rfl (by rw [hn]; decide) ?_
    intro a2 S A2
    clear S1 A1 G1
    rcases Bool.eq_false_or_eq_true (decide (x.ld.ho = y.ld.ho)) with c21 | c21
    rotate_left
    · rw [c21] at A2
      refine skip_to 204 4 _ _ A2 (S.sz.trans hn) (by kernel_rfl) ?_
      intro a' e1 e2 e3
      exact chain_end hK rfl (e2.trans (S.df.trans hd)) e3 ⟨by simp [refVd, c0, c1, c2, c3, c4, c5, c6, c7, c8, c9, c10, c11, c12, c13, c14, c15, c16, c17, c18, c19, c20, c21], HW⟩
    rw [c21] at A2
    have G := A2
    clear A2
    refine cal5 (decide (x.ld.sy = y.ld.sy)) S G h7 h8 (fun _ _ q => wanted_at rfl (by kernel_rfl) q) (fun _ _ q => wanted_at rfl (by kernel_rfl) q) (fun _ _ q => wanted_at rfl (by kernel_rfl) q) (fun _ _ q => wanted_at rfl (by kernel_rfl) q) (fun _ _ q => wanted_at rfl (by kernel_rfl) q) rfl rfl rfl rfl rfl (by rw [hn]; decide) (fun _ h => ex_field (k := 7) rfl h (by kernel_rfl)) (fun _ h => ex_load (v := .slice x.lq.sy.1 x.ld.sy.length x.lq.sy.2) rfl h (by have c := H7.cv 7 (.slice x.lq.sy.1 x.ld.sy.length x.lq.sy.2) rfl; go_simp)) (fun _ h => ex_field (k := 7) rfl h (by kernel_rfl)) (fun _ h => ex_load (v := .slice y.lq.sy.1 y.ld.sy.length y.lq.sy.2) rfl h (by have c := H8.cv 7 (.slice y.lq.sy.1 y.ld.sy.length y.lq.sy.2) rfl; go_simp)) (fun _ h h' => ex_call2 rfl h h' Try.func16 (by kernel_rfl) rfl) (eqTxt_any x.lq.sy.1 x.lq.sy.2 y.lq.sy.1 y.lq.sy.2 x.ld.sy y.ld.sy _ (hx.below HW).ld.2.2.1 (hy.below HW).ld.2.2.1 hx.len.2.2.2.2.1 hy.len.2.2.2.2.1) ?_
    intro a1 u kk S1 G1 A1
    replace HA := HA.kept kk
    replace HB := HB.kept kk
    replace H5 := H5.kept kk
    replace H6 := H6.kept kk
    replace H7 := H7.kept kk
    replace H8 := H8.kept kk
    replace HW := HW.trans (kk.mono HW.size)
    clear S G
    refine pick_move S1 G1 A1 rfl rfl rfl rfl rfl rfl (by rw [hn]; decide) ?_
    intro a2 S A2
    clear S1 A1 G1
    rcases Bool.eq_false_or_eq_true (decide (x.ld.sy = y.ld.sy)) with c22 | c22
    rotate_left
    · rw [c22] at A2
      refine skip_to 204 4 _ _ A2 (S.sz.trans hn) (by kernel_rfl) ?_
      intro a' e1 e2 e3
      exact chain_end hK rfl (e2.trans (S.df.trans hd)) e3 ⟨by simp [refVd, c0, c1, c2, c3, c4, c5, c6, c7, c8, c9, c10, c11, c12, c13, c14, c15, c16, c17, c18, c19, c20, c21, c22], HW⟩
    rw [c22] at A2
    have G := A2
    clear A2
    refine cal5 (eqL eqCp x.ld.ca y.ld.ca) S G h7 h8 (fun _ _ q => wanted_at rfl (by kernel_rfl) q) (fun _ _ q => wanted_at rfl (by kernel_rfl) q) (fun _ _ q => wanted_at rfl (by kernel_rfl) q) (fun _ _ q => wanted_at rfl (by kernel_rfl) q) (fun _ _ q => wanted_at rfl (by kernel_rfl) q) rfl rfl rfl rfl rfl (by rw [hn]; decide) (fun _ h => ex_field (k := 8) rfl h (by kernel_rfl)) (fun _ h => ex_load (v := .slice x.lq.ca.1 x.ld.ca.length x.lq.ca.2) rfl h (by have c := H7.cv 8 (.slice x.lq.ca.1 x.ld.ca.length x.lq.ca.2) rfl; go_simp)) (fun _ h => ex_field (k := 8) rfl h (by kernel_rfl)) (fun _ h => ex_load (v := .slice y.lq.ca.1 y.ld.ca.length y.lq.ca.2) rfl h (by have c := H8.cv 8 (.slice y.lq.ca.1 y.ld.ca.length y.lq.ca.2) rfl; go_simp)) (fun _ h h' => ex_call2 rfl h h' Try.func17 (by kernel_rfl) rfl) (eqCpL_any x.lq.ca.1 x.lq.ca.2 y.lq.ca.1 y.lq.ca.2 x.ld.ca y.ld.ca _ (hx.below HW).ld.2.2.2.1 (hy.below HW).ld.2.2.2.1 hx.len.2.2.2.2.2.1 hy.len.2.2.2.2.2.1) ?_
    intro a1 u kk S1 G1 A1
    replace HA := HA.kept kk
    replace HB := HB.kept kk
    replace H5 := H5.kept kk
    replace H6 := H6.kept kk
    replace H7 := H7.kept kk
    replace H8 := H8.kept kk
    replace HW := HW.trans (kk.mono HW.size)
    clear S G
    refine pick_move S1 G1 A1 rfl rfl rfl rfl rfl rfl (by rw [hn]; decide) ?_
    intro a2 S A2
    clear S1 A1 G1
    rcases Bool.eq_false_or_eq_true (eqL eqCp x.ld.ca y.ld.ca) with c23 | c23
    rotate_left
    · rw [c23] at A2
      refine skip_to 204 4 _ _ A2 (S.sz.trans hn) (by kernel_rfl) ?_
      intro a' e1 e2 e3
      exact chain_end hK rfl (e2.trans (S.df.trans hd)) e3 ⟨by simp [refVd, c0, c1, c2, c3, c4, c5, c6, c7, c8, c9, c10, c11, c12, c13, c14, c15, c16, c17, c18, c19, c20, c21, c22, c23], HW⟩
    rw [c23] at A2
    have G := A2
    clear A2
    refine cal5 (eqL eqMg x.ld.ma y.ld.ma) S G h7 h8 (fun _ _ q => wanted_at rfl (by kernel_rfl) q) (fun _ _ q => wanted_at rfl (by kernel_rfl) q) (fun _ _ q => wanted_at rfl (by kernel_rfl) q) (fun _ _ q => wanted_at rfl (by kernel_rfl) q) (fun _ _ q => wanted_at rfl (by kernel_rfl) q) rfl rfl rfl rfl rfl (by rw [hn]; decide) (fun _ h => ex_field (k := 9) rfl h (by kernel_rfl)) (fun _ h => ex_load (v := .slice x.lq.ma.1 x.ld.ma.length x.lq.ma.2) rfl h (by have c := H7.cv 9 (.slice x.lq.ma.1 x.ld.ma.length x.lq.ma.2) rfl; go_simp)) (fun _ h => ex_field (k := 9) rfl h (by kernel_rfl)) (fun _ h => ex_load (v := .slice y.lq.ma.1 y.ld.ma.length y.lq.ma.2) rfl h (by have c := H8.cv 9 (.slice y.lq.ma.1 y.ld.ma.length y.lq.ma.2) rfl; go_simp)) (fun _ h h' => ex_call2 rfl h h' Try.func18 (by kernel_rfl) rfl) (eqMgL_any x.lq.ma.1 x.lq.ma.2 y.lq.ma.1 y.lq.ma.2 x.ld.ma y.ld.ma _ (hx.below HW).ld.2.2.2.2.1 (hy.below HW).ld.2.2.2.2.1 hx.len.2.2.2.2.2.2.1 hy.len.2.2.2.2.2.2.1) ?_
    intro a1 u kk S1 G1 A1
    replace HA := HA.kept kk
    replace HB := HB.kept kk
    replace H5 := H5.kept kk
    replace H6 := H6.kept kk
    replace H7 := H7.kept kk
    replace H8 := H8.kept kk
    replace HW := HW.trans (kk.mono HW.size)
    clear S G
    refine pick_move S1 G1 A1 rfl rfl rfl rfl rfl rfl (by rw [hn]; decide) ?_
    intro a2 S A2
    clear S1 A1 G1
    rcases Bool.eq_false_or_eq_true (eqL eqMg x.ld.ma y.ld.ma) with c24 | c24
    rotate_left
    · rw [c24] at A2
      refine skip_to 204 4 _ _ A2 (S.sz.trans hn) (by kernel_rfl) ?_
      intro a' e1 e2 e3
      exact chain_end hK rfl (e2.trans (S.df.trans hd)) e3 ⟨by simp [refVd, c0, c1, c2, c3, c4, c5, c6, c7, c8, c9, c10, c11, c12, c13, c14, c15, c16, c17, c18, c19, c20, c21, c22, c23, c24], HW⟩
    rw [c24] at A2
    have G := A2
    clear A2
    refine cal5 (eqL eqOg x.ld.og y.ld.og) S G h7 h8 (fun _ _ q => wanted_at rfl (by kernel_rfl) q) (fun _ _ q => wanted_at rfl (by kernel_rfl) q) (fun _ _ q => wanted_at rfl (by kernel_rfl) q) (fun _ _ q => wanted_at rfl (by kernel_rfl) q) (fun _ _ q => wanted_at rfl (by kernel_rfl) q) rfl rfl rfl rfl rfl (by rw [hn]; decide) (fun _ h => ex_field (k := 10) rfl h (by kernel_rfl)) (fun _ h => ex_load (v := .slice x.lq.og.1 x.ld.og.length x.lq.og.2) rfl h (by have c := H7.cv 10 (.slice x.lq.og.1 x.ld.og.length x.lq.og.2) rfl; go_simp)) (fun _ h => ex_field (k := 10) rfl h (by kernel_rfl)) (fun _ h => ex_load (v := .slice y.lq.og.1 y.ld.og.length y.lq.og.2) rfl h (by have c := H8.cv 10 (.slice y.lq.og.1 y.ld.og.length y.lq.og.2) rfl; go_simp)) (fun _ h h' => ex_call2 rfl h h' Try.func19 (by kernel_rfl) rfl) (eqOgL_any x.lq.og.1 x.lq.og.2 y.lq.og.1 y.lq.og.2 x.ld.og y.ld.og _ (hx.below HW).ld.2.2.2.2.2 (hy.below HW).ld.2.2.2.2.2 hx.len.2.2.2.2.2.2.2 hy.len.2.2.2.2.2.2.2) ?_
    intro a1 u kk S1 G1 A1
    replace HA := HA.kept kk
    replace HB := HB.kept kk
    replace H5 := H5.kept kk
    replace H6 := H6.kept kk
    replace H7 := H7.kept kk
    replace H8 := H8.kept kk
    replace HW := HW.trans (kk.mono HW.size)
    clear S G
    refine pick_move S1 G1 A1 rfl rfl rfl rfl rfl rfl (by rw [hn]; decide) ?_
    intro a2 S A2
    clear S1 A1 G1
    rcases Bool.eq_false_or_eq_true (eqL eqOg x.ld.og y.ld.og) with c25 | c25
    rotate_left
    · rw [c25] at A2
      refine skip_to 204 4 _ _ A2 (S.sz.trans hn) (by kernel_rfl) ?_
      intro a' e1 e2 e3
      exact chain_end hK rfl (e2.trans (S.df.trans hd)) e3 ⟨by simp [refVd, c0, c1, c2, c3, c4, c5, c6, c7, c8, c9, c10, c11, c12, c13, c14, c15, c16, c17, c18, c19, c20, c21, c22, c23, c24, c25], HW⟩
    rw [c25] at A2
    have G := A2
    clear A2
    refine cal5 (decide (xs x.vl = xs y.vl)) S G h2 h3 (fun _ _ q => wanted_at rfl (by kernel_rfl) q) (fun _ _ q => wanted_at rfl (by kernel_rfl) q) (fun _ _ q => wanted_at rfl (by kernel_rfl) q) (fun _ _ q => wanted_at rfl (by kernel_rfl) q) (fun _ _ q => wanted_at rfl (by kernel_rfl) q) rfl rfl rfl rfl rfl (by rw [hn]; decide) (fun _ h => ex_field (k := 174) rfl h (by kernel_rfl)) (fun _ h => ex_load (v := .slice x.va x.vl.length x.vc) rfl h (by have c := HA.cv 174 (.slice x.va x.vl.length x.vc) rfl; go_simp)) (fun _ h => ex_field (k := 174) rfl h (by kernel_rfl)) (fun _ h => ex_load (v := .slice y.va y.vl.length y.vc) rfl h (by have c := HB.cv 174 (.slice y.va y.vl.length y.vc) rfl; go_simp)) (fun _ h h' => ex_call2 rfl h h' Try.func20 (by kernel_rfl) rfl) (sameR_any x.va y.va x.vc y.vc x.vl y.vl _ (hx.below HW).mv (hy.below HW).mv hx.len.2.1 hy.len.2.1) ?_
    intro a1 u kk S1 G1 A1
    replace HA := HA.kept kk
    replace HB := HB.kept kk
    replace H5 := H5.kept kk
    replace H6 := H6.kept kk
    replace H7 := H7.kept kk
    replace H8 := H8.kept kk
    replace HW := HW.trans (kk.mono HW.size)
    clear S G
    refine pick_end S1 G1 A1 rfl rfl rfl rfl rfl rfl (by rw [hn]; decide) ?_
    intro a' e1 e2 e3
    exact chain_end hK rfl (e2.trans hd) e3 ⟨by simp [refVd, c0, c1, c2, c3, c4, c5, c6, c7, c8, c9, c10, c11, c12, c13, c14, c15, c16, c17, c18, c19, c20, c21, c22, c23, c24, c25], HW⟩

end Go.Proofs.Ytnlphldkdglofaa

namespace Go.Proofs.Ytnlphldkdglofaa
open Go.RowKit
attribute [local go_sem ↓] Go.wp_at_zero Go.wp_at_succ
set_option linter.unusedSimpArgs false
set_option linter.unusedVariables false
set_option maxRecDepth 100000

set_option maxHeartbeats 3200000 in
theorem bigV_any (x : Ld) (q : LdA) (w : World) (h : LdIn w x q) (hm : x.og.length ≤ maxLen) :
    Calls Try.prog 7 #[.agg (ldC x q)] w fun e w' => (∃ b, e = .returned (.bool b)) ∧ Below w.heap.size w w' := by
  obtain ⟨⟨qd, qdc⟩, ⟨qh, qhc⟩, ⟨qs, qsc⟩, ⟨qc, qcc⟩, ⟨qm, qmc⟩, ⟨qo, qoc⟩⟩ := q
  obtain ⟨i1, i2, i3, i4, i5, i6⟩ := h
  obtain ⟨ch, po, tt, de, ho, sy, ca, ma, og⟩ := x
  dsimp only at i6 hm
  clear i1 i2 i3 i4 i5
  have k1 : og.length ≤ 9223372036854775807 := hm
  clear hm
  have HA0 := Blk.new w 52 (ldC ⟨ch, po, tt, de, ho, sy, ca, ma, og⟩ ⟨(qd, qdc), (qh, qhc), (qs, qsc), (qc, qcc), (qm, qmc), (qo, qoc)⟩)
  have B0 : Below w.heap.size w (w.alloc (.cells (ldC ⟨ch, po, tt, de, ho, sy, ca, ma, og⟩ ⟨(qd, qdc), (qh, qhc), (qs, qsc), (qc, qcc), (qm, qmc), (qo, qoc)⟩) 52)) := (Below.refl _ _).alloc (Nat.le_refl _) _
  go_enter Try.func7, Try.ntmps7
  go_upto_region 1 with (fail)
  generalize (w.alloc (.cells (ldC ⟨ch, po, tt, de, ho, sy, ca, ma, og⟩ ⟨(qd, qdc), (qh, qhc), (qs, qsc), (qc, qcc), (qm, qmc), (qo, qoc)⟩) 52)) = w0 at *
  have c5 := HA0.cv 5 (.slice qd de.length qdc) rfl
  have c6 := HA0.cv 6 (.slice qh ho.length qhc) rfl
  have c7 := HA0.cv 7 (.slice qs sy.length qsc) rfl
  have c8 := HA0.cv 8 (.slice qc ca.length qcc) rfl
  have c9 := HA0.cv 9 (.slice qm ma.length qmc) rfl
  have c10 := HA0.cv 10 (.slice qo og.length qoc) rfl
  go_wp2_with fail
  clear c5 c6 c7 c8 c9 c10
  go_loopw [3, 32] (fun n i wr => ∃ (k : Nat) (z : Int), k ≤ og.length ∧ i = .int .i64 k ∧ n = .int .i64 z ∧ Below w.heap.size w wr) (fun _ i _ => og.length - (intOf i).toNat)
  case atStart => exact ⟨0, _, by omega, rfl, rfl, B0⟩
  case round =>
    clear B0 HA0
    obtain ⟨k, z, hk, rfl, rfl, Bk⟩ := hrel
    by_cases hlt : k < og.length
    · have hIk := i6.below Bk
      obtain ⟨b, lo, rfl, hbl, hat⟩ := hIk.at hlt
      have q1 : (k : Int) < (og.length : Int) := by omega
      have q2 : decide ((k : Int) < (og.length : Int)) = true := decide_eq_true q1
      have q3 : (0 : Int) ≤ (k : Int) := by omega
      have q4 : IntKind.i64.wrap ((k : Int) + 1) = (k : Int) + 1 := by rw [IntKind.wrap_i64] <;> omega
      have HK := hat k hlt
      have HV4 := Blk.new wr 86 (ogC zOg)
      have B4 := Bk.alloc Bk.size (.cells (ogC zOg) 86)
      have hwr := Bk.size
      generalize og[k] = y at *
      clear hat hIk
      go_upto_region 5 with (first
        | (refine load_cells (B := b) (k := lo + k * 3) 86 (ogC y) (by rfl) rfl rfl HK (by kernel_rfl) (by kernel_rfl) ?_)
        | (refine alloc_blk 86 (ogC zOg) (by rfl) rfl Try.ogZero ?_)
        | (refine store_blk (k := 0) 86 (.agg (ogC y)) (ogC y) (by rfl) rfl rfl rfl HV4 (by kernel_rfl) (show (3 : Nat) ≤ 3 from Nat.le_refl 3) (by rfl) (st_whole _ _ rfl) ?_; intro w5 HV5 b5 g5))
      have B5 := B4.trans (b5.mono hwr)
      have c2 := HV5.cv 2 (.string y.nf) rfl
      go_wp2
      go_roundw
      case rel => exact ⟨k + 1, _, by omega, by go_num, rfl, B5⟩
      case measure => simp [intOf]; omega
    · obtain rfl : k = og.length := by omega
      have q2 : decide ((og.length : Int) < (og.length : Int)) = false := decide_eq_false (by omega)
      go_wp2
      go_ret
      exact ⟨⟨_, rfl⟩, Bk⟩

set_option maxHeartbeats 1600000 in
theorem muchV_any (a : Option Addr) (c : Nat) (hs : List MvH) (w : World) (h : MvsIn w a hs) (hm : hs.length ≤ maxLen) :
    Calls Try.prog 8 #[.slice a hs.length c] w fun e w' => (∃ b, e = .returned (.bool b)) ∧ Below w.heap.size w w' := by
  have k1 : hs.length ≤ 9223372036854775807 := hm
  clear hm
  go_enter Try.func8, Try.ntmps8
  go_wp2_with fail
  go_loopw [3, 10] (fun v i wr => ∃ (k : Nat) (z : Int), k ≤ hs.length ∧ i = .int .i64 k ∧ v = .int .i64 z ∧ Below w.heap.size w wr) (fun _ i _ => hs.length - (intOf i).toNat)
  case atStart => exact ⟨0, _, by omega, rfl, rfl, Below.refl _ _⟩
  case round =>
    obtain ⟨k, z, hk, rfl, rfl, Bk⟩ := hrel
    by_cases hlt : k < hs.length
    · have hI := h.below Bk
      obtain ⟨b, lo, rfl, hbl, hat⟩ := hI.row.at hlt
      have q1 : (k : Int) < (hs.length : Int) := by omega
      have q2 : decide ((k : Int) < (hs.length : Int)) = true := decide_eq_true q1
      have q3 : (0 : Int) ≤ (k : Int) := by omega
      have q4 : IntKind.i64.wrap ((k : Int) + 1) = (k : Int) + 1 := by rw [IntKind.wrap_i64] <;> omega
      have HK := hat k hlt
      have hsw := Bk.size
      generalize hs[k] = y at *
      clear hat hI
      have HA4 := Blk.new wr 72 (mvC zMvH)
      have b4 : Below wr.heap.size wr (wr.alloc (.cells (mvC zMvH) 72)) := (Below.refl _ _).alloc (Nat.le_refl _) _
      go_upto_region 5 with (first
        | (refine load_cells (B := b) (k := lo + k * 3) 72 (mvC y) (by rfl) rfl rfl HK (by kernel_rfl) (by kernel_rfl) ?_)
        | (refine alloc_blk 72 (mvC zMvH) (by rfl) rfl Try.mhZero ?_)
        | (refine store_blk (k := 0) 72 (.agg (mvC y)) (mvC y) (by rfl) rfl rfl rfl HA4 (by kernel_rfl) (show (3 : Nat) ≤ 3 from Nat.le_refl 3) (by rfl) (st_whole _ _ rfl) ?_; intro w5 HA5 b5 g5))
      have B5 := Bk.trans ((b4.trans b5).mono hsw)
      clear HA4 b4 b5 g5 HK Bk
      generalize wr.heap.size = G1 at *
      have c2 := HA5.cv 2 (.slice y.a y.x.ev.length y.c) rfl
      go_wp2
      go_roundw
      case rel => exact ⟨k + 1, _, by omega, by go_num, rfl, B5⟩
      case measure => simp [intOf]; omega
    · obtain rfl : k = hs.length := by omega
      have q2 : decide ((hs.length : Int) < (hs.length : Int)) = false := decide_eq_false (by omega)
      go_wp2
      go_ret
      exact ⟨⟨_, rfl⟩, Bk⟩

set_option maxHeartbeats 3200000 in
theorem heavy_any (x : Vd) (w : World) (hx : VdIn w x) :
    Calls Try.prog 4 #[.agg (vdC x)] w fun e w' => (∃ b, e = .returned (.bool b) ∧ (b = false → x.fr.tl.length ≤ 20 ∧ x.fr.bo.size ≤ 3000)) ∧ Below w.heap.size w w' := by
  have HI := Lib.hid (fun (W : World) (hb : Below w.heap.size w W) => bigV_any x.ld x.lq W (hx.below hb).ld hx.len.2.2.2.2.2.2.2)
  have HM := Lib.hid (fun (W : World) (hb : Below w.heap.size w W) => muchV_any x.va x.vc x.vl W (hx.below hb).mv hx.len.2.1)
  by_cases hs : x.fr.tl.length ≤ 20 ∧ x.fr.bo.size ≤ 3000
  · have HS : Hid (x.fr.tl.length ≤ 20 ∧ x.fr.bo.size ≤ 3000) := hs
    clear hs
    go_enter Try.func4, Try.ntmps4
    go_upto_region 1 with (first
      | (refine box_blk 61 (vdC x) (by rfl) (by rfl) rfl ?_; intro w1 HA B1))
    have c130 := HA.cv 130 (.slice x.ia x.il.length x.ic) rfl
    have c15 := HA.cv 15 (.slice x.fr.ta x.fr.tl.length x.fr.tc) rfl
    have c23 := HA.cv 23 (.string x.fr.bo) rfl
    have c174 := HA.cv 174 (.slice x.va x.vl.length x.vc) rfl
    go_wp2_with (first
      | (refine load_blk (k := 131) 52 (ldC x.ld x.lq) (by rfl) rfl rfl HA (by kernel_rfl) (by kernel_rfl) (by kernel_rfl) ?_))
    refine (HI.out _ B1).mono ?_
    rintro e w2 ⟨⟨b, rfl⟩, k2⟩
    have HA2 := HA.kept k2
    have B2 := B1.trans (k2.mono B1.size)
    clear HA c130 c15 c23 c174 k2 B1
    have c130 := HA2.cv 130 (.slice x.ia x.il.length x.ic) rfl
    have c15 := HA2.cv 15 (.slice x.fr.ta x.fr.tl.length x.fr.tc) rfl
    have c23 := HA2.cv 23 (.string x.fr.bo) rfl
    have c174 := HA2.cv 174 (.slice x.va x.vl.length x.vc) rfl
    cases b with
    | true =>
      go_wp2
      go_ret
      exact ⟨⟨_, rfl, fun _ => HS.out⟩, B2⟩
    | false =>
      go_wp2_with fail
      refine (HM.out _ B2).mono ?_
      rintro e w3 ⟨⟨b, rfl⟩, k3⟩
      have HA3 := HA2.kept k3
      have B3 := B2.trans (k3.mono B2.size)
      clear HA2 c130 c15 c23 c174 k3 B2
      have c130 := HA3.cv 130 (.slice x.ia x.il.length x.ic) rfl
      have c15 := HA3.cv 15 (.slice x.fr.ta x.fr.tl.length x.fr.tc) rfl
      have c23 := HA3.cv 23 (.string x.fr.bo) rfl
      cases b with
      | true =>
        go_wp2
        go_ret
        exact ⟨⟨_, rfl, fun _ => HS.out⟩, B3⟩
      | false =>
        by_cases h80 : (80 : Int) < (x.il.length : Int)
        · have d80 : decide ((80 : Int) < (x.il.length : Int)) = true := decide_eq_true h80
          go_wp2
          go_ret
          exact ⟨⟨_, rfl, fun _ => HS.out⟩, B3⟩
        · have d80 : decide ((80 : Int) < (x.il.length : Int)) = false := decide_eq_false h80
          have h20 := HS.out
          have d20 : decide ((20 : Int) < (x.fr.tl.length : Int)) = false := decide_eq_false (by omega)
          clear h20
          go_wp2
          go_ret
          exact ⟨⟨_, rfl, fun _ => HS.out⟩, B3⟩
  · have HS : Hid (20 < x.fr.tl.length ∨ 3000 < x.fr.bo.size) := by
      show _ ∨ _
      omega
    clear hs
    go_enter Try.func4, Try.ntmps4
    go_upto_region 1 with (first
      | (refine box_blk 61 (vdC x) (by rfl) (by rfl) rfl ?_; intro w1 HA B1))
    have c130 := HA.cv 130 (.slice x.ia x.il.length x.ic) rfl
    have c15 := HA.cv 15 (.slice x.fr.ta x.fr.tl.length x.fr.tc) rfl
    have c23 := HA.cv 23 (.string x.fr.bo) rfl
    have c174 := HA.cv 174 (.slice x.va x.vl.length x.vc) rfl
    go_wp2_with (first
      | (refine load_blk (k := 131) 52 (ldC x.ld x.lq) (by rfl) rfl rfl HA (by kernel_rfl) (by kernel_rfl) (by kernel_rfl) ?_))
    refine (HI.out _ B1).mono ?_
    rintro e w2 ⟨⟨b, rfl⟩, k2⟩
    have HA2 := HA.kept k2
    have B2 := B1.trans (k2.mono B1.size)
    clear HA c130 c15 c23 c174 k2 B1
    have c130 := HA2.cv 130 (.slice x.ia x.il.length x.ic) rfl
    have c15 := HA2.cv 15 (.slice x.fr.ta x.fr.tl.length x.fr.tc) rfl
    have c23 := HA2.cv 23 (.string x.fr.bo) rfl
    have c174 := HA2.cv 174 (.slice x.va x.vl.length x.vc) rfl
    cases b with
    | true =>
      go_wp2
      go_ret
      exact ⟨⟨true, rfl, fun q => Bool.noConfusion q⟩, B2⟩
    | false =>
      go_wp2_with fail
      refine (HM.out _ B2).mono ?_
      rintro e w3 ⟨⟨b, rfl⟩, k3⟩
      have HA3 := HA2.kept k3
      have B3 := B2.trans (k3.mono B2.size)
      clear HA2 c130 c15 c23 c174 k3 B2
      have c130 := HA3.cv 130 (.slice x.ia x.il.length x.ic) rfl
      have c15 := HA3.cv 15 (.slice x.fr.ta x.fr.tl.length x.fr.tc) rfl
      have c23 := HA3.cv 23 (.string x.fr.bo) rfl
      cases b with
      | true =>
        go_wp2
        go_ret
        exact ⟨⟨true, rfl, fun q => Bool.noConfusion q⟩, B3⟩
      | false =>
        by_cases h80 : (80 : Int) < (x.il.length : Int)
        · have d80 : decide ((80 : Int) < (x.il.length : Int)) = true := decide_eq_true h80
          go_wp2
          go_ret
          exact ⟨⟨true, rfl, fun q => Bool.noConfusion q⟩, B3⟩
        · have d80 : decide ((80 : Int) < (x.il.length : Int)) = false := decide_eq_false h80
          by_cases h20 : (20 : Int) < (x.fr.tl.length : Int)
          · have d20 : decide ((20 : Int) < (x.fr.tl.length : Int)) = true := decide_eq_true h20
            go_wp2
            go_ret
            exact ⟨⟨true, rfl, fun q => Bool.noConfusion q⟩, B3⟩
          · have d20 : decide ((20 : Int) < (x.fr.tl.length : Int)) = false := decide_eq_false h20
            have d30 : decide ((3000 : Int) < (x.fr.bo.size : Int)) = true := decide_eq_true (by have := HS.out; omega)
            go_wp2
            go_ret
            exact ⟨⟨true, rfl, fun q => Bool.noConfusion q⟩, B3⟩

end Go.Proofs.Ytnlphldkdglofaa

namespace Go.Proofs.Ytnlphldkdglofaa
open Go.RowKit

/-- A frame that comes in. -/
structure FrArg (w : World) (f : Fr) : Prop where
  tags : TagsIn w f.ta f.tl
  cap : f.tl.length ≤ f.tc
  most : f.tc ≤ maxLen
  text : f.bo.size ≤ maxLen

theorem FrIn.drew {w : World} {f : Fr} (h : FrIn w f) : FrIn w.drew f := ⟨h.tags, h.few, h.cap, h.short⟩

theorem FrArg.in {w : World} {f : Fr} (h : FrArg w f) (h1 : f.tl.length ≤ 20) (h2 : f.bo.size ≤ 3000) : FrIn w f := ⟨h.tags, h1, h.cap, h2⟩

end Go.Proofs.Ytnlphldkdglofaa

namespace Go.Proofs.Ytnlphldkdglofaa.verdictSames
open Go Go.RowKit
attribute [local go_sem ↓] Go.wp_at_zero Go.wp_at_succ
set_option linter.unusedSimpArgs false
set_option linter.unusedVariables false
set_option maxRecDepth 100000

theorem whole (C : Array Value) : (C.toList.drop 0).take C.size = C.toList := by
  rw [List.drop_zero]
  exact List.take_of_length_le (by simp)

set_option maxHeartbeats 6400000 in
theorem walk (x y : Vd) (w : World) (hx : VdIn w x) (hy : VdIn w y) (ax : FrArg w x.fr) (ay : FrArg w y.fr) :
    Calls Try.prog 3 #[.agg (vdC x), .agg (vdC y)] w fun e w' => e = .returned (.bool true) ∧ Below w.heap.size w w' := by
  have HHx := Lib.hid (fun (W : World) (hb : Below w.heap.size w W) => heavy_any x W (hx.below hb))
  have HHy := Lib.hid (fun (W : World) (hb : Below w.heap.size w W) => heavy_any y W (hy.below hb))
  have HS := Lib.hid (fun (W : World) (hb : Below w.heap.size w W) (q1 : x.fr.tl.length ≤ 20 ∧ x.fr.bo.size ≤ 3000) (q2 : y.fr.tl.length ≤ 20 ∧ y.fr.bo.size ≤ 3000) => sameVd_any x y W (hx.below hb) (hy.below hb) ((ax.in q1.1 q1.2).below hb) ((ay.in q2.1 q2.2).below hb))
  have HR := Lib.hid (fun (W : World) (hb : Below w.heap.size w W) (q1 : x.fr.tl.length ≤ 20 ∧ x.fr.bo.size ≤ 3000) (q2 : y.fr.tl.length ≤ 20 ∧ y.fr.bo.size ≤ 3000) => refVd_any x y W (hx.below hb) (hy.below hb) ((ax.in q1.1 q1.2).below hb) ((ay.in q2.1 q2.2).below hb))
  have HX := Lib.hid (fun (W : World) (hb : Below w.heap.size w W) (q1 : x.fr.tl.length ≤ 20 ∧ x.fr.bo.size ≤ 3000) => sameVd_any x x W (hx.below hb) (hx.below hb) ((ax.in q1.1 q1.2).below hb) ((ax.in q1.1 q1.2).below hb))
  rw [← ref_eq] at HR
  rw [eqVd_self] at HX
  generalize eqVd x y = R at *
  clear hx hy ax ay
  go_enter Try.func3, Try.ntmps3
  go_upto_region 1 with (first
    | (refine box_blk (o := ⟨some 2, _, _, _, _, _⟩) 61 (vdC x) (by rfl) (by rfl) rfl ?_; intro w1 HA1 B1)
    | (refine box_blk (o := ⟨some 3, _, _, _, _, _⟩) 61 (vdC y) (by rfl) (by rfl) rfl ?_; intro w2 HB b2))
  have HA := HA1.kept b2
  have BB := B1.trans (b2.mono B1.size)
  clear HA1 B1 b2
  generalize w1.heap.size = B at *
  go_wp2_with (first
      | (refine load_blk (B := w.heap.size) (k := 0) 61 (vdC x) (by rfl) rfl rfl HA (by kernel_rfl) (by kernel_rfl) (whole _) ?_)
      | (refine load_blk (B := B) (k := 0) 61 (vdC y) (by rfl) rfl rfl HB (by kernel_rfl) (by kernel_rfl) (whole _) ?_))
  refine (HHx.out _ BB).mono ?_
  rintro e w3 ⟨⟨b, rfl, hb1⟩, kk⟩
  replace HA := HA.kept kk
  replace HB := HB.kept kk
  replace BB := BB.trans (kk.mono BB.size)
  clear kk HHx
  cases b with
  | true =>
    go_wp2
    go_ret
    exact ⟨rfl, BB⟩
  | false =>
    have hs1 := Lib.hid (hb1 rfl)
    clear hb1
    go_wp2_with (first
      | (refine load_blk (B := w.heap.size) (k := 0) 61 (vdC x) (by rfl) rfl rfl HA (by kernel_rfl) (by kernel_rfl) (whole _) ?_)
      | (refine load_blk (B := B) (k := 0) 61 (vdC y) (by rfl) rfl rfl HB (by kernel_rfl) (by kernel_rfl) (whole _) ?_))
    refine (HHy.out _ BB).mono ?_
    rintro e w4 ⟨⟨b, rfl, hb2⟩, kk⟩
    replace HA := HA.kept kk
    replace HB := HB.kept kk
    replace BB := BB.trans (kk.mono BB.size)
    clear kk HHy
    cases b with
    | true =>
      go_wp2
      go_ret
      exact ⟨rfl, BB⟩
    | false =>
      have hs2 := Lib.hid (hb2 rfl)
      clear hb2
      have hq : (R == R) = true := beq_self_eq_true R
      go_upto_region 3 with (fail)
      refine wp_region_noPanic ?_
      refine wp_region_held_drew (S := (fun w' => Blk w' w.heap.size 61 (vdC x) ∧ Blk w' B 61 (vdC y))) (by kernel_rfl) ?_ (fun hHeld => ?_)
      · exact ⟨HA, HB⟩
      replace HA := HA.drew
      replace HB := HB.drew
      replace BB := BB.drew
      refine wpAnyH_take (i := 0) (v := .agg (vdC x)) rfl (by kernel_rfl) (by kernel_rfl) (by kernel_rfl) (fun _ _ _ h => h) (Or.inl ⟨by rfl, fun w hSw => exec_load_blk (k := 0) 61 (vdC x) rfl rfl hSw.1 (by kernel_rfl) (by kernel_rfl) (whole _)⟩) (by assumption) ?_
      (try simp only [Act.put, List.getElem_toArray, List.getElem_cons_zero, List.getElem_cons_succ, List.setIfInBounds_toArray, List.set_cons_zero, List.set_cons_succ])
      refine wpAnyH_take (i := 1) (v := .agg (vdC y)) rfl (by kernel_rfl) (by kernel_rfl) (by kernel_rfl) (fun _ _ _ h => h) (Or.inl ⟨by rfl, fun w hSw => exec_load_blk (k := 0) 61 (vdC y) rfl rfl hSw.2 (by kernel_rfl) (by kernel_rfl) (whole _)⟩) (by assumption) ?_
      (try simp only [Act.put, List.getElem_toArray, List.getElem_cons_zero, List.getElem_cons_succ, List.setIfInBounds_toArray, List.set_cons_zero, List.set_cons_succ])
      refine wpAnyH_take (i := 3) (v := .agg (vdC x)) rfl (by kernel_rfl) (by kernel_rfl) (by kernel_rfl) (fun _ _ _ h => h) (Or.inl ⟨by rfl, fun w hSw => exec_load_blk (k := 0) 61 (vdC x) rfl rfl hSw.1 (by kernel_rfl) (by kernel_rfl) (whole _)⟩) (by assumption) ?_
      (try simp only [Act.put, List.getElem_toArray, List.getElem_cons_zero, List.getElem_cons_succ, List.setIfInBounds_toArray, List.set_cons_zero, List.set_cons_succ])
      refine wpAnyH_take (i := 4) (v := .agg (vdC y)) rfl (by kernel_rfl) (by kernel_rfl) (by kernel_rfl) (fun _ _ _ h => h) (Or.inl ⟨by rfl, fun w hSw => exec_load_blk (k := 0) 61 (vdC y) rfl rfl hSw.2 (by kernel_rfl) (by kernel_rfl) (whole _)⟩) (by assumption) ?_
      (try simp only [Act.put, List.getElem_toArray, List.getElem_cons_zero, List.getElem_cons_succ, List.setIfInBounds_toArray, List.set_cons_zero, List.set_cons_succ])
      refine wpAnyH_ready (rs := [2]) (by kernel_rfl) (by simp) ?_
      refine AllReadyH.cons rfl (fun K hK => ?_) AllReadyH.nil
      simp only [List.getElem_toArray, List.getElem_cons_zero, List.getElem_cons_succ]
      go_simp
      go_at_call 5
      (with_reducible refine (HS.out _ BB hs1.out hs2.out).mono ?_)
      rintro e v2 ⟨rfl, kk⟩
      replace HA := HA.kept kk
      replace HB := HB.kept kk
      replace BB := BB.trans (kk.mono BB.size)
      clear kk
      refine hK.out _ _ ?_ (fun hHeld => ?_)
      · exact ⟨HA, HB⟩
      clear hK K
      (try simp only [Act.put, List.getElem_toArray, List.getElem_cons_zero, List.getElem_cons_succ, List.setIfInBounds_toArray, List.set_cons_zero, List.set_cons_succ])
      refine wpAnyH_ready (rs := [5]) (by kernel_rfl) (by simp) ?_
      refine AllReadyH.cons rfl (fun K hK => ?_) AllReadyH.nil
      simp only [List.getElem_toArray, List.getElem_cons_zero, List.getElem_cons_succ]
      go_simp
      go_at_call 6
      (with_reducible refine (HR.out _ BB hs1.out hs2.out).mono ?_)
      rintro e v5 ⟨rfl, kk⟩
      replace HA := HA.kept kk
      replace HB := HB.kept kk
      replace BB := BB.trans (kk.mono BB.size)
      clear kk
      refine hK.out _ _ ?_ (fun hHeld => ?_)
      · exact ⟨HA, HB⟩
      clear hK K
      (try simp only [Act.put, List.getElem_toArray, List.getElem_cons_zero, List.getElem_cons_succ, List.setIfInBounds_toArray, List.set_cons_zero, List.set_cons_succ])
      refine wpAnyH_take (i := 6) (v := ?_) rfl (by kernel_rfl) (by kernel_rfl) (by kernel_rfl) (fun _ _ _ h => h) (Or.inl ⟨by rfl, ?_⟩) (by assumption) ?_
      rotate_left
      · (intro w hSw; (try dsimp only at hSw); go_simp; (try with_reducible rfl))
      (try simp only [Act.put, List.getElem_toArray, List.getElem_cons_zero, List.getElem_cons_succ, List.setIfInBounds_toArray, List.set_cons_zero, List.set_cons_succ])
      refine wpAnyH_take (i := 7) (v := ?_) rfl (by kernel_rfl) (by kernel_rfl) (by kernel_rfl) (fun _ _ _ h => h) (Or.inl ⟨by rfl, ?_⟩) (by assumption) ?_
      rotate_left
      · (intro w hSw; (try dsimp only at hSw); go_simp; (try with_reducible rfl))
      (try simp only [Act.put, List.getElem_toArray, List.getElem_cons_zero, List.getElem_cons_succ, List.setIfInBounds_toArray, List.set_cons_zero, List.set_cons_succ])
      refine wpAnyH_take (i := 8) (v := .agg (vdC x)) rfl (by kernel_rfl) (by kernel_rfl) (by kernel_rfl) (fun _ _ _ h => h) (Or.inl ⟨by rfl, fun w hSw => exec_load_blk (k := 0) 61 (vdC x) rfl rfl hSw.1 (by kernel_rfl) (by kernel_rfl) (whole _)⟩) (by assumption) ?_
      (try simp only [Act.put, List.getElem_toArray, List.getElem_cons_zero, List.getElem_cons_succ, List.setIfInBounds_toArray, List.set_cons_zero, List.set_cons_succ])
      refine wpAnyH_take (i := 9) (v := .agg (vdC x)) rfl (by kernel_rfl) (by kernel_rfl) (by kernel_rfl) (fun _ _ _ h => h) (Or.inl ⟨by rfl, fun w hSw => exec_load_blk (k := 0) 61 (vdC x) rfl rfl hSw.1 (by kernel_rfl) (by kernel_rfl) (whole _)⟩) (by assumption) ?_
      (try simp only [Act.put, List.getElem_toArray, List.getElem_cons_zero, List.getElem_cons_succ, List.setIfInBounds_toArray, List.set_cons_zero, List.set_cons_succ])
      refine wpAnyH_ready (rs := [10]) (by kernel_rfl) (by simp) ?_
      refine AllReadyH.cons rfl (fun K hK => ?_) AllReadyH.nil
      simp only [List.getElem_toArray, List.getElem_cons_zero, List.getElem_cons_succ]
      go_simp
      go_at_call 5
      (with_reducible refine (HX.out _ BB hs1.out).mono ?_)
      rintro e v10 ⟨rfl, kk⟩
      replace HA := HA.kept kk
      replace HB := HB.kept kk
      replace BB := BB.trans (kk.mono BB.size)
      clear kk
      refine hK.out _ _ ?_ (fun hHeld => ?_)
      · exact ⟨HA, HB⟩
      clear hK K
      (try simp only [Act.put, List.getElem_toArray, List.getElem_cons_zero, List.getElem_cons_succ, List.setIfInBounds_toArray, List.set_cons_zero, List.set_cons_succ])
      refine wpAnyH_take (i := 11) (v := ?_) rfl (by kernel_rfl) (by kernel_rfl) (by kernel_rfl) (fun _ _ _ h => h) (Or.inl ⟨by rfl, ?_⟩) (by assumption) ?_
      rotate_left
      · (intro w hSw; (try dsimp only at hSw); go_simp; (try with_reducible rfl))
      (try simp only [Act.put, List.getElem_toArray, List.getElem_cons_zero, List.getElem_cons_succ, List.setIfInBounds_toArray, List.set_cons_zero, List.set_cons_succ])
      refine wpAnyH_take (i := 12) (v := ?_) rfl (by kernel_rfl) (by kernel_rfl) (by kernel_rfl) (fun _ _ _ h => h) (Or.inl ⟨by rfl, ?_⟩) (by assumption) ?_
      rotate_left
      · (intro w hSw; (try dsimp only at hSw); go_simp; (try with_reducible rfl))
      (try simp only [Act.put, List.getElem_toArray, List.getElem_cons_zero, List.getElem_cons_succ, List.setIfInBounds_toArray, List.set_cons_zero, List.set_cons_succ])
      refine wpAnyH_done (by kernel_rfl) ?_ _
      refine NoPanic.normal ?_
      go_wp2
      go_ret
      exact ⟨rfl, BB⟩

end Go.Proofs.Ytnlphldkdglofaa.verdictSames

namespace Go.Proofs.Ytnlphldkdglofaa
open Go.RowKit Go.WideShapes Go.ChangeShapes

/-- The specification is met: one result, which reads as told; the arguments and the named variables read as they did; old memory is as it was. -/
theorem met_below {P : Program} {H : Type} {enc : TypeId × Value → H} {f : Func} {s : ChangeSpec} {apart fresh handsOn again : Bool} {W W' : World} {args : Array Value} {v : Value} {ds gs : List (DataW H)} {places : List MemPlace}
    (whole : DataW.Whole enc P f.params.toList s.vars apart W args.toList ds gs places)
    (results : ∀ (b : Nat) (sp : Nat → Bool) (hd : Bool), DataW.TrodAll enc P W' b sp hd f.resultTypes.toList (v.resultList f.resultTypes.size) (s.fn H (ds ++ gs)).results [])
    (arguments : ∀ sp : Nat → Bool, (∀ p ∈ places, sp p.block = true) → DataW.TrodAll enc P W' 0 sp true f.params.toList args.toList (s.fn H (ds ++ gs)).args places)
    (variables : ∀ sp : Nat → Bool, DataW.TrodVars enc P W' sp s.vars (s.fn H (ds ++ gs)).vars [])
    (below : Below W.heap.size W W')
    (formed : ∀ (j : Nat) (t : TypeId) (r : Value), f.resultTypes[j]? = some t → (v.resultList f.resultTypes.size)[j]? = some r → Value.okWide P W' .any 0 t r) :
    s.post enc P f apart fresh handsOn again W args v W' := by
  have old : ∀ p ∈ places, p.block < W.heap.size := fun p hp => whole.lt p hp
  have oldB : ∀ p ∈ places, (fun b => decide (b < W.heap.size)) p.block = true := fun p hp => decide_eq_true (old p hp)
  obtain ⟨_, _, _, _, _, unfrozen, once⟩ := id whole
  refine ⟨ds, gs, places, [], places, [], whole, results _ _ _, arguments _ oldB, variables _, below.frame _, fun _ => ⟨formed, _, _, ([] ++ places) ++ [], ⟨[] ++ places, [], trodAll_append (arguments _ fun _ _ => rfl) (results _ _ _), variables _, rfl, fun b off hp => ?_, fun ha => by simpa using once ha⟩, fun p hp _ => by simpa using hp⟩⟩
  have hin : MemPlace.cell b off ∈ places := by simpa using hp
  exact (below.frozen (p := ⟨b, off, none⟩) (old _ hin)).trans (unfrozen b off hin)

end Go.Proofs.Ytnlphldkdglofaa

