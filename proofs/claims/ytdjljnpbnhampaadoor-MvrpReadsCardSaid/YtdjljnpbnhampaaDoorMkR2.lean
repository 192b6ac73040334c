/- Texts one behind the other. The reference's SameVerdict at two verdicts whose Mvrp alone is set. -/
import Derived.Test.YtdjljnpbnhampaaDoorMkR1
import Derived.Test.YtdjljnpbnhampaaDoorSmNil
import Derived.Test.YtdjljnpbnhampaaDoorMsEq
import Derived.Test.YtdjljnpbnhampaaDoorBpOf
import Derived.Test.YtdjljnpbnhampaaDoorStOp
import Derived.Test.YtdjljnpbnhampaaDoorPrRead
namespace Go.Proofs.YtdjljnpbnhampaaDoor
open Go.RowKit
attribute [local go_sem ↓] Go.wp_at_zero Go.wp_at_succ
set_option linter.unusedSimpArgs false
set_option linter.unusedVariables false
set_option maxRecDepth 100000

def i0 : Value := .int .i64 0

def u0 : Value := .int .u8 0

def zAr0 : List Value := [i0, u0, u0, u0, u0, u0, u0, u0, u0, u0, u0, u0, u0, u0, u0, u0, u0, u0, u0, u0, u0]

def zPa0 : List Value := [.bool false, i0, i0, i0, i0, i0, i0, i0, i0, i0]

def zNm0 : List Value := [i0, .string ⟨#[]⟩]

def nil0 : Value := .slice none 0 0

def zLl0 : List Value := zNm0 ++ zNm0 ++ [i0, nil0, nil0, nil0, nil0, nil0, nil0]

def zPt0 : List Value := [i0, u0, u0, u0, u0, u0, u0, i0, i0, i0, i0]

def zLa0 : List Value := zPt0 ++ zPt0 ++ [i0]

def zMk0 : List Value := [.bool false, i0, u0, u0, u0, u0, u0, u0, i0]

/-- A verdict with a Mvrp alone. -/
def vdV (v : Value) : Array Value := ([i0, i0, i0] ++ (zFr.toList ++ (zAr0 ++ (zPa0 ++ ((bpC zBp).toList ++ ((msC zMs (.slice none 0 0)).toList ++ (zLl0 ++ (zLa0 ++ (zMk0 ++ [v]))))))))).toArray

theorem Tryd.llZero : (Tryd.prog.info? 62).map (·.zero) = some (some (.agg zLl0.toArray)) := by kernel_rfl

theorem wp_alloc_op {P : Program} {o : Oper} {a : Act} {w : World} {K : Act → World → Prop} {Q : Exit → Act → World → Prop} (t : TypeId) (Z : Array Value) (ho : o.op = .alloc t) (hz : (P.info? t).map (·.zero) = some (some (.agg Z)))
    (hK : ∀ b w', b = w.heap.size → Blk w' b t Z → Below b w w' → K (a.put o.dst (.pointer (some ⟨b, 0, none⟩))) w') : Oper.wp P o a w K Q := by
  have h1 : (Instr.alloc t true (.tuple #[])).run P w = .ok (.pointer (some ⟨w.heap.size, 0, none⟩)) (w.alloc (.cells Z t)) := by
    cases hi : P.info? t with
    | none => rw [hi] at hz; cases hz
    | some i =>
      rw [hi] at hz
      simp only [Option.map_some, Option.some.injEq] at hz
      simp [Instr.alloc, zeroValue, typeInfo, hi, hz, newVar, newRow, newObj, Value.cells]
      rfl
  unfold Oper.wp execOp
  simp only [ho, Sem.run_bind, Sem.run_pure, Result.andThen_ok, h1]
  exact hK _ _ rfl (Blk.new w t Z) ((Below.refl _ _).alloc (Nat.le_refl _) _)

theorem wpAnyH_weaken {P : Program} {md : Region.Mode} {ops : Array Oper} {Q : Exit → Act → World → Prop} {S S' : World → Prop} (hS : ∀ w, S' w → S w) : ∀ (fuel : Nat) (listed : Array Bool) (a : Act) (w : World), wpAnyH P md ops Q S' fuel listed a w → wpAnyH P md ops Q S fuel listed a w
  | 0, _, _, _, h => h
  | fuel + 1, _, _, _, h => ⟨h.1, fun i hi => wpOp_mono (fun a' w' h' => ⟨hS _ h'.1, wpAnyH_weaken hS fuel _ a' w' h'.2⟩) (h.2 i hi)⟩

/-- Four new blocks, wherever they lie. -/
structure Four (v1 v2 : Value) (w : World) (B b5 b6 b7 b8 : Nat) (u : World) : Prop where
  ha : Blk u w.heap.size 71 (vdV v1)
  hb : Blk u B 71 (vdV v2)
  h5 : Blk u b5 34 (msC zMs (.slice none 0 0))
  h6 : Blk u b6 34 (msC zMs (.slice none 0 0))
  h7 : Blk u b7 62 zLl0.toArray
  h8 : Blk u b8 62 zLl0.toArray
  hbe : Below w.heap.size w u
  hn : b5 ≠ b6 ∧ b5 ≠ b7 ∧ b5 ≠ b8 ∧ b6 ≠ b7 ∧ b6 ≠ b8 ∧ b7 ≠ b8
  hn2 : B < b5 ∧ B < b6 ∧ B < b7 ∧ B < b8

set_option maxHeartbeats 25600000 in
theorem sameVerdict_mv (a1 a2 : Option Addr) (c1 c2 : Nat) (l1 l2 : List MvH) (w : World) (h1 : MvsIn w a1 l1) (h2 : MvsIn w a2 l2) (m1 : l1.length ≤ maxLen) (m2 : l2.length ≤ maxLen) (hx : xs l1 = xs l2) :
    Calls Tryd.prog 10 #[.agg (vdV (.slice a1 l1.length c1)), .agg (vdV (.slice a2 l2.length c2))] w fun e w' => e = .returned (.bool true) ∧ Below w.heap.size w w' := by
  have HS := Lib.hid (fun (W : World) (M1 : MvsIn W a1 l1) (M2 : MvsIn W a2 l2) => by
    have r := sameR_any a1 a2 c1 c2 l1 l2 W M1 M2 m1 m2
    rw [decide_eq_true hx] at r
    exact r)
  clear hx m1 m2
  generalize l1.length = n1 at *
  generalize l2.length = n2 at *
  go_enter Tryd.func10, Tryd.ntmps10
  go_upto_region 1 with (first
    | (refine box_blk (o := ⟨some 2, _, _, _, _, _⟩) 71 (vdV (.slice a1 n1 c1)) (by rfl) (by rfl) rfl ?_; intro w1 HA1 B1)
    | (refine box_blk (o := ⟨some 3, _, _, _, _, _⟩) 71 (vdV (.slice a2 n2 c2)) (by rfl) (by rfl) rfl ?_; intro w2 HB2 b2; have HA2 := HA1.kept b2; have B2 := B1.trans (b2.mono B1.size)))
  (try simp only [Act.put, List.setIfInBounds_toArray, List.set_cons_zero, List.set_cons_succ])
  have hBl := HB2.lt
  have hAB := HA1.lt
  clear HA1 b2
  generalize w1.heap.size = B at *
  (try simp only [List.append_eq, List.cons_append, List.nil_append])
  refine wp_region_noPanic ?_
  refine wp_region_held_drew (S := (fun w' => Blk w' w.heap.size 71 (vdV (.slice a1 n1 c1)) ∧ Blk w' B 71 (vdV (.slice a2 n2 c2)))) (by kernel_rfl) ?_ (fun hHeld => ?_)
  · exact ⟨HA2, HB2⟩
  have HA3 := HA2.drew
  have HB3 := HB2.drew
  have B3 := B2.drew
  have hBl3 : B < w2.drew.heap.size := hBl
  clear HA2 HB2 B2 hBl
  generalize w2.drew = w3 at *
  refine wpAnyH_take (i := 0) (v := ?_) rfl (by kernel_rfl) (by kernel_rfl) (by kernel_rfl) (fun _ _ _ h => h) (Or.inl ⟨by rfl, ?_⟩) (by assumption) ?_
  rotate_left
  · (intro w hSw; (try dsimp only at hSw); go_simp; (try with_reducible rfl))
  (try simp only [Act.put, List.getElem_toArray, List.getElem_cons_zero, List.getElem_cons_succ, List.setIfInBounds_toArray, List.set_cons_zero, List.set_cons_succ])
  refine wpAnyH_take (i := 2) (v := ?_) rfl (by kernel_rfl) (by kernel_rfl) (by kernel_rfl) (fun _ _ _ h => h) (Or.inl ⟨by rfl, ?_⟩) (by assumption) ?_
  rotate_left
  · (intro w hSw; (try dsimp only at hSw); go_simp; (try with_reducible rfl))
  (try simp only [Act.put, List.getElem_toArray, List.getElem_cons_zero, List.getElem_cons_succ, List.setIfInBounds_toArray, List.set_cons_zero, List.set_cons_succ])
  refine wpAnyH_take (i := 4) (v := ?_) rfl (by kernel_rfl) (by kernel_rfl) (by kernel_rfl) (fun _ _ _ h => h) (Or.inl ⟨by rfl, ?_⟩) (by assumption) ?_
  rotate_left
  · (intro w hSw; (try dsimp only at hSw); go_simp; (try with_reducible rfl))
  (try simp only [Act.put, List.getElem_toArray, List.getElem_cons_zero, List.getElem_cons_succ, List.setIfInBounds_toArray, List.set_cons_zero, List.set_cons_succ])
  refine wpAnyH_take (i := 6) (v := ?_) rfl (by kernel_rfl) (by kernel_rfl) (by kernel_rfl) (fun _ _ _ h => h) (Or.inl ⟨by rfl, ?_⟩) (by assumption) ?_
  rotate_left
  · (intro w hSw; (try dsimp only at hSw); go_simp; (try with_reducible rfl))
  (try simp only [Act.put, List.getElem_toArray, List.getElem_cons_zero, List.getElem_cons_succ, List.setIfInBounds_toArray, List.set_cons_zero, List.set_cons_succ])
  refine wpAnyH_take (i := 1) (v := .agg (msC zMs (.slice none 0 0))) rfl (by kernel_rfl) (by kernel_rfl) (by kernel_rfl) (fun _ _ _ h => h) (Or.inl ⟨by rfl, fun w hSw => exec_load_blk (k := 86) 34 (msC zMs (.slice none 0 0)) rfl rfl hSw.1 (by kernel_rfl) (by kernel_rfl) rfl⟩) (by assumption) ?_
  (try simp only [Act.put, List.getElem_toArray, List.getElem_cons_zero, List.getElem_cons_succ, List.setIfInBounds_toArray, List.set_cons_zero, List.set_cons_succ])
  refine wpAnyH_take (i := 3) (v := .agg (msC zMs (.slice none 0 0))) rfl (by kernel_rfl) (by kernel_rfl) (by kernel_rfl) (fun _ _ _ h => h) (Or.inl ⟨by rfl, fun w hSw => exec_load_blk (k := 86) 34 (msC zMs (.slice none 0 0)) rfl rfl hSw.2 (by kernel_rfl) (by kernel_rfl) rfl⟩) (by assumption) ?_
  (try simp only [Act.put, List.getElem_toArray, List.getElem_cons_zero, List.getElem_cons_succ, List.setIfInBounds_toArray, List.set_cons_zero, List.set_cons_succ])
  refine wpAnyH_take (i := 5) (v := .agg (zLl0.toArray)) rfl (by kernel_rfl) (by kernel_rfl) (by kernel_rfl) (fun _ _ _ h => h) (Or.inl ⟨by rfl, fun w hSw => exec_load_blk (k := 131) 62 (zLl0.toArray) rfl rfl hSw.1 (by kernel_rfl) (by kernel_rfl) rfl⟩) (by assumption) ?_
  (try simp only [Act.put, List.getElem_toArray, List.getElem_cons_zero, List.getElem_cons_succ, List.setIfInBounds_toArray, List.set_cons_zero, List.set_cons_succ])
  refine wpAnyH_take (i := 7) (v := .agg (zLl0.toArray)) rfl (by kernel_rfl) (by kernel_rfl) (by kernel_rfl) (fun _ _ _ h => h) (Or.inl ⟨by rfl, fun w hSw => exec_load_blk (k := 131) 62 (zLl0.toArray) rfl rfl hSw.2 (by kernel_rfl) (by kernel_rfl) rfl⟩) (by assumption) ?_
  (try simp only [Act.put, List.getElem_toArray, List.getElem_cons_zero, List.getElem_cons_succ, List.setIfInBounds_toArray, List.set_cons_zero, List.set_cons_succ])
  have tail : ∀ (b5 b6 b7 b8 : Nat) (u : World), Four (.slice a1 n1 c1) (.slice a2 n2 c2) w B b5 b6 b7 b8 u → (?G : Nat → Nat → Nat → Nat → World → Prop) b5 b6 b7 b8 u := ?tl
  · have HA := HA3
    have HB := HB3
    have HW := B3
    have hB3 : B < w3.heap.size := hBl3
    refine wpAnyH_ready (rs := [8, 9, 10, 11]) (by kernel_rfl) (by simp) ?_
    refine AllReadyH.cons rfl (fun K hK => ?_) (AllReadyH.cons rfl (fun K hK => ?_) (AllReadyH.cons rfl (fun K hK => ?_) (AllReadyH.cons rfl (fun K hK => ?_) AllReadyH.nil)))
    · simp only [List.getElem_toArray, List.getElem_cons_zero, List.getElem_cons_succ]
      rw [if_pos (by rfl)]
      refine wp_alloc_op 34 (msC zMs (.slice none 0 0)) rfl Tryd.msZero (fun b5 u1 e5 H5 n5 => ?_)
      have lHA := HA.lt
      have lHB := HB.lt
      rw [← e5] at lHA lHB
      have e5' : b5 = w3.heap.size := e5
      replace HA := HA.kept (by rw [← e5']; exact n5)
      replace HB := HB.kept (by rw [← e5']; exact n5)
      replace HW := HW.trans (n5.mono (by omega))
      clear e5 e5' n5
      refine hK.out _ _ ?_ (fun hHeld => ?_)
      · exact ⟨HA, HB⟩
      clear hK K
      (try simp only [Act.put, List.getElem_toArray, List.getElem_cons_zero, List.getElem_cons_succ, List.setIfInBounds_toArray, List.set_cons_zero, List.set_cons_succ])
      refine wpAnyH_ready (rs := [9, 10, 11]) (by kernel_rfl) (by simp) ?_
      refine AllReadyH.cons rfl (fun K hK => ?_) (AllReadyH.cons rfl (fun K hK => ?_) (AllReadyH.cons rfl (fun K hK => ?_) AllReadyH.nil))
      · simp only [List.getElem_toArray, List.getElem_cons_zero, List.getElem_cons_succ]
        rw [if_pos (by rfl)]
        refine wp_alloc_op 34 (msC zMs (.slice none 0 0)) rfl Tryd.msZero (fun b6 u2 e6 H6 n6 => ?_)
        have lHA := HA.lt
        have lHB := HB.lt
        have lH5 := H5.lt
        rw [← e6] at lHA lHB lH5
        have e6' : b6 = u1.heap.size := e6
        replace HA := HA.kept (by rw [← e6']; exact n6)
        replace HB := HB.kept (by rw [← e6']; exact n6)
        replace H5 := H5.kept (by rw [← e6']; exact n6)
        replace HW := HW.trans (n6.mono (by omega))
        clear e6 e6' n6
        refine hK.out _ _ ?_ (fun hHeld => ?_)
        · exact ⟨HA, HB⟩
        clear hK K
        (try simp only [Act.put, List.getElem_toArray, List.getElem_cons_zero, List.getElem_cons_succ, List.setIfInBounds_toArray, List.set_cons_zero, List.set_cons_succ])
        refine wpAnyH_ready (rs := [10, 11]) (by kernel_rfl) (by simp) ?_
        refine AllReadyH.cons rfl (fun K hK => ?_) (AllReadyH.cons rfl (fun K hK => ?_) AllReadyH.nil)
        · simp only [List.getElem_toArray, List.getElem_cons_zero, List.getElem_cons_succ]
          rw [if_pos (by rfl)]
          refine wp_alloc_op 62 zLl0.toArray rfl Tryd.llZero (fun b7 u3 e7 H7 n7 => ?_)
          have lHA := HA.lt
          have lHB := HB.lt
          have lH5 := H5.lt
          have lH6 := H6.lt
          rw [← e7] at lHA lHB lH5 lH6
          have e7' : b7 = u2.heap.size := e7
          replace HA := HA.kept (by rw [← e7']; exact n7)
          replace HB := HB.kept (by rw [← e7']; exact n7)
          replace H5 := H5.kept (by rw [← e7']; exact n7)
          replace H6 := H6.kept (by rw [← e7']; exact n7)
          replace HW := HW.trans (n7.mono (by omega))
          clear e7 e7' n7
          refine hK.out _ _ ?_ (fun hHeld => ?_)
          · exact ⟨HA, HB⟩
          clear hK K
          (try simp only [Act.put, List.getElem_toArray, List.getElem_cons_zero, List.getElem_cons_succ, List.setIfInBounds_toArray, List.set_cons_zero, List.set_cons_succ])
          refine wpAnyH_ready (rs := [11]) (by kernel_rfl) (by simp) ?_
          refine AllReadyH.cons rfl (fun K hK => ?_) AllReadyH.nil
          · simp only [List.getElem_toArray, List.getElem_cons_zero, List.getElem_cons_succ]
            rw [if_pos (by rfl)]
            refine wp_alloc_op 62 zLl0.toArray rfl Tryd.llZero (fun b8 u4 e8 H8 n8 => ?_)
            have lHA := HA.lt
            have lHB := HB.lt
            have lH5 := H5.lt
            have lH6 := H6.lt
            have lH7 := H7.lt
            rw [← e8] at lHA lHB lH5 lH6 lH7
            have e8' : b8 = u3.heap.size := e8
            replace HA := HA.kept (by rw [← e8']; exact n8)
            replace HB := HB.kept (by rw [← e8']; exact n8)
            replace H5 := H5.kept (by rw [← e8']; exact n8)
            replace H6 := H6.kept (by rw [← e8']; exact n8)
            replace H7 := H7.kept (by rw [← e8']; exact n8)
            replace HW := HW.trans (n8.mono (by omega))
            clear e8 e8' n8
            refine hK.out _ _ ?_ (fun hHeld => ?_)
            · exact ⟨HA, HB⟩
            clear hK K
            (try simp only [Act.put, List.getElem_toArray, List.getElem_cons_zero, List.getElem_cons_succ, List.setIfInBounds_toArray, List.set_cons_zero, List.set_cons_succ])
            exact tail b5 b6 b7 b8 u4 ⟨HA, HB, H5, H6, H7, H8, HW, by omega, by omega⟩
        · simp only [List.getElem_toArray, List.getElem_cons_zero, List.getElem_cons_succ]
          rw [if_pos (by rfl)]
          refine wp_alloc_op 62 zLl0.toArray rfl Tryd.llZero (fun b8 u3 e8 H8 n8 => ?_)
          have lHA := HA.lt
          have lHB := HB.lt
          have lH5 := H5.lt
          have lH6 := H6.lt
          rw [← e8] at lHA lHB lH5 lH6
          have e8' : b8 = u2.heap.size := e8
          replace HA := HA.kept (by rw [← e8']; exact n8)
          replace HB := HB.kept (by rw [← e8']; exact n8)
          replace H5 := H5.kept (by rw [← e8']; exact n8)
          replace H6 := H6.kept (by rw [← e8']; exact n8)
          replace HW := HW.trans (n8.mono (by omega))
          clear e8 e8' n8
          refine hK.out _ _ ?_ (fun hHeld => ?_)
          · exact ⟨HA, HB⟩
          clear hK K
          (try simp only [Act.put, List.getElem_toArray, List.getElem_cons_zero, List.getElem_cons_succ, List.setIfInBounds_toArray, List.set_cons_zero, List.set_cons_succ])
          refine wpAnyH_ready (rs := [10]) (by kernel_rfl) (by simp) ?_
          refine AllReadyH.cons rfl (fun K hK => ?_) AllReadyH.nil
          · simp only [List.getElem_toArray, List.getElem_cons_zero, List.getElem_cons_succ]
            rw [if_pos (by rfl)]
            refine wp_alloc_op 62 zLl0.toArray rfl Tryd.llZero (fun b7 u4 e7 H7 n7 => ?_)
            have lHA := HA.lt
            have lHB := HB.lt
            have lH5 := H5.lt
            have lH6 := H6.lt
            have lH8 := H8.lt
            rw [← e7] at lHA lHB lH5 lH6 lH8
            have e7' : b7 = u3.heap.size := e7
            replace HA := HA.kept (by rw [← e7']; exact n7)
            replace HB := HB.kept (by rw [← e7']; exact n7)
            replace H5 := H5.kept (by rw [← e7']; exact n7)
            replace H6 := H6.kept (by rw [← e7']; exact n7)
            replace H8 := H8.kept (by rw [← e7']; exact n7)
            replace HW := HW.trans (n7.mono (by omega))
            clear e7 e7' n7
            refine hK.out _ _ ?_ (fun hHeld => ?_)
            · exact ⟨HA, HB⟩
            clear hK K
            (try simp only [Act.put, List.getElem_toArray, List.getElem_cons_zero, List.getElem_cons_succ, List.setIfInBounds_toArray, List.set_cons_zero, List.set_cons_succ])
            exact tail b5 b6 b7 b8 u4 ⟨HA, HB, H5, H6, H7, H8, HW, by omega, by omega⟩
      · simp only [List.getElem_toArray, List.getElem_cons_zero, List.getElem_cons_succ]
        rw [if_pos (by rfl)]
        refine wp_alloc_op 62 zLl0.toArray rfl Tryd.llZero (fun b7 u2 e7 H7 n7 => ?_)
        have lHA := HA.lt
        have lHB := HB.lt
        have lH5 := H5.lt
        rw [← e7] at lHA lHB lH5
        have e7' : b7 = u1.heap.size := e7
        replace HA := HA.kept (by rw [← e7']; exact n7)
        replace HB := HB.kept (by rw [← e7']; exact n7)
        replace H5 := H5.kept (by rw [← e7']; exact n7)
        replace HW := HW.trans (n7.mono (by omega))
        clear e7 e7' n7
        refine hK.out _ _ ?_ (fun hHeld => ?_)
        · exact ⟨HA, HB⟩
        clear hK K
        (try simp only [Act.put, List.getElem_toArray, List.getElem_cons_zero, List.getElem_cons_succ, List.setIfInBounds_toArray, List.set_cons_zero, List.set_cons_succ])
        refine wpAnyH_ready (rs := [9, 11]) (by kernel_rfl) (by simp) ?_
        refine AllReadyH.cons rfl (fun K hK => ?_) (AllReadyH.cons rfl (fun K hK => ?_) AllReadyH.nil)
        · simp only [List.getElem_toArray, List.getElem_cons_zero, List.getElem_cons_succ]
          rw [if_pos (by rfl)]
          refine wp_alloc_op 34 (msC zMs (.slice none 0 0)) rfl Tryd.msZero (fun b6 u3 e6 H6 n6 => ?_)
          have lHA := HA.lt
          have lHB := HB.lt
          have lH5 := H5.lt
          have lH7 := H7.lt
          rw [← e6] at lHA lHB lH5 lH7
          have e6' : b6 = u2.heap.size := e6
          replace HA := HA.kept (by rw [← e6']; exact n6)
          replace HB := HB.kept (by rw [← e6']; exact n6)
          replace H5 := H5.kept (by rw [← e6']; exact n6)
          replace H7 := H7.kept (by rw [← e6']; exact n6)
          replace HW := HW.trans (n6.mono (by omega))
          clear e6 e6' n6
          refine hK.out _ _ ?_ (fun hHeld => ?_)
          · exact ⟨HA, HB⟩
          clear hK K
          (try simp only [Act.put, List.getElem_toArray, List.getElem_cons_zero, List.getElem_cons_succ, List.setIfInBounds_toArray, List.set_cons_zero, List.set_cons_succ])
          refine wpAnyH_ready (rs := [11]) (by kernel_rfl) (by simp) ?_
          refine AllReadyH.cons rfl (fun K hK => ?_) AllReadyH.nil
          · simp only [List.getElem_toArray, List.getElem_cons_zero, List.getElem_cons_succ]
            rw [if_pos (by rfl)]
            refine wp_alloc_op 62 zLl0.toArray rfl Tryd.llZero (fun b8 u4 e8 H8 n8 => ?_)
            have lHA := HA.lt
            have lHB := HB.lt
            have lH5 := H5.lt
            have lH7 := H7.lt
            have lH6 := H6.lt
            rw [← e8] at lHA lHB lH5 lH7 lH6
            have e8' : b8 = u3.heap.size := e8
            replace HA := HA.kept (by rw [← e8']; exact n8)
            replace HB := HB.kept (by rw [← e8']; exact n8)
            replace H5 := H5.kept (by rw [← e8']; exact n8)
            replace H7 := H7.kept (by rw [← e8']; exact n8)
            replace H6 := H6.kept (by rw [← e8']; exact n8)
            replace HW := HW.trans (n8.mono (by omega))
            clear e8 e8' n8
            refine hK.out _ _ ?_ (fun hHeld => ?_)
            · exact ⟨HA, HB⟩
            clear hK K
            (try simp only [Act.put, List.getElem_toArray, List.getElem_cons_zero, List.getElem_cons_succ, List.setIfInBounds_toArray, List.set_cons_zero, List.set_cons_succ])
            exact tail b5 b6 b7 b8 u4 ⟨HA, HB, H5, H6, H7, H8, HW, by omega, by omega⟩
        · simp only [List.getElem_toArray, List.getElem_cons_zero, List.getElem_cons_succ]
          rw [if_pos (by rfl)]
          refine wp_alloc_op 62 zLl0.toArray rfl Tryd.llZero (fun b8 u3 e8 H8 n8 => ?_)
          have lHA := HA.lt
          have lHB := HB.lt
          have lH5 := H5.lt
          have lH7 := H7.lt
          rw [← e8] at lHA lHB lH5 lH7
          have e8' : b8 = u2.heap.size := e8
          replace HA := HA.kept (by rw [← e8']; exact n8)
          replace HB := HB.kept (by rw [← e8']; exact n8)
          replace H5 := H5.kept (by rw [← e8']; exact n8)
          replace H7 := H7.kept (by rw [← e8']; exact n8)
          replace HW := HW.trans (n8.mono (by omega))
          clear e8 e8' n8
          refine hK.out _ _ ?_ (fun hHeld => ?_)
          · exact ⟨HA, HB⟩
          clear hK K
          (try simp only [Act.put, List.getElem_toArray, List.getElem_cons_zero, List.getElem_cons_succ, List.setIfInBounds_toArray, List.set_cons_zero, List.set_cons_succ])
          refine wpAnyH_ready (rs := [9]) (by kernel_rfl) (by simp) ?_
          refine AllReadyH.cons rfl (fun K hK => ?_) AllReadyH.nil
          · simp only [List.getElem_toArray, List.getElem_cons_zero, List.getElem_cons_succ]
            rw [if_pos (by rfl)]
            refine wp_alloc_op 34 (msC zMs (.slice none 0 0)) rfl Tryd.msZero (fun b6 u4 e6 H6 n6 => ?_)
            have lHA := HA.lt
            have lHB := HB.lt
            have lH5 := H5.lt
            have lH7 := H7.lt
            have lH8 := H8.lt
            rw [← e6] at lHA lHB lH5 lH7 lH8
            have e6' : b6 = u3.heap.size := e6
            replace HA := HA.kept (by rw [← e6']; exact n6)
            replace HB := HB.kept (by rw [← e6']; exact n6)
            replace H5 := H5.kept (by rw [← e6']; exact n6)
            replace H7 := H7.kept (by rw [← e6']; exact n6)
            replace H8 := H8.kept (by rw [← e6']; exact n6)
            replace HW := HW.trans (n6.mono (by omega))
            clear e6 e6' n6
            refine hK.out _ _ ?_ (fun hHeld => ?_)
            · exact ⟨HA, HB⟩
            clear hK K
            (try simp only [Act.put, List.getElem_toArray, List.getElem_cons_zero, List.getElem_cons_succ, List.setIfInBounds_toArray, List.set_cons_zero, List.set_cons_succ])
            exact tail b5 b6 b7 b8 u4 ⟨HA, HB, H5, H6, H7, H8, HW, by omega, by omega⟩
      · simp only [List.getElem_toArray, List.getElem_cons_zero, List.getElem_cons_succ]
        rw [if_pos (by rfl)]
        refine wp_alloc_op 62 zLl0.toArray rfl Tryd.llZero (fun b8 u2 e8 H8 n8 => ?_)
        have lHA := HA.lt
        have lHB := HB.lt
        have lH5 := H5.lt
        rw [← e8] at lHA lHB lH5
        have e8' : b8 = u1.heap.size := e8
        replace HA := HA.kept (by rw [← e8']; exact n8)
        replace HB := HB.kept (by rw [← e8']; exact n8)
        replace H5 := H5.kept (by rw [← e8']; exact n8)
        replace HW := HW.trans (n8.mono (by omega))
        clear e8 e8' n8
        refine hK.out _ _ ?_ (fun hHeld => ?_)
        · exact ⟨HA, HB⟩
        clear hK K
        (try simp only [Act.put, List.getElem_toArray, List.getElem_cons_zero, List.getElem_cons_succ, List.setIfInBounds_toArray, List.set_cons_zero, List.set_cons_succ])
        refine wpAnyH_ready (rs := [9, 10]) (by kernel_rfl) (by simp) ?_
        refine AllReadyH.cons rfl (fun K hK => ?_) (AllReadyH.cons rfl (fun K hK => ?_) AllReadyH.nil)
        · simp only [List.getElem_toArray, List.getElem_cons_zero, List.getElem_cons_succ]
          rw [if_pos (by rfl)]
          refine wp_alloc_op 34 (msC zMs (.slice none 0 0)) rfl Tryd.msZero (fun b6 u3 e6 H6 n6 => ?_)
          have lHA := HA.lt
          have lHB := HB.lt
          have lH5 := H5.lt
          have lH8 := H8.lt
          rw [← e6] at lHA lHB lH5 lH8
          have e6' : b6 = u2.heap.size := e6
          replace HA := HA.kept (by rw [← e6']; exact n6)
          replace HB := HB.kept (by rw [← e6']; exact n6)
          replace H5 := H5.kept (by rw [← e6']; exact n6)
          replace H8 := H8.kept (by rw [← e6']; exact n6)
          replace HW := HW.trans (n6.mono (by omega))
          clear e6 e6' n6
          refine hK.out _ _ ?_ (fun hHeld => ?_)
          · exact ⟨HA, HB⟩
          clear hK K
          (try simp only [Act.put, List.getElem_toArray, List.getElem_cons_zero, List.getElem_cons_succ, List.setIfInBounds_toArray, List.set_cons_zero, List.set_cons_succ])
          refine wpAnyH_ready (rs := [10]) (by kernel_rfl) (by simp) ?_
          refine AllReadyH.cons rfl (fun K hK => ?_) AllReadyH.nil
          · simp only [List.getElem_toArray, List.getElem_cons_zero, List.getElem_cons_succ]
            rw [if_pos (by rfl)]
            refine wp_alloc_op 62 zLl0.toArray rfl Tryd.llZero (fun b7 u4 e7 H7 n7 => ?_)
            have lHA := HA.lt
            have lHB := HB.lt
            have lH5 := H5.lt
            have lH8 := H8.lt
            have lH6 := H6.lt
            rw [← e7] at lHA lHB lH5 lH8 lH6
            have e7' : b7 = u3.heap.size := e7
            replace HA := HA.kept (by rw [← e7']; exact n7)
            replace HB := HB.kept (by rw [← e7']; exact n7)
            replace H5 := H5.kept (by rw [← e7']; exact n7)
            replace H8 := H8.kept (by rw [← e7']; exact n7)
            replace H6 := H6.kept (by rw [← e7']; exact n7)
            replace HW := HW.trans (n7.mono (by omega))
            clear e7 e7' n7
            refine hK.out _ _ ?_ (fun hHeld => ?_)
            · exact ⟨HA, HB⟩
            clear hK K
            (try simp only [Act.put, List.getElem_toArray, List.getElem_cons_zero, List.getElem_cons_succ, List.setIfInBounds_toArray, List.set_cons_zero, List.set_cons_succ])
            exact tail b5 b6 b7 b8 u4 ⟨HA, HB, H5, H6, H7, H8, HW, by omega, by omega⟩
        · simp only [List.getElem_toArray, List.getElem_cons_zero, List.getElem_cons_succ]
          rw [if_pos (by rfl)]
          refine wp_alloc_op 62 zLl0.toArray rfl Tryd.llZero (fun b7 u3 e7 H7 n7 => ?_)
          have lHA := HA.lt
          have lHB := HB.lt
          have lH5 := H5.lt
          have lH8 := H8.lt
          rw [← e7] at lHA lHB lH5 lH8
          have e7' : b7 = u2.heap.size := e7
          replace HA := HA.kept (by rw [← e7']; exact n7)
          replace HB := HB.kept (by rw [← e7']; exact n7)
          replace H5 := H5.kept (by rw [← e7']; exact n7)
          replace H8 := H8.kept (by rw [← e7']; exact n7)
          replace HW := HW.trans (n7.mono (by omega))
          clear e7 e7' n7
          refine hK.out _ _ ?_ (fun hHeld => ?_)
          · exact ⟨HA, HB⟩
          clear hK K
          (try simp only [Act.put, List.getElem_toArray, List.getElem_cons_zero, List.getElem_cons_succ, List.setIfInBounds_toArray, List.set_cons_zero, List.set_cons_succ])
          refine wpAnyH_ready (rs := [9]) (by kernel_rfl) (by simp) ?_
          refine AllReadyH.cons rfl (fun K hK => ?_) AllReadyH.nil
          · simp only [List.getElem_toArray, List.getElem_cons_zero, List.getElem_cons_succ]
            rw [if_pos (by rfl)]
            refine wp_alloc_op 34 (msC zMs (.slice none 0 0)) rfl Tryd.msZero (fun b6 u4 e6 H6 n6 => ?_)
            have lHA := HA.lt
            have lHB := HB.lt
            have lH5 := H5.lt
            have lH8 := H8.lt
            have lH7 := H7.lt
            rw [← e6] at lHA lHB lH5 lH8 lH7
            have e6' : b6 = u3.heap.size := e6
            replace HA := HA.kept (by rw [← e6']; exact n6)
            replace HB := HB.kept (by rw [← e6']; exact n6)
            replace H5 := H5.kept (by rw [← e6']; exact n6)
            replace H8 := H8.kept (by rw [← e6']; exact n6)
            replace H7 := H7.kept (by rw [← e6']; exact n6)
            replace HW := HW.trans (n6.mono (by omega))
            clear e6 e6' n6
            refine hK.out _ _ ?_ (fun hHeld => ?_)
            · exact ⟨HA, HB⟩
            clear hK K
            (try simp only [Act.put, List.getElem_toArray, List.getElem_cons_zero, List.getElem_cons_succ, List.setIfInBounds_toArray, List.set_cons_zero, List.set_cons_succ])
            exact tail b5 b6 b7 b8 u4 ⟨HA, HB, H5, H6, H7, H8, HW, by omega, by omega⟩
    · simp only [List.getElem_toArray, List.getElem_cons_zero, List.getElem_cons_succ]
      rw [if_pos (by rfl)]
      refine wp_alloc_op 34 (msC zMs (.slice none 0 0)) rfl Tryd.msZero (fun b6 u1 e6 H6 n6 => ?_)
      have lHA := HA.lt
      have lHB := HB.lt
      rw [← e6] at lHA lHB
      have e6' : b6 = w3.heap.size := e6
      replace HA := HA.kept (by rw [← e6']; exact n6)
      replace HB := HB.kept (by rw [← e6']; exact n6)
      replace HW := HW.trans (n6.mono (by omega))
      clear e6 e6' n6
      refine hK.out _ _ ?_ (fun hHeld => ?_)
      · exact ⟨HA, HB⟩
      clear hK K
      (try simp only [Act.put, List.getElem_toArray, List.getElem_cons_zero, List.getElem_cons_succ, List.setIfInBounds_toArray, List.set_cons_zero, List.set_cons_succ])
      refine wpAnyH_ready (rs := [8, 10, 11]) (by kernel_rfl) (by simp) ?_
      refine AllReadyH.cons rfl (fun K hK => ?_) (AllReadyH.cons rfl (fun K hK => ?_) (AllReadyH.cons rfl (fun K hK => ?_) AllReadyH.nil))
      · simp only [List.getElem_toArray, List.getElem_cons_zero, List.getElem_cons_succ]
        rw [if_pos (by rfl)]
        refine wp_alloc_op 34 (msC zMs (.slice none 0 0)) rfl Tryd.msZero (fun b5 u2 e5 H5 n5 => ?_)
        have lHA := HA.lt
        have lHB := HB.lt
        have lH6 := H6.lt
        rw [← e5] at lHA lHB lH6
        have e5' : b5 = u1.heap.size := e5
        replace HA := HA.kept (by rw [← e5']; exact n5)
        replace HB := HB.kept (by rw [← e5']; exact n5)
        replace H6 := H6.kept (by rw [← e5']; exact n5)
        replace HW := HW.trans (n5.mono (by omega))
        clear e5 e5' n5
        refine hK.out _ _ ?_ (fun hHeld => ?_)
        · exact ⟨HA, HB⟩
        clear hK K
        (try simp only [Act.put, List.getElem_toArray, List.getElem_cons_zero, List.getElem_cons_succ, List.setIfInBounds_toArray, List.set_cons_zero, List.set_cons_succ])
        refine wpAnyH_ready (rs := [10, 11]) (by kernel_rfl) (by simp) ?_
        refine AllReadyH.cons rfl (fun K hK => ?_) (AllReadyH.cons rfl (fun K hK => ?_) AllReadyH.nil)
        · simp only [List.getElem_toArray, List.getElem_cons_zero, List.getElem_cons_succ]
          rw [if_pos (by rfl)]
          refine wp_alloc_op 62 zLl0.toArray rfl Tryd.llZero (fun b7 u3 e7 H7 n7 => ?_)
          have lHA := HA.lt
          have lHB := HB.lt
          have lH6 := H6.lt
          have lH5 := H5.lt
          rw [← e7] at lHA lHB lH6 lH5
          have e7' : b7 = u2.heap.size := e7
          replace HA := HA.kept (by rw [← e7']; exact n7)
          replace HB := HB.kept (by rw [← e7']; exact n7)
          replace H6 := H6.kept (by rw [← e7']; exact n7)
          replace H5 := H5.kept (by rw [← e7']; exact n7)
          replace HW := HW.trans (n7.mono (by omega))
          clear e7 e7' n7
          refine hK.out _ _ ?_ (fun hHeld => ?_)
          · exact ⟨HA, HB⟩
          clear hK K
          (try simp only [Act.put, List.getElem_toArray, List.getElem_cons_zero, List.getElem_cons_succ, List.setIfInBounds_toArray, List.set_cons_zero, List.set_cons_succ])
          refine wpAnyH_ready (rs := [11]) (by kernel_rfl) (by simp) ?_
          refine AllReadyH.cons rfl (fun K hK => ?_) AllReadyH.nil
          · simp only [List.getElem_toArray, List.getElem_cons_zero, List.getElem_cons_succ]
            rw [if_pos (by rfl)]
            refine wp_alloc_op 62 zLl0.toArray rfl Tryd.llZero (fun b8 u4 e8 H8 n8 => ?_)
            have lHA := HA.lt
            have lHB := HB.lt
            have lH6 := H6.lt
            have lH5 := H5.lt
            have lH7 := H7.lt
            rw [← e8] at lHA lHB lH6 lH5 lH7
            have e8' : b8 = u3.heap.size := e8
            replace HA := HA.kept (by rw [← e8']; exact n8)
            replace HB := HB.kept (by rw [← e8']; exact n8)
            replace H6 := H6.kept (by rw [← e8']; exact n8)
            replace H5 := H5.kept (by rw [← e8']; exact n8)
            replace H7 := H7.kept (by rw [← e8']; exact n8)
            replace HW := HW.trans (n8.mono (by omega))
            clear e8 e8' n8
            refine hK.out _ _ ?_ (fun hHeld => ?_)
            · exact ⟨HA, HB⟩
            clear hK K
            (try simp only [Act.put, List.getElem_toArray, List.getElem_cons_zero, List.getElem_cons_succ, List.setIfInBounds_toArray, List.set_cons_zero, List.set_cons_succ])
            exact tail b5 b6 b7 b8 u4 ⟨HA, HB, H5, H6, H7, H8, HW, by omega, by omega⟩
        · simp only [List.getElem_toArray, List.getElem_cons_zero, List.getElem_cons_succ]
          rw [if_pos (by rfl)]
          refine wp_alloc_op 62 zLl0.toArray rfl Tryd.llZero (fun b8 u3 e8 H8 n8 => ?_)
          have lHA := HA.lt
          have lHB := HB.lt
          have lH6 := H6.lt
          have lH5 := H5.lt
          rw [← e8] at lHA lHB lH6 lH5
          have e8' : b8 = u2.heap.size := e8
          replace HA := HA.kept (by rw [← e8']; exact n8)
          replace HB := HB.kept (by rw [← e8']; exact n8)
          replace H6 := H6.kept (by rw [← e8']; exact n8)
          replace H5 := H5.kept (by rw [← e8']; exact n8)
          replace HW := HW.trans (n8.mono (by omega))
          clear e8 e8' n8
          refine hK.out _ _ ?_ (fun hHeld => ?_)
          · exact ⟨HA, HB⟩
          clear hK K
          (try simp only [Act.put, List.getElem_toArray, List.getElem_cons_zero, List.getElem_cons_succ, List.setIfInBounds_toArray, List.set_cons_zero, List.set_cons_succ])
          refine wpAnyH_ready (rs := [10]) (by kernel_rfl) (by simp) ?_
          refine AllReadyH.cons rfl (fun K hK => ?_) AllReadyH.nil
          · simp only [List.getElem_toArray, List.getElem_cons_zero, List.getElem_cons_succ]
            rw [if_pos (by rfl)]
            refine wp_alloc_op 62 zLl0.toArray rfl Tryd.llZero (fun b7 u4 e7 H7 n7 => ?_)
            have lHA := HA.lt
            have lHB := HB.lt
            have lH6 := H6.lt
            have lH5 := H5.lt
            have lH8 := H8.lt
            rw [← e7] at lHA lHB lH6 lH5 lH8
            have e7' : b7 = u3.heap.size := e7
            replace HA := HA.kept (by rw [← e7']; exact n7)
            replace HB := HB.kept (by rw [← e7']; exact n7)
            replace H6 := H6.kept (by rw [← e7']; exact n7)
            replace H5 := H5.kept (by rw [← e7']; exact n7)
            replace H8 := H8.kept (by rw [← e7']; exact n7)
            replace HW := HW.trans (n7.mono (by omega))
            clear e7 e7' n7
            refine hK.out _ _ ?_ (fun hHeld => ?_)
            · exact ⟨HA, HB⟩
            clear hK K
            (try simp only [Act.put, List.getElem_toArray, List.getElem_cons_zero, List.getElem_cons_succ, List.setIfInBounds_toArray, List.set_cons_zero, List.set_cons_succ])
            exact tail b5 b6 b7 b8 u4 ⟨HA, HB, H5, H6, H7, H8, HW, by omega, by omega⟩
      · simp only [List.getElem_toArray, List.getElem_cons_zero, List.getElem_cons_succ]
        rw [if_pos (by rfl)]
        refine wp_alloc_op 62 zLl0.toArray rfl Tryd.llZero (fun b7 u2 e7 H7 n7 => ?_)
        have lHA := HA.lt
        have lHB := HB.lt
        have lH6 := H6.lt
        rw [← e7] at lHA lHB lH6
        have e7' : b7 = u1.heap.size := e7
        replace HA := HA.kept (by rw [← e7']; exact n7)
        replace HB := HB.kept (by rw [← e7']; exact n7)
        replace H6 := H6.kept (by rw [← e7']; exact n7)
        replace HW := HW.trans (n7.mono (by omega))
        clear e7 e7' n7
        refine hK.out _ _ ?_ (fun hHeld => ?_)
        · exact ⟨HA, HB⟩
        clear hK K
        (try simp only [Act.put, List.getElem_toArray, List.getElem_cons_zero, List.getElem_cons_succ, List.setIfInBounds_toArray, List.set_cons_zero, List.set_cons_succ])
        refine wpAnyH_ready (rs := [8, 11]) (by kernel_rfl) (by simp) ?_
        refine AllReadyH.cons rfl (fun K hK => ?_) (AllReadyH.cons rfl (fun K hK => ?_) AllReadyH.nil)
        · simp only [List.getElem_toArray, List.getElem_cons_zero, List.getElem_cons_succ]
          rw [if_pos (by rfl)]
          refine wp_alloc_op 34 (msC zMs (.slice none 0 0)) rfl Tryd.msZero (fun b5 u3 e5 H5 n5 => ?_)
          have lHA := HA.lt
          have lHB := HB.lt
          have lH6 := H6.lt
          have lH7 := H7.lt
          rw [← e5] at lHA lHB lH6 lH7
          have e5' : b5 = u2.heap.size := e5
          replace HA := HA.kept (by rw [← e5']; exact n5)
          replace HB := HB.kept (by rw [← e5']; exact n5)
          replace H6 := H6.kept (by rw [← e5']; exact n5)
          replace H7 := H7.kept (by rw [← e5']; exact n5)
          replace HW := HW.trans (n5.mono (by omega))
          clear e5 e5' n5
          refine hK.out _ _ ?_ (fun hHeld => ?_)
          · exact ⟨HA, HB⟩
          clear hK K
          (try simp only [Act.put, List.getElem_toArray, List.getElem_cons_zero, List.getElem_cons_succ, List.setIfInBounds_toArray, List.set_cons_zero, List.set_cons_succ])
          refine wpAnyH_ready (rs := [11]) (by kernel_rfl) (by simp) ?_
          refine AllReadyH.cons rfl (fun K hK => ?_) AllReadyH.nil
          · simp only [List.getElem_toArray, List.getElem_cons_zero, List.getElem_cons_succ]
            rw [if_pos (by rfl)]
            refine wp_alloc_op 62 zLl0.toArray rfl Tryd.llZero (fun b8 u4 e8 H8 n8 => ?_)
            have lHA := HA.lt
            have lHB := HB.lt
            have lH6 := H6.lt
            have lH7 := H7.lt
            have lH5 := H5.lt
            rw [← e8] at lHA lHB lH6 lH7 lH5
            have e8' : b8 = u3.heap.size := e8
            replace HA := HA.kept (by rw [← e8']; exact n8)
            replace HB := HB.kept (by rw [← e8']; exact n8)
            replace H6 := H6.kept (by rw [← e8']; exact n8)
            replace H7 := H7.kept (by rw [← e8']; exact n8)
            replace H5 := H5.kept (by rw [← e8']; exact n8)
            replace HW := HW.trans (n8.mono (by omega))
            clear e8 e8' n8
            refine hK.out _ _ ?_ (fun hHeld => ?_)
            · exact ⟨HA, HB⟩
            clear hK K
            (try simp only [Act.put, List.getElem_toArray, List.getElem_cons_zero, List.getElem_cons_succ, List.setIfInBounds_toArray, List.set_cons_zero, List.set_cons_succ])
            exact tail b5 b6 b7 b8 u4 ⟨HA, HB, H5, H6, H7, H8, HW, by omega, by omega⟩
        · simp only [List.getElem_toArray, List.getElem_cons_zero, List.getElem_cons_succ]
          rw [if_pos (by rfl)]
          refine wp_alloc_op 62 zLl0.toArray rfl Tryd.llZero (fun b8 u3 e8 H8 n8 => ?_)
          have lHA := HA.lt
          have lHB := HB.lt
          have lH6 := H6.lt
          have lH7 := H7.lt
          rw [← e8] at lHA lHB lH6 lH7
          have e8' : b8 = u2.heap.size := e8
          replace HA := HA.kept (by rw [← e8']; exact n8)
          replace HB := HB.kept (by rw [← e8']; exact n8)
          replace H6 := H6.kept (by rw [← e8']; exact n8)
          replace H7 := H7.kept (by rw [← e8']; exact n8)
          replace HW := HW.trans (n8.mono (by omega))
          clear e8 e8' n8
          refine hK.out _ _ ?_ (fun hHeld => ?_)
          · exact ⟨HA, HB⟩
          clear hK K
          (try simp only [Act.put, List.getElem_toArray, List.getElem_cons_zero, List.getElem_cons_succ, List.setIfInBounds_toArray, List.set_cons_zero, List.set_cons_succ])
          refine wpAnyH_ready (rs := [8]) (by kernel_rfl) (by simp) ?_
          refine AllReadyH.cons rfl (fun K hK => ?_) AllReadyH.nil
          · simp only [List.getElem_toArray, List.getElem_cons_zero, List.getElem_cons_succ]
            rw [if_pos (by rfl)]
            refine wp_alloc_op 34 (msC zMs (.slice none 0 0)) rfl Tryd.msZero (fun b5 u4 e5 H5 n5 => ?_)
            have lHA := HA.lt
            have lHB := HB.lt
            have lH6 := H6.lt
            have lH7 := H7.lt
            have lH8 := H8.lt
            rw [← e5] at lHA lHB lH6 lH7 lH8
            have e5' : b5 = u3.heap.size := e5
            replace HA := HA.kept (by rw [← e5']; exact n5)
            replace HB := HB.kept (by rw [← e5']; exact n5)
            replace H6 := H6.kept (by rw [← e5']; exact n5)
            replace H7 := H7.kept (by rw [← e5']; exact n5)
            replace H8 := H8.kept (by rw [← e5']; exact n5)
            replace HW := HW.trans (n5.mono (by omega))
            clear e5 e5' n5
            refine hK.out _ _ ?_ (fun hHeld => ?_)
            · exact ⟨HA, HB⟩
            clear hK K
            (try simp only [Act.put, List.getElem_toArray, List.getElem_cons_zero, List.getElem_cons_succ, List.setIfInBounds_toArray, List.set_cons_zero, List.set_cons_succ])
            exact tail b5 b6 b7 b8 u4 ⟨HA, HB, H5, H6, H7, H8, HW, by omega, by omega⟩
      · simp only [List.getElem_toArray, List.getElem_cons_zero, List.getElem_cons_succ]
        rw [if_pos (by rfl)]
        refine wp_alloc_op 62 zLl0.toArray rfl Tryd.llZero (fun b8 u2 e8 H8 n8 => ?_)
        have lHA := HA.lt
        have lHB := HB.lt
        have lH6 := H6.lt
        rw [← e8] at lHA lHB lH6
        have e8' : b8 = u1.heap.size := e8
        replace HA := HA.kept (by rw [← e8']; exact n8)
        replace HB := HB.kept (by rw [← e8']; exact n8)
        replace H6 := H6.kept (by rw [← e8']; exact n8)
        replace HW := HW.trans (n8.mono (by omega))
        clear e8 e8' n8
        refine hK.out _ _ ?_ (fun hHeld => ?_)
        · exact ⟨HA, HB⟩
        clear hK K
        (try simp only [Act.put, List.getElem_toArray, List.getElem_cons_zero, List.getElem_cons_succ, List.setIfInBounds_toArray, List.set_cons_zero, List.set_cons_succ])
        refine wpAnyH_ready (rs := [8, 10]) (by kernel_rfl) (by simp) ?_
        refine AllReadyH.cons rfl (fun K hK => ?_) (AllReadyH.cons rfl (fun K hK => ?_) AllReadyH.nil)
        · simp only [List.getElem_toArray, List.getElem_cons_zero, List.getElem_cons_succ]
          rw [if_pos (by rfl)]
          refine wp_alloc_op 34 (msC zMs (.slice none 0 0)) rfl Tryd.msZero (fun b5 u3 e5 H5 n5 => ?_)
          have lHA := HA.lt
          have lHB := HB.lt
          have lH6 := H6.lt
          have lH8 := H8.lt
          rw [← e5] at lHA lHB lH6 lH8
          have e5' : b5 = u2.heap.size := e5
          replace HA := HA.kept (by rw [← e5']; exact n5)
          replace HB := HB.kept (by rw [← e5']; exact n5)
          replace H6 := H6.kept (by rw [← e5']; exact n5)
          replace H8 := H8.kept (by rw [← e5']; exact n5)
          replace HW := HW.trans (n5.mono (by omega))
          clear e5 e5' n5
          refine hK.out _ _ ?_ (fun hHeld => ?_)
          · exact ⟨HA, HB⟩
          clear hK K
          (try simp only [Act.put, List.getElem_toArray, List.getElem_cons_zero, List.getElem_cons_succ, List.setIfInBounds_toArray, List.set_cons_zero, List.set_cons_succ])
          refine wpAnyH_ready (rs := [10]) (by kernel_rfl) (by simp) ?_
          refine AllReadyH.cons rfl (fun K hK => ?_) AllReadyH.nil
          · simp only [List.getElem_toArray, List.getElem_cons_zero, List.getElem_cons_succ]
            rw [if_pos (by rfl)]
            refine wp_alloc_op 62 zLl0.toArray rfl Tryd.llZero (fun b7 u4 e7 H7 n7 => ?_)
            have lHA := HA.lt
            have lHB := HB.lt
            have lH6 := H6.lt
            have lH8 := H8.lt
            have lH5 := H5.lt
            rw [← e7] at lHA lHB lH6 lH8 lH5
            have e7' : b7 = u3.heap.size := e7
            replace HA := HA.kept (by rw [← e7']; exact n7)
            replace HB := HB.kept (by rw [← e7']; exact n7)
            replace H6 := H6.kept (by rw [← e7']; exact n7)
            replace H8 := H8.kept (by rw [← e7']; exact n7)
            replace H5 := H5.kept (by rw [← e7']; exact n7)
            replace HW := HW.trans (n7.mono (by omega))
            clear e7 e7' n7
            refine hK.out _ _ ?_ (fun hHeld => ?_)
            · exact ⟨HA, HB⟩
            clear hK K
            (try simp only [Act.put, List.getElem_toArray, List.getElem_cons_zero, List.getElem_cons_succ, List.setIfInBounds_toArray, List.set_cons_zero, List.set_cons_succ])
            exact tail b5 b6 b7 b8 u4 ⟨HA, HB, H5, H6, H7, H8, HW, by omega, by omega⟩
        · simp only [List.getElem_toArray, List.getElem_cons_zero, List.getElem_cons_succ]
          rw [if_pos (by rfl)]
          refine wp_alloc_op 62 zLl0.toArray rfl Tryd.llZero (fun b7 u3 e7 H7 n7 => ?_)
          have lHA := HA.lt
          have lHB := HB.lt
          have lH6 := H6.lt
          have lH8 := H8.lt
          rw [← e7] at lHA lHB lH6 lH8
          have e7' : b7 = u2.heap.size := e7
          replace HA := HA.kept (by rw [← e7']; exact n7)
          replace HB := HB.kept (by rw [← e7']; exact n7)
          replace H6 := H6.kept (by rw [← e7']; exact n7)
          replace H8 := H8.kept (by rw [← e7']; exact n7)
          replace HW := HW.trans (n7.mono (by omega))
          clear e7 e7' n7
          refine hK.out _ _ ?_ (fun hHeld => ?_)
          · exact ⟨HA, HB⟩
          clear hK K
          (try simp only [Act.put, List.getElem_toArray, List.getElem_cons_zero, List.getElem_cons_succ, List.setIfInBounds_toArray, List.set_cons_zero, List.set_cons_succ])
          refine wpAnyH_ready (rs := [8]) (by kernel_rfl) (by simp) ?_
          refine AllReadyH.cons rfl (fun K hK => ?_) AllReadyH.nil
          · simp only [List.getElem_toArray, List.getElem_cons_zero, List.getElem_cons_succ]
            rw [if_pos (by rfl)]
            refine wp_alloc_op 34 (msC zMs (.slice none 0 0)) rfl Tryd.msZero (fun b5 u4 e5 H5 n5 => ?_)
            have lHA := HA.lt
            have lHB := HB.lt
            have lH6 := H6.lt
            have lH8 := H8.lt
            have lH7 := H7.lt
            rw [← e5] at lHA lHB lH6 lH8 lH7
            have e5' : b5 = u3.heap.size := e5
            replace HA := HA.kept (by rw [← e5']; exact n5)
            replace HB := HB.kept (by rw [← e5']; exact n5)
            replace H6 := H6.kept (by rw [← e5']; exact n5)
            replace H8 := H8.kept (by rw [← e5']; exact n5)
            replace H7 := H7.kept (by rw [← e5']; exact n5)
            replace HW := HW.trans (n5.mono (by omega))
            clear e5 e5' n5
            refine hK.out _ _ ?_ (fun hHeld => ?_)
            · exact ⟨HA, HB⟩
            clear hK K
            (try simp only [Act.put, List.getElem_toArray, List.getElem_cons_zero, List.getElem_cons_succ, List.setIfInBounds_toArray, List.set_cons_zero, List.set_cons_succ])
            exact tail b5 b6 b7 b8 u4 ⟨HA, HB, H5, H6, H7, H8, HW, by omega, by omega⟩
    · simp only [List.getElem_toArray, List.getElem_cons_zero, List.getElem_cons_succ]
      rw [if_pos (by rfl)]
      refine wp_alloc_op 62 zLl0.toArray rfl Tryd.llZero (fun b7 u1 e7 H7 n7 => ?_)
      have lHA := HA.lt
      have lHB := HB.lt
      rw [← e7] at lHA lHB
      have e7' : b7 = w3.heap.size := e7
      replace HA := HA.kept (by rw [← e7']; exact n7)
      replace HB := HB.kept (by rw [← e7']; exact n7)
      replace HW := HW.trans (n7.mono (by omega))
      clear e7 e7' n7
      refine hK.out _ _ ?_ (fun hHeld => ?_)
      · exact ⟨HA, HB⟩
      clear hK K
      (try simp only [Act.put, List.getElem_toArray, List.getElem_cons_zero, List.getElem_cons_succ, List.setIfInBounds_toArray, List.set_cons_zero, List.set_cons_succ])
      refine wpAnyH_ready (rs := [8, 9, 11]) (by kernel_rfl) (by simp) ?_
      refine AllReadyH.cons rfl (fun K hK => ?_) (AllReadyH.cons rfl (fun K hK => ?_) (AllReadyH.cons rfl (fun K hK => ?_) AllReadyH.nil))
      · simp only [List.getElem_toArray, List.getElem_cons_zero, List.getElem_cons_succ]
        rw [if_pos (by rfl)]
        refine wp_alloc_op 34 (msC zMs (.slice none 0 0)) rfl Tryd.msZero (fun b5 u2 e5 H5 n5 => ?_)
        have lHA := HA.lt
        have lHB := HB.lt
        have lH7 := H7.lt
        rw [← e5] at lHA lHB lH7
        have e5' : b5 = u1.heap.size := e5
        replace HA := HA.kept (by rw [← e5']; exact n5)
        replace HB := HB.kept (by rw [← e5']; exact n5)
        replace H7 := H7.kept (by rw [← e5']; exact n5)
        replace HW := HW.trans (n5.mono (by omega))
        clear e5 e5' n5
        refine hK.out _ _ ?_ (fun hHeld => ?_)
        · exact ⟨HA, HB⟩
        clear hK K
        (try simp only [Act.put, List.getElem_toArray, List.getElem_cons_zero, List.getElem_cons_succ, List.setIfInBounds_toArray, List.set_cons_zero, List.set_cons_succ])
        refine wpAnyH_ready (rs := [9, 11]) (by kernel_rfl) (by simp) ?_
        refine AllReadyH.cons rfl (fun K hK => ?_) (AllReadyH.cons rfl (fun K hK => ?_) AllReadyH.nil)
        · simp only [List.getElem_toArray, List.getElem_cons_zero, List.getElem_cons_succ]
          rw [if_pos (by rfl)]
          refine wp_alloc_op 34 (msC zMs (.slice none 0 0)) rfl Tryd.msZero (fun b6 u3 e6 H6 n6 => ?_)
          have lHA := HA.lt
          have lHB := HB.lt
          have lH7 := H7.lt
          have lH5 := H5.lt
          rw [← e6] at lHA lHB lH7 lH5
          have e6' : b6 = u2.heap.size := e6
          replace HA := HA.kept (by rw [← e6']; exact n6)
          replace HB := HB.kept (by rw [← e6']; exact n6)
          replace H7 := H7.kept (by rw [← e6']; exact n6)
          replace H5 := H5.kept (by rw [← e6']; exact n6)
          replace HW := HW.trans (n6.mono (by omega))
          clear e6 e6' n6
          refine hK.out _ _ ?_ (fun hHeld => ?_)
          · exact ⟨HA, HB⟩
          clear hK K
          (try simp only [Act.put, List.getElem_toArray, List.getElem_cons_zero, List.getElem_cons_succ, List.setIfInBounds_toArray, List.set_cons_zero, List.set_cons_succ])
          refine wpAnyH_ready (rs := [11]) (by kernel_rfl) (by simp) ?_
          refine AllReadyH.cons rfl (fun K hK => ?_) AllReadyH.nil
          · simp only [List.getElem_toArray, List.getElem_cons_zero, List.getElem_cons_succ]
            rw [if_pos (by rfl)]
            refine wp_alloc_op 62 zLl0.toArray rfl Tryd.llZero (fun b8 u4 e8 H8 n8 => ?_)
            have lHA := HA.lt
            have lHB := HB.lt
            have lH7 := H7.lt
            have lH5 := H5.lt
            have lH6 := H6.lt
            rw [← e8] at lHA lHB lH7 lH5 lH6
            have e8' : b8 = u3.heap.size := e8
            replace HA := HA.kept (by rw [← e8']; exact n8)
            replace HB := HB.kept (by rw [← e8']; exact n8)
            replace H7 := H7.kept (by rw [← e8']; exact n8)
            replace H5 := H5.kept (by rw [← e8']; exact n8)
            replace H6 := H6.kept (by rw [← e8']; exact n8)
            replace HW := HW.trans (n8.mono (by omega))
            clear e8 e8' n8
            refine hK.out _ _ ?_ (fun hHeld => ?_)
            · exact ⟨HA, HB⟩
            clear hK K
            (try simp only [Act.put, List.getElem_toArray, List.getElem_cons_zero, List.getElem_cons_succ, List.setIfInBounds_toArray, List.set_cons_zero, List.set_cons_succ])
            exact tail b5 b6 b7 b8 u4 ⟨HA, HB, H5, H6, H7, H8, HW, by omega, by omega⟩
        · simp only [List.getElem_toArray, List.getElem_cons_zero, List.getElem_cons_succ]
          rw [if_pos (by rfl)]
          refine wp_alloc_op 62 zLl0.toArray rfl Tryd.llZero (fun b8 u3 e8 H8 n8 => ?_)
          have lHA := HA.lt
          have lHB := HB.lt
          have lH7 := H7.lt
          have lH5 := H5.lt
          rw [← e8] at lHA lHB lH7 lH5
          have e8' : b8 = u2.heap.size := e8
          replace HA := HA.kept (by rw [← e8']; exact n8)
          replace HB := HB.kept (by rw [← e8']; exact n8)
          replace H7 := H7.kept (by rw [← e8']; exact n8)
          replace H5 := H5.kept (by rw [← e8']; exact n8)
          replace HW := HW.trans (n8.mono (by omega))
          clear e8 e8' n8
          refine hK.out _ _ ?_ (fun hHeld => ?_)
          · exact ⟨HA, HB⟩
          clear hK K
          (try simp only [Act.put, List.getElem_toArray, List.getElem_cons_zero, List.getElem_cons_succ, List.setIfInBounds_toArray, List.set_cons_zero, List.set_cons_succ])
          refine wpAnyH_ready (rs := [9]) (by kernel_rfl) (by simp) ?_
          refine AllReadyH.cons rfl (fun K hK => ?_) AllReadyH.nil
          · simp only [List.getElem_toArray, List.getElem_cons_zero, List.getElem_cons_succ]
            rw [if_pos (by rfl)]
            refine wp_alloc_op 34 (msC zMs (.slice none 0 0)) rfl Tryd.msZero (fun b6 u4 e6 H6 n6 => ?_)
            have lHA := HA.lt
            have lHB := HB.lt
            have lH7 := H7.lt
            have lH5 := H5.lt
            have lH8 := H8.lt
            rw [← e6] at lHA lHB lH7 lH5 lH8
            have e6' : b6 = u3.heap.size := e6
            replace HA := HA.kept (by rw [← e6']; exact n6)
            replace HB := HB.kept (by rw [← e6']; exact n6)
            replace H7 := H7.kept (by rw [← e6']; exact n6)
            replace H5 := H5.kept (by rw [← e6']; exact n6)
            replace H8 := H8.kept (by rw [← e6']; exact n6)
            replace HW := HW.trans (n6.mono (by omega))
            clear e6 e6' n6
            refine hK.out _ _ ?_ (fun hHeld => ?_)
            · exact ⟨HA, HB⟩
            clear hK K
            (try simp only [Act.put, List.getElem_toArray, List.getElem_cons_zero, List.getElem_cons_succ, List.setIfInBounds_toArray, List.set_cons_zero, List.set_cons_succ])
            exact tail b5 b6 b7 b8 u4 ⟨HA, HB, H5, H6, H7, H8, HW, by omega, by omega⟩
      · simp only [List.getElem_toArray, List.getElem_cons_zero, List.getElem_cons_succ]
        rw [if_pos (by rfl)]
        refine wp_alloc_op 34 (msC zMs (.slice none 0 0)) rfl Tryd.msZero (fun b6 u2 e6 H6 n6 => ?_)
        have lHA := HA.lt
        have lHB := HB.lt
        have lH7 := H7.lt
        rw [← e6] at lHA lHB lH7
        have e6' : b6 = u1.heap.size := e6
        replace HA := HA.kept (by rw [← e6']; exact n6)
        replace HB := HB.kept (by rw [← e6']; exact n6)
        replace H7 := H7.kept (by rw [← e6']; exact n6)
        replace HW := HW.trans (n6.mono (by omega))
        clear e6 e6' n6
        refine hK.out _ _ ?_ (fun hHeld => ?_)
        · exact ⟨HA, HB⟩
        clear hK K
        (try simp only [Act.put, List.getElem_toArray, List.getElem_cons_zero, List.getElem_cons_succ, List.setIfInBounds_toArray, List.set_cons_zero, List.set_cons_succ])
        refine wpAnyH_ready (rs := [8, 11]) (by kernel_rfl) (by simp) ?_
        refine AllReadyH.cons rfl (fun K hK => ?_) (AllReadyH.cons rfl (fun K hK => ?_) AllReadyH.nil)
        · simp only [List.getElem_toArray, List.getElem_cons_zero, List.getElem_cons_succ]
          rw [if_pos (by rfl)]
          refine wp_alloc_op 34 (msC zMs (.slice none 0 0)) rfl Tryd.msZero (fun b5 u3 e5 H5 n5 => ?_)
          have lHA := HA.lt
          have lHB := HB.lt
          have lH7 := H7.lt
          have lH6 := H6.lt
          rw [← e5] at lHA lHB lH7 lH6
          have e5' : b5 = u2.heap.size := e5
          replace HA := HA.kept (by rw [← e5']; exact n5)
          replace HB := HB.kept (by rw [← e5']; exact n5)
          replace H7 := H7.kept (by rw [← e5']; exact n5)
          replace H6 := H6.kept (by rw [← e5']; exact n5)
          replace HW := HW.trans (n5.mono (by omega))
          clear e5 e5' n5
          refine hK.out _ _ ?_ (fun hHeld => ?_)
          · exact ⟨HA, HB⟩
          clear hK K
          (try simp only [Act.put, List.getElem_toArray, List.getElem_cons_zero, List.getElem_cons_succ, List.setIfInBounds_toArray, List.set_cons_zero, List.set_cons_succ])
          refine wpAnyH_ready (rs := [11]) (by kernel_rfl) (by simp) ?_
          refine AllReadyH.cons rfl (fun K hK => ?_) AllReadyH.nil
          · simp only [List.getElem_toArray, List.getElem_cons_zero, List.getElem_cons_succ]
            rw [if_pos (by rfl)]
            refine wp_alloc_op 62 zLl0.toArray rfl Tryd.llZero (fun b8 u4 e8 H8 n8 => ?_)
            have lHA := HA.lt
            have lHB := HB.lt
            have lH7 := H7.lt
            have lH6 := H6.lt
            have lH5 := H5.lt
            rw [← e8] at lHA lHB lH7 lH6 lH5
            have e8' : b8 = u3.heap.size := e8
            replace HA := HA.kept (by rw [← e8']; exact n8)
            replace HB := HB.kept (by rw [← e8']; exact n8)
            replace H7 := H7.kept (by rw [← e8']; exact n8)
            replace H6 := H6.kept (by rw [← e8']; exact n8)
            replace H5 := H5.kept (by rw [← e8']; exact n8)
            replace HW := HW.trans (n8.mono (by omega))
            clear e8 e8' n8
            refine hK.out _ _ ?_ (fun hHeld => ?_)
            · exact ⟨HA, HB⟩
            clear hK K
            (try simp only [Act.put, List.getElem_toArray, List.getElem_cons_zero, List.getElem_cons_succ, List.setIfInBounds_toArray, List.set_cons_zero, List.set_cons_succ])
            exact tail b5 b6 b7 b8 u4 ⟨HA, HB, H5, H6, H7, H8, HW, by omega, by omega⟩
        · simp only [List.getElem_toArray, List.getElem_cons_zero, List.getElem_cons_succ]
          rw [if_pos (by rfl)]
          refine wp_alloc_op 62 zLl0.toArray rfl Tryd.llZero (fun b8 u3 e8 H8 n8 => ?_)
          have lHA := HA.lt
          have lHB := HB.lt
          have lH7 := H7.lt
          have lH6 := H6.lt
          rw [← e8] at lHA lHB lH7 lH6
          have e8' : b8 = u2.heap.size := e8
          replace HA := HA.kept (by rw [← e8']; exact n8)
          replace HB := HB.kept (by rw [← e8']; exact n8)
          replace H7 := H7.kept (by rw [← e8']; exact n8)
          replace H6 := H6.kept (by rw [← e8']; exact n8)
          replace HW := HW.trans (n8.mono (by omega))
          clear e8 e8' n8
          refine hK.out _ _ ?_ (fun hHeld => ?_)
          · exact ⟨HA, HB⟩
          clear hK K
          (try simp only [Act.put, List.getElem_toArray, List.getElem_cons_zero, List.getElem_cons_succ, List.setIfInBounds_toArray, List.set_cons_zero, List.set_cons_succ])
          refine wpAnyH_ready (rs := [8]) (by kernel_rfl) (by simp) ?_
          refine AllReadyH.cons rfl (fun K hK => ?_) AllReadyH.nil
          · simp only [List.getElem_toArray, List.getElem_cons_zero, List.getElem_cons_succ]
            rw [if_pos (by rfl)]
            refine wp_alloc_op 34 (msC zMs (.slice none 0 0)) rfl Tryd.msZero (fun b5 u4 e5 H5 n5 => ?_)
            have lHA := HA.lt
            have lHB := HB.lt
            have lH7 := H7.lt
            have lH6 := H6.lt
            have lH8 := H8.lt
            rw [← e5] at lHA lHB lH7 lH6 lH8
            have e5' : b5 = u3.heap.size := e5
            replace HA := HA.kept (by rw [← e5']; exact n5)
            replace HB := HB.kept (by rw [← e5']; exact n5)
            replace H7 := H7.kept (by rw [← e5']; exact n5)
            replace H6 := H6.kept (by rw [← e5']; exact n5)
            replace H8 := H8.kept (by rw [← e5']; exact n5)
            replace HW := HW.trans (n5.mono (by omega))
            clear e5 e5' n5
            refine hK.out _ _ ?_ (fun hHeld => ?_)
            · exact ⟨HA, HB⟩
            clear hK K
            (try simp only [Act.put, List.getElem_toArray, List.getElem_cons_zero, List.getElem_cons_succ, List.setIfInBounds_toArray, List.set_cons_zero, List.set_cons_succ])
            exact tail b5 b6 b7 b8 u4 ⟨HA, HB, H5, H6, H7, H8, HW, by omega, by omega⟩
      · simp only [List.getElem_toArray, List.getElem_cons_zero, List.getElem_cons_succ]
        rw [if_pos (by rfl)]
        refine wp_alloc_op 62 zLl0.toArray rfl Tryd.llZero (fun b8 u2 e8 H8 n8 => ?_)
        have lHA := HA.lt
        have lHB := HB.lt
        have lH7 := H7.lt
        rw [← e8] at lHA lHB lH7
        have e8' : b8 = u1.heap.size := e8
        replace HA := HA.kept (by rw [← e8']; exact n8)
        replace HB := HB.kept (by rw [← e8']; exact n8)
        replace H7 := H7.kept (by rw [← e8']; exact n8)
        replace HW := HW.trans (n8.mono (by omega))
        clear e8 e8' n8
        refine hK.out _ _ ?_ (fun hHeld => ?_)
        · exact ⟨HA, HB⟩
        clear hK K
        (try simp only [Act.put, List.getElem_toArray, List.getElem_cons_zero, List.getElem_cons_succ, List.setIfInBounds_toArray, List.set_cons_zero, List.set_cons_succ])
        refine wpAnyH_ready (rs := [8, 9]) (by kernel_rfl) (by simp) ?_
        refine AllReadyH.cons rfl (fun K hK => ?_) (AllReadyH.cons rfl (fun K hK => ?_) AllReadyH.nil)
        · simp only [List.getElem_toArray, List.getElem_cons_zero, List.getElem_cons_succ]
          rw [if_pos (by rfl)]
          refine wp_alloc_op 34 (msC zMs (.slice none 0 0)) rfl Tryd.msZero (fun b5 u3 e5 H5 n5 => ?_)
          have lHA := HA.lt
          have lHB := HB.lt
          have lH7 := H7.lt
          have lH8 := H8.lt
          rw [← e5] at lHA lHB lH7 lH8
          have e5' : b5 = u2.heap.size := e5
          replace HA := HA.kept (by rw [← e5']; exact n5)
          replace HB := HB.kept (by rw [← e5']; exact n5)
          replace H7 := H7.kept (by rw [← e5']; exact n5)
          replace H8 := H8.kept (by rw [← e5']; exact n5)
          replace HW := HW.trans (n5.mono (by omega))
          clear e5 e5' n5
          refine hK.out _ _ ?_ (fun hHeld => ?_)
          · exact ⟨HA, HB⟩
          clear hK K
          (try simp only [Act.put, List.getElem_toArray, List.getElem_cons_zero, List.getElem_cons_succ, List.setIfInBounds_toArray, List.set_cons_zero, List.set_cons_succ])
          refine wpAnyH_ready (rs := [9]) (by kernel_rfl) (by simp) ?_
          refine AllReadyH.cons rfl (fun K hK => ?_) AllReadyH.nil
          · simp only [List.getElem_toArray, List.getElem_cons_zero, List.getElem_cons_succ]
            rw [if_pos (by rfl)]
            refine wp_alloc_op 34 (msC zMs (.slice none 0 0)) rfl Tryd.msZero (fun b6 u4 e6 H6 n6 => ?_)
            have lHA := HA.lt
            have lHB := HB.lt
            have lH7 := H7.lt
            have lH8 := H8.lt
            have lH5 := H5.lt
            rw [← e6] at lHA lHB lH7 lH8 lH5
            have e6' : b6 = u3.heap.size := e6
            replace HA := HA.kept (by rw [← e6']; exact n6)
            replace HB := HB.kept (by rw [← e6']; exact n6)
            replace H7 := H7.kept (by rw [← e6']; exact n6)
            replace H8 := H8.kept (by rw [← e6']; exact n6)
            replace H5 := H5.kept (by rw [← e6']; exact n6)
            replace HW := HW.trans (n6.mono (by omega))
            clear e6 e6' n6
            refine hK.out _ _ ?_ (fun hHeld => ?_)
            · exact ⟨HA, HB⟩
            clear hK K
            (try simp only [Act.put, List.getElem_toArray, List.getElem_cons_zero, List.getElem_cons_succ, List.setIfInBounds_toArray, List.set_cons_zero, List.set_cons_succ])
            exact tail b5 b6 b7 b8 u4 ⟨HA, HB, H5, H6, H7, H8, HW, by omega, by omega⟩
        · simp only [List.getElem_toArray, List.getElem_cons_zero, List.getElem_cons_succ]
          rw [if_pos (by rfl)]
          refine wp_alloc_op 34 (msC zMs (.slice none 0 0)) rfl Tryd.msZero (fun b6 u3 e6 H6 n6 => ?_)
          have lHA := HA.lt
          have lHB := HB.lt
          have lH7 := H7.lt
          have lH8 := H8.lt
          rw [← e6] at lHA lHB lH7 lH8
          have e6' : b6 = u2.heap.size := e6
          replace HA := HA.kept (by rw [← e6']; exact n6)
          replace HB := HB.kept (by rw [← e6']; exact n6)
          replace H7 := H7.kept (by rw [← e6']; exact n6)
          replace H8 := H8.kept (by rw [← e6']; exact n6)
          replace HW := HW.trans (n6.mono (by omega))
          clear e6 e6' n6
          refine hK.out _ _ ?_ (fun hHeld => ?_)
          · exact ⟨HA, HB⟩
          clear hK K
          (try simp only [Act.put, List.getElem_toArray, List.getElem_cons_zero, List.getElem_cons_succ, List.setIfInBounds_toArray, List.set_cons_zero, List.set_cons_succ])
          refine wpAnyH_ready (rs := [8]) (by kernel_rfl) (by simp) ?_
          refine AllReadyH.cons rfl (fun K hK => ?_) AllReadyH.nil
          · simp only [List.getElem_toArray, List.getElem_cons_zero, List.getElem_cons_succ]
            rw [if_pos (by rfl)]
            refine wp_alloc_op 34 (msC zMs (.slice none 0 0)) rfl Tryd.msZero (fun b5 u4 e5 H5 n5 => ?_)
            have lHA := HA.lt
            have lHB := HB.lt
            have lH7 := H7.lt
            have lH8 := H8.lt
            have lH6 := H6.lt
            rw [← e5] at lHA lHB lH7 lH8 lH6
            have e5' : b5 = u3.heap.size := e5
            replace HA := HA.kept (by rw [← e5']; exact n5)
            replace HB := HB.kept (by rw [← e5']; exact n5)
            replace H7 := H7.kept (by rw [← e5']; exact n5)
            replace H8 := H8.kept (by rw [← e5']; exact n5)
            replace H6 := H6.kept (by rw [← e5']; exact n5)
            replace HW := HW.trans (n5.mono (by omega))
            clear e5 e5' n5
            refine hK.out _ _ ?_ (fun hHeld => ?_)
            · exact ⟨HA, HB⟩
            clear hK K
            (try simp only [Act.put, List.getElem_toArray, List.getElem_cons_zero, List.getElem_cons_succ, List.setIfInBounds_toArray, List.set_cons_zero, List.set_cons_succ])
            exact tail b5 b6 b7 b8 u4 ⟨HA, HB, H5, H6, H7, H8, HW, by omega, by omega⟩
    · simp only [List.getElem_toArray, List.getElem_cons_zero, List.getElem_cons_succ]
      rw [if_pos (by rfl)]
      refine wp_alloc_op 62 zLl0.toArray rfl Tryd.llZero (fun b8 u1 e8 H8 n8 => ?_)
      have lHA := HA.lt
      have lHB := HB.lt
      rw [← e8] at lHA lHB
      have e8' : b8 = w3.heap.size := e8
      replace HA := HA.kept (by rw [← e8']; exact n8)
      replace HB := HB.kept (by rw [← e8']; exact n8)
      replace HW := HW.trans (n8.mono (by omega))
      clear e8 e8' n8
      refine hK.out _ _ ?_ (fun hHeld => ?_)
      · exact ⟨HA, HB⟩
      clear hK K
      (try simp only [Act.put, List.getElem_toArray, List.getElem_cons_zero, List.getElem_cons_succ, List.setIfInBounds_toArray, List.set_cons_zero, List.set_cons_succ])
      refine wpAnyH_ready (rs := [8, 9, 10]) (by kernel_rfl) (by simp) ?_
      refine AllReadyH.cons rfl (fun K hK => ?_) (AllReadyH.cons rfl (fun K hK => ?_) (AllReadyH.cons rfl (fun K hK => ?_) AllReadyH.nil))
      · simp only [List.getElem_toArray, List.getElem_cons_zero, List.getElem_cons_succ]
        rw [if_pos (by rfl)]
        refine wp_alloc_op 34 (msC zMs (.slice none 0 0)) rfl Tryd.msZero (fun b5 u2 e5 H5 n5 => ?_)
        have lHA := HA.lt
        have lHB := HB.lt
        have lH8 := H8.lt
        rw [← e5] at lHA lHB lH8
        have e5' : b5 = u1.heap.size := e5
        replace HA := HA.kept (by rw [← e5']; exact n5)
        replace HB := HB.kept (by rw [← e5']; exact n5)
        replace H8 := H8.kept (by rw [← e5']; exact n5)
        replace HW := HW.trans (n5.mono (by omega))
        clear e5 e5' n5
        refine hK.out _ _ ?_ (fun hHeld => ?_)
        · exact ⟨HA, HB⟩
        clear hK K
        (try simp only [Act.put, List.getElem_toArray, List.getElem_cons_zero, List.getElem_cons_succ, List.setIfInBounds_toArray, List.set_cons_zero, List.set_cons_succ])
        refine wpAnyH_ready (rs := [9, 10]) (by kernel_rfl) (by simp) ?_
        refine AllReadyH.cons rfl (fun K hK => ?_) (AllReadyH.cons rfl (fun K hK => ?_) AllReadyH.nil)
        · simp only [List.getElem_toArray, List.getElem_cons_zero, List.getElem_cons_succ]
          rw [if_pos (by rfl)]
          refine wp_alloc_op 34 (msC zMs (.slice none 0 0)) rfl Tryd.msZero (fun b6 u3 e6 H6 n6 => ?_)
          have lHA := HA.lt
          have lHB := HB.lt
          have lH8 := H8.lt
          have lH5 := H5.lt
          rw [← e6] at lHA lHB lH8 lH5
          have e6' : b6 = u2.heap.size := e6
          replace HA := HA.kept (by rw [← e6']; exact n6)
          replace HB := HB.kept (by rw [← e6']; exact n6)
          replace H8 := H8.kept (by rw [← e6']; exact n6)
          replace H5 := H5.kept (by rw [← e6']; exact n6)
          replace HW := HW.trans (n6.mono (by omega))
          clear e6 e6' n6
          refine hK.out _ _ ?_ (fun hHeld => ?_)
          · exact ⟨HA, HB⟩
          clear hK K
          (try simp only [Act.put, List.getElem_toArray, List.getElem_cons_zero, List.getElem_cons_succ, List.setIfInBounds_toArray, List.set_cons_zero, List.set_cons_succ])
          refine wpAnyH_ready (rs := [10]) (by kernel_rfl) (by simp) ?_
          refine AllReadyH.cons rfl (fun K hK => ?_) AllReadyH.nil
          · simp only [List.getElem_toArray, List.getElem_cons_zero, List.getElem_cons_succ]
            rw [if_pos (by rfl)]
            refine wp_alloc_op 62 zLl0.toArray rfl Tryd.llZero (fun b7 u4 e7 H7 n7 => ?_)
            have lHA := HA.lt
            have lHB := HB.lt
            have lH8 := H8.lt
            have lH5 := H5.lt
            have lH6 := H6.lt
            rw [← e7] at lHA lHB lH8 lH5 lH6
            have e7' : b7 = u3.heap.size := e7
            replace HA := HA.kept (by rw [← e7']; exact n7)
            replace HB := HB.kept (by rw [← e7']; exact n7)
            replace H8 := H8.kept (by rw [← e7']; exact n7)
            replace H5 := H5.kept (by rw [← e7']; exact n7)
            replace H6 := H6.kept (by rw [← e7']; exact n7)
            replace HW := HW.trans (n7.mono (by omega))
            clear e7 e7' n7
            refine hK.out _ _ ?_ (fun hHeld => ?_)
            · exact ⟨HA, HB⟩
            clear hK K
            (try simp only [Act.put, List.getElem_toArray, List.getElem_cons_zero, List.getElem_cons_succ, List.setIfInBounds_toArray, List.set_cons_zero, List.set_cons_succ])
            exact tail b5 b6 b7 b8 u4 ⟨HA, HB, H5, H6, H7, H8, HW, by omega, by omega⟩
        · simp only [List.getElem_toArray, List.getElem_cons_zero, List.getElem_cons_succ]
          rw [if_pos (by rfl)]
          refine wp_alloc_op 62 zLl0.toArray rfl Tryd.llZero (fun b7 u3 e7 H7 n7 => ?_)
          have lHA := HA.lt
          have lHB := HB.lt
          have lH8 := H8.lt
          have lH5 := H5.lt
          rw [← e7] at lHA lHB lH8 lH5
          have e7' : b7 = u2.heap.size := e7
          replace HA := HA.kept (by rw [← e7']; exact n7)
          replace HB := HB.kept (by rw [← e7']; exact n7)
          replace H8 := H8.kept (by rw [← e7']; exact n7)
          replace H5 := H5.kept (by rw [← e7']; exact n7)
          replace HW := HW.trans (n7.mono (by omega))
          clear e7 e7' n7
          refine hK.out _ _ ?_ (fun hHeld => ?_)
          · exact ⟨HA, HB⟩
          clear hK K
          (try simp only [Act.put, List.getElem_toArray, List.getElem_cons_zero, List.getElem_cons_succ, List.setIfInBounds_toArray, List.set_cons_zero, List.set_cons_succ])
          refine wpAnyH_ready (rs := [9]) (by kernel_rfl) (by simp) ?_
          refine AllReadyH.cons rfl (fun K hK => ?_) AllReadyH.nil
          · simp only [List.getElem_toArray, List.getElem_cons_zero, List.getElem_cons_succ]
            rw [if_pos (by rfl)]
            refine wp_alloc_op 34 (msC zMs (.slice none 0 0)) rfl Tryd.msZero (fun b6 u4 e6 H6 n6 => ?_)
            have lHA := HA.lt
            have lHB := HB.lt
            have lH8 := H8.lt
            have lH5 := H5.lt
            have lH7 := H7.lt
            rw [← e6] at lHA lHB lH8 lH5 lH7
            have e6' : b6 = u3.heap.size := e6
            replace HA := HA.kept (by rw [← e6']; exact n6)
            replace HB := HB.kept (by rw [← e6']; exact n6)
            replace H8 := H8.kept (by rw [← e6']; exact n6)
            replace H5 := H5.kept (by rw [← e6']; exact n6)
            replace H7 := H7.kept (by rw [← e6']; exact n6)
            replace HW := HW.trans (n6.mono (by omega))
            clear e6 e6' n6
            refine hK.out _ _ ?_ (fun hHeld => ?_)
            · exact ⟨HA, HB⟩
            clear hK K
            (try simp only [Act.put, List.getElem_toArray, List.getElem_cons_zero, List.getElem_cons_succ, List.setIfInBounds_toArray, List.set_cons_zero, List.set_cons_succ])
            exact tail b5 b6 b7 b8 u4 ⟨HA, HB, H5, H6, H7, H8, HW, by omega, by omega⟩
      · simp only [List.getElem_toArray, List.getElem_cons_zero, List.getElem_cons_succ]
        rw [if_pos (by rfl)]
        refine wp_alloc_op 34 (msC zMs (.slice none 0 0)) rfl Tryd.msZero (fun b6 u2 e6 H6 n6 => ?_)
        have lHA := HA.lt
        have lHB := HB.lt
        have lH8 := H8.lt
        rw [← e6] at lHA lHB lH8
        have e6' : b6 = u1.heap.size := e6
        replace HA := HA.kept (by rw [← e6']; exact n6)
        replace HB := HB.kept (by rw [← e6']; exact n6)
        replace H8 := H8.kept (by rw [← e6']; exact n6)
        replace HW := HW.trans (n6.mono (by omega))
        clear e6 e6' n6
        refine hK.out _ _ ?_ (fun hHeld => ?_)
        · exact ⟨HA, HB⟩
        clear hK K
        (try simp only [Act.put, List.getElem_toArray, List.getElem_cons_zero, List.getElem_cons_succ, List.setIfInBounds_toArray, List.set_cons_zero, List.set_cons_succ])
        refine wpAnyH_ready (rs := [8, 10]) (by kernel_rfl) (by simp) ?_
        refine AllReadyH.cons rfl (fun K hK => ?_) (AllReadyH.cons rfl (fun K hK => ?_) AllReadyH.nil)
        · simp only [List.getElem_toArray, List.getElem_cons_zero, List.getElem_cons_succ]
          rw [if_pos (by rfl)]
          refine wp_alloc_op 34 (msC zMs (.slice none 0 0)) rfl Tryd.msZero (fun b5 u3 e5 H5 n5 => ?_)
          have lHA := HA.lt
          have lHB := HB.lt
          have lH8 := H8.lt
          have lH6 := H6.lt
          rw [← e5] at lHA lHB lH8 lH6
          have e5' : b5 = u2.heap.size := e5
          replace HA := HA.kept (by rw [← e5']; exact n5)
          replace HB := HB.kept (by rw [← e5']; exact n5)
          replace H8 := H8.kept (by rw [← e5']; exact n5)
          replace H6 := H6.kept (by rw [← e5']; exact n5)
          replace HW := HW.trans (n5.mono (by omega))
          clear e5 e5' n5
          refine hK.out _ _ ?_ (fun hHeld => ?_)
          · exact ⟨HA, HB⟩
          clear hK K
          (try simp only [Act.put, List.getElem_toArray, List.getElem_cons_zero, List.getElem_cons_succ, List.setIfInBounds_toArray, List.set_cons_zero, List.set_cons_succ])
          refine wpAnyH_ready (rs := [10]) (by kernel_rfl) (by simp) ?_
          refine AllReadyH.cons rfl (fun K hK => ?_) AllReadyH.nil
          · simp only [List.getElem_toArray, List.getElem_cons_zero, List.getElem_cons_succ]
            rw [if_pos (by rfl)]
            refine wp_alloc_op 62 zLl0.toArray rfl Tryd.llZero (fun b7 u4 e7 H7 n7 => ?_)
            have lHA := HA.lt
            have lHB := HB.lt
            have lH8 := H8.lt
            have lH6 := H6.lt
            have lH5 := H5.lt
            rw [← e7] at lHA lHB lH8 lH6 lH5
            have e7' : b7 = u3.heap.size := e7
            replace HA := HA.kept (by rw [← e7']; exact n7)
            replace HB := HB.kept (by rw [← e7']; exact n7)
            replace H8 := H8.kept (by rw [← e7']; exact n7)
            replace H6 := H6.kept (by rw [← e7']; exact n7)
            replace H5 := H5.kept (by rw [← e7']; exact n7)
            replace HW := HW.trans (n7.mono (by omega))
            clear e7 e7' n7
            refine hK.out _ _ ?_ (fun hHeld => ?_)
            · exact ⟨HA, HB⟩
            clear hK K
            (try simp only [Act.put, List.getElem_toArray, List.getElem_cons_zero, List.getElem_cons_succ, List.setIfInBounds_toArray, List.set_cons_zero, List.set_cons_succ])
            exact tail b5 b6 b7 b8 u4 ⟨HA, HB, H5, H6, H7, H8, HW, by omega, by omega⟩
        · simp only [List.getElem_toArray, List.getElem_cons_zero, List.getElem_cons_succ]
          rw [if_pos (by rfl)]
          refine wp_alloc_op 62 zLl0.toArray rfl Tryd.llZero (fun b7 u3 e7 H7 n7 => ?_)
          have lHA := HA.lt
          have lHB := HB.lt
          have lH8 := H8.lt
          have lH6 := H6.lt
          rw [← e7] at lHA lHB lH8 lH6
          have e7' : b7 = u2.heap.size := e7
          replace HA := HA.kept (by rw [← e7']; exact n7)
          replace HB := HB.kept (by rw [← e7']; exact n7)
          replace H8 := H8.kept (by rw [← e7']; exact n7)
          replace H6 := H6.kept (by rw [← e7']; exact n7)
          replace HW := HW.trans (n7.mono (by omega))
          clear e7 e7' n7
          refine hK.out _ _ ?_ (fun hHeld => ?_)
          · exact ⟨HA, HB⟩
          clear hK K
          (try simp only [Act.put, List.getElem_toArray, List.getElem_cons_zero, List.getElem_cons_succ, List.setIfInBounds_toArray, List.set_cons_zero, List.set_cons_succ])
          refine wpAnyH_ready (rs := [8]) (by kernel_rfl) (by simp) ?_
          refine AllReadyH.cons rfl (fun K hK => ?_) AllReadyH.nil
          · simp only [List.getElem_toArray, List.getElem_cons_zero, List.getElem_cons_succ]
            rw [if_pos (by rfl)]
            refine wp_alloc_op 34 (msC zMs (.slice none 0 0)) rfl Tryd.msZero (fun b5 u4 e5 H5 n5 => ?_)
            have lHA := HA.lt
            have lHB := HB.lt
            have lH8 := H8.lt
            have lH6 := H6.lt
            have lH7 := H7.lt
            rw [← e5] at lHA lHB lH8 lH6 lH7
            have e5' : b5 = u3.heap.size := e5
            replace HA := HA.kept (by rw [← e5']; exact n5)
            replace HB := HB.kept (by rw [← e5']; exact n5)
            replace H8 := H8.kept (by rw [← e5']; exact n5)
            replace H6 := H6.kept (by rw [← e5']; exact n5)
            replace H7 := H7.kept (by rw [← e5']; exact n5)
            replace HW := HW.trans (n5.mono (by omega))
            clear e5 e5' n5
            refine hK.out _ _ ?_ (fun hHeld => ?_)
            · exact ⟨HA, HB⟩
            clear hK K
            (try simp only [Act.put, List.getElem_toArray, List.getElem_cons_zero, List.getElem_cons_succ, List.setIfInBounds_toArray, List.set_cons_zero, List.set_cons_succ])
            exact tail b5 b6 b7 b8 u4 ⟨HA, HB, H5, H6, H7, H8, HW, by omega, by omega⟩
      · simp only [List.getElem_toArray, List.getElem_cons_zero, List.getElem_cons_succ]
        rw [if_pos (by rfl)]
        refine wp_alloc_op 62 zLl0.toArray rfl Tryd.llZero (fun b7 u2 e7 H7 n7 => ?_)
        have lHA := HA.lt
        have lHB := HB.lt
        have lH8 := H8.lt
        rw [← e7] at lHA lHB lH8
        have e7' : b7 = u1.heap.size := e7
        replace HA := HA.kept (by rw [← e7']; exact n7)
        replace HB := HB.kept (by rw [← e7']; exact n7)
        replace H8 := H8.kept (by rw [← e7']; exact n7)
        replace HW := HW.trans (n7.mono (by omega))
        clear e7 e7' n7
        refine hK.out _ _ ?_ (fun hHeld => ?_)
        · exact ⟨HA, HB⟩
        clear hK K
        (try simp only [Act.put, List.getElem_toArray, List.getElem_cons_zero, List.getElem_cons_succ, List.setIfInBounds_toArray, List.set_cons_zero, List.set_cons_succ])
        refine wpAnyH_ready (rs := [8, 9]) (by kernel_rfl) (by simp) ?_
        refine AllReadyH.cons rfl (fun K hK => ?_) (AllReadyH.cons rfl (fun K hK => ?_) AllReadyH.nil)
        · simp only [List.getElem_toArray, List.getElem_cons_zero, List.getElem_cons_succ]
          rw [if_pos (by rfl)]
          refine wp_alloc_op 34 (msC zMs (.slice none 0 0)) rfl Tryd.msZero (fun b5 u3 e5 H5 n5 => ?_)
          have lHA := HA.lt
          have lHB := HB.lt
          have lH8 := H8.lt
          have lH7 := H7.lt
          rw [← e5] at lHA lHB lH8 lH7
          have e5' : b5 = u2.heap.size := e5
          replace HA := HA.kept (by rw [← e5']; exact n5)
          replace HB := HB.kept (by rw [← e5']; exact n5)
          replace H8 := H8.kept (by rw [← e5']; exact n5)
          replace H7 := H7.kept (by rw [← e5']; exact n5)
          replace HW := HW.trans (n5.mono (by omega))
          clear e5 e5' n5
          refine hK.out _ _ ?_ (fun hHeld => ?_)
          · exact ⟨HA, HB⟩
          clear hK K
          (try simp only [Act.put, List.getElem_toArray, List.getElem_cons_zero, List.getElem_cons_succ, List.setIfInBounds_toArray, List.set_cons_zero, List.set_cons_succ])
          refine wpAnyH_ready (rs := [9]) (by kernel_rfl) (by simp) ?_
          refine AllReadyH.cons rfl (fun K hK => ?_) AllReadyH.nil
          · simp only [List.getElem_toArray, List.getElem_cons_zero, List.getElem_cons_succ]
            rw [if_pos (by rfl)]
            refine wp_alloc_op 34 (msC zMs (.slice none 0 0)) rfl Tryd.msZero (fun b6 u4 e6 H6 n6 => ?_)
            have lHA := HA.lt
            have lHB := HB.lt
            have lH8 := H8.lt
            have lH7 := H7.lt
            have lH5 := H5.lt
            rw [← e6] at lHA lHB lH8 lH7 lH5
            have e6' : b6 = u3.heap.size := e6
            replace HA := HA.kept (by rw [← e6']; exact n6)
            replace HB := HB.kept (by rw [← e6']; exact n6)
            replace H8 := H8.kept (by rw [← e6']; exact n6)
            replace H7 := H7.kept (by rw [← e6']; exact n6)
            replace H5 := H5.kept (by rw [← e6']; exact n6)
            replace HW := HW.trans (n6.mono (by omega))
            clear e6 e6' n6
            refine hK.out _ _ ?_ (fun hHeld => ?_)
            · exact ⟨HA, HB⟩
            clear hK K
            (try simp only [Act.put, List.getElem_toArray, List.getElem_cons_zero, List.getElem_cons_succ, List.setIfInBounds_toArray, List.set_cons_zero, List.set_cons_succ])
            exact tail b5 b6 b7 b8 u4 ⟨HA, HB, H5, H6, H7, H8, HW, by omega, by omega⟩
        · simp only [List.getElem_toArray, List.getElem_cons_zero, List.getElem_cons_succ]
          rw [if_pos (by rfl)]
          refine wp_alloc_op 34 (msC zMs (.slice none 0 0)) rfl Tryd.msZero (fun b6 u3 e6 H6 n6 => ?_)
          have lHA := HA.lt
          have lHB := HB.lt
          have lH8 := H8.lt
          have lH7 := H7.lt
          rw [← e6] at lHA lHB lH8 lH7
          have e6' : b6 = u2.heap.size := e6
          replace HA := HA.kept (by rw [← e6']; exact n6)
          replace HB := HB.kept (by rw [← e6']; exact n6)
          replace H8 := H8.kept (by rw [← e6']; exact n6)
          replace H7 := H7.kept (by rw [← e6']; exact n6)
          replace HW := HW.trans (n6.mono (by omega))
          clear e6 e6' n6
          refine hK.out _ _ ?_ (fun hHeld => ?_)
          · exact ⟨HA, HB⟩
          clear hK K
          (try simp only [Act.put, List.getElem_toArray, List.getElem_cons_zero, List.getElem_cons_succ, List.setIfInBounds_toArray, List.set_cons_zero, List.set_cons_succ])
          refine wpAnyH_ready (rs := [8]) (by kernel_rfl) (by simp) ?_
          refine AllReadyH.cons rfl (fun K hK => ?_) AllReadyH.nil
          · simp only [List.getElem_toArray, List.getElem_cons_zero, List.getElem_cons_succ]
            rw [if_pos (by rfl)]
            refine wp_alloc_op 34 (msC zMs (.slice none 0 0)) rfl Tryd.msZero (fun b5 u4 e5 H5 n5 => ?_)
            have lHA := HA.lt
            have lHB := HB.lt
            have lH8 := H8.lt
            have lH7 := H7.lt
            have lH6 := H6.lt
            rw [← e5] at lHA lHB lH8 lH7 lH6
            have e5' : b5 = u3.heap.size := e5
            replace HA := HA.kept (by rw [← e5']; exact n5)
            replace HB := HB.kept (by rw [← e5']; exact n5)
            replace H8 := H8.kept (by rw [← e5']; exact n5)
            replace H7 := H7.kept (by rw [← e5']; exact n5)
            replace H6 := H6.kept (by rw [← e5']; exact n5)
            replace HW := HW.trans (n5.mono (by omega))
            clear e5 e5' n5
            refine hK.out _ _ ?_ (fun hHeld => ?_)
            · exact ⟨HA, HB⟩
            clear hK K
            (try simp only [Act.put, List.getElem_toArray, List.getElem_cons_zero, List.getElem_cons_succ, List.setIfInBounds_toArray, List.set_cons_zero, List.set_cons_succ])
            exact tail b5 b6 b7 b8 u4 ⟨HA, HB, H5, H6, H7, H8, HW, by omega, by omega⟩
  case tl =>
    intro b5 b6 b7 b8 u hF
    obtain ⟨HA, HB, H5, H6, H7, H8, HW, ⟨d1, d2, d3, d4, d5, d6⟩, e1, e2, e3, e4⟩ := hF
    have lA : w.heap.size < B := hAB
    refine wpAnyH_ready (rs := [12]) (by kernel_rfl) (by simp) ?_
    refine AllReadyH.cons rfl (fun K hK => ?_) AllReadyH.nil
    simp only [List.getElem_toArray, List.getElem_cons_zero, List.getElem_cons_succ]
    rw [if_pos (by rfl)]
    refine wp_store_op (k := 0) 34 (.agg (msC zMs (.slice none 0 0))) (msC zMs (.slice none 0 0)) (by rfl) rfl rfl H5 (by kernel_rfl) (Nat.le_refl _) (by rfl) (st_whole _ _ rfl) (fun u1 G bb gg => ?_)
    replace HA := HA.grown gg (by simp; omega)
    replace HB := HB.grown gg (by simp; omega)
    replace H6 := H6.grown gg (by simp; omega)
    replace H7 := H7.grown gg (by simp; omega)
    replace H8 := H8.grown gg (by simp; omega)
    replace HW := grown_belowA HW gg HW.size (by omega)
    replace H5 := G
    clear bb gg G
    refine hK.out _ _ ?_ (fun hHeld => ?_)
    · exact ⟨HA, HB⟩
    clear hK K
    (try simp only [Act.put, List.getElem_toArray, List.getElem_cons_zero, List.getElem_cons_succ, List.setIfInBounds_toArray, List.set_cons_zero, List.set_cons_succ])
    refine wpAnyH_ready (rs := [13]) (by kernel_rfl) (by simp) ?_
    refine AllReadyH.cons rfl (fun K hK => ?_) AllReadyH.nil
    simp only [List.getElem_toArray, List.getElem_cons_zero, List.getElem_cons_succ]
    rw [if_pos (by rfl)]
    refine wp_store_op (k := 0) 34 (.agg (msC zMs (.slice none 0 0))) (msC zMs (.slice none 0 0)) (by rfl) rfl rfl H6 (by kernel_rfl) (Nat.le_refl _) (by rfl) (st_whole _ _ rfl) (fun u2 G bb gg => ?_)
    replace HA := HA.grown gg (by simp; omega)
    replace HB := HB.grown gg (by simp; omega)
    replace H5 := H5.grown gg (by simp; omega)
    replace H7 := H7.grown gg (by simp; omega)
    replace H8 := H8.grown gg (by simp; omega)
    replace HW := grown_belowA HW gg HW.size (by omega)
    replace H6 := G
    clear bb gg G
    refine hK.out _ _ ?_ (fun hHeld => ?_)
    · exact ⟨HA, HB⟩
    clear hK K
    (try simp only [Act.put, List.getElem_toArray, List.getElem_cons_zero, List.getElem_cons_succ, List.setIfInBounds_toArray, List.set_cons_zero, List.set_cons_succ])
    refine wpAnyH_ready (rs := [14]) (by kernel_rfl) (by simp) ?_
    refine AllReadyH.cons rfl (fun K hK => ?_) AllReadyH.nil
    simp only [List.getElem_toArray, List.getElem_cons_zero, List.getElem_cons_succ]
    rw [if_pos (by rfl)]
    refine wp_store_op (k := 0) 62 (.agg (zLl0.toArray)) (zLl0.toArray) (by rfl) rfl rfl H7 (by kernel_rfl) (Nat.le_refl _) (by rfl) (st_whole _ _ rfl) (fun u3 G bb gg => ?_)
    replace HA := HA.grown gg (by simp; omega)
    replace HB := HB.grown gg (by simp; omega)
    replace H5 := H5.grown gg (by simp; omega)
    replace H6 := H6.grown gg (by simp; omega)
    replace H8 := H8.grown gg (by simp; omega)
    replace HW := grown_belowA HW gg HW.size (by omega)
    replace H7 := G
    clear bb gg G
    refine hK.out _ _ ?_ (fun hHeld => ?_)
    · exact ⟨HA, HB⟩
    clear hK K
    (try simp only [Act.put, List.getElem_toArray, List.getElem_cons_zero, List.getElem_cons_succ, List.setIfInBounds_toArray, List.set_cons_zero, List.set_cons_succ])
    refine wpAnyH_ready (rs := [15]) (by kernel_rfl) (by simp) ?_
    refine AllReadyH.cons rfl (fun K hK => ?_) AllReadyH.nil
    simp only [List.getElem_toArray, List.getElem_cons_zero, List.getElem_cons_succ]
    rw [if_pos (by rfl)]
    refine wp_store_op (k := 0) 62 (.agg (zLl0.toArray)) (zLl0.toArray) (by rfl) rfl rfl H8 (by kernel_rfl) (Nat.le_refl _) (by rfl) (st_whole _ _ rfl) (fun u4 G bb gg => ?_)
    replace HA := HA.grown gg (by simp; omega)
    replace HB := HB.grown gg (by simp; omega)
    replace H5 := H5.grown gg (by simp; omega)
    replace H6 := H6.grown gg (by simp; omega)
    replace H7 := H7.grown gg (by simp; omega)
    replace HW := grown_belowA HW gg HW.size (by omega)
    replace H8 := G
    clear bb gg G
    refine hK.out _ _ ?_ (fun hHeld => ?_)
    · exact ⟨HA, HB⟩
    clear hK K
    (try simp only [Act.put, List.getElem_toArray, List.getElem_cons_zero, List.getElem_cons_succ, List.setIfInBounds_toArray, List.set_cons_zero, List.set_cons_succ])
    have E31z : ∀ W, (Op.equalIn 10000 31 (.agg (bpC zBp)) (.agg (bpC zBp))).run Tryd.prog W = .ok true W := fun W => by kernel_rfl
    have E27 : ∀ W, (Op.equalIn 10000 27 (.agg (brC zMs.br)) (.agg (brC zMs.br))).run Tryd.prog W = .ok true W := fun W => by kernel_rfl
    have E57 : ∀ W, (Op.equalIn 10000 51 (.agg zAr0.toArray) (.agg zAr0.toArray)).run Tryd.prog W = .ok true W := fun W => by kernel_rfl
    have E60 : ∀ W, (Op.equalIn 10000 54 (.agg zPa0.toArray) (.agg zPa0.toArray)).run Tryd.prog W = .ok true W := fun W => by kernel_rfl
    have E72 : ∀ W, (Op.equalIn 10000 66 (.agg zLa0.toArray) (.agg zLa0.toArray)).run Tryd.prog W = .ok true W := fun W => by kernel_rfl
    have E74 : ∀ W, (Op.equalIn 10000 68 (.agg zMk0.toArray) (.agg zMk0.toArray)).run Tryd.prog W = .ok true W := fun W => by kernel_rfl
    have E62 : ∀ W, (Op.equalIn 10000 56 (.agg zNm0.toArray) (.agg zNm0.toArray)).run Tryd.prog W = .ok true W := fun W => by kernel_rfl
    refine wpAnyH_done (by kernel_rfl) ?_ _
    refine NoPanic.normal ?_
    go_upto_region 2 with (fail)
    have pa0 := HA.cv 0 (i0) rfl
    have pa1 := HA.cv 1 (i0) rfl
    have pa2 := HA.cv 2 (i0) rfl
    have pa174 := HA.cv 174 (.slice a1 n1 c1) rfl
    have pb0 := HB.cv 0 (i0) rfl
    have pb1 := HB.cv 1 (i0) rfl
    have pb2 := HB.cv 2 (i0) rfl
    have pb174 := HB.cv 174 (.slice a2 n2 c2) rfl
    have p531 := H5.cv 31 (.string ⟨#[]⟩) rfl
    have p532 := H5.cv 32 (.int .i64 0) rfl
    have p533 := H5.cv 33 (.string ⟨#[]⟩) rfl
    have p534 := H5.cv 34 (.int .i64 0) rfl
    have p543 := H5.cv 43 (.int .i64 0) rfl
    have p544 := H5.cv 44 (.slice none 0 0) rfl
    have p631 := H6.cv 31 (.string ⟨#[]⟩) rfl
    have p632 := H6.cv 32 (.int .i64 0) rfl
    have p633 := H6.cv 33 (.string ⟨#[]⟩) rfl
    have p634 := H6.cv 34 (.int .i64 0) rfl
    have p643 := H6.cv 43 (.int .i64 0) rfl
    have p644 := H6.cv 44 (.slice none 0 0) rfl
    have p74 := H7.cv 4 (i0) rfl
    have p75 := H7.cv 5 (nil0) rfl
    have p76 := H7.cv 6 (nil0) rfl
    have p77 := H7.cv 7 (nil0) rfl
    have p78 := H7.cv 8 (nil0) rfl
    have p79 := H7.cv 9 (nil0) rfl
    have p710 := H7.cv 10 (nil0) rfl
    have p84 := H8.cv 4 (i0) rfl
    have p85 := H8.cv 5 (nil0) rfl
    have p86 := H8.cv 6 (nil0) rfl
    have p87 := H8.cv 7 (nil0) rfl
    have p88 := H8.cv 8 (nil0) rfl
    have p89 := H8.cv 9 (nil0) rfl
    have p810 := H8.cv 10 (nil0) rfl
    simp only [i0, nil0] at pa0 pa1 pa2 pb0 pb1 pb2 p74 p75 p76 p77 p78 p79 p710 p84 p85 p86 p87 p88 p89 p810
    (try refine wp_region_lit ?_)
    (try simp only [List.append_eq, List.cons_append, List.nil_append])
    go_wp2_with (first
      | (refine load_blk (B := w.heap.size) (k := 3) 48 (zFr) (by rfl) rfl rfl HA (by kernel_rfl) (by kernel_rfl) rfl ?_)
      | (refine load_blk (B := w.heap.size) (k := 24) 51 (zAr0.toArray) (by rfl) rfl rfl HA (by kernel_rfl) (by kernel_rfl) rfl ?_)
      | (refine load_blk (B := w.heap.size) (k := 45) 54 (zPa0.toArray) (by rfl) rfl rfl HA (by kernel_rfl) (by kernel_rfl) rfl ?_)
      | (refine load_blk (B := w.heap.size) (k := 55) 31 (bpC zBp) (by rfl) rfl rfl HA (by kernel_rfl) (by kernel_rfl) rfl ?_)
      | (refine load_blk (B := w.heap.size) (k := 142) 66 (zLa0.toArray) (by rfl) rfl rfl HA (by kernel_rfl) (by kernel_rfl) rfl ?_)
      | (refine load_blk (B := w.heap.size) (k := 165) 68 (zMk0.toArray) (by rfl) rfl rfl HA (by kernel_rfl) (by kernel_rfl) rfl ?_)
      | (refine load_blk (B := B) (k := 3) 48 (zFr) (by rfl) rfl rfl HB (by kernel_rfl) (by kernel_rfl) rfl ?_)
      | (refine load_blk (B := B) (k := 24) 51 (zAr0.toArray) (by rfl) rfl rfl HB (by kernel_rfl) (by kernel_rfl) rfl ?_)
      | (refine load_blk (B := B) (k := 45) 54 (zPa0.toArray) (by rfl) rfl rfl HB (by kernel_rfl) (by kernel_rfl) rfl ?_)
      | (refine load_blk (B := B) (k := 55) 31 (bpC zBp) (by rfl) rfl rfl HB (by kernel_rfl) (by kernel_rfl) rfl ?_)
      | (refine load_blk (B := B) (k := 142) 66 (zLa0.toArray) (by rfl) rfl rfl HB (by kernel_rfl) (by kernel_rfl) rfl ?_)
      | (refine load_blk (B := B) (k := 165) 68 (zMk0.toArray) (by rfl) rfl rfl HB (by kernel_rfl) (by kernel_rfl) rfl ?_)
      | (refine load_blk (B := b5) (k := 0) 31 (bpC zBp) (by rfl) rfl rfl H5 (by kernel_rfl) (by kernel_rfl) rfl ?_)
      | (refine load_blk (B := b5) (k := 35) 27 (brC zMs.br) (by rfl) rfl rfl H5 (by kernel_rfl) (by kernel_rfl) rfl ?_)
      | (refine load_blk (B := b6) (k := 0) 31 (bpC zBp) (by rfl) rfl rfl H6 (by kernel_rfl) (by kernel_rfl) rfl ?_)
      | (refine load_blk (B := b6) (k := 35) 27 (brC zMs.br) (by rfl) rfl rfl H6 (by kernel_rfl) (by kernel_rfl) rfl ?_)
      | (refine load_blk (B := b7) (k := 0) 56 (zNm0.toArray) (by rfl) rfl rfl H7 (by kernel_rfl) (by kernel_rfl) rfl ?_)
      | (refine load_blk (B := b7) (k := 2) 56 (zNm0.toArray) (by rfl) rfl rfl H7 (by kernel_rfl) (by kernel_rfl) rfl ?_)
      | (refine load_blk (B := b8) (k := 0) 56 (zNm0.toArray) (by rfl) rfl rfl H8 (by kernel_rfl) (by kernel_rfl) rfl ?_)
      | (refine load_blk (B := b8) (k := 2) 56 (zNm0.toArray) (by rfl) rfl rfl H8 (by kernel_rfl) (by kernel_rfl) rfl ?_))
    refine (frameSame_nil _).mono ?_
    rintro e v1 ⟨rfl, kk⟩
    clear pa0 pa1 pa2 pa174 pb0 pb1 pb2 pb174 p531 p532 p533 p534 p543 p544 p631 p632 p633 p634 p643 p644 p74 p75 p76 p77 p78 p79 p710 p84 p85 p86 p87 p88 p89 p810
    replace HA := HA.kept kk
    replace HB := HB.kept kk
    replace H5 := H5.kept kk
    replace H6 := H6.kept kk
    replace H7 := H7.kept kk
    replace H8 := H8.kept kk
    replace HW := HW.trans (kk.mono HW.size)
    clear kk
    have pa0 := HA.cv 0 (i0) rfl
    have pa1 := HA.cv 1 (i0) rfl
    have pa2 := HA.cv 2 (i0) rfl
    have pa174 := HA.cv 174 (.slice a1 n1 c1) rfl
    have pb0 := HB.cv 0 (i0) rfl
    have pb1 := HB.cv 1 (i0) rfl
    have pb2 := HB.cv 2 (i0) rfl
    have pb174 := HB.cv 174 (.slice a2 n2 c2) rfl
    have p531 := H5.cv 31 (.string ⟨#[]⟩) rfl
    have p532 := H5.cv 32 (.int .i64 0) rfl
    have p533 := H5.cv 33 (.string ⟨#[]⟩) rfl
    have p534 := H5.cv 34 (.int .i64 0) rfl
    have p543 := H5.cv 43 (.int .i64 0) rfl
    have p544 := H5.cv 44 (.slice none 0 0) rfl
    have p631 := H6.cv 31 (.string ⟨#[]⟩) rfl
    have p632 := H6.cv 32 (.int .i64 0) rfl
    have p633 := H6.cv 33 (.string ⟨#[]⟩) rfl
    have p634 := H6.cv 34 (.int .i64 0) rfl
    have p643 := H6.cv 43 (.int .i64 0) rfl
    have p644 := H6.cv 44 (.slice none 0 0) rfl
    have p74 := H7.cv 4 (i0) rfl
    have p75 := H7.cv 5 (nil0) rfl
    have p76 := H7.cv 6 (nil0) rfl
    have p77 := H7.cv 7 (nil0) rfl
    have p78 := H7.cv 8 (nil0) rfl
    have p79 := H7.cv 9 (nil0) rfl
    have p710 := H7.cv 10 (nil0) rfl
    have p84 := H8.cv 4 (i0) rfl
    have p85 := H8.cv 5 (nil0) rfl
    have p86 := H8.cv 6 (nil0) rfl
    have p87 := H8.cv 7 (nil0) rfl
    have p88 := H8.cv 8 (nil0) rfl
    have p89 := H8.cv 9 (nil0) rfl
    have p810 := H8.cv 10 (nil0) rfl
    simp only [i0, nil0] at pa0 pa1 pa2 pb0 pb1 pb2 p74 p75 p76 p77 p78 p79 p710 p84 p85 p86 p87 p88 p89 p810
    go_wp2_with (first
      | (refine load_blk (B := w.heap.size) (k := 3) 48 (zFr) (by rfl) rfl rfl HA (by kernel_rfl) (by kernel_rfl) rfl ?_)
      | (refine load_blk (B := w.heap.size) (k := 24) 51 (zAr0.toArray) (by rfl) rfl rfl HA (by kernel_rfl) (by kernel_rfl) rfl ?_)
      | (refine load_blk (B := w.heap.size) (k := 45) 54 (zPa0.toArray) (by rfl) rfl rfl HA (by kernel_rfl) (by kernel_rfl) rfl ?_)
      | (refine load_blk (B := w.heap.size) (k := 55) 31 (bpC zBp) (by rfl) rfl rfl HA (by kernel_rfl) (by kernel_rfl) rfl ?_)
      | (refine load_blk (B := w.heap.size) (k := 142) 66 (zLa0.toArray) (by rfl) rfl rfl HA (by kernel_rfl) (by kernel_rfl) rfl ?_)
      | (refine load_blk (B := w.heap.size) (k := 165) 68 (zMk0.toArray) (by rfl) rfl rfl HA (by kernel_rfl) (by kernel_rfl) rfl ?_)
      | (refine load_blk (B := B) (k := 3) 48 (zFr) (by rfl) rfl rfl HB (by kernel_rfl) (by kernel_rfl) rfl ?_)
      | (refine load_blk (B := B) (k := 24) 51 (zAr0.toArray) (by rfl) rfl rfl HB (by kernel_rfl) (by kernel_rfl) rfl ?_)
      | (refine load_blk (B := B) (k := 45) 54 (zPa0.toArray) (by rfl) rfl rfl HB (by kernel_rfl) (by kernel_rfl) rfl ?_)
      | (refine load_blk (B := B) (k := 55) 31 (bpC zBp) (by rfl) rfl rfl HB (by kernel_rfl) (by kernel_rfl) rfl ?_)
      | (refine load_blk (B := B) (k := 142) 66 (zLa0.toArray) (by rfl) rfl rfl HB (by kernel_rfl) (by kernel_rfl) rfl ?_)
      | (refine load_blk (B := B) (k := 165) 68 (zMk0.toArray) (by rfl) rfl rfl HB (by kernel_rfl) (by kernel_rfl) rfl ?_)
      | (refine load_blk (B := b5) (k := 0) 31 (bpC zBp) (by rfl) rfl rfl H5 (by kernel_rfl) (by kernel_rfl) rfl ?_)
      | (refine load_blk (B := b5) (k := 35) 27 (brC zMs.br) (by rfl) rfl rfl H5 (by kernel_rfl) (by kernel_rfl) rfl ?_)
      | (refine load_blk (B := b6) (k := 0) 31 (bpC zBp) (by rfl) rfl rfl H6 (by kernel_rfl) (by kernel_rfl) rfl ?_)
      | (refine load_blk (B := b6) (k := 35) 27 (brC zMs.br) (by rfl) rfl rfl H6 (by kernel_rfl) (by kernel_rfl) rfl ?_)
      | (refine load_blk (B := b7) (k := 0) 56 (zNm0.toArray) (by rfl) rfl rfl H7 (by kernel_rfl) (by kernel_rfl) rfl ?_)
      | (refine load_blk (B := b7) (k := 2) 56 (zNm0.toArray) (by rfl) rfl rfl H7 (by kernel_rfl) (by kernel_rfl) rfl ?_)
      | (refine load_blk (B := b8) (k := 0) 56 (zNm0.toArray) (by rfl) rfl rfl H8 (by kernel_rfl) (by kernel_rfl) rfl ?_)
      | (refine load_blk (B := b8) (k := 2) 56 (zNm0.toArray) (by rfl) rfl rfl H8 (by kernel_rfl) (by kernel_rfl) rfl ?_))
    refine (eqIns_any none 0 none 0 [] _ (Or.inl rfl) (Or.inl rfl) (by decide)).mono ?_
    rintro e v2 ⟨rfl, kk⟩
    clear pa0 pa1 pa2 pa174 pb0 pb1 pb2 pb174 p531 p532 p533 p534 p543 p544 p631 p632 p633 p634 p643 p644 p74 p75 p76 p77 p78 p79 p710 p84 p85 p86 p87 p88 p89 p810
    replace HA := HA.kept kk
    replace HB := HB.kept kk
    replace H5 := H5.kept kk
    replace H6 := H6.kept kk
    replace H7 := H7.kept kk
    replace H8 := H8.kept kk
    replace HW := HW.trans (kk.mono HW.size)
    clear kk
    have pa0 := HA.cv 0 (i0) rfl
    have pa1 := HA.cv 1 (i0) rfl
    have pa2 := HA.cv 2 (i0) rfl
    have pa174 := HA.cv 174 (.slice a1 n1 c1) rfl
    have pb0 := HB.cv 0 (i0) rfl
    have pb1 := HB.cv 1 (i0) rfl
    have pb2 := HB.cv 2 (i0) rfl
    have pb174 := HB.cv 174 (.slice a2 n2 c2) rfl
    have p531 := H5.cv 31 (.string ⟨#[]⟩) rfl
    have p532 := H5.cv 32 (.int .i64 0) rfl
    have p533 := H5.cv 33 (.string ⟨#[]⟩) rfl
    have p534 := H5.cv 34 (.int .i64 0) rfl
    have p543 := H5.cv 43 (.int .i64 0) rfl
    have p544 := H5.cv 44 (.slice none 0 0) rfl
    have p631 := H6.cv 31 (.string ⟨#[]⟩) rfl
    have p632 := H6.cv 32 (.int .i64 0) rfl
    have p633 := H6.cv 33 (.string ⟨#[]⟩) rfl
    have p634 := H6.cv 34 (.int .i64 0) rfl
    have p643 := H6.cv 43 (.int .i64 0) rfl
    have p644 := H6.cv 44 (.slice none 0 0) rfl
    have p74 := H7.cv 4 (i0) rfl
    have p75 := H7.cv 5 (nil0) rfl
    have p76 := H7.cv 6 (nil0) rfl
    have p77 := H7.cv 7 (nil0) rfl
    have p78 := H7.cv 8 (nil0) rfl
    have p79 := H7.cv 9 (nil0) rfl
    have p710 := H7.cv 10 (nil0) rfl
    have p84 := H8.cv 4 (i0) rfl
    have p85 := H8.cv 5 (nil0) rfl
    have p86 := H8.cv 6 (nil0) rfl
    have p87 := H8.cv 7 (nil0) rfl
    have p88 := H8.cv 8 (nil0) rfl
    have p89 := H8.cv 9 (nil0) rfl
    have p810 := H8.cv 10 (nil0) rfl
    simp only [i0, nil0] at pa0 pa1 pa2 pb0 pb1 pb2 p74 p75 p76 p77 p78 p79 p710 p84 p85 p86 p87 p88 p89 p810
    go_wp2_with (first
      | (refine load_blk (B := w.heap.size) (k := 3) 48 (zFr) (by rfl) rfl rfl HA (by kernel_rfl) (by kernel_rfl) rfl ?_)
      | (refine load_blk (B := w.heap.size) (k := 24) 51 (zAr0.toArray) (by rfl) rfl rfl HA (by kernel_rfl) (by kernel_rfl) rfl ?_)
      | (refine load_blk (B := w.heap.size) (k := 45) 54 (zPa0.toArray) (by rfl) rfl rfl HA (by kernel_rfl) (by kernel_rfl) rfl ?_)
      | (refine load_blk (B := w.heap.size) (k := 55) 31 (bpC zBp) (by rfl) rfl rfl HA (by kernel_rfl) (by kernel_rfl) rfl ?_)
      | (refine load_blk (B := w.heap.size) (k := 142) 66 (zLa0.toArray) (by rfl) rfl rfl HA (by kernel_rfl) (by kernel_rfl) rfl ?_)
      | (refine load_blk (B := w.heap.size) (k := 165) 68 (zMk0.toArray) (by rfl) rfl rfl HA (by kernel_rfl) (by kernel_rfl) rfl ?_)
      | (refine load_blk (B := B) (k := 3) 48 (zFr) (by rfl) rfl rfl HB (by kernel_rfl) (by kernel_rfl) rfl ?_)
      | (refine load_blk (B := B) (k := 24) 51 (zAr0.toArray) (by rfl) rfl rfl HB (by kernel_rfl) (by kernel_rfl) rfl ?_)
      | (refine load_blk (B := B) (k := 45) 54 (zPa0.toArray) (by rfl) rfl rfl HB (by kernel_rfl) (by kernel_rfl) rfl ?_)
      | (refine load_blk (B := B) (k := 55) 31 (bpC zBp) (by rfl) rfl rfl HB (by kernel_rfl) (by kernel_rfl) rfl ?_)
      | (refine load_blk (B := B) (k := 142) 66 (zLa0.toArray) (by rfl) rfl rfl HB (by kernel_rfl) (by kernel_rfl) rfl ?_)
      | (refine load_blk (B := B) (k := 165) 68 (zMk0.toArray) (by rfl) rfl rfl HB (by kernel_rfl) (by kernel_rfl) rfl ?_)
      | (refine load_blk (B := b5) (k := 0) 31 (bpC zBp) (by rfl) rfl rfl H5 (by kernel_rfl) (by kernel_rfl) rfl ?_)
      | (refine load_blk (B := b5) (k := 35) 27 (brC zMs.br) (by rfl) rfl rfl H5 (by kernel_rfl) (by kernel_rfl) rfl ?_)
      | (refine load_blk (B := b6) (k := 0) 31 (bpC zBp) (by rfl) rfl rfl H6 (by kernel_rfl) (by kernel_rfl) rfl ?_)
      | (refine load_blk (B := b6) (k := 35) 27 (brC zMs.br) (by rfl) rfl rfl H6 (by kernel_rfl) (by kernel_rfl) rfl ?_)
      | (refine load_blk (B := b7) (k := 0) 56 (zNm0.toArray) (by rfl) rfl rfl H7 (by kernel_rfl) (by kernel_rfl) rfl ?_)
      | (refine load_blk (B := b7) (k := 2) 56 (zNm0.toArray) (by rfl) rfl rfl H7 (by kernel_rfl) (by kernel_rfl) rfl ?_)
      | (refine load_blk (B := b8) (k := 0) 56 (zNm0.toArray) (by rfl) rfl rfl H8 (by kernel_rfl) (by kernel_rfl) rfl ?_)
      | (refine load_blk (B := b8) (k := 2) 56 (zNm0.toArray) (by rfl) rfl rfl H8 (by kernel_rfl) (by kernel_rfl) rfl ?_))
    refine (eqNil_str _).mono ?_
    rintro e _ ⟨rfl, rfl⟩
    go_wp2_with (first
      | (refine load_blk (B := w.heap.size) (k := 3) 48 (zFr) (by rfl) rfl rfl HA (by kernel_rfl) (by kernel_rfl) rfl ?_)
      | (refine load_blk (B := w.heap.size) (k := 24) 51 (zAr0.toArray) (by rfl) rfl rfl HA (by kernel_rfl) (by kernel_rfl) rfl ?_)
      | (refine load_blk (B := w.heap.size) (k := 45) 54 (zPa0.toArray) (by rfl) rfl rfl HA (by kernel_rfl) (by kernel_rfl) rfl ?_)
      | (refine load_blk (B := w.heap.size) (k := 55) 31 (bpC zBp) (by rfl) rfl rfl HA (by kernel_rfl) (by kernel_rfl) rfl ?_)
      | (refine load_blk (B := w.heap.size) (k := 142) 66 (zLa0.toArray) (by rfl) rfl rfl HA (by kernel_rfl) (by kernel_rfl) rfl ?_)
      | (refine load_blk (B := w.heap.size) (k := 165) 68 (zMk0.toArray) (by rfl) rfl rfl HA (by kernel_rfl) (by kernel_rfl) rfl ?_)
      | (refine load_blk (B := B) (k := 3) 48 (zFr) (by rfl) rfl rfl HB (by kernel_rfl) (by kernel_rfl) rfl ?_)
      | (refine load_blk (B := B) (k := 24) 51 (zAr0.toArray) (by rfl) rfl rfl HB (by kernel_rfl) (by kernel_rfl) rfl ?_)
      | (refine load_blk (B := B) (k := 45) 54 (zPa0.toArray) (by rfl) rfl rfl HB (by kernel_rfl) (by kernel_rfl) rfl ?_)
      | (refine load_blk (B := B) (k := 55) 31 (bpC zBp) (by rfl) rfl rfl HB (by kernel_rfl) (by kernel_rfl) rfl ?_)
      | (refine load_blk (B := B) (k := 142) 66 (zLa0.toArray) (by rfl) rfl rfl HB (by kernel_rfl) (by kernel_rfl) rfl ?_)
      | (refine load_blk (B := B) (k := 165) 68 (zMk0.toArray) (by rfl) rfl rfl HB (by kernel_rfl) (by kernel_rfl) rfl ?_)
      | (refine load_blk (B := b5) (k := 0) 31 (bpC zBp) (by rfl) rfl rfl H5 (by kernel_rfl) (by kernel_rfl) rfl ?_)
      | (refine load_blk (B := b5) (k := 35) 27 (brC zMs.br) (by rfl) rfl rfl H5 (by kernel_rfl) (by kernel_rfl) rfl ?_)
      | (refine load_blk (B := b6) (k := 0) 31 (bpC zBp) (by rfl) rfl rfl H6 (by kernel_rfl) (by kernel_rfl) rfl ?_)
      | (refine load_blk (B := b6) (k := 35) 27 (brC zMs.br) (by rfl) rfl rfl H6 (by kernel_rfl) (by kernel_rfl) rfl ?_)
      | (refine load_blk (B := b7) (k := 0) 56 (zNm0.toArray) (by rfl) rfl rfl H7 (by kernel_rfl) (by kernel_rfl) rfl ?_)
      | (refine load_blk (B := b7) (k := 2) 56 (zNm0.toArray) (by rfl) rfl rfl H7 (by kernel_rfl) (by kernel_rfl) rfl ?_)
      | (refine load_blk (B := b8) (k := 0) 56 (zNm0.toArray) (by rfl) rfl rfl H8 (by kernel_rfl) (by kernel_rfl) rfl ?_)
      | (refine load_blk (B := b8) (k := 2) 56 (zNm0.toArray) (by rfl) rfl rfl H8 (by kernel_rfl) (by kernel_rfl) rfl ?_))
    refine (eqNil_str _).mono ?_
    rintro e _ ⟨rfl, rfl⟩
    go_wp2_with (first
      | (refine load_blk (B := w.heap.size) (k := 3) 48 (zFr) (by rfl) rfl rfl HA (by kernel_rfl) (by kernel_rfl) rfl ?_)
      | (refine load_blk (B := w.heap.size) (k := 24) 51 (zAr0.toArray) (by rfl) rfl rfl HA (by kernel_rfl) (by kernel_rfl) rfl ?_)
      | (refine load_blk (B := w.heap.size) (k := 45) 54 (zPa0.toArray) (by rfl) rfl rfl HA (by kernel_rfl) (by kernel_rfl) rfl ?_)
      | (refine load_blk (B := w.heap.size) (k := 55) 31 (bpC zBp) (by rfl) rfl rfl HA (by kernel_rfl) (by kernel_rfl) rfl ?_)
      | (refine load_blk (B := w.heap.size) (k := 142) 66 (zLa0.toArray) (by rfl) rfl rfl HA (by kernel_rfl) (by kernel_rfl) rfl ?_)
      | (refine load_blk (B := w.heap.size) (k := 165) 68 (zMk0.toArray) (by rfl) rfl rfl HA (by kernel_rfl) (by kernel_rfl) rfl ?_)
      | (refine load_blk (B := B) (k := 3) 48 (zFr) (by rfl) rfl rfl HB (by kernel_rfl) (by kernel_rfl) rfl ?_)
      | (refine load_blk (B := B) (k := 24) 51 (zAr0.toArray) (by rfl) rfl rfl HB (by kernel_rfl) (by kernel_rfl) rfl ?_)
      | (refine load_blk (B := B) (k := 45) 54 (zPa0.toArray) (by rfl) rfl rfl HB (by kernel_rfl) (by kernel_rfl) rfl ?_)
      | (refine load_blk (B := B) (k := 55) 31 (bpC zBp) (by rfl) rfl rfl HB (by kernel_rfl) (by kernel_rfl) rfl ?_)
      | (refine load_blk (B := B) (k := 142) 66 (zLa0.toArray) (by rfl) rfl rfl HB (by kernel_rfl) (by kernel_rfl) rfl ?_)
      | (refine load_blk (B := B) (k := 165) 68 (zMk0.toArray) (by rfl) rfl rfl HB (by kernel_rfl) (by kernel_rfl) rfl ?_)
      | (refine load_blk (B := b5) (k := 0) 31 (bpC zBp) (by rfl) rfl rfl H5 (by kernel_rfl) (by kernel_rfl) rfl ?_)
      | (refine load_blk (B := b5) (k := 35) 27 (brC zMs.br) (by rfl) rfl rfl H5 (by kernel_rfl) (by kernel_rfl) rfl ?_)
      | (refine load_blk (B := b6) (k := 0) 31 (bpC zBp) (by rfl) rfl rfl H6 (by kernel_rfl) (by kernel_rfl) rfl ?_)
      | (refine load_blk (B := b6) (k := 35) 27 (brC zMs.br) (by rfl) rfl rfl H6 (by kernel_rfl) (by kernel_rfl) rfl ?_)
      | (refine load_blk (B := b7) (k := 0) 56 (zNm0.toArray) (by rfl) rfl rfl H7 (by kernel_rfl) (by kernel_rfl) rfl ?_)
      | (refine load_blk (B := b7) (k := 2) 56 (zNm0.toArray) (by rfl) rfl rfl H7 (by kernel_rfl) (by kernel_rfl) rfl ?_)
      | (refine load_blk (B := b8) (k := 0) 56 (zNm0.toArray) (by rfl) rfl rfl H8 (by kernel_rfl) (by kernel_rfl) rfl ?_)
      | (refine load_blk (B := b8) (k := 2) 56 (zNm0.toArray) (by rfl) rfl rfl H8 (by kernel_rfl) (by kernel_rfl) rfl ?_))
    refine (eqNil_str _).mono ?_
    rintro e _ ⟨rfl, rfl⟩
    go_wp2_with (first
      | (refine load_blk (B := w.heap.size) (k := 3) 48 (zFr) (by rfl) rfl rfl HA (by kernel_rfl) (by kernel_rfl) rfl ?_)
      | (refine load_blk (B := w.heap.size) (k := 24) 51 (zAr0.toArray) (by rfl) rfl rfl HA (by kernel_rfl) (by kernel_rfl) rfl ?_)
      | (refine load_blk (B := w.heap.size) (k := 45) 54 (zPa0.toArray) (by rfl) rfl rfl HA (by kernel_rfl) (by kernel_rfl) rfl ?_)
      | (refine load_blk (B := w.heap.size) (k := 55) 31 (bpC zBp) (by rfl) rfl rfl HA (by kernel_rfl) (by kernel_rfl) rfl ?_)
      | (refine load_blk (B := w.heap.size) (k := 142) 66 (zLa0.toArray) (by rfl) rfl rfl HA (by kernel_rfl) (by kernel_rfl) rfl ?_)
      | (refine load_blk (B := w.heap.size) (k := 165) 68 (zMk0.toArray) (by rfl) rfl rfl HA (by kernel_rfl) (by kernel_rfl) rfl ?_)
      | (refine load_blk (B := B) (k := 3) 48 (zFr) (by rfl) rfl rfl HB (by kernel_rfl) (by kernel_rfl) rfl ?_)
      | (refine load_blk (B := B) (k := 24) 51 (zAr0.toArray) (by rfl) rfl rfl HB (by kernel_rfl) (by kernel_rfl) rfl ?_)
      | (refine load_blk (B := B) (k := 45) 54 (zPa0.toArray) (by rfl) rfl rfl HB (by kernel_rfl) (by kernel_rfl) rfl ?_)
      | (refine load_blk (B := B) (k := 55) 31 (bpC zBp) (by rfl) rfl rfl HB (by kernel_rfl) (by kernel_rfl) rfl ?_)
      | (refine load_blk (B := B) (k := 142) 66 (zLa0.toArray) (by rfl) rfl rfl HB (by kernel_rfl) (by kernel_rfl) rfl ?_)
      | (refine load_blk (B := B) (k := 165) 68 (zMk0.toArray) (by rfl) rfl rfl HB (by kernel_rfl) (by kernel_rfl) rfl ?_)
      | (refine load_blk (B := b5) (k := 0) 31 (bpC zBp) (by rfl) rfl rfl H5 (by kernel_rfl) (by kernel_rfl) rfl ?_)
      | (refine load_blk (B := b5) (k := 35) 27 (brC zMs.br) (by rfl) rfl rfl H5 (by kernel_rfl) (by kernel_rfl) rfl ?_)
      | (refine load_blk (B := b6) (k := 0) 31 (bpC zBp) (by rfl) rfl rfl H6 (by kernel_rfl) (by kernel_rfl) rfl ?_)
      | (refine load_blk (B := b6) (k := 35) 27 (brC zMs.br) (by rfl) rfl rfl H6 (by kernel_rfl) (by kernel_rfl) rfl ?_)
      | (refine load_blk (B := b7) (k := 0) 56 (zNm0.toArray) (by rfl) rfl rfl H7 (by kernel_rfl) (by kernel_rfl) rfl ?_)
      | (refine load_blk (B := b7) (k := 2) 56 (zNm0.toArray) (by rfl) rfl rfl H7 (by kernel_rfl) (by kernel_rfl) rfl ?_)
      | (refine load_blk (B := b8) (k := 0) 56 (zNm0.toArray) (by rfl) rfl rfl H8 (by kernel_rfl) (by kernel_rfl) rfl ?_)
      | (refine load_blk (B := b8) (k := 2) 56 (zNm0.toArray) (by rfl) rfl rfl H8 (by kernel_rfl) (by kernel_rfl) rfl ?_))
    refine (eqNil_caps _).mono ?_
    rintro e _ ⟨rfl, rfl⟩
    go_wp2_with (first
      | (refine load_blk (B := w.heap.size) (k := 3) 48 (zFr) (by rfl) rfl rfl HA (by kernel_rfl) (by kernel_rfl) rfl ?_)
      | (refine load_blk (B := w.heap.size) (k := 24) 51 (zAr0.toArray) (by rfl) rfl rfl HA (by kernel_rfl) (by kernel_rfl) rfl ?_)
      | (refine load_blk (B := w.heap.size) (k := 45) 54 (zPa0.toArray) (by rfl) rfl rfl HA (by kernel_rfl) (by kernel_rfl) rfl ?_)
      | (refine load_blk (B := w.heap.size) (k := 55) 31 (bpC zBp) (by rfl) rfl rfl HA (by kernel_rfl) (by kernel_rfl) rfl ?_)
      | (refine load_blk (B := w.heap.size) (k := 142) 66 (zLa0.toArray) (by rfl) rfl rfl HA (by kernel_rfl) (by kernel_rfl) rfl ?_)
      | (refine load_blk (B := w.heap.size) (k := 165) 68 (zMk0.toArray) (by rfl) rfl rfl HA (by kernel_rfl) (by kernel_rfl) rfl ?_)
      | (refine load_blk (B := B) (k := 3) 48 (zFr) (by rfl) rfl rfl HB (by kernel_rfl) (by kernel_rfl) rfl ?_)
      | (refine load_blk (B := B) (k := 24) 51 (zAr0.toArray) (by rfl) rfl rfl HB (by kernel_rfl) (by kernel_rfl) rfl ?_)
      | (refine load_blk (B := B) (k := 45) 54 (zPa0.toArray) (by rfl) rfl rfl HB (by kernel_rfl) (by kernel_rfl) rfl ?_)
      | (refine load_blk (B := B) (k := 55) 31 (bpC zBp) (by rfl) rfl rfl HB (by kernel_rfl) (by kernel_rfl) rfl ?_)
      | (refine load_blk (B := B) (k := 142) 66 (zLa0.toArray) (by rfl) rfl rfl HB (by kernel_rfl) (by kernel_rfl) rfl ?_)
      | (refine load_blk (B := B) (k := 165) 68 (zMk0.toArray) (by rfl) rfl rfl HB (by kernel_rfl) (by kernel_rfl) rfl ?_)
      | (refine load_blk (B := b5) (k := 0) 31 (bpC zBp) (by rfl) rfl rfl H5 (by kernel_rfl) (by kernel_rfl) rfl ?_)
      | (refine load_blk (B := b5) (k := 35) 27 (brC zMs.br) (by rfl) rfl rfl H5 (by kernel_rfl) (by kernel_rfl) rfl ?_)
      | (refine load_blk (B := b6) (k := 0) 31 (bpC zBp) (by rfl) rfl rfl H6 (by kernel_rfl) (by kernel_rfl) rfl ?_)
      | (refine load_blk (B := b6) (k := 35) 27 (brC zMs.br) (by rfl) rfl rfl H6 (by kernel_rfl) (by kernel_rfl) rfl ?_)
      | (refine load_blk (B := b7) (k := 0) 56 (zNm0.toArray) (by rfl) rfl rfl H7 (by kernel_rfl) (by kernel_rfl) rfl ?_)
      | (refine load_blk (B := b7) (k := 2) 56 (zNm0.toArray) (by rfl) rfl rfl H7 (by kernel_rfl) (by kernel_rfl) rfl ?_)
      | (refine load_blk (B := b8) (k := 0) 56 (zNm0.toArray) (by rfl) rfl rfl H8 (by kernel_rfl) (by kernel_rfl) rfl ?_)
      | (refine load_blk (B := b8) (k := 2) 56 (zNm0.toArray) (by rfl) rfl rfl H8 (by kernel_rfl) (by kernel_rfl) rfl ?_))
    refine (eqNil_man _).mono ?_
    rintro e _ ⟨rfl, rfl⟩
    go_wp2_with (first
      | (refine load_blk (B := w.heap.size) (k := 3) 48 (zFr) (by rfl) rfl rfl HA (by kernel_rfl) (by kernel_rfl) rfl ?_)
      | (refine load_blk (B := w.heap.size) (k := 24) 51 (zAr0.toArray) (by rfl) rfl rfl HA (by kernel_rfl) (by kernel_rfl) rfl ?_)
      | (refine load_blk (B := w.heap.size) (k := 45) 54 (zPa0.toArray) (by rfl) rfl rfl HA (by kernel_rfl) (by kernel_rfl) rfl ?_)
      | (refine load_blk (B := w.heap.size) (k := 55) 31 (bpC zBp) (by rfl) rfl rfl HA (by kernel_rfl) (by kernel_rfl) rfl ?_)
      | (refine load_blk (B := w.heap.size) (k := 142) 66 (zLa0.toArray) (by rfl) rfl rfl HA (by kernel_rfl) (by kernel_rfl) rfl ?_)
      | (refine load_blk (B := w.heap.size) (k := 165) 68 (zMk0.toArray) (by rfl) rfl rfl HA (by kernel_rfl) (by kernel_rfl) rfl ?_)
      | (refine load_blk (B := B) (k := 3) 48 (zFr) (by rfl) rfl rfl HB (by kernel_rfl) (by kernel_rfl) rfl ?_)
      | (refine load_blk (B := B) (k := 24) 51 (zAr0.toArray) (by rfl) rfl rfl HB (by kernel_rfl) (by kernel_rfl) rfl ?_)
      | (refine load_blk (B := B) (k := 45) 54 (zPa0.toArray) (by rfl) rfl rfl HB (by kernel_rfl) (by kernel_rfl) rfl ?_)
      | (refine load_blk (B := B) (k := 55) 31 (bpC zBp) (by rfl) rfl rfl HB (by kernel_rfl) (by kernel_rfl) rfl ?_)
      | (refine load_blk (B := B) (k := 142) 66 (zLa0.toArray) (by rfl) rfl rfl HB (by kernel_rfl) (by kernel_rfl) rfl ?_)
      | (refine load_blk (B := B) (k := 165) 68 (zMk0.toArray) (by rfl) rfl rfl HB (by kernel_rfl) (by kernel_rfl) rfl ?_)
      | (refine load_blk (B := b5) (k := 0) 31 (bpC zBp) (by rfl) rfl rfl H5 (by kernel_rfl) (by kernel_rfl) rfl ?_)
      | (refine load_blk (B := b5) (k := 35) 27 (brC zMs.br) (by rfl) rfl rfl H5 (by kernel_rfl) (by kernel_rfl) rfl ?_)
      | (refine load_blk (B := b6) (k := 0) 31 (bpC zBp) (by rfl) rfl rfl H6 (by kernel_rfl) (by kernel_rfl) rfl ?_)
      | (refine load_blk (B := b6) (k := 35) 27 (brC zMs.br) (by rfl) rfl rfl H6 (by kernel_rfl) (by kernel_rfl) rfl ?_)
      | (refine load_blk (B := b7) (k := 0) 56 (zNm0.toArray) (by rfl) rfl rfl H7 (by kernel_rfl) (by kernel_rfl) rfl ?_)
      | (refine load_blk (B := b7) (k := 2) 56 (zNm0.toArray) (by rfl) rfl rfl H7 (by kernel_rfl) (by kernel_rfl) rfl ?_)
      | (refine load_blk (B := b8) (k := 0) 56 (zNm0.toArray) (by rfl) rfl rfl H8 (by kernel_rfl) (by kernel_rfl) rfl ?_)
      | (refine load_blk (B := b8) (k := 2) 56 (zNm0.toArray) (by rfl) rfl rfl H8 (by kernel_rfl) (by kernel_rfl) rfl ?_))
    refine (eqNil_org _).mono ?_
    rintro e _ ⟨rfl, rfl⟩
    go_wp2_with (first
      | (refine load_blk (B := w.heap.size) (k := 3) 48 (zFr) (by rfl) rfl rfl HA (by kernel_rfl) (by kernel_rfl) rfl ?_)
      | (refine load_blk (B := w.heap.size) (k := 24) 51 (zAr0.toArray) (by rfl) rfl rfl HA (by kernel_rfl) (by kernel_rfl) rfl ?_)
      | (refine load_blk (B := w.heap.size) (k := 45) 54 (zPa0.toArray) (by rfl) rfl rfl HA (by kernel_rfl) (by kernel_rfl) rfl ?_)
      | (refine load_blk (B := w.heap.size) (k := 55) 31 (bpC zBp) (by rfl) rfl rfl HA (by kernel_rfl) (by kernel_rfl) rfl ?_)
      | (refine load_blk (B := w.heap.size) (k := 142) 66 (zLa0.toArray) (by rfl) rfl rfl HA (by kernel_rfl) (by kernel_rfl) rfl ?_)
      | (refine load_blk (B := w.heap.size) (k := 165) 68 (zMk0.toArray) (by rfl) rfl rfl HA (by kernel_rfl) (by kernel_rfl) rfl ?_)
      | (refine load_blk (B := B) (k := 3) 48 (zFr) (by rfl) rfl rfl HB (by kernel_rfl) (by kernel_rfl) rfl ?_)
      | (refine load_blk (B := B) (k := 24) 51 (zAr0.toArray) (by rfl) rfl rfl HB (by kernel_rfl) (by kernel_rfl) rfl ?_)
      | (refine load_blk (B := B) (k := 45) 54 (zPa0.toArray) (by rfl) rfl rfl HB (by kernel_rfl) (by kernel_rfl) rfl ?_)
      | (refine load_blk (B := B) (k := 55) 31 (bpC zBp) (by rfl) rfl rfl HB (by kernel_rfl) (by kernel_rfl) rfl ?_)
      | (refine load_blk (B := B) (k := 142) 66 (zLa0.toArray) (by rfl) rfl rfl HB (by kernel_rfl) (by kernel_rfl) rfl ?_)
      | (refine load_blk (B := B) (k := 165) 68 (zMk0.toArray) (by rfl) rfl rfl HB (by kernel_rfl) (by kernel_rfl) rfl ?_)
      | (refine load_blk (B := b5) (k := 0) 31 (bpC zBp) (by rfl) rfl rfl H5 (by kernel_rfl) (by kernel_rfl) rfl ?_)
      | (refine load_blk (B := b5) (k := 35) 27 (brC zMs.br) (by rfl) rfl rfl H5 (by kernel_rfl) (by kernel_rfl) rfl ?_)
      | (refine load_blk (B := b6) (k := 0) 31 (bpC zBp) (by rfl) rfl rfl H6 (by kernel_rfl) (by kernel_rfl) rfl ?_)
      | (refine load_blk (B := b6) (k := 35) 27 (brC zMs.br) (by rfl) rfl rfl H6 (by kernel_rfl) (by kernel_rfl) rfl ?_)
      | (refine load_blk (B := b7) (k := 0) 56 (zNm0.toArray) (by rfl) rfl rfl H7 (by kernel_rfl) (by kernel_rfl) rfl ?_)
      | (refine load_blk (B := b7) (k := 2) 56 (zNm0.toArray) (by rfl) rfl rfl H7 (by kernel_rfl) (by kernel_rfl) rfl ?_)
      | (refine load_blk (B := b8) (k := 0) 56 (zNm0.toArray) (by rfl) rfl rfl H8 (by kernel_rfl) (by kernel_rfl) rfl ?_)
      | (refine load_blk (B := b8) (k := 2) 56 (zNm0.toArray) (by rfl) rfl rfl H8 (by kernel_rfl) (by kernel_rfl) rfl ?_))
    refine (HS.out _ (h1.below HW) (h2.below HW)).mono ?_
    rintro e v9 ⟨rfl, kk⟩
    have HW9 := HW.trans (kk.mono HW.size)
    go_wp2
    go_ret
    exact ⟨rfl, HW9⟩

end Go.Proofs.YtdjljnpbnhampaaDoor

