/- The card of switchyardlaw.MvrpPacks: for every argument it returns true, and the arguments read as they did; what its row lists of package-level variables is tied to the program's text. -/
import Derived.Test.YtdjljnpbnhampaaDoorMkP2
import Derived.Test.YtdjljnpbnhampaaDoorMkP3
import Derived.Test.YtdjljnpbnhampaaDoorMkP4
import Derived.Test.YtdjljnpbnhampaaDoorStOp
import Derived.Test.YtdjljnpbnhampaaDoorFlt
import Derived.LaidEql
import Derived.Stop.Asserts
import Derived.RowKitTokens
import Derived.Lib.Hide
import Derived.Test.YtdjljnpbnhampaaDoorErrA
import Derived.Below
import Derived.ChangeSame
import Derived.Test.YtdjljnpbnhampaaDoorRows
import Derived.Test.YtdjljnpbnhampaaDoorCards
import Derived.Test.YtdjljnpbnhampaaDoorTie
import Derived.ProofKit
import Derived.OpenShut
import Derived.LaidHandle
import Derived.LaidMore
import Derived.LaidSub
import Derived.Deep.DeepHandedRow
import Derived.Lib.LaidTab
import Derived.Test.YtdjljnpbnhampaaDoorMvEach
import Derived.WideKeyArgs
import Derived.WideShapes
import Derived.SizedLaws
import Derived.Lib.SmallJoins
import Derived.Deep.SlicePairs
import Derived.Test.YtdjljnpbnhampaaDoorRpS
namespace Go.Proofs.YtdjljnpbnhampaaDoor
open Go.RowKit
attribute [local go_sem ↓] Go.wp_at_zero Go.wp_at_succ
set_option linter.unusedSimpArgs false
set_option linter.unusedVariables false
set_option maxRecDepth 100000

def i0 : Value := .int .i64 0

def u0 : Value := .int .u8 0

def zAr0 : List Value := [i0, u0, u0, u0, u0, u0, u0, u0, u0, u0, u0, u0, u0, u0, u0, u0, u0, u0, u0, u0, u0]

def zPa0 : List Value := [.bool false, i0, i0, i0, i0, i0, i0, i0, i0, i0]

def zNm0 : List Value := [i0, .string ⟨#[]⟩]

def nil0 : Value := .slice none 0 0

def zLl0 : List Value := zNm0 ++ zNm0 ++ [i0, nil0, nil0, nil0, nil0, nil0, nil0]

def zPt0 : List Value := [i0, u0, u0, u0, u0, u0, u0, i0, i0, i0, i0]

def zLa0 : List Value := zPt0 ++ zPt0 ++ [i0]

def zMk0 : List Value := [.bool false, i0, u0, u0, u0, u0, u0, u0, i0]

/-- A verdict with a Mvrp alone. -/
def vdV (v : Value) : Array Value := ([i0, i0, i0] ++ (zFr.toList ++ (zAr0 ++ (zPa0 ++ ((bpC zBp).toList ++ ((msC zMs (.slice none 0 0)).toList ++ (zLl0 ++ (zLa0 ++ (zMk0 ++ [v]))))))))).toArray

theorem Tryd.llZero : (Tryd.prog.info? 62).map (·.zero) = some (some (.agg zLl0.toArray)) := by kernel_rfl

theorem wp_alloc_op {P : Program} {o : Oper} {a : Act} {w : World} {K : Act → World → Prop} {Q : Exit → Act → World → Prop} (t : TypeId) (Z : Array Value) (ho : o.op = .alloc t) (hz : (P.info? t).map (·.zero) = some (some (.agg Z)))
    (hK : ∀ b w', b = w.heap.size → Blk w' b t Z → Below b w w' → K (a.put o.dst (.pointer (some ⟨b, 0, none⟩))) w') : Oper.wp P o a w K Q := by
  have h1 : (Instr.alloc t true (.tuple #[])).run P w = .ok (.pointer (some ⟨w.heap.size, 0, none⟩)) (w.alloc (.cells Z t)) := by
    cases hi : P.info? t with
    | none => rw [hi] at hz; cases hz
    | some i =>
      rw [hi] at hz
      simp only [Option.map_some, Option.some.injEq] at hz
      simp [Instr.alloc, zeroValue, typeInfo, hi, hz, newVar, newRow, newObj, Value.cells]
      rfl
  unfold Oper.wp execOp
  simp only [ho, Sem.run_bind, Sem.run_pure, Result.andThen_ok, h1]
  exact hK _ _ rfl (Blk.new w t Z) ((Below.refl _ _).alloc (Nat.le_refl _) _)

theorem wpAnyH_weaken {P : Program} {md : Region.Mode} {ops : Array Oper} {Q : Exit → Act → World → Prop} {S S' : World → Prop} (hS : ∀ w, S' w → S w) : ∀ (fuel : Nat) (listed : Array Bool) (a : Act) (w : World), wpAnyH P md ops Q S' fuel listed a w → wpAnyH P md ops Q S fuel listed a w
  | 0, _, _, _, h => h
  | fuel + 1, _, _, _, h => ⟨h.1, fun i hi => wpOp_mono (fun a' w' h' => ⟨hS _ h'.1, wpAnyH_weaken hS fuel _ a' w' h'.2⟩) (h.2 i hi)⟩

/-- Four new blocks, wherever they lie. -/
structure Four (v1 v2 : Value) (w : World) (B b5 b6 b7 b8 : Nat) (u : World) : Prop where
  ha : Blk u w.heap.size 71 (vdV v1)
  hb : Blk u B 71 (vdV v2)
  h5 : Blk u b5 34 (msC zMs (.slice none 0 0))
  h6 : Blk u b6 34 (msC zMs (.slice none 0 0))
  h7 : Blk u b7 62 zLl0.toArray
  h8 : Blk u b8 62 zLl0.toArray
  hbe : Below w.heap.size w u
  hn : b5 ≠ b6 ∧ b5 ≠ b7 ∧ b5 ≠ b8 ∧ b6 ≠ b7 ∧ b6 ≠ b8 ∧ b7 ≠ b8
  hn2 : B < b5 ∧ B < b6 ∧ B < b7 ∧ B < b8

set_option maxHeartbeats 25600000 in
theorem sameVerdict_mv (a1 a2 : Option Addr) (c1 c2 : Nat) (l1 l2 : List MvH) (w : World) (h1 : MvsIn w a1 l1) (h2 : MvsIn w a2 l2) (m1 : l1.length ≤ maxLen) (m2 : l2.length ≤ maxLen) (hx : xs l1 = xs l2) :
    Calls Tryd.prog 10 #[.agg (vdV (.slice a1 l1.length c1)), .agg (vdV (.slice a2 l2.length c2))] w fun e w' => e = .returned (.bool true) ∧ Below w.heap.size w w' := by
  have HS := Lib.hid (fun (W : World) (M1 : MvsIn W a1 l1) (M2 : MvsIn W a2 l2) => by
    have r := sameR_any a1 a2 c1 c2 l1 l2 W M1 M2 m1 m2
    rw [decide_eq_true hx] at r
    exact r)
  clear hx m1 m2
  generalize l1.length = n1 at *
  generalize l2.length = n2 at *
  go_enter Tryd.func10, Tryd.ntmps10
  go_upto_region 1 with (first
    | (refine box_blk (o := ⟨some 2, _, _, _, _, _⟩) 71 (vdV (.slice a1 n1 c1)) (by rfl) (by rfl) rfl ?_; intro w1 HA1 B1)
    | (refine box_blk (o := ⟨some 3, _, _, _, _, _⟩) 71 (vdV (.slice a2 n2 c2)) (by rfl) (by rfl) rfl ?_; intro w2 HB2 b2; have HA2 := HA1.kept b2; have B2 := B1.trans (b2.mono B1.size)))
  (try simp only [Act.put, List.setIfInBounds_toArray, List.set_cons_zero, List.set_cons_succ])
  have hBl := HB2.lt
  have hAB := HA1.lt
  clear HA1 b2
  generalize w1.heap.size = B at *
  (try simp only [List.append_eq, List.cons_append, List.nil_append])
  refine wp_region_noPanic ?_
  refine wp_region_held_drew (S := (fun w' => Blk w' w.heap.size 71 (vdV (.slice a1 n1 c1)) ∧ Blk w' B 71 (vdV (.slice a2 n2 c2)))) (by kernel_rfl) ?_ (fun hHeld => ?_)
  · exact ⟨HA2, HB2⟩
  have HA3 := HA2.drew
  have HB3 := HB2.drew
  have B3 := B2.drew
  have hBl3 : B < w2.drew.heap.size := hBl
  clear HA2 HB2 B2 hBl
  generalize w2.drew = w3 at *
  refine wpAnyH_take (i := 0) (v := ?_) rfl (by kernel_rfl) (by kernel_rfl) (by kernel_rfl) (fun _ _ _ h => h) (Or.inl ⟨by rfl, ?_⟩) (by assumption) ?_
  rotate_left
  · (intro w hSw; (try dsimp only at hSw); go_simp; (try with_reducible rfl))
  (try simp only [Act.put, List.getElem_toArray, List.getElem_cons_zero, List.getElem_cons_succ, List.setIfInBounds_toArray, List.set_cons_zero, List.set_cons_succ])
  refine wpAnyH_take (i := 2) (v := ?_) rfl (by kernel_rfl) (by kernel_rfl) (by kernel_rfl) (fun _ _ _ h => h) (Or.inl ⟨by rfl, ?_⟩) (by assumption) ?_
  rotate_left
  · (intro w hSw; (try dsimp only at hSw); go_simp; (try with_reducible rfl))
  (try simp only [Act.put, List.getElem_toArray, List.getElem_cons_zero, List.getElem_cons_succ, List.setIfInBounds_toArray, List.set_cons_zero, List.set_cons_succ])
  refine wpAnyH_take (i := 4) (v := ?_) rfl (by kernel_rfl) (by kernel_rfl) (by kernel_rfl) (fun _ _ _ h => h) (Or.inl ⟨by rfl, ?_⟩) (by assumption) ?_
  rotate_left
  · (intro w hSw; (try dsimp only at hSw); go_simp; (try with_reducible rfl))
  (try simp only [Act.put, List.getElem_toArray, List.getElem_cons_zero, List.getElem_cons_succ, List.setIfInBounds_toArray, List.set_cons_zero, List.set_cons_succ])
  refine wpAnyH_take (i := 6) (v := ?_) rfl (by kernel_rfl) (by kernel_rfl) (by kernel_rfl) (fun _ _ _ h => h) (Or.inl ⟨by rfl, ?_⟩) (by assumption) ?_
  rotate_left
  · (intro w hSw; (try dsimp only at hSw); go_simp; (try with_reducible rfl))
  (try simp only [Act.put, List.getElem_toArray, List.getElem_cons_zero, List.getElem_cons_succ, List.setIfInBounds_toArray, List.set_cons_zero, List.set_cons_succ])
  refine wpAnyH_take (i := 1) (v := .agg (msC zMs (.slice none 0 0))) rfl (by kernel_rfl) (by kernel_rfl) (by kernel_rfl) (fun _ _ _ h => h) (Or.inl ⟨by rfl, fun w hSw => exec_load_blk (k := 86) 34 (msC zMs (.slice none 0 0)) rfl rfl hSw.1 (by kernel_rfl) (by kernel_rfl) rfl⟩) (by assumption) ?_
  (try simp only [Act.put, List.getElem_toArray, List.getElem_cons_zero, List.getElem_cons_succ, List.setIfInBounds_toArray, List.set_cons_zero, List.set_cons_succ])
  refine wpAnyH_take (i := 3) (v := .agg (msC zMs (.slice none 0 0))) rfl (by kernel_rfl) (by kernel_rfl) (by kernel_rfl) (fun _ _ _ h => h) (Or.inl ⟨by rfl, fun w hSw => exec_load_blk (k := 86) 34 (msC zMs (.slice none 0 0)) rfl rfl hSw.2 (by kernel_rfl) (by kernel_rfl) rfl⟩) (by assumption) ?_
  (try simp only [Act.put, List.getElem_toArray, List.getElem_cons_zero, List.getElem_cons_succ, List.setIfInBounds_toArray, List.set_cons_zero, List.set_cons_succ])
  refine wpAnyH_take (i := 5) (v := .agg (zLl0.toArray)) rfl (by kernel_rfl) (by kernel_rfl) (by kernel_rfl) (fun _ _ _ h => h) (Or.inl ⟨by rfl, fun w hSw => exec_load_blk (k := 131) 62 (zLl0.toArray) rfl rfl hSw.1 (by kernel_rfl) (by kernel_rfl) rfl⟩) (by assumption) ?_
  (try simp only [Act.put, List.getElem_toArray, List.getElem_cons_zero, List.getElem_cons_succ, List.setIfInBounds_toArray, List.set_cons_zero, List.set_cons_succ])
  refine wpAnyH_take (i := 7) (v := .agg (zLl0.toArray)) rfl (by kernel_rfl) (by kernel_rfl) (by kernel_rfl) (fun _ _ _ h => h) (Or.inl ⟨by rfl, fun w hSw => exec_load_blk (k := 131) 62 (zLl0.toArray) rfl rfl hSw.2 (by kernel_rfl) (by kernel_rfl) rfl⟩) (by assumption) ?_
  (try simp only [Act.put, List.getElem_toArray, List.getElem_cons_zero, List.getElem_cons_succ, List.setIfInBounds_toArray, List.set_cons_zero, List.set_cons_succ])
  have tail : ∀ (b5 b6 b7 b8 : Nat) (u : World), Four (.slice a1 n1 c1) (.slice a2 n2 c2) w B b5 b6 b7 b8 u → (?G : Nat → Nat → Nat → Nat → World → Prop) b5 b6 b7 b8 u := ?tl
  · have HA := HA3
    have HB := HB3
    have HW := B3
    have hB3 : B < w3.heap.size := hBl3
    refine wpAnyH_ready (rs := [8, 9, 10, 11]) (by kernel_rfl) (by simp) ?_
    refine AllReadyH.cons rfl (fun K hK => ?_) (AllReadyH.cons rfl (fun K hK => ?_) (AllReadyH.cons rfl (fun K hK => ?_) (AllReadyH.cons rfl (fun K hK => ?_) AllReadyH.nil)))
    · simp only [List.getElem_toArray, List.getElem_cons_zero, List.getElem_cons_succ]
      rw [if_pos (by rfl)]
      refine wp_alloc_op 34 (msC zMs (.slice none 0 0)) rfl Tryd.msZero (fun b5 u1 e5 H5 n5 => ?_)
      have lHA := HA.lt
      have lHB := HB.lt
      rw [← e5] at lHA lHB
      have e5' : b5 = w3.heap.size := e5
      replace HA := HA.kept (by rw [← e5']; exact n5)
      replace HB := HB.kept (by rw [← e5']; exact n5)
      replace HW := HW.trans (n5.mono (by omega))
      clear e5 e5' n5
      refine hK.out _ _ ?_ (fun hHeld => ?_)
      · exact ⟨HA, HB⟩
      clear hK K
      (try simp only [Act.put, List.getElem_toArray, List.getElem_cons_zero, List.getElem_cons_succ, List.setIfInBounds_toArray, List.set_cons_zero, List.set_cons_succ])
      refine wpAnyH_ready (rs := [9, 10, 11]) (by kernel_rfl) (by simp) ?_
      refine AllReadyH.cons rfl (fun K hK => ?_) (AllReadyH.cons rfl (fun K hK => ?_) (AllReadyH.cons rfl (fun K hK => ?_) AllReadyH.nil))
      · simp only [List.getElem_toArray, List.getElem_cons_zero, List.getElem_cons_succ]
        rw [if_pos (by rfl)]
        refine wp_alloc_op 34 (msC zMs (.slice none 0 0)) rfl Tryd.msZero (fun b6 u2 e6 H6 n6 => ?_)
        have lHA := HA.lt
        have lHB := HB.lt
        have lH5 := H5.lt
        rw [← e6] at lHA lHB lH5
        have e6' : b6 = u1.heap.size := e6
        replace HA := HA.kept (by rw [← e6']; exact n6)
        replace HB := HB.kept (by rw [← e6']; exact n6)
        replace H5 := H5.kept (by rw [← e6']; exact n6)
        replace HW := HW.trans (n6.mono (by omega))
        clear e6 e6' n6
        refine hK.out _ _ ?_ (fun hHeld => ?_)
        · exact ⟨HA, HB⟩
        clear hK K
        (try simp only [Act.put, List.getElem_toArray, List.getElem_cons_zero, List.getElem_cons_succ, List.setIfInBounds_toArray, List.set_cons_zero, List.set_cons_succ])
        refine wpAnyH_ready (rs := [10, 11]) (by kernel_rfl) (by simp) ?_
        refine AllReadyH.cons rfl (fun K hK => ?_) (AllReadyH.cons rfl (fun K hK => ?_) AllReadyH.nil)
        · simp only [List.getElem_toArray, List.getElem_cons_zero, List.getElem_cons_succ]
          rw [if_pos (by rfl)]
          refine wp_alloc_op 62 zLl0.toArray rfl Tryd.llZero (fun b7 u3 e7 H7 n7 => ?_)
          have lHA := HA.lt
          have lHB := HB.lt
          have lH5 := H5.lt
          have lH6 := H6.lt
          rw [← e7] at lHA lHB lH5 lH6
          have e7' : b7 = u2.heap.size := e7
          replace HA := HA.kept (by rw [← e7']; exact n7)
          replace HB := HB.kept (by rw [← e7']; exact n7)
          replace H5 := H5.kept (by rw [← e7']; exact n7)
          replace H6 := H6.kept (by rw [← e7']; exact n7)
          replace HW := HW.trans (n7.mono (by omega))
          clear e7 e7' n7
          refine hK.out _ _ ?_ (fun hHeld => ?_)
          · exact ⟨HA, HB⟩
          clear hK K
          (try simp only [Act.put, List.getElem_toArray, List.getElem_cons_zero, List.getElem_cons_succ, List.setIfInBounds_toArray, List.set_cons_zero, List.set_cons_succ])
          refine wpAnyH_ready (rs := [11]) (by kernel_rfl) (by simp) ?_
          refine AllReadyH.cons rfl (fun K hK => ?_) AllReadyH.nil
          · simp only [List.getElem_toArray, List.getElem_cons_zero, List.getElem_cons_succ]
            rw [if_pos (by rfl)]
            refine wp_alloc_op 62 zLl0.toArray rfl Tryd.llZero (fun b8 u4 e8 H8 n8 => ?_)
            have lHA := HA.lt
            have lHB := HB.lt
            have lH5 := H5.lt
            have lH6 := H6.lt
            have lH7 := H7.lt
            rw [← e8] at lHA lHB lH5 lH6 lH7
            have e8' : b8 = u3.heap.size := e8
            replace HA := HA.kept (by rw [← e8']; exact n8)
            replace HB := HB.kept (by rw [← e8']; exact n8)
            replace H5 := H5.kept (by rw [← e8']; exact n8)
            replace H6 := H6.kept (by rw [← e8']; exact n8)
            replace H7 := H7.kept (by rw [← e8']; exact n8)
            replace HW := HW.trans (n8.mono (by omega))
            clear e8 e8' n8
            refine hK.out _ _ ?_ (fun hHeld => ?_)
            · exact ⟨HA, HB⟩
            clear hK K
            (try simp only [Act.put, List.getElem_toArray, List.getElem_cons_zero, List.getElem_cons_succ, List.setIfInBounds_toArray, List.set_cons_zero, List.set_cons_succ])
            exact tail b5 b6 b7 b8 u4 ⟨HA, HB, H5, H6, H7, H8, HW, by omega, by omega⟩
        · simp only [List.getElem_toArray, List.getElem_cons_zero, List.getElem_cons_succ]
          rw [if_pos (by rfl)]
          refine wp_alloc_op 62 zLl0.toArray rfl Tryd.llZero (fun b8 u3 e8 H8 n8 => ?_)
          have lHA := HA.lt
          have lHB := HB.lt
          have lH5 := H5.lt
          have lH6 := H6.lt
          rw [← e8] at lHA lHB lH5 lH6
          have e8' : b8 = u2.heap.size := e8
          replace HA := HA.kept (by rw [← e8']; exact n8)
          replace HB := HB.kept (by rw [← e8']; exact n8)
          replace H5 := H5.kept (by rw [← e8']; exact n8)
          replace H6 := H6.kept (by rw [← e8']; exact n8)
          replace HW := HW.trans (n8.mono (by omega))
          clear e8 e8' n8
          refine hK.out _ _ ?_ (fun hHeld => ?_)
          · exact ⟨HA, HB⟩
          clear hK K
          (try simp only [Act.put, List.getElem_toArray, List.getElem_cons_zero, List.getElem_cons_succ, List.setIfInBounds_toArray, List.set_cons_zero, List.set_cons_succ])
          refine wpAnyH_ready (rs := [10]) (by kernel_rfl) (by simp) ?_
          refine AllReadyH.cons rfl (fun K hK => ?_) AllReadyH.nil
          · simp only [List.getElem_toArray, List.getElem_cons_zero, List.getElem_cons_succ]
            rw [if_pos (by rfl)]
            refine wp_alloc_op 62 zLl0.toArray rfl Tryd.llZero (fun b7 u4 e7 H7 n7 => ?_)
            have lHA := HA.lt
            have lHB := HB.lt
            have lH5 := H5.lt
            have lH6 := H6.lt
            have lH8 := H8.lt
            rw [← e7] at lHA lHB lH5 lH6 lH8
            have e7' : b7 = u3.heap.size := e7
            replace HA := HA.kept (by rw [← e7']; exact n7)
            replace HB := HB.kept (by rw [← e7']; exact n7)
            replace H5 := H5.kept (by rw [← e7']; exact n7)
            replace H6 := H6.kept (by rw [← e7']; exact n7)
            replace H8 := H8.kept (by rw [← e7']; exact n7)
            replace HW := HW.trans (n7.mono (by omega))
            clear e7 e7' n7
            refine hK.out _ _ ?_ (fun hHeld => ?_)
            · exact ⟨HA, HB⟩
            clear hK K
            (try simp only [Act.put, List.getElem_toArray, List.getElem_cons_zero, List.getElem_cons_succ, List.setIfInBounds_toArray, List.set_cons_zero, List.set_cons_succ])
            exact tail b5 b6 b7 b8 u4 ⟨HA, HB, H5, H6, H7, H8, HW, by omega, by omega⟩
      · simp only [List.getElem_toArray, List.getElem_cons_zero, List.getElem_cons_succ]
        rw [if_pos (by rfl)]
        refine wp_alloc_op 62 zLl0.toArray rfl Tryd.llZero (fun b7 u2 e7 H7 n7 => ?_)
        have lHA := HA.lt
        have lHB := HB.lt
        have lH5 := H5.lt
        rw [← e7] at lHA lHB lH5
        have e7' : b7 = u1.heap.size := e7
        replace HA := HA.kept (by rw [← e7']; exact n7)
        replace HB := HB.kept (by rw [← e7']; exact n7)
        replace H5 := H5.kept (by rw [← e7']; exact n7)
        replace HW := HW.trans (n7.mono (by omega))
        clear e7 e7' n7
        refine hK.out _ _ ?_ (fun hHeld => ?_)
        · exact ⟨HA, HB⟩
        clear hK K
        (try simp only [Act.put, List.getElem_toArray, List.getElem_cons_zero, List.getElem_cons_succ, List.setIfInBounds_toArray, List.set_cons_zero, List.set_cons_succ])
        refine wpAnyH_ready (rs := [9, 11]) (by kernel_rfl) (by simp) ?_
        refine AllReadyH.cons rfl (fun K hK => ?_) (AllReadyH.cons rfl (fun K hK => ?_) AllReadyH.nil)
        · simp only [List.getElem_toArray, List.getElem_cons_zero, List.getElem_cons_succ]
          rw [if_pos (by rfl)]
          refine wp_alloc_op 34 (msC zMs (.slice none 0 0)) rfl Tryd.msZero (fun b6 u3 e6 H6 n6 => ?_)
          have lHA := HA.lt
          have lHB := HB.lt
          have lH5 := H5.lt
          have lH7 := H7.lt
          rw [← e6] at lHA lHB lH5 lH7
          have e6' : b6 = u2.heap.size := e6
          replace HA := HA.kept (by rw [← e6']; exact n6)
          replace HB := HB.kept (by rw [← e6']; exact n6)
          replace H5 := H5.kept (by rw [← e6']; exact n6)
          replace H7 := H7.kept (by rw [← e6']; exact n6)
          replace HW := HW.trans (n6.mono (by omega))
          clear e6 e6' n6
          refine hK.out _ _ ?_ (fun hHeld => ?_)
          · exact ⟨HA, HB⟩
          clear hK K
          (try simp only [Act.put, List.getElem_toArray, List.getElem_cons_zero, List.getElem_cons_succ, List.setIfInBounds_toArray, List.set_cons_zero, List.set_cons_succ])
          refine wpAnyH_ready (rs := [11]) (by kernel_rfl) (by simp) ?_
          refine AllReadyH.cons rfl (fun K hK => ?_) AllReadyH.nil
          · simp only [List.getElem_toArray, List.getElem_cons_zero, List.getElem_cons_succ]
            rw [if_pos (by rfl)]
            refine wp_alloc_op 62 zLl0.toArray rfl Tryd.llZero (fun b8 u4 e8 H8 n8 => ?_)
            have lHA := HA.lt
            have lHB := HB.lt
            have lH5 := H5.lt
            have lH7 := H7.lt
            have lH6 := H6.lt
            rw [← e8] at lHA lHB lH5 lH7 lH6
            have e8' : b8 = u3.heap.size := e8
            replace HA := HA.kept (by rw [← e8']; exact n8)
            replace HB := HB.kept (by rw [← e8']; exact n8)
            replace H5 := H5.kept (by rw [← e8']; exact n8)
            replace H7 := H7.kept (by rw [← e8']; exact n8)
            replace H6 := H6.kept (by rw [← e8']; exact n8)
            replace HW := HW.trans (n8.mono (by omega))
            clear e8 e8' n8
            refine hK.out _ _ ?_ (fun hHeld => ?_)
            · exact ⟨HA, HB⟩
            clear hK K
            (try simp only [Act.put, List.getElem_toArray, List.getElem_cons_zero, List.getElem_cons_succ, List.setIfInBounds_toArray, List.set_cons_zero, List.set_cons_succ])
            exact tail b5 b6 b7 b8 u4 ⟨HA, HB, H5, H6, H7, H8, HW, by omega, by omega⟩
        · simp only [List.getElem_toArray, List.getElem_cons_zero, List.getElem_cons_succ]
          rw [if_pos (by rfl)]
          refine wp_alloc_op 62 zLl0.toArray rfl Tryd.llZero (fun b8 u3 e8 H8 n8 => ?_)
          have lHA := HA.lt
          have lHB := HB.lt
          have lH5 := H5.lt
          have lH7 := H7.lt
          rw [← e8] at lHA lHB lH5 lH7
          have e8' : b8 = u2.heap.size := e8
          replace HA := HA.kept (by rw [← e8']; exact n8)
          replace HB := HB.kept (by rw [← e8']; exact n8)
          replace H5 := H5.kept (by rw [← e8']; exact n8)
          replace H7 := H7.kept (by rw [← e8']; exact n8)
          replace HW := HW.trans (n8.mono (by omega))
          clear e8 e8' n8
          refine hK.out _ _ ?_ (fun hHeld => ?_)
          · exact ⟨HA, HB⟩
          clear hK K
          (try simp only [Act.put, List.getElem_toArray, List.getElem_cons_zero, List.getElem_cons_succ, List.setIfInBounds_toArray, List.set_cons_zero, List.set_cons_succ])
          refine wpAnyH_ready (rs := [9]) (by kernel_rfl) (by simp) ?_
          refine AllReadyH.cons rfl (fun K hK => ?_) AllReadyH.nil
          · simp only [List.getElem_toArray, List.getElem_cons_zero, List.getElem_cons_succ]
            rw [if_pos (by rfl)]
            refine wp_alloc_op 34 (msC zMs (.slice none 0 0)) rfl Tryd.msZero (fun b6 u4 e6 H6 n6 => ?_)
            have lHA := HA.lt
            have lHB := HB.lt
            have lH5 := H5.lt
            have lH7 := H7.lt
            have lH8 := H8.lt
            rw [← e6] at lHA lHB lH5 lH7 lH8
            have e6' : b6 = u3.heap.size := e6
            replace HA := HA.kept (by rw [← e6']; exact n6)
            replace HB := HB.kept (by rw [← e6']; exact n6)
            replace H5 := H5.kept (by rw [← e6']; exact n6)
            replace H7 := H7.kept (by rw [← e6']; exact n6)
            replace H8 := H8.kept (by rw [← e6']; exact n6)
            replace HW := HW.trans (n6.mono (by omega))
            clear e6 e6' n6
            refine hK.out _ _ ?_ (fun hHeld => ?_)
            · exact ⟨HA, HB⟩
            clear hK K
            (try simp only [Act.put, List.getElem_toArray, List.getElem_cons_zero, List.getElem_cons_succ, List.setIfInBounds_toArray, List.set_cons_zero, List.set_cons_succ])
            exact tail b5 b6 b7 b8 u4 ⟨HA, HB, H5, H6, H7, H8, HW, by omega, by omega⟩
      · simp only [List.getElem_toArray, List.getElem_cons_zero, List.getElem_cons_succ]
        rw [if_pos (by rfl)]
        refine wp_alloc_op 62 zLl0.toArray rfl Tryd.llZero (fun b8 u2 e8 H8 n8 => ?_)
        have lHA := HA.lt
        have lHB := HB.lt
        have lH5 := H5.lt
        rw [← e8] at lHA lHB lH5
        have e8' : b8 = u1.heap.size := e8
        replace HA := HA.kept (by rw [← e8']; exact n8)
        replace HB := HB.kept (by rw [← e8']; exact n8)
        replace H5 := H5.kept (by rw [← e8']; exact n8)
        replace HW := HW.trans (n8.mono (by omega))
        clear e8 e8' n8
        refine hK.out _ _ ?_ (fun hHeld => ?_)
        · exact ⟨HA, HB⟩
        clear hK K
        (try simp only [Act.put, List.getElem_toArray, List.getElem_cons_zero, List.getElem_cons_succ, List.setIfInBounds_toArray, List.set_cons_zero, List.set_cons_succ])
        refine wpAnyH_ready (rs := [9, 10]) (by kernel_rfl) (by simp) ?_
        refine AllReadyH.cons rfl (fun K hK => ?_) (AllReadyH.cons rfl (fun K hK => ?_) AllReadyH.nil)
        · simp only [List.getElem_toArray, List.getElem_cons_zero, List.getElem_cons_succ]
          rw [if_pos (by rfl)]
          refine wp_alloc_op 34 (msC zMs (.slice none 0 0)) rfl Tryd.msZero (fun b6 u3 e6 H6 n6 => ?_)
          have lHA := HA.lt
          have lHB := HB.lt
          have lH5 := H5.lt
          have lH8 := H8.lt
          rw [← e6] at lHA lHB lH5 lH8
          have e6' : b6 = u2.heap.size := e6
          replace HA := HA.kept (by rw [← e6']; exact n6)
          replace HB := HB.kept (by rw [← e6']; exact n6)
          replace H5 := H5.kept (by rw [← e6']; exact n6)
          replace H8 := H8.kept (by rw [← e6']; exact n6)
          replace HW := HW.trans (n6.mono (by omega))
          clear e6 e6' n6
          refine hK.out _ _ ?_ (fun hHeld => ?_)
          · exact ⟨HA, HB⟩
          clear hK K
          (try simp only [Act.put, List.getElem_toArray, List.getElem_cons_zero, List.getElem_cons_succ, List.setIfInBounds_toArray, List.set_cons_zero, List.set_cons_succ])
          refine wpAnyH_ready (rs := [10]) (by kernel_rfl) (by simp) ?_
          refine AllReadyH.cons rfl (fun K hK => ?_) AllReadyH.nil
          · simp only [List.getElem_toArray, List.getElem_cons_zero, List.getElem_cons_succ]
            rw [if_pos (by rfl)]
            refine wp_alloc_op 62 zLl0.toArray rfl Tryd.llZero (fun b7 u4 e7 H7 n7 => ?_)
            have lHA := HA.lt
            have lHB := HB.lt
            have lH5 := H5.lt
            have lH8 := H8.lt
            have lH6 := H6.lt
            rw [← e7] at lHA lHB lH5 lH8 lH6
            have e7' : b7 = u3.heap.size := e7
            replace HA := HA.kept (by rw [← e7']; exact n7)
            replace HB := HB.kept (by rw [← e7']; exact n7)
            replace H5 := H5.kept (by rw [← e7']; exact n7)
            replace H8 := H8.kept (by rw [← e7']; exact n7)
            replace H6 := H6.kept (by rw [← e7']; exact n7)
            replace HW := HW.trans (n7.mono (by omega))
            clear e7 e7' n7
            refine hK.out _ _ ?_ (fun hHeld => ?_)
            · exact ⟨HA, HB⟩
            clear hK K
            (try simp only [Act.put, List.getElem_toArray, List.getElem_cons_zero, List.getElem_cons_succ, List.setIfInBounds_toArray, List.set_cons_zero, List.set_cons_succ])
            exact tail b5 b6 b7 b8 u4 ⟨HA, HB, H5, H6, H7, H8, HW, by omega, by omega⟩
        · simp only [List.getElem_toArray, List.getElem_cons_zero, List.getElem_cons_succ]
          rw [if_pos (by rfl)]
          refine wp_alloc_op 62 zLl0.toArray rfl Tryd.llZero (fun b7 u3 e7 H7 n7 => ?_)
          have lHA := HA.lt
          have lHB := HB.lt
          have lH5 := H5.lt
          have lH8 := H8.lt
          rw [← e7] at lHA lHB lH5 lH8
          have e7' : b7 = u2.heap.size := e7
          replace HA := HA.kept (by rw [← e7']; exact n7)
          replace HB := HB.kept (by rw [← e7']; exact n7)
          replace H5 := H5.kept (by rw [← e7']; exact n7)
          replace H8 := H8.kept (by rw [← e7']; exact n7)
          replace HW := HW.trans (n7.mono (by omega))
          clear e7 e7' n7
          refine hK.out _ _ ?_ (fun hHeld => ?_)
          · exact ⟨HA, HB⟩
          clear hK K
          (try simp only [Act.put, List.getElem_toArray, List.getElem_cons_zero, List.getElem_cons_succ, List.setIfInBounds_toArray, List.set_cons_zero, List.set_cons_succ])
          refine wpAnyH_ready (rs := [9]) (by kernel_rfl) (by simp) ?_
          refine AllReadyH.cons rfl (fun K hK => ?_) AllReadyH.nil
          · simp only [List.getElem_toArray, List.getElem_cons_zero, List.getElem_cons_succ]
            rw [if_pos (by rfl)]
            refine wp_alloc_op 34 (msC zMs (.slice none 0 0)) rfl Tryd.msZero (fun b6 u4 e6 H6 n6 => ?_)
            have lHA := HA.lt
            have lHB := HB.lt
            have lH5 := H5.lt
            have lH8 := H8.lt
            have lH7 := H7.lt
            rw [← e6] at lHA lHB lH5 lH8 lH7
            have e6' : b6 = u3.heap.size := e6
            replace HA := HA.kept (by rw [← e6']; exact n6)
            replace HB := HB.kept (by rw [← e6']; exact n6)
            replace H5 := H5.kept (by rw [← e6']; exact n6)
            replace H8 := H8.kept (by rw [← e6']; exact n6)
            replace H7 := H7.kept (by rw [← e6']; exact n6)
            replace HW := HW.trans (n6.mono (by omega))
            clear e6 e6' n6
            refine hK.out _ _ ?_ (fun hHeld => ?_)
            · exact ⟨HA, HB⟩
            clear hK K
            (try simp only [Act.put, List.getElem_toArray, List.getElem_cons_zero, List.getElem_cons_succ, List.setIfInBounds_toArray, List.set_cons_zero, List.set_cons_succ])
            exact tail b5 b6 b7 b8 u4 ⟨HA, HB, H5, H6, H7, H8, HW, by omega, by omega⟩
    · simp only [List.getElem_toArray, List.getElem_cons_zero, List.getElem_cons_succ]
      rw [if_pos (by rfl)]
      refine wp_alloc_op 34 (msC zMs (.slice none 0 0)) rfl Tryd.msZero (fun b6 u1 e6 H6 n6 => ?_)
      have lHA := HA.lt
      have lHB := HB.lt
      rw [← e6] at lHA lHB
      have e6' : b6 = w3.heap.size := e6
      replace HA := HA.kept (by rw [← e6']; exact n6)
      replace HB := HB.kept (by rw [← e6']; exact n6)
      replace HW := HW.trans (n6.mono (by omega))
      clear e6 e6' n6
      refine hK.out _ _ ?_ (fun hHeld => ?_)
      · exact ⟨HA, HB⟩
      clear hK K
      (try simp only [Act.put, List.getElem_toArray, List.getElem_cons_zero, List.getElem_cons_succ, List.setIfInBounds_toArray, List.set_cons_zero, List.set_cons_succ])
      refine wpAnyH_ready (rs := [8, 10, 11]) (by kernel_rfl) (by simp) ?_
      refine AllReadyH.cons rfl (fun K hK => ?_) (AllReadyH.cons rfl (fun K hK => ?_) (AllReadyH.cons rfl (fun K hK => ?_) AllReadyH.nil))
      · simp only [List.getElem_toArray, List.getElem_cons_zero, List.getElem_cons_succ]
        rw [if_pos (by rfl)]
        refine wp_alloc_op 34 (msC zMs (.slice none 0 0)) rfl Tryd.msZero (fun b5 u2 e5 H5 n5 => ?_)
        have lHA := HA.lt
        have lHB := HB.lt
        have lH6 := H6.lt
        rw [← e5] at lHA lHB lH6
        have e5' : b5 = u1.heap.size := e5
        replace HA := HA.kept (by rw [← e5']; exact n5)
        replace HB := HB.kept (by rw [← e5']; exact n5)
        replace H6 := H6.kept (by rw [← e5']; exact n5)
        replace HW := HW.trans (n5.mono (by omega))
        clear e5 e5' n5
        refine hK.out _ _ ?_ (fun hHeld => ?_)
        · exact ⟨HA, HB⟩
        clear hK K
        (try simp only [Act.put, List.getElem_toArray, List.getElem_cons_zero, List.getElem_cons_succ, List.setIfInBounds_toArray, List.set_cons_zero, List.set_cons_succ])
        refine wpAnyH_ready (rs := [10, 11]) (by kernel_rfl) (by simp) ?_
        refine AllReadyH.cons rfl (fun K hK => ?_) (AllReadyH.cons rfl (fun K hK => ?_) AllReadyH.nil)
        · simp only [List.getElem_toArray, List.getElem_cons_zero, List.getElem_cons_succ]
          rw [if_pos (by rfl)]
          refine wp_alloc_op 62 zLl0.toArray rfl Tryd.llZero (fun b7 u3 e7 H7 n7 => ?_)
          have lHA := HA.lt
          have lHB := HB.lt
          have lH6 := H6.lt
          have lH5 := H5.lt
          rw [← e7] at lHA lHB lH6 lH5
          have e7' : b7 = u2.heap.size := e7
          replace HA := HA.kept (by rw [← e7']; exact n7)
          replace HB := HB.kept (by rw [← e7']; exact n7)
          replace H6 := H6.kept (by rw [← e7']; exact n7)
          replace H5 := H5.kept (by rw [← e7']; exact n7)
          replace HW := HW.trans (n7.mono (by omega))
          clear e7 e7' n7
          refine hK.out _ _ ?_ (fun hHeld => ?_)
          · exact ⟨HA, HB⟩
          clear hK K
          (try simp only [Act.put, List.getElem_toArray, List.getElem_cons_zero, List.getElem_cons_succ, List.setIfInBounds_toArray, List.set_cons_zero, List.set_cons_succ])
          refine wpAnyH_ready (rs := [11]) (by kernel_rfl) (by simp) ?_
          refine AllReadyH.cons rfl (fun K hK => ?_) AllReadyH.nil
          · simp only [List.getElem_toArray, List.getElem_cons_zero, List.getElem_cons_succ]
            rw [if_pos (by rfl)]
            refine wp_alloc_op 62 zLl0.toArray rfl Tryd.llZero (fun b8 u4 e8 H8 n8 => ?_)
            have lHA := HA.lt
            have lHB := HB.lt
            have lH6 := H6.lt
            have lH5 := H5.lt
            have lH7 := H7.lt
            rw [← e8] at lHA lHB lH6 lH5 lH7
            have e8' : b8 = u3.heap.size := e8
            replace HA := HA.kept (by rw [← e8']; exact n8)
            replace HB := HB.kept (by rw [← e8']; exact n8)
            replace H6 := H6.kept (by rw [← e8']; exact n8)
            replace H5 := H5.kept (by rw [← e8']; exact n8)
            replace H7 := H7.kept (by rw [← e8']; exact n8)
            replace HW := HW.trans (n8.mono (by omega))
            clear e8 e8' n8
            refine hK.out _ _ ?_ (fun hHeld => ?_)
            · exact ⟨HA, HB⟩
            clear hK K
            (try simp only [Act.put, List.getElem_toArray, List.getElem_cons_zero, List.getElem_cons_succ, List.setIfInBounds_toArray, List.set_cons_zero, List.set_cons_succ])
            exact tail b5 b6 b7 b8 u4 ⟨HA, HB, H5, H6, H7, H8, HW, by omega, by omega⟩
        · simp only [List.getElem_toArray, List.getElem_cons_zero, List.getElem_cons_succ]
          rw [if_pos (by rfl)]
          refine wp_alloc_op 62 zLl0.toArray rfl Tryd.llZero (fun b8 u3 e8 H8 n8 => ?_)
          have lHA := HA.lt
          have lHB := HB.lt
          have lH6 := H6.lt
          have lH5 := H5.lt
          rw [← e8] at lHA lHB lH6 lH5
          have e8' : b8 = u2.heap.size := e8
          replace HA := HA.kept (by rw [← e8']; exact n8)
          replace HB := HB.kept (by rw [← e8']; exact n8)
          replace H6 := H6.kept (by rw [← e8']; exact n8)
          replace H5 := H5.kept (by rw [← e8']; exact n8)
          replace HW := HW.trans (n8.mono (by omega))
          clear e8 e8' n8
          refine hK.out _ _ ?_ (fun hHeld => ?_)
          · exact ⟨HA, HB⟩
          clear hK K
          (try simp only [Act.put, List.getElem_toArray, List.getElem_cons_zero, List.getElem_cons_succ, List.setIfInBounds_toArray, List.set_cons_zero, List.set_cons_succ])
          refine wpAnyH_ready (rs := [10]) (by kernel_rfl) (by simp) ?_
          refine AllReadyH.cons rfl (fun K hK => ?_) AllReadyH.nil
          · simp only [List.getElem_toArray, List.getElem_cons_zero, List.getElem_cons_succ]
            rw [if_pos (by rfl)]
            refine wp_alloc_op 62 zLl0.toArray rfl Tryd.llZero (fun b7 u4 e7 H7 n7 => ?_)
            have lHA := HA.lt
            have lHB := HB.lt
            have lH6 := H6.lt
            have lH5 := H5.lt
            have lH8 := H8.lt
            rw [← e7] at lHA lHB lH6 lH5 lH8
            have e7' : b7 = u3.heap.size := e7
            replace HA := HA.kept (by rw [← e7']; exact n7)
            replace HB := HB.kept (by rw [← e7']; exact n7)
            replace H6 := H6.kept (by rw [← e7']; exact n7)
            replace H5 := H5.kept (by rw [← e7']; exact n7)
            replace H8 := H8.kept (by rw [← e7']; exact n7)
            replace HW := HW.trans (n7.mono (by omega))
            clear e7 e7' n7
            refine hK.out _ _ ?_ (fun hHeld => ?_)
            · exact ⟨HA, HB⟩
            clear hK K
            (try simp only [Act.put, List.getElem_toArray, List.getElem_cons_zero, List.getElem_cons_succ, List.setIfInBounds_toArray, List.set_cons_zero, List.set_cons_succ])
            exact tail b5 b6 b7 b8 u4 ⟨HA, HB, H5, H6, H7, H8, HW, by omega, by omega⟩
      · simp only [List.getElem_toArray, List.getElem_cons_zero, List.getElem_cons_succ]
        rw [if_pos (by rfl)]
        refine wp_alloc_op 62 zLl0.toArray rfl Tryd.llZero (fun b7 u2 e7 H7 n7 => ?_)
        have lHA := HA.lt
        have lHB := HB.lt
        have lH6 := H6.lt
        rw [← e7] at lHA lHB lH6
        have e7' : b7 = u1.heap.size := e7
        replace HA := HA.kept (by rw [← e7']; exact n7)
        replace HB := HB.kept (by rw [← e7']; exact n7)
        replace H6 := H6.kept (by rw [← e7']; exact n7)
        replace HW := HW.trans (n7.mono (by omega))
        clear e7 e7' n7
        refine hK.out _ _ ?_ (fun hHeld => ?_)
        · exact ⟨HA, HB⟩
        clear hK K
        (try simp only [Act.put, List.getElem_toArray, List.getElem_cons_zero, List.getElem_cons_succ, List.setIfInBounds_toArray, List.set_cons_zero, List.set_cons_succ])
        refine wpAnyH_ready (rs := [8, 11]) (by kernel_rfl) (by simp) ?_
        refine AllReadyH.cons rfl (fun K hK => ?_) (AllReadyH.cons rfl (fun K hK => ?_) AllReadyH.nil)
        · simp only [List.getElem_toArray, List.getElem_cons_zero, List.getElem_cons_succ]
          rw [if_pos (by rfl)]
          refine wp_alloc_op 34 (msC zMs (.slice none 0 0)) rfl Tryd.msZero (fun b5 u3 e5 H5 n5 => ?_)
          have lHA := HA.lt
          have lHB := HB.lt
          have lH6 := H6.lt
          have lH7 := H7.lt
          rw [← e5] at lHA lHB lH6 lH7
          have e5' : b5 = u2.heap.size := e5
          replace HA := HA.kept (by rw [← e5']; exact n5)
          replace HB := HB.kept (by rw [← e5']; exact n5)
          replace H6 := H6.kept (by rw [← e5']; exact n5)
          replace H7 := H7.kept (by rw [← e5']; exact n5)
          replace HW := HW.trans (n5.mono (by omega))
          clear e5 e5' n5
          refine hK.out _ _ ?_ (fun hHeld => ?_)
          · exact ⟨HA, HB⟩
          clear hK K
          (try simp only [Act.put, List.getElem_toArray, List.getElem_cons_zero, List.getElem_cons_succ, List.setIfInBounds_toArray, List.set_cons_zero, List.set_cons_succ])
          refine wpAnyH_ready (rs := [11]) (by kernel_rfl) (by simp) ?_
          refine AllReadyH.cons rfl (fun K hK => ?_) AllReadyH.nil
          · simp only [List.getElem_toArray, List.getElem_cons_zero, List.getElem_cons_succ]
            rw [if_pos (by rfl)]
            refine wp_alloc_op 62 zLl0.toArray rfl Tryd.llZero (fun b8 u4 e8 H8 n8 => ?_)
            have lHA := HA.lt
            have lHB := HB.lt
            have lH6 := H6.lt
            have lH7 := H7.lt
            have lH5 := H5.lt
            rw [← e8] at lHA lHB lH6 lH7 lH5
            have e8' : b8 = u3.heap.size := e8
            replace HA := HA.kept (by rw [← e8']; exact n8)
            replace HB := HB.kept (by rw [← e8']; exact n8)
            replace H6 := H6.kept (by rw [← e8']; exact n8)
            replace H7 := H7.kept (by rw [← e8']; exact n8)
            replace H5 := H5.kept (by rw [← e8']; exact n8)
            replace HW := HW.trans (n8.mono (by omega))
            clear e8 e8' n8
            refine hK.out _ _ ?_ (fun hHeld => ?_)
            · exact ⟨HA, HB⟩
            clear hK K
            (try simp only [Act.put, List.getElem_toArray, List.getElem_cons_zero, List.getElem_cons_succ, List.setIfInBounds_toArray, List.set_cons_zero, List.set_cons_succ])
            exact tail b5 b6 b7 b8 u4 ⟨HA, HB, H5, H6, H7, H8, HW, by omega, by omega⟩
        · simp only [List.getElem_toArray, List.getElem_cons_zero, List.getElem_cons_succ]
          rw [if_pos (by rfl)]
          refine wp_alloc_op 62 zLl0.toArray rfl Tryd.llZero (fun b8 u3 e8 H8 n8 => ?_)
          have lHA := HA.lt
          have lHB := HB.lt
          have lH6 := H6.lt
          have lH7 := H7.lt
          rw [← e8] at lHA lHB lH6 lH7
          have e8' : b8 = u2.heap.size := e8
          replace HA := HA.kept (by rw [← e8']; exact n8)
          replace HB := HB.kept (by rw [← e8']; exact n8)
          replace H6 := H6.kept (by rw [← e8']; exact n8)
          replace H7 := H7.kept (by rw [← e8']; exact n8)
          replace HW := HW.trans (n8.mono (by omega))
          clear e8 e8' n8
          refine hK.out _ _ ?_ (fun hHeld => ?_)
          · exact ⟨HA, HB⟩
          clear hK K
          (try simp only [Act.put, List.getElem_toArray, List.getElem_cons_zero, List.getElem_cons_succ, List.setIfInBounds_toArray, List.set_cons_zero, List.set_cons_succ])
          refine wpAnyH_ready (rs := [8]) (by kernel_rfl) (by simp) ?_
          refine AllReadyH.cons rfl (fun K hK => ?_) AllReadyH.nil
          · simp only [List.getElem_toArray, List.getElem_cons_zero, List.getElem_cons_succ]
            rw [if_pos (by rfl)]
            refine wp_alloc_op 34 (msC zMs (.slice none 0 0)) rfl Tryd.msZero (fun b5 u4 e5 H5 n5 => ?_)
            have lHA := HA.lt
            have lHB := HB.lt
            have lH6 := H6.lt
            have lH7 := H7.lt
            have lH8 := H8.lt
            rw [← e5] at lHA lHB lH6 lH7 lH8
            have e5' : b5 = u3.heap.size := e5
            replace HA := HA.kept (by rw [← e5']; exact n5)
            replace HB := HB.kept (by rw [← e5']; exact n5)
            replace H6 := H6.kept (by rw [← e5']; exact n5)
            replace H7 := H7.kept (by rw [← e5']; exact n5)
            replace H8 := H8.kept (by rw [← e5']; exact n5)
            replace HW := HW.trans (n5.mono (by omega))
            clear e5 e5' n5
            refine hK.out _ _ ?_ (fun hHeld => ?_)
            · exact ⟨HA, HB⟩
            clear hK K
            (try simp only [Act.put, List.getElem_toArray, List.getElem_cons_zero, List.getElem_cons_succ, List.setIfInBounds_toArray, List.set_cons_zero, List.set_cons_succ])
            exact tail b5 b6 b7 b8 u4 ⟨HA, HB, H5, H6, H7, H8, HW, by omega, by omega⟩
      · simp only [List.getElem_toArray, List.getElem_cons_zero, List.getElem_cons_succ]
        rw [if_pos (by rfl)]
        refine wp_alloc_op 62 zLl0.toArray rfl Tryd.llZero (fun b8 u2 e8 H8 n8 => ?_)
        have lHA := HA.lt
        have lHB := HB.lt
        have lH6 := H6.lt
        rw [← e8] at lHA lHB lH6
        have e8' : b8 = u1.heap.size := e8
        replace HA := HA.kept (by rw [← e8']; exact n8)
        replace HB := HB.kept (by rw [← e8']; exact n8)
        replace H6 := H6.kept (by rw [← e8']; exact n8)
        replace HW := HW.trans (n8.mono (by omega))
        clear e8 e8' n8
        refine hK.out _ _ ?_ (fun hHeld => ?_)
        · exact ⟨HA, HB⟩
        clear hK K
        (try simp only [Act.put, List.getElem_toArray, List.getElem_cons_zero, List.getElem_cons_succ, List.setIfInBounds_toArray, List.set_cons_zero, List.set_cons_succ])
        refine wpAnyH_ready (rs := [8, 10]) (by kernel_rfl) (by simp) ?_
        refine AllReadyH.cons rfl (fun K hK => ?_) (AllReadyH.cons rfl (fun K hK => ?_) AllReadyH.nil)
        · simp only [List.getElem_toArray, List.getElem_cons_zero, List.getElem_cons_succ]
          rw [if_pos (by rfl)]
          refine wp_alloc_op 34 (msC zMs (.slice none 0 0)) rfl Tryd.msZero (fun b5 u3 e5 H5 n5 => ?_)
          have lHA := HA.lt
          have lHB := HB.lt
          have lH6 := H6.lt
          have lH8 := H8.lt
          rw [← e5] at lHA lHB lH6 lH8
          have e5' : b5 = u2.heap.size := e5
          replace HA := HA.kept (by rw [← e5']; exact n5)
          replace HB := HB.kept (by rw [← e5']; exact n5)
          replace H6 := H6.kept (by rw [← e5']; exact n5)
          replace H8 := H8.kept (by rw [← e5']; exact n5)
          replace HW := HW.trans (n5.mono (by omega))
          clear e5 e5' n5
          refine hK.out _ _ ?_ (fun hHeld => ?_)
          · exact ⟨HA, HB⟩
          clear hK K
          (try simp only [Act.put, List.getElem_toArray, List.getElem_cons_zero, List.getElem_cons_succ, List.setIfInBounds_toArray, List.set_cons_zero, List.set_cons_succ])
          refine wpAnyH_ready (rs := [10]) (by kernel_rfl) (by simp) ?_
          refine AllReadyH.cons rfl (fun K hK => ?_) AllReadyH.nil
          · simp only [List.getElem_toArray, List.getElem_cons_zero, List.getElem_cons_succ]
            rw [if_pos (by rfl)]
            refine wp_alloc_op 62 zLl0.toArray rfl Tryd.llZero (fun b7 u4 e7 H7 n7 => ?_)
            have lHA := HA.lt
            have lHB := HB.lt
            have lH6 := H6.lt
            have lH8 := H8.lt
            have lH5 := H5.lt
            rw [← e7] at lHA lHB lH6 lH8 lH5
            have e7' : b7 = u3.heap.size := e7
            replace HA := HA.kept (by rw [← e7']; exact n7)
            replace HB := HB.kept (by rw [← e7']; exact n7)
            replace H6 := H6.kept (by rw [← e7']; exact n7)
            replace H8 := H8.kept (by rw [← e7']; exact n7)
            replace H5 := H5.kept (by rw [← e7']; exact n7)
            replace HW := HW.trans (n7.mono (by omega))
            clear e7 e7' n7
            refine hK.out _ _ ?_ (fun hHeld => ?_)
            · exact ⟨HA, HB⟩
            clear hK K
            (try simp only [Act.put, List.getElem_toArray, List.getElem_cons_zero, List.getElem_cons_succ, List.setIfInBounds_toArray, List.set_cons_zero, List.set_cons_succ])
            exact tail b5 b6 b7 b8 u4 ⟨HA, HB, H5, H6, H7, H8, HW, by omega, by omega⟩
        · simp only [List.getElem_toArray, List.getElem_cons_zero, List.getElem_cons_succ]
          rw [if_pos (by rfl)]
          refine wp_alloc_op 62 zLl0.toArray rfl Tryd.llZero (fun b7 u3 e7 H7 n7 => ?_)
          have lHA := HA.lt
          have lHB := HB.lt
          have lH6 := H6.lt
          have lH8 := H8.lt
          rw [← e7] at lHA lHB lH6 lH8
          have e7' : b7 = u2.heap.size := e7
          replace HA := HA.kept (by rw [← e7']; exact n7)
          replace HB := HB.kept (by rw [← e7']; exact n7)
          replace H6 := H6.kept (by rw [← e7']; exact n7)
          replace H8 := H8.kept (by rw [← e7']; exact n7)
          replace HW := HW.trans (n7.mono (by omega))
          clear e7 e7' n7
          refine hK.out _ _ ?_ (fun hHeld => ?_)
          · exact ⟨HA, HB⟩
          clear hK K
          (try simp only [Act.put, List.getElem_toArray, List.getElem_cons_zero, List.getElem_cons_succ, List.setIfInBounds_toArray, List.set_cons_zero, List.set_cons_succ])
          refine wpAnyH_ready (rs := [8]) (by kernel_rfl) (by simp) ?_
          refine AllReadyH.cons rfl (fun K hK => ?_) AllReadyH.nil
          · simp only [List.getElem_toArray, List.getElem_cons_zero, List.getElem_cons_succ]
            rw [if_pos (by rfl)]
            refine wp_alloc_op 34 (msC zMs (.slice none 0 0)) rfl Tryd.msZero (fun b5 u4 e5 H5 n5 => ?_)
            have lHA := HA.lt
            have lHB := HB.lt
            have lH6 := H6.lt
            have lH8 := H8.lt
            have lH7 := H7.lt
            rw [← e5] at lHA lHB lH6 lH8 lH7
            have e5' : b5 = u3.heap.size := e5
            replace HA := HA.kept (by rw [← e5']; exact n5)
            replace HB := HB.kept (by rw [← e5']; exact n5)
            replace H6 := H6.kept (by rw [← e5']; exact n5)
            replace H8 := H8.kept (by rw [← e5']; exact n5)
            replace H7 := H7.kept (by rw [← e5']; exact n5)
            replace HW := HW.trans (n5.mono (by omega))
            clear e5 e5' n5
            refine hK.out _ _ ?_ (fun hHeld => ?_)
            · exact ⟨HA, HB⟩
            clear hK K
            (try simp only [Act.put, List.getElem_toArray, List.getElem_cons_zero, List.getElem_cons_succ, List.setIfInBounds_toArray, List.set_cons_zero, List.set_cons_succ])
            exact tail b5 b6 b7 b8 u4 ⟨HA, HB, H5, H6, H7, H8, HW, by omega, by omega⟩
    · simp only [List.getElem_toArray, List.getElem_cons_zero, List.getElem_cons_succ]
      rw [if_pos (by rfl)]
      refine wp_alloc_op 62 zLl0.toArray rfl Tryd.llZero (fun b7 u1 e7 H7 n7 => ?_)
      have lHA := HA.lt
      have lHB := HB.lt
      rw [← e7] at lHA lHB
      have e7' : b7 = w3.heap.size := e7
      replace HA := HA.kept (by rw [← e7']; exact n7)
      replace HB := HB.kept (by rw [← e7']; exact n7)
      replace HW := HW.trans (n7.mono (by omega))
      clear e7 e7' n7
      refine hK.out _ _ ?_ (fun hHeld => ?_)
      · exact ⟨HA, HB⟩
      clear hK K
      (try simp only [Act.put, List.getElem_toArray, List.getElem_cons_zero, List.getElem_cons_succ, List.setIfInBounds_toArray, List.set_cons_zero, List.set_cons_succ])
      refine wpAnyH_ready (rs := [8, 9, 11]) (by kernel_rfl) (by simp) ?_
      refine AllReadyH.cons rfl (fun K hK => ?_) (AllReadyH.cons rfl (fun K hK => ?_) (AllReadyH.cons rfl (fun K hK => ?_) AllReadyH.nil))
      · simp only [List.getElem_toArray, List.getElem_cons_zero, List.getElem_cons_succ]
        rw [if_pos (by rfl)]
        refine wp_alloc_op 34 (msC zMs (.slice none 0 0)) rfl Tryd.msZero (fun b5 u2 e5 H5 n5 => ?_)
        have lHA := HA.lt
        have lHB := HB.lt
        have lH7 := H7.lt
        rw [← e5] at lHA lHB lH7
        have e5' : b5 = u1.heap.size := e5
        replace HA := HA.kept (by rw [← e5']; exact n5)
        replace HB := HB.kept (by rw [← e5']; exact n5)
        replace H7 := H7.kept (by rw [← e5']; exact n5)
        replace HW := HW.trans (n5.mono (by omega))
        clear e5 e5' n5
        refine hK.out _ _ ?_ (fun hHeld => ?_)
        · exact ⟨HA, HB⟩
        clear hK K
        (try simp only [Act.put, List.getElem_toArray, List.getElem_cons_zero, List.getElem_cons_succ, List.setIfInBounds_toArray, List.set_cons_zero, List.set_cons_succ])
        refine wpAnyH_ready (rs := [9, 11]) (by kernel_rfl) (by simp) ?_
        refine AllReadyH.cons rfl (fun K hK => ?_) (AllReadyH.cons rfl (fun K hK => ?_) AllReadyH.nil)
        · simp only [List.getElem_toArray, List.getElem_cons_zero, List.getElem_cons_succ]
          rw [if_pos (by rfl)]
          refine wp_alloc_op 34 (msC zMs (.slice none 0 0)) rfl Tryd.msZero (fun b6 u3 e6 H6 n6 => ?_)
          have lHA := HA.lt
          have lHB := HB.lt
          have lH7 := H7.lt
          have lH5 := H5.lt
          rw [← e6] at lHA lHB lH7 lH5
          have e6' : b6 = u2.heap.size := e6
          replace HA := HA.kept (by rw [← e6']; exact n6)
          replace HB := HB.kept (by rw [← e6']; exact n6)
          replace H7 := H7.kept (by rw [← e6']; exact n6)
          replace H5 := H5.kept (by rw [← e6']; exact n6)
          replace HW := HW.trans (n6.mono (by omega))
          clear e6 e6' n6
          refine hK.out _ _ ?_ (fun hHeld => ?_)
          · exact ⟨HA, HB⟩
          clear hK K
          (try simp only [Act.put, List.getElem_toArray, List.getElem_cons_zero, List.getElem_cons_succ, List.setIfInBounds_toArray, List.set_cons_zero, List.set_cons_succ])
          refine wpAnyH_ready (rs := [11]) (by kernel_rfl) (by simp) ?_
          refine AllReadyH.cons rfl (fun K hK => ?_) AllReadyH.nil
          · simp only [List.getElem_toArray, List.getElem_cons_zero, List.getElem_cons_succ]
            rw [if_pos (by rfl)]
            refine wp_alloc_op 62 zLl0.toArray rfl Tryd.llZero (fun b8 u4 e8 H8 n8 => ?_)
            have lHA := HA.lt
            have lHB := HB.lt
            have lH7 := H7.lt
            have lH5 := H5.lt
            have lH6 := H6.lt
            rw [← e8] at lHA lHB lH7 lH5 lH6
            have e8' : b8 = u3.heap.size := e8
            replace HA := HA.kept (by rw [← e8']; exact n8)
            replace HB := HB.kept (by rw [← e8']; exact n8)
            replace H7 := H7.kept (by rw [← e8']; exact n8)
            replace H5 := H5.kept (by rw [← e8']; exact n8)
            replace H6 := H6.kept (by rw [← e8']; exact n8)
            replace HW := HW.trans (n8.mono (by omega))
            clear e8 e8' n8
            refine hK.out _ _ ?_ (fun hHeld => ?_)
            · exact ⟨HA, HB⟩
            clear hK K
            (try simp only [Act.put, List.getElem_toArray, List.getElem_cons_zero, List.getElem_cons_succ, List.setIfInBounds_toArray, List.set_cons_zero, List.set_cons_succ])
            exact tail b5 b6 b7 b8 u4 ⟨HA, HB, H5, H6, H7, H8, HW, by omega, by omega⟩
        · simp only [List.getElem_toArray, List.getElem_cons_zero, List.getElem_cons_succ]
          rw [if_pos (by rfl)]
          refine wp_alloc_op 62 zLl0.toArray rfl Tryd.llZero (fun b8 u3 e8 H8 n8 => ?_)
          have lHA := HA.lt
          have lHB := HB.lt
          have lH7 := H7.lt
          have lH5 := H5.lt
          rw [← e8] at lHA lHB lH7 lH5
          have e8' : b8 = u2.heap.size := e8
          replace HA := HA.kept (by rw [← e8']; exact n8)
          replace HB := HB.kept (by rw [← e8']; exact n8)
          replace H7 := H7.kept (by rw [← e8']; exact n8)
          replace H5 := H5.kept (by rw [← e8']; exact n8)
          replace HW := HW.trans (n8.mono (by omega))
          clear e8 e8' n8
          refine hK.out _ _ ?_ (fun hHeld => ?_)
          · exact ⟨HA, HB⟩
          clear hK K
          (try simp only [Act.put, List.getElem_toArray, List.getElem_cons_zero, List.getElem_cons_succ, List.setIfInBounds_toArray, List.set_cons_zero, List.set_cons_succ])
          refine wpAnyH_ready (rs := [9]) (by kernel_rfl) (by simp) ?_
          refine AllReadyH.cons rfl (fun K hK => ?_) AllReadyH.nil
          · simp only [List.getElem_toArray, List.getElem_cons_zero, List.getElem_cons_succ]
            rw [if_pos (by rfl)]
            refine wp_alloc_op 34 (msC zMs (.slice none 0 0)) rfl Tryd.msZero (fun b6 u4 e6 H6 n6 => ?_)
            have lHA := HA.lt
            have lHB := HB.lt
            have lH7 := H7.lt
            have lH5 := H5.lt
            have lH8 := H8.lt
            rw [← e6] at lHA lHB lH7 lH5 lH8
            have e6' : b6 = u3.heap.size := e6
            replace HA := HA.kept (by rw [← e6']; exact n6)
            replace HB := HB.kept (by rw [← e6']; exact n6)
            replace H7 := H7.kept (by rw [← e6']; exact n6)
            replace H5 := H5.kept (by rw [← e6']; exact n6)
            replace H8 := H8.kept (by rw [← e6']; exact n6)
            replace HW := HW.trans (n6.mono (by omega))
            clear e6 e6' n6
            refine hK.out _ _ ?_ (fun hHeld => ?_)
            · exact ⟨HA, HB⟩
            clear hK K
            (try simp only [Act.put, List.getElem_toArray, List.getElem_cons_zero, List.getElem_cons_succ, List.setIfInBounds_toArray, List.set_cons_zero, List.set_cons_succ])
            exact tail b5 b6 b7 b8 u4 ⟨HA, HB, H5, H6, H7, H8, HW, by omega, by omega⟩
      · simp only [List.getElem_toArray, List.getElem_cons_zero, List.getElem_cons_succ]
        rw [if_pos (by rfl)]
        refine wp_alloc_op 34 (msC zMs (.slice none 0 0)) rfl Tryd.msZero (fun b6 u2 e6 H6 n6 => ?_)
        have lHA := HA.lt
        have lHB := HB.lt
        have lH7 := H7.lt
        rw [← e6] at lHA lHB lH7
        have e6' : b6 = u1.heap.size := e6
        replace HA := HA.kept (by rw [← e6']; exact n6)
        replace HB := HB.kept (by rw [← e6']; exact n6)
        replace H7 := H7.kept (by rw [← e6']; exact n6)
        replace HW := HW.trans (n6.mono (by omega))
        clear e6 e6' n6
        refine hK.out _ _ ?_ (fun hHeld => ?_)
        · exact ⟨HA, HB⟩
        clear hK K
        (try simp only [Act.put, List.getElem_toArray, List.getElem_cons_zero, List.getElem_cons_succ, List.setIfInBounds_toArray, List.set_cons_zero, List.set_cons_succ])
        refine wpAnyH_ready (rs := [8, 11]) (by kernel_rfl) (by simp) ?_
        refine AllReadyH.cons rfl (fun K hK => ?_) (AllReadyH.cons rfl (fun K hK => ?_) AllReadyH.nil)
        · simp only [List.getElem_toArray, List.getElem_cons_zero, List.getElem_cons_succ]
          rw [if_pos (by rfl)]
          refine wp_alloc_op 34 (msC zMs (.slice none 0 0)) rfl Tryd.msZero (fun b5 u3 e5 H5 n5 => ?_)
          have lHA := HA.lt
          have lHB := HB.lt
          have lH7 := H7.lt
          have lH6 := H6.lt
          rw [← e5] at lHA lHB lH7 lH6
          have e5' : b5 = u2.heap.size := e5
          replace HA := HA.kept (by rw [← e5']; exact n5)
          replace HB := HB.kept (by rw [← e5']; exact n5)
          replace H7 := H7.kept (by rw [← e5']; exact n5)
          replace H6 := H6.kept (by rw [← e5']; exact n5)
          replace HW := HW.trans (n5.mono (by omega))
          clear e5 e5' n5
          refine hK.out _ _ ?_ (fun hHeld => ?_)
          · exact ⟨HA, HB⟩
          clear hK K
          (try simp only [Act.put, List.getElem_toArray, List.getElem_cons_zero, List.getElem_cons_succ, List.setIfInBounds_toArray, List.set_cons_zero, List.set_cons_succ])
          refine wpAnyH_ready (rs := [11]) (by kernel_rfl) (by simp) ?_
          refine AllReadyH.cons rfl (fun K hK => ?_) AllReadyH.nil
          · simp only [List.getElem_toArray, List.getElem_cons_zero, List.getElem_cons_succ]
            rw [if_pos (by rfl)]
            refine wp_alloc_op 62 zLl0.toArray rfl Tryd.llZero (fun b8 u4 e8 H8 n8 => ?_)
            have lHA := HA.lt
            have lHB := HB.lt
            have lH7 := H7.lt
            have lH6 := H6.lt
            have lH5 := H5.lt
            rw [← e8] at lHA lHB lH7 lH6 lH5
            have e8' : b8 = u3.heap.size := e8
            replace HA := HA.kept (by rw [← e8']; exact n8)
            replace HB := HB.kept (by rw [← e8']; exact n8)
            replace H7 := H7.kept (by rw [← e8']; exact n8)
            replace H6 := H6.kept (by rw [← e8']; exact n8)
            replace H5 := H5.kept (by rw [← e8']; exact n8)
            replace HW := HW.trans (n8.mono (by omega))
            clear e8 e8' n8
            refine hK.out _ _ ?_ (fun hHeld => ?_)
            · exact ⟨HA, HB⟩
            clear hK K
            (try simp only [Act.put, List.getElem_toArray, List.getElem_cons_zero, List.getElem_cons_succ, List.setIfInBounds_toArray, List.set_cons_zero, List.set_cons_succ])
            exact tail b5 b6 b7 b8 u4 ⟨HA, HB, H5, H6, H7, H8, HW, by omega, by omega⟩
        · simp only [List.getElem_toArray, List.getElem_cons_zero, List.getElem_cons_succ]
          rw [if_pos (by rfl)]
          refine wp_alloc_op 62 zLl0.toArray rfl Tryd.llZero (fun b8 u3 e8 H8 n8 => ?_)
          have lHA := HA.lt
          have lHB := HB.lt
          have lH7 := H7.lt
          have lH6 := H6.lt
          rw [← e8] at lHA lHB lH7 lH6
          have e8' : b8 = u2.heap.size := e8
          replace HA := HA.kept (by rw [← e8']; exact n8)
          replace HB := HB.kept (by rw [← e8']; exact n8)
          replace H7 := H7.kept (by rw [← e8']; exact n8)
          replace H6 := H6.kept (by rw [← e8']; exact n8)
          replace HW := HW.trans (n8.mono (by omega))
          clear e8 e8' n8
          refine hK.out _ _ ?_ (fun hHeld => ?_)
          · exact ⟨HA, HB⟩
          clear hK K
          (try simp only [Act.put, List.getElem_toArray, List.getElem_cons_zero, List.getElem_cons_succ, List.setIfInBounds_toArray, List.set_cons_zero, List.set_cons_succ])
          refine wpAnyH_ready (rs := [8]) (by kernel_rfl) (by simp) ?_
          refine AllReadyH.cons rfl (fun K hK => ?_) AllReadyH.nil
          · simp only [List.getElem_toArray, List.getElem_cons_zero, List.getElem_cons_succ]
            rw [if_pos (by rfl)]
            refine wp_alloc_op 34 (msC zMs (.slice none 0 0)) rfl Tryd.msZero (fun b5 u4 e5 H5 n5 => ?_)
            have lHA := HA.lt
            have lHB := HB.lt
            have lH7 := H7.lt
            have lH6 := H6.lt
            have lH8 := H8.lt
            rw [← e5] at lHA lHB lH7 lH6 lH8
            have e5' : b5 = u3.heap.size := e5
            replace HA := HA.kept (by rw [← e5']; exact n5)
            replace HB := HB.kept (by rw [← e5']; exact n5)
            replace H7 := H7.kept (by rw [← e5']; exact n5)
            replace H6 := H6.kept (by rw [← e5']; exact n5)
            replace H8 := H8.kept (by rw [← e5']; exact n5)
            replace HW := HW.trans (n5.mono (by omega))
            clear e5 e5' n5
            refine hK.out _ _ ?_ (fun hHeld => ?_)
            · exact ⟨HA, HB⟩
            clear hK K
            (try simp only [Act.put, List.getElem_toArray, List.getElem_cons_zero, List.getElem_cons_succ, List.setIfInBounds_toArray, List.set_cons_zero, List.set_cons_succ])
            exact tail b5 b6 b7 b8 u4 ⟨HA, HB, H5, H6, H7, H8, HW, by omega, by omega⟩
      · simp only [List.getElem_toArray, List.getElem_cons_zero, List.getElem_cons_succ]
        rw [if_pos (by rfl)]
        refine wp_alloc_op 62 zLl0.toArray rfl Tryd.llZero (fun b8 u2 e8 H8 n8 => ?_)
        have lHA := HA.lt
        have lHB := HB.lt
        have lH7 := H7.lt
        rw [← e8] at lHA lHB lH7
        have e8' : b8 = u1.heap.size := e8
        replace HA := HA.kept (by rw [← e8']; exact n8)
        replace HB := HB.kept (by rw [← e8']; exact n8)
        replace H7 := H7.kept (by rw [← e8']; exact n8)
        replace HW := HW.trans (n8.mono (by omega))
        clear e8 e8' n8
        refine hK.out _ _ ?_ (fun hHeld => ?_)
        · exact ⟨HA, HB⟩
        clear hK K
        (try simp only [Act.put, List.getElem_toArray, List.getElem_cons_zero, List.getElem_cons_succ, List.setIfInBounds_toArray, List.set_cons_zero, List.set_cons_succ])
        refine wpAnyH_ready (rs := [8, 9]) (by kernel_rfl) (by simp) ?_
        refine AllReadyH.cons rfl (fun K hK => ?_) (AllReadyH.cons rfl (fun K hK => ?_) AllReadyH.nil)
        · simp only [List.getElem_toArray, List.getElem_cons_zero, List.getElem_cons_succ]
          rw [if_pos (by rfl)]
          refine wp_alloc_op 34 (msC zMs (.slice none 0 0)) rfl Tryd.msZero (fun b5 u3 e5 H5 n5 => ?_)
          have lHA := HA.lt
          have lHB := HB.lt
          have lH7 := H7.lt
          have lH8 := H8.lt
          rw [← e5] at lHA lHB lH7 lH8
          have e5' : b5 = u2.heap.size := e5
          replace HA := HA.kept (by rw [← e5']; exact n5)
          replace HB := HB.kept (by rw [← e5']; exact n5)
          replace H7 := H7.kept (by rw [← e5']; exact n5)
          replace H8 := H8.kept (by rw [← e5']; exact n5)
          replace HW := HW.trans (n5.mono (by omega))
          clear e5 e5' n5
          refine hK.out _ _ ?_ (fun hHeld => ?_)
          · exact ⟨HA, HB⟩
          clear hK K
          (try simp only [Act.put, List.getElem_toArray, List.getElem_cons_zero, List.getElem_cons_succ, List.setIfInBounds_toArray, List.set_cons_zero, List.set_cons_succ])
          refine wpAnyH_ready (rs := [9]) (by kernel_rfl) (by simp) ?_
          refine AllReadyH.cons rfl (fun K hK => ?_) AllReadyH.nil
          · simp only [List.getElem_toArray, List.getElem_cons_zero, List.getElem_cons_succ]
            rw [if_pos (by rfl)]
            refine wp_alloc_op 34 (msC zMs (.slice none 0 0)) rfl Tryd.msZero (fun b6 u4 e6 H6 n6 => ?_)
            have lHA := HA.lt
            have lHB := HB.lt
            have lH7 := H7.lt
            have lH8 := H8.lt
            have lH5 := H5.lt
            rw [← e6] at lHA lHB lH7 lH8 lH5
            have e6' : b6 = u3.heap.size := e6
            replace HA := HA.kept (by rw [← e6']; exact n6)
            replace HB := HB.kept (by rw [← e6']; exact n6)
            replace H7 := H7.kept (by rw [← e6']; exact n6)
            replace H8 := H8.kept (by rw [← e6']; exact n6)
            replace H5 := H5.kept (by rw [← e6']; exact n6)
            replace HW := HW.trans (n6.mono (by omega))
            clear e6 e6' n6
            refine hK.out _ _ ?_ (fun hHeld => ?_)
            · exact ⟨HA, HB⟩
            clear hK K
            (try simp only [Act.put, List.getElem_toArray, List.getElem_cons_zero, List.getElem_cons_succ, List.setIfInBounds_toArray, List.set_cons_zero, List.set_cons_succ])
            exact tail b5 b6 b7 b8 u4 ⟨HA, HB, H5, H6, H7, H8, HW, by omega, by omega⟩
        · simp only [List.getElem_toArray, List.getElem_cons_zero, List.getElem_cons_succ]
          rw [if_pos (by rfl)]
          refine wp_alloc_op 34 (msC zMs (.slice none 0 0)) rfl Tryd.msZero (fun b6 u3 e6 H6 n6 => ?_)
          have lHA := HA.lt
          have lHB := HB.lt
          have lH7 := H7.lt
          have lH8 := H8.lt
          rw [← e6] at lHA lHB lH7 lH8
          have e6' : b6 = u2.heap.size := e6
          replace HA := HA.kept (by rw [← e6']; exact n6)
          replace HB := HB.kept (by rw [← e6']; exact n6)
          replace H7 := H7.kept (by rw [← e6']; exact n6)
          replace H8 := H8.kept (by rw [← e6']; exact n6)
          replace HW := HW.trans (n6.mono (by omega))
          clear e6 e6' n6
          refine hK.out _ _ ?_ (fun hHeld => ?_)
          · exact ⟨HA, HB⟩
          clear hK K
          (try simp only [Act.put, List.getElem_toArray, List.getElem_cons_zero, List.getElem_cons_succ, List.setIfInBounds_toArray, List.set_cons_zero, List.set_cons_succ])
          refine wpAnyH_ready (rs := [8]) (by kernel_rfl) (by simp) ?_
          refine AllReadyH.cons rfl (fun K hK => ?_) AllReadyH.nil
          · simp only [List.getElem_toArray, List.getElem_cons_zero, List.getElem_cons_succ]
            rw [if_pos (by rfl)]
            refine wp_alloc_op 34 (msC zMs (.slice none 0 0)) rfl Tryd.msZero (fun b5 u4 e5 H5 n5 => ?_)
            have lHA := HA.lt
            have lHB := HB.lt
            have lH7 := H7.lt
            have lH8 := H8.lt
            have lH6 := H6.lt
            rw [← e5] at lHA lHB lH7 lH8 lH6
            have e5' : b5 = u3.heap.size := e5
            replace HA := HA.kept (by rw [← e5']; exact n5)
            replace HB := HB.kept (by rw [← e5']; exact n5)
            replace H7 := H7.kept (by rw [← e5']; exact n5)
            replace H8 := H8.kept (by rw [← e5']; exact n5)
            replace H6 := H6.kept (by rw [← e5']; exact n5)
            replace HW := HW.trans (n5.mono (by omega))
            clear e5 e5' n5
            refine hK.out _ _ ?_ (fun hHeld => ?_)
            · exact ⟨HA, HB⟩
            clear hK K
            (try simp only [Act.put, List.getElem_toArray, List.getElem_cons_zero, List.getElem_cons_succ, List.setIfInBounds_toArray, List.set_cons_zero, List.set_cons_succ])
            exact tail b5 b6 b7 b8 u4 ⟨HA, HB, H5, H6, H7, H8, HW, by omega, by omega⟩
    · simp only [List.getElem_toArray, List.getElem_cons_zero, List.getElem_cons_succ]
      rw [if_pos (by rfl)]
      refine wp_alloc_op 62 zLl0.toArray rfl Tryd.llZero (fun b8 u1 e8 H8 n8 => ?_)
      have lHA := HA.lt
      have lHB := HB.lt
      rw [← e8] at lHA lHB
      have e8' : b8 = w3.heap.size := e8
      replace HA := HA.kept (by rw [← e8']; exact n8)
      replace HB := HB.kept (by rw [← e8']; exact n8)
      replace HW := HW.trans (n8.mono (by omega))
      clear e8 e8' n8
      refine hK.out _ _ ?_ (fun hHeld => ?_)
      · exact ⟨HA, HB⟩
      clear hK K
      (try simp only [Act.put, List.getElem_toArray, List.getElem_cons_zero, List.getElem_cons_succ, List.setIfInBounds_toArray, List.set_cons_zero, List.set_cons_succ])
      refine wpAnyH_ready (rs := [8, 9, 10]) (by kernel_rfl) (by simp) ?_
      refine AllReadyH.cons rfl (fun K hK => ?_) (AllReadyH.cons rfl (fun K hK => ?_) (AllReadyH.cons rfl (fun K hK => ?_) AllReadyH.nil))
      · simp only [List.getElem_toArray, List.getElem_cons_zero, List.getElem_cons_succ]
        rw [if_pos (by rfl)]
        refine wp_alloc_op 34 (msC zMs (.slice none 0 0)) rfl Tryd.msZero (fun b5 u2 e5 H5 n5 => ?_)
        have lHA := HA.lt
        have lHB := HB.lt
        have lH8 := H8.lt
        rw [← e5] at lHA lHB lH8
        have e5' : b5 = u1.heap.size := e5
        replace HA := HA.kept (by rw [← e5']; exact n5)
        replace HB := HB.kept (by rw [← e5']; exact n5)
        replace H8 := H8.kept (by rw [← e5']; exact n5)
        replace HW := HW.trans (n5.mono (by omega))
        clear e5 e5' n5
        refine hK.out _ _ ?_ (fun hHeld => ?_)
        · exact ⟨HA, HB⟩
        clear hK K
        (try simp only [Act.put, List.getElem_toArray, List.getElem_cons_zero, List.getElem_cons_succ, List.setIfInBounds_toArray, List.set_cons_zero, List.set_cons_succ])
        refine wpAnyH_ready (rs := [9, 10]) (by kernel_rfl) (by simp) ?_
        refine AllReadyH.cons rfl (fun K hK => ?_) (AllReadyH.cons rfl (fun K hK => ?_) AllReadyH.nil)
        · simp only [List.getElem_toArray, List.getElem_cons_zero, List.getElem_cons_succ]
          rw [if_pos (by rfl)]
          refine wp_alloc_op 34 (msC zMs (.slice none 0 0)) rfl Tryd.msZero (fun b6 u3 e6 H6 n6 => ?_)
          have lHA := HA.lt
          have lHB := HB.lt
          have lH8 := H8.lt
          have lH5 := H5.lt
          rw [← e6] at lHA lHB lH8 lH5
          have e6' : b6 = u2.heap.size := e6
          replace HA := HA.kept (by rw [← e6']; exact n6)
          replace HB := HB.kept (by rw [← e6']; exact n6)
          replace H8 := H8.kept (by rw [← e6']; exact n6)
          replace H5 := H5.kept (by rw [← e6']; exact n6)
          replace HW := HW.trans (n6.mono (by omega))
          clear e6 e6' n6
          refine hK.out _ _ ?_ (fun hHeld => ?_)
          · exact ⟨HA, HB⟩
          clear hK K
          (try simp only [Act.put, List.getElem_toArray, List.getElem_cons_zero, List.getElem_cons_succ, List.setIfInBounds_toArray, List.set_cons_zero, List.set_cons_succ])
          refine wpAnyH_ready (rs := [10]) (by kernel_rfl) (by simp) ?_
          refine AllReadyH.cons rfl (fun K hK => ?_) AllReadyH.nil
          · simp only [List.getElem_toArray, List.getElem_cons_zero, List.getElem_cons_succ]
            rw [if_pos (by rfl)]
            refine wp_alloc_op 62 zLl0.toArray rfl Tryd.llZero (fun b7 u4 e7 H7 n7 => ?_)
            have lHA := HA.lt
            have lHB := HB.lt
            have lH8 := H8.lt
            have lH5 := H5.lt
            have lH6 := H6.lt
            rw [← e7] at lHA lHB lH8 lH5 lH6
            have e7' : b7 = u3.heap.size := e7
            replace HA := HA.kept (by rw [← e7']; exact n7)
            replace HB := HB.kept (by rw [← e7']; exact n7)
            replace H8 := H8.kept (by rw [← e7']; exact n7)
            replace H5 := H5.kept (by rw [← e7']; exact n7)
            replace H6 := H6.kept (by rw [← e7']; exact n7)
            replace HW := HW.trans (n7.mono (by omega))
            clear e7 e7' n7
            refine hK.out _ _ ?_ (fun hHeld => ?_)
            · exact ⟨HA, HB⟩
            clear hK K
            (try simp only [Act.put, List.getElem_toArray, List.getElem_cons_zero, List.getElem_cons_succ, List.setIfInBounds_toArray, List.set_cons_zero, List.set_cons_succ])
            exact tail b5 b6 b7 b8 u4 ⟨HA, HB, H5, H6, H7, H8, HW, by omega, by omega⟩
        · simp only [List.getElem_toArray, List.getElem_cons_zero, List.getElem_cons_succ]
          rw [if_pos (by rfl)]
          refine wp_alloc_op 62 zLl0.toArray rfl Tryd.llZero (fun b7 u3 e7 H7 n7 => ?_)
          have lHA := HA.lt
          have lHB := HB.lt
          have lH8 := H8.lt
          have lH5 := H5.lt
          rw [← e7] at lHA lHB lH8 lH5
          have e7' : b7 = u2.heap.size := e7
          replace HA := HA.kept (by rw [← e7']; exact n7)
          replace HB := HB.kept (by rw [← e7']; exact n7)
          replace H8 := H8.kept (by rw [← e7']; exact n7)
          replace H5 := H5.kept (by rw [← e7']; exact n7)
          replace HW := HW.trans (n7.mono (by omega))
          clear e7 e7' n7
          refine hK.out _ _ ?_ (fun hHeld => ?_)
          · exact ⟨HA, HB⟩
          clear hK K
          (try simp only [Act.put, List.getElem_toArray, List.getElem_cons_zero, List.getElem_cons_succ, List.setIfInBounds_toArray, List.set_cons_zero, List.set_cons_succ])
          refine wpAnyH_ready (rs := [9]) (by kernel_rfl) (by simp) ?_
          refine AllReadyH.cons rfl (fun K hK => ?_) AllReadyH.nil
          · simp only [List.getElem_toArray, List.getElem_cons_zero, List.getElem_cons_succ]
            rw [if_pos (by rfl)]
            refine wp_alloc_op 34 (msC zMs (.slice none 0 0)) rfl Tryd.msZero (fun b6 u4 e6 H6 n6 => ?_)
            have lHA := HA.lt
            have lHB := HB.lt
            have lH8 := H8.lt
            have lH5 := H5.lt
            have lH7 := H7.lt
            rw [← e6] at lHA lHB lH8 lH5 lH7
            have e6' : b6 = u3.heap.size := e6
            replace HA := HA.kept (by rw [← e6']; exact n6)
            replace HB := HB.kept (by rw [← e6']; exact n6)
            replace H8 := H8.kept (by rw [← e6']; exact n6)
            replace H5 := H5.kept (by rw [← e6']; exact n6)
            replace H7 := H7.kept (by rw [← e6']; exact n6)
            replace HW := HW.trans (n6.mono (by omega))
            clear e6 e6' n6
            refine hK.out _ _ ?_ (fun hHeld => ?_)
            · exact ⟨HA, HB⟩
            clear hK K
            (try simp only [Act.put, List.getElem_toArray, List.getElem_cons_zero, List.getElem_cons_succ, List.setIfInBounds_toArray, List.set_cons_zero, List.set_cons_succ])
            exact tail b5 b6 b7 b8 u4 ⟨HA, HB, H5, H6, H7, H8, HW, by omega, by omega⟩
      · simp only [List.getElem_toArray, List.getElem_cons_zero, List.getElem_cons_succ]
        rw [if_pos (by rfl)]
        refine wp_alloc_op 34 (msC zMs (.slice none 0 0)) rfl Tryd.msZero (fun b6 u2 e6 H6 n6 => ?_)
        have lHA := HA.lt
        have lHB := HB.lt
        have lH8 := H8.lt
        rw [← e6] at lHA lHB lH8
        have e6' : b6 = u1.heap.size := e6
        replace HA := HA.kept (by rw [← e6']; exact n6)
        replace HB := HB.kept (by rw [← e6']; exact n6)
        replace H8 := H8.kept (by rw [← e6']; exact n6)
        replace HW := HW.trans (n6.mono (by omega))
        clear e6 e6' n6
        refine hK.out _ _ ?_ (fun hHeld => ?_)
        · exact ⟨HA, HB⟩
        clear hK K
        (try simp only [Act.put, List.getElem_toArray, List.getElem_cons_zero, List.getElem_cons_succ, List.setIfInBounds_toArray, List.set_cons_zero, List.set_cons_succ])
        refine wpAnyH_ready (rs := [8, 10]) (by kernel_rfl) (by simp) ?_
        refine AllReadyH.cons rfl (fun K hK => ?_) (AllReadyH.cons rfl (fun K hK => ?_) AllReadyH.nil)
        · simp only [List.getElem_toArray, List.getElem_cons_zero, List.getElem_cons_succ]
          rw [if_pos (by rfl)]
          refine wp_alloc_op 34 (msC zMs (.slice none 0 0)) rfl Tryd.msZero (fun b5 u3 e5 H5 n5 => ?_)
          have lHA := HA.lt
          have lHB := HB.lt
          have lH8 := H8.lt
          have lH6 := H6.lt
          rw [← e5] at lHA lHB lH8 lH6
          have e5' : b5 = u2.heap.size := e5
          replace HA := HA.kept (by rw [← e5']; exact n5)
          replace HB := HB.kept (by rw [← e5']; exact n5)
          replace H8 := H8.kept (by rw [← e5']; exact n5)
          replace H6 := H6.kept (by rw [← e5']; exact n5)
          replace HW := HW.trans (n5.mono (by omega))
          clear e5 e5' n5
          refine hK.out _ _ ?_ (fun hHeld => ?_)
          · exact ⟨HA, HB⟩
          clear hK K
          (try simp only [Act.put, List.getElem_toArray, List.getElem_cons_zero, List.getElem_cons_succ, List.setIfInBounds_toArray, List.set_cons_zero, List.set_cons_succ])
          refine wpAnyH_ready (rs := [10]) (by kernel_rfl) (by simp) ?_
          refine AllReadyH.cons rfl (fun K hK => ?_) AllReadyH.nil
          · simp only [List.getElem_toArray, List.getElem_cons_zero, List.getElem_cons_succ]
            rw [if_pos (by rfl)]
            refine wp_alloc_op 62 zLl0.toArray rfl Tryd.llZero (fun b7 u4 e7 H7 n7 => ?_)
            have lHA := HA.lt
            have lHB := HB.lt
            have lH8 := H8.lt
            have lH6 := H6.lt
            have lH5 := H5.lt
            rw [← e7] at lHA lHB lH8 lH6 lH5
            have e7' : b7 = u3.heap.size := e7
            replace HA := HA.kept (by rw [← e7']; exact n7)
            replace HB := HB.kept (by rw [← e7']; exact n7)
            replace H8 := H8.kept (by rw [← e7']; exact n7)
            replace H6 := H6.kept (by rw [← e7']; exact n7)
            replace H5 := H5.kept (by rw [← e7']; exact n7)
            replace HW := HW.trans (n7.mono (by omega))
            clear e7 e7' n7
            refine hK.out _ _ ?_ (fun hHeld => ?_)
            · exact ⟨HA, HB⟩
            clear hK K
            (try simp only [Act.put, List.getElem_toArray, List.getElem_cons_zero, List.getElem_cons_succ, List.setIfInBounds_toArray, List.set_cons_zero, List.set_cons_succ])
            exact tail b5 b6 b7 b8 u4 ⟨HA, HB, H5, H6, H7, H8, HW, by omega, by omega⟩
        · simp only [List.getElem_toArray, List.getElem_cons_zero, List.getElem_cons_succ]
          rw [if_pos (by rfl)]
          refine wp_alloc_op 62 zLl0.toArray rfl Tryd.llZero (fun b7 u3 e7 H7 n7 => ?_)
          have lHA := HA.lt
          have lHB := HB.lt
          have lH8 := H8.lt
          have lH6 := H6.lt
          rw [← e7] at lHA lHB lH8 lH6
          have e7' : b7 = u2.heap.size := e7
          replace HA := HA.kept (by rw [← e7']; exact n7)
          replace HB := HB.kept (by rw [← e7']; exact n7)
          replace H8 := H8.kept (by rw [← e7']; exact n7)
          replace H6 := H6.kept (by rw [← e7']; exact n7)
          replace HW := HW.trans (n7.mono (by omega))
          clear e7 e7' n7
          refine hK.out _ _ ?_ (fun hHeld => ?_)
          · exact ⟨HA, HB⟩
          clear hK K
          (try simp only [Act.put, List.getElem_toArray, List.getElem_cons_zero, List.getElem_cons_succ, List.setIfInBounds_toArray, List.set_cons_zero, List.set_cons_succ])
          refine wpAnyH_ready (rs := [8]) (by kernel_rfl) (by simp) ?_
          refine AllReadyH.cons rfl (fun K hK => ?_) AllReadyH.nil
          · simp only [List.getElem_toArray, List.getElem_cons_zero, List.getElem_cons_succ]
            rw [if_pos (by rfl)]
            refine wp_alloc_op 34 (msC zMs (.slice none 0 0)) rfl Tryd.msZero (fun b5 u4 e5 H5 n5 => ?_)
            have lHA := HA.lt
            have lHB := HB.lt
            have lH8 := H8.lt
            have lH6 := H6.lt
            have lH7 := H7.lt
            rw [← e5] at lHA lHB lH8 lH6 lH7
            have e5' : b5 = u3.heap.size := e5
            replace HA := HA.kept (by rw [← e5']; exact n5)
            replace HB := HB.kept (by rw [← e5']; exact n5)
            replace H8 := H8.kept (by rw [← e5']; exact n5)
            replace H6 := H6.kept (by rw [← e5']; exact n5)
            replace H7 := H7.kept (by rw [← e5']; exact n5)
            replace HW := HW.trans (n5.mono (by omega))
            clear e5 e5' n5
            refine hK.out _ _ ?_ (fun hHeld => ?_)
            · exact ⟨HA, HB⟩
            clear hK K
            (try simp only [Act.put, List.getElem_toArray, List.getElem_cons_zero, List.getElem_cons_succ, List.setIfInBounds_toArray, List.set_cons_zero, List.set_cons_succ])
            exact tail b5 b6 b7 b8 u4 ⟨HA, HB, H5, H6, H7, H8, HW, by omega, by omega⟩
      · simp only [List.getElem_toArray, List.getElem_cons_zero, List.getElem_cons_succ]
        rw [if_pos (by rfl)]
        refine wp_alloc_op 62 zLl0.toArray rfl Tryd.llZero (fun b7 u2 e7 H7 n7 => ?_)
        have lHA := HA.lt
        have lHB := HB.lt
        have lH8 := H8.lt
        rw [← e7] at lHA lHB lH8
        have e7' : b7 = u1.heap.size := e7
        replace HA := HA.kept (by rw [← e7']; exact n7)
        replace HB := HB.kept (by rw [← e7']; exact n7)
        replace H8 := H8.kept (by rw [← e7']; exact n7)
        replace HW := HW.trans (n7.mono (by omega))
        clear e7 e7' n7
        refine hK.out _ _ ?_ (fun hHeld => ?_)
        · exact ⟨HA, HB⟩
        clear hK K
        (try simp only [Act.put, List.getElem_toArray, List.getElem_cons_zero, List.getElem_cons_succ, List.setIfInBounds_toArray, List.set_cons_zero, List.set_cons_succ])
        refine wpAnyH_ready (rs := [8, 9]) (by kernel_rfl) (by simp) ?_
        refine AllReadyH.cons rfl (fun K hK => ?_) (AllReadyH.cons rfl (fun K hK => ?_) AllReadyH.nil)
        · simp only [List.getElem_toArray, List.getElem_cons_zero, List.getElem_cons_succ]
          rw [if_pos (by rfl)]
          refine wp_alloc_op 34 (msC zMs (.slice none 0 0)) rfl Tryd.msZero (fun b5 u3 e5 H5 n5 => ?_)
          have lHA := HA.lt
          have lHB := HB.lt
          have lH8 := H8.lt
          have lH7 := H7.lt
          rw [← e5] at lHA lHB lH8 lH7
          have e5' : b5 = u2.heap.size := e5
          replace HA := HA.kept (by rw [← e5']; exact n5)
          replace HB := HB.kept (by rw [← e5']; exact n5)
          replace H8 := H8.kept (by rw [← e5']; exact n5)
          replace H7 := H7.kept (by rw [← e5']; exact n5)
          replace HW := HW.trans (n5.mono (by omega))
          clear e5 e5' n5
          refine hK.out _ _ ?_ (fun hHeld => ?_)
          · exact ⟨HA, HB⟩
          clear hK K
          (try simp only [Act.put, List.getElem_toArray, List.getElem_cons_zero, List.getElem_cons_succ, List.setIfInBounds_toArray, List.set_cons_zero, List.set_cons_succ])
          refine wpAnyH_ready (rs := [9]) (by kernel_rfl) (by simp) ?_
          refine AllReadyH.cons rfl (fun K hK => ?_) AllReadyH.nil
          · simp only [List.getElem_toArray, List.getElem_cons_zero, List.getElem_cons_succ]
            rw [if_pos (by rfl)]
            refine wp_alloc_op 34 (msC zMs (.slice none 0 0)) rfl Tryd.msZero (fun b6 u4 e6 H6 n6 => ?_)
            have lHA := HA.lt
            have lHB := HB.lt
            have lH8 := H8.lt
            have lH7 := H7.lt
            have lH5 := H5.lt
            rw [← e6] at lHA lHB lH8 lH7 lH5
            have e6' : b6 = u3.heap.size := e6
            replace HA := HA.kept (by rw [← e6']; exact n6)
            replace HB := HB.kept (by rw [← e6']; exact n6)
            replace H8 := H8.kept (by rw [← e6']; exact n6)
            replace H7 := H7.kept (by rw [← e6']; exact n6)
            replace H5 := H5.kept (by rw [← e6']; exact n6)
            replace HW := HW.trans (n6.mono (by omega))
            clear e6 e6' n6
            refine hK.out _ _ ?_ (fun hHeld => ?_)
            · exact ⟨HA, HB⟩
            clear hK K
            (try simp only [Act.put, List.getElem_toArray, List.getElem_cons_zero, List.getElem_cons_succ, List.setIfInBounds_toArray, List.set_cons_zero, List.set_cons_succ])
            exact tail b5 b6 b7 b8 u4 ⟨HA, HB, H5, H6, H7, H8, HW, by omega, by omega⟩
        · simp only [List.getElem_toArray, List.getElem_cons_zero, List.getElem_cons_succ]
          rw [if_pos (by rfl)]
          refine wp_alloc_op 34 (msC zMs (.slice none 0 0)) rfl Tryd.msZero (fun b6 u3 e6 H6 n6 => ?_)
          have lHA := HA.lt
          have lHB := HB.lt
          have lH8 := H8.lt
          have lH7 := H7.lt
          rw [← e6] at lHA lHB lH8 lH7
          have e6' : b6 = u2.heap.size := e6
          replace HA := HA.kept (by rw [← e6']; exact n6)
          replace HB := HB.kept (by rw [← e6']; exact n6)
          replace H8 := H8.kept (by rw [← e6']; exact n6)
          replace H7 := H7.kept (by rw [← e6']; exact n6)
          replace HW := HW.trans (n6.mono (by omega))
          clear e6 e6' n6
          refine hK.out _ _ ?_ (fun hHeld => ?_)
          · exact ⟨HA, HB⟩
          clear hK K
          (try simp only [Act.put, List.getElem_toArray, List.getElem_cons_zero, List.getElem_cons_succ, List.setIfInBounds_toArray, List.set_cons_zero, List.set_cons_succ])
          refine wpAnyH_ready (rs := [8]) (by kernel_rfl) (by simp) ?_
          refine AllReadyH.cons rfl (fun K hK => ?_) AllReadyH.nil
          · simp only [List.getElem_toArray, List.getElem_cons_zero, List.getElem_cons_succ]
            rw [if_pos (by rfl)]
            refine wp_alloc_op 34 (msC zMs (.slice none 0 0)) rfl Tryd.msZero (fun b5 u4 e5 H5 n5 => ?_)
            have lHA := HA.lt
            have lHB := HB.lt
            have lH8 := H8.lt
            have lH7 := H7.lt
            have lH6 := H6.lt
            rw [← e5] at lHA lHB lH8 lH7 lH6
            have e5' : b5 = u3.heap.size := e5
            replace HA := HA.kept (by rw [← e5']; exact n5)
            replace HB := HB.kept (by rw [← e5']; exact n5)
            replace H8 := H8.kept (by rw [← e5']; exact n5)
            replace H7 := H7.kept (by rw [← e5']; exact n5)
            replace H6 := H6.kept (by rw [← e5']; exact n5)
            replace HW := HW.trans (n5.mono (by omega))
            clear e5 e5' n5
            refine hK.out _ _ ?_ (fun hHeld => ?_)
            · exact ⟨HA, HB⟩
            clear hK K
            (try simp only [Act.put, List.getElem_toArray, List.getElem_cons_zero, List.getElem_cons_succ, List.setIfInBounds_toArray, List.set_cons_zero, List.set_cons_succ])
            exact tail b5 b6 b7 b8 u4 ⟨HA, HB, H5, H6, H7, H8, HW, by omega, by omega⟩
  case tl =>
    intro b5 b6 b7 b8 u hF
    obtain ⟨HA, HB, H5, H6, H7, H8, HW, ⟨d1, d2, d3, d4, d5, d6⟩, e1, e2, e3, e4⟩ := hF
    have lA : w.heap.size < B := hAB
    refine wpAnyH_ready (rs := [12]) (by kernel_rfl) (by simp) ?_
    refine AllReadyH.cons rfl (fun K hK => ?_) AllReadyH.nil
    simp only [List.getElem_toArray, List.getElem_cons_zero, List.getElem_cons_succ]
    rw [if_pos (by rfl)]
    refine wp_store_op (k := 0) 34 (.agg (msC zMs (.slice none 0 0))) (msC zMs (.slice none 0 0)) (by rfl) rfl rfl H5 (by kernel_rfl) (Nat.le_refl _) (by rfl) (st_whole _ _ rfl) (fun u1 G bb gg => ?_)
    replace HA := HA.grown gg (by simp; omega)
    replace HB := HB.grown gg (by simp; omega)
    replace H6 := H6.grown gg (by simp; omega)
    replace H7 := H7.grown gg (by simp; omega)
    replace H8 := H8.grown gg (by simp; omega)
    replace HW := grown_belowA HW gg HW.size (by omega)
    replace H5 := G
    clear bb gg G
    refine hK.out _ _ ?_ (fun hHeld => ?_)
    · exact ⟨HA, HB⟩
    clear hK K
    (try simp only [Act.put, List.getElem_toArray, List.getElem_cons_zero, List.getElem_cons_succ, List.setIfInBounds_toArray, List.set_cons_zero, List.set_cons_succ])
    refine wpAnyH_ready (rs := [13]) (by kernel_rfl) (by simp) ?_
    refine AllReadyH.cons rfl (fun K hK => ?_) AllReadyH.nil
    simp only [List.getElem_toArray, List.getElem_cons_zero, List.getElem_cons_succ]
    rw [if_pos (by rfl)]
    refine wp_store_op (k := 0) 34 (.agg (msC zMs (.slice none 0 0))) (msC zMs (.slice none 0 0)) (by rfl) rfl rfl H6 (by kernel_rfl) (Nat.le_refl _) (by rfl) (st_whole _ _ rfl) (fun u2 G bb gg => ?_)
    replace HA := HA.grown gg (by simp; omega)
    replace HB := HB.grown gg (by simp; omega)
    replace H5 := H5.grown gg (by simp; omega)
    replace H7 := H7.grown gg (by simp; omega)
    replace H8 := H8.grown gg (by simp; omega)
    replace HW := grown_belowA HW gg HW.size (by omega)
    replace H6 := G
    clear bb gg G
    refine hK.out _ _ ?_ (fun hHeld => ?_)
    · exact ⟨HA, HB⟩
    clear hK K
    (try simp only [Act.put, List.getElem_toArray, List.getElem_cons_zero, List.getElem_cons_succ, List.setIfInBounds_toArray, List.set_cons_zero, List.set_cons_succ])
    refine wpAnyH_ready (rs := [14]) (by kernel_rfl) (by simp) ?_
    refine AllReadyH.cons rfl (fun K hK => ?_) AllReadyH.nil
    simp only [List.getElem_toArray, List.getElem_cons_zero, List.getElem_cons_succ]
    rw [if_pos (by rfl)]
    refine wp_store_op (k := 0) 62 (.agg (zLl0.toArray)) (zLl0.toArray) (by rfl) rfl rfl H7 (by kernel_rfl) (Nat.le_refl _) (by rfl) (st_whole _ _ rfl) (fun u3 G bb gg => ?_)
    replace HA := HA.grown gg (by simp; omega)
    replace HB := HB.grown gg (by simp; omega)
    replace H5 := H5.grown gg (by simp; omega)
    replace H6 := H6.grown gg (by simp; omega)
    replace H8 := H8.grown gg (by simp; omega)
    replace HW := grown_belowA HW gg HW.size (by omega)
    replace H7 := G
    clear bb gg G
    refine hK.out _ _ ?_ (fun hHeld => ?_)
    · exact ⟨HA, HB⟩
    clear hK K
    (try simp only [Act.put, List.getElem_toArray, List.getElem_cons_zero, List.getElem_cons_succ, List.setIfInBounds_toArray, List.set_cons_zero, List.set_cons_succ])
    refine wpAnyH_ready (rs := [15]) (by kernel_rfl) (by simp) ?_
    refine AllReadyH.cons rfl (fun K hK => ?_) AllReadyH.nil
    simp only [List.getElem_toArray, List.getElem_cons_zero, List.getElem_cons_succ]
    rw [if_pos (by rfl)]
    refine wp_store_op (k := 0) 62 (.agg (zLl0.toArray)) (zLl0.toArray) (by rfl) rfl rfl H8 (by kernel_rfl) (Nat.le_refl _) (by rfl) (st_whole _ _ rfl) (fun u4 G bb gg => ?_)
    replace HA := HA.grown gg (by simp; omega)
    replace HB := HB.grown gg (by simp; omega)
    replace H5 := H5.grown gg (by simp; omega)
    replace H6 := H6.grown gg (by simp; omega)
    replace H7 := H7.grown gg (by simp; omega)
    replace HW := grown_belowA HW gg HW.size (by omega)
    replace H8 := G
    clear bb gg G
    refine hK.out _ _ ?_ (fun hHeld => ?_)
    · exact ⟨HA, HB⟩
    clear hK K
    (try simp only [Act.put, List.getElem_toArray, List.getElem_cons_zero, List.getElem_cons_succ, List.setIfInBounds_toArray, List.set_cons_zero, List.set_cons_succ])
    have E31z : ∀ W, (Op.equalIn 10000 31 (.agg (bpC zBp)) (.agg (bpC zBp))).run Tryd.prog W = .ok true W := fun W => by kernel_rfl
    have E27 : ∀ W, (Op.equalIn 10000 27 (.agg (brC zMs.br)) (.agg (brC zMs.br))).run Tryd.prog W = .ok true W := fun W => by kernel_rfl
    have E57 : ∀ W, (Op.equalIn 10000 51 (.agg zAr0.toArray) (.agg zAr0.toArray)).run Tryd.prog W = .ok true W := fun W => by kernel_rfl
    have E60 : ∀ W, (Op.equalIn 10000 54 (.agg zPa0.toArray) (.agg zPa0.toArray)).run Tryd.prog W = .ok true W := fun W => by kernel_rfl
    have E72 : ∀ W, (Op.equalIn 10000 66 (.agg zLa0.toArray) (.agg zLa0.toArray)).run Tryd.prog W = .ok true W := fun W => by kernel_rfl
    have E74 : ∀ W, (Op.equalIn 10000 68 (.agg zMk0.toArray) (.agg zMk0.toArray)).run Tryd.prog W = .ok true W := fun W => by kernel_rfl
    have E62 : ∀ W, (Op.equalIn 10000 56 (.agg zNm0.toArray) (.agg zNm0.toArray)).run Tryd.prog W = .ok true W := fun W => by kernel_rfl
    refine wpAnyH_done (by kernel_rfl) ?_ _
    refine NoPanic.normal ?_
    go_upto_region 2 with (fail)
    have pa0 := HA.cv 0 (i0) rfl
    have pa1 := HA.cv 1 (i0) rfl
    have pa2 := HA.cv 2 (i0) rfl
    have pa174 := HA.cv 174 (.slice a1 n1 c1) rfl
    have pb0 := HB.cv 0 (i0) rfl
    have pb1 := HB.cv 1 (i0) rfl
    have pb2 := HB.cv 2 (i0) rfl
    have pb174 := HB.cv 174 (.slice a2 n2 c2) rfl
    have p531 := H5.cv 31 (.string ⟨#[]⟩) rfl
    have p532 := H5.cv 32 (.int .i64 0) rfl
    have p533 := H5.cv 33 (.string ⟨#[]⟩) rfl
    have p534 := H5.cv 34 (.int .i64 0) rfl
    have p543 := H5.cv 43 (.int .i64 0) rfl
    have p544 := H5.cv 44 (.slice none 0 0) rfl
    have p631 := H6.cv 31 (.string ⟨#[]⟩) rfl
    have p632 := H6.cv 32 (.int .i64 0) rfl
    have p633 := H6.cv 33 (.string ⟨#[]⟩) rfl
    have p634 := H6.cv 34 (.int .i64 0) rfl
    have p643 := H6.cv 43 (.int .i64 0) rfl
    have p644 := H6.cv 44 (.slice none 0 0) rfl
    have p74 := H7.cv 4 (i0) rfl
    have p75 := H7.cv 5 (nil0) rfl
    have p76 := H7.cv 6 (nil0) rfl
    have p77 := H7.cv 7 (nil0) rfl
    have p78 := H7.cv 8 (nil0) rfl
    have p79 := H7.cv 9 (nil0) rfl
    have p710 := H7.cv 10 (nil0) rfl
    have p84 := H8.cv 4 (i0) rfl
    have p85 := H8.cv 5 (nil0) rfl
    have p86 := H8.cv 6 (nil0) rfl
    have p87 := H8.cv 7 (nil0) rfl
    have p88 := H8.cv 8 (nil0) rfl
    have p89 := H8.cv 9 (nil0) rfl
    have p810 := H8.cv 10 (nil0) rfl
    simp only [i0, nil0] at pa0 pa1 pa2 pb0 pb1 pb2 p74 p75 p76 p77 p78 p79 p710 p84 p85 p86 p87 p88 p89 p810
    (try refine wp_region_lit ?_)
    (try simp only [List.append_eq, List.cons_append, List.nil_append])
    go_wp2_with (first
      | (refine load_blk (B := w.heap.size) (k := 3) 48 (zFr) (by rfl) rfl rfl HA (by kernel_rfl) (by kernel_rfl) rfl ?_)
      | (refine load_blk (B := w.heap.size) (k := 24) 51 (zAr0.toArray) (by rfl) rfl rfl HA (by kernel_rfl) (by kernel_rfl) rfl ?_)
      | (refine load_blk (B := w.heap.size) (k := 45) 54 (zPa0.toArray) (by rfl) rfl rfl HA (by kernel_rfl) (by kernel_rfl) rfl ?_)
      | (refine load_blk (B := w.heap.size) (k := 55) 31 (bpC zBp) (by rfl) rfl rfl HA (by kernel_rfl) (by kernel_rfl) rfl ?_)
      | (refine load_blk (B := w.heap.size) (k := 142) 66 (zLa0.toArray) (by rfl) rfl rfl HA (by kernel_rfl) (by kernel_rfl) rfl ?_)
      | (refine load_blk (B := w.heap.size) (k := 165) 68 (zMk0.toArray) (by rfl) rfl rfl HA (by kernel_rfl) (by kernel_rfl) rfl ?_)
      | (refine load_blk (B := B) (k := 3) 48 (zFr) (by rfl) rfl rfl HB (by kernel_rfl) (by kernel_rfl) rfl ?_)
      | (refine load_blk (B := B) (k := 24) 51 (zAr0.toArray) (by rfl) rfl rfl HB (by kernel_rfl) (by kernel_rfl) rfl ?_)
      | (refine load_blk (B := B) (k := 45) 54 (zPa0.toArray) (by rfl) rfl rfl HB (by kernel_rfl) (by kernel_rfl) rfl ?_)
      | (refine load_blk (B := B) (k := 55) 31 (bpC zBp) (by rfl) rfl rfl HB (by kernel_rfl) (by kernel_rfl) rfl ?_)
      | (refine load_blk (B := B) (k := 142) 66 (zLa0.toArray) (by rfl) rfl rfl HB (by kernel_rfl) (by kernel_rfl) rfl ?_)
      | (refine load_blk (B := B) (k := 165) 68 (zMk0.toArray) (by rfl) rfl rfl HB (by kernel_rfl) (by kernel_rfl) rfl ?_)
      | (refine load_blk (B := b5) (k := 0) 31 (bpC zBp) (by rfl) rfl rfl H5 (by kernel_rfl) (by kernel_rfl) rfl ?_)
      | (refine load_blk (B := b5) (k := 35) 27 (brC zMs.br) (by rfl) rfl rfl H5 (by kernel_rfl) (by kernel_rfl) rfl ?_)
      | (refine load_blk (B := b6) (k := 0) 31 (bpC zBp) (by rfl) rfl rfl H6 (by kernel_rfl) (by kernel_rfl) rfl ?_)
      | (refine load_blk (B := b6) (k := 35) 27 (brC zMs.br) (by rfl) rfl rfl H6 (by kernel_rfl) (by kernel_rfl) rfl ?_)
      | (refine load_blk (B := b7) (k := 0) 56 (zNm0.toArray) (by rfl) rfl rfl H7 (by kernel_rfl) (by kernel_rfl) rfl ?_)
      | (refine load_blk (B := b7) (k := 2) 56 (zNm0.toArray) (by rfl) rfl rfl H7 (by kernel_rfl) (by kernel_rfl) rfl ?_)
      | (refine load_blk (B := b8) (k := 0) 56 (zNm0.toArray) (by rfl) rfl rfl H8 (by kernel_rfl) (by kernel_rfl) rfl ?_)
      | (refine load_blk (B := b8) (k := 2) 56 (zNm0.toArray) (by rfl) rfl rfl H8 (by kernel_rfl) (by kernel_rfl) rfl ?_))
    refine (frameSame_nil _).mono ?_
    rintro e v1 ⟨rfl, kk⟩
    clear pa0 pa1 pa2 pa174 pb0 pb1 pb2 pb174 p531 p532 p533 p534 p543 p544 p631 p632 p633 p634 p643 p644 p74 p75 p76 p77 p78 p79 p710 p84 p85 p86 p87 p88 p89 p810
    replace HA := HA.kept kk
    replace HB := HB.kept kk
    replace H5 := H5.kept kk
    replace H6 := H6.kept kk
    replace H7 := H7.kept kk
    replace H8 := H8.kept kk
    replace HW := HW.trans (kk.mono HW.size)
    clear kk
    have pa0 := HA.cv 0 (i0) rfl
    have pa1 := HA.cv 1 (i0) rfl
    have pa2 := HA.cv 2 (i0) rfl
    have pa174 := HA.cv 174 (.slice a1 n1 c1) rfl
    have pb0 := HB.cv 0 (i0) rfl
    have pb1 := HB.cv 1 (i0) rfl
    have pb2 := HB.cv 2 (i0) rfl
    have pb174 := HB.cv 174 (.slice a2 n2 c2) rfl
    have p531 := H5.cv 31 (.string ⟨#[]⟩) rfl
    have p532 := H5.cv 32 (.int .i64 0) rfl
    have p533 := H5.cv 33 (.string ⟨#[]⟩) rfl
    have p534 := H5.cv 34 (.int .i64 0) rfl
    have p543 := H5.cv 43 (.int .i64 0) rfl
    have p544 := H5.cv 44 (.slice none 0 0) rfl
    have p631 := H6.cv 31 (.string ⟨#[]⟩) rfl
    have p632 := H6.cv 32 (.int .i64 0) rfl
    have p633 := H6.cv 33 (.string ⟨#[]⟩) rfl
    have p634 := H6.cv 34 (.int .i64 0) rfl
    have p643 := H6.cv 43 (.int .i64 0) rfl
    have p644 := H6.cv 44 (.slice none 0 0) rfl
    have p74 := H7.cv 4 (i0) rfl
    have p75 := H7.cv 5 (nil0) rfl
    have p76 := H7.cv 6 (nil0) rfl
    have p77 := H7.cv 7 (nil0) rfl
    have p78 := H7.cv 8 (nil0) rfl
    have p79 := H7.cv 9 (nil0) rfl
    have p710 := H7.cv 10 (nil0) rfl
    have p84 := H8.cv 4 (i0) rfl
    have p85 := H8.cv 5 (nil0) rfl
    have p86 := H8.cv 6 (nil0) rfl
    have p87 := H8.cv 7 (nil0) rfl
    have p88 := H8.cv 8 (nil0) rfl
    have p89 := H8.cv 9 (nil0) rfl
    have p810 := H8.cv 10 (nil0) rfl
    simp only [i0, nil0] at pa0 pa1 pa2 pb0 pb1 pb2 p74 p75 p76 p77 p78 p79 p710 p84 p85 p86 p87 p88 p89 p810
    go_wp2_with (first
      | (refine load_blk (B := w.heap.size) (k := 3) 48 (zFr) (by rfl) rfl rfl HA (by kernel_rfl) (by kernel_rfl) rfl ?_)
      | (refine load_blk (B := w.heap.size) (k := 24) 51 (zAr0.toArray) (by rfl) rfl rfl HA (by kernel_rfl) (by kernel_rfl) rfl ?_)
      | (refine load_blk (B := w.heap.size) (k := 45) 54 (zPa0.toArray) (by rfl) rfl rfl HA (by kernel_rfl) (by kernel_rfl) rfl ?_)
      | (refine load_blk (B := w.heap.size) (k := 55) 31 (bpC zBp) (by rfl) rfl rfl HA (by kernel_rfl) (by kernel_rfl) rfl ?_)
      | (refine load_blk (B := w.heap.size) (k := 142) 66 (zLa0.toArray) (by rfl) rfl rfl HA (by kernel_rfl) (by kernel_rfl) rfl ?_)
      | (refine load_blk (B := w.heap.size) (k := 165) 68 (zMk0.toArray) (by rfl) rfl rfl HA (by kernel_rfl) (by kernel_rfl) rfl ?_)
      | (refine load_blk (B := B) (k := 3) 48 (zFr) (by rfl) rfl rfl HB (by kernel_rfl) (by kernel_rfl) rfl ?_)
      | (refine load_blk (B := B) (k := 24) 51 (zAr0.toArray) (by rfl) rfl rfl HB (by kernel_rfl) (by kernel_rfl) rfl ?_)
      | (refine load_blk (B := B) (k := 45) 54 (zPa0.toArray) (by rfl) rfl rfl HB (by kernel_rfl) (by kernel_rfl) rfl ?_)
      | (refine load_blk (B := B) (k := 55) 31 (bpC zBp) (by rfl) rfl rfl HB (by kernel_rfl) (by kernel_rfl) rfl ?_)
      | (refine load_blk (B := B) (k := 142) 66 (zLa0.toArray) (by rfl) rfl rfl HB (by kernel_rfl) (by kernel_rfl) rfl ?_)
      | (refine load_blk (B := B) (k := 165) 68 (zMk0.toArray) (by rfl) rfl rfl HB (by kernel_rfl) (by kernel_rfl) rfl ?_)
      | (refine load_blk (B := b5) (k := 0) 31 (bpC zBp) (by rfl) rfl rfl H5 (by kernel_rfl) (by kernel_rfl) rfl ?_)
      | (refine load_blk (B := b5) (k := 35) 27 (brC zMs.br) (by rfl) rfl rfl H5 (by kernel_rfl) (by kernel_rfl) rfl ?_)
      | (refine load_blk (B := b6) (k := 0) 31 (bpC zBp) (by rfl) rfl rfl H6 (by kernel_rfl) (by kernel_rfl) rfl ?_)
      | (refine load_blk (B := b6) (k := 35) 27 (brC zMs.br) (by rfl) rfl rfl H6 (by kernel_rfl) (by kernel_rfl) rfl ?_)
      | (refine load_blk (B := b7) (k := 0) 56 (zNm0.toArray) (by rfl) rfl rfl H7 (by kernel_rfl) (by kernel_rfl) rfl ?_)
      | (refine load_blk (B := b7) (k := 2) 56 (zNm0.toArray) (by rfl) rfl rfl H7 (by kernel_rfl) (by kernel_rfl) rfl ?_)
      | (refine load_blk (B := b8) (k := 0) 56 (zNm0.toArray) (by rfl) rfl rfl H8 (by kernel_rfl) (by kernel_rfl) rfl ?_)
      | (refine load_blk (B := b8) (k := 2) 56 (zNm0.toArray) (by rfl) rfl rfl H8 (by kernel_rfl) (by kernel_rfl) rfl ?_))
    refine (eqIns_any none 0 none 0 [] _ (Or.inl rfl) (Or.inl rfl) (by decide)).mono ?_
    rintro e v2 ⟨rfl, kk⟩
    clear pa0 pa1 pa2 pa174 pb0 pb1 pb2 pb174 p531 p532 p533 p534 p543 p544 p631 p632 p633 p634 p643 p644 p74 p75 p76 p77 p78 p79 p710 p84 p85 p86 p87 p88 p89 p810
    replace HA := HA.kept kk
    replace HB := HB.kept kk
    replace H5 := H5.kept kk
    replace H6 := H6.kept kk
    replace H7 := H7.kept kk
    replace H8 := H8.kept kk
    replace HW := HW.trans (kk.mono HW.size)
    clear kk
    have pa0 := HA.cv 0 (i0) rfl
    have pa1 := HA.cv 1 (i0) rfl
    have pa2 := HA.cv 2 (i0) rfl
    have pa174 := HA.cv 174 (.slice a1 n1 c1) rfl
    have pb0 := HB.cv 0 (i0) rfl
    have pb1 := HB.cv 1 (i0) rfl
    have pb2 := HB.cv 2 (i0) rfl
    have pb174 := HB.cv 174 (.slice a2 n2 c2) rfl
    have p531 := H5.cv 31 (.string ⟨#[]⟩) rfl
    have p532 := H5.cv 32 (.int .i64 0) rfl
    have p533 := H5.cv 33 (.string ⟨#[]⟩) rfl
    have p534 := H5.cv 34 (.int .i64 0) rfl
    have p543 := H5.cv 43 (.int .i64 0) rfl
    have p544 := H5.cv 44 (.slice none 0 0) rfl
    have p631 := H6.cv 31 (.string ⟨#[]⟩) rfl
    have p632 := H6.cv 32 (.int .i64 0) rfl
    have p633 := H6.cv 33 (.string ⟨#[]⟩) rfl
    have p634 := H6.cv 34 (.int .i64 0) rfl
    have p643 := H6.cv 43 (.int .i64 0) rfl
    have p644 := H6.cv 44 (.slice none 0 0) rfl
    have p74 := H7.cv 4 (i0) rfl
    have p75 := H7.cv 5 (nil0) rfl
    have p76 := H7.cv 6 (nil0) rfl
    have p77 := H7.cv 7 (nil0) rfl
    have p78 := H7.cv 8 (nil0) rfl
    have p79 := H7.cv 9 (nil0) rfl
    have p710 := H7.cv 10 (nil0) rfl
    have p84 := H8.cv 4 (i0) rfl
    have p85 := H8.cv 5 (nil0) rfl
    have p86 := H8.cv 6 (nil0) rfl
    have p87 := H8.cv 7 (nil0) rfl
    have p88 := H8.cv 8 (nil0) rfl
    have p89 := H8.cv 9 (nil0) rfl
    have p810 := H8.cv 10 (nil0) rfl
    simp only [i0, nil0] at pa0 pa1 pa2 pb0 pb1 pb2 p74 p75 p76 p77 p78 p79 p710 p84 p85 p86 p87 p88 p89 p810
    go_wp2_with (first
      | (refine load_blk (B := w.heap.size) (k := 3) 48 (zFr) (by rfl) rfl rfl HA (by kernel_rfl) (by kernel_rfl) rfl ?_)
      | (refine load_blk (B := w.heap.size) (k := 24) 51 (zAr0.toArray) (by rfl) rfl rfl HA (by kernel_rfl) (by kernel_rfl) rfl ?_)
      | (refine load_blk (B := w.heap.size) (k := 45) 54 (zPa0.toArray) (by rfl) rfl rfl HA (by kernel_rfl) (by kernel_rfl) rfl ?_)
      | (refine load_blk (B := w.heap.size) (k := 55) 31 (bpC zBp) (by rfl) rfl rfl HA (by kernel_rfl) (by kernel_rfl) rfl ?_)
      | (refine load_blk (B := w.heap.size) (k := 142) 66 (zLa0.toArray) (by rfl) rfl rfl HA (by kernel_rfl) (by kernel_rfl) rfl ?_)
      | (refine load_blk (B := w.heap.size) (k := 165) 68 (zMk0.toArray) (by rfl) rfl rfl HA (by kernel_rfl) (by kernel_rfl) rfl ?_)
      | (refine load_blk (B := B) (k := 3) 48 (zFr) (by rfl) rfl rfl HB (by kernel_rfl) (by kernel_rfl) rfl ?_)
      | (refine load_blk (B := B) (k := 24) 51 (zAr0.toArray) (by rfl) rfl rfl HB (by kernel_rfl) (by kernel_rfl) rfl ?_)
      | (refine load_blk (B := B) (k := 45) 54 (zPa0.toArray) (by rfl) rfl rfl HB (by kernel_rfl) (by kernel_rfl) rfl ?_)
      | (refine load_blk (B := B) (k := 55) 31 (bpC zBp) (by rfl) rfl rfl HB (by kernel_rfl) (by kernel_rfl) rfl ?_)
      | (refine load_blk (B := B) (k := 142) 66 (zLa0.toArray) (by rfl) rfl rfl HB (by kernel_rfl) (by kernel_rfl) rfl ?_)
      | (refine load_blk (B := B) (k := 165) 68 (zMk0.toArray) (by rfl) rfl rfl HB (by kernel_rfl) (by kernel_rfl) rfl ?_)
      | (refine load_blk (B := b5) (k := 0) 31 (bpC zBp) (by rfl) rfl rfl H5 (by kernel_rfl) (by kernel_rfl) rfl ?_)
      | (refine load_blk (B := b5) (k := 35) 27 (brC zMs.br) (by rfl) rfl rfl H5 (by kernel_rfl) (by kernel_rfl) rfl ?_)
      | (refine load_blk (B := b6) (k := 0) 31 (bpC zBp) (by rfl) rfl rfl H6 (by kernel_rfl) (by kernel_rfl) rfl ?_)
      | (refine load_blk (B := b6) (k := 35) 27 (brC zMs.br) (by rfl) rfl rfl H6 (by kernel_rfl) (by kernel_rfl) rfl ?_)
      | (refine load_blk (B := b7) (k := 0) 56 (zNm0.toArray) (by rfl) rfl rfl H7 (by kernel_rfl) (by kernel_rfl) rfl ?_)
      | (refine load_blk (B := b7) (k := 2) 56 (zNm0.toArray) (by rfl) rfl rfl H7 (by kernel_rfl) (by kernel_rfl) rfl ?_)
      | (refine load_blk (B := b8) (k := 0) 56 (zNm0.toArray) (by rfl) rfl rfl H8 (by kernel_rfl) (by kernel_rfl) rfl ?_)
      | (refine load_blk (B := b8) (k := 2) 56 (zNm0.toArray) (by rfl) rfl rfl H8 (by kernel_rfl) (by kernel_rfl) rfl ?_))
    refine (eqNil_str _).mono ?_
    rintro e _ ⟨rfl, rfl⟩
    go_wp2_with (first
      | (refine load_blk (B := w.heap.size) (k := 3) 48 (zFr) (by rfl) rfl rfl HA (by kernel_rfl) (by kernel_rfl) rfl ?_)
      | (refine load_blk (B := w.heap.size) (k := 24) 51 (zAr0.toArray) (by rfl) rfl rfl HA (by kernel_rfl) (by kernel_rfl) rfl ?_)
      | (refine load_blk (B := w.heap.size) (k := 45) 54 (zPa0.toArray) (by rfl) rfl rfl HA (by kernel_rfl) (by kernel_rfl) rfl ?_)
      | (refine load_blk (B := w.heap.size) (k := 55) 31 (bpC zBp) (by rfl) rfl rfl HA (by kernel_rfl) (by kernel_rfl) rfl ?_)
      | (refine load_blk (B := w.heap.size) (k := 142) 66 (zLa0.toArray) (by rfl) rfl rfl HA (by kernel_rfl) (by kernel_rfl) rfl ?_)
      | (refine load_blk (B := w.heap.size) (k := 165) 68 (zMk0.toArray) (by rfl) rfl rfl HA (by kernel_rfl) (by kernel_rfl) rfl ?_)
      | (refine load_blk (B := B) (k := 3) 48 (zFr) (by rfl) rfl rfl HB (by kernel_rfl) (by kernel_rfl) rfl ?_)
      | (refine load_blk (B := B) (k := 24) 51 (zAr0.toArray) (by rfl) rfl rfl HB (by kernel_rfl) (by kernel_rfl) rfl ?_)
      | (refine load_blk (B := B) (k := 45) 54 (zPa0.toArray) (by rfl) rfl rfl HB (by kernel_rfl) (by kernel_rfl) rfl ?_)
      | (refine load_blk (B := B) (k := 55) 31 (bpC zBp) (by rfl) rfl rfl HB (by kernel_rfl) (by kernel_rfl) rfl ?_)
      | (refine load_blk (B := B) (k := 142) 66 (zLa0.toArray) (by rfl) rfl rfl HB (by kernel_rfl) (by kernel_rfl) rfl ?_)
      | (refine load_blk (B := B) (k := 165) 68 (zMk0.toArray) (by rfl) rfl rfl HB (by kernel_rfl) (by kernel_rfl) rfl ?_)
      | (refine load_blk (B := b5) (k := 0) 31 (bpC zBp) (by rfl) rfl rfl H5 (by kernel_rfl) (by kernel_rfl) rfl ?_)
      | (refine load_blk (B := b5) (k := 35) 27 (brC zMs.br) (by rfl) rfl rfl H5 (by kernel_rfl) (by kernel_rfl) rfl ?_)
      | (refine load_blk (B := b6) (k := 0) 31 (bpC zBp) (by rfl) rfl rfl H6 (by kernel_rfl) (by kernel_rfl) rfl ?_)
      | (refine load_blk (B := b6) (k := 35) 27 (brC zMs.br) (by rfl) rfl rfl H6 (by kernel_rfl) (by kernel_rfl) rfl ?_)
      | (refine load_blk (B := b7) (k := 0) 56 (zNm0.toArray) (by rfl) rfl rfl H7 (by kernel_rfl) (by kernel_rfl) rfl ?_)
      | (refine load_blk (B := b7) (k := 2) 56 (zNm0.toArray) (by rfl) rfl rfl H7 (by kernel_rfl) (by kernel_rfl) rfl ?_)
      | (refine load_blk (B := b8) (k := 0) 56 (zNm0.toArray) (by rfl) rfl rfl H8 (by kernel_rfl) (by kernel_rfl) rfl ?_)
      | (refine load_blk (B := b8) (k := 2) 56 (zNm0.toArray) (by rfl) rfl rfl H8 (by kernel_rfl) (by kernel_rfl) rfl ?_))
    refine (eqNil_str _).mono ?_
    rintro e _ ⟨rfl, rfl⟩
    go_wp2_with (first
      | (refine load_blk (B := w.heap.size) (k := 3) 48 (zFr) (by rfl) rfl rfl HA (by kernel_rfl) (by kernel_rfl) rfl ?_)
      | (refine load_blk (B := w.heap.size) (k := 24) 51 (zAr0.toArray) (by rfl) rfl rfl HA (by kernel_rfl) (by kernel_rfl) rfl ?_)
      | (refine load_blk (B := w.heap.size) (k := 45) 54 (zPa0.toArray) (by rfl) rfl rfl HA (by kernel_rfl) (by kernel_rfl) rfl ?_)
      | (refine load_blk (B := w.heap.size) (k := 55) 31 (bpC zBp) (by rfl) rfl rfl HA (by kernel_rfl) (by kernel_rfl) rfl ?_)
      | (refine load_blk (B := w.heap.size) (k := 142) 66 (zLa0.toArray) (by rfl) rfl rfl HA (by kernel_rfl) (by kernel_rfl) rfl ?_)
      | (refine load_blk (B := w.heap.size) (k := 165) 68 (zMk0.toArray) (by rfl) rfl rfl HA (by kernel_rfl) (by kernel_rfl) rfl ?_)
      | (refine load_blk (B := B) (k := 3) 48 (zFr) (by rfl) rfl rfl HB (by kernel_rfl) (by kernel_rfl) rfl ?_)
      | (refine load_blk (B := B) (k := 24) 51 (zAr0.toArray) (by rfl) rfl rfl HB (by kernel_rfl) (by kernel_rfl) rfl ?_)
      | (refine load_blk (B := B) (k := 45) 54 (zPa0.toArray) (by rfl) rfl rfl HB (by kernel_rfl) (by kernel_rfl) rfl ?_)
      | (refine load_blk (B := B) (k := 55) 31 (bpC zBp) (by rfl) rfl rfl HB (by kernel_rfl) (by kernel_rfl) rfl ?_)
      | (refine load_blk (B := B) (k := 142) 66 (zLa0.toArray) (by rfl) rfl rfl HB (by kernel_rfl) (by kernel_rfl) rfl ?_)
      | (refine load_blk (B := B) (k := 165) 68 (zMk0.toArray) (by rfl) rfl rfl HB (by kernel_rfl) (by kernel_rfl) rfl ?_)
      | (refine load_blk (B := b5) (k := 0) 31 (bpC zBp) (by rfl) rfl rfl H5 (by kernel_rfl) (by kernel_rfl) rfl ?_)
      | (refine load_blk (B := b5) (k := 35) 27 (brC zMs.br) (by rfl) rfl rfl H5 (by kernel_rfl) (by kernel_rfl) rfl ?_)
      | (refine load_blk (B := b6) (k := 0) 31 (bpC zBp) (by rfl) rfl rfl H6 (by kernel_rfl) (by kernel_rfl) rfl ?_)
      | (refine load_blk (B := b6) (k := 35) 27 (brC zMs.br) (by rfl) rfl rfl H6 (by kernel_rfl) (by kernel_rfl) rfl ?_)
      | (refine load_blk (B := b7) (k := 0) 56 (zNm0.toArray) (by rfl) rfl rfl H7 (by kernel_rfl) (by kernel_rfl) rfl ?_)
      | (refine load_blk (B := b7) (k := 2) 56 (zNm0.toArray) (by rfl) rfl rfl H7 (by kernel_rfl) (by kernel_rfl) rfl ?_)
      | (refine load_blk (B := b8) (k := 0) 56 (zNm0.toArray) (by rfl) rfl rfl H8 (by kernel_rfl) (by kernel_rfl) rfl ?_)
      | (refine load_blk (B := b8) (k := 2) 56 (zNm0.toArray) (by rfl) rfl rfl H8 (by kernel_rfl) (by kernel_rfl) rfl ?_))
    refine (eqNil_str _).mono ?_
    rintro e _ ⟨rfl, rfl⟩
    go_wp2_with (first
      | (refine load_blk (B := w.heap.size) (k := 3) 48 (zFr) (by rfl) rfl rfl HA (by kernel_rfl) (by kernel_rfl) rfl ?_)
      | (refine load_blk (B := w.heap.size) (k := 24) 51 (zAr0.toArray) (by rfl) rfl rfl HA (by kernel_rfl) (by kernel_rfl) rfl ?_)
      | (refine load_blk (B := w.heap.size) (k := 45) 54 (zPa0.toArray) (by rfl) rfl rfl HA (by kernel_rfl) (by kernel_rfl) rfl ?_)
      | (refine load_blk (B := w.heap.size) (k := 55) 31 (bpC zBp) (by rfl) rfl rfl HA (by kernel_rfl) (by kernel_rfl) rfl ?_)
      | (refine load_blk (B := w.heap.size) (k := 142) 66 (zLa0.toArray) (by rfl) rfl rfl HA (by kernel_rfl) (by kernel_rfl) rfl ?_)
      | (refine load_blk (B := w.heap.size) (k := 165) 68 (zMk0.toArray) (by rfl) rfl rfl HA (by kernel_rfl) (by kernel_rfl) rfl ?_)
      | (refine load_blk (B := B) (k := 3) 48 (zFr) (by rfl) rfl rfl HB (by kernel_rfl) (by kernel_rfl) rfl ?_)
      | (refine load_blk (B := B) (k := 24) 51 (zAr0.toArray) (by rfl) rfl rfl HB (by kernel_rfl) (by kernel_rfl) rfl ?_)
      | (refine load_blk (B := B) (k := 45) 54 (zPa0.toArray) (by rfl) rfl rfl HB (by kernel_rfl) (by kernel_rfl) rfl ?_)
      | (refine load_blk (B := B) (k := 55) 31 (bpC zBp) (by rfl) rfl rfl HB (by kernel_rfl) (by kernel_rfl) rfl ?_)
      | (refine load_blk (B := B) (k := 142) 66 (zLa0.toArray) (by rfl) rfl rfl HB (by kernel_rfl) (by kernel_rfl) rfl ?_)
      | (refine load_blk (B := B) (k := 165) 68 (zMk0.toArray) (by rfl) rfl rfl HB (by kernel_rfl) (by kernel_rfl) rfl ?_)
      | (refine load_blk (B := b5) (k := 0) 31 (bpC zBp) (by rfl) rfl rfl H5 (by kernel_rfl) (by kernel_rfl) rfl ?_)
      | (refine load_blk (B := b5) (k := 35) 27 (brC zMs.br) (by rfl) rfl rfl H5 (by kernel_rfl) (by kernel_rfl) rfl ?_)
      | (refine load_blk (B := b6) (k := 0) 31 (bpC zBp) (by rfl) rfl rfl H6 (by kernel_rfl) (by kernel_rfl) rfl ?_)
      | (refine load_blk (B := b6) (k := 35) 27 (brC zMs.br) (by rfl) rfl rfl H6 (by kernel_rfl) (by kernel_rfl) rfl ?_)
      | (refine load_blk (B := b7) (k := 0) 56 (zNm0.toArray) (by rfl) rfl rfl H7 (by kernel_rfl) (by kernel_rfl) rfl ?_)
      | (refine load_blk (B := b7) (k := 2) 56 (zNm0.toArray) (by rfl) rfl rfl H7 (by kernel_rfl) (by kernel_rfl) rfl ?_)
      | (refine load_blk (B := b8) (k := 0) 56 (zNm0.toArray) (by rfl) rfl rfl H8 (by kernel_rfl) (by kernel_rfl) rfl ?_)
      | (refine load_blk (B := b8) (k := 2) 56 (zNm0.toArray) (by rfl) rfl rfl H8 (by kernel_rfl) (by kernel_rfl) rfl ?_))
    refine (eqNil_caps _).mono ?_
    rintro e _ ⟨rfl, rfl⟩
    go_wp2_with (first
      | (refine load_blk (B := w.heap.size) (k := 3) 48 (zFr) (by rfl) rfl rfl HA (by kernel_rfl) (by kernel_rfl) rfl ?_)
      | (refine load_blk (B := w.heap.size) (k := 24) 51 (zAr0.toArray) (by rfl) rfl rfl HA (by kernel_rfl) (by kernel_rfl) rfl ?_)
      | (refine load_blk (B := w.heap.size) (k := 45) 54 (zPa0.toArray) (by rfl) rfl rfl HA (by kernel_rfl) (by kernel_rfl) rfl ?_)
      | (refine load_blk (B := w.heap.size) (k := 55) 31 (bpC zBp) (by rfl) rfl rfl HA (by kernel_rfl) (by kernel_rfl) rfl ?_)
      | (refine load_blk (B := w.heap.size) (k := 142) 66 (zLa0.toArray) (by rfl) rfl rfl HA (by kernel_rfl) (by kernel_rfl) rfl ?_)
      | (refine load_blk (B := w.heap.size) (k := 165) 68 (zMk0.toArray) (by rfl) rfl rfl HA (by kernel_rfl) (by kernel_rfl) rfl ?_)
      | (refine load_blk (B := B) (k := 3) 48 (zFr) (by rfl) rfl rfl HB (by kernel_rfl) (by kernel_rfl) rfl ?_)
      | (refine load_blk (B := B) (k := 24) 51 (zAr0.toArray) (by rfl) rfl rfl HB (by kernel_rfl) (by kernel_rfl) rfl ?_)
      | (refine load_blk (B := B) (k := 45) 54 (zPa0.toArray) (by rfl) rfl rfl HB (by kernel_rfl) (by kernel_rfl) rfl ?_)
      | (refine load_blk (B := B) (k := 55) 31 (bpC zBp) (by rfl) rfl rfl HB (by kernel_rfl) (by kernel_rfl) rfl ?_)
      | (refine load_blk (B := B) (k := 142) 66 (zLa0.toArray) (by rfl) rfl rfl HB (by kernel_rfl) (by kernel_rfl) rfl ?_)
      | (refine load_blk (B := B) (k := 165) 68 (zMk0.toArray) (by rfl) rfl rfl HB (by kernel_rfl) (by kernel_rfl) rfl ?_)
      | (refine load_blk (B := b5) (k := 0) 31 (bpC zBp) (by rfl) rfl rfl H5 (by kernel_rfl) (by kernel_rfl) rfl ?_)
      | (refine load_blk (B := b5) (k := 35) 27 (brC zMs.br) (by rfl) rfl rfl H5 (by kernel_rfl) (by kernel_rfl) rfl ?_)
      | (refine load_blk (B := b6) (k := 0) 31 (bpC zBp) (by rfl) rfl rfl H6 (by kernel_rfl) (by kernel_rfl) rfl ?_)
      | (refine load_blk (B := b6) (k := 35) 27 (brC zMs.br) (by rfl) rfl rfl H6 (by kernel_rfl) (by kernel_rfl) rfl ?_)
      | (refine load_blk (B := b7) (k := 0) 56 (zNm0.toArray) (by rfl) rfl rfl H7 (by kernel_rfl) (by kernel_rfl) rfl ?_)
      | (refine load_blk (B := b7) (k := 2) 56 (zNm0.toArray) (by rfl) rfl rfl H7 (by kernel_rfl) (by kernel_rfl) rfl ?_)
      | (refine load_blk (B := b8) (k := 0) 56 (zNm0.toArray) (by rfl) rfl rfl H8 (by kernel_rfl) (by kernel_rfl) rfl ?_)
      | (refine load_blk (B := b8) (k := 2) 56 (zNm0.toArray) (by rfl) rfl rfl H8 (by kernel_rfl) (by kernel_rfl) rfl ?_))
    refine (eqNil_man _).mono ?_
    rintro e _ ⟨rfl, rfl⟩
    go_wp2_with (first
      | (refine load_blk (B := w.heap.size) (k := 3) 48 (zFr) (by rfl) rfl rfl HA (by kernel_rfl) (by kernel_rfl) rfl ?_)
      | (refine load_blk (B := w.heap.size) (k := 24) 51 (zAr0.toArray) (by rfl) rfl rfl HA (by kernel_rfl) (by kernel_rfl) rfl ?_)
      | (refine load_blk (B := w.heap.size) (k := 45) 54 (zPa0.toArray) (by rfl) rfl rfl HA (by kernel_rfl) (by kernel_rfl) rfl ?_)
      | (refine load_blk (B := w.heap.size) (k := 55) 31 (bpC zBp) (by rfl) rfl rfl HA (by kernel_rfl) (by kernel_rfl) rfl ?_)
      | (refine load_blk (B := w.heap.size) (k := 142) 66 (zLa0.toArray) (by rfl) rfl rfl HA (by kernel_rfl) (by kernel_rfl) rfl ?_)
      | (refine load_blk (B := w.heap.size) (k := 165) 68 (zMk0.toArray) (by rfl) rfl rfl HA (by kernel_rfl) (by kernel_rfl) rfl ?_)
      | (refine load_blk (B := B) (k := 3) 48 (zFr) (by rfl) rfl rfl HB (by kernel_rfl) (by kernel_rfl) rfl ?_)
      | (refine load_blk (B := B) (k := 24) 51 (zAr0.toArray) (by rfl) rfl rfl HB (by kernel_rfl) (by kernel_rfl) rfl ?_)
      | (refine load_blk (B := B) (k := 45) 54 (zPa0.toArray) (by rfl) rfl rfl HB (by kernel_rfl) (by kernel_rfl) rfl ?_)
      | (refine load_blk (B := B) (k := 55) 31 (bpC zBp) (by rfl) rfl rfl HB (by kernel_rfl) (by kernel_rfl) rfl ?_)
      | (refine load_blk (B := B) (k := 142) 66 (zLa0.toArray) (by rfl) rfl rfl HB (by kernel_rfl) (by kernel_rfl) rfl ?_)
      | (refine load_blk (B := B) (k := 165) 68 (zMk0.toArray) (by rfl) rfl rfl HB (by kernel_rfl) (by kernel_rfl) rfl ?_)
      | (refine load_blk (B := b5) (k := 0) 31 (bpC zBp) (by rfl) rfl rfl H5 (by kernel_rfl) (by kernel_rfl) rfl ?_)
      | (refine load_blk (B := b5) (k := 35) 27 (brC zMs.br) (by rfl) rfl rfl H5 (by kernel_rfl) (by kernel_rfl) rfl ?_)
      | (refine load_blk (B := b6) (k := 0) 31 (bpC zBp) (by rfl) rfl rfl H6 (by kernel_rfl) (by kernel_rfl) rfl ?_)
      | (refine load_blk (B := b6) (k := 35) 27 (brC zMs.br) (by rfl) rfl rfl H6 (by kernel_rfl) (by kernel_rfl) rfl ?_)
      | (refine load_blk (B := b7) (k := 0) 56 (zNm0.toArray) (by rfl) rfl rfl H7 (by kernel_rfl) (by kernel_rfl) rfl ?_)
      | (refine load_blk (B := b7) (k := 2) 56 (zNm0.toArray) (by rfl) rfl rfl H7 (by kernel_rfl) (by kernel_rfl) rfl ?_)
      | (refine load_blk (B := b8) (k := 0) 56 (zNm0.toArray) (by rfl) rfl rfl H8 (by kernel_rfl) (by kernel_rfl) rfl ?_)
      | (refine load_blk (B := b8) (k := 2) 56 (zNm0.toArray) (by rfl) rfl rfl H8 (by kernel_rfl) (by kernel_rfl) rfl ?_))
    refine (eqNil_org _).mono ?_
    rintro e _ ⟨rfl, rfl⟩
    go_wp2_with (first
      | (refine load_blk (B := w.heap.size) (k := 3) 48 (zFr) (by rfl) rfl rfl HA (by kernel_rfl) (by kernel_rfl) rfl ?_)
      | (refine load_blk (B := w.heap.size) (k := 24) 51 (zAr0.toArray) (by rfl) rfl rfl HA (by kernel_rfl) (by kernel_rfl) rfl ?_)
      | (refine load_blk (B := w.heap.size) (k := 45) 54 (zPa0.toArray) (by rfl) rfl rfl HA (by kernel_rfl) (by kernel_rfl) rfl ?_)
      | (refine load_blk (B := w.heap.size) (k := 55) 31 (bpC zBp) (by rfl) rfl rfl HA (by kernel_rfl) (by kernel_rfl) rfl ?_)
      | (refine load_blk (B := w.heap.size) (k := 142) 66 (zLa0.toArray) (by rfl) rfl rfl HA (by kernel_rfl) (by kernel_rfl) rfl ?_)
      | (refine load_blk (B := w.heap.size) (k := 165) 68 (zMk0.toArray) (by rfl) rfl rfl HA (by kernel_rfl) (by kernel_rfl) rfl ?_)
      | (refine load_blk (B := B) (k := 3) 48 (zFr) (by rfl) rfl rfl HB (by kernel_rfl) (by kernel_rfl) rfl ?_)
      | (refine load_blk (B := B) (k := 24) 51 (zAr0.toArray) (by rfl) rfl rfl HB (by kernel_rfl) (by kernel_rfl) rfl ?_)
      | (refine load_blk (B := B) (k := 45) 54 (zPa0.toArray) (by rfl) rfl rfl HB (by kernel_rfl) (by kernel_rfl) rfl ?_)
      | (refine load_blk (B := B) (k := 55) 31 (bpC zBp) (by rfl) rfl rfl HB (by kernel_rfl) (by kernel_rfl) rfl ?_)
      | (refine load_blk (B := B) (k := 142) 66 (zLa0.toArray) (by rfl) rfl rfl HB (by kernel_rfl) (by kernel_rfl) rfl ?_)
      | (refine load_blk (B := B) (k := 165) 68 (zMk0.toArray) (by rfl) rfl rfl HB (by kernel_rfl) (by kernel_rfl) rfl ?_)
      | (refine load_blk (B := b5) (k := 0) 31 (bpC zBp) (by rfl) rfl rfl H5 (by kernel_rfl) (by kernel_rfl) rfl ?_)
      | (refine load_blk (B := b5) (k := 35) 27 (brC zMs.br) (by rfl) rfl rfl H5 (by kernel_rfl) (by kernel_rfl) rfl ?_)
      | (refine load_blk (B := b6) (k := 0) 31 (bpC zBp) (by rfl) rfl rfl H6 (by kernel_rfl) (by kernel_rfl) rfl ?_)
      | (refine load_blk (B := b6) (k := 35) 27 (brC zMs.br) (by rfl) rfl rfl H6 (by kernel_rfl) (by kernel_rfl) rfl ?_)
      | (refine load_blk (B := b7) (k := 0) 56 (zNm0.toArray) (by rfl) rfl rfl H7 (by kernel_rfl) (by kernel_rfl) rfl ?_)
      | (refine load_blk (B := b7) (k := 2) 56 (zNm0.toArray) (by rfl) rfl rfl H7 (by kernel_rfl) (by kernel_rfl) rfl ?_)
      | (refine load_blk (B := b8) (k := 0) 56 (zNm0.toArray) (by rfl) rfl rfl H8 (by kernel_rfl) (by kernel_rfl) rfl ?_)
      | (refine load_blk (B := b8) (k := 2) 56 (zNm0.toArray) (by rfl) rfl rfl H8 (by kernel_rfl) (by kernel_rfl) rfl ?_))
    refine (HS.out _ (h1.below HW) (h2.below HW)).mono ?_
    rintro e v9 ⟨rfl, kk⟩
    have HW9 := HW.trans (kk.mono HW.size)
    go_wp2
    go_ret
    exact ⟨rfl, HW9⟩

end Go.Proofs.YtdjljnpbnhampaaDoor

namespace Go.Proofs.YtdjljnpbnhampaaDoor
open Go.RowKit Go.Extern.Stop Go.Stop Go.Extern

/-! Closed facts on the entries for internal/reflectlite at this program's types. -/

theorem Tryd.rlValueOfPE (t : Addr) (w : World) : (ReflectliteValue.unpack (.iface 152 (.pointer (some t)))).run Tryd.prog w
    = .ok (.agg #[.pointer (some ⟨4, 152, none⟩), .pointer (some ⟨w.heap.size, 0, none⟩), .int .u64 150]) (w.alloc (.cells #[.pointer (some t)] 152)) := by kernel_rfl

theorem Tryd.rlTypePE (a : Addr) (w : World) : (ReflectliteValue.methodAny (ReflectliteValue.valueError "reflectlite.Value.Type" 0) (fun t _ _ _ => ReflectliteType.toType t) #[.agg #[.pointer (some ⟨4, 152, none⟩), .pointer (some a), .int .u64 150]]).run Tryd.prog w
    = .ok (.iface 221 (.agg #[.pointer (some ⟨4, 152, none⟩)])) w := by kernel_rfl

theorem Tryd.rlMethodKind (h : Value) (w : World) : (Go.method 372 221 (.agg #[h]) "Kind").run Tryd.prog w = .ok (147, h) w := by kernel_rfl

theorem Tryd.rlKindPE (w : World) : ((ReflectliteType.abiMethod fun t => (fun a : Nat => Value.int IntKind.u8 (a : Int)) <$> Rtype.kind t) #[.pointer (some ⟨4, 152, none⟩)]).run Tryd.prog w = .ok (.int .u8 22) w := by kernel_rfl

theorem Tryd.rlKindE (w : World) : ((ReflectliteType.abiMethod fun t => (fun a : Nat => Value.int IntKind.u8 (a : Int)) <$> Rtype.kind t) #[.pointer (some ⟨4, 35, none⟩)]).run Tryd.prog w = .ok (.int .u8 2) w := by kernel_rfl

theorem Tryd.rlPartsPE (a : Addr) (w : World) : (ReflectliteValue.parts (.agg #[.pointer (some ⟨4, 152, none⟩), .pointer (some a), .int .u64 150])).run Tryd.prog w = .ok (some (152, a, 150)) w := by kernel_rfl

theorem Tryd.rlIsNilPE (a p : Addr) (W : World) (ha : W.cell? a = some (.pointer (some p))) :
    (ReflectliteValue.method (ReflectliteValue.valueError "reflectlite.Value.IsNil" 0) ReflectliteValue.isNil #[.agg #[.pointer (some ⟨4, 152, none⟩), .pointer (some a), .int .u64 150]]).run Tryd.prog W = .ok (.bool false) W := by
  change Sem.run _ (ReflectliteValue.parts (.agg #[.pointer (some ⟨4, 152, none⟩), .pointer (some a), .int .u64 150]) >>= _) _ = _
  simp only [Sem.run_bind, Tryd.rlPartsPE, Result.andThen]
  simp [ReflectliteValue.isNil, loadVar, isAgg, underlying, Tryd.underlying152, ha, Result.andThen]

theorem Tryd.rlMethodElem (h : Value) (w : World) : (Go.method 372 221 (.agg #[h]) "Elem").run Tryd.prog w = .ok (160, .agg #[h]) w := by kernel_rfl

theorem Tryd.rlMethodImplements (h : Value) (w : World) : (Go.method 372 221 (.agg #[h]) "Implements").run Tryd.prog w = .ok (161, .agg #[h]) w := by kernel_rfl

theorem Tryd.rlMethodAssignableTo (h : Value) (w : World) : (Go.method 372 221 (.agg #[h]) "AssignableTo").run Tryd.prog w = .ok (158, .agg #[h]) w := by kernel_rfl

theorem Tryd.rlElemPE (w : World) : (ReflectliteType.method ReflectliteType.elem #[.agg #[.pointer (some ⟨4, 152, none⟩)]]).run Tryd.prog w = .ok (.iface 221 (.agg #[.pointer (some ⟨4, 35, none⟩)])) w := by kernel_rfl

theorem Tryd.rlImplementsE (w : World) : (ReflectliteType.relation "Implements" ReflectliteType.implements_ #[.agg #[.pointer (some ⟨4, 35, none⟩)], .iface 221 (.agg #[.pointer (some ⟨4, 41, none⟩)])]).run Tryd.prog w = .ok (.bool true) w := by kernel_rfl

theorem Tryd.rlTypeOfE (v : Value) (w : World) : (ReflectliteType.typeOf #[.iface 35 v]).run Tryd.prog w = .ok (.iface 221 (.agg #[.pointer (some ⟨4, 35, none⟩)])) w := by kernel_rfl

theorem Tryd.rlTypeOfA (v : Value) (w : World) : (ReflectliteType.typeOf #[.iface 142 v]).run Tryd.prog w = .ok (.iface 221 (.agg #[.pointer (some ⟨4, 142, none⟩)])) w := by kernel_rfl

theorem Tryd.rlAssignableEE (w : World) : (ReflectliteType.relation "AssignableTo" ReflectliteType.assignableTo #[.agg #[.pointer (some ⟨4, 35, none⟩)], .iface 221 (.agg #[.pointer (some ⟨4, 35, none⟩)])]).run Tryd.prog w = .ok (.bool true) w := by kernel_rfl

theorem Tryd.rlAssignableAE (w : World) : (ReflectliteType.relation "AssignableTo" ReflectliteType.assignableTo #[.agg #[.pointer (some ⟨4, 142, none⟩)], .iface 221 (.agg #[.pointer (some ⟨4, 35, none⟩)])]).run Tryd.prog w = .ok (.bool false) w := by kernel_rfl

theorem Tryd.rlValueOfE (x : Int) (w : World) : (ReflectliteValue.unpack (.iface 35 (.int .i64 x))).run Tryd.prog w
    = .ok (.agg #[.pointer (some ⟨4, 35, none⟩), .pointer (some ⟨w.heap.size, 0, none⟩), .int .u64 130]) (w.alloc (.cells #[.int .i64 x] 35)) := by kernel_rfl

theorem Tryd.rlElemOfPE (w : World) : (Rtype.elem? 152).run Tryd.prog w = .ok (some 35) w := by kernel_rfl

theorem Tryd.rlMkE (p : Addr) (w : World) : (ReflectliteValue.mk 35 p ReflectliteValue.flagAddr).run Tryd.prog w = .ok (.agg #[.pointer (some ⟨4, 35, none⟩), .pointer (some p), .int .u64 386]) w := by kernel_rfl

theorem Tryd.rlElemVPE (a p : Addr) (W : World) (ha : W.cell? a = some (.pointer (some p))) :
    (ReflectliteValue.method (ReflectliteValue.valueError "reflectlite.Value.Elem" 0) ReflectliteValue.elem #[.agg #[.pointer (some ⟨4, 152, none⟩), .pointer (some a), .int .u64 150]]).run Tryd.prog W
      = .ok (.agg #[.pointer (some ⟨4, 35, none⟩), .pointer (some p), .int .u64 386]) W := by
  change Sem.run _ (ReflectliteValue.parts (.agg #[.pointer (some ⟨4, 152, none⟩), .pointer (some a), .int .u64 150]) >>= _) _ = _
  simp only [Sem.run_bind, Tryd.rlPartsPE, Result.andThen]
  simp [ReflectliteValue.elem, loadVar, isAgg, underlying, Tryd.underlying152, ha, Result.andThen, Tryd.rlElemOfPE, Tryd.rlMkE]

theorem Tryd.rlPartsEa (a : Addr) (w : World) : (ReflectliteValue.parts (.agg #[.pointer (some ⟨4, 35, none⟩), .pointer (some a), .int .u64 386])).run Tryd.prog w = .ok (some (35, a, 386)) w := by kernel_rfl

theorem Tryd.rlPartsE (a : Addr) (w : World) : (ReflectliteValue.parts (.agg #[.pointer (some ⟨4, 35, none⟩), .pointer (some a), .int .u64 130])).run Tryd.prog w = .ok (some (35, a, 130)) w := by kernel_rfl

theorem Tryd.rlDirectE (w : World) : (Rtype.directlyAssignable 35 35).run Tryd.prog w = .ok true w := by kernel_rfl

theorem Tryd.rlSizeE (w : World) : (sizeOf 35).run Tryd.prog w = .ok 1 w := by kernel_rfl

theorem Tryd.rlSetE (ta b : Addr) (x : Int) (old : Value) (W : World) (hb : W.cell? b = some (.int .i64 x)) (ht : W.cell? ta = some old) (hf : W.frozen? ta = false) :
    (ReflectliteValue.set #[.agg #[.pointer (some ⟨4, 35, none⟩), .pointer (some ta), .int .u64 386], .agg #[.pointer (some ⟨4, 35, none⟩), .pointer (some b), .int .u64 130]]).run Tryd.prog W
      = .ok (.tuple #[]) (W.setCell ta (.int .i64 x)) := by
  change Sem.run _ (ReflectliteValue.parts (.agg #[.pointer (some ⟨4, 35, none⟩), .pointer (some ta), .int .u64 386]) >>= fun _ => ReflectliteValue.parts (.agg #[.pointer (some ⟨4, 35, none⟩), .pointer (some b), .int .u64 130]) >>= _) _ = _
  simp only [Sem.run_bind, Tryd.rlPartsEa, Tryd.rlPartsE, Result.andThen]
  simp [ReflectliteValue.flagAddr, loadVar, isAgg, underlying, Tryd.underlying35, hb, Result.andThen, Tryd.rlDirectE, storeVar, Value.cells, storeCells, Addr.add]
  rw [run_store Tryd.prog W ta _ _ (by rfl)]
  simp [ht, hf]

end Go.Proofs.YtdjljnpbnhampaaDoor

namespace Go.Proofs.YtdjljnpbnhampaaDoor
open Go.RowKit Go.Extern.Stop Go.Stop Go.Extern

/-- The variable errors.errorType holds the type error's handle. -/
def HasErr (w : World) : Prop := w.cell? ⟨0, 0, none⟩ = some (.iface 221 (.agg #[.pointer (some ⟨4, 41, none⟩)]))

theorem HasErr.lt {w : World} (h : HasErr w) : 0 < w.heap.size := by
  rcases Nat.lt_or_ge 0 w.heap.size with h' | h'
  · exact h'
  · have : w.cell? ⟨0, 0, none⟩ = none := by simp [World.cell?, Array.getElem?_eq_none h']
    unfold HasErr at h
    rw [this] at h
    cases h

theorem HasErr.alloc {w : World} (h : HasErr w) (o : Obj) : HasErr (w.alloc o) := (World.cell?_alloc_lt _ _ _ h.lt).trans h

theorem HasErr.below {w w' : World} (h : HasErr w) (hb : Below w.heap.size w w') : HasErr w' := (hb.cell (p := ⟨0, 0, none⟩) h.lt).trans h

theorem as_nil (t : Value) (w : World) :
    Calls Tryd.prog 69 #[.nilIface, t] w fun e w' => e = .returned (.bool false) ∧ w' = w := by
  go_enter Tryd.func69, Tryd.ntmps69
  go_wp2
  go_ret
  exact ⟨rfl, rfl⟩

set_option maxHeartbeats 4000000 in
/-- errors.As, the error is an Errno: it is found. -/
theorem as_errno (x : Int) (t : Addr) (old : Value) (w : World) (hg : HasErr w) (ht0 : w.cell? t = some old) (hf0 : w.frozen? t = false) :
    Calls Tryd.prog 69 #[.iface 35 (.int .i64 x), .iface 152 (.pointer (some t))] w fun ev w' => ev = .returned (.bool true) ∧ ∃ w1, Below w.heap.size w w1 ∧ w' = w1.setCell t (.int .i64 x) := by
  have hVO := @run_callFunc_extern Tryd.prog 97 _ (fun args => ReflectliteValue.unpack (args.getD 0 (.tuple #[]))) Tryd.func97 (by kernel_rfl) (by kernel_rfl) (by kernel_rfl) (by kernel_rfl)
  have hTy := @run_callFunc_extern Tryd.prog 98 _ (ReflectliteValue.methodAny (ReflectliteValue.valueError "reflectlite.Value.Type" 0) (fun t _ _ _ => ReflectliteType.toType t)) Tryd.func98 (by kernel_rfl) (by kernel_rfl) (by kernel_rfl) (by kernel_rfl)
  have hIN := @run_callFunc_extern Tryd.prog 99 _ (ReflectliteValue.method (ReflectliteValue.valueError "reflectlite.Value.IsNil" 0) ReflectliteValue.isNil) Tryd.func99 (by kernel_rfl) (by kernel_rfl) (by kernel_rfl) (by kernel_rfl)
  have hKi := @run_callFunc_extern Tryd.prog 147 _ (ReflectliteType.abiMethod fun t => do pure (.int .u8 (← Rtype.kind t))) Tryd.func147 (by kernel_rfl) (by kernel_rfl) (by kernel_rfl) (by kernel_rfl)
  have hEl := @run_callFunc_extern Tryd.prog 160 _ (ReflectliteType.method ReflectliteType.elem) Tryd.func160 (by kernel_rfl) (by kernel_rfl) (by kernel_rfl) (by kernel_rfl)
  have hIm := @run_callFunc_extern Tryd.prog 161 _ (ReflectliteType.relation "Implements" ReflectliteType.implements_) Tryd.func161 (by kernel_rfl) (by kernel_rfl) (by kernel_rfl) (by kernel_rfl)
  have hTO := @run_callFunc_extern Tryd.prog 115 _ ReflectliteType.typeOf Tryd.func115 (by kernel_rfl) (by kernel_rfl) (by kernel_rfl) (by kernel_rfl)
  have hAT := @run_callFunc_extern Tryd.prog 158 _ (ReflectliteType.relation "AssignableTo" ReflectliteType.assignableTo) Tryd.func158 (by kernel_rfl) (by kernel_rfl) (by kernel_rfl) (by kernel_rfl)
  have hEV := @run_callFunc_extern Tryd.prog 116 _ (ReflectliteValue.method (ReflectliteValue.valueError "reflectlite.Value.Elem" 0) ReflectliteValue.elem) Tryd.func116 (by kernel_rfl) (by kernel_rfl) (by kernel_rfl) (by kernel_rfl)
  have hSe := @run_callFunc_extern Tryd.prog 117 _ ReflectliteValue.set Tryd.func117 (by kernel_rfl) (by kernel_rfl) (by kernel_rfl) (by kernel_rfl)
  have q1 := Tryd.rlValueOfPE
  have q2 := Tryd.rlTypePE
  have q3 := Tryd.rlMethodKind
  have q4 := Tryd.rlKindPE
  have q5 := Tryd.rlKindE
  have q6 := Tryd.rlMethodElem
  have q7 := Tryd.rlMethodImplements
  have q8 := Tryd.rlMethodAssignableTo
  have q9 := Tryd.rlElemPE
  have q10 := Tryd.rlImplementsE
  have q11 := Tryd.rlTypeOfE
  have q12 := Tryd.rlAssignableEE
  have q13 := Tryd.rlValueOfE
  have n8 := Tryd.rlIsNilPE ⟨w.heap.size, 0, none⟩ t ((w.alloc (.cells #[.pointer (some t)] 152)).alloc (.cells #[.pointer (some ⟨4, 152, none⟩), .pointer (some ⟨w.heap.size, 0, none⟩), .int .u64 150] 197)) (by simp)
  have hg2 : ((w.alloc (.cells #[.pointer (some t)] 152)).alloc (.cells #[.pointer (some ⟨4, 152, none⟩), .pointer (some ⟨w.heap.size, 0, none⟩), .int .u64 150] 197)).cell? ⟨0, 0, none⟩ = some (.iface 221 (.agg #[.pointer (some ⟨4, 41, none⟩)])) := (hg.alloc _).alloc _
  have htl : t.block < w.heap.size := by
    rcases Nat.lt_or_ge t.block w.heap.size with h | h
    · exact h
    · simp [World.cell?, Array.getElem?_eq_none h] at ht0
  have el := Tryd.rlElemVPE ⟨w.heap.size, 0, none⟩ t (((w.alloc (.cells #[.pointer (some t)] 152)).alloc (.cells #[.pointer (some ⟨4, 152, none⟩), .pointer (some ⟨w.heap.size, 0, none⟩), .int .u64 150] 197)).alloc (.cells #[.pointer (some ⟨4, 152, none⟩), .pointer (some ⟨w.heap.size, 0, none⟩), .int .u64 150] 197)) (by rw [World.cell?_alloc_lt _ _ ⟨w.heap.size, 0, none⟩ (by simp; omega)]; simp)
  have st := Tryd.rlSetE t ⟨w.heap.size + 1 + 1 + 1, 0, none⟩ x old ((((w.alloc (.cells #[.pointer (some t)] 152)).alloc (.cells #[.pointer (some ⟨4, 152, none⟩), .pointer (some ⟨w.heap.size, 0, none⟩), .int .u64 150] 197)).alloc (.cells #[.pointer (some ⟨4, 152, none⟩), .pointer (some ⟨w.heap.size, 0, none⟩), .int .u64 150] 197)).alloc (.cells #[.int .i64 x] 35))
    (by rw [World.cell?_alloc_at _ _ _ _ (by simp)]; rfl)
    (by rw [World.cell?_alloc_lt _ _ t (by simp; omega), World.cell?_alloc_lt _ _ t (by simp; omega), World.cell?_alloc_lt _ _ t (by simp; omega), World.cell?_alloc_lt _ _ t htl]; exact ht0)
    (by rw [World.frozen?_alloc_old _ _ t (by simp; omega), World.frozen?_alloc_old _ _ t (by simp; omega), World.frozen?_alloc_old _ _ t (by simp; omega), World.frozen?_alloc_old _ _ t (Nat.ne_of_lt htl)]; exact hf0)
  have hB : Below w.heap.size w ((((w.alloc (.cells #[.pointer (some t)] 152)).alloc (.cells #[.pointer (some ⟨4, 152, none⟩), .pointer (some ⟨w.heap.size, 0, none⟩), .int .u64 150] 197)).alloc (.cells #[.pointer (some ⟨4, 152, none⟩), .pointer (some ⟨w.heap.size, 0, none⟩), .int .u64 150] 197)).alloc (.cells #[.int .i64 x] 35)) := ((((Below.refl _ _).alloc (Nat.le_refl _) _).alloc (by simp) _).alloc (by simp; omega) _).alloc (by simp; omega) _
  have HB := Lib.hid hB
  clear hB
  go_enter Tryd.func69, Tryd.ntmps69
  go_wp2
  refine wp_loop_rounds 1 ?_
  rw [rounds_succ]
  go_wp2
  go_ret
  exact ⟨rfl, _, HB.out, rfl⟩
/-! What is asked of an *api.At: it has no As, it has an Unwrap. -/

theorem Tryd.noAsA (v : Value) (xT : TypeId) (w : World) : (Instr.typeAssert (.iface 142 v) xT 226 true).run Tryd.prog w = .ok (.tuple #[.nilIface, .bool false]) w :=
  run_typeAssert_lacksB Tryd.underlying226 (by kernel_rfl) (by kernel_rfl) v xT w

theorem Tryd.hasUnwrapA (v : Value) (xT : TypeId) (w : World) : (Instr.typeAssert (.iface 142 v) xT 175 true).run Tryd.prog w = .ok (.tuple #[.iface 142 v, .bool true]) w :=
  run_typeAssert_hasB Tryd.underlying175 (by kernel_rfl) v xT w

theorem Tryd.methodUnwrapA (a : Addr) (w : World) : (Go.method 372 142 (.pointer (some a)) "Unwrap").run Tryd.prog w = .ok (152, .pointer (some a)) w := by kernel_rfl

theorem Tryd.nilAheadA (a : Addr) (w : World) : (Go.nilAhead 372 142 (.pointer (some a)) "Unwrap").run Tryd.prog w = .ok (some false) w := by kernel_rfl

set_option maxHeartbeats 4000000 in
/-- errors.As, the error is an *api.At: its Unwrap is asked, and is an Errno. -/
theorem as_at (p : Nat) (x y : Int) (t : Addr) (old : Value) (w : World) (hp : Flt w p x y) (hg : HasErr w) (ht0 : w.cell? t = some old) (hf0 : w.frozen? t = false) :
    Calls Tryd.prog 69 #[.iface 142 (.pointer (some ⟨p, 0, none⟩)), .iface 152 (.pointer (some t))] w fun ev w' => ev = .returned (.bool true) ∧ ∃ w1, Below w.heap.size w w1 ∧ w' = w1.setCell t (.int .i64 x) := by
  have hVO := @run_callFunc_extern Tryd.prog 97 _ (fun args => ReflectliteValue.unpack (args.getD 0 (.tuple #[]))) Tryd.func97 (by kernel_rfl) (by kernel_rfl) (by kernel_rfl) (by kernel_rfl)
  have hTy := @run_callFunc_extern Tryd.prog 98 _ (ReflectliteValue.methodAny (ReflectliteValue.valueError "reflectlite.Value.Type" 0) (fun t _ _ _ => ReflectliteType.toType t)) Tryd.func98 (by kernel_rfl) (by kernel_rfl) (by kernel_rfl) (by kernel_rfl)
  have hIN := @run_callFunc_extern Tryd.prog 99 _ (ReflectliteValue.method (ReflectliteValue.valueError "reflectlite.Value.IsNil" 0) ReflectliteValue.isNil) Tryd.func99 (by kernel_rfl) (by kernel_rfl) (by kernel_rfl) (by kernel_rfl)
  have hKi := @run_callFunc_extern Tryd.prog 147 _ (ReflectliteType.abiMethod fun t => do pure (.int .u8 (← Rtype.kind t))) Tryd.func147 (by kernel_rfl) (by kernel_rfl) (by kernel_rfl) (by kernel_rfl)
  have hEl := @run_callFunc_extern Tryd.prog 160 _ (ReflectliteType.method ReflectliteType.elem) Tryd.func160 (by kernel_rfl) (by kernel_rfl) (by kernel_rfl) (by kernel_rfl)
  have hIm := @run_callFunc_extern Tryd.prog 161 _ (ReflectliteType.relation "Implements" ReflectliteType.implements_) Tryd.func161 (by kernel_rfl) (by kernel_rfl) (by kernel_rfl) (by kernel_rfl)
  have hTO := @run_callFunc_extern Tryd.prog 115 _ ReflectliteType.typeOf Tryd.func115 (by kernel_rfl) (by kernel_rfl) (by kernel_rfl) (by kernel_rfl)
  have hAT := @run_callFunc_extern Tryd.prog 158 _ (ReflectliteType.relation "AssignableTo" ReflectliteType.assignableTo) Tryd.func158 (by kernel_rfl) (by kernel_rfl) (by kernel_rfl) (by kernel_rfl)
  have hEV := @run_callFunc_extern Tryd.prog 116 _ (ReflectliteValue.method (ReflectliteValue.valueError "reflectlite.Value.Elem" 0) ReflectliteValue.elem) Tryd.func116 (by kernel_rfl) (by kernel_rfl) (by kernel_rfl) (by kernel_rfl)
  have hSe := @run_callFunc_extern Tryd.prog 117 _ ReflectliteValue.set Tryd.func117 (by kernel_rfl) (by kernel_rfl) (by kernel_rfl) (by kernel_rfl)
  have q1 := Tryd.rlValueOfPE
  have q2 := Tryd.rlTypePE
  have q3 := Tryd.rlMethodKind
  have q4 := Tryd.rlKindPE
  have q5 := Tryd.rlKindE
  have q6 := Tryd.rlMethodElem
  have q7 := Tryd.rlMethodImplements
  have q8 := Tryd.rlMethodAssignableTo
  have q9 := Tryd.rlElemPE
  have q10 := Tryd.rlImplementsE
  have q11 := Tryd.rlTypeOfE
  have q12 := Tryd.rlAssignableEE
  have q13 := Tryd.rlValueOfE
  have q14 := Tryd.rlTypeOfA
  have q15 := Tryd.rlAssignableAE
  have q16 := Tryd.noAsA
  have q17 := Tryd.hasUnwrapA
  have q18 := Tryd.methodUnwrapA
  have q19 := Tryd.nilAheadA
  have n8 := Tryd.rlIsNilPE ⟨w.heap.size, 0, none⟩ t ((w.alloc (.cells #[.pointer (some t)] 152)).alloc (.cells #[.pointer (some ⟨4, 152, none⟩), .pointer (some ⟨w.heap.size, 0, none⟩), .int .u64 150] 197)) (by simp)
  have hg2 : ((w.alloc (.cells #[.pointer (some t)] 152)).alloc (.cells #[.pointer (some ⟨4, 152, none⟩), .pointer (some ⟨w.heap.size, 0, none⟩), .int .u64 150] 197)).cell? ⟨0, 0, none⟩ = some (.iface 221 (.agg #[.pointer (some ⟨4, 41, none⟩)])) := (hg.alloc _).alloc _
  have htl : t.block < w.heap.size := by
    rcases Nat.lt_or_ge t.block w.heap.size with h | h
    · exact h
    · simp [World.cell?, Array.getElem?_eq_none h] at ht0
  have el := Tryd.rlElemVPE ⟨w.heap.size, 0, none⟩ t (((w.alloc (.cells #[.pointer (some t)] 152)).alloc (.cells #[.pointer (some ⟨4, 152, none⟩), .pointer (some ⟨w.heap.size, 0, none⟩), .int .u64 150] 197)).alloc (.cells #[.pointer (some ⟨4, 152, none⟩), .pointer (some ⟨w.heap.size, 0, none⟩), .int .u64 150] 197)) (by rw [World.cell?_alloc_lt _ _ ⟨w.heap.size, 0, none⟩ (by simp; omega)]; simp)
  have st := Tryd.rlSetE t ⟨w.heap.size + 1 + 1 + 1, 0, none⟩ x old ((((w.alloc (.cells #[.pointer (some t)] 152)).alloc (.cells #[.pointer (some ⟨4, 152, none⟩), .pointer (some ⟨w.heap.size, 0, none⟩), .int .u64 150] 197)).alloc (.cells #[.pointer (some ⟨4, 152, none⟩), .pointer (some ⟨w.heap.size, 0, none⟩), .int .u64 150] 197)).alloc (.cells #[.int .i64 x] 35))
    (by rw [World.cell?_alloc_at _ _ _ _ (by simp)]; rfl)
    (by rw [World.cell?_alloc_lt _ _ t (by simp; omega), World.cell?_alloc_lt _ _ t (by simp; omega), World.cell?_alloc_lt _ _ t (by simp; omega), World.cell?_alloc_lt _ _ t htl]; exact ht0)
    (by rw [World.frozen?_alloc_old _ _ t (by simp; omega), World.frozen?_alloc_old _ _ t (by simp; omega), World.frozen?_alloc_old _ _ t (by simp; omega), World.frozen?_alloc_old _ _ t (Nat.ne_of_lt htl)]; exact hf0)
  have hB : Below w.heap.size w ((((w.alloc (.cells #[.pointer (some t)] 152)).alloc (.cells #[.pointer (some ⟨4, 152, none⟩), .pointer (some ⟨w.heap.size, 0, none⟩), .int .u64 150] 197)).alloc (.cells #[.pointer (some ⟨4, 152, none⟩), .pointer (some ⟨w.heap.size, 0, none⟩), .int .u64 150] 197)).alloc (.cells #[.int .i64 x] 35)) := ((((Below.refl _ _).alloc (Nat.le_refl _) _).alloc (by simp) _).alloc (by simp; omega) _).alloc (by simp; omega) _
  have hc0 : (((w.alloc (.cells #[.pointer (some t)] 152)).alloc (.cells #[.pointer (some ⟨4, 152, none⟩), .pointer (some ⟨w.heap.size, 0, none⟩), .int .u64 150] 197)).alloc (.cells #[.pointer (some ⟨4, 152, none⟩), .pointer (some ⟨w.heap.size, 0, none⟩), .int .u64 150] 197)).cell? ⟨p, 0, none⟩ = some (.int .i64 x) := (((hp.alloc _).alloc _).alloc _).c0
  have HB := Lib.hid hB
  clear hB
  go_enter Tryd.func69, Tryd.ntmps69
  go_wp2
  refine wp_loop_rounds 2 ?_
  rw [rounds_succ]
  go_wp2
  rw [rounds_succ]
  go_wp2
  go_ret
  exact ⟨rfl, _, HB.out, rfl⟩

end Go.Proofs.YtdjljnpbnhampaaDoor

namespace Go.Proofs.YtdjljnpbnhampaaDoor
open Go.RowKit Go.Extern.Stop Go.Stop Go.Extern

/-- What errors.As leaves: the target holds the Errno; nothing else that was there is changed. -/
theorem as_left {t : Addr} {x : Int} {old : Value} {w w1 : World} (hb : Below w.heap.size w w1) (ht : w.cell? t = some old) :
    (w1.setCell t (.int .i64 x)).cell? t = some (.int .i64 x) ∧ w.grownBy (w1.setCell t (.int .i64 x)) (some t.block) := by
  have hlt : t.block < w.heap.size := World.block_lt_of_cell? w t ht
  have hc : w1.cell? t = some old := (hb.cell hlt).trans ht
  refine ⟨World.cell?_setCell_same' w1 t _ (by rw [hc]; rfl), hb.os, hb.tape, hb.output, by simpa [World.setCell] using hb.size, fun k hk hne => ?_⟩
  exact (Below.heap_setCell _ _ _ _ (by intro e; exact hne (by rw [e]))).trans (hb.block k hk)

theorem tell_nil (w : World) : Calls Tryd.prog 23 #[.nilIface] w fun e w' => e = .returned (.int .i64 0) ∧ w = w' := by
  go_enter Tryd.func23, Tryd.ntmps23
  go_wp2
  go_ret
  exact ⟨rfl, rfl⟩

theorem tell_errno (x : Int) (w : World) (hg : HasErr w) : Calls Tryd.prog 23 #[.iface 35 (.int .i64 x)] w fun e w' => e = .returned (.int .i64 x) ∧ Below w.heap.size w w' := by
  go_enter Tryd.func23, Tryd.ntmps23
  go_wp2_with fail
  have hc : (w.alloc (.cells #[.int .i64 0] 35)).cell? ⟨w.heap.size, 0, none⟩ = some (.int .i64 0) := by simp
  refine (as_errno x ⟨w.heap.size, 0, none⟩ (.int .i64 0) _ (hg.alloc _) hc (by simp)).mono ?_
  rintro e w' ⟨rfl, w1, hb1, rfl⟩
  obtain ⟨h1, h2⟩ := as_left (x := x) hb1 hc
  have hB : Below w.heap.size w (w1.setCell ⟨w.heap.size, 0, none⟩ (.int .i64 x)) := ((Below.refl _ _).alloc (Nat.le_refl _) _).grown h2 (by simp) (fun k e => by cases e; exact Nat.le_refl _)
  clear hb1 h2 hc
  generalize w1.setCell ⟨w.heap.size, 0, none⟩ (.int .i64 x) = w2 at *
  go_wp2
  go_ret
  exact ⟨rfl, hB⟩

theorem tell_at (p : Nat) (x y : Int) (w : World) (hg : HasErr w) (hp : Flt w p x y) : Calls Tryd.prog 23 #[.iface 142 (.pointer (some ⟨p, 0, none⟩))] w fun e w' => e = .returned (.int .i64 x) ∧ Below w.heap.size w w' := by
  go_enter Tryd.func23, Tryd.ntmps23
  go_wp2_with fail
  have hc : (w.alloc (.cells #[.int .i64 0] 35)).cell? ⟨w.heap.size, 0, none⟩ = some (.int .i64 0) := by simp
  refine (as_at p x y ⟨w.heap.size, 0, none⟩ (.int .i64 0) _ (hp.alloc _) (hg.alloc _) hc (by simp)).mono ?_
  rintro e w' ⟨rfl, w1, hb1, rfl⟩
  obtain ⟨h1, h2⟩ := as_left (x := x) hb1 hc
  have hB : Below w.heap.size w (w1.setCell ⟨w.heap.size, 0, none⟩ (.int .i64 x)) := ((Below.refl _ _).alloc (Nat.le_refl _) _).grown h2 (by simp) (fun k e => by cases e; exact Nat.le_refl _)
  clear hb1 h2 hc
  generalize w1.setCell ⟨w.heap.size, 0, none⟩ (.int .i64 x) = w2 at *
  go_wp2
  go_ret
  exact ⟨rfl, hB⟩

theorem Tryd.noUnwrapE (v : Value) (xT : TypeId) (w : World) : (Instr.typeAssert (.iface 35 v) xT 175 true).run Tryd.prog w = .ok (.tuple #[.nilIface, .bool false]) w :=
  run_typeAssert_lacksB Tryd.underlying175 (by kernel_rfl) (by kernel_rfl) v xT w

theorem Tryd.noAtE (v : Value) (w : World) : (Instr.typeAssert (.iface 35 v) 41 142 true).run Tryd.prog w = .ok (.tuple #[.pointer none, .bool false]) w := by kernel_rfl

theorem Tryd.isAtA (v : Value) (w : World) : (Instr.typeAssert (.iface 142 v) 41 142 true).run Tryd.prog w = .ok (.tuple #[v, .bool true]) w := by kernel_rfl

theorem place_nil (w : World) : Calls Tryd.prog 48 #[.nilIface] w fun e w' => e = .returned (.tuple #[.int .i64 0, .int .i64 (-1)]) ∧ w = w' := by
  go_enter Tryd.func48, Tryd.ntmps48
  go_wp2_with fail
  refine (tell_nil _).mono ?_
  rintro e w' ⟨rfl, rfl⟩
  go_wp2
  refine wp_loop_rounds 1 ?_
  rw [rounds_succ]
  go_wp2
  go_ret2
  exact ⟨rfl, rfl⟩

set_option maxRecDepth 100000 in
theorem place_errno (x : Int) (w : World) (hg : HasErr w) : Calls Tryd.prog 48 #[.iface 35 (.int .i64 x)] w fun e w' => e = .returned (.tuple #[.int .i64 x, .int .i64 (-1)]) ∧ Below w.heap.size w w' := by
  have q := Tryd.noUnwrapE
  have q2 := Tryd.noAtE
  go_enter Tryd.func48, Tryd.ntmps48
  go_wp2_with fail
  refine (tell_errno x _ hg).mono ?_
  rintro e w' ⟨rfl, hB⟩
  go_wp2
  refine wp_loop_rounds 1 ?_
  rw [rounds_succ]
  go_wp2
  go_ret2
  exact ⟨rfl, hB⟩

set_option maxRecDepth 100000 in
theorem place_at (p : Nat) (x y : Int) (w : World) (hg : HasErr w) (hp : Flt w p x y) : Calls Tryd.prog 48 #[.iface 142 (.pointer (some ⟨p, 0, none⟩))] w fun e w' => e = .returned (.tuple #[.int .i64 x, .int .i64 y]) ∧ Below w.heap.size w w' := by
  have q2 := Tryd.isAtA
  go_enter Tryd.func48, Tryd.ntmps48
  go_wp2_with fail
  refine (tell_at p x y _ hg hp).mono ?_
  rintro e w' ⟨rfl, hB⟩
  have hc : w'.cell? ⟨p, 1, none⟩ = some (.int .i64 y) := (hB.cell (p := ⟨p, 1, none⟩) hp.lt).trans hp.c1
  go_wp2
  refine wp_loop_rounds 1 ?_
  rw [rounds_succ]
  go_wp2
  go_region
  all_goals go_wp2
  all_goals go_ret2
  all_goals exact ⟨rfl, hB.drew⟩

end Go.Proofs.YtdjljnpbnhampaaDoor

namespace Go.Proofs.YtdjljnpbnhampaaDoor
open Go.RowKit
set_option linter.unusedVariables false

theorem placed_nil (w : World) : Calls Tryd.prog 9 #[.nilIface, .agg (ftC 0 (-1))] w fun e w' => e = .returned (.bool true) ∧ Below w.heap.size w w' := by
  have hb0 : Below w.heap.size w (w.alloc (.cells (ftC 0 (-1)) 37)) := (Below.refl _ _).alloc (Nat.le_refl _) _
  unfold ftC at *
  go_enter Tryd.func9, Tryd.ntmps9
  go_wp2_with fail
  refine (place_nil _).mono ?_
  rintro e w' ⟨rfl, rfl⟩
  go_wp2
  go_ret
  exact ⟨rfl, hb0⟩

theorem placed_at (q : Nat) (x y : Int) (w : World) (hE : HasErr w) (hq : Flt w q x y) : Calls Tryd.prog 9 #[.iface 142 (.pointer (some ⟨q, 0, none⟩)), .agg (ftC x y)] w fun e w' => e = .returned (.bool true) ∧ Below w.heap.size w w' := by
  have hb0 : Below w.heap.size w (w.alloc (.cells (ftC x y) 37)) := (Below.refl _ _).alloc (Nat.le_refl _) _
  have HB := Blk.new w 37 (ftC x y)
  have hq1 := hq.below hb0
  have hE1 : HasErr (w.alloc (.cells (ftC x y) 37)) := hE.below hb0
  go_enter Tryd.func9, Tryd.ntmps9
  go_upto_region 1 with (fail)
  generalize w.alloc (.cells (ftC x y) 37) = w1 at *
  go_wp2_with fail
  refine (place_at q x y _ hE1 hq1).mono ?_
  rintro e w2 ⟨rfl, b2⟩
  have HB2 := HB.kept b2
  have c0 := HB2.cv 0 (.int .i64 x) rfl
  have c1 := HB2.cv 1 (.int .i64 y) rfl
  have e1 : (x == x) = true := by simp
  have e2 : (y == y) = true := by simp
  go_wp2
  go_ret
  exact ⟨rfl, hb0.trans (b2.mono hb0.size)⟩

theorem placed_any (er : Value) (x y : Int) (w : World) (hE : HasErr w) (h : ErrAs w er x y) : Calls Tryd.prog 9 #[er, .agg (ftC x y)] w fun e w' => e = .returned (.bool true) ∧ Below w.heap.size w w' := by
  rcases h with ⟨rfl, rfl, rfl⟩ | ⟨_, q, rfl, hf⟩
  · exact placed_nil w
  · exact placed_at q x y w hE hf

end Go.Proofs.YtdjljnpbnhampaaDoor

namespace Go.Proofs.YtdjljnpbnhampaaDoor.mvrpPacksUpto
open Go.RowKit
attribute [local go_sem ↓] Go.wp_at_zero Go.wp_at_succ
set_option linter.unusedSimpArgs false
set_option linter.unusedVariables false
set_option maxRecDepth 100000

set_option maxHeartbeats 6400000 in
theorem walk_some (a : Option Addr) (c : Nat) (hs : List MvH) (am : Option Addr) (cm : Nat) (ms : List Pr) (w : World) (hE : HasErr w) (H : MvsIn w a hs) (HM : PrIn w am ms) (p : List Pr) (hpl : p.length ≤ 1500) (hml : ms.length ≤ 1000) (X : List Mv) (hX : X.length ≤ 1000) (e0 pl : Int)
    (HMU : Hid (∀ W, MvsIn W a hs → Calls Tryd.prog 13 #[.slice a hs.length c] W fun e w' => e = .returned (.bool false) ∧ Below W.heap.size W w'))
    (HE1 : Hid (∀ W, MvsIn W a hs → Calls Tryd.prog 14 #[.slice a hs.length c] W fun e w' => ∃ a5 c5, e = .returned (.slice a5 p.length c5) ∧ PrIn w' a5 p ∧ Below W.heap.size W w'))
    (HE2 : Hid (∀ W, MvsIn W a hs → Calls Tryd.prog 15 #[.slice a hs.length c] W fun e w' => ∃ a5 c5, e = .returned (.slice a5 p.length c5) ∧ PrIn w' a5 p ∧ Below W.heap.size W w'))
    (HP1 : Hid (∀ W, PrIn W am ms → Calls Tryd.prog 16 #[.slice am ms.length cm] W fun e w' => ∃ a1 c1 l1, e = .returned (.tuple #[.slice a1 l1.length c1, .agg (ftC e0 pl)]) ∧ xs l1 = X ∧ MvsIn w' a1 l1 ∧ Below W.heap.size W w'))
    (HP2 : Hid (∀ a5 c5 W, PrIn W a5 ms → Calls Tryd.prog 17 #[.slice a5 ms.length c5] W fun e w' => ∃ a1 c1 l1 er, e = .returned (.tuple #[.slice a1 l1.length c1, er]) ∧ xs l1 = X ∧ MvsIn w' a1 l1 ∧ ErrAs w' er e0 pl ∧ Below W.heap.size W w')) :
    Calls Tryd.prog 5 #[.slice a hs.length c, .slice am ms.length cm] w fun e w' => e = .returned (.bool true) ∧ Below w.heap.size w w' := by
  have d1 : decide ((1000 : Int) < (ms.length : Int)) = false := decide_eq_false (by omega)
  have d1N : decide (1000 < ms.length) = false := decide_eq_false (by omega)
  go_enter Tryd.func5, Tryd.ntmps5
  go_wp2_with (first
    | (go_at_call 13; refine (HMU.out _ H).mono ?_; rintro e w2 ⟨rfl, B2⟩)
    | (go_at_call 14; refine (HE1.out _ (H.below B2)).mono ?_; rintro e w3 ⟨a3, c3, rfl, I3, b3⟩; have B3 := B2.trans (b3.mono B2.size))
    | (go_at_call 15; refine (HE2.out _ (H.below B3)).mono ?_; rintro e w4 ⟨a4, c4, rfl, I4, b4⟩; have B4 := B3.trans (b4.mono B3.size); have J3 := I3.below b4))
  clear HMU HE1 HE2 B2 B3 b3 b4 I3 d1 d1N
  go_loopw [33] (fun i wr => ∃ k : Nat, k ≤ p.length ∧ i = .int .i64 k ∧ Below w4.heap.size w4 wr) (fun i _ => p.length - (intOf i).toNat)
  case atStart => exact ⟨0, by omega, rfl, Below.refl _ _⟩
  case round =>
    obtain ⟨k, hk, rfl, bk⟩ := hrel
    by_cases hlt : k < p.length
    · obtain ⟨b1, o1, rfl, hb1, at1⟩ := (J3.below bk).at hlt
      obtain ⟨b2, o2, rfl, hb2, at2⟩ := (I4.below bk).at hlt
      have q1 : (k : Int) < (p.length : Int) := by omega
      have q2 : decide ((k : Int) < (p.length : Int)) = true := decide_eq_true q1
      have q3 : (0 : Int) ≤ (k : Int) := by omega
      have q4 : IntKind.i64.wrap ((k : Int) + 1) = (k : Int) + 1 := by rw [IntKind.wrap_i64] <;> omega
      have k1 : wr.drew.cell? ⟨b1, o1 + k * 2, none⟩ = some (.int .i64 p[k].vid) := at1 k hlt 0 (.int .i64 p[k].vid) rfl
      have k2 : wr.drew.cell? ⟨b1, o1 + k * 2 + 1, none⟩ = some (.int .i64 p[k].ev) := at1 k hlt 1 (.int .i64 p[k].ev) rfl
      have k3 : wr.drew.cell? ⟨b2, o2 + k * 2, none⟩ = some (.int .i64 p[k].vid) := at2 k hlt 0 (.int .i64 p[k].vid) rfl
      have k4 : wr.drew.cell? ⟨b2, o2 + k * 2 + 1, none⟩ = some (.int .i64 p[k].ev) := at2 k hlt 1 (.int .i64 p[k].ev) rfl
      generalize p[k] = q at *
      clear at1 at2
      have bd := bk.drew
      have n1 : (q.vid != q.vid) = false := by simp
      have n2 : (q.ev != q.ev) = false := by simp
      go_wp2_with fail
      refine wp_region_noPanic ?_
      refine wp_region_held_drew (S := (fun w' => (w'.cell? ⟨b1, o1 + k * 2, none⟩ = some (.int .i64 q.vid) ∧ w'.cell? ⟨b1, o1 + k * 2 + 1, none⟩ = some (.int .i64 q.ev)) ∧ (w'.cell? ⟨b2, o2 + k * 2, none⟩ = some (.int .i64 q.vid) ∧ w'.cell? ⟨b2, o2 + k * 2 + 1, none⟩ = some (.int .i64 q.ev)))) (by kernel_rfl) ?_ (fun hHeld => ?_)
      · exact ⟨⟨k1, k2⟩, ⟨k3, k4⟩⟩
      refine wpAnyH_take (i := 0) (v := ?_) rfl (by kernel_rfl) (by kernel_rfl) (by kernel_rfl) (fun _ _ _ h => h) (Or.inl ⟨by rfl, ?_⟩) (by assumption) ?_
      rotate_left
      · (intro w hSw; (try dsimp only at hSw); go_simp; (try with_reducible rfl))
      (try simp only [Act.put, List.getElem_toArray, List.getElem_cons_zero, List.getElem_cons_succ, List.setIfInBounds_toArray, List.set_cons_zero, List.set_cons_succ])
      refine wpAnyH_take (i := 1) (v := ?_) rfl (by kernel_rfl) (by kernel_rfl) (by kernel_rfl) (fun _ _ _ h => h) (Or.inl ⟨by rfl, ?_⟩) (by assumption) ?_
      rotate_left
      · (intro w hSw; (try dsimp only at hSw); go_simp; (try with_reducible rfl))
      (try simp only [Act.put, List.getElem_toArray, List.getElem_cons_zero, List.getElem_cons_succ, List.setIfInBounds_toArray, List.set_cons_zero, List.set_cons_succ])
      refine wpAnyH_take (i := 2) (v := ?_) rfl (by kernel_rfl) (by kernel_rfl) (by kernel_rfl) (fun _ _ _ h => h) (Or.inl ⟨by rfl, ?_⟩) (by assumption) ?_
      rotate_left
      · (intro w hSw; (try dsimp only at hSw); go_simp; (try with_reducible rfl))
      (try simp only [Act.put, List.getElem_toArray, List.getElem_cons_zero, List.getElem_cons_succ, List.setIfInBounds_toArray, List.set_cons_zero, List.set_cons_succ])
      refine wpAnyH_take (i := 3) (v := ?_) rfl (by kernel_rfl) (by kernel_rfl) (by kernel_rfl) (fun _ _ _ h => h) (Or.inl ⟨by rfl, ?_⟩) (by assumption) ?_
      rotate_left
      · (intro w hSw; (try dsimp only at hSw); go_simp; (try with_reducible rfl))
      (try simp only [Act.put, List.getElem_toArray, List.getElem_cons_zero, List.getElem_cons_succ, List.setIfInBounds_toArray, List.set_cons_zero, List.set_cons_succ])
      refine wpAnyH_take (i := 4) (v := .int .i64 q.vid) rfl (by kernel_rfl) (by kernel_rfl) (by kernel_rfl) (fun _ _ _ h => h) (Or.inl ⟨by rfl, fun w hSw => by have c := hSw.1.1; go_simp⟩) (by assumption) ?_
      (try simp only [Act.put, List.getElem_toArray, List.getElem_cons_zero, List.getElem_cons_succ, List.setIfInBounds_toArray, List.set_cons_zero, List.set_cons_succ])
      refine wpAnyH_take (i := 5) (v := ?_) rfl (by kernel_rfl) (by kernel_rfl) (by kernel_rfl) (fun _ _ _ h => h) (Or.inl ⟨by rfl, ?_⟩) (by assumption) ?_
      rotate_left
      · (intro w hSw; (try dsimp only at hSw); go_simp; (try with_reducible rfl))
      (try simp only [Act.put, List.getElem_toArray, List.getElem_cons_zero, List.getElem_cons_succ, List.setIfInBounds_toArray, List.set_cons_zero, List.set_cons_succ])
      refine wpAnyH_take (i := 6) (v := ?_) rfl (by kernel_rfl) (by kernel_rfl) (by kernel_rfl) (fun _ _ _ h => h) (Or.inl ⟨by rfl, ?_⟩) (by assumption) ?_
      rotate_left
      · (intro w hSw; (try dsimp only at hSw); go_simp; (try with_reducible rfl))
      (try simp only [Act.put, List.getElem_toArray, List.getElem_cons_zero, List.getElem_cons_succ, List.setIfInBounds_toArray, List.set_cons_zero, List.set_cons_succ])
      refine wpAnyH_take (i := 7) (v := ?_) rfl (by kernel_rfl) (by kernel_rfl) (by kernel_rfl) (fun _ _ _ h => h) (Or.inl ⟨by rfl, ?_⟩) (by assumption) ?_
      rotate_left
      · (intro w hSw; (try dsimp only at hSw); go_simp; (try with_reducible rfl))
      (try simp only [Act.put, List.getElem_toArray, List.getElem_cons_zero, List.getElem_cons_succ, List.setIfInBounds_toArray, List.set_cons_zero, List.set_cons_succ])
      refine wpAnyH_take (i := 8) (v := ?_) rfl (by kernel_rfl) (by kernel_rfl) (by kernel_rfl) (fun _ _ _ h => h) (Or.inl ⟨by rfl, ?_⟩) (by assumption) ?_
      rotate_left
      · (intro w hSw; (try dsimp only at hSw); go_simp; (try with_reducible rfl))
      (try simp only [Act.put, List.getElem_toArray, List.getElem_cons_zero, List.getElem_cons_succ, List.setIfInBounds_toArray, List.set_cons_zero, List.set_cons_succ])
      refine wpAnyH_take (i := 9) (v := .int .i64 q.vid) rfl (by kernel_rfl) (by kernel_rfl) (by kernel_rfl) (fun _ _ _ h => h) (Or.inl ⟨by rfl, fun w hSw => by have c := hSw.2.1; go_simp⟩) (by assumption) ?_
      (try simp only [Act.put, List.getElem_toArray, List.getElem_cons_zero, List.getElem_cons_succ, List.setIfInBounds_toArray, List.set_cons_zero, List.set_cons_succ])
      refine wpAnyH_take (i := 10) (v := ?_) rfl (by kernel_rfl) (by kernel_rfl) (by kernel_rfl) (fun _ _ _ h => h) (Or.inl ⟨by rfl, ?_⟩) (by assumption) ?_
      rotate_left
      · (intro w hSw; (try dsimp only at hSw); go_simp; (try with_reducible rfl))
      (try simp only [Act.put, List.getElem_toArray, List.getElem_cons_zero, List.getElem_cons_succ, List.setIfInBounds_toArray, List.set_cons_zero, List.set_cons_succ])
      refine wpAnyH_take (i := 11) (v := ?_) rfl (by kernel_rfl) (by kernel_rfl) (by kernel_rfl) (fun _ _ _ h => h) (Or.inl ⟨by rfl, ?_⟩) (by assumption) ?_
      rotate_left
      · (intro w hSw; (try dsimp only at hSw); go_simp; (try with_reducible rfl))
      (try simp only [Act.put, List.getElem_toArray, List.getElem_cons_zero, List.getElem_cons_succ, List.setIfInBounds_toArray, List.set_cons_zero, List.set_cons_succ])
      refine wpAnyH_take (i := 12) (v := ?_) rfl (by kernel_rfl) (by kernel_rfl) (by kernel_rfl) (fun _ _ _ h => h) (Or.inl ⟨by rfl, ?_⟩) (by assumption) ?_
      rotate_left
      · (intro w hSw; (try dsimp only at hSw); go_simp; (try with_reducible rfl))
      (try simp only [Act.put, List.getElem_toArray, List.getElem_cons_zero, List.getElem_cons_succ, List.setIfInBounds_toArray, List.set_cons_zero, List.set_cons_succ])
      refine wpAnyH_take (i := 13) (v := ?_) rfl (by kernel_rfl) (by kernel_rfl) (by kernel_rfl) (fun _ _ _ h => h) (Or.inl ⟨by rfl, ?_⟩) (by assumption) ?_
      rotate_left
      · (intro w hSw; (try dsimp only at hSw); go_simp; (try with_reducible rfl))
      (try simp only [Act.put, List.getElem_toArray, List.getElem_cons_zero, List.getElem_cons_succ, List.setIfInBounds_toArray, List.set_cons_zero, List.set_cons_succ])
      refine wpAnyH_take (i := 14) (v := ?_) rfl (by kernel_rfl) (by kernel_rfl) (by kernel_rfl) (fun _ _ _ h => h) (Or.inl ⟨by rfl, ?_⟩) (by assumption) ?_
      rotate_left
      · (intro w hSw; (try dsimp only at hSw); go_simp; (try with_reducible rfl))
      (try simp only [Act.put, List.getElem_toArray, List.getElem_cons_zero, List.getElem_cons_succ, List.setIfInBounds_toArray, List.set_cons_zero, List.set_cons_succ])
      refine wpAnyH_take (i := 15) (v := ?_) rfl (by kernel_rfl) (by kernel_rfl) (by kernel_rfl) (fun _ _ _ h => h) (Or.inl ⟨by rfl, ?_⟩) (by assumption) ?_
      rotate_left
      · (intro w hSw; (try dsimp only at hSw); go_simp; (try with_reducible rfl))
      (try simp only [Act.put, List.getElem_toArray, List.getElem_cons_zero, List.getElem_cons_succ, List.setIfInBounds_toArray, List.set_cons_zero, List.set_cons_succ])
      refine wpAnyH_take (i := 16) (v := .int .i64 q.ev) rfl (by kernel_rfl) (by kernel_rfl) (by kernel_rfl) (fun _ _ _ h => h) (Or.inl ⟨by rfl, fun w hSw => by have c := hSw.1.2; go_simp⟩) (by assumption) ?_
      (try simp only [Act.put, List.getElem_toArray, List.getElem_cons_zero, List.getElem_cons_succ, List.setIfInBounds_toArray, List.set_cons_zero, List.set_cons_succ])
      refine wpAnyH_take (i := 17) (v := ?_) rfl (by kernel_rfl) (by kernel_rfl) (by kernel_rfl) (fun _ _ _ h => h) (Or.inl ⟨by rfl, ?_⟩) (by assumption) ?_
      rotate_left
      · (intro w hSw; (try dsimp only at hSw); go_simp; (try with_reducible rfl))
      (try simp only [Act.put, List.getElem_toArray, List.getElem_cons_zero, List.getElem_cons_succ, List.setIfInBounds_toArray, List.set_cons_zero, List.set_cons_succ])
      refine wpAnyH_take (i := 18) (v := ?_) rfl (by kernel_rfl) (by kernel_rfl) (by kernel_rfl) (fun _ _ _ h => h) (Or.inl ⟨by rfl, ?_⟩) (by assumption) ?_
      rotate_left
      · (intro w hSw; (try dsimp only at hSw); go_simp; (try with_reducible rfl))
      (try simp only [Act.put, List.getElem_toArray, List.getElem_cons_zero, List.getElem_cons_succ, List.setIfInBounds_toArray, List.set_cons_zero, List.set_cons_succ])
      refine wpAnyH_take (i := 19) (v := ?_) rfl (by kernel_rfl) (by kernel_rfl) (by kernel_rfl) (fun _ _ _ h => h) (Or.inl ⟨by rfl, ?_⟩) (by assumption) ?_
      rotate_left
      · (intro w hSw; (try dsimp only at hSw); go_simp; (try with_reducible rfl))
      (try simp only [Act.put, List.getElem_toArray, List.getElem_cons_zero, List.getElem_cons_succ, List.setIfInBounds_toArray, List.set_cons_zero, List.set_cons_succ])
      refine wpAnyH_take (i := 20) (v := ?_) rfl (by kernel_rfl) (by kernel_rfl) (by kernel_rfl) (fun _ _ _ h => h) (Or.inl ⟨by rfl, ?_⟩) (by assumption) ?_
      rotate_left
      · (intro w hSw; (try dsimp only at hSw); go_simp; (try with_reducible rfl))
      (try simp only [Act.put, List.getElem_toArray, List.getElem_cons_zero, List.getElem_cons_succ, List.setIfInBounds_toArray, List.set_cons_zero, List.set_cons_succ])
      refine wpAnyH_take (i := 21) (v := .int .i64 q.ev) rfl (by kernel_rfl) (by kernel_rfl) (by kernel_rfl) (fun _ _ _ h => h) (Or.inl ⟨by rfl, fun w hSw => by have c := hSw.2.2; go_simp⟩) (by assumption) ?_
      (try simp only [Act.put, List.getElem_toArray, List.getElem_cons_zero, List.getElem_cons_succ, List.setIfInBounds_toArray, List.set_cons_zero, List.set_cons_succ])
      refine wpAnyH_take (i := 22) (v := ?_) rfl (by kernel_rfl) (by kernel_rfl) (by kernel_rfl) (fun _ _ _ h => h) (Or.inl ⟨by rfl, ?_⟩) (by assumption) ?_
      rotate_left
      · (intro w hSw; (try dsimp only at hSw); go_simp; (try with_reducible rfl))
      (try simp only [Act.put, List.getElem_toArray, List.getElem_cons_zero, List.getElem_cons_succ, List.setIfInBounds_toArray, List.set_cons_zero, List.set_cons_succ])
      refine wpAnyH_take (i := 23) (v := ?_) rfl (by kernel_rfl) (by kernel_rfl) (by kernel_rfl) (fun _ _ _ h => h) (Or.inl ⟨by rfl, ?_⟩) (by assumption) ?_
      rotate_left
      · (intro w hSw; (try dsimp only at hSw); go_simp; (try with_reducible rfl))
      (try simp only [Act.put, List.getElem_toArray, List.getElem_cons_zero, List.getElem_cons_succ, List.setIfInBounds_toArray, List.set_cons_zero, List.set_cons_succ])
      refine wpAnyH_done (by kernel_rfl) ?_ _
      refine NoPanic.normal ?_
      go_wp2
      go_roundw
      case rel => exact ⟨k + 1, by omega, by go_num, bd⟩
      case measure => simp [intOf]; omega
    · obtain rfl : k = p.length := by omega
      have q2 : decide ((p.length : Int) < (p.length : Int)) = false := decide_eq_false (by omega)
      have Bk := B4.trans (bk.mono B4.size)
      clear J3 I4 B4 bk hk hlt
      generalize wr = wq at *
      obtain ⟨base, hbase⟩ : ∃ base, wq.heap.size = base := ⟨_, rfl⟩
      have hO0 := OwnPr.nil wq base
      have hb0 : Below base wq wq := Below.refl _ _
      have HMq := HM.below Bk
      go_wp2_with fail
      go_loopw [8, 63] (fun v i wr => ∃ (k : Nat) (v2 : Value), v2 = v ∧ k ≤ ms.length ∧ i = .int .i64 k ∧ OwnPr wr base v2 (ms.take k) ∧ Below base wq wr) (fun _ i _ => ms.length - (intOf i).toNat)
      case atStart => exact ⟨0, _, rfl, by omega, rfl, by rw [List.take_zero]; exact hO0, hb0⟩
      case round =>
        obtain ⟨k, v, rfl, hk, rfl, HO, bk⟩ := hrel
        clear hO0 hb0
        have hsk : base ≤ wr.heap.size := by rw [← hbase]; rw [← hbase] at bk; exact bk.size
        have HMk := HMq.below (by rw [hbase]; exact bk)
        by_cases hlt : k < ms.length
        · obtain ⟨b, lo, rfl, hbl, hat⟩ := HMk.at hlt
          have q1 : (k : Int) < (ms.length : Int) := by omega
          have q2 : decide ((k : Int) < (ms.length : Int)) = true := decide_eq_true q1
          have q3 : (0 : Int) ≤ (k : Int) := by omega
          have q4 : IntKind.i64.wrap ((k : Int) + 1) = (k : Int) + 1 := by rw [IntKind.wrap_i64] <;> omega
          have HK := hat k hlt
          have hsn : Hid (ms.take (k + 1) = ms.take k ++ [ms[k]]) := by
            show _ = _
            rw [List.take_add_one, List.getElem?_eq_getElem hlt]
            rfl
          have hln : Hid ((ms.take k).length ≤ 100000) := by show _ ≤ _; rw [List.length_take]; omega
          generalize ms[k] = q at *
          generalize ms.take k = acc at *
          clear hat
          have HA4 := Blk.new wr 83 (prC zPr)
          have b4 : Below wr.heap.size wr (wr.alloc (.cells (prC zPr) 83)) := (Below.refl _ _).alloc (Nat.le_refl _) _
          go_upto_region 16 with (first
            | (refine load_cells (B := b) (k := lo + k * 2) 83 (prC q) (by rfl) rfl rfl HK (by kernel_rfl) (by kernel_rfl) ?_)
            | (refine alloc_blk 83 (prC zPr) (by rfl) rfl Tryd.rpZero ?_)
            | (refine store_blk (k := 0) 83 (.agg (prC q)) (prC q) (by rfl) rfl rfl rfl HA4 (by kernel_rfl) (show (2 : Nat) ≤ 2 from Nat.le_refl 2) (by rfl) (st_whole _ _ rfl) ?_; intro w5 HA5 b5 g5))
          have b05 := b4.trans b5
          have HO5 := HO.kept b05
          have B5 := bk.trans (b05.mono hsk)
          have hs5 : base ≤ w5.heap.size := Nat.le_trans hsk b05.size
          clear HA4 b4 b5 g5 HK HO bk b05
          generalize wr.heap.size = G at *
          have c0 := HA5.cv 0 (.int .i64 q.vid) rfl
          have c1 := HA5.cv 1 (.int .i64 q.ev) rfl
          go_wp2_with (first
            | (refine build_blk (t := 84) (prC q) (by rfl) rfl (by kernel_rfl) ?_)
            | (refine sliceL_pr q rfl rfl rfl ?_; intro w6 HS6 b6 s6; have HO6 := HO5.kept b6)
            | (refine appendL_pr (v := v) q rfl rfl rfl rfl HO6 HS6 hln.out (Nat.le_trans hs5 b6.size) ?_; intro v7 w7 HO7 b7 g7))
          have B7 := (B5.trans (b6.mono hs5)).trans b7
          go_roundw
          case rel => exact ⟨k + 1, _, rfl, by omega, by go_num, by rw [hsn.out]; exact HO7, B7⟩
          case measure => simp [intOf]; omega
        · obtain rfl : k = ms.length := by omega
          have q2 : decide ((ms.length : Int) < (ms.length : Int)) = false := decide_eq_false (by omega)
          rw [List.take_length] at HO
          obtain ⟨an, cn, rfl, IN⟩ := HO.inL
          have Bw := Bk.trans (bk.mono (by rw [← hbase]; exact Bk.size))
          clear HO bk Bk HMq hbase hlt hk
          go_wp2_with fail
          refine (HP1.out _ HMk).mono ?_
          rintro e w2 ⟨a1, c1, l1, rfl, x1, M1, b2⟩
          have IN2 := IN.below b2
          have B2 := Bw.trans (b2.mono Bw.size)
          clear HP1 IN HMk b2 Bw
          have HF3 := Blk.new w2 37 (ftC 0 0)
          have e3 : Below w2.heap.size w2 (w2.alloc (.cells (ftC 0 0) 37)) := (Below.refl _ _).alloc (Nat.le_refl _) _
          go_upto_region 19 with (first
            | (refine alloc_blk 37 (ftC 0 0) (by rfl) rfl Tryd.ftZero ?_)
            | (refine store_blk (k := 0) 37 (.agg (ftC e0 pl)) (ftC e0 pl) (by rfl) rfl rfl rfl HF3 (by kernel_rfl) (by exact Nat.le_refl 2) rfl rfl (fun w4 HF4 b4 g4 => ?_)))
          have e4 := e3.trans b4
          have IN4 := IN2.below e4
          have M4 := M1.below e4
          have B4 := B2.trans (e4.mono B2.size)
          clear HF3 e3 b4 g4 e4 IN2 M1 B2
          generalize w2.heap.size = gf at *
          go_wp2_with fail
          refine (HP2.out an cn _ IN4).mono ?_
          rintro e w5 ⟨a2, c2, l2, er, rfl, x2, M5, hE5, b5⟩
          have HF5 := HF4.kept b5
          have N5 := M4.below b5
          have B5 := B4.trans (b5.mono B4.size)
          have hEr := hE.below B5
          clear HP2 IN4 M4 B4 HF4 b5
          go_wp2_with (refine load_blk (k := 0) 37 (ftC e0 pl) (by rfl) rfl rfl HF5 (by kernel_rfl) (by kernel_rfl) rfl ?_)
          refine (placed_any er e0 pl _ hEr hE5).mono ?_
          rintro e w8 ⟨rfl, b8⟩
          have I8 := N5.below b8
          have K8 := M5.below b8
          have B8 := B5.trans (b8.mono B5.size)
          clear HF5 N5 M5 B5 b8 hEr hE5
          have hxx := x1.trans x2.symm
          have m1 : l1.length ≤ maxLen := by rw [← xs_len, x1]; unfold maxLen; omega
          have m2 : l2.length ≤ maxLen := by rw [← xs_len, x2]; unfold maxLen; omega
          have HSV := Lib.hid (sameVerdict_mv a1 a2 c1 c2 l1 l2 w8 I8 K8 m1 m2 hxx)
          clear x1 x2 hxx m1 m2 I8 K8
          generalize l1.length = n1 at *
          generalize l2.length = n2 at *
          go_wp2_with (first | (refine build_blk (o := ⟨some 91, _, _, _, _, _⟩) (t := 71) (vdV (.slice a1 n1 c1)) (by rfl) rfl (by kernel_rfl) ?_) | (refine build_blk (o := ⟨some 93, _, _, _, _, _⟩) (t := 71) (vdV (.slice a2 n2 c2)) (by rfl) rfl (by kernel_rfl) ?_))
          refine HSV.out.mono ?_
          rintro e w9 ⟨rfl, b9⟩
          go_wp2
          go_ret
          exact ⟨rfl, B8.trans (b9.mono B8.size)⟩

theorem walk (a : Option Addr) (c : Nat) (hs : List MvH) (am : Option Addr) (cm : Nat) (ms : List Pr) (w : World) (hE : HasErr w) (H : MvsIn w a hs) (HM : PrIn w am ms) (hlc : ms.length ≤ cm) (hcm : cm ≤ maxLen) (hsum : hs.length + (eachL (xs hs)).length ≤ 4611686018427387904) :
    Calls Tryd.prog 5 #[.slice a hs.length c, .slice am ms.length cm] w fun e w' => e = .returned (.bool true) ∧ Below w.heap.size w w' := by
  have HL := Lib.hid (fun (W : World) (M : MvsIn W a hs) => much_val a c hs W M hsum)
  have hcm2 : cm ≤ 9223372036854775807 := hcm
  by_cases hbig : 1500 < hs.length + (eachL (xs hs)).length
  · rw [decide_eq_true hbig] at HL
    clear hbig hsum
    go_enter Tryd.func5, Tryd.ntmps5
    go_wp2_with (go_at_call 13; refine (HL.out _ H).mono ?_; rintro e w2 ⟨rfl, B2⟩)
    go_ret
    exact ⟨rfl, B2⟩
  · rw [decide_eq_false hbig] at HL
    by_cases hml : ms.length ≤ 1000
    · have hln : hs.length ≤ maxLen := by unfold maxLen; omega
      obtain ⟨m, e0, pl, hm, hok, hend⟩ := pk_end ms
      exact walk_some a c hs am cm ms w hE H HM (eachL (xs hs)) (by omega) hml (pkX ms e0) (Nat.le_trans (pkX_len ms e0) hml) e0 pl HL
        (Lib.hid fun W M => (refMvEach_any a c hs W M hln (by omega)).mono (by
          rintro e w' ⟨v, rfl, O, b⟩
          obtain ⟨a7, c7, rfl, I⟩ := O.inL
          exact ⟨a7, c7, rfl, I, b⟩))
        (Lib.hid fun W M => (mvEach_any a c hs W M hln (by omega)).mono (by
          rintro e w' ⟨v, rfl, O, b⟩
          obtain ⟨a7, c7, rfl, I⟩ := O.inL
          exact ⟨a7, c7, rfl, I, b⟩))
        (Lib.hid fun W I => refPack_end am cm ms m hm hok e0 pl hend W I hml hlc hcm2)
        (Lib.hid fun a5 c5 W I => mvPack_end a5 c5 ms m hm hok e0 pl hend W I hml)
    · have d1 : decide ((1000 : Int) < (ms.length : Int)) = true := decide_eq_true (by omega)
      have d1N : decide (1000 < ms.length) = true := decide_eq_true (by omega)
      clear hbig hsum
      go_enter Tryd.func5, Tryd.ntmps5
      go_wp2_with (go_at_call 13; refine (HL.out _ H).mono ?_; rintro e w2 ⟨rfl, B2⟩)
      go_ret
      exact ⟨rfl, B2⟩

end Go.Proofs.YtdjljnpbnhampaaDoor.mvrpPacksUpto

namespace Go.Proofs.YtdjljnpbnhampaaDoor
open Go.RowKit Go.WideShapes Go.ChangeShapes

/-- The specification is met: one result, which reads as told; the arguments and the named variables read as they did; old memory is as it was. -/
theorem met_below {P : Program} {H : Type} {enc : TypeId × Value → H} {f : Func} {s : ChangeSpec} {apart fresh handsOn again : Bool} {W W' : World} {args : Array Value} {v : Value} {ds gs : List (DataW H)} {places : List MemPlace}
    (whole : DataW.Whole enc P f.params.toList s.vars apart W args.toList ds gs places)
    (results : ∀ (b : Nat) (sp : Nat → Bool) (hd : Bool), DataW.TrodAll enc P W' b sp hd f.resultTypes.toList (v.resultList f.resultTypes.size) (s.fn H (ds ++ gs)).results [])
    (arguments : ∀ sp : Nat → Bool, (∀ p ∈ places, sp p.block = true) → DataW.TrodAll enc P W' 0 sp true f.params.toList args.toList (s.fn H (ds ++ gs)).args places)
    (variables : ∀ sp : Nat → Bool, DataW.TrodVars enc P W' sp s.vars (s.fn H (ds ++ gs)).vars [])
    (below : Below W.heap.size W W')
    (formed : ∀ (j : Nat) (t : TypeId) (r : Value), f.resultTypes[j]? = some t → (v.resultList f.resultTypes.size)[j]? = some r → Value.okWide P W' .any 0 t r) :
    s.post enc P f apart fresh handsOn again W args v W' := by
  have old : ∀ p ∈ places, p.block < W.heap.size := fun p hp => whole.lt p hp
  have oldB : ∀ p ∈ places, (fun b => decide (b < W.heap.size)) p.block = true := fun p hp => decide_eq_true (old p hp)
  obtain ⟨_, _, _, _, _, unfrozen, once⟩ := id whole
  refine ⟨ds, gs, places, [], places, [], whole, results _ _ _, arguments _ oldB, variables _, below.frame _, fun _ => ⟨formed, _, _, ([] ++ places) ++ [], ⟨[] ++ places, [], trodAll_append (arguments _ fun _ _ => rfl) (results _ _ _), variables _, rfl, fun b off hp => ?_, fun ha => by simpa using once ha⟩, fun p hp _ => by simpa using hp⟩⟩
  have hin : MemPlace.cell b off ∈ places := by simpa using hp
  exact (below.frozen (p := ⟨b, off, none⟩) (old _ hin)).trans (unfrozen b off hin)

end Go.Proofs.YtdjljnpbnhampaaDoor

namespace Go.Proofs.YtdjljnpbnhampaaDoor
open Go.ChangeShapes Go.WideShapes Go.ChangeAt Go.RowKit

theorem own : ownKnob Tryd.prog.godebug = none := by kernel_rfl

theorem Tryd.gErr : Tryd.prog.globalNamed "errors.errorType" = some 0 := by kernel_rfl

theorem Tryd.rtRow : (Tryd.prog.cutTypes.find? (·.1 == "internal/reflectlite.rtype")).map (·.2) = some 221 := by kernel_rfl

theorem Tryd.errRow : ((List.range 272).filter fun t => Tryd.prog.rowNamed t [101, 114, 114, 111, 114]) = [41] := by kernel_rfl

theorem Tryd.typesSize : Tryd.prog.types.size = 272 := by kernel_rfl

/-- A list that holds errors.errorType with the handle of the type error says what errors.As asks. -/
theorem hasErr_of_laid {W : World} {l : List (String × DataW Unit)} (h : laidMetH Tryd.prog l W) (hm : ("errors.errorType", Rows.laid_errors_errorType) ∈ l) : HasErr W := by
  obtain ⟨_, h2⟩ := laidMetH_iff.1 h
  obtain ⟨name, u, ty, e1, e2, e3, e4, e5⟩ := h2 _ (List.mem_filter.2 ⟨hm, by kernel_rfl⟩)
  have en : name = [101, 114, 114, 111, 114] := (Option.some.inj e1).symm
  subst en
  obtain rfl := Option.some.inj (Tryd.rtRow.symm.trans e2)
  have hin : ty ∈ (List.range 272).filter fun t => Tryd.prog.rowNamed t [101, 114, 114, 111, 114] := List.mem_filter.2 ⟨List.mem_range.2 (by rw [← Tryd.typesSize]; exact e3), e4⟩
  rw [Tryd.errRow] at hin
  obtain rfl := List.mem_singleton.1 hin
  have hh : typeHandle Tryd.prog 41 = .pointer (some ⟨4, 41, none⟩) := by kernel_rfl
  rw [hh] at e5
  have hc := World.var?_cell Tryd.gErr e5 0
  unfold HasErr
  simpa using hc

/-- The cells that a flat datum of integers lays. -/
def cellsOfDatum : DataW Unit → Array Value
  | .agg l => (l.map fun d => match d with | .lit (.int k n) => Value.int k n | _ => .int .u8 0).toArray
  | _ => #[]

/-- The door's own heap, and Go's own table beside it. -/
noncomputable def laidWorld (os : Os) : World :=
  let w0 := World.doorLaid Tryd.prog 400 os
  { w0 with heap := w0.heap.modify 1 fun | .cells _ t fr => .cells (cellsOfDatum Go.Pinned.utf8First) t fr | o => o }

end Go.Proofs.YtdjljnpbnhampaaDoor

namespace Go.Proofs.YtdjljnpbnhampaaDoor
open Go.ChangeShapes Go.WideShapes Go.ChangeAt Go.RowKit Go.Deep Go.Joins
set_option linter.unusedVariables false

theorem bk_row {H : Type} {D : Nat → DataW H} {f : Nat → Nat} : ∀ (n : Nat), (∀ i, i < n → f i + 1 ≤ Rows.uptoBulk (D i)) → ((List.range n).map f).sum + n ≤ Rows.uptoBulkAll ((List.range n).map D)
  | 0, _ => by simp
  | n + 1, h => by
    have h1 := bk_row n fun i hi => h i (by omega)
    have h2 := h n (by omega)
    have e : ∀ (a b : List (DataW H)), Rows.uptoBulkAll (a ++ b) = Rows.uptoBulkAll a + Rows.uptoBulkAll b := fun a b => by
      induction a with
      | nil => simp [Rows.uptoBulkAll]
      | cons x r ih => simp only [List.cons_append, Rows.uptoBulkAll, ih]; omega
    rw [List.range_succ, List.map_append, List.map_append, List.sum_append, e]
    simp only [List.map_cons, List.map_nil, List.sum_cons, List.sum_nil, Rows.uptoBulkAll]
    omega

theorem list1s {α : Type} (l : List α) (h : l.length = 1) : ∃ c0, l = [c0] := by
  match l, h with
  | [c0], _ => exact ⟨c0, rfl⟩

theorem list3s {α : Type} (l : List α) (h : l.length = 3) : ∃ c0 c1 c2, l = [c0, c1, c2] := by
  match l, h with
  | [c0, c1, c2], _ => exact ⟨c0, c1, c2, rfl⟩

theorem each_sum (l : List MvH) : (eachL (xs l)).length = (l.map fun x => x.x.ev.length).sum := by
  induction l with
  | nil => rfl
  | cons x l ih =>
    rw [List.map_cons, List.sum_cons, ← ih]
    show (eachL (x.x :: xs l)).length = _
    rw [show eachL (x.x :: xs l) = prsF x.x.first 0 x.x.ev ++ eachL (xs l) from rfl, List.length_append, prsF_len]

theorem iv_trod {H : Type} {enc : TypeId × Value → H} {W : World} {base fuel : Nat} {sp : Nat → Bool} {held : Bool} {c0 : Value} {y : DataW H × List MemPlace}
    (h : DataW.trod enc Tryd.prog W base sp held fuel 3 [c0] = some y) : ∃ x : Int, True ∧ [c0] = (ivC x).toList ∧ 0 + 1 ≤ Rows.uptoBulk y.1 := by
  obtain ⟨x0, e0, q0, wf0⟩ := DataW.trod_int Tryd.underlying3 h
  exact ⟨x0, trivial, e0, by rw [q0]; simp only [Rows.uptoBulk]; omega⟩

set_option maxRecDepth 100000 in
theorem ivb_cell {H : Type} {enc : TypeId × Value → H} {W : World} {fuel : Nat} {z0 : Value} {y : DataW H × List MemPlace}
    (hf : DataW.trod enc Tryd.prog W 0 (fun _ => true) true fuel 90 [z0] = some y) : ∃ (a : Option Addr) (c : Nat) (l : List Int), z0 = .slice a l.length c ∧ l.length ≤ c ∧ c ≤ maxLen ∧ IvIn W a l ∧ (∀ x ∈ l, True) ∧ (l.map fun x => 0).sum + l.length ≤ Rows.uptoBulk y.1 := by
  have hs : Tryd.prog.underlying 90 = some (.slice 3) := by kernel_rfl
  have hc3 : Tryd.prog.cellsOf 3 = 1 := by kernel_rfl
  rcases open_slice hs hf with ⟨hc, hx⟩ | ⟨b, n, c, m, k, D, Pl, hc, hb, hl, hm, hmm, hx, hall⟩
  · simp at hc
    subst hc
    exact ⟨none, 0, [], rfl, Nat.le_refl _, by decide, Or.inl rfl, by simp, by simp⟩
  · simp at hc
    subst hc
    have hlm : n ≤ m := by rw [hmm]; split <;> omega
    have each : ∀ i, i < n → ∃ t : Int, (True ∧ 0 + 1 ≤ Rows.uptoBulk (D i)) ∧ ∀ (j : Nat) (x : Value), (ivC t)[j]? = some x → W.cell? (b.add (i * 1 + j)) = some x := by
      intro i hi
      obtain ⟨cs', h1, h2⟩ := hall i (by omega)
      rw [hc3] at h1
      obtain ⟨_, hlen, hcell⟩ := World.cells?_some h1
      obtain ⟨c0, rfl⟩ := list1s cs' hlen
      obtain ⟨t, ht, he, hbk⟩ := iv_trod h2
      refine ⟨t, ⟨ht, hbk⟩, fun j x hj => ?_⟩
      have hj2 : j < 1 := (Array.getElem?_eq_some_iff.1 hj).1
      have g := hcell j (by omega)
      rw [add_add] at g
      rw [g]
      have e2 : ([c0] : List Value)[j]? = some x := by rw [he]; simpa using hj
      exact e2
    obtain ⟨z, hz⟩ := choose_lt each
    obtain ⟨bb, bo, bs⟩ := b
    rcases Nat.eq_zero_or_pos n with rfl | q0
    · exact ⟨some ⟨bb, bo, bs⟩, c, [], rfl, hl, hm, Or.inl rfl, by simp, by simp⟩
    have h0 := (hz 0 q0).2 0 _ rfl
    have hspot : bs = none := by simpa [Addr.add] using World.cell?_spot h0
    subst hspot
    refine ⟨some ⟨bb, bo, none⟩, c, (List.range n).map z, by simp, by simpa using hl, hm, Or.inr ⟨bb, bo, rfl, ?_, fun j hj k x hx => ?_⟩, ?_, ?_⟩
    · have := World.block_lt_of_cell? W _ h0
      simpa [Addr.add] using this
    · have hj' : j < n := by simpa using hj
      simp only [List.getElem_map, List.getElem_range] at hx
      have e0 := (hz j hj').2 k x hx
      rw [add_plain] at e0
      rw [Nat.add_assoc]
      exact e0
    · intro v hv
      obtain ⟨j, hj, rfl⟩ := List.mem_map.1 hv
      exact (hz j (List.mem_range.1 hj)).1.1
    · have hrow := bk_row n fun i hi => (hz i hi).1.2
      rw [hx]
      rw [List.map_map, List.length_map, List.length_range]
      simp only [Rows.uptoBulk]
      have e : ((List.range n).map ((fun x => 0) ∘ z)).sum = ((List.range n).map fun i => 0).sum := rfl
      omega



set_option maxRecDepth 100000 in
theorem mv_trod {H : Type} {enc : TypeId × Value → H} {W : World} {fuel : Nat} {c0 c1 c2 : Value} {y : DataW H × List MemPlace}
    (h : DataW.trod enc Tryd.prog W 0 (fun _ => true) true fuel 92 [c0, c1, c2] = some y) : ∃ x : MvH, (IvIn W x.a x.x.ev ∧ x.x.ev.length ≤ x.c ∧ x.c ≤ maxLen) ∧ [c0, c1, c2] = (mvC x).toList ∧ x.x.ev.length + 1 ≤ Rows.uptoBulk y.1 := by
  have _h1 : Tryd.prog.cellsOf 4 = 1 := by kernel_rfl
  have _h2 : Tryd.prog.cellsOf 3 = 1 := by kernel_rfl
  have _h3 : Tryd.prog.cellsOf 90 = 1 := by kernel_rfl
  obtain ⟨xs, n, _, hx, _, hlen, hg⟩ := DataW.trod_struct Tryd.underlying92 h
  obtain ⟨y0, y1, y2, rfl⟩ := list3s xs hlen
  have g0 := hg 0 _ rfl
  have g1 := hg 1 _ rfl
  have g2 := hg 2 _ rfl
  obtain ⟨x0, e0, _⟩ := DataW.trod_bool Tryd.underlying4 g0
  obtain rfl : c0 = .bool x0 := (List.cons.inj (show [c0] = [.bool x0] from e0)).1
  obtain ⟨x1, e1, _, wf1⟩ := DataW.trod_int Tryd.underlying3 g1
  obtain rfl : c1 = .int .i64 x1 := (List.cons.inj (show [c1] = [.int .i64 x1] from e1)).1
  obtain ⟨a, c, l, rfl, hl, hm, hin, _, hbk⟩ := ivb_cell (z0 := c2) g2
  have hy : Rows.uptoBulk y.1 = Rows.uptoBulkAll [y0.1, y1.1, y2.1] + 1 := by
    rw [hx]
    simp only [List.map_cons, List.map_nil, Rows.uptoBulk]
  simp only [Rows.uptoBulkAll] at hy
  exact ⟨⟨⟨x0, x1, l⟩, a, c⟩, ⟨hin, hl, hm⟩, rfl, by show l.length + 1 ≤ _; omega⟩

set_option maxRecDepth 100000 in
theorem mvb_cell {H : Type} {enc : TypeId × Value → H} {W : World} {fuel : Nat} {z0 : Value} {y : DataW H × List MemPlace}
    (hf : DataW.trod enc Tryd.prog W 0 (fun _ => true) true fuel 69 [z0] = some y) : ∃ (a : Option Addr) (c : Nat) (l : List MvH), z0 = .slice a l.length c ∧ l.length ≤ c ∧ c ≤ maxLen ∧ MhIn W a l ∧ (∀ x ∈ l, (IvIn W x.a x.x.ev ∧ x.x.ev.length ≤ x.c ∧ x.c ≤ maxLen)) ∧ (l.map fun x => x.x.ev.length).sum + l.length ≤ Rows.uptoBulk y.1 := by
  have hs : Tryd.prog.underlying 69 = some (.slice 92) := by kernel_rfl
  have hc3 : Tryd.prog.cellsOf 92 = 3 := by kernel_rfl
  rcases open_slice hs hf with ⟨hc, hx⟩ | ⟨b, n, c, m, k, D, Pl, hc, hb, hl, hm, hmm, hx, hall⟩
  · simp at hc
    subst hc
    exact ⟨none, 0, [], rfl, Nat.le_refl _, by decide, Or.inl rfl, by simp, by simp⟩
  · simp at hc
    subst hc
    have hlm : n ≤ m := by rw [hmm]; split <;> omega
    have each : ∀ i, i < n → ∃ t : MvH, ((IvIn W t.a t.x.ev ∧ t.x.ev.length ≤ t.c ∧ t.c ≤ maxLen) ∧ t.x.ev.length + 1 ≤ Rows.uptoBulk (D i)) ∧ ∀ (j : Nat) (x : Value), (mvC t)[j]? = some x → W.cell? (b.add (i * 3 + j)) = some x := by
      intro i hi
      obtain ⟨cs', h1, h2⟩ := hall i (by omega)
      rw [hc3] at h1
      obtain ⟨_, hlen, hcell⟩ := World.cells?_some h1
      obtain ⟨c0, c1, c2, rfl⟩ := list3s cs' hlen
      obtain ⟨t, ht, he, hbk⟩ := mv_trod h2
      refine ⟨t, ⟨ht, hbk⟩, fun j x hj => ?_⟩
      have hj2 : j < 3 := (Array.getElem?_eq_some_iff.1 hj).1
      have g := hcell j (by omega)
      rw [add_add] at g
      rw [g]
      have e2 : ([c0, c1, c2] : List Value)[j]? = some x := by rw [he]; simpa using hj
      exact e2
    obtain ⟨z, hz⟩ := choose_lt each
    obtain ⟨bb, bo, bs⟩ := b
    rcases Nat.eq_zero_or_pos n with rfl | q0
    · exact ⟨some ⟨bb, bo, bs⟩, c, [], rfl, hl, hm, Or.inl rfl, by simp, by simp⟩
    have h0 := (hz 0 q0).2 0 _ rfl
    have hspot : bs = none := by simpa [Addr.add] using World.cell?_spot h0
    subst hspot
    refine ⟨some ⟨bb, bo, none⟩, c, (List.range n).map z, by simp, by simpa using hl, hm, Or.inr ⟨bb, bo, rfl, ?_, fun j hj k x hx => ?_⟩, ?_, ?_⟩
    · have := World.block_lt_of_cell? W _ h0
      simpa [Addr.add] using this
    · have hj' : j < n := by simpa using hj
      simp only [List.getElem_map, List.getElem_range] at hx
      have e0 := (hz j hj').2 k x hx
      rw [add_plain] at e0
      rw [Nat.add_assoc]
      exact e0
    · intro v hv
      obtain ⟨j, hj, rfl⟩ := List.mem_map.1 hv
      exact (hz j (List.mem_range.1 hj)).1.1
    · have hrow := bk_row n fun i hi => (hz i hi).1.2
      rw [hx]
      rw [List.map_map, List.length_map, List.length_range]
      simp only [Rows.uptoBulk]
      have e : ((List.range n).map ((fun x => x.x.ev.length) ∘ z)).sum = ((List.range n).map fun i => (z i).x.ev.length).sum := rfl
      omega



set_option maxRecDepth 100000 in
theorem open_mvb {H : Type} {enc : TypeId × Value → H} {W : World} {base : Nat} {v : Value} {d : DataW H} {p : List MemPlace} (hval : Value.okWide Tryd.prog W .any base 69 v)
    (h : DataW.Trod enc Tryd.prog W 0 (fun _ => true) true 69 v d p) : ∃ (a : Option Addr) (c : Nat) (l : List MvH), v = .slice a l.length c ∧ l.length ≤ c ∧ c ≤ maxLen ∧ MvsIn W a l ∧ l.length + (eachL (xs l)).length ≤ Rows.uptoBulk d := by
  have hs : Tryd.prog.underlying 69 = some (.slice 92) := by kernel_rfl
  obtain ⟨a, n, c, rfl⟩ := okWide_slice hs hval
  obtain ⟨fuel, hf⟩ := h
  obtain ⟨a', c', l, e, h1, h2, h3, h4, h5⟩ := mvb_cell (show DataW.trod enc Tryd.prog W 0 (fun _ => true) true fuel 69 [.slice a n c] = some _ by simpa [Value.cells] using hf)
  exact ⟨a', c', l, e, h1, h2, ⟨h3, h4⟩, by rw [each_sum]; dsimp only at h5; omega⟩

end Go.Proofs.YtdjljnpbnhampaaDoor

namespace Go.Proofs.YtdjljnpbnhampaaDoor
open Go.ChangeShapes Go.WideShapes Go.ChangeAt Go.RowKit Go.Deep Go.Joins
set_option linter.unusedVariables false

theorem list2r {α : Type} (l : List α) (h : l.length = 2) : ∃ c0 c1, l = [c0, c1] := by
  match l, h with
  | [c0, c1], _ => exact ⟨c0, c1, rfl⟩

set_option maxRecDepth 100000 in
theorem rp_trod {H : Type} {enc : TypeId × Value → H} {W : World} {fuel : Nat} {c0 c1 : Value} {y : DataW H × List MemPlace}
    (h : DataW.trod enc Tryd.prog W 0 (fun _ => true) true fuel 83 [c0, c1] = some y) : ∃ x : Pr, [c0, c1] = (prC x).toList := by
  have _h2 : Tryd.prog.cellsOf 3 = 1 := by kernel_rfl
  obtain ⟨xs, n, _, hx, _, hlen, hg⟩ := DataW.trod_struct Tryd.underlying83 h
  obtain ⟨y0, y1, rfl⟩ := list2r xs hlen
  have g0 := hg 0 _ rfl
  have g1 := hg 1 _ rfl
  obtain ⟨x0, e0, _, wf0⟩ := DataW.trod_int Tryd.underlying3 g0
  obtain rfl : c0 = .int .i64 x0 := (List.cons.inj (show [c0] = [.int .i64 x0] from e0)).1
  obtain ⟨x1, e1, _, wf1⟩ := DataW.trod_int Tryd.underlying3 g1
  obtain rfl : c1 = .int .i64 x1 := (List.cons.inj (show [c1] = [.int .i64 x1] from e1)).1
  exact ⟨⟨x0, x1⟩, rfl⟩

set_option maxRecDepth 100000 in
theorem rps_cell {H : Type} {enc : TypeId × Value → H} {W : World} {fuel : Nat} {z0 : Value} {y : DataW H × List MemPlace}
    (hf : DataW.trod enc Tryd.prog W 0 (fun _ => true) true fuel 77 [z0] = some y) : ∃ (a : Option Addr) (c : Nat) (l : List Pr), z0 = .slice a l.length c ∧ l.length ≤ c ∧ c ≤ maxLen ∧ PrIn W a l := by
  have hs : Tryd.prog.underlying 77 = some (.slice 83) := by kernel_rfl
  have hc3 : Tryd.prog.cellsOf 83 = 2 := by kernel_rfl
  rcases open_slice hs hf with ⟨hc, hx⟩ | ⟨b, n, c, m, k, D, Pl, hc, hb, hl, hm, hmm, hx, hall⟩
  · simp at hc
    subst hc
    exact ⟨none, 0, [], rfl, Nat.le_refl _, by decide, Or.inl rfl⟩
  · simp at hc
    subst hc
    have hlm : n ≤ m := by rw [hmm]; split <;> omega
    have each : ∀ i, i < n → ∃ t : Pr, True ∧ ∀ (j : Nat) (x : Value), (prC t)[j]? = some x → W.cell? (b.add (i * 2 + j)) = some x := by
      intro i hi
      obtain ⟨cs', h1, h2⟩ := hall i (by omega)
      rw [hc3] at h1
      obtain ⟨_, hlen, hcell⟩ := World.cells?_some h1
      obtain ⟨c0, c1, rfl⟩ := list2r cs' hlen
      obtain ⟨t, he⟩ := rp_trod h2
      refine ⟨t, trivial, fun j x hj => ?_⟩
      have hj2 : j < 2 := (Array.getElem?_eq_some_iff.1 hj).1
      have g := hcell j (by omega)
      rw [add_add] at g
      rw [g]
      have e2 : ([c0, c1] : List Value)[j]? = some x := by rw [he]; simpa using hj
      exact e2
    obtain ⟨z, hz⟩ := choose_lt each
    obtain ⟨bb, bo, bs⟩ := b
    rcases Nat.eq_zero_or_pos n with rfl | q0
    · exact ⟨some ⟨bb, bo, bs⟩, c, [], rfl, hl, hm, Or.inl rfl⟩
    have h0 := (hz 0 q0).2 0 _ rfl
    have hspot : bs = none := by simpa [Addr.add] using World.cell?_spot h0
    subst hspot
    refine ⟨some ⟨bb, bo, none⟩, c, (List.range n).map z, by simp, by simpa using hl, hm, Or.inr ⟨bb, bo, rfl, ?_, fun j hj k x hx => ?_⟩⟩
    · have := World.block_lt_of_cell? W _ h0
      simpa [Addr.add] using this
    · have hj' : j < n := by simpa using hj
      simp only [List.getElem_map, List.getElem_range] at hx
      have e0 := (hz j hj').2 k x hx
      rw [add_plain] at e0
      rw [Nat.add_assoc]
      exact e0

set_option maxRecDepth 100000 in
theorem open_rps {H : Type} {enc : TypeId × Value → H} {W : World} {base : Nat} {v : Value} {d : DataW H} {p : List MemPlace} (hval : Value.okWide Tryd.prog W .any base 77 v)
    (h : DataW.Trod enc Tryd.prog W 0 (fun _ => true) true 77 v d p) : ∃ (a : Option Addr) (c : Nat) (l : List Pr), v = .slice a l.length c ∧ l.length ≤ c ∧ c ≤ maxLen ∧ PrIn W a l := by
  have hs : Tryd.prog.underlying 77 = some (.slice 83) := by kernel_rfl
  obtain ⟨a, n, c, rfl⟩ := okWide_slice hs hval
  obtain ⟨fuel, hf⟩ := h
  exact rps_cell (show DataW.trod enc Tryd.prog W 0 (fun _ => true) true fuel 77 [.slice a n c] = some _ by simpa [Value.cells] using hf)

end Go.Proofs.YtdjljnpbnhampaaDoor

namespace Go.Proofs.YtdjljnpbnhampaaDoor.mvrpPacksUpto
open Go.ChangeShapes Go.WideShapes Go.ChangeAt Go.RowKit
set_option linter.unusedVariables false

theorem laidOut_ : laidOutB Tryd.prog = true := by kernel_rfl

theorem laid_met (os : Os) : laidMetH Tryd.prog Rows.mvrpPacksUptoRow.laid ((laidWorld os).forCall (fun _ _ => 0) ⟨#[], #[.slice none 0 0, .slice none 0 0], []⟩).memory :=
  laidMetH_of_parts3 (fuel := 8) (laidMet_of_run' 8 (by kernel_rfl) (by kernel_rfl)) (by kernel_rfl) (by kernel_rfl)

theorem reads (os : Os) {H : Type} (enc : TypeId × Value → H) : ∃ places, DataW.whole enc Tryd.prog ((laidWorld os).forCall (fun _ _ => 0) ⟨#[], #[.slice none 0 0, .slice none 0 0], []⟩).memory Tryd.f5.params.toList Rows.mvrpPacksSpec.vars false #[Value.slice none 0 0, Value.slice none 0 0].toList 8 = some ([.nil, .nil], [], places) :=
  ⟨[], by kernel_rfl⟩

set_option maxRecDepth 100000 in
theorem lifted (os : Os) (started : os.Started) (H : Type) (enc : TypeId × Value → H) (F : Stop.Interp) :
    ReturnsInHanded {} Tryd.checked os 5 .any ((Rows.OpenSpec.upto Rows.mvrpPacksSpec).preRow enc Tryd.prog Tryd.f5 Rows.mvrpPacksUptoRow.domain false Rows.mvrpPacksUptoRow.laid) (((Rows.OpenSpec.upto Rows.mvrpPacksSpec).at F).post enc Tryd.prog Tryd.f5 false true false false) := by
  obtain ⟨places, hx⟩ := reads os enc
  refine returnsInHanded_of_row (C := Tryd.checked) (s := Rows.OpenSpec.upto Rows.mvrpPacksSpec) own started (by kernel_rfl) Tryd.func5
    (witness_row_at (enc := enc) (C := Tryd.checked) false (laidWorld os) #[.slice none 0 0, .slice none 0 0] rfl (by kernel_rfl) (by kernel_rfl) (by kernel_rfl)
      (OpenSpec.preRow_of_cond 8 hx (by kernel_rfl) (fun k hk => by cases hk; kernel_rfl) (by kernel_rfl) (laid_met os))) ?_
  intro W base args ds gs before hval0 hW _ hcond hSz hL hsh _
  have hval : ∀ (j : Nat) t v, Tryd.f5.params[j]? = some t → args[j]? = some v → Value.okWide Tryd.prog W .any base t v := hval0
  have hE := hasErr_of_laid hL (by simp [Rows.mvrpPacksUptoRow])
  have hW' := hW
  obtain ⟨p, q, hA0, hV, rfl, hfz, hnd⟩ := hW
  have hA : DataW.TrodAll enc Tryd.prog W 0 (fun _ => true) true Tryd.f5.params.toList args.toList ds p := hA0
  rw [Tryd.params5] at hA hval
  obtain ⟨v0, vs0, d0, ds0, p0, q0, hargs, rfl, rfl, h0, r0⟩ := trodAll_cons hA
  obtain ⟨v1, vs1, d1, ds1, p1, q1, rfl, rfl, rfl, h1, r1⟩ := trodAll_cons r0
  obtain ⟨rfl, rfl, rfl⟩ := trodAll_nil r1
  obtain rfl : args = #[v0, v1] := by cases args; simp_all
  obtain ⟨rfl, rfl⟩ := trodVars_none hV
  clear hA0
  simp only [List.append_nil] at hW'
  have hlt := hW'.lt
  have hk := hcond _ rfl
  have hbA : Rows.uptoBulkAll ([d0, d1] ++ []) ≤ 1048576 := of_decide_eq_true hk
  simp only [List.append_nil, Rows.uptoBulkAll] at hbA
  obtain ⟨a0, c0, l0, hv0, hlc0, hcm0, hin0, hbk0⟩ := open_mvb (hval 0 69 v0 rfl rfl) h0
  obtain ⟨a1, c1, l1, hv1, hlc1, hcm1, hin1⟩ := open_rps (hval 1 77 v1 rfl rfl) h1
  subst hv0
  subst hv1
  refine (walk a0 c0 l0 a1 c1 l1 W hE hin0 hin1 hlc1 hcm1 (by omega)).mono fun e W' ⟨he, hb⟩ => ?_
  subst he
  exact ⟨_, rfl, met_below hW' (fun _ _ _ => (trodAll_cons_mk (shut_bool Tryd.underlying4 _) trodAll_mk0)) (fun sp hsp => by have r := (trodAll_cons_mk (WideElems.Trod_stays laidOut_ (by kernel_rfl) (of_decide_eq_true (by kernel_rfl)) h0 (fun x hx => hb.same (hlt x (by simp [hx]))) (fun x hx => hsp x (by simp [hx]))) (trodAll_cons_mk (WideElems.Trod_stays laidOut_ (by kernel_rfl) (of_decide_eq_true (by kernel_rfl)) h1 (fun x hx => hb.same (hlt x (by simp [hx]))) (fun x hx => hsp x (by simp [hx]))) trodAll_mk0)); simp only [List.append_nil] at r; exact r) (fun _ => rfl) hb
    (ok_one (by kernel_rfl) rfl (okWide_bool_mk Tryd.underlying4 _))⟩

theorem said : Rows.MvrpPacksUptoSaid :=
  OpenClaim.holds_of_cond 5 Tryd.f5 rfl rfl rfl rfl rfl rfl rfl ⟨rfl, rfl, rfl, rfl, rfl⟩ rfl rfl rfl rfl rfl (by kernel_rfl) Tryd.func5 (by kernel_rfl)
    (of_decide_eq_true (by kernel_rfl)) (by unfold Func.isWrapper; first | (rw [if_pos (by decide +kernel)]; kernel_rfl) | (rw [if_neg (by decide +kernel)]; exact ⟨rfl, rfl⟩))
    (fun os started H enc _ F => by rw [OpenClaim.pre_eq_preRow]; exact lifted os started H enc F)

theorem plain (f : FuncId) (fn : Func) (hf : Tryd.pinned.checked.prog.funcNamed "switchyard/switchyardlaw.MvrpPacks" = some f) (hfn : Tryd.pinned.checked.prog.funcs[f]? = some fn) :
    true = Tryd.pinned.checked.prog.looks [] ∧ ∀ (j : Nat) t, fn.params[j]? = some t → Tryd.pinned.checked.prog.wantsStandIn t = false := by
  obtain rfl : f = 5 := Option.some.inj ((show Tryd.prog.funcNamed "switchyard/switchyardlaw.MvrpPacks" = some 5 by kernel_rfl).symm.trans hf) |>.symm
  obtain rfl : fn = Tryd.f5 := (Option.some.inj (Tryd.func5.symm.trans hfn)).symm
  refine ⟨by kernel_rfl, fun j t ht => ?_⟩
  rw [Tryd.params5] at ht
  have hm : t ∈ #[69, 77] := Array.mem_of_getElem? ht
  simp only [List.mem_toArray, List.mem_cons, List.not_mem_nil, or_false] at hm
  rcases hm with rfl | rfl
  · exact (show Tryd.prog.wantsStandIn 69 = false by kernel_rfl)
  · exact (show Tryd.prog.wantsStandIn 77 = false by kernel_rfl)

theorem card : Rows.MvrpPacksUptoCardSaid :=
  Claim7.holds_tied_plain_at .later [] _ _ _ _ said (fun _ h => by cases h) (by kernel_rfl) (fun _ h => by cases h) mvrpPacksUpto_row_tie rfl ⟨rfl, rfl⟩ (by kernel_rfl) rfl plain (by kernel_rfl)
#print axioms card

end Go.Proofs.YtdjljnpbnhampaaDoor.mvrpPacksUpto

