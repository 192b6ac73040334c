/- The reference's TagText at every tag: its text, or ErrArg; nothing that was there is changed. -/
import Derived.Test.YtafmkgdpfjimkaaDoorTagText
import Derived.Test.YtafmkgdpfjimkaaDoorMapTwo
namespace Go.Proofs.YtafmkgdpfjimkaaDoor
open Go.RowKit
attribute [local go_sem ↓] Go.wp_at_zero Go.wp_at_succ

set_option maxRecDepth 100000 in
theorem refTagText_no (t : Tg) (h : okT t = false) (w : World) :
    Calls Tryd.prog 26 #[tagV t] w fun e w' => e = .returned (.tuple #[.string ⟨#[]⟩, .int .i64 1]) ∧ Below w.heap.size w w' := by
  have B0 : Below w.heap.size w (w.alloc (.cells #[.bool t.s, .int .i64 t.p, .bool t.d, .int .i64 t.v] 40)) := (Below.refl _ _).alloc (Nat.le_refl _) _
  unfold tagV
  go_enter Tryd.func26, Tryd.ntmps26
  go_wp2_with fail
  refine (refRight_any t _).mono ?_
  rintro e w1 ⟨rfl, k1⟩
  rw [h]
  go_wp2
  go_ret2
  exact ⟨rfl, B0.trans (k1.mono (by simp))⟩

set_option linter.unusedSimpArgs false
theorem HasT.four {w : World} {B : Nat} {s d : Bool} {p v : Int} (h : HasT w B ⟨s, p, d, v⟩) : w.cell? ⟨B, 0, none⟩ = some (.bool s) ∧ w.cell? ⟨B, 1, none⟩ = some (.int .i64 p) ∧ w.cell? ⟨B, 2, none⟩ = some (.bool d) ∧ w.cell? ⟨B, 3, none⟩ = some (.int .i64 v) := ⟨h.c0, h.c1, h.c2, h.c3⟩
theorem HasTab.below2 {w w' : World} (h : HasTab w) (hb : Below w.heap.size w w') : HasTab w' := HasTab.below h hb

set_option maxRecDepth 100000 in
set_option maxHeartbeats 6400000 in
theorem refTagText_yes (t : Tg) (h : okT t = true) (w : World) (hT : HasTab w) :
    Calls Tryd.prog 26 #[tagV t] w fun e w' => e = .returned (.tuple #[.string ⟨(textT t).toArray⟩, .int .i64 0]) ∧ Below w.heap.size w w' := by
  obtain ⟨p0, p7, v0, v1⟩ := okT_all h
  have hmm := @run_makeMap Tryd.prog
  have B0 : Below w.heap.size w (w.alloc (.cells #[.bool t.s, .int .i64 t.p, .bool t.d, .int .i64 t.v] 40)) := (Below.refl _ _).alloc (Nat.le_refl _) _
  have T0 : HasT (w.alloc (.cells #[.bool t.s, .int .i64 t.p, .bool t.d, .int .i64 t.v] 40)) w.heap.size t := heap_alloc_new w _
  obtain ⟨s, p, d, v⟩ := t
  dsimp only at p0 p7 v0 v1
  have L1 : (Lib.itoa p).length ≤ 4 := itoa_length p p0 (by omega)
  have L2 : (Lib.itoa v).length ≤ 4 := itoa_length v v0 v1
  obtain ⟨hd, hhd⟩ : ∃ hd : List UInt8, hd = if s then [115] else [99] := ⟨_, rfl⟩
  obtain ⟨mk, hmk⟩ : ∃ mk : List UInt8, mk = if d then [33, 46] else [46] := ⟨_, rfl⟩
  have M0 : hd.length = 1 := by rw [hhd]; split <;> rfl
  have M1 : mk.length ≤ 2 := by rw [hmk]; split <;> simp
  obtain ⟨y1, hy1⟩ : ∃ y1, y1 = hd ++ Lib.itoa p := ⟨_, rfl⟩
  obtain ⟨y2, hy2⟩ : ∃ y2, y2 = y1 ++ mk := ⟨_, rfl⟩
  obtain ⟨y3, hy3⟩ : ∃ y3, y3 = y2 ++ Lib.itoa v := ⟨_, rfl⟩
  have z1 : y1.length ≤ 5 := by rw [hy1, List.length_append]; omega
  have z2 : y2.length ≤ 7 := by rw [hy2, List.length_append]; omega
  have c1 : ∀ W, (Op.stringOp .add ⟨hd.toArray⟩ ⟨(Lib.itoa p).toArray⟩).run Tryd.prog W = .ok (.string ⟨y1.toArray⟩) W := fun W => by rw [hy1]; exact run_string_add_lists W _ _ (by omega) (by omega)
  have c2 : ∀ W, (Op.stringOp .add ⟨y1.toArray⟩ ⟨mk.toArray⟩).run Tryd.prog W = .ok (.string ⟨y2.toArray⟩) W := fun W => by rw [hy2]; exact run_string_add_lists W _ _ (by omega) (by omega)
  have c3 : ∀ W, (Op.stringOp .add ⟨y2.toArray⟩ ⟨(Lib.itoa v).toArray⟩).run Tryd.prog W = .ok (.string ⟨y3.toArray⟩) W := fun W => by rw [hy3]; exact run_string_add_lists W _ _ (by omega) (by omega)
  have HY : Hid (y3 = textT ⟨s, p, d, v⟩) := by
    show _ = _
    rw [hy3, hy2, hy1, hhd, hmk]
    cases s <;> cases d <;> simp [textT]
  have HH := Lib.hid hhd
  have HM := Lib.hid hmk
  clear hy1 hy2 hy3 hhd hmk
  unfold tagV
  go_enter Tryd.func26, Tryd.ntmps26
  go_wp2_with fail
  refine (refRight_any ⟨s, p, d, v⟩ _).mono ?_
  rintro e w1 ⟨rfl, k1⟩
  rw [h]
  have T1 : HasT w1 w.heap.size ⟨s, p, d, v⟩ := T0.below k1 T0.lt
  have B1 : Below w.heap.size w w1 := B0.trans (k1.mono (by simp))
  have hT1 : HasTab w1 := hT.below B1
  clear k1 T0 B0 hT
  go_wp2
  have k0 : Below w1.heap.size w1 w1.drew := (Below.refl _ _).drew
  refine Code.wp_mono (Q := fun e a w' => e = .normal ∧ (∃ u8 u9 u10 u11 u12 u13 u14 u15 u16, a = { tmps := #[.agg #[.bool s, .int .i64 p, .bool d, .int .i64 v], .pointer (some { block := w.heap.size, off := 0 }), .string ⟨#[]⟩, .int .i64 0, .string ⟨y1.toArray⟩, .agg #[.bool s, .int .i64 p, .bool d, .int .i64 v], .bool true, .bool false, u8, u9, u10, u11, u12, u13, u14, u15, u16, undef, undef, undef, undef, undef, undef, undef, undef, undef, undef, undef], defers := [] }) ∧ Below w1.heap.size w1 w') ?_ ?_
  rotate_left
  ·
    refine wp_region_noPanic ?_
    refine wp_region_held_drew (S := (fun w' => w'.cell? ⟨w.heap.size, 0, none⟩ = some (.bool s) ∧ w'.cell? ⟨w.heap.size, 1, none⟩ = some (.int .i64 p) ∧ w'.cell? ⟨w.heap.size, 2, none⟩ = some (.bool d) ∧ w'.cell? ⟨w.heap.size, 3, none⟩ = some (.int .i64 v))) (by kernel_rfl) ?_ (fun hHeld => ?_)
    · exact HasT.four (HasT.below T1 k0 T1.lt)
    generalize w1.drew = V1 at *
    refine wpAnyH_take (i := 4) (v := ?_) rfl (by kernel_rfl) (by kernel_rfl) (by kernel_rfl) (fun _ _ _ h => h) (Or.inl ⟨by rfl, ?_⟩) (by assumption) ?_
    rotate_left
    · (intro w hSw; (try dsimp only at hSw); go_simp; (try with_reducible rfl))
    (try simp only [Act.put, List.getElem_toArray, List.getElem_cons_zero, List.getElem_cons_succ, List.setIfInBounds_toArray, List.set_cons_zero, List.set_cons_succ])
    refine wpAnyH_take (i := 5) (v := ?_) rfl (by kernel_rfl) (by kernel_rfl) (by kernel_rfl) (fun _ _ _ h => h) (Or.inl ⟨by rfl, ?_⟩) (by assumption) ?_
    rotate_left
    · (intro w hSw; (try dsimp only at hSw); go_simp; (try with_reducible rfl))
    (try simp only [Act.put, List.getElem_toArray, List.getElem_cons_zero, List.getElem_cons_succ, List.setIfInBounds_toArray, List.set_cons_zero, List.set_cons_succ])
    refine wpAnyH_take (i := 7) (v := ?_) rfl (by kernel_rfl) (by kernel_rfl) (by kernel_rfl) (fun _ _ _ h => h) (Or.inl ⟨by rfl, ?_⟩) (by assumption) ?_
    rotate_left
    · (intro w hSw; (try dsimp only at hSw); go_simp; (try with_reducible rfl))
    (try simp only [Act.put, List.getElem_toArray, List.getElem_cons_zero, List.getElem_cons_succ, List.setIfInBounds_toArray, List.set_cons_zero, List.set_cons_succ])
    refine wpAnyH_take (i := 8) (v := ?_) rfl (by kernel_rfl) (by kernel_rfl) (by kernel_rfl) (fun _ _ _ h => h) (Or.inl ⟨by rfl, ?_⟩) (by assumption) ?_
    rotate_left
    · (intro w hSw; (try dsimp only at hSw); go_simp; (try with_reducible rfl))
    (try simp only [Act.put, List.getElem_toArray, List.getElem_cons_zero, List.getElem_cons_succ, List.setIfInBounds_toArray, List.set_cons_zero, List.set_cons_succ])
    refine wpAnyH_ready (rs := [0, 9]) (by kernel_rfl) (by simp) ?_
    refine (AllReadyH.cons rfl (fun K hK => ?_) (AllReadyH.cons rfl (fun K hK => ?_) AllReadyH.nil))
    ·
      simp only [List.getElem_toArray, List.getElem_cons_zero, List.getElem_cons_succ]
      have k1 : Below w1.heap.size w1 (V1.alloc (.map #[] 0)) := Below.alloc k0 k0.size _
      have m1 : (V1.alloc (.map #[] 0)).heap[V1.heap.size]? = some (.map #[] 0) := heap_alloc_new _ _
      have b1 : w1.heap.size ≤ V1.heap.size := Below.size k0
      go_simp
      refine hK.out _ _ ?_ (fun hHeld => ?_)
      · exact HasT.four (HasT.below T1 k1 T1.lt)
      clear hK K
      (try simp only [Act.put, List.getElem_toArray, List.getElem_cons_zero, List.getElem_cons_succ, List.setIfInBounds_toArray, List.set_cons_zero, List.set_cons_succ])
      generalize V1.alloc (.map #[] 0) = W1 at *
      refine wpAnyH_ready (rs := [1, 2, 9]) (by kernel_rfl) (by simp) ?_
      refine (AllReadyH.cons rfl (fun K hK => ?_) (AllReadyH.cons rfl (fun K hK => ?_) (AllReadyH.cons rfl (fun K hK => ?_) AllReadyH.nil)))
      ·
        simp only [List.getElem_toArray, List.getElem_cons_zero, List.getElem_cons_succ]
        have e2 : (Instr.mapUpdate 73 (.map (some V1.heap.size)) (.bool true) (.string ⟨#[115]⟩)).run Tryd.prog W1 = .ok () (putB W1 V1.heap.size (.map #[⟨.bool true, .string ⟨#[115]⟩, 0⟩] 1)) := ins0 true _ m1
        have k2 : Below w1.heap.size w1 (putB W1 V1.heap.size (.map #[⟨.bool true, .string ⟨#[115]⟩, 0⟩] 1)) := putB_below _ k1 b1
        have m2 : (putB W1 V1.heap.size (.map #[⟨.bool true, .string ⟨#[115]⟩, 0⟩] 1)).heap[V1.heap.size]? = some (.map #[⟨.bool true, .string ⟨#[115]⟩, 0⟩] 1) := putB_at _ (lt_of_block m1)
        go_simp
        clear e2
        refine hK.out _ _ ?_ (fun hHeld => ?_)
        · exact HasT.four (HasT.below T1 k2 T1.lt)
        clear hK K
        (try simp only [Act.put, List.getElem_toArray, List.getElem_cons_zero, List.getElem_cons_succ, List.setIfInBounds_toArray, List.set_cons_zero, List.set_cons_succ])
        generalize putB W1 V1.heap.size (.map #[⟨.bool true, .string ⟨#[115]⟩, 0⟩] 1) = W2 at *
        refine wpAnyH_ready (rs := [2, 9]) (by kernel_rfl) (by simp) ?_
        refine (AllReadyH.cons rfl (fun K hK => ?_) (AllReadyH.cons rfl (fun K hK => ?_) AllReadyH.nil))
        ·
          simp only [List.getElem_toArray, List.getElem_cons_zero, List.getElem_cons_succ]
          have e3 : (Instr.mapUpdate 73 (.map (some V1.heap.size)) (.bool false) (.string ⟨#[99]⟩)).run Tryd.prog W2 = .ok () (putB W2 V1.heap.size (.map #[⟨.bool true, .string ⟨#[115]⟩, 0⟩, ⟨.bool false, .string ⟨#[99]⟩, 1⟩] 2)) := ins1 true _ _ m2
          have k3 : Below w1.heap.size w1 (putB W2 V1.heap.size (.map #[⟨.bool true, .string ⟨#[115]⟩, 0⟩, ⟨.bool false, .string ⟨#[99]⟩, 1⟩] 2)) := putB_below _ k2 b1
          have m3 : (putB W2 V1.heap.size (.map #[⟨.bool true, .string ⟨#[115]⟩, 0⟩, ⟨.bool false, .string ⟨#[99]⟩, 1⟩] 2)).heap[V1.heap.size]? = some (.map #[⟨.bool true, .string ⟨#[115]⟩, 0⟩, ⟨.bool false, .string ⟨#[99]⟩, 1⟩] 2) := putB_at _ (lt_of_block m2)
          go_simp
          clear e3
          refine hK.out _ _ ?_ (fun hHeld => ?_)
          · exact HasT.four (HasT.below T1 k3 T1.lt)
          clear hK K
          (try simp only [Act.put, List.getElem_toArray, List.getElem_cons_zero, List.getElem_cons_succ, List.setIfInBounds_toArray, List.set_cons_zero, List.set_cons_succ])
          generalize putB W2 V1.heap.size (.map #[⟨.bool true, .string ⟨#[115]⟩, 0⟩, ⟨.bool false, .string ⟨#[99]⟩, 1⟩] 2) = W3 at *
          refine wpAnyH_take (i := 3) (v := ?_) rfl (by kernel_rfl) (by kernel_rfl) (by kernel_rfl) (fun _ _ _ h => h) (Or.inl ⟨by rfl, ?_⟩) (by assumption) ?_
          rotate_left
          · (intro w hSw; (try dsimp only at hSw); go_simp; (try with_reducible rfl))
          (try simp only [Act.put, List.getElem_toArray, List.getElem_cons_zero, List.getElem_cons_succ, List.setIfInBounds_toArray, List.set_cons_zero, List.set_cons_succ])
          refine wpAnyH_ready (rs := [6, 9]) (by kernel_rfl) (by simp) ?_
          refine (AllReadyH.cons rfl (fun K hK => ?_) (AllReadyH.cons rfl (fun K hK => ?_) AllReadyH.nil))
          ·
            simp only [List.getElem_toArray, List.getElem_cons_zero, List.getElem_cons_succ]
            have e4 : (Instr.lookup 73 (.map (some V1.heap.size)) (.bool s) false).run Tryd.prog W3 = .ok (.string ⟨hd.toArray⟩) W3 := by rw [look2 _ _ _ _ m3]; rw [HH.out]; cases s <;> rfl
            go_simp
            clear e4
            refine hK.out _ _ ?_ (fun hHeld => ?_)
            · exact HasT.four (HasT.below T1 k3 T1.lt)
            clear hK K
            (try simp only [Act.put, List.getElem_toArray, List.getElem_cons_zero, List.getElem_cons_succ, List.setIfInBounds_toArray, List.set_cons_zero, List.set_cons_succ])
            refine wpAnyH_ready (rs := [9]) (by kernel_rfl) (by simp) ?_
            refine (AllReadyH.cons rfl (fun K hK => ?_) AllReadyH.nil)
            simp only [List.getElem_toArray, List.getElem_cons_zero, List.getElem_cons_succ]
            go_simp
            go_at_call 39
            with_reducible refine (itoa_any p _ ?_ ?_ ?_).mono ?_
            · exact HasTab.below2 hT1 k3
            · omega
            · omega
            rintro e W5 ⟨rfl, q5⟩
            have k5 : Below w1.heap.size w1 W5 := Below.trans k3 (Below.mono q5 (Below.size k3))
            have m5 := (Below.block q5 _ (lt_of_block m3)).trans m3
            refine hK.out _ _ ?_ (fun hHeld => ?_)
            · exact HasT.four (HasT.below T1 k5 T1.lt)
            clear hK K
            (try simp only [Act.put, List.getElem_toArray, List.getElem_cons_zero, List.getElem_cons_succ, List.setIfInBounds_toArray, List.set_cons_zero, List.set_cons_succ])
            refine wpAnyH_take (i := 10) (v := ?_) rfl (by kernel_rfl) (by kernel_rfl) (by kernel_rfl) (fun _ _ _ h => h) (Or.inl ⟨by rfl, ?_⟩) (by assumption) ?_
            rotate_left
            · (intro w hSw; (try dsimp only at hSw); go_simp; (try with_reducible rfl))
            (try simp only [Act.put, List.getElem_toArray, List.getElem_cons_zero, List.getElem_cons_succ, List.setIfInBounds_toArray, List.set_cons_zero, List.set_cons_succ])
            refine wpAnyH_take (i := 11) (v := ?_) rfl (by kernel_rfl) (by kernel_rfl) (by kernel_rfl) (fun _ _ _ h => h) (Or.inl ⟨by rfl, ?_⟩) (by assumption) ?_
            rotate_left
            · (intro w hSw; (try dsimp only at hSw); go_simp; (try with_reducible rfl))
            (try simp only [Act.put, List.getElem_toArray, List.getElem_cons_zero, List.getElem_cons_succ, List.setIfInBounds_toArray, List.set_cons_zero, List.set_cons_succ])
            refine wpAnyH_done (by kernel_rfl) ?_ _
            refine NoPanic.normal ?_
            exact ⟨rfl, ⟨_, _, _, _, _, _, _, _, _, rfl⟩, k5⟩
          ·
            simp only [List.getElem_toArray, List.getElem_cons_zero, List.getElem_cons_succ]
            go_simp
            go_at_call 39
            with_reducible refine (itoa_any p _ ?_ ?_ ?_).mono ?_
            · exact HasTab.below2 hT1 k3
            · omega
            · omega
            rintro e W6 ⟨rfl, q6⟩
            have k6 : Below w1.heap.size w1 W6 := Below.trans k3 (Below.mono q6 (Below.size k3))
            have m6 := (Below.block q6 _ (lt_of_block m3)).trans m3
            refine hK.out _ _ ?_ (fun hHeld => ?_)
            · exact HasT.four (HasT.below T1 k6 T1.lt)
            clear hK K
            (try simp only [Act.put, List.getElem_toArray, List.getElem_cons_zero, List.getElem_cons_succ, List.setIfInBounds_toArray, List.set_cons_zero, List.set_cons_succ])
            refine wpAnyH_ready (rs := [6]) (by kernel_rfl) (by simp) ?_
            refine (AllReadyH.cons rfl (fun K hK => ?_) AllReadyH.nil)
            simp only [List.getElem_toArray, List.getElem_cons_zero, List.getElem_cons_succ]
            have e7 : (Instr.lookup 73 (.map (some V1.heap.size)) (.bool s) false).run Tryd.prog W6 = .ok (.string ⟨hd.toArray⟩) W6 := by rw [look2 _ _ _ _ m6]; rw [HH.out]; cases s <;> rfl
            go_simp
            clear e7
            refine hK.out _ _ ?_ (fun hHeld => ?_)
            · exact HasT.four (HasT.below T1 k6 T1.lt)
            clear hK K
            (try simp only [Act.put, List.getElem_toArray, List.getElem_cons_zero, List.getElem_cons_succ, List.setIfInBounds_toArray, List.set_cons_zero, List.set_cons_succ])
            refine wpAnyH_take (i := 10) (v := ?_) rfl (by kernel_rfl) (by kernel_rfl) (by kernel_rfl) (fun _ _ _ h => h) (Or.inl ⟨by rfl, ?_⟩) (by assumption) ?_
            rotate_left
            · (intro w hSw; (try dsimp only at hSw); go_simp; (try with_reducible rfl))
            (try simp only [Act.put, List.getElem_toArray, List.getElem_cons_zero, List.getElem_cons_succ, List.setIfInBounds_toArray, List.set_cons_zero, List.set_cons_succ])
            refine wpAnyH_take (i := 11) (v := ?_) rfl (by kernel_rfl) (by kernel_rfl) (by kernel_rfl) (fun _ _ _ h => h) (Or.inl ⟨by rfl, ?_⟩) (by assumption) ?_
            rotate_left
            · (intro w hSw; (try dsimp only at hSw); go_simp; (try with_reducible rfl))
            (try simp only [Act.put, List.getElem_toArray, List.getElem_cons_zero, List.getElem_cons_succ, List.setIfInBounds_toArray, List.set_cons_zero, List.set_cons_succ])
            refine wpAnyH_done (by kernel_rfl) ?_ _
            refine NoPanic.normal ?_
            exact ⟨rfl, ⟨_, _, _, _, _, _, _, _, _, rfl⟩, k6⟩
        ·
          simp only [List.getElem_toArray, List.getElem_cons_zero, List.getElem_cons_succ]
          go_simp
          go_at_call 39
          with_reducible refine (itoa_any p _ ?_ ?_ ?_).mono ?_
          · exact HasTab.below2 hT1 k2
          · omega
          · omega
          rintro e W8 ⟨rfl, q8⟩
          have k8 : Below w1.heap.size w1 W8 := Below.trans k2 (Below.mono q8 (Below.size k2))
          have m8 := (Below.block q8 _ (lt_of_block m2)).trans m2
          refine hK.out _ _ ?_ (fun hHeld => ?_)
          · exact HasT.four (HasT.below T1 k8 T1.lt)
          clear hK K
          (try simp only [Act.put, List.getElem_toArray, List.getElem_cons_zero, List.getElem_cons_succ, List.setIfInBounds_toArray, List.set_cons_zero, List.set_cons_succ])
          refine wpAnyH_ready (rs := [2]) (by kernel_rfl) (by simp) ?_
          refine (AllReadyH.cons rfl (fun K hK => ?_) AllReadyH.nil)
          simp only [List.getElem_toArray, List.getElem_cons_zero, List.getElem_cons_succ]
          have e9 : (Instr.mapUpdate 73 (.map (some V1.heap.size)) (.bool false) (.string ⟨#[99]⟩)).run Tryd.prog W8 = .ok () (putB W8 V1.heap.size (.map #[⟨.bool true, .string ⟨#[115]⟩, 0⟩, ⟨.bool false, .string ⟨#[99]⟩, 1⟩] 2)) := ins1 true _ _ m8
          have k9 : Below w1.heap.size w1 (putB W8 V1.heap.size (.map #[⟨.bool true, .string ⟨#[115]⟩, 0⟩, ⟨.bool false, .string ⟨#[99]⟩, 1⟩] 2)) := putB_below _ k8 b1
          have m9 : (putB W8 V1.heap.size (.map #[⟨.bool true, .string ⟨#[115]⟩, 0⟩, ⟨.bool false, .string ⟨#[99]⟩, 1⟩] 2)).heap[V1.heap.size]? = some (.map #[⟨.bool true, .string ⟨#[115]⟩, 0⟩, ⟨.bool false, .string ⟨#[99]⟩, 1⟩] 2) := putB_at _ (lt_of_block m8)
          go_simp
          clear e9
          refine hK.out _ _ ?_ (fun hHeld => ?_)
          · exact HasT.four (HasT.below T1 k9 T1.lt)
          clear hK K
          (try simp only [Act.put, List.getElem_toArray, List.getElem_cons_zero, List.getElem_cons_succ, List.setIfInBounds_toArray, List.set_cons_zero, List.set_cons_succ])
          generalize putB W8 V1.heap.size (.map #[⟨.bool true, .string ⟨#[115]⟩, 0⟩, ⟨.bool false, .string ⟨#[99]⟩, 1⟩] 2) = W9 at *
          refine wpAnyH_take (i := 3) (v := ?_) rfl (by kernel_rfl) (by kernel_rfl) (by kernel_rfl) (fun _ _ _ h => h) (Or.inl ⟨by rfl, ?_⟩) (by assumption) ?_
          rotate_left
          · (intro w hSw; (try dsimp only at hSw); go_simp; (try with_reducible rfl))
          (try simp only [Act.put, List.getElem_toArray, List.getElem_cons_zero, List.getElem_cons_succ, List.setIfInBounds_toArray, List.set_cons_zero, List.set_cons_succ])
          refine wpAnyH_ready (rs := [6]) (by kernel_rfl) (by simp) ?_
          refine (AllReadyH.cons rfl (fun K hK => ?_) AllReadyH.nil)
          simp only [List.getElem_toArray, List.getElem_cons_zero, List.getElem_cons_succ]
          have e10 : (Instr.lookup 73 (.map (some V1.heap.size)) (.bool s) false).run Tryd.prog W9 = .ok (.string ⟨hd.toArray⟩) W9 := by rw [look2 _ _ _ _ m9]; rw [HH.out]; cases s <;> rfl
          go_simp
          clear e10
          refine hK.out _ _ ?_ (fun hHeld => ?_)
          · exact HasT.four (HasT.below T1 k9 T1.lt)
          clear hK K
          (try simp only [Act.put, List.getElem_toArray, List.getElem_cons_zero, List.getElem_cons_succ, List.setIfInBounds_toArray, List.set_cons_zero, List.set_cons_succ])
          refine wpAnyH_take (i := 10) (v := ?_) rfl (by kernel_rfl) (by kernel_rfl) (by kernel_rfl) (fun _ _ _ h => h) (Or.inl ⟨by rfl, ?_⟩) (by assumption) ?_
          rotate_left
          · (intro w hSw; (try dsimp only at hSw); go_simp; (try with_reducible rfl))
          (try simp only [Act.put, List.getElem_toArray, List.getElem_cons_zero, List.getElem_cons_succ, List.setIfInBounds_toArray, List.set_cons_zero, List.set_cons_succ])
          refine wpAnyH_take (i := 11) (v := ?_) rfl (by kernel_rfl) (by kernel_rfl) (by kernel_rfl) (fun _ _ _ h => h) (Or.inl ⟨by rfl, ?_⟩) (by assumption) ?_
          rotate_left
          · (intro w hSw; (try dsimp only at hSw); go_simp; (try with_reducible rfl))
          (try simp only [Act.put, List.getElem_toArray, List.getElem_cons_zero, List.getElem_cons_succ, List.setIfInBounds_toArray, List.set_cons_zero, List.set_cons_succ])
          refine wpAnyH_done (by kernel_rfl) ?_ _
          refine NoPanic.normal ?_
          exact ⟨rfl, ⟨_, _, _, _, _, _, _, _, _, rfl⟩, k9⟩
      ·
        simp only [List.getElem_toArray, List.getElem_cons_zero, List.getElem_cons_succ]
        have e11 : (Instr.mapUpdate 73 (.map (some V1.heap.size)) (.bool false) (.string ⟨#[99]⟩)).run Tryd.prog W1 = .ok () (putB W1 V1.heap.size (.map #[⟨.bool false, .string ⟨#[99]⟩, 0⟩] 1)) := ins0 false _ m1
        have k11 : Below w1.heap.size w1 (putB W1 V1.heap.size (.map #[⟨.bool false, .string ⟨#[99]⟩, 0⟩] 1)) := putB_below _ k1 b1
        have m11 : (putB W1 V1.heap.size (.map #[⟨.bool false, .string ⟨#[99]⟩, 0⟩] 1)).heap[V1.heap.size]? = some (.map #[⟨.bool false, .string ⟨#[99]⟩, 0⟩] 1) := putB_at _ (lt_of_block m1)
        go_simp
        clear e11
        refine hK.out _ _ ?_ (fun hHeld => ?_)
        · exact HasT.four (HasT.below T1 k11 T1.lt)
        clear hK K
        (try simp only [Act.put, List.getElem_toArray, List.getElem_cons_zero, List.getElem_cons_succ, List.setIfInBounds_toArray, List.set_cons_zero, List.set_cons_succ])
        generalize putB W1 V1.heap.size (.map #[⟨.bool false, .string ⟨#[99]⟩, 0⟩] 1) = W11 at *
        refine wpAnyH_ready (rs := [1, 9]) (by kernel_rfl) (by simp) ?_
        refine (AllReadyH.cons rfl (fun K hK => ?_) (AllReadyH.cons rfl (fun K hK => ?_) AllReadyH.nil))
        ·
          simp only [List.getElem_toArray, List.getElem_cons_zero, List.getElem_cons_succ]
          have e12 : (Instr.mapUpdate 73 (.map (some V1.heap.size)) (.bool true) (.string ⟨#[115]⟩)).run Tryd.prog W11 = .ok () (putB W11 V1.heap.size (.map #[⟨.bool false, .string ⟨#[99]⟩, 0⟩, ⟨.bool true, .string ⟨#[115]⟩, 1⟩] 2)) := ins1 false _ _ m11
          have k12 : Below w1.heap.size w1 (putB W11 V1.heap.size (.map #[⟨.bool false, .string ⟨#[99]⟩, 0⟩, ⟨.bool true, .string ⟨#[115]⟩, 1⟩] 2)) := putB_below _ k11 b1
          have m12 : (putB W11 V1.heap.size (.map #[⟨.bool false, .string ⟨#[99]⟩, 0⟩, ⟨.bool true, .string ⟨#[115]⟩, 1⟩] 2)).heap[V1.heap.size]? = some (.map #[⟨.bool false, .string ⟨#[99]⟩, 0⟩, ⟨.bool true, .string ⟨#[115]⟩, 1⟩] 2) := putB_at _ (lt_of_block m11)
          go_simp
          clear e12
          refine hK.out _ _ ?_ (fun hHeld => ?_)
          · exact HasT.four (HasT.below T1 k12 T1.lt)
          clear hK K
          (try simp only [Act.put, List.getElem_toArray, List.getElem_cons_zero, List.getElem_cons_succ, List.setIfInBounds_toArray, List.set_cons_zero, List.set_cons_succ])
          generalize putB W11 V1.heap.size (.map #[⟨.bool false, .string ⟨#[99]⟩, 0⟩, ⟨.bool true, .string ⟨#[115]⟩, 1⟩] 2) = W12 at *
          refine wpAnyH_take (i := 3) (v := ?_) rfl (by kernel_rfl) (by kernel_rfl) (by kernel_rfl) (fun _ _ _ h => h) (Or.inl ⟨by rfl, ?_⟩) (by assumption) ?_
          rotate_left
          · (intro w hSw; (try dsimp only at hSw); go_simp; (try with_reducible rfl))
          (try simp only [Act.put, List.getElem_toArray, List.getElem_cons_zero, List.getElem_cons_succ, List.setIfInBounds_toArray, List.set_cons_zero, List.set_cons_succ])
          refine wpAnyH_ready (rs := [6, 9]) (by kernel_rfl) (by simp) ?_
          refine (AllReadyH.cons rfl (fun K hK => ?_) (AllReadyH.cons rfl (fun K hK => ?_) AllReadyH.nil))
          ·
            simp only [List.getElem_toArray, List.getElem_cons_zero, List.getElem_cons_succ]
            have e13 : (Instr.lookup 73 (.map (some V1.heap.size)) (.bool s) false).run Tryd.prog W12 = .ok (.string ⟨hd.toArray⟩) W12 := by rw [look2 _ _ _ _ m12]; rw [HH.out]; cases s <;> rfl
            go_simp
            clear e13
            refine hK.out _ _ ?_ (fun hHeld => ?_)
            · exact HasT.four (HasT.below T1 k12 T1.lt)
            clear hK K
            (try simp only [Act.put, List.getElem_toArray, List.getElem_cons_zero, List.getElem_cons_succ, List.setIfInBounds_toArray, List.set_cons_zero, List.set_cons_succ])
            refine wpAnyH_ready (rs := [9]) (by kernel_rfl) (by simp) ?_
            refine (AllReadyH.cons rfl (fun K hK => ?_) AllReadyH.nil)
            simp only [List.getElem_toArray, List.getElem_cons_zero, List.getElem_cons_succ]
            go_simp
            go_at_call 39
            with_reducible refine (itoa_any p _ ?_ ?_ ?_).mono ?_
            · exact HasTab.below2 hT1 k12
            · omega
            · omega
            rintro e W14 ⟨rfl, q14⟩
            have k14 : Below w1.heap.size w1 W14 := Below.trans k12 (Below.mono q14 (Below.size k12))
            have m14 := (Below.block q14 _ (lt_of_block m12)).trans m12
            refine hK.out _ _ ?_ (fun hHeld => ?_)
            · exact HasT.four (HasT.below T1 k14 T1.lt)
            clear hK K
            (try simp only [Act.put, List.getElem_toArray, List.getElem_cons_zero, List.getElem_cons_succ, List.setIfInBounds_toArray, List.set_cons_zero, List.set_cons_succ])
            refine wpAnyH_take (i := 10) (v := ?_) rfl (by kernel_rfl) (by kernel_rfl) (by kernel_rfl) (fun _ _ _ h => h) (Or.inl ⟨by rfl, ?_⟩) (by assumption) ?_
            rotate_left
            · (intro w hSw; (try dsimp only at hSw); go_simp; (try with_reducible rfl))
            (try simp only [Act.put, List.getElem_toArray, List.getElem_cons_zero, List.getElem_cons_succ, List.setIfInBounds_toArray, List.set_cons_zero, List.set_cons_succ])
            refine wpAnyH_take (i := 11) (v := ?_) rfl (by kernel_rfl) (by kernel_rfl) (by kernel_rfl) (fun _ _ _ h => h) (Or.inl ⟨by rfl, ?_⟩) (by assumption) ?_
            rotate_left
            · (intro w hSw; (try dsimp only at hSw); go_simp; (try with_reducible rfl))
            (try simp only [Act.put, List.getElem_toArray, List.getElem_cons_zero, List.getElem_cons_succ, List.setIfInBounds_toArray, List.set_cons_zero, List.set_cons_succ])
            refine wpAnyH_done (by kernel_rfl) ?_ _
            refine NoPanic.normal ?_
            exact ⟨rfl, ⟨_, _, _, _, _, _, _, _, _, rfl⟩, k14⟩
          ·
            simp only [List.getElem_toArray, List.getElem_cons_zero, List.getElem_cons_succ]
            go_simp
            go_at_call 39
            with_reducible refine (itoa_any p _ ?_ ?_ ?_).mono ?_
            · exact HasTab.below2 hT1 k12
            · omega
            · omega
            rintro e W15 ⟨rfl, q15⟩
            have k15 : Below w1.heap.size w1 W15 := Below.trans k12 (Below.mono q15 (Below.size k12))
            have m15 := (Below.block q15 _ (lt_of_block m12)).trans m12
            refine hK.out _ _ ?_ (fun hHeld => ?_)
            · exact HasT.four (HasT.below T1 k15 T1.lt)
            clear hK K
            (try simp only [Act.put, List.getElem_toArray, List.getElem_cons_zero, List.getElem_cons_succ, List.setIfInBounds_toArray, List.set_cons_zero, List.set_cons_succ])
            refine wpAnyH_ready (rs := [6]) (by kernel_rfl) (by simp) ?_
            refine (AllReadyH.cons rfl (fun K hK => ?_) AllReadyH.nil)
            simp only [List.getElem_toArray, List.getElem_cons_zero, List.getElem_cons_succ]
            have e16 : (Instr.lookup 73 (.map (some V1.heap.size)) (.bool s) false).run Tryd.prog W15 = .ok (.string ⟨hd.toArray⟩) W15 := by rw [look2 _ _ _ _ m15]; rw [HH.out]; cases s <;> rfl
            go_simp
            clear e16
            refine hK.out _ _ ?_ (fun hHeld => ?_)
            · exact HasT.four (HasT.below T1 k15 T1.lt)
            clear hK K
            (try simp only [Act.put, List.getElem_toArray, List.getElem_cons_zero, List.getElem_cons_succ, List.setIfInBounds_toArray, List.set_cons_zero, List.set_cons_succ])
            refine wpAnyH_take (i := 10) (v := ?_) rfl (by kernel_rfl) (by kernel_rfl) (by kernel_rfl) (fun _ _ _ h => h) (Or.inl ⟨by rfl, ?_⟩) (by assumption) ?_
            rotate_left
            · (intro w hSw; (try dsimp only at hSw); go_simp; (try with_reducible rfl))
            (try simp only [Act.put, List.getElem_toArray, List.getElem_cons_zero, List.getElem_cons_succ, List.setIfInBounds_toArray, List.set_cons_zero, List.set_cons_succ])
            refine wpAnyH_take (i := 11) (v := ?_) rfl (by kernel_rfl) (by kernel_rfl) (by kernel_rfl) (fun _ _ _ h => h) (Or.inl ⟨by rfl, ?_⟩) (by assumption) ?_
            rotate_left
            · (intro w hSw; (try dsimp only at hSw); go_simp; (try with_reducible rfl))
            (try simp only [Act.put, List.getElem_toArray, List.getElem_cons_zero, List.getElem_cons_succ, List.setIfInBounds_toArray, List.set_cons_zero, List.set_cons_succ])
            refine wpAnyH_done (by kernel_rfl) ?_ _
            refine NoPanic.normal ?_
            exact ⟨rfl, ⟨_, _, _, _, _, _, _, _, _, rfl⟩, k15⟩
        ·
          simp only [List.getElem_toArray, List.getElem_cons_zero, List.getElem_cons_succ]
          go_simp
          go_at_call 39
          with_reducible refine (itoa_any p _ ?_ ?_ ?_).mono ?_
          · exact HasTab.below2 hT1 k11
          · omega
          · omega
          rintro e W17 ⟨rfl, q17⟩
          have k17 : Below w1.heap.size w1 W17 := Below.trans k11 (Below.mono q17 (Below.size k11))
          have m17 := (Below.block q17 _ (lt_of_block m11)).trans m11
          refine hK.out _ _ ?_ (fun hHeld => ?_)
          · exact HasT.four (HasT.below T1 k17 T1.lt)
          clear hK K
          (try simp only [Act.put, List.getElem_toArray, List.getElem_cons_zero, List.getElem_cons_succ, List.setIfInBounds_toArray, List.set_cons_zero, List.set_cons_succ])
          refine wpAnyH_ready (rs := [1]) (by kernel_rfl) (by simp) ?_
          refine (AllReadyH.cons rfl (fun K hK => ?_) AllReadyH.nil)
          simp only [List.getElem_toArray, List.getElem_cons_zero, List.getElem_cons_succ]
          have e18 : (Instr.mapUpdate 73 (.map (some V1.heap.size)) (.bool true) (.string ⟨#[115]⟩)).run Tryd.prog W17 = .ok () (putB W17 V1.heap.size (.map #[⟨.bool false, .string ⟨#[99]⟩, 0⟩, ⟨.bool true, .string ⟨#[115]⟩, 1⟩] 2)) := ins1 false _ _ m17
          have k18 : Below w1.heap.size w1 (putB W17 V1.heap.size (.map #[⟨.bool false, .string ⟨#[99]⟩, 0⟩, ⟨.bool true, .string ⟨#[115]⟩, 1⟩] 2)) := putB_below _ k17 b1
          have m18 : (putB W17 V1.heap.size (.map #[⟨.bool false, .string ⟨#[99]⟩, 0⟩, ⟨.bool true, .string ⟨#[115]⟩, 1⟩] 2)).heap[V1.heap.size]? = some (.map #[⟨.bool false, .string ⟨#[99]⟩, 0⟩, ⟨.bool true, .string ⟨#[115]⟩, 1⟩] 2) := putB_at _ (lt_of_block m17)
          go_simp
          clear e18
          refine hK.out _ _ ?_ (fun hHeld => ?_)
          · exact HasT.four (HasT.below T1 k18 T1.lt)
          clear hK K
          (try simp only [Act.put, List.getElem_toArray, List.getElem_cons_zero, List.getElem_cons_succ, List.setIfInBounds_toArray, List.set_cons_zero, List.set_cons_succ])
          generalize putB W17 V1.heap.size (.map #[⟨.bool false, .string ⟨#[99]⟩, 0⟩, ⟨.bool true, .string ⟨#[115]⟩, 1⟩] 2) = W18 at *
          refine wpAnyH_take (i := 3) (v := ?_) rfl (by kernel_rfl) (by kernel_rfl) (by kernel_rfl) (fun _ _ _ h => h) (Or.inl ⟨by rfl, ?_⟩) (by assumption) ?_
          rotate_left
          · (intro w hSw; (try dsimp only at hSw); go_simp; (try with_reducible rfl))
          (try simp only [Act.put, List.getElem_toArray, List.getElem_cons_zero, List.getElem_cons_succ, List.setIfInBounds_toArray, List.set_cons_zero, List.set_cons_succ])
          refine wpAnyH_ready (rs := [6]) (by kernel_rfl) (by simp) ?_
          refine (AllReadyH.cons rfl (fun K hK => ?_) AllReadyH.nil)
          simp only [List.getElem_toArray, List.getElem_cons_zero, List.getElem_cons_succ]
          have e19 : (Instr.lookup 73 (.map (some V1.heap.size)) (.bool s) false).run Tryd.prog W18 = .ok (.string ⟨hd.toArray⟩) W18 := by rw [look2 _ _ _ _ m18]; rw [HH.out]; cases s <;> rfl
          go_simp
          clear e19
          refine hK.out _ _ ?_ (fun hHeld => ?_)
          · exact HasT.four (HasT.below T1 k18 T1.lt)
          clear hK K
          (try simp only [Act.put, List.getElem_toArray, List.getElem_cons_zero, List.getElem_cons_succ, List.setIfInBounds_toArray, List.set_cons_zero, List.set_cons_succ])
          refine wpAnyH_take (i := 10) (v := ?_) rfl (by kernel_rfl) (by kernel_rfl) (by kernel_rfl) (fun _ _ _ h => h) (Or.inl ⟨by rfl, ?_⟩) (by assumption) ?_
          rotate_left
          · (intro w hSw; (try dsimp only at hSw); go_simp; (try with_reducible rfl))
          (try simp only [Act.put, List.getElem_toArray, List.getElem_cons_zero, List.getElem_cons_succ, List.setIfInBounds_toArray, List.set_cons_zero, List.set_cons_succ])
          refine wpAnyH_take (i := 11) (v := ?_) rfl (by kernel_rfl) (by kernel_rfl) (by kernel_rfl) (fun _ _ _ h => h) (Or.inl ⟨by rfl, ?_⟩) (by assumption) ?_
          rotate_left
          · (intro w hSw; (try dsimp only at hSw); go_simp; (try with_reducible rfl))
          (try simp only [Act.put, List.getElem_toArray, List.getElem_cons_zero, List.getElem_cons_succ, List.setIfInBounds_toArray, List.set_cons_zero, List.set_cons_succ])
          refine wpAnyH_done (by kernel_rfl) ?_ _
          refine NoPanic.normal ?_
          exact ⟨rfl, ⟨_, _, _, _, _, _, _, _, _, rfl⟩, k18⟩
      ·
        simp only [List.getElem_toArray, List.getElem_cons_zero, List.getElem_cons_succ]
        go_simp
        go_at_call 39
        with_reducible refine (itoa_any p _ ?_ ?_ ?_).mono ?_
        · exact HasTab.below2 hT1 k1
        · omega
        · omega
        rintro e W20 ⟨rfl, q20⟩
        have k20 : Below w1.heap.size w1 W20 := Below.trans k1 (Below.mono q20 (Below.size k1))
        have m20 := (Below.block q20 _ (lt_of_block m1)).trans m1
        refine hK.out _ _ ?_ (fun hHeld => ?_)
        · exact HasT.four (HasT.below T1 k20 T1.lt)
        clear hK K
        (try simp only [Act.put, List.getElem_toArray, List.getElem_cons_zero, List.getElem_cons_succ, List.setIfInBounds_toArray, List.set_cons_zero, List.set_cons_succ])
        refine wpAnyH_ready (rs := [1, 2]) (by kernel_rfl) (by simp) ?_
        refine (AllReadyH.cons rfl (fun K hK => ?_) (AllReadyH.cons rfl (fun K hK => ?_) AllReadyH.nil))
        ·
          simp only [List.getElem_toArray, List.getElem_cons_zero, List.getElem_cons_succ]
          have e21 : (Instr.mapUpdate 73 (.map (some V1.heap.size)) (.bool true) (.string ⟨#[115]⟩)).run Tryd.prog W20 = .ok () (putB W20 V1.heap.size (.map #[⟨.bool true, .string ⟨#[115]⟩, 0⟩] 1)) := ins0 true _ m20
          have k21 : Below w1.heap.size w1 (putB W20 V1.heap.size (.map #[⟨.bool true, .string ⟨#[115]⟩, 0⟩] 1)) := putB_below _ k20 b1
          have m21 : (putB W20 V1.heap.size (.map #[⟨.bool true, .string ⟨#[115]⟩, 0⟩] 1)).heap[V1.heap.size]? = some (.map #[⟨.bool true, .string ⟨#[115]⟩, 0⟩] 1) := putB_at _ (lt_of_block m20)
          go_simp
          clear e21
          refine hK.out _ _ ?_ (fun hHeld => ?_)
          · exact HasT.four (HasT.below T1 k21 T1.lt)
          clear hK K
          (try simp only [Act.put, List.getElem_toArray, List.getElem_cons_zero, List.getElem_cons_succ, List.setIfInBounds_toArray, List.set_cons_zero, List.set_cons_succ])
          generalize putB W20 V1.heap.size (.map #[⟨.bool true, .string ⟨#[115]⟩, 0⟩] 1) = W21 at *
          refine wpAnyH_ready (rs := [2]) (by kernel_rfl) (by simp) ?_
          refine (AllReadyH.cons rfl (fun K hK => ?_) AllReadyH.nil)
          simp only [List.getElem_toArray, List.getElem_cons_zero, List.getElem_cons_succ]
          have e22 : (Instr.mapUpdate 73 (.map (some V1.heap.size)) (.bool false) (.string ⟨#[99]⟩)).run Tryd.prog W21 = .ok () (putB W21 V1.heap.size (.map #[⟨.bool true, .string ⟨#[115]⟩, 0⟩, ⟨.bool false, .string ⟨#[99]⟩, 1⟩] 2)) := ins1 true _ _ m21
          have k22 : Below w1.heap.size w1 (putB W21 V1.heap.size (.map #[⟨.bool true, .string ⟨#[115]⟩, 0⟩, ⟨.bool false, .string ⟨#[99]⟩, 1⟩] 2)) := putB_below _ k21 b1
          have m22 : (putB W21 V1.heap.size (.map #[⟨.bool true, .string ⟨#[115]⟩, 0⟩, ⟨.bool false, .string ⟨#[99]⟩, 1⟩] 2)).heap[V1.heap.size]? = some (.map #[⟨.bool true, .string ⟨#[115]⟩, 0⟩, ⟨.bool false, .string ⟨#[99]⟩, 1⟩] 2) := putB_at _ (lt_of_block m21)
          go_simp
          clear e22
          refine hK.out _ _ ?_ (fun hHeld => ?_)
          · exact HasT.four (HasT.below T1 k22 T1.lt)
          clear hK K
          (try simp only [Act.put, List.getElem_toArray, List.getElem_cons_zero, List.getElem_cons_succ, List.setIfInBounds_toArray, List.set_cons_zero, List.set_cons_succ])
          generalize putB W21 V1.heap.size (.map #[⟨.bool true, .string ⟨#[115]⟩, 0⟩, ⟨.bool false, .string ⟨#[99]⟩, 1⟩] 2) = W22 at *
          refine wpAnyH_take (i := 3) (v := ?_) rfl (by kernel_rfl) (by kernel_rfl) (by kernel_rfl) (fun _ _ _ h => h) (Or.inl ⟨by rfl, ?_⟩) (by assumption) ?_
          rotate_left
          · (intro w hSw; (try dsimp only at hSw); go_simp; (try with_reducible rfl))
          (try simp only [Act.put, List.getElem_toArray, List.getElem_cons_zero, List.getElem_cons_succ, List.setIfInBounds_toArray, List.set_cons_zero, List.set_cons_succ])
          refine wpAnyH_ready (rs := [6]) (by kernel_rfl) (by simp) ?_
          refine (AllReadyH.cons rfl (fun K hK => ?_) AllReadyH.nil)
          simp only [List.getElem_toArray, List.getElem_cons_zero, List.getElem_cons_succ]
          have e23 : (Instr.lookup 73 (.map (some V1.heap.size)) (.bool s) false).run Tryd.prog W22 = .ok (.string ⟨hd.toArray⟩) W22 := by rw [look2 _ _ _ _ m22]; rw [HH.out]; cases s <;> rfl
          go_simp
          clear e23
          refine hK.out _ _ ?_ (fun hHeld => ?_)
          · exact HasT.four (HasT.below T1 k22 T1.lt)
          clear hK K
          (try simp only [Act.put, List.getElem_toArray, List.getElem_cons_zero, List.getElem_cons_succ, List.setIfInBounds_toArray, List.set_cons_zero, List.set_cons_succ])
          refine wpAnyH_take (i := 10) (v := ?_) rfl (by kernel_rfl) (by kernel_rfl) (by kernel_rfl) (fun _ _ _ h => h) (Or.inl ⟨by rfl, ?_⟩) (by assumption) ?_
          rotate_left
          · (intro w hSw; (try dsimp only at hSw); go_simp; (try with_reducible rfl))
          (try simp only [Act.put, List.getElem_toArray, List.getElem_cons_zero, List.getElem_cons_succ, List.setIfInBounds_toArray, List.set_cons_zero, List.set_cons_succ])
          refine wpAnyH_take (i := 11) (v := ?_) rfl (by kernel_rfl) (by kernel_rfl) (by kernel_rfl) (fun _ _ _ h => h) (Or.inl ⟨by rfl, ?_⟩) (by assumption) ?_
          rotate_left
          · (intro w hSw; (try dsimp only at hSw); go_simp; (try with_reducible rfl))
          (try simp only [Act.put, List.getElem_toArray, List.getElem_cons_zero, List.getElem_cons_succ, List.setIfInBounds_toArray, List.set_cons_zero, List.set_cons_succ])
          refine wpAnyH_done (by kernel_rfl) ?_ _
          refine NoPanic.normal ?_
          exact ⟨rfl, ⟨_, _, _, _, _, _, _, _, _, rfl⟩, k22⟩
        ·
          simp only [List.getElem_toArray, List.getElem_cons_zero, List.getElem_cons_succ]
          have e24 : (Instr.mapUpdate 73 (.map (some V1.heap.size)) (.bool false) (.string ⟨#[99]⟩)).run Tryd.prog W20 = .ok () (putB W20 V1.heap.size (.map #[⟨.bool false, .string ⟨#[99]⟩, 0⟩] 1)) := ins0 false _ m20
          have k24 : Below w1.heap.size w1 (putB W20 V1.heap.size (.map #[⟨.bool false, .string ⟨#[99]⟩, 0⟩] 1)) := putB_below _ k20 b1
          have m24 : (putB W20 V1.heap.size (.map #[⟨.bool false, .string ⟨#[99]⟩, 0⟩] 1)).heap[V1.heap.size]? = some (.map #[⟨.bool false, .string ⟨#[99]⟩, 0⟩] 1) := putB_at _ (lt_of_block m20)
          go_simp
          clear e24
          refine hK.out _ _ ?_ (fun hHeld => ?_)
          · exact HasT.four (HasT.below T1 k24 T1.lt)
          clear hK K
          (try simp only [Act.put, List.getElem_toArray, List.getElem_cons_zero, List.getElem_cons_succ, List.setIfInBounds_toArray, List.set_cons_zero, List.set_cons_succ])
          generalize putB W20 V1.heap.size (.map #[⟨.bool false, .string ⟨#[99]⟩, 0⟩] 1) = W24 at *
          refine wpAnyH_ready (rs := [1]) (by kernel_rfl) (by simp) ?_
          refine (AllReadyH.cons rfl (fun K hK => ?_) AllReadyH.nil)
          simp only [List.getElem_toArray, List.getElem_cons_zero, List.getElem_cons_succ]
          have e25 : (Instr.mapUpdate 73 (.map (some V1.heap.size)) (.bool true) (.string ⟨#[115]⟩)).run Tryd.prog W24 = .ok () (putB W24 V1.heap.size (.map #[⟨.bool false, .string ⟨#[99]⟩, 0⟩, ⟨.bool true, .string ⟨#[115]⟩, 1⟩] 2)) := ins1 false _ _ m24
          have k25 : Below w1.heap.size w1 (putB W24 V1.heap.size (.map #[⟨.bool false, .string ⟨#[99]⟩, 0⟩, ⟨.bool true, .string ⟨#[115]⟩, 1⟩] 2)) := putB_below _ k24 b1
          have m25 : (putB W24 V1.heap.size (.map #[⟨.bool false, .string ⟨#[99]⟩, 0⟩, ⟨.bool true, .string ⟨#[115]⟩, 1⟩] 2)).heap[V1.heap.size]? = some (.map #[⟨.bool false, .string ⟨#[99]⟩, 0⟩, ⟨.bool true, .string ⟨#[115]⟩, 1⟩] 2) := putB_at _ (lt_of_block m24)
          go_simp
          clear e25
          refine hK.out _ _ ?_ (fun hHeld => ?_)
          · exact HasT.four (HasT.below T1 k25 T1.lt)
          clear hK K
          (try simp only [Act.put, List.getElem_toArray, List.getElem_cons_zero, List.getElem_cons_succ, List.setIfInBounds_toArray, List.set_cons_zero, List.set_cons_succ])
          generalize putB W24 V1.heap.size (.map #[⟨.bool false, .string ⟨#[99]⟩, 0⟩, ⟨.bool true, .string ⟨#[115]⟩, 1⟩] 2) = W25 at *
          refine wpAnyH_take (i := 3) (v := ?_) rfl (by kernel_rfl) (by kernel_rfl) (by kernel_rfl) (fun _ _ _ h => h) (Or.inl ⟨by rfl, ?_⟩) (by assumption) ?_
          rotate_left
          · (intro w hSw; (try dsimp only at hSw); go_simp; (try with_reducible rfl))
          (try simp only [Act.put, List.getElem_toArray, List.getElem_cons_zero, List.getElem_cons_succ, List.setIfInBounds_toArray, List.set_cons_zero, List.set_cons_succ])
          refine wpAnyH_ready (rs := [6]) (by kernel_rfl) (by simp) ?_
          refine (AllReadyH.cons rfl (fun K hK => ?_) AllReadyH.nil)
          simp only [List.getElem_toArray, List.getElem_cons_zero, List.getElem_cons_succ]
          have e26 : (Instr.lookup 73 (.map (some V1.heap.size)) (.bool s) false).run Tryd.prog W25 = .ok (.string ⟨hd.toArray⟩) W25 := by rw [look2 _ _ _ _ m25]; rw [HH.out]; cases s <;> rfl
          go_simp
          clear e26
          refine hK.out _ _ ?_ (fun hHeld => ?_)
          · exact HasT.four (HasT.below T1 k25 T1.lt)
          clear hK K
          (try simp only [Act.put, List.getElem_toArray, List.getElem_cons_zero, List.getElem_cons_succ, List.setIfInBounds_toArray, List.set_cons_zero, List.set_cons_succ])
          refine wpAnyH_take (i := 10) (v := ?_) rfl (by kernel_rfl) (by kernel_rfl) (by kernel_rfl) (fun _ _ _ h => h) (Or.inl ⟨by rfl, ?_⟩) (by assumption) ?_
          rotate_left
          · (intro w hSw; (try dsimp only at hSw); go_simp; (try with_reducible rfl))
          (try simp only [Act.put, List.getElem_toArray, List.getElem_cons_zero, List.getElem_cons_succ, List.setIfInBounds_toArray, List.set_cons_zero, List.set_cons_succ])
          refine wpAnyH_take (i := 11) (v := ?_) rfl (by kernel_rfl) (by kernel_rfl) (by kernel_rfl) (fun _ _ _ h => h) (Or.inl ⟨by rfl, ?_⟩) (by assumption) ?_
          rotate_left
          · (intro w hSw; (try dsimp only at hSw); go_simp; (try with_reducible rfl))
          (try simp only [Act.put, List.getElem_toArray, List.getElem_cons_zero, List.getElem_cons_succ, List.setIfInBounds_toArray, List.set_cons_zero, List.set_cons_succ])
          refine wpAnyH_done (by kernel_rfl) ?_ _
          refine NoPanic.normal ?_
          exact ⟨rfl, ⟨_, _, _, _, _, _, _, _, _, rfl⟩, k25⟩
    ·
      simp only [List.getElem_toArray, List.getElem_cons_zero, List.getElem_cons_succ]
      go_simp
      go_at_call 39
      with_reducible refine (itoa_any p _ ?_ ?_ ?_).mono ?_
      · exact HasTab.below2 hT1 k0
      · omega
      · omega
      rintro e W27 ⟨rfl, q27⟩
      have k27 : Below w1.heap.size w1 W27 := Below.trans k0 (Below.mono q27 (Below.size k0))
      refine hK.out _ _ ?_ (fun hHeld => ?_)
      · exact HasT.four (HasT.below T1 k27 T1.lt)
      clear hK K
      (try simp only [Act.put, List.getElem_toArray, List.getElem_cons_zero, List.getElem_cons_succ, List.setIfInBounds_toArray, List.set_cons_zero, List.set_cons_succ])
      refine wpAnyH_ready (rs := [0]) (by kernel_rfl) (by simp) ?_
      refine (AllReadyH.cons rfl (fun K hK => ?_) AllReadyH.nil)
      simp only [List.getElem_toArray, List.getElem_cons_zero, List.getElem_cons_succ]
      have k28 : Below w1.heap.size w1 (W27.alloc (.map #[] 0)) := Below.alloc k27 k27.size _
      have m28 : (W27.alloc (.map #[] 0)).heap[W27.heap.size]? = some (.map #[] 0) := heap_alloc_new _ _
      have b28 : w1.heap.size ≤ W27.heap.size := Below.size k27
      go_simp
      refine hK.out _ _ ?_ (fun hHeld => ?_)
      · exact HasT.four (HasT.below T1 k28 T1.lt)
      clear hK K
      (try simp only [Act.put, List.getElem_toArray, List.getElem_cons_zero, List.getElem_cons_succ, List.setIfInBounds_toArray, List.set_cons_zero, List.set_cons_succ])
      generalize W27.alloc (.map #[] 0) = W28 at *
      refine wpAnyH_ready (rs := [1, 2]) (by kernel_rfl) (by simp) ?_
      refine (AllReadyH.cons rfl (fun K hK => ?_) (AllReadyH.cons rfl (fun K hK => ?_) AllReadyH.nil))
      ·
        simp only [List.getElem_toArray, List.getElem_cons_zero, List.getElem_cons_succ]
        have e29 : (Instr.mapUpdate 73 (.map (some W27.heap.size)) (.bool true) (.string ⟨#[115]⟩)).run Tryd.prog W28 = .ok () (putB W28 W27.heap.size (.map #[⟨.bool true, .string ⟨#[115]⟩, 0⟩] 1)) := ins0 true _ m28
        have k29 : Below w1.heap.size w1 (putB W28 W27.heap.size (.map #[⟨.bool true, .string ⟨#[115]⟩, 0⟩] 1)) := putB_below _ k28 b28
        have m29 : (putB W28 W27.heap.size (.map #[⟨.bool true, .string ⟨#[115]⟩, 0⟩] 1)).heap[W27.heap.size]? = some (.map #[⟨.bool true, .string ⟨#[115]⟩, 0⟩] 1) := putB_at _ (lt_of_block m28)
        go_simp
        clear e29
        refine hK.out _ _ ?_ (fun hHeld => ?_)
        · exact HasT.four (HasT.below T1 k29 T1.lt)
        clear hK K
        (try simp only [Act.put, List.getElem_toArray, List.getElem_cons_zero, List.getElem_cons_succ, List.setIfInBounds_toArray, List.set_cons_zero, List.set_cons_succ])
        generalize putB W28 W27.heap.size (.map #[⟨.bool true, .string ⟨#[115]⟩, 0⟩] 1) = W29 at *
        refine wpAnyH_ready (rs := [2]) (by kernel_rfl) (by simp) ?_
        refine (AllReadyH.cons rfl (fun K hK => ?_) AllReadyH.nil)
        simp only [List.getElem_toArray, List.getElem_cons_zero, List.getElem_cons_succ]
        have e30 : (Instr.mapUpdate 73 (.map (some W27.heap.size)) (.bool false) (.string ⟨#[99]⟩)).run Tryd.prog W29 = .ok () (putB W29 W27.heap.size (.map #[⟨.bool true, .string ⟨#[115]⟩, 0⟩, ⟨.bool false, .string ⟨#[99]⟩, 1⟩] 2)) := ins1 true _ _ m29
        have k30 : Below w1.heap.size w1 (putB W29 W27.heap.size (.map #[⟨.bool true, .string ⟨#[115]⟩, 0⟩, ⟨.bool false, .string ⟨#[99]⟩, 1⟩] 2)) := putB_below _ k29 b28
        have m30 : (putB W29 W27.heap.size (.map #[⟨.bool true, .string ⟨#[115]⟩, 0⟩, ⟨.bool false, .string ⟨#[99]⟩, 1⟩] 2)).heap[W27.heap.size]? = some (.map #[⟨.bool true, .string ⟨#[115]⟩, 0⟩, ⟨.bool false, .string ⟨#[99]⟩, 1⟩] 2) := putB_at _ (lt_of_block m29)
        go_simp
        clear e30
        refine hK.out _ _ ?_ (fun hHeld => ?_)
        · exact HasT.four (HasT.below T1 k30 T1.lt)
        clear hK K
        (try simp only [Act.put, List.getElem_toArray, List.getElem_cons_zero, List.getElem_cons_succ, List.setIfInBounds_toArray, List.set_cons_zero, List.set_cons_succ])
        generalize putB W29 W27.heap.size (.map #[⟨.bool true, .string ⟨#[115]⟩, 0⟩, ⟨.bool false, .string ⟨#[99]⟩, 1⟩] 2) = W30 at *
        refine wpAnyH_take (i := 3) (v := ?_) rfl (by kernel_rfl) (by kernel_rfl) (by kernel_rfl) (fun _ _ _ h => h) (Or.inl ⟨by rfl, ?_⟩) (by assumption) ?_
        rotate_left
        · (intro w hSw; (try dsimp only at hSw); go_simp; (try with_reducible rfl))
        (try simp only [Act.put, List.getElem_toArray, List.getElem_cons_zero, List.getElem_cons_succ, List.setIfInBounds_toArray, List.set_cons_zero, List.set_cons_succ])
        refine wpAnyH_ready (rs := [6]) (by kernel_rfl) (by simp) ?_
        refine (AllReadyH.cons rfl (fun K hK => ?_) AllReadyH.nil)
        simp only [List.getElem_toArray, List.getElem_cons_zero, List.getElem_cons_succ]
        have e31 : (Instr.lookup 73 (.map (some W27.heap.size)) (.bool s) false).run Tryd.prog W30 = .ok (.string ⟨hd.toArray⟩) W30 := by rw [look2 _ _ _ _ m30]; rw [HH.out]; cases s <;> rfl
        go_simp
        clear e31
        refine hK.out _ _ ?_ (fun hHeld => ?_)
        · exact HasT.four (HasT.below T1 k30 T1.lt)
        clear hK K
        (try simp only [Act.put, List.getElem_toArray, List.getElem_cons_zero, List.getElem_cons_succ, List.setIfInBounds_toArray, List.set_cons_zero, List.set_cons_succ])
        refine wpAnyH_take (i := 10) (v := ?_) rfl (by kernel_rfl) (by kernel_rfl) (by kernel_rfl) (fun _ _ _ h => h) (Or.inl ⟨by rfl, ?_⟩) (by assumption) ?_
        rotate_left
        · (intro w hSw; (try dsimp only at hSw); go_simp; (try with_reducible rfl))
        (try simp only [Act.put, List.getElem_toArray, List.getElem_cons_zero, List.getElem_cons_succ, List.setIfInBounds_toArray, List.set_cons_zero, List.set_cons_succ])
        refine wpAnyH_take (i := 11) (v := ?_) rfl (by kernel_rfl) (by kernel_rfl) (by kernel_rfl) (fun _ _ _ h => h) (Or.inl ⟨by rfl, ?_⟩) (by assumption) ?_
        rotate_left
        · (intro w hSw; (try dsimp only at hSw); go_simp; (try with_reducible rfl))
        (try simp only [Act.put, List.getElem_toArray, List.getElem_cons_zero, List.getElem_cons_succ, List.setIfInBounds_toArray, List.set_cons_zero, List.set_cons_succ])
        refine wpAnyH_done (by kernel_rfl) ?_ _
        refine NoPanic.normal ?_
        exact ⟨rfl, ⟨_, _, _, _, _, _, _, _, _, rfl⟩, k30⟩
      ·
        simp only [List.getElem_toArray, List.getElem_cons_zero, List.getElem_cons_succ]
        have e32 : (Instr.mapUpdate 73 (.map (some W27.heap.size)) (.bool false) (.string ⟨#[99]⟩)).run Tryd.prog W28 = .ok () (putB W28 W27.heap.size (.map #[⟨.bool false, .string ⟨#[99]⟩, 0⟩] 1)) := ins0 false _ m28
        have k32 : Below w1.heap.size w1 (putB W28 W27.heap.size (.map #[⟨.bool false, .string ⟨#[99]⟩, 0⟩] 1)) := putB_below _ k28 b28
        have m32 : (putB W28 W27.heap.size (.map #[⟨.bool false, .string ⟨#[99]⟩, 0⟩] 1)).heap[W27.heap.size]? = some (.map #[⟨.bool false, .string ⟨#[99]⟩, 0⟩] 1) := putB_at _ (lt_of_block m28)
        go_simp
        clear e32
        refine hK.out _ _ ?_ (fun hHeld => ?_)
        · exact HasT.four (HasT.below T1 k32 T1.lt)
        clear hK K
        (try simp only [Act.put, List.getElem_toArray, List.getElem_cons_zero, List.getElem_cons_succ, List.setIfInBounds_toArray, List.set_cons_zero, List.set_cons_succ])
        generalize putB W28 W27.heap.size (.map #[⟨.bool false, .string ⟨#[99]⟩, 0⟩] 1) = W32 at *
        refine wpAnyH_ready (rs := [1]) (by kernel_rfl) (by simp) ?_
        refine (AllReadyH.cons rfl (fun K hK => ?_) AllReadyH.nil)
        simp only [List.getElem_toArray, List.getElem_cons_zero, List.getElem_cons_succ]
        have e33 : (Instr.mapUpdate 73 (.map (some W27.heap.size)) (.bool true) (.string ⟨#[115]⟩)).run Tryd.prog W32 = .ok () (putB W32 W27.heap.size (.map #[⟨.bool false, .string ⟨#[99]⟩, 0⟩, ⟨.bool true, .string ⟨#[115]⟩, 1⟩] 2)) := ins1 false _ _ m32
        have k33 : Below w1.heap.size w1 (putB W32 W27.heap.size (.map #[⟨.bool false, .string ⟨#[99]⟩, 0⟩, ⟨.bool true, .string ⟨#[115]⟩, 1⟩] 2)) := putB_below _ k32 b28
        have m33 : (putB W32 W27.heap.size (.map #[⟨.bool false, .string ⟨#[99]⟩, 0⟩, ⟨.bool true, .string ⟨#[115]⟩, 1⟩] 2)).heap[W27.heap.size]? = some (.map #[⟨.bool false, .string ⟨#[99]⟩, 0⟩, ⟨.bool true, .string ⟨#[115]⟩, 1⟩] 2) := putB_at _ (lt_of_block m32)
        go_simp
        clear e33
        refine hK.out _ _ ?_ (fun hHeld => ?_)
        · exact HasT.four (HasT.below T1 k33 T1.lt)
        clear hK K
        (try simp only [Act.put, List.getElem_toArray, List.getElem_cons_zero, List.getElem_cons_succ, List.setIfInBounds_toArray, List.set_cons_zero, List.set_cons_succ])
        generalize putB W32 W27.heap.size (.map #[⟨.bool false, .string ⟨#[99]⟩, 0⟩, ⟨.bool true, .string ⟨#[115]⟩, 1⟩] 2) = W33 at *
        refine wpAnyH_take (i := 3) (v := ?_) rfl (by kernel_rfl) (by kernel_rfl) (by kernel_rfl) (fun _ _ _ h => h) (Or.inl ⟨by rfl, ?_⟩) (by assumption) ?_
        rotate_left
        · (intro w hSw; (try dsimp only at hSw); go_simp; (try with_reducible rfl))
        (try simp only [Act.put, List.getElem_toArray, List.getElem_cons_zero, List.getElem_cons_succ, List.setIfInBounds_toArray, List.set_cons_zero, List.set_cons_succ])
        refine wpAnyH_ready (rs := [6]) (by kernel_rfl) (by simp) ?_
        refine (AllReadyH.cons rfl (fun K hK => ?_) AllReadyH.nil)
        simp only [List.getElem_toArray, List.getElem_cons_zero, List.getElem_cons_succ]
        have e34 : (Instr.lookup 73 (.map (some W27.heap.size)) (.bool s) false).run Tryd.prog W33 = .ok (.string ⟨hd.toArray⟩) W33 := by rw [look2 _ _ _ _ m33]; rw [HH.out]; cases s <;> rfl
        go_simp
        clear e34
        refine hK.out _ _ ?_ (fun hHeld => ?_)
        · exact HasT.four (HasT.below T1 k33 T1.lt)
        clear hK K
        (try simp only [Act.put, List.getElem_toArray, List.getElem_cons_zero, List.getElem_cons_succ, List.setIfInBounds_toArray, List.set_cons_zero, List.set_cons_succ])
        refine wpAnyH_take (i := 10) (v := ?_) rfl (by kernel_rfl) (by kernel_rfl) (by kernel_rfl) (fun _ _ _ h => h) (Or.inl ⟨by rfl, ?_⟩) (by assumption) ?_
        rotate_left
        · (intro w hSw; (try dsimp only at hSw); go_simp; (try with_reducible rfl))
        (try simp only [Act.put, List.getElem_toArray, List.getElem_cons_zero, List.getElem_cons_succ, List.setIfInBounds_toArray, List.set_cons_zero, List.set_cons_succ])
        refine wpAnyH_take (i := 11) (v := ?_) rfl (by kernel_rfl) (by kernel_rfl) (by kernel_rfl) (fun _ _ _ h => h) (Or.inl ⟨by rfl, ?_⟩) (by assumption) ?_
        rotate_left
        · (intro w hSw; (try dsimp only at hSw); go_simp; (try with_reducible rfl))
        (try simp only [Act.put, List.getElem_toArray, List.getElem_cons_zero, List.getElem_cons_succ, List.setIfInBounds_toArray, List.set_cons_zero, List.set_cons_succ])
        refine wpAnyH_done (by kernel_rfl) ?_ _
        refine NoPanic.normal ?_
        exact ⟨rfl, ⟨_, _, _, _, _, _, _, _, _, rfl⟩, k33⟩
  rintro e a w2 ⟨rfl, ⟨u8, u9, u10, u11, u12, u13, u14, u15, u16, rfl⟩, k2⟩
  have T3 : HasT w2 w.heap.size ⟨s, p, d, v⟩ := T1.below k2 T1.lt
  have hT3 : HasTab w2 := hT1.below k2
  have B2 := B1.trans (k2.mono B1.size)
  clear T1 hT1 k0 k2 B1
  go_wp2
  have k0 : Below w2.heap.size w2 w2.drew := (Below.refl _ _).drew
  refine wp_region_noPanic ?_
  refine wp_region_held_drew (S := (fun w' => w'.cell? ⟨w.heap.size, 0, none⟩ = some (.bool s) ∧ w'.cell? ⟨w.heap.size, 1, none⟩ = some (.int .i64 p) ∧ w'.cell? ⟨w.heap.size, 2, none⟩ = some (.bool d) ∧ w'.cell? ⟨w.heap.size, 3, none⟩ = some (.int .i64 v))) (by kernel_rfl) ?_ (fun hHeld => ?_)
  · exact HasT.four (HasT.below T3 k0 T3.lt)
  generalize w2.drew = V2 at *
  refine wpAnyH_take (i := 0) (v := ?_) rfl (by kernel_rfl) (by kernel_rfl) (by kernel_rfl) (fun _ _ _ h => h) (Or.inl ⟨by rfl, ?_⟩) (by assumption) ?_
  rotate_left
  · (intro w hSw; (try dsimp only at hSw); go_simp; (try with_reducible rfl))
  (try simp only [Act.put, List.getElem_toArray, List.getElem_cons_zero, List.getElem_cons_succ, List.setIfInBounds_toArray, List.set_cons_zero, List.set_cons_succ])
  refine wpAnyH_take (i := 5) (v := ?_) rfl (by kernel_rfl) (by kernel_rfl) (by kernel_rfl) (fun _ _ _ h => h) (Or.inl ⟨by rfl, ?_⟩) (by assumption) ?_
  rotate_left
  · (intro w hSw; (try dsimp only at hSw); go_simp; (try with_reducible rfl))
  (try simp only [Act.put, List.getElem_toArray, List.getElem_cons_zero, List.getElem_cons_succ, List.setIfInBounds_toArray, List.set_cons_zero, List.set_cons_succ])
  refine wpAnyH_take (i := 6) (v := ?_) rfl (by kernel_rfl) (by kernel_rfl) (by kernel_rfl) (fun _ _ _ h => h) (Or.inl ⟨by rfl, ?_⟩) (by assumption) ?_
  rotate_left
  · (intro w hSw; (try dsimp only at hSw); go_simp; (try with_reducible rfl))
  (try simp only [Act.put, List.getElem_toArray, List.getElem_cons_zero, List.getElem_cons_succ, List.setIfInBounds_toArray, List.set_cons_zero, List.set_cons_succ])
  refine wpAnyH_take (i := 9) (v := ?_) rfl (by kernel_rfl) (by kernel_rfl) (by kernel_rfl) (fun _ _ _ h => h) (Or.inl ⟨by rfl, ?_⟩) (by assumption) ?_
  rotate_left
  · (intro w hSw; (try dsimp only at hSw); go_simp; (try with_reducible rfl))
  (try simp only [Act.put, List.getElem_toArray, List.getElem_cons_zero, List.getElem_cons_succ, List.setIfInBounds_toArray, List.set_cons_zero, List.set_cons_succ])
  refine wpAnyH_take (i := 10) (v := ?_) rfl (by kernel_rfl) (by kernel_rfl) (by kernel_rfl) (fun _ _ _ h => h) (Or.inl ⟨by rfl, ?_⟩) (by assumption) ?_
  rotate_left
  · (intro w hSw; (try dsimp only at hSw); go_simp; (try with_reducible rfl))
  (try simp only [Act.put, List.getElem_toArray, List.getElem_cons_zero, List.getElem_cons_succ, List.setIfInBounds_toArray, List.set_cons_zero, List.set_cons_succ])
  refine wpAnyH_ready (rs := [1, 11]) (by kernel_rfl) (by simp) ?_
  refine (AllReadyH.cons rfl (fun K hK => ?_) (AllReadyH.cons rfl (fun K hK => ?_) AllReadyH.nil))
  ·
    simp only [List.getElem_toArray, List.getElem_cons_zero, List.getElem_cons_succ]
    have k1 : Below w2.heap.size w2 (V2.alloc (.map #[] 0)) := Below.alloc k0 k0.size _
    have m1 : (V2.alloc (.map #[] 0)).heap[V2.heap.size]? = some (.map #[] 0) := heap_alloc_new _ _
    have b1 : w2.heap.size ≤ V2.heap.size := Below.size k0
    go_simp
    refine hK.out _ _ ?_ (fun hHeld => ?_)
    · exact HasT.four (HasT.below T3 k1 T3.lt)
    clear hK K
    (try simp only [Act.put, List.getElem_toArray, List.getElem_cons_zero, List.getElem_cons_succ, List.setIfInBounds_toArray, List.set_cons_zero, List.set_cons_succ])
    generalize V2.alloc (.map #[] 0) = W1 at *
    refine wpAnyH_ready (rs := [2, 3, 11]) (by kernel_rfl) (by simp) ?_
    refine (AllReadyH.cons rfl (fun K hK => ?_) (AllReadyH.cons rfl (fun K hK => ?_) (AllReadyH.cons rfl (fun K hK => ?_) AllReadyH.nil)))
    ·
      simp only [List.getElem_toArray, List.getElem_cons_zero, List.getElem_cons_succ]
      have e2 : (Instr.mapUpdate 73 (.map (some V2.heap.size)) (.bool true) (.string ⟨#[33, 46]⟩)).run Tryd.prog W1 = .ok () (putB W1 V2.heap.size (.map #[⟨.bool true, .string ⟨#[33, 46]⟩, 0⟩] 1)) := ins0 true _ m1
      have k2 : Below w2.heap.size w2 (putB W1 V2.heap.size (.map #[⟨.bool true, .string ⟨#[33, 46]⟩, 0⟩] 1)) := putB_below _ k1 b1
      have m2 : (putB W1 V2.heap.size (.map #[⟨.bool true, .string ⟨#[33, 46]⟩, 0⟩] 1)).heap[V2.heap.size]? = some (.map #[⟨.bool true, .string ⟨#[33, 46]⟩, 0⟩] 1) := putB_at _ (lt_of_block m1)
      go_simp
      clear e2
      refine hK.out _ _ ?_ (fun hHeld => ?_)
      · exact HasT.four (HasT.below T3 k2 T3.lt)
      clear hK K
      (try simp only [Act.put, List.getElem_toArray, List.getElem_cons_zero, List.getElem_cons_succ, List.setIfInBounds_toArray, List.set_cons_zero, List.set_cons_succ])
      generalize putB W1 V2.heap.size (.map #[⟨.bool true, .string ⟨#[33, 46]⟩, 0⟩] 1) = W2 at *
      refine wpAnyH_ready (rs := [3, 11]) (by kernel_rfl) (by simp) ?_
      refine (AllReadyH.cons rfl (fun K hK => ?_) (AllReadyH.cons rfl (fun K hK => ?_) AllReadyH.nil))
      ·
        simp only [List.getElem_toArray, List.getElem_cons_zero, List.getElem_cons_succ]
        have e3 : (Instr.mapUpdate 73 (.map (some V2.heap.size)) (.bool false) (.string ⟨#[46]⟩)).run Tryd.prog W2 = .ok () (putB W2 V2.heap.size (.map #[⟨.bool true, .string ⟨#[33, 46]⟩, 0⟩, ⟨.bool false, .string ⟨#[46]⟩, 1⟩] 2)) := ins1 true _ _ m2
        have k3 : Below w2.heap.size w2 (putB W2 V2.heap.size (.map #[⟨.bool true, .string ⟨#[33, 46]⟩, 0⟩, ⟨.bool false, .string ⟨#[46]⟩, 1⟩] 2)) := putB_below _ k2 b1
        have m3 : (putB W2 V2.heap.size (.map #[⟨.bool true, .string ⟨#[33, 46]⟩, 0⟩, ⟨.bool false, .string ⟨#[46]⟩, 1⟩] 2)).heap[V2.heap.size]? = some (.map #[⟨.bool true, .string ⟨#[33, 46]⟩, 0⟩, ⟨.bool false, .string ⟨#[46]⟩, 1⟩] 2) := putB_at _ (lt_of_block m2)
        go_simp
        clear e3
        refine hK.out _ _ ?_ (fun hHeld => ?_)
        · exact HasT.four (HasT.below T3 k3 T3.lt)
        clear hK K
        (try simp only [Act.put, List.getElem_toArray, List.getElem_cons_zero, List.getElem_cons_succ, List.setIfInBounds_toArray, List.set_cons_zero, List.set_cons_succ])
        generalize putB W2 V2.heap.size (.map #[⟨.bool true, .string ⟨#[33, 46]⟩, 0⟩, ⟨.bool false, .string ⟨#[46]⟩, 1⟩] 2) = W3 at *
        refine wpAnyH_take (i := 4) (v := ?_) rfl (by kernel_rfl) (by kernel_rfl) (by kernel_rfl) (fun _ _ _ h => h) (Or.inl ⟨by rfl, ?_⟩) (by assumption) ?_
        rotate_left
        · (intro w hSw; (try dsimp only at hSw); go_simp; (try with_reducible rfl))
        (try simp only [Act.put, List.getElem_toArray, List.getElem_cons_zero, List.getElem_cons_succ, List.setIfInBounds_toArray, List.set_cons_zero, List.set_cons_succ])
        refine wpAnyH_ready (rs := [7, 11]) (by kernel_rfl) (by simp) ?_
        refine (AllReadyH.cons rfl (fun K hK => ?_) (AllReadyH.cons rfl (fun K hK => ?_) AllReadyH.nil))
        ·
          simp only [List.getElem_toArray, List.getElem_cons_zero, List.getElem_cons_succ]
          have e4 : (Instr.lookup 73 (.map (some V2.heap.size)) (.bool d) false).run Tryd.prog W3 = .ok (.string ⟨mk.toArray⟩) W3 := by rw [look2 _ _ _ _ m3]; rw [HM.out]; cases d <;> rfl
          go_simp
          clear e4
          refine hK.out _ _ ?_ (fun hHeld => ?_)
          · exact HasT.four (HasT.below T3 k3 T3.lt)
          clear hK K
          (try simp only [Act.put, List.getElem_toArray, List.getElem_cons_zero, List.getElem_cons_succ, List.setIfInBounds_toArray, List.set_cons_zero, List.set_cons_succ])
          refine wpAnyH_take (i := 8) (v := ?_) rfl (by kernel_rfl) (by kernel_rfl) (by kernel_rfl) (fun _ _ _ h => h) (Or.inl ⟨by rfl, ?_⟩) (by assumption) ?_
          rotate_left
          · (intro w hSw; (try dsimp only at hSw); go_simp; (try with_reducible rfl))
          (try simp only [Act.put, List.getElem_toArray, List.getElem_cons_zero, List.getElem_cons_succ, List.setIfInBounds_toArray, List.set_cons_zero, List.set_cons_succ])
          refine wpAnyH_ready (rs := [11]) (by kernel_rfl) (by simp) ?_
          refine (AllReadyH.cons rfl (fun K hK => ?_) AllReadyH.nil)
          simp only [List.getElem_toArray, List.getElem_cons_zero, List.getElem_cons_succ]
          go_simp
          go_at_call 39
          with_reducible refine (itoa_any v _ ?_ ?_ ?_).mono ?_
          · exact HasTab.below2 hT3 k3
          · omega
          · omega
          rintro e W5 ⟨rfl, q5⟩
          have k5 : Below w2.heap.size w2 W5 := Below.trans k3 (Below.mono q5 (Below.size k3))
          have m5 := (Below.block q5 _ (lt_of_block m3)).trans m3
          refine hK.out _ _ ?_ (fun hHeld => ?_)
          · exact HasT.four (HasT.below T3 k5 T3.lt)
          clear hK K
          (try simp only [Act.put, List.getElem_toArray, List.getElem_cons_zero, List.getElem_cons_succ, List.setIfInBounds_toArray, List.set_cons_zero, List.set_cons_succ])
          refine wpAnyH_take (i := 12) (v := ?_) rfl (by kernel_rfl) (by kernel_rfl) (by kernel_rfl) (fun _ _ _ h => h) (Or.inl ⟨by rfl, ?_⟩) (by assumption) ?_
          rotate_left
          · (intro w hSw; (try dsimp only at hSw); go_simp; (try with_reducible rfl))
          (try simp only [Act.put, List.getElem_toArray, List.getElem_cons_zero, List.getElem_cons_succ, List.setIfInBounds_toArray, List.set_cons_zero, List.set_cons_succ])
          refine wpAnyH_take (i := 13) (v := ?_) rfl (by kernel_rfl) (by kernel_rfl) (by kernel_rfl) (fun _ _ _ h => h) (Or.inl ⟨by rfl, ?_⟩) (by assumption) ?_
          rotate_left
          · (intro w hSw; (try dsimp only at hSw); go_simp; (try with_reducible rfl))
          (try simp only [Act.put, List.getElem_toArray, List.getElem_cons_zero, List.getElem_cons_succ, List.setIfInBounds_toArray, List.set_cons_zero, List.set_cons_succ])
          refine wpAnyH_take (i := 14) (v := ?_) rfl (by kernel_rfl) (by kernel_rfl) (by kernel_rfl) (fun _ _ _ h => h) (Or.inl ⟨by rfl, ?_⟩) (by assumption) ?_
          rotate_left
          · (intro w hSw; (try dsimp only at hSw); go_simp; (try with_reducible rfl))
          (try simp only [Act.put, List.getElem_toArray, List.getElem_cons_zero, List.getElem_cons_succ, List.setIfInBounds_toArray, List.set_cons_zero, List.set_cons_succ])
          refine wpAnyH_done (by kernel_rfl) ?_ _
          refine NoPanic.normal ?_
          go_wp2
          go_ret2
          exact ⟨by rw [← HY.out]; rfl, B2.trans (Below.mono k5 B2.size)⟩
        ·
          simp only [List.getElem_toArray, List.getElem_cons_zero, List.getElem_cons_succ]
          go_simp
          go_at_call 39
          with_reducible refine (itoa_any v _ ?_ ?_ ?_).mono ?_
          · exact HasTab.below2 hT3 k3
          · omega
          · omega
          rintro e W6 ⟨rfl, q6⟩
          have k6 : Below w2.heap.size w2 W6 := Below.trans k3 (Below.mono q6 (Below.size k3))
          have m6 := (Below.block q6 _ (lt_of_block m3)).trans m3
          refine hK.out _ _ ?_ (fun hHeld => ?_)
          · exact HasT.four (HasT.below T3 k6 T3.lt)
          clear hK K
          (try simp only [Act.put, List.getElem_toArray, List.getElem_cons_zero, List.getElem_cons_succ, List.setIfInBounds_toArray, List.set_cons_zero, List.set_cons_succ])
          refine wpAnyH_ready (rs := [7]) (by kernel_rfl) (by simp) ?_
          refine (AllReadyH.cons rfl (fun K hK => ?_) AllReadyH.nil)
          simp only [List.getElem_toArray, List.getElem_cons_zero, List.getElem_cons_succ]
          have e7 : (Instr.lookup 73 (.map (some V2.heap.size)) (.bool d) false).run Tryd.prog W6 = .ok (.string ⟨mk.toArray⟩) W6 := by rw [look2 _ _ _ _ m6]; rw [HM.out]; cases d <;> rfl
          go_simp
          clear e7
          refine hK.out _ _ ?_ (fun hHeld => ?_)
          · exact HasT.four (HasT.below T3 k6 T3.lt)
          clear hK K
          (try simp only [Act.put, List.getElem_toArray, List.getElem_cons_zero, List.getElem_cons_succ, List.setIfInBounds_toArray, List.set_cons_zero, List.set_cons_succ])
          refine wpAnyH_take (i := 8) (v := ?_) rfl (by kernel_rfl) (by kernel_rfl) (by kernel_rfl) (fun _ _ _ h => h) (Or.inl ⟨by rfl, ?_⟩) (by assumption) ?_
          rotate_left
          · (intro w hSw; (try dsimp only at hSw); go_simp; (try with_reducible rfl))
          (try simp only [Act.put, List.getElem_toArray, List.getElem_cons_zero, List.getElem_cons_succ, List.setIfInBounds_toArray, List.set_cons_zero, List.set_cons_succ])
          refine wpAnyH_take (i := 12) (v := ?_) rfl (by kernel_rfl) (by kernel_rfl) (by kernel_rfl) (fun _ _ _ h => h) (Or.inl ⟨by rfl, ?_⟩) (by assumption) ?_
          rotate_left
          · (intro w hSw; (try dsimp only at hSw); go_simp; (try with_reducible rfl))
          (try simp only [Act.put, List.getElem_toArray, List.getElem_cons_zero, List.getElem_cons_succ, List.setIfInBounds_toArray, List.set_cons_zero, List.set_cons_succ])
          refine wpAnyH_take (i := 13) (v := ?_) rfl (by kernel_rfl) (by kernel_rfl) (by kernel_rfl) (fun _ _ _ h => h) (Or.inl ⟨by rfl, ?_⟩) (by assumption) ?_
          rotate_left
          · (intro w hSw; (try dsimp only at hSw); go_simp; (try with_reducible rfl))
          (try simp only [Act.put, List.getElem_toArray, List.getElem_cons_zero, List.getElem_cons_succ, List.setIfInBounds_toArray, List.set_cons_zero, List.set_cons_succ])
          refine wpAnyH_take (i := 14) (v := ?_) rfl (by kernel_rfl) (by kernel_rfl) (by kernel_rfl) (fun _ _ _ h => h) (Or.inl ⟨by rfl, ?_⟩) (by assumption) ?_
          rotate_left
          · (intro w hSw; (try dsimp only at hSw); go_simp; (try with_reducible rfl))
          (try simp only [Act.put, List.getElem_toArray, List.getElem_cons_zero, List.getElem_cons_succ, List.setIfInBounds_toArray, List.set_cons_zero, List.set_cons_succ])
          refine wpAnyH_done (by kernel_rfl) ?_ _
          refine NoPanic.normal ?_
          go_wp2
          go_ret2
          exact ⟨by rw [← HY.out]; rfl, B2.trans (Below.mono k6 B2.size)⟩
      ·
        simp only [List.getElem_toArray, List.getElem_cons_zero, List.getElem_cons_succ]
        go_simp
        go_at_call 39
        with_reducible refine (itoa_any v _ ?_ ?_ ?_).mono ?_
        · exact HasTab.below2 hT3 k2
        · omega
        · omega
        rintro e W8 ⟨rfl, q8⟩
        have k8 : Below w2.heap.size w2 W8 := Below.trans k2 (Below.mono q8 (Below.size k2))
        have m8 := (Below.block q8 _ (lt_of_block m2)).trans m2
        refine hK.out _ _ ?_ (fun hHeld => ?_)
        · exact HasT.four (HasT.below T3 k8 T3.lt)
        clear hK K
        (try simp only [Act.put, List.getElem_toArray, List.getElem_cons_zero, List.getElem_cons_succ, List.setIfInBounds_toArray, List.set_cons_zero, List.set_cons_succ])
        refine wpAnyH_ready (rs := [3]) (by kernel_rfl) (by simp) ?_
        refine (AllReadyH.cons rfl (fun K hK => ?_) AllReadyH.nil)
        simp only [List.getElem_toArray, List.getElem_cons_zero, List.getElem_cons_succ]
        have e9 : (Instr.mapUpdate 73 (.map (some V2.heap.size)) (.bool false) (.string ⟨#[46]⟩)).run Tryd.prog W8 = .ok () (putB W8 V2.heap.size (.map #[⟨.bool true, .string ⟨#[33, 46]⟩, 0⟩, ⟨.bool false, .string ⟨#[46]⟩, 1⟩] 2)) := ins1 true _ _ m8
        have k9 : Below w2.heap.size w2 (putB W8 V2.heap.size (.map #[⟨.bool true, .string ⟨#[33, 46]⟩, 0⟩, ⟨.bool false, .string ⟨#[46]⟩, 1⟩] 2)) := putB_below _ k8 b1
        have m9 : (putB W8 V2.heap.size (.map #[⟨.bool true, .string ⟨#[33, 46]⟩, 0⟩, ⟨.bool false, .string ⟨#[46]⟩, 1⟩] 2)).heap[V2.heap.size]? = some (.map #[⟨.bool true, .string ⟨#[33, 46]⟩, 0⟩, ⟨.bool false, .string ⟨#[46]⟩, 1⟩] 2) := putB_at _ (lt_of_block m8)
        go_simp
        clear e9
        refine hK.out _ _ ?_ (fun hHeld => ?_)
        · exact HasT.four (HasT.below T3 k9 T3.lt)
        clear hK K
        (try simp only [Act.put, List.getElem_toArray, List.getElem_cons_zero, List.getElem_cons_succ, List.setIfInBounds_toArray, List.set_cons_zero, List.set_cons_succ])
        generalize putB W8 V2.heap.size (.map #[⟨.bool true, .string ⟨#[33, 46]⟩, 0⟩, ⟨.bool false, .string ⟨#[46]⟩, 1⟩] 2) = W9 at *
        refine wpAnyH_take (i := 4) (v := ?_) rfl (by kernel_rfl) (by kernel_rfl) (by kernel_rfl) (fun _ _ _ h => h) (Or.inl ⟨by rfl, ?_⟩) (by assumption) ?_
        rotate_left
        · (intro w hSw; (try dsimp only at hSw); go_simp; (try with_reducible rfl))
        (try simp only [Act.put, List.getElem_toArray, List.getElem_cons_zero, List.getElem_cons_succ, List.setIfInBounds_toArray, List.set_cons_zero, List.set_cons_succ])
        refine wpAnyH_ready (rs := [7]) (by kernel_rfl) (by simp) ?_
        refine (AllReadyH.cons rfl (fun K hK => ?_) AllReadyH.nil)
        simp only [List.getElem_toArray, List.getElem_cons_zero, List.getElem_cons_succ]
        have e10 : (Instr.lookup 73 (.map (some V2.heap.size)) (.bool d) false).run Tryd.prog W9 = .ok (.string ⟨mk.toArray⟩) W9 := by rw [look2 _ _ _ _ m9]; rw [HM.out]; cases d <;> rfl
        go_simp
        clear e10
        refine hK.out _ _ ?_ (fun hHeld => ?_)
        · exact HasT.four (HasT.below T3 k9 T3.lt)
        clear hK K
        (try simp only [Act.put, List.getElem_toArray, List.getElem_cons_zero, List.getElem_cons_succ, List.setIfInBounds_toArray, List.set_cons_zero, List.set_cons_succ])
        refine wpAnyH_take (i := 8) (v := ?_) rfl (by kernel_rfl) (by kernel_rfl) (by kernel_rfl) (fun _ _ _ h => h) (Or.inl ⟨by rfl, ?_⟩) (by assumption) ?_
        rotate_left
        · (intro w hSw; (try dsimp only at hSw); go_simp; (try with_reducible rfl))
        (try simp only [Act.put, List.getElem_toArray, List.getElem_cons_zero, List.getElem_cons_succ, List.setIfInBounds_toArray, List.set_cons_zero, List.set_cons_succ])
        refine wpAnyH_take (i := 12) (v := ?_) rfl (by kernel_rfl) (by kernel_rfl) (by kernel_rfl) (fun _ _ _ h => h) (Or.inl ⟨by rfl, ?_⟩) (by assumption) ?_
        rotate_left
        · (intro w hSw; (try dsimp only at hSw); go_simp; (try with_reducible rfl))
        (try simp only [Act.put, List.getElem_toArray, List.getElem_cons_zero, List.getElem_cons_succ, List.setIfInBounds_toArray, List.set_cons_zero, List.set_cons_succ])
        refine wpAnyH_take (i := 13) (v := ?_) rfl (by kernel_rfl) (by kernel_rfl) (by kernel_rfl) (fun _ _ _ h => h) (Or.inl ⟨by rfl, ?_⟩) (by assumption) ?_
        rotate_left
        · (intro w hSw; (try dsimp only at hSw); go_simp; (try with_reducible rfl))
        (try simp only [Act.put, List.getElem_toArray, List.getElem_cons_zero, List.getElem_cons_succ, List.setIfInBounds_toArray, List.set_cons_zero, List.set_cons_succ])
        refine wpAnyH_take (i := 14) (v := ?_) rfl (by kernel_rfl) (by kernel_rfl) (by kernel_rfl) (fun _ _ _ h => h) (Or.inl ⟨by rfl, ?_⟩) (by assumption) ?_
        rotate_left
        · (intro w hSw; (try dsimp only at hSw); go_simp; (try with_reducible rfl))
        (try simp only [Act.put, List.getElem_toArray, List.getElem_cons_zero, List.getElem_cons_succ, List.setIfInBounds_toArray, List.set_cons_zero, List.set_cons_succ])
        refine wpAnyH_done (by kernel_rfl) ?_ _
        refine NoPanic.normal ?_
        go_wp2
        go_ret2
        exact ⟨by rw [← HY.out]; rfl, B2.trans (Below.mono k9 B2.size)⟩
    ·
      simp only [List.getElem_toArray, List.getElem_cons_zero, List.getElem_cons_succ]
      have e11 : (Instr.mapUpdate 73 (.map (some V2.heap.size)) (.bool false) (.string ⟨#[46]⟩)).run Tryd.prog W1 = .ok () (putB W1 V2.heap.size (.map #[⟨.bool false, .string ⟨#[46]⟩, 0⟩] 1)) := ins0 false _ m1
      have k11 : Below w2.heap.size w2 (putB W1 V2.heap.size (.map #[⟨.bool false, .string ⟨#[46]⟩, 0⟩] 1)) := putB_below _ k1 b1
      have m11 : (putB W1 V2.heap.size (.map #[⟨.bool false, .string ⟨#[46]⟩, 0⟩] 1)).heap[V2.heap.size]? = some (.map #[⟨.bool false, .string ⟨#[46]⟩, 0⟩] 1) := putB_at _ (lt_of_block m1)
      go_simp
      clear e11
      refine hK.out _ _ ?_ (fun hHeld => ?_)
      · exact HasT.four (HasT.below T3 k11 T3.lt)
      clear hK K
      (try simp only [Act.put, List.getElem_toArray, List.getElem_cons_zero, List.getElem_cons_succ, List.setIfInBounds_toArray, List.set_cons_zero, List.set_cons_succ])
      generalize putB W1 V2.heap.size (.map #[⟨.bool false, .string ⟨#[46]⟩, 0⟩] 1) = W11 at *
      refine wpAnyH_ready (rs := [2, 11]) (by kernel_rfl) (by simp) ?_
      refine (AllReadyH.cons rfl (fun K hK => ?_) (AllReadyH.cons rfl (fun K hK => ?_) AllReadyH.nil))
      ·
        simp only [List.getElem_toArray, List.getElem_cons_zero, List.getElem_cons_succ]
        have e12 : (Instr.mapUpdate 73 (.map (some V2.heap.size)) (.bool true) (.string ⟨#[33, 46]⟩)).run Tryd.prog W11 = .ok () (putB W11 V2.heap.size (.map #[⟨.bool false, .string ⟨#[46]⟩, 0⟩, ⟨.bool true, .string ⟨#[33, 46]⟩, 1⟩] 2)) := ins1 false _ _ m11
        have k12 : Below w2.heap.size w2 (putB W11 V2.heap.size (.map #[⟨.bool false, .string ⟨#[46]⟩, 0⟩, ⟨.bool true, .string ⟨#[33, 46]⟩, 1⟩] 2)) := putB_below _ k11 b1
        have m12 : (putB W11 V2.heap.size (.map #[⟨.bool false, .string ⟨#[46]⟩, 0⟩, ⟨.bool true, .string ⟨#[33, 46]⟩, 1⟩] 2)).heap[V2.heap.size]? = some (.map #[⟨.bool false, .string ⟨#[46]⟩, 0⟩, ⟨.bool true, .string ⟨#[33, 46]⟩, 1⟩] 2) := putB_at _ (lt_of_block m11)
        go_simp
        clear e12
        refine hK.out _ _ ?_ (fun hHeld => ?_)
        · exact HasT.four (HasT.below T3 k12 T3.lt)
        clear hK K
        (try simp only [Act.put, List.getElem_toArray, List.getElem_cons_zero, List.getElem_cons_succ, List.setIfInBounds_toArray, List.set_cons_zero, List.set_cons_succ])
        generalize putB W11 V2.heap.size (.map #[⟨.bool false, .string ⟨#[46]⟩, 0⟩, ⟨.bool true, .string ⟨#[33, 46]⟩, 1⟩] 2) = W12 at *
        refine wpAnyH_take (i := 4) (v := ?_) rfl (by kernel_rfl) (by kernel_rfl) (by kernel_rfl) (fun _ _ _ h => h) (Or.inl ⟨by rfl, ?_⟩) (by assumption) ?_
        rotate_left
        · (intro w hSw; (try dsimp only at hSw); go_simp; (try with_reducible rfl))
        (try simp only [Act.put, List.getElem_toArray, List.getElem_cons_zero, List.getElem_cons_succ, List.setIfInBounds_toArray, List.set_cons_zero, List.set_cons_succ])
        refine wpAnyH_ready (rs := [7, 11]) (by kernel_rfl) (by simp) ?_
        refine (AllReadyH.cons rfl (fun K hK => ?_) (AllReadyH.cons rfl (fun K hK => ?_) AllReadyH.nil))
        ·
          simp only [List.getElem_toArray, List.getElem_cons_zero, List.getElem_cons_succ]
          have e13 : (Instr.lookup 73 (.map (some V2.heap.size)) (.bool d) false).run Tryd.prog W12 = .ok (.string ⟨mk.toArray⟩) W12 := by rw [look2 _ _ _ _ m12]; rw [HM.out]; cases d <;> rfl
          go_simp
          clear e13
          refine hK.out _ _ ?_ (fun hHeld => ?_)
          · exact HasT.four (HasT.below T3 k12 T3.lt)
          clear hK K
          (try simp only [Act.put, List.getElem_toArray, List.getElem_cons_zero, List.getElem_cons_succ, List.setIfInBounds_toArray, List.set_cons_zero, List.set_cons_succ])
          refine wpAnyH_take (i := 8) (v := ?_) rfl (by kernel_rfl) (by kernel_rfl) (by kernel_rfl) (fun _ _ _ h => h) (Or.inl ⟨by rfl, ?_⟩) (by assumption) ?_
          rotate_left
          · (intro w hSw; (try dsimp only at hSw); go_simp; (try with_reducible rfl))
          (try simp only [Act.put, List.getElem_toArray, List.getElem_cons_zero, List.getElem_cons_succ, List.setIfInBounds_toArray, List.set_cons_zero, List.set_cons_succ])
          refine wpAnyH_ready (rs := [11]) (by kernel_rfl) (by simp) ?_
          refine (AllReadyH.cons rfl (fun K hK => ?_) AllReadyH.nil)
          simp only [List.getElem_toArray, List.getElem_cons_zero, List.getElem_cons_succ]
          go_simp
          go_at_call 39
          with_reducible refine (itoa_any v _ ?_ ?_ ?_).mono ?_
          · exact HasTab.below2 hT3 k12
          · omega
          · omega
          rintro e W14 ⟨rfl, q14⟩
          have k14 : Below w2.heap.size w2 W14 := Below.trans k12 (Below.mono q14 (Below.size k12))
          have m14 := (Below.block q14 _ (lt_of_block m12)).trans m12
          refine hK.out _ _ ?_ (fun hHeld => ?_)
          · exact HasT.four (HasT.below T3 k14 T3.lt)
          clear hK K
          (try simp only [Act.put, List.getElem_toArray, List.getElem_cons_zero, List.getElem_cons_succ, List.setIfInBounds_toArray, List.set_cons_zero, List.set_cons_succ])
          refine wpAnyH_take (i := 12) (v := ?_) rfl (by kernel_rfl) (by kernel_rfl) (by kernel_rfl) (fun _ _ _ h => h) (Or.inl ⟨by rfl, ?_⟩) (by assumption) ?_
          rotate_left
          · (intro w hSw; (try dsimp only at hSw); go_simp; (try with_reducible rfl))
          (try simp only [Act.put, List.getElem_toArray, List.getElem_cons_zero, List.getElem_cons_succ, List.setIfInBounds_toArray, List.set_cons_zero, List.set_cons_succ])
          refine wpAnyH_take (i := 13) (v := ?_) rfl (by kernel_rfl) (by kernel_rfl) (by kernel_rfl) (fun _ _ _ h => h) (Or.inl ⟨by rfl, ?_⟩) (by assumption) ?_
          rotate_left
          · (intro w hSw; (try dsimp only at hSw); go_simp; (try with_reducible rfl))
          (try simp only [Act.put, List.getElem_toArray, List.getElem_cons_zero, List.getElem_cons_succ, List.setIfInBounds_toArray, List.set_cons_zero, List.set_cons_succ])
          refine wpAnyH_take (i := 14) (v := ?_) rfl (by kernel_rfl) (by kernel_rfl) (by kernel_rfl) (fun _ _ _ h => h) (Or.inl ⟨by rfl, ?_⟩) (by assumption) ?_
          rotate_left
          · (intro w hSw; (try dsimp only at hSw); go_simp; (try with_reducible rfl))
          (try simp only [Act.put, List.getElem_toArray, List.getElem_cons_zero, List.getElem_cons_succ, List.setIfInBounds_toArray, List.set_cons_zero, List.set_cons_succ])
          refine wpAnyH_done (by kernel_rfl) ?_ _
          refine NoPanic.normal ?_
          go_wp2
          go_ret2
          exact ⟨by rw [← HY.out]; rfl, B2.trans (Below.mono k14 B2.size)⟩
        ·
          simp only [List.getElem_toArray, List.getElem_cons_zero, List.getElem_cons_succ]
          go_simp
          go_at_call 39
          with_reducible refine (itoa_any v _ ?_ ?_ ?_).mono ?_
          · exact HasTab.below2 hT3 k12
          · omega
          · omega
          rintro e W15 ⟨rfl, q15⟩
          have k15 : Below w2.heap.size w2 W15 := Below.trans k12 (Below.mono q15 (Below.size k12))
          have m15 := (Below.block q15 _ (lt_of_block m12)).trans m12
          refine hK.out _ _ ?_ (fun hHeld => ?_)
          · exact HasT.four (HasT.below T3 k15 T3.lt)
          clear hK K
          (try simp only [Act.put, List.getElem_toArray, List.getElem_cons_zero, List.getElem_cons_succ, List.setIfInBounds_toArray, List.set_cons_zero, List.set_cons_succ])
          refine wpAnyH_ready (rs := [7]) (by kernel_rfl) (by simp) ?_
          refine (AllReadyH.cons rfl (fun K hK => ?_) AllReadyH.nil)
          simp only [List.getElem_toArray, List.getElem_cons_zero, List.getElem_cons_succ]
          have e16 : (Instr.lookup 73 (.map (some V2.heap.size)) (.bool d) false).run Tryd.prog W15 = .ok (.string ⟨mk.toArray⟩) W15 := by rw [look2 _ _ _ _ m15]; rw [HM.out]; cases d <;> rfl
          go_simp
          clear e16
          refine hK.out _ _ ?_ (fun hHeld => ?_)
          · exact HasT.four (HasT.below T3 k15 T3.lt)
          clear hK K
          (try simp only [Act.put, List.getElem_toArray, List.getElem_cons_zero, List.getElem_cons_succ, List.setIfInBounds_toArray, List.set_cons_zero, List.set_cons_succ])
          refine wpAnyH_take (i := 8) (v := ?_) rfl (by kernel_rfl) (by kernel_rfl) (by kernel_rfl) (fun _ _ _ h => h) (Or.inl ⟨by rfl, ?_⟩) (by assumption) ?_
          rotate_left
          · (intro w hSw; (try dsimp only at hSw); go_simp; (try with_reducible rfl))
          (try simp only [Act.put, List.getElem_toArray, List.getElem_cons_zero, List.getElem_cons_succ, List.setIfInBounds_toArray, List.set_cons_zero, List.set_cons_succ])
          refine wpAnyH_take (i := 12) (v := ?_) rfl (by kernel_rfl) (by kernel_rfl) (by kernel_rfl) (fun _ _ _ h => h) (Or.inl ⟨by rfl, ?_⟩) (by assumption) ?_
          rotate_left
          · (intro w hSw; (try dsimp only at hSw); go_simp; (try with_reducible rfl))
          (try simp only [Act.put, List.getElem_toArray, List.getElem_cons_zero, List.getElem_cons_succ, List.setIfInBounds_toArray, List.set_cons_zero, List.set_cons_succ])
          refine wpAnyH_take (i := 13) (v := ?_) rfl (by kernel_rfl) (by kernel_rfl) (by kernel_rfl) (fun _ _ _ h => h) (Or.inl ⟨by rfl, ?_⟩) (by assumption) ?_
          rotate_left
          · (intro w hSw; (try dsimp only at hSw); go_simp; (try with_reducible rfl))
          (try simp only [Act.put, List.getElem_toArray, List.getElem_cons_zero, List.getElem_cons_succ, List.setIfInBounds_toArray, List.set_cons_zero, List.set_cons_succ])
          refine wpAnyH_take (i := 14) (v := ?_) rfl (by kernel_rfl) (by kernel_rfl) (by kernel_rfl) (fun _ _ _ h => h) (Or.inl ⟨by rfl, ?_⟩) (by assumption) ?_
          rotate_left
          · (intro w hSw; (try dsimp only at hSw); go_simp; (try with_reducible rfl))
          (try simp only [Act.put, List.getElem_toArray, List.getElem_cons_zero, List.getElem_cons_succ, List.setIfInBounds_toArray, List.set_cons_zero, List.set_cons_succ])
          refine wpAnyH_done (by kernel_rfl) ?_ _
          refine NoPanic.normal ?_
          go_wp2
          go_ret2
          exact ⟨by rw [← HY.out]; rfl, B2.trans (Below.mono k15 B2.size)⟩
      ·
        simp only [List.getElem_toArray, List.getElem_cons_zero, List.getElem_cons_succ]
        go_simp
        go_at_call 39
        with_reducible refine (itoa_any v _ ?_ ?_ ?_).mono ?_
        · exact HasTab.below2 hT3 k11
        · omega
        · omega
        rintro e W17 ⟨rfl, q17⟩
        have k17 : Below w2.heap.size w2 W17 := Below.trans k11 (Below.mono q17 (Below.size k11))
        have m17 := (Below.block q17 _ (lt_of_block m11)).trans m11
        refine hK.out _ _ ?_ (fun hHeld => ?_)
        · exact HasT.four (HasT.below T3 k17 T3.lt)
        clear hK K
        (try simp only [Act.put, List.getElem_toArray, List.getElem_cons_zero, List.getElem_cons_succ, List.setIfInBounds_toArray, List.set_cons_zero, List.set_cons_succ])
        refine wpAnyH_ready (rs := [2]) (by kernel_rfl) (by simp) ?_
        refine (AllReadyH.cons rfl (fun K hK => ?_) AllReadyH.nil)
        simp only [List.getElem_toArray, List.getElem_cons_zero, List.getElem_cons_succ]
        have e18 : (Instr.mapUpdate 73 (.map (some V2.heap.size)) (.bool true) (.string ⟨#[33, 46]⟩)).run Tryd.prog W17 = .ok () (putB W17 V2.heap.size (.map #[⟨.bool false, .string ⟨#[46]⟩, 0⟩, ⟨.bool true, .string ⟨#[33, 46]⟩, 1⟩] 2)) := ins1 false _ _ m17
        have k18 : Below w2.heap.size w2 (putB W17 V2.heap.size (.map #[⟨.bool false, .string ⟨#[46]⟩, 0⟩, ⟨.bool true, .string ⟨#[33, 46]⟩, 1⟩] 2)) := putB_below _ k17 b1
        have m18 : (putB W17 V2.heap.size (.map #[⟨.bool false, .string ⟨#[46]⟩, 0⟩, ⟨.bool true, .string ⟨#[33, 46]⟩, 1⟩] 2)).heap[V2.heap.size]? = some (.map #[⟨.bool false, .string ⟨#[46]⟩, 0⟩, ⟨.bool true, .string ⟨#[33, 46]⟩, 1⟩] 2) := putB_at _ (lt_of_block m17)
        go_simp
        clear e18
        refine hK.out _ _ ?_ (fun hHeld => ?_)
        · exact HasT.four (HasT.below T3 k18 T3.lt)
        clear hK K
        (try simp only [Act.put, List.getElem_toArray, List.getElem_cons_zero, List.getElem_cons_succ, List.setIfInBounds_toArray, List.set_cons_zero, List.set_cons_succ])
        generalize putB W17 V2.heap.size (.map #[⟨.bool false, .string ⟨#[46]⟩, 0⟩, ⟨.bool true, .string ⟨#[33, 46]⟩, 1⟩] 2) = W18 at *
        refine wpAnyH_take (i := 4) (v := ?_) rfl (by kernel_rfl) (by kernel_rfl) (by kernel_rfl) (fun _ _ _ h => h) (Or.inl ⟨by rfl, ?_⟩) (by assumption) ?_
        rotate_left
        · (intro w hSw; (try dsimp only at hSw); go_simp; (try with_reducible rfl))
        (try simp only [Act.put, List.getElem_toArray, List.getElem_cons_zero, List.getElem_cons_succ, List.setIfInBounds_toArray, List.set_cons_zero, List.set_cons_succ])
        refine wpAnyH_ready (rs := [7]) (by kernel_rfl) (by simp) ?_
        refine (AllReadyH.cons rfl (fun K hK => ?_) AllReadyH.nil)
        simp only [List.getElem_toArray, List.getElem_cons_zero, List.getElem_cons_succ]
        have e19 : (Instr.lookup 73 (.map (some V2.heap.size)) (.bool d) false).run Tryd.prog W18 = .ok (.string ⟨mk.toArray⟩) W18 := by rw [look2 _ _ _ _ m18]; rw [HM.out]; cases d <;> rfl
        go_simp
        clear e19
        refine hK.out _ _ ?_ (fun hHeld => ?_)
        · exact HasT.four (HasT.below T3 k18 T3.lt)
        clear hK K
        (try simp only [Act.put, List.getElem_toArray, List.getElem_cons_zero, List.getElem_cons_succ, List.setIfInBounds_toArray, List.set_cons_zero, List.set_cons_succ])
        refine wpAnyH_take (i := 8) (v := ?_) rfl (by kernel_rfl) (by kernel_rfl) (by kernel_rfl) (fun _ _ _ h => h) (Or.inl ⟨by rfl, ?_⟩) (by assumption) ?_
        rotate_left
        · (intro w hSw; (try dsimp only at hSw); go_simp; (try with_reducible rfl))
        (try simp only [Act.put, List.getElem_toArray, List.getElem_cons_zero, List.getElem_cons_succ, List.setIfInBounds_toArray, List.set_cons_zero, List.set_cons_succ])
        refine wpAnyH_take (i := 12) (v := ?_) rfl (by kernel_rfl) (by kernel_rfl) (by kernel_rfl) (fun _ _ _ h => h) (Or.inl ⟨by rfl, ?_⟩) (by assumption) ?_
        rotate_left
        · (intro w hSw; (try dsimp only at hSw); go_simp; (try with_reducible rfl))
        (try simp only [Act.put, List.getElem_toArray, List.getElem_cons_zero, List.getElem_cons_succ, List.setIfInBounds_toArray, List.set_cons_zero, List.set_cons_succ])
        refine wpAnyH_take (i := 13) (v := ?_) rfl (by kernel_rfl) (by kernel_rfl) (by kernel_rfl) (fun _ _ _ h => h) (Or.inl ⟨by rfl, ?_⟩) (by assumption) ?_
        rotate_left
        · (intro w hSw; (try dsimp only at hSw); go_simp; (try with_reducible rfl))
        (try simp only [Act.put, List.getElem_toArray, List.getElem_cons_zero, List.getElem_cons_succ, List.setIfInBounds_toArray, List.set_cons_zero, List.set_cons_succ])
        refine wpAnyH_take (i := 14) (v := ?_) rfl (by kernel_rfl) (by kernel_rfl) (by kernel_rfl) (fun _ _ _ h => h) (Or.inl ⟨by rfl, ?_⟩) (by assumption) ?_
        rotate_left
        · (intro w hSw; (try dsimp only at hSw); go_simp; (try with_reducible rfl))
        (try simp only [Act.put, List.getElem_toArray, List.getElem_cons_zero, List.getElem_cons_succ, List.setIfInBounds_toArray, List.set_cons_zero, List.set_cons_succ])
        refine wpAnyH_done (by kernel_rfl) ?_ _
        refine NoPanic.normal ?_
        go_wp2
        go_ret2
        exact ⟨by rw [← HY.out]; rfl, B2.trans (Below.mono k18 B2.size)⟩
    ·
      simp only [List.getElem_toArray, List.getElem_cons_zero, List.getElem_cons_succ]
      go_simp
      go_at_call 39
      with_reducible refine (itoa_any v _ ?_ ?_ ?_).mono ?_
      · exact HasTab.below2 hT3 k1
      · omega
      · omega
      rintro e W20 ⟨rfl, q20⟩
      have k20 : Below w2.heap.size w2 W20 := Below.trans k1 (Below.mono q20 (Below.size k1))
      have m20 := (Below.block q20 _ (lt_of_block m1)).trans m1
      refine hK.out _ _ ?_ (fun hHeld => ?_)
      · exact HasT.four (HasT.below T3 k20 T3.lt)
      clear hK K
      (try simp only [Act.put, List.getElem_toArray, List.getElem_cons_zero, List.getElem_cons_succ, List.setIfInBounds_toArray, List.set_cons_zero, List.set_cons_succ])
      refine wpAnyH_ready (rs := [2, 3]) (by kernel_rfl) (by simp) ?_
      refine (AllReadyH.cons rfl (fun K hK => ?_) (AllReadyH.cons rfl (fun K hK => ?_) AllReadyH.nil))
      ·
        simp only [List.getElem_toArray, List.getElem_cons_zero, List.getElem_cons_succ]
        have e21 : (Instr.mapUpdate 73 (.map (some V2.heap.size)) (.bool true) (.string ⟨#[33, 46]⟩)).run Tryd.prog W20 = .ok () (putB W20 V2.heap.size (.map #[⟨.bool true, .string ⟨#[33, 46]⟩, 0⟩] 1)) := ins0 true _ m20
        have k21 : Below w2.heap.size w2 (putB W20 V2.heap.size (.map #[⟨.bool true, .string ⟨#[33, 46]⟩, 0⟩] 1)) := putB_below _ k20 b1
        have m21 : (putB W20 V2.heap.size (.map #[⟨.bool true, .string ⟨#[33, 46]⟩, 0⟩] 1)).heap[V2.heap.size]? = some (.map #[⟨.bool true, .string ⟨#[33, 46]⟩, 0⟩] 1) := putB_at _ (lt_of_block m20)
        go_simp
        clear e21
        refine hK.out _ _ ?_ (fun hHeld => ?_)
        · exact HasT.four (HasT.below T3 k21 T3.lt)
        clear hK K
        (try simp only [Act.put, List.getElem_toArray, List.getElem_cons_zero, List.getElem_cons_succ, List.setIfInBounds_toArray, List.set_cons_zero, List.set_cons_succ])
        generalize putB W20 V2.heap.size (.map #[⟨.bool true, .string ⟨#[33, 46]⟩, 0⟩] 1) = W21 at *
        refine wpAnyH_ready (rs := [3]) (by kernel_rfl) (by simp) ?_
        refine (AllReadyH.cons rfl (fun K hK => ?_) AllReadyH.nil)
        simp only [List.getElem_toArray, List.getElem_cons_zero, List.getElem_cons_succ]
        have e22 : (Instr.mapUpdate 73 (.map (some V2.heap.size)) (.bool false) (.string ⟨#[46]⟩)).run Tryd.prog W21 = .ok () (putB W21 V2.heap.size (.map #[⟨.bool true, .string ⟨#[33, 46]⟩, 0⟩, ⟨.bool false, .string ⟨#[46]⟩, 1⟩] 2)) := ins1 true _ _ m21
        have k22 : Below w2.heap.size w2 (putB W21 V2.heap.size (.map #[⟨.bool true, .string ⟨#[33, 46]⟩, 0⟩, ⟨.bool false, .string ⟨#[46]⟩, 1⟩] 2)) := putB_below _ k21 b1
        have m22 : (putB W21 V2.heap.size (.map #[⟨.bool true, .string ⟨#[33, 46]⟩, 0⟩, ⟨.bool false, .string ⟨#[46]⟩, 1⟩] 2)).heap[V2.heap.size]? = some (.map #[⟨.bool true, .string ⟨#[33, 46]⟩, 0⟩, ⟨.bool false, .string ⟨#[46]⟩, 1⟩] 2) := putB_at _ (lt_of_block m21)
        go_simp
        clear e22
        refine hK.out _ _ ?_ (fun hHeld => ?_)
        · exact HasT.four (HasT.below T3 k22 T3.lt)
        clear hK K
        (try simp only [Act.put, List.getElem_toArray, List.getElem_cons_zero, List.getElem_cons_succ, List.setIfInBounds_toArray, List.set_cons_zero, List.set_cons_succ])
        generalize putB W21 V2.heap.size (.map #[⟨.bool true, .string ⟨#[33, 46]⟩, 0⟩, ⟨.bool false, .string ⟨#[46]⟩, 1⟩] 2) = W22 at *
        refine wpAnyH_take (i := 4) (v := ?_) rfl (by kernel_rfl) (by kernel_rfl) (by kernel_rfl) (fun _ _ _ h => h) (Or.inl ⟨by rfl, ?_⟩) (by assumption) ?_
        rotate_left
        · (intro w hSw; (try dsimp only at hSw); go_simp; (try with_reducible rfl))
        (try simp only [Act.put, List.getElem_toArray, List.getElem_cons_zero, List.getElem_cons_succ, List.setIfInBounds_toArray, List.set_cons_zero, List.set_cons_succ])
        refine wpAnyH_ready (rs := [7]) (by kernel_rfl) (by simp) ?_
        refine (AllReadyH.cons rfl (fun K hK => ?_) AllReadyH.nil)
        simp only [List.getElem_toArray, List.getElem_cons_zero, List.getElem_cons_succ]
        have e23 : (Instr.lookup 73 (.map (some V2.heap.size)) (.bool d) false).run Tryd.prog W22 = .ok (.string ⟨mk.toArray⟩) W22 := by rw [look2 _ _ _ _ m22]; rw [HM.out]; cases d <;> rfl
        go_simp
        clear e23
        refine hK.out _ _ ?_ (fun hHeld => ?_)
        · exact HasT.four (HasT.below T3 k22 T3.lt)
        clear hK K
        (try simp only [Act.put, List.getElem_toArray, List.getElem_cons_zero, List.getElem_cons_succ, List.setIfInBounds_toArray, List.set_cons_zero, List.set_cons_succ])
        refine wpAnyH_take (i := 8) (v := ?_) rfl (by kernel_rfl) (by kernel_rfl) (by kernel_rfl) (fun _ _ _ h => h) (Or.inl ⟨by rfl, ?_⟩) (by assumption) ?_
        rotate_left
        · (intro w hSw; (try dsimp only at hSw); go_simp; (try with_reducible rfl))
        (try simp only [Act.put, List.getElem_toArray, List.getElem_cons_zero, List.getElem_cons_succ, List.setIfInBounds_toArray, List.set_cons_zero, List.set_cons_succ])
        refine wpAnyH_take (i := 12) (v := ?_) rfl (by kernel_rfl) (by kernel_rfl) (by kernel_rfl) (fun _ _ _ h => h) (Or.inl ⟨by rfl, ?_⟩) (by assumption) ?_
        rotate_left
        · (intro w hSw; (try dsimp only at hSw); go_simp; (try with_reducible rfl))
        (try simp only [Act.put, List.getElem_toArray, List.getElem_cons_zero, List.getElem_cons_succ, List.setIfInBounds_toArray, List.set_cons_zero, List.set_cons_succ])
        refine wpAnyH_take (i := 13) (v := ?_) rfl (by kernel_rfl) (by kernel_rfl) (by kernel_rfl) (fun _ _ _ h => h) (Or.inl ⟨by rfl, ?_⟩) (by assumption) ?_
        rotate_left
        · (intro w hSw; (try dsimp only at hSw); go_simp; (try with_reducible rfl))
        (try simp only [Act.put, List.getElem_toArray, List.getElem_cons_zero, List.getElem_cons_succ, List.setIfInBounds_toArray, List.set_cons_zero, List.set_cons_succ])
        refine wpAnyH_take (i := 14) (v := ?_) rfl (by kernel_rfl) (by kernel_rfl) (by kernel_rfl) (fun _ _ _ h => h) (Or.inl ⟨by rfl, ?_⟩) (by assumption) ?_
        rotate_left
        · (intro w hSw; (try dsimp only at hSw); go_simp; (try with_reducible rfl))
        (try simp only [Act.put, List.getElem_toArray, List.getElem_cons_zero, List.getElem_cons_succ, List.setIfInBounds_toArray, List.set_cons_zero, List.set_cons_succ])
        refine wpAnyH_done (by kernel_rfl) ?_ _
        refine NoPanic.normal ?_
        go_wp2
        go_ret2
        exact ⟨by rw [← HY.out]; rfl, B2.trans (Below.mono k22 B2.size)⟩
      ·
        simp only [List.getElem_toArray, List.getElem_cons_zero, List.getElem_cons_succ]
        have e24 : (Instr.mapUpdate 73 (.map (some V2.heap.size)) (.bool false) (.string ⟨#[46]⟩)).run Tryd.prog W20 = .ok () (putB W20 V2.heap.size (.map #[⟨.bool false, .string ⟨#[46]⟩, 0⟩] 1)) := ins0 false _ m20
        have k24 : Below w2.heap.size w2 (putB W20 V2.heap.size (.map #[⟨.bool false, .string ⟨#[46]⟩, 0⟩] 1)) := putB_below _ k20 b1
        have m24 : (putB W20 V2.heap.size (.map #[⟨.bool false, .string ⟨#[46]⟩, 0⟩] 1)).heap[V2.heap.size]? = some (.map #[⟨.bool false, .string ⟨#[46]⟩, 0⟩] 1) := putB_at _ (lt_of_block m20)
        go_simp
        clear e24
        refine hK.out _ _ ?_ (fun hHeld => ?_)
        · exact HasT.four (HasT.below T3 k24 T3.lt)
        clear hK K
        (try simp only [Act.put, List.getElem_toArray, List.getElem_cons_zero, List.getElem_cons_succ, List.setIfInBounds_toArray, List.set_cons_zero, List.set_cons_succ])
        generalize putB W20 V2.heap.size (.map #[⟨.bool false, .string ⟨#[46]⟩, 0⟩] 1) = W24 at *
        refine wpAnyH_ready (rs := [2]) (by kernel_rfl) (by simp) ?_
        refine (AllReadyH.cons rfl (fun K hK => ?_) AllReadyH.nil)
        simp only [List.getElem_toArray, List.getElem_cons_zero, List.getElem_cons_succ]
        have e25 : (Instr.mapUpdate 73 (.map (some V2.heap.size)) (.bool true) (.string ⟨#[33, 46]⟩)).run Tryd.prog W24 = .ok () (putB W24 V2.heap.size (.map #[⟨.bool false, .string ⟨#[46]⟩, 0⟩, ⟨.bool true, .string ⟨#[33, 46]⟩, 1⟩] 2)) := ins1 false _ _ m24
        have k25 : Below w2.heap.size w2 (putB W24 V2.heap.size (.map #[⟨.bool false, .string ⟨#[46]⟩, 0⟩, ⟨.bool true, .string ⟨#[33, 46]⟩, 1⟩] 2)) := putB_below _ k24 b1
        have m25 : (putB W24 V2.heap.size (.map #[⟨.bool false, .string ⟨#[46]⟩, 0⟩, ⟨.bool true, .string ⟨#[33, 46]⟩, 1⟩] 2)).heap[V2.heap.size]? = some (.map #[⟨.bool false, .string ⟨#[46]⟩, 0⟩, ⟨.bool true, .string ⟨#[33, 46]⟩, 1⟩] 2) := putB_at _ (lt_of_block m24)
        go_simp
        clear e25
        refine hK.out _ _ ?_ (fun hHeld => ?_)
        · exact HasT.four (HasT.below T3 k25 T3.lt)
        clear hK K
        (try simp only [Act.put, List.getElem_toArray, List.getElem_cons_zero, List.getElem_cons_succ, List.setIfInBounds_toArray, List.set_cons_zero, List.set_cons_succ])
        generalize putB W24 V2.heap.size (.map #[⟨.bool false, .string ⟨#[46]⟩, 0⟩, ⟨.bool true, .string ⟨#[33, 46]⟩, 1⟩] 2) = W25 at *
        refine wpAnyH_take (i := 4) (v := ?_) rfl (by kernel_rfl) (by kernel_rfl) (by kernel_rfl) (fun _ _ _ h => h) (Or.inl ⟨by rfl, ?_⟩) (by assumption) ?_
        rotate_left
        · (intro w hSw; (try dsimp only at hSw); go_simp; (try with_reducible rfl))
        (try simp only [Act.put, List.getElem_toArray, List.getElem_cons_zero, List.getElem_cons_succ, List.setIfInBounds_toArray, List.set_cons_zero, List.set_cons_succ])
        refine wpAnyH_ready (rs := [7]) (by kernel_rfl) (by simp) ?_
        refine (AllReadyH.cons rfl (fun K hK => ?_) AllReadyH.nil)
        simp only [List.getElem_toArray, List.getElem_cons_zero, List.getElem_cons_succ]
        have e26 : (Instr.lookup 73 (.map (some V2.heap.size)) (.bool d) false).run Tryd.prog W25 = .ok (.string ⟨mk.toArray⟩) W25 := by rw [look2 _ _ _ _ m25]; rw [HM.out]; cases d <;> rfl
        go_simp
        clear e26
        refine hK.out _ _ ?_ (fun hHeld => ?_)
        · exact HasT.four (HasT.below T3 k25 T3.lt)
        clear hK K
        (try simp only [Act.put, List.getElem_toArray, List.getElem_cons_zero, List.getElem_cons_succ, List.setIfInBounds_toArray, List.set_cons_zero, List.set_cons_succ])
        refine wpAnyH_take (i := 8) (v := ?_) rfl (by kernel_rfl) (by kernel_rfl) (by kernel_rfl) (fun _ _ _ h => h) (Or.inl ⟨by rfl, ?_⟩) (by assumption) ?_
        rotate_left
        · (intro w hSw; (try dsimp only at hSw); go_simp; (try with_reducible rfl))
        (try simp only [Act.put, List.getElem_toArray, List.getElem_cons_zero, List.getElem_cons_succ, List.setIfInBounds_toArray, List.set_cons_zero, List.set_cons_succ])
        refine wpAnyH_take (i := 12) (v := ?_) rfl (by kernel_rfl) (by kernel_rfl) (by kernel_rfl) (fun _ _ _ h => h) (Or.inl ⟨by rfl, ?_⟩) (by assumption) ?_
        rotate_left
        · (intro w hSw; (try dsimp only at hSw); go_simp; (try with_reducible rfl))
        (try simp only [Act.put, List.getElem_toArray, List.getElem_cons_zero, List.getElem_cons_succ, List.setIfInBounds_toArray, List.set_cons_zero, List.set_cons_succ])
        refine wpAnyH_take (i := 13) (v := ?_) rfl (by kernel_rfl) (by kernel_rfl) (by kernel_rfl) (fun _ _ _ h => h) (Or.inl ⟨by rfl, ?_⟩) (by assumption) ?_
        rotate_left
        · (intro w hSw; (try dsimp only at hSw); go_simp; (try with_reducible rfl))
        (try simp only [Act.put, List.getElem_toArray, List.getElem_cons_zero, List.getElem_cons_succ, List.setIfInBounds_toArray, List.set_cons_zero, List.set_cons_succ])
        refine wpAnyH_take (i := 14) (v := ?_) rfl (by kernel_rfl) (by kernel_rfl) (by kernel_rfl) (fun _ _ _ h => h) (Or.inl ⟨by rfl, ?_⟩) (by assumption) ?_
        rotate_left
        · (intro w hSw; (try dsimp only at hSw); go_simp; (try with_reducible rfl))
        (try simp only [Act.put, List.getElem_toArray, List.getElem_cons_zero, List.getElem_cons_succ, List.setIfInBounds_toArray, List.set_cons_zero, List.set_cons_succ])
        refine wpAnyH_done (by kernel_rfl) ?_ _
        refine NoPanic.normal ?_
        go_wp2
        go_ret2
        exact ⟨by rw [← HY.out]; rfl, B2.trans (Below.mono k25 B2.size)⟩
  ·
    simp only [List.getElem_toArray, List.getElem_cons_zero, List.getElem_cons_succ]
    go_simp
    go_at_call 39
    with_reducible refine (itoa_any v _ ?_ ?_ ?_).mono ?_
    · exact HasTab.below2 hT3 k0
    · omega
    · omega
    rintro e W27 ⟨rfl, q27⟩
    have k27 : Below w2.heap.size w2 W27 := Below.trans k0 (Below.mono q27 (Below.size k0))
    refine hK.out _ _ ?_ (fun hHeld => ?_)
    · exact HasT.four (HasT.below T3 k27 T3.lt)
    clear hK K
    (try simp only [Act.put, List.getElem_toArray, List.getElem_cons_zero, List.getElem_cons_succ, List.setIfInBounds_toArray, List.set_cons_zero, List.set_cons_succ])
    refine wpAnyH_ready (rs := [1]) (by kernel_rfl) (by simp) ?_
    refine (AllReadyH.cons rfl (fun K hK => ?_) AllReadyH.nil)
    simp only [List.getElem_toArray, List.getElem_cons_zero, List.getElem_cons_succ]
    have k28 : Below w2.heap.size w2 (W27.alloc (.map #[] 0)) := Below.alloc k27 k27.size _
    have m28 : (W27.alloc (.map #[] 0)).heap[W27.heap.size]? = some (.map #[] 0) := heap_alloc_new _ _
    have b28 : w2.heap.size ≤ W27.heap.size := Below.size k27
    go_simp
    refine hK.out _ _ ?_ (fun hHeld => ?_)
    · exact HasT.four (HasT.below T3 k28 T3.lt)
    clear hK K
    (try simp only [Act.put, List.getElem_toArray, List.getElem_cons_zero, List.getElem_cons_succ, List.setIfInBounds_toArray, List.set_cons_zero, List.set_cons_succ])
    generalize W27.alloc (.map #[] 0) = W28 at *
    refine wpAnyH_ready (rs := [2, 3]) (by kernel_rfl) (by simp) ?_
    refine (AllReadyH.cons rfl (fun K hK => ?_) (AllReadyH.cons rfl (fun K hK => ?_) AllReadyH.nil))
    ·
      simp only [List.getElem_toArray, List.getElem_cons_zero, List.getElem_cons_succ]
      have e29 : (Instr.mapUpdate 73 (.map (some W27.heap.size)) (.bool true) (.string ⟨#[33, 46]⟩)).run Tryd.prog W28 = .ok () (putB W28 W27.heap.size (.map #[⟨.bool true, .string ⟨#[33, 46]⟩, 0⟩] 1)) := ins0 true _ m28
      have k29 : Below w2.heap.size w2 (putB W28 W27.heap.size (.map #[⟨.bool true, .string ⟨#[33, 46]⟩, 0⟩] 1)) := putB_below _ k28 b28
      have m29 : (putB W28 W27.heap.size (.map #[⟨.bool true, .string ⟨#[33, 46]⟩, 0⟩] 1)).heap[W27.heap.size]? = some (.map #[⟨.bool true, .string ⟨#[33, 46]⟩, 0⟩] 1) := putB_at _ (lt_of_block m28)
      go_simp
      clear e29
      refine hK.out _ _ ?_ (fun hHeld => ?_)
      · exact HasT.four (HasT.below T3 k29 T3.lt)
      clear hK K
      (try simp only [Act.put, List.getElem_toArray, List.getElem_cons_zero, List.getElem_cons_succ, List.setIfInBounds_toArray, List.set_cons_zero, List.set_cons_succ])
      generalize putB W28 W27.heap.size (.map #[⟨.bool true, .string ⟨#[33, 46]⟩, 0⟩] 1) = W29 at *
      refine wpAnyH_ready (rs := [3]) (by kernel_rfl) (by simp) ?_
      refine (AllReadyH.cons rfl (fun K hK => ?_) AllReadyH.nil)
      simp only [List.getElem_toArray, List.getElem_cons_zero, List.getElem_cons_succ]
      have e30 : (Instr.mapUpdate 73 (.map (some W27.heap.size)) (.bool false) (.string ⟨#[46]⟩)).run Tryd.prog W29 = .ok () (putB W29 W27.heap.size (.map #[⟨.bool true, .string ⟨#[33, 46]⟩, 0⟩, ⟨.bool false, .string ⟨#[46]⟩, 1⟩] 2)) := ins1 true _ _ m29
      have k30 : Below w2.heap.size w2 (putB W29 W27.heap.size (.map #[⟨.bool true, .string ⟨#[33, 46]⟩, 0⟩, ⟨.bool false, .string ⟨#[46]⟩, 1⟩] 2)) := putB_below _ k29 b28
      have m30 : (putB W29 W27.heap.size (.map #[⟨.bool true, .string ⟨#[33, 46]⟩, 0⟩, ⟨.bool false, .string ⟨#[46]⟩, 1⟩] 2)).heap[W27.heap.size]? = some (.map #[⟨.bool true, .string ⟨#[33, 46]⟩, 0⟩, ⟨.bool false, .string ⟨#[46]⟩, 1⟩] 2) := putB_at _ (lt_of_block m29)
      go_simp
      clear e30
      refine hK.out _ _ ?_ (fun hHeld => ?_)
      · exact HasT.four (HasT.below T3 k30 T3.lt)
      clear hK K
      (try simp only [Act.put, List.getElem_toArray, List.getElem_cons_zero, List.getElem_cons_succ, List.setIfInBounds_toArray, List.set_cons_zero, List.set_cons_succ])
      generalize putB W29 W27.heap.size (.map #[⟨.bool true, .string ⟨#[33, 46]⟩, 0⟩, ⟨.bool false, .string ⟨#[46]⟩, 1⟩] 2) = W30 at *
      refine wpAnyH_take (i := 4) (v := ?_) rfl (by kernel_rfl) (by kernel_rfl) (by kernel_rfl) (fun _ _ _ h => h) (Or.inl ⟨by rfl, ?_⟩) (by assumption) ?_
      rotate_left
      · (intro w hSw; (try dsimp only at hSw); go_simp; (try with_reducible rfl))
      (try simp only [Act.put, List.getElem_toArray, List.getElem_cons_zero, List.getElem_cons_succ, List.setIfInBounds_toArray, List.set_cons_zero, List.set_cons_succ])
      refine wpAnyH_ready (rs := [7]) (by kernel_rfl) (by simp) ?_
      refine (AllReadyH.cons rfl (fun K hK => ?_) AllReadyH.nil)
      simp only [List.getElem_toArray, List.getElem_cons_zero, List.getElem_cons_succ]
      have e31 : (Instr.lookup 73 (.map (some W27.heap.size)) (.bool d) false).run Tryd.prog W30 = .ok (.string ⟨mk.toArray⟩) W30 := by rw [look2 _ _ _ _ m30]; rw [HM.out]; cases d <;> rfl
      go_simp
      clear e31
      refine hK.out _ _ ?_ (fun hHeld => ?_)
      · exact HasT.four (HasT.below T3 k30 T3.lt)
      clear hK K
      (try simp only [Act.put, List.getElem_toArray, List.getElem_cons_zero, List.getElem_cons_succ, List.setIfInBounds_toArray, List.set_cons_zero, List.set_cons_succ])
      refine wpAnyH_take (i := 8) (v := ?_) rfl (by kernel_rfl) (by kernel_rfl) (by kernel_rfl) (fun _ _ _ h => h) (Or.inl ⟨by rfl, ?_⟩) (by assumption) ?_
      rotate_left
      · (intro w hSw; (try dsimp only at hSw); go_simp; (try with_reducible rfl))
      (try simp only [Act.put, List.getElem_toArray, List.getElem_cons_zero, List.getElem_cons_succ, List.setIfInBounds_toArray, List.set_cons_zero, List.set_cons_succ])
      refine wpAnyH_take (i := 12) (v := ?_) rfl (by kernel_rfl) (by kernel_rfl) (by kernel_rfl) (fun _ _ _ h => h) (Or.inl ⟨by rfl, ?_⟩) (by assumption) ?_
      rotate_left
      · (intro w hSw; (try dsimp only at hSw); go_simp; (try with_reducible rfl))
      (try simp only [Act.put, List.getElem_toArray, List.getElem_cons_zero, List.getElem_cons_succ, List.setIfInBounds_toArray, List.set_cons_zero, List.set_cons_succ])
      refine wpAnyH_take (i := 13) (v := ?_) rfl (by kernel_rfl) (by kernel_rfl) (by kernel_rfl) (fun _ _ _ h => h) (Or.inl ⟨by rfl, ?_⟩) (by assumption) ?_
      rotate_left
      · (intro w hSw; (try dsimp only at hSw); go_simp; (try with_reducible rfl))
      (try simp only [Act.put, List.getElem_toArray, List.getElem_cons_zero, List.getElem_cons_succ, List.setIfInBounds_toArray, List.set_cons_zero, List.set_cons_succ])
      refine wpAnyH_take (i := 14) (v := ?_) rfl (by kernel_rfl) (by kernel_rfl) (by kernel_rfl) (fun _ _ _ h => h) (Or.inl ⟨by rfl, ?_⟩) (by assumption) ?_
      rotate_left
      · (intro w hSw; (try dsimp only at hSw); go_simp; (try with_reducible rfl))
      (try simp only [Act.put, List.getElem_toArray, List.getElem_cons_zero, List.getElem_cons_succ, List.setIfInBounds_toArray, List.set_cons_zero, List.set_cons_succ])
      refine wpAnyH_done (by kernel_rfl) ?_ _
      refine NoPanic.normal ?_
      go_wp2
      go_ret2
      exact ⟨by rw [← HY.out]; rfl, B2.trans (Below.mono k30 B2.size)⟩
    ·
      simp only [List.getElem_toArray, List.getElem_cons_zero, List.getElem_cons_succ]
      have e32 : (Instr.mapUpdate 73 (.map (some W27.heap.size)) (.bool false) (.string ⟨#[46]⟩)).run Tryd.prog W28 = .ok () (putB W28 W27.heap.size (.map #[⟨.bool false, .string ⟨#[46]⟩, 0⟩] 1)) := ins0 false _ m28
      have k32 : Below w2.heap.size w2 (putB W28 W27.heap.size (.map #[⟨.bool false, .string ⟨#[46]⟩, 0⟩] 1)) := putB_below _ k28 b28
      have m32 : (putB W28 W27.heap.size (.map #[⟨.bool false, .string ⟨#[46]⟩, 0⟩] 1)).heap[W27.heap.size]? = some (.map #[⟨.bool false, .string ⟨#[46]⟩, 0⟩] 1) := putB_at _ (lt_of_block m28)
      go_simp
      clear e32
      refine hK.out _ _ ?_ (fun hHeld => ?_)
      · exact HasT.four (HasT.below T3 k32 T3.lt)
      clear hK K
      (try simp only [Act.put, List.getElem_toArray, List.getElem_cons_zero, List.getElem_cons_succ, List.setIfInBounds_toArray, List.set_cons_zero, List.set_cons_succ])
      generalize putB W28 W27.heap.size (.map #[⟨.bool false, .string ⟨#[46]⟩, 0⟩] 1) = W32 at *
      refine wpAnyH_ready (rs := [2]) (by kernel_rfl) (by simp) ?_
      refine (AllReadyH.cons rfl (fun K hK => ?_) AllReadyH.nil)
      simp only [List.getElem_toArray, List.getElem_cons_zero, List.getElem_cons_succ]
      have e33 : (Instr.mapUpdate 73 (.map (some W27.heap.size)) (.bool true) (.string ⟨#[33, 46]⟩)).run Tryd.prog W32 = .ok () (putB W32 W27.heap.size (.map #[⟨.bool false, .string ⟨#[46]⟩, 0⟩, ⟨.bool true, .string ⟨#[33, 46]⟩, 1⟩] 2)) := ins1 false _ _ m32
      have k33 : Below w2.heap.size w2 (putB W32 W27.heap.size (.map #[⟨.bool false, .string ⟨#[46]⟩, 0⟩, ⟨.bool true, .string ⟨#[33, 46]⟩, 1⟩] 2)) := putB_below _ k32 b28
      have m33 : (putB W32 W27.heap.size (.map #[⟨.bool false, .string ⟨#[46]⟩, 0⟩, ⟨.bool true, .string ⟨#[33, 46]⟩, 1⟩] 2)).heap[W27.heap.size]? = some (.map #[⟨.bool false, .string ⟨#[46]⟩, 0⟩, ⟨.bool true, .string ⟨#[33, 46]⟩, 1⟩] 2) := putB_at _ (lt_of_block m32)
      go_simp
      clear e33
      refine hK.out _ _ ?_ (fun hHeld => ?_)
      · exact HasT.four (HasT.below T3 k33 T3.lt)
      clear hK K
      (try simp only [Act.put, List.getElem_toArray, List.getElem_cons_zero, List.getElem_cons_succ, List.setIfInBounds_toArray, List.set_cons_zero, List.set_cons_succ])
      generalize putB W32 W27.heap.size (.map #[⟨.bool false, .string ⟨#[46]⟩, 0⟩, ⟨.bool true, .string ⟨#[33, 46]⟩, 1⟩] 2) = W33 at *
      refine wpAnyH_take (i := 4) (v := ?_) rfl (by kernel_rfl) (by kernel_rfl) (by kernel_rfl) (fun _ _ _ h => h) (Or.inl ⟨by rfl, ?_⟩) (by assumption) ?_
      rotate_left
      · (intro w hSw; (try dsimp only at hSw); go_simp; (try with_reducible rfl))
      (try simp only [Act.put, List.getElem_toArray, List.getElem_cons_zero, List.getElem_cons_succ, List.setIfInBounds_toArray, List.set_cons_zero, List.set_cons_succ])
      refine wpAnyH_ready (rs := [7]) (by kernel_rfl) (by simp) ?_
      refine (AllReadyH.cons rfl (fun K hK => ?_) AllReadyH.nil)
      simp only [List.getElem_toArray, List.getElem_cons_zero, List.getElem_cons_succ]
      have e34 : (Instr.lookup 73 (.map (some W27.heap.size)) (.bool d) false).run Tryd.prog W33 = .ok (.string ⟨mk.toArray⟩) W33 := by rw [look2 _ _ _ _ m33]; rw [HM.out]; cases d <;> rfl
      go_simp
      clear e34
      refine hK.out _ _ ?_ (fun hHeld => ?_)
      · exact HasT.four (HasT.below T3 k33 T3.lt)
      clear hK K
      (try simp only [Act.put, List.getElem_toArray, List.getElem_cons_zero, List.getElem_cons_succ, List.setIfInBounds_toArray, List.set_cons_zero, List.set_cons_succ])
      refine wpAnyH_take (i := 8) (v := ?_) rfl (by kernel_rfl) (by kernel_rfl) (by kernel_rfl) (fun _ _ _ h => h) (Or.inl ⟨by rfl, ?_⟩) (by assumption) ?_
      rotate_left
      · (intro w hSw; (try dsimp only at hSw); go_simp; (try with_reducible rfl))
      (try simp only [Act.put, List.getElem_toArray, List.getElem_cons_zero, List.getElem_cons_succ, List.setIfInBounds_toArray, List.set_cons_zero, List.set_cons_succ])
      refine wpAnyH_take (i := 12) (v := ?_) rfl (by kernel_rfl) (by kernel_rfl) (by kernel_rfl) (fun _ _ _ h => h) (Or.inl ⟨by rfl, ?_⟩) (by assumption) ?_
      rotate_left
      · (intro w hSw; (try dsimp only at hSw); go_simp; (try with_reducible rfl))
      (try simp only [Act.put, List.getElem_toArray, List.getElem_cons_zero, List.getElem_cons_succ, List.setIfInBounds_toArray, List.set_cons_zero, List.set_cons_succ])
      refine wpAnyH_take (i := 13) (v := ?_) rfl (by kernel_rfl) (by kernel_rfl) (by kernel_rfl) (fun _ _ _ h => h) (Or.inl ⟨by rfl, ?_⟩) (by assumption) ?_
      rotate_left
      · (intro w hSw; (try dsimp only at hSw); go_simp; (try with_reducible rfl))
      (try simp only [Act.put, List.getElem_toArray, List.getElem_cons_zero, List.getElem_cons_succ, List.setIfInBounds_toArray, List.set_cons_zero, List.set_cons_succ])
      refine wpAnyH_take (i := 14) (v := ?_) rfl (by kernel_rfl) (by kernel_rfl) (by kernel_rfl) (fun _ _ _ h => h) (Or.inl ⟨by rfl, ?_⟩) (by assumption) ?_
      rotate_left
      · (intro w hSw; (try dsimp only at hSw); go_simp; (try with_reducible rfl))
      (try simp only [Act.put, List.getElem_toArray, List.getElem_cons_zero, List.getElem_cons_succ, List.setIfInBounds_toArray, List.set_cons_zero, List.set_cons_succ])
      refine wpAnyH_done (by kernel_rfl) ?_ _
      refine NoPanic.normal ?_
      go_wp2
      go_ret2
      exact ⟨by rw [← HY.out]; rfl, B2.trans (Below.mono k33 B2.size)⟩
end Go.Proofs.YtafmkgdpfjimkaaDoor
