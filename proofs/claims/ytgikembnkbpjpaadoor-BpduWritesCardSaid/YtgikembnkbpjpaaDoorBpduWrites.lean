/- switchyardlaw.BpduWrites: every BPDU as bytes: true, and what was there is as it was. -/
import Derived.Test.YtgikembnkbpjpaaDoorBpWrite
import Derived.Test.YtgikembnkbpjpaaDoorRefBpWrite
import Derived.Test.YtgikembnkbpjpaaDoorBare
namespace Go.Proofs.YtgikembnkbpjpaaDoor.bpduWrites
open Go.RowKit
attribute [local go_sem ↓] Go.wp_at_zero Go.wp_at_succ
set_option linter.unusedSimpArgs false
set_option linter.unusedVariables false
set_option maxRecDepth 100000

set_option maxHeartbeats 3200000 in
theorem walk_r (p : Bp) (w : World) (r : Bool) (L : List UInt8) (e1 : Int) (er : Value) (hE : HasErr w)
    (HV : Hid (∀ W, Calls Tryd.prog 7 #[.agg (bpC p)] W fun e w' => e = .returned (.tuple #[.string ⟨L.toArray⟩, .int .i64 e1]) ∧ Below W.heap.size W w'))
    (HW : Hid (∀ W, Calls Tryd.prog 8 #[.agg (bpC p)] W fun e w' => e = .returned (.tuple #[.string ⟨L.toArray⟩, er]) ∧ Below W.heap.size W w'))
    (HR : Hid (∀ W, Calls Tryd.prog 10 #[.agg (bpC p)] W fun e w' => e = .returned (.bool r) ∧ Below W.heap.size W w'))
    (HS : Hid (∀ W, Calls Tryd.prog 11 #[.agg (bpC p)] W fun e w' => e = .returned (.bool r) ∧ Below W.heap.size W w'))
    (hb1 : Bare er e1) :
    Calls Tryd.prog 3 #[.agg (bpC p)] w fun e w' => e = .returned (.bool true) ∧ Below w.heap.size w w' := by
  have HA := Blk.new w 31 (bpC p)
  have B0 : Below w.heap.size w (w.alloc (.cells (bpC p) 31)) := (Below.refl _ _).alloc (Nat.le_refl _) _
  go_enter Tryd.func3, Tryd.ntmps3
  go_upto_region 1 with (fail)
  generalize w.alloc (.cells (bpC p) 31) = w1 at *
  go_wp2_with (refine load_blk (k := 0) 31 (bpC p) (by rfl) rfl rfl HA (by kernel_rfl) (by kernel_rfl) rfl ?_)
  refine (HV.out _).mono ?_
  rintro e w2 ⟨rfl, b2⟩
  have HA2 := HA.kept b2
  have B2 := B0.trans (b2.mono B0.size)
  clear HA B0 b2 HV
  go_wp2_with (refine load_blk (k := 0) 31 (bpC p) (by rfl) rfl rfl HA2 (by kernel_rfl) (by kernel_rfl) rfl ?_)
  refine (HW.out _).mono ?_
  rintro e w3 ⟨rfl, b3⟩
  have HA3 := HA2.kept b3
  have B3 := B2.trans (b3.mono B2.size)
  have hL : (L == L) = true := by simp
  have hee : (r == r) = true := by simp
  clear HA2 B2 b3 HW
  go_upto_region 3 with (fail)
  have HA5 := HA3.drew
  have B5 := B3.drew
  refine wp_region_noPanic ?_
  refine wp_region_held_drew (S := (fun w' => Blk w' w.heap.size 31 (bpC p))) (by kernel_rfl) ?_ (fun hHeld => ?_)
  · exact HA3
  refine wpAnyH_take (i := 0) (v := ?_) rfl (by kernel_rfl) (by kernel_rfl) (by kernel_rfl) (fun _ _ _ h => h) (Or.inl ⟨by rfl, ?_⟩) (by assumption) ?_
  rotate_left
  · (intro w hSw; (try dsimp only at hSw); go_simp; (try with_reducible rfl))
  (try simp only [Act.put, List.getElem_toArray, List.getElem_cons_zero, List.getElem_cons_succ, List.setIfInBounds_toArray, List.set_cons_zero, List.set_cons_succ])
  refine wpAnyH_take (i := 1) (v := ?_) rfl (by kernel_rfl) (by kernel_rfl) (by kernel_rfl) (fun _ _ _ h => h) (Or.inl ⟨by rfl, ?_⟩) (by assumption) ?_
  rotate_left
  · (intro w hSw; (try dsimp only at hSw); go_simp; (try with_reducible rfl))
  (try simp only [Act.put, List.getElem_toArray, List.getElem_cons_zero, List.getElem_cons_succ, List.setIfInBounds_toArray, List.set_cons_zero, List.set_cons_succ])
  refine wpAnyH_ready (rs := [2]) (by kernel_rfl) (by simp) ?_
  refine AllReadyH.cons rfl (fun K hK => ?_) AllReadyH.nil
  simp only [List.getElem_toArray, List.getElem_cons_zero, List.getElem_cons_succ]
  go_simp
  go_at_call 9; (refine (hb1 _ (hE.below B5)).mono ?_); rintro e w6 ⟨rfl, b6⟩; have HA6 := HA5.kept b6; have B6 := B5.trans (b6.mono B5.size)
  refine hK.out _ _ ?_ (fun hHeld => ?_)
  · exact HA6
  clear hK K
  (try simp only [Act.put, List.getElem_toArray, List.getElem_cons_zero, List.getElem_cons_succ, List.setIfInBounds_toArray, List.set_cons_zero, List.set_cons_succ])
  refine wpAnyH_take (i := 3) (v := ?_) rfl (by kernel_rfl) (by kernel_rfl) (by kernel_rfl) (fun _ _ _ h => h) (Or.inl ⟨by rfl, ?_⟩) (by assumption) ?_
  rotate_left
  · (intro w hSw; (try dsimp only at hSw); go_simp; (try with_reducible rfl))
  (try simp only [Act.put, List.getElem_toArray, List.getElem_cons_zero, List.getElem_cons_succ, List.setIfInBounds_toArray, List.set_cons_zero, List.set_cons_succ])
  refine wpAnyH_take (i := 4) (v := ?_) rfl (by kernel_rfl) (by kernel_rfl) (by kernel_rfl) (fun _ _ _ h => h) (Or.inl ⟨by rfl, ?_⟩) (by assumption) ?_
  rotate_left
  · (intro w hSw; (try dsimp only at hSw); go_simp; (try with_reducible rfl))
  (try simp only [Act.put, List.getElem_toArray, List.getElem_cons_zero, List.getElem_cons_succ, List.setIfInBounds_toArray, List.set_cons_zero, List.set_cons_succ])
  refine wpAnyH_take (i := 5) (v := ?_) rfl (by kernel_rfl) (by kernel_rfl) (by kernel_rfl) (fun _ _ _ h => h) (Or.inl ⟨by rfl, ?_⟩) (by assumption) ?_
  rotate_left
  · (intro w hSw; (try dsimp only at hSw); go_simp; (try with_reducible rfl))
  (try simp only [Act.put, List.getElem_toArray, List.getElem_cons_zero, List.getElem_cons_succ, List.setIfInBounds_toArray, List.set_cons_zero, List.set_cons_succ])
  refine wpAnyH_take (i := 6) (v := ?_) rfl (by kernel_rfl) (by kernel_rfl) (by kernel_rfl) (fun _ _ _ h => h) (Or.inl ⟨by rfl, ?_⟩) (by assumption) ?_
  rotate_left
  · (intro w hSw; (try dsimp only at hSw); go_simp; (try with_reducible rfl))
  (try simp only [Act.put, List.getElem_toArray, List.getElem_cons_zero, List.getElem_cons_succ, List.setIfInBounds_toArray, List.set_cons_zero, List.set_cons_succ])
  refine wpAnyH_take (i := 7) (v := ?_) rfl (by kernel_rfl) (by kernel_rfl) (by kernel_rfl) (fun _ _ _ h => h) (Or.inl ⟨by rfl, ?_⟩) (by assumption) ?_
  rotate_left
  · (intro w hSw; (try dsimp only at hSw); go_simp; (try with_reducible rfl))
  (try simp only [Act.put, List.getElem_toArray, List.getElem_cons_zero, List.getElem_cons_succ, List.setIfInBounds_toArray, List.set_cons_zero, List.set_cons_succ])
  refine wpAnyH_take (i := 8) (v := ?_) rfl (by kernel_rfl) (by kernel_rfl) (by kernel_rfl) (fun _ _ _ h => h) (Or.inl ⟨by rfl, ?_⟩) (by assumption) ?_
  rotate_left
  · (intro w hSw; (try dsimp only at hSw); go_simp; (try with_reducible rfl))
  (try simp only [Act.put, List.getElem_toArray, List.getElem_cons_zero, List.getElem_cons_succ, List.setIfInBounds_toArray, List.set_cons_zero, List.set_cons_succ])
  refine wpAnyH_take (i := 9) (v := (.agg (bpC p))) rfl (by kernel_rfl) (by kernel_rfl) (by kernel_rfl) (fun _ _ _ h => h) (Or.inl ⟨by rfl, fun w hSw => exec_load_blk (k := 0) 31 (bpC p) (by rfl) (by rfl) hSw (by kernel_rfl) (by kernel_rfl) rfl⟩) (by assumption) ?_
  (try simp only [Act.put, List.getElem_toArray, List.getElem_cons_zero, List.getElem_cons_succ, List.setIfInBounds_toArray, List.set_cons_zero, List.set_cons_succ])
  refine wpAnyH_take (i := 11) (v := (.agg (bpC p))) rfl (by kernel_rfl) (by kernel_rfl) (by kernel_rfl) (fun _ _ _ h => h) (Or.inl ⟨by rfl, fun w hSw => exec_load_blk (k := 0) 31 (bpC p) (by rfl) (by rfl) hSw (by kernel_rfl) (by kernel_rfl) rfl⟩) (by assumption) ?_
  (try simp only [Act.put, List.getElem_toArray, List.getElem_cons_zero, List.getElem_cons_succ, List.setIfInBounds_toArray, List.set_cons_zero, List.set_cons_succ])
  refine wpAnyH_ready (rs := [10]) (by kernel_rfl) (by simp) ?_
  refine AllReadyH.cons rfl (fun K hK => ?_) AllReadyH.nil
  simp only [List.getElem_toArray, List.getElem_cons_zero, List.getElem_cons_succ]
  go_simp
  go_at_call 10; (refine (HR.out _).mono ?_); rintro e w7 ⟨rfl, b7⟩; have HA7 := HA6.kept b7; have B7 := B6.trans (b7.mono B6.size)
  refine hK.out _ _ ?_ (fun hHeld => ?_)
  · exact HA7
  clear hK K
  (try simp only [Act.put, List.getElem_toArray, List.getElem_cons_zero, List.getElem_cons_succ, List.setIfInBounds_toArray, List.set_cons_zero, List.set_cons_succ])
  refine wpAnyH_ready (rs := [12]) (by kernel_rfl) (by simp) ?_
  refine AllReadyH.cons rfl (fun K hK => ?_) AllReadyH.nil
  simp only [List.getElem_toArray, List.getElem_cons_zero, List.getElem_cons_succ]
  go_simp
  go_at_call 11; (refine (HS.out _).mono ?_); rintro e w8 ⟨rfl, b8⟩; have HA8 := HA7.kept b8; have B8 := B7.trans (b8.mono B7.size)
  refine hK.out _ _ ?_ (fun hHeld => ?_)
  · exact HA8
  clear hK K
  (try simp only [Act.put, List.getElem_toArray, List.getElem_cons_zero, List.getElem_cons_succ, List.setIfInBounds_toArray, List.set_cons_zero, List.set_cons_succ])
  refine wpAnyH_take (i := 13) (v := ?_) rfl (by kernel_rfl) (by kernel_rfl) (by kernel_rfl) (fun _ _ _ h => h) (Or.inl ⟨by rfl, ?_⟩) (by assumption) ?_
  rotate_left
  · (intro w hSw; (try dsimp only at hSw); go_simp; (try with_reducible rfl))
  (try simp only [Act.put, List.getElem_toArray, List.getElem_cons_zero, List.getElem_cons_succ, List.setIfInBounds_toArray, List.set_cons_zero, List.set_cons_succ])
  refine wpAnyH_take (i := 14) (v := ?_) rfl (by kernel_rfl) (by kernel_rfl) (by kernel_rfl) (fun _ _ _ h => h) (Or.inl ⟨by rfl, ?_⟩) (by assumption) ?_
  rotate_left
  · (intro w hSw; (try dsimp only at hSw); go_simp; (try with_reducible rfl))
  (try simp only [Act.put, List.getElem_toArray, List.getElem_cons_zero, List.getElem_cons_succ, List.setIfInBounds_toArray, List.set_cons_zero, List.set_cons_succ])
  refine wpAnyH_take (i := 15) (v := ?_) rfl (by kernel_rfl) (by kernel_rfl) (by kernel_rfl) (fun _ _ _ h => h) (Or.inl ⟨by rfl, ?_⟩) (by assumption) ?_
  rotate_left
  · (intro w hSw; (try dsimp only at hSw); go_simp; (try with_reducible rfl))
  (try simp only [Act.put, List.getElem_toArray, List.getElem_cons_zero, List.getElem_cons_succ, List.setIfInBounds_toArray, List.set_cons_zero, List.set_cons_succ])
  refine wpAnyH_done (by kernel_rfl) ?_ _
  refine NoPanic.normal ?_
  go_wp2
  go_ret
  exact ⟨rfl, B8⟩

theorem walk (b : Bp) (hx : byBp b) (hr : rgBp b) (w : World) (hE : HasErr w) :
    Calls Tryd.prog 3 #[.agg (bpC b)] w fun e w' => e = .returned (.bool true) ∧ Below w.heap.size w w' := by
  cases h : okBp b with
  | true => exact walk_r b w true (writeL b) 0 .nilIface hE (Lib.hid fun W => refBpWrite_yes b h hx W) (Lib.hid fun W => bpWrite_yes b h hx hr W) (Lib.hid fun W => by rw [← h]; exact bpRight_any b hr W) (Lib.hid fun W => by rw [← h]; exact refBpRight_any b W) Bare.none
  | false => exact walk_r b w false [] 1 _ hE (Lib.hid fun W => refBpWrite_no b h W) (Lib.hid fun W => bpWrite_no b h hr W) (Lib.hid fun W => by rw [← h]; exact bpRight_any b hr W) (Lib.hid fun W => by rw [← h]; exact refBpRight_any b W) (Bare.errno 1)

end Go.Proofs.YtgikembnkbpjpaaDoor.bpduWrites
