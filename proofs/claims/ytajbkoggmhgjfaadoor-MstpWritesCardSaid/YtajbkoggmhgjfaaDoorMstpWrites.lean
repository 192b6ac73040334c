/- switchyardlaw.MstpWrites: every message as bytes: true, and what was there is as it was. -/
import Derived.Test.YtajbkoggmhgjfaaDoorRefMsWrite
import Derived.Test.YtajbkoggmhgjfaaDoorMsWrite
import Derived.Test.YtajbkoggmhgjfaaDoorBare
import Derived.Test.YtajbkoggmhgjfaaDoorOpenMs
namespace Go.Proofs.YtajbkoggmhgjfaaDoor.mstpWrites
open Go.RowKit
attribute [local go_sem ↓] Go.wp_at_zero Go.wp_at_succ
set_option linter.unusedSimpArgs false
set_option linter.unusedVariables false
set_option maxRecDepth 100000

set_option maxHeartbeats 6400000 in
theorem walk_r (m : Ms) (a : Option Addr) (c : Nat) (l : List Ins) (w : World) (hI : InIn w a l) (r : Bool) (L : List UInt8) (e1 : Int) (er : Value) (hE : HasErr w) (X : Int)
    (hX1 : IntKind.i64.wrap ((m.name.size : Int) + (m.dig.size : Int)) = X) (hgt : decide ((80 : Int) < (l.length : Int)) = false) (hg2 : decide ((200 : Int) < X) = false)
    (HV : Hid (∀ W, InIn W a l → Calls Tryd.prog 6 #[.agg (msC m (.slice a l.length c))] W fun e w' => e = .returned (.tuple #[.string ⟨L.toArray⟩, .int .i64 e1]) ∧ Below W.heap.size W w'))
    (HW : Hid (∀ W, InIn W a l → Calls Tryd.prog 7 #[.agg (msC m (.slice a l.length c))] W fun e w' => e = .returned (.tuple #[.string ⟨L.toArray⟩, er]) ∧ Below W.heap.size W w'))
    (HR : Hid (∀ W, InIn W a l → Calls Tryd.prog 9 #[.agg (msC m (.slice a l.length c))] W fun e w' => e = .returned (.bool r) ∧ Below W.heap.size W w'))
    (HS : Hid (∀ W, InIn W a l → Calls Tryd.prog 10 #[.agg (msC m (.slice a l.length c))] W fun e w' => e = .returned (.bool r) ∧ Below W.heap.size W w'))
    (hb1 : Bare er e1) :
    Calls Tryd.prog 3 #[.agg (msC m (.slice a l.length c))] w fun e w' => e = .returned (.bool true) ∧ Below w.heap.size w w' := by
  go_enter Tryd.func3, Tryd.ntmps3
  go_upto_region 1 with (refine box_blk 34 (msC m (.slice a l.length c)) (by rfl) (by rfl) rfl ?_; intro w1 HA1 B1)
  have c44 := HA1.cv 44 (.slice a l.length c) rfl
  have c31 := HA1.cv 31 (.string m.name) rfl
  have c33 := HA1.cv 33 (.string m.dig) rfl
  have I1 := hI.below B1
  go_wp2_with (refine load_blk (k := 0) 34 (msC m (.slice a l.length c)) (by rfl) rfl rfl HA1 (by kernel_rfl) (by kernel_rfl) rfl ?_)
  refine (HV.out _ I1).mono ?_
  rintro e w2 ⟨rfl, b2⟩
  have HA2 := HA1.kept b2
  have I2 := I1.below b2
  have B2 := B1.trans (b2.mono B1.size)
  clear HA1 I1 B1 b2 HV c44 c31 c33
  go_wp2_with (refine load_blk (k := 0) 34 (msC m (.slice a l.length c)) (by rfl) rfl rfl HA2 (by kernel_rfl) (by kernel_rfl) rfl ?_)
  refine (HW.out _ I2).mono ?_
  rintro e w3 ⟨rfl, b3⟩
  have HA3 := HA2.kept b3
  have I3 := I2.below b3
  have B3 := B2.trans (b3.mono B2.size)
  have hL : (L == L) = true := by simp
  have hee : (r == r) = true := by simp
  clear HA2 I2 B2 b3 HW
  go_upto_region 5 with (fail)
  refine wp_region_noPanic ?_
  refine wp_region_held_drew (S := (fun w' => Blk w' w.heap.size 34 (msC m (.slice a l.length c)))) (by kernel_rfl) ?_ (fun hHeld => ?_)
  · exact HA3
  refine wpAnyH_take (i := 0) (v := ?_) rfl (by kernel_rfl) (by kernel_rfl) (by kernel_rfl) (fun _ _ _ h => h) (Or.inl ⟨by rfl, ?_⟩) (by assumption) ?_
  rotate_left
  · (intro w hSw; (try dsimp only at hSw); go_simp; (try with_reducible rfl))
  (try simp only [Act.put, List.getElem_toArray, List.getElem_cons_zero, List.getElem_cons_succ, List.setIfInBounds_toArray, List.set_cons_zero, List.set_cons_succ])
  refine wpAnyH_take (i := 1) (v := ?_) rfl (by kernel_rfl) (by kernel_rfl) (by kernel_rfl) (fun _ _ _ h => h) (Or.inl ⟨by rfl, ?_⟩) (by assumption) ?_
  rotate_left
  · (intro w hSw; (try dsimp only at hSw); go_simp; (try with_reducible rfl))
  (try simp only [Act.put, List.getElem_toArray, List.getElem_cons_zero, List.getElem_cons_succ, List.setIfInBounds_toArray, List.set_cons_zero, List.set_cons_succ])
  refine wpAnyH_ready (rs := [2]) (by kernel_rfl) (by simp) ?_
  refine AllReadyH.cons rfl (fun K hK => ?_) AllReadyH.nil
  simp only [List.getElem_toArray, List.getElem_cons_zero, List.getElem_cons_succ]
  go_simp
  go_at_call 8; (refine (hb1 _ (hE.below B3.drew)).mono ?_); rintro e w6 ⟨rfl, b6⟩; have HA6 := HA3.drew.kept b6; have I6 := I3.drew.below b6; have B6 := B3.drew.trans (b6.mono B3.drew.size)
  refine hK.out _ _ ?_ (fun hHeld => ?_)
  · exact HA6
  clear hK K
  (try simp only [Act.put, List.getElem_toArray, List.getElem_cons_zero, List.getElem_cons_succ, List.setIfInBounds_toArray, List.set_cons_zero, List.set_cons_succ])
  refine wpAnyH_take (i := 3) (v := ?_) rfl (by kernel_rfl) (by kernel_rfl) (by kernel_rfl) (fun _ _ _ h => h) (Or.inl ⟨by rfl, ?_⟩) (by assumption) ?_
  rotate_left
  · (intro w hSw; (try dsimp only at hSw); go_simp; (try with_reducible rfl))
  (try simp only [Act.put, List.getElem_toArray, List.getElem_cons_zero, List.getElem_cons_succ, List.setIfInBounds_toArray, List.set_cons_zero, List.set_cons_succ])
  refine wpAnyH_take (i := 4) (v := ?_) rfl (by kernel_rfl) (by kernel_rfl) (by kernel_rfl) (fun _ _ _ h => h) (Or.inl ⟨by rfl, ?_⟩) (by assumption) ?_
  rotate_left
  · (intro w hSw; (try dsimp only at hSw); go_simp; (try with_reducible rfl))
  (try simp only [Act.put, List.getElem_toArray, List.getElem_cons_zero, List.getElem_cons_succ, List.setIfInBounds_toArray, List.set_cons_zero, List.set_cons_succ])
  refine wpAnyH_take (i := 5) (v := ?_) rfl (by kernel_rfl) (by kernel_rfl) (by kernel_rfl) (fun _ _ _ h => h) (Or.inl ⟨by rfl, ?_⟩) (by assumption) ?_
  rotate_left
  · (intro w hSw; (try dsimp only at hSw); go_simp; (try with_reducible rfl))
  (try simp only [Act.put, List.getElem_toArray, List.getElem_cons_zero, List.getElem_cons_succ, List.setIfInBounds_toArray, List.set_cons_zero, List.set_cons_succ])
  refine wpAnyH_take (i := 6) (v := ?_) rfl (by kernel_rfl) (by kernel_rfl) (by kernel_rfl) (fun _ _ _ h => h) (Or.inl ⟨by rfl, ?_⟩) (by assumption) ?_
  rotate_left
  · (intro w hSw; (try dsimp only at hSw); go_simp; (try with_reducible rfl))
  (try simp only [Act.put, List.getElem_toArray, List.getElem_cons_zero, List.getElem_cons_succ, List.setIfInBounds_toArray, List.set_cons_zero, List.set_cons_succ])
  refine wpAnyH_take (i := 7) (v := ?_) rfl (by kernel_rfl) (by kernel_rfl) (by kernel_rfl) (fun _ _ _ h => h) (Or.inl ⟨by rfl, ?_⟩) (by assumption) ?_
  rotate_left
  · (intro w hSw; (try dsimp only at hSw); go_simp; (try with_reducible rfl))
  (try simp only [Act.put, List.getElem_toArray, List.getElem_cons_zero, List.getElem_cons_succ, List.setIfInBounds_toArray, List.set_cons_zero, List.set_cons_succ])
  refine wpAnyH_take (i := 8) (v := ?_) rfl (by kernel_rfl) (by kernel_rfl) (by kernel_rfl) (fun _ _ _ h => h) (Or.inl ⟨by rfl, ?_⟩) (by assumption) ?_
  rotate_left
  · (intro w hSw; (try dsimp only at hSw); go_simp; (try with_reducible rfl))
  (try simp only [Act.put, List.getElem_toArray, List.getElem_cons_zero, List.getElem_cons_succ, List.setIfInBounds_toArray, List.set_cons_zero, List.set_cons_succ])
  refine wpAnyH_take (i := 9) (v := .agg (msC m (.slice a l.length c))) rfl (by kernel_rfl) (by kernel_rfl) (by kernel_rfl) (fun _ _ _ h => h) (Or.inl ⟨by rfl, fun w hSw => exec_load_blk (k := 0) 34 (msC m (.slice a l.length c)) rfl rfl hSw (by kernel_rfl) (by kernel_rfl) rfl⟩) (by assumption) ?_
  (try simp only [Act.put, List.getElem_toArray, List.getElem_cons_zero, List.getElem_cons_succ, List.setIfInBounds_toArray, List.set_cons_zero, List.set_cons_succ])
  refine wpAnyH_take (i := 11) (v := .agg (msC m (.slice a l.length c))) rfl (by kernel_rfl) (by kernel_rfl) (by kernel_rfl) (fun _ _ _ h => h) (Or.inl ⟨by rfl, fun w hSw => exec_load_blk (k := 0) 34 (msC m (.slice a l.length c)) rfl rfl hSw (by kernel_rfl) (by kernel_rfl) rfl⟩) (by assumption) ?_
  (try simp only [Act.put, List.getElem_toArray, List.getElem_cons_zero, List.getElem_cons_succ, List.setIfInBounds_toArray, List.set_cons_zero, List.set_cons_succ])
  refine wpAnyH_ready (rs := [10]) (by kernel_rfl) (by simp) ?_
  refine AllReadyH.cons rfl (fun K hK => ?_) AllReadyH.nil
  simp only [List.getElem_toArray, List.getElem_cons_zero, List.getElem_cons_succ]
  go_simp
  go_at_call 9; (refine (HR.out _ I6).mono ?_); rintro e w7 ⟨rfl, b7⟩; have HA7 := HA6.kept b7; have I7 := I6.below b7; have B7 := B6.trans (b7.mono B6.size)
  refine hK.out _ _ ?_ (fun hHeld => ?_)
  · exact HA7
  clear hK K
  (try simp only [Act.put, List.getElem_toArray, List.getElem_cons_zero, List.getElem_cons_succ, List.setIfInBounds_toArray, List.set_cons_zero, List.set_cons_succ])
  refine wpAnyH_ready (rs := [12]) (by kernel_rfl) (by simp) ?_
  refine AllReadyH.cons rfl (fun K hK => ?_) AllReadyH.nil
  simp only [List.getElem_toArray, List.getElem_cons_zero, List.getElem_cons_succ]
  go_simp
  go_at_call 10; (refine (HS.out _ I7).mono ?_); rintro e w8 ⟨rfl, b8⟩; have HA8 := HA7.kept b8; have B8 := B7.trans (b8.mono B7.size)
  refine hK.out _ _ ?_ (fun hHeld => ?_)
  · exact HA8
  clear hK K
  (try simp only [Act.put, List.getElem_toArray, List.getElem_cons_zero, List.getElem_cons_succ, List.setIfInBounds_toArray, List.set_cons_zero, List.set_cons_succ])
  refine wpAnyH_take (i := 13) (v := ?_) rfl (by kernel_rfl) (by kernel_rfl) (by kernel_rfl) (fun _ _ _ h => h) (Or.inl ⟨by rfl, ?_⟩) (by assumption) ?_
  rotate_left
  · (intro w hSw; (try dsimp only at hSw); go_simp; (try with_reducible rfl))
  (try simp only [Act.put, List.getElem_toArray, List.getElem_cons_zero, List.getElem_cons_succ, List.setIfInBounds_toArray, List.set_cons_zero, List.set_cons_succ])
  refine wpAnyH_take (i := 14) (v := ?_) rfl (by kernel_rfl) (by kernel_rfl) (by kernel_rfl) (fun _ _ _ h => h) (Or.inl ⟨by rfl, ?_⟩) (by assumption) ?_
  rotate_left
  · (intro w hSw; (try dsimp only at hSw); go_simp; (try with_reducible rfl))
  (try simp only [Act.put, List.getElem_toArray, List.getElem_cons_zero, List.getElem_cons_succ, List.setIfInBounds_toArray, List.set_cons_zero, List.set_cons_succ])
  refine wpAnyH_take (i := 15) (v := ?_) rfl (by kernel_rfl) (by kernel_rfl) (by kernel_rfl) (fun _ _ _ h => h) (Or.inl ⟨by rfl, ?_⟩) (by assumption) ?_
  rotate_left
  · (intro w hSw; (try dsimp only at hSw); go_simp; (try with_reducible rfl))
  (try simp only [Act.put, List.getElem_toArray, List.getElem_cons_zero, List.getElem_cons_succ, List.setIfInBounds_toArray, List.set_cons_zero, List.set_cons_succ])
  refine wpAnyH_done (by kernel_rfl) ?_ _
  refine NoPanic.normal ?_
  go_wp2
  go_ret
  exact ⟨rfl, B8⟩

theorem walk (m : Ms) (a : Option Addr) (c : Nat) (l : List Ins) (hA : ArgMs m l) (w : World) (h : InIn w a l) (hn : m.name.size ≤ 140737488355328) (hd : m.dig.size ≤ 140737488355328) (hE : HasErr w) :
    Calls Tryd.prog 3 #[.agg (msC m (.slice a l.length c))] w fun e w' => e = .returned (.bool true) ∧ Below w.heap.size w w' := by
  obtain ⟨X, hX⟩ : ∃ X : Int, (m.name.size : Int) + (m.dig.size : Int) = X := ⟨_, rfl⟩
  have hX1 : IntKind.i64.wrap ((m.name.size : Int) + (m.dig.size : Int)) = X := by rw [IntKind.wrap_i64] <;> omega
  by_cases hl : 80 < l.length
  · have hgt : decide ((80 : Int) < (l.length : Int)) = true := decide_eq_true (by omega)
    clear hX
    go_enter Tryd.func3, Tryd.ntmps3
    go_upto_region 1 with (refine box_blk 34 (msC m (.slice a l.length c)) (by rfl) (by rfl) rfl ?_; intro w1 HA1 B1)
    have c44 := HA1.cv 44 (.slice a l.length c) rfl
    have c31 := HA1.cv 31 (.string m.name) rfl
    have c33 := HA1.cv 33 (.string m.dig) rfl
    go_wp2
    go_ret
    exact ⟨rfl, B1⟩
  have hgt : decide ((80 : Int) < (l.length : Int)) = false := decide_eq_false (by omega)
  by_cases hy : 200 < X
  · have hg2 : decide ((200 : Int) < X) = true := decide_eq_true hy
    clear hX
    go_enter Tryd.func3, Tryd.ntmps3
    go_upto_region 1 with (refine box_blk 34 (msC m (.slice a l.length c)) (by rfl) (by rfl) rfl ?_; intro w1 HA1 B1)
    have c44 := HA1.cv 44 (.slice a l.length c) rfl
    have c31 := HA1.cv 31 (.string m.name) rfl
    have c33 := HA1.cv 33 (.string m.dig) rfl
    go_wp2
    go_ret
    exact ⟨rfl, B1⟩
  have hg2 : decide ((200 : Int) < X) = false := decide_eq_false hy
  have hsn : m.name.size ≤ 200 := by omega
  have hsd : m.dig.size ≤ 200 := by omega
  cases hok : okMs m l with
  | true => exact walk_r m a c l w h true (writeM m l) 0 .nilIface hE X hX1 hgt hg2 (Lib.hid fun W hI => refMsWrite_yes m a c l W hI hok hA.1) (Lib.hid fun W hI => msWrite_yes m a c l W hI hok hA.1) (Lib.hid fun W hI => by rw [← hok]; exact msRight_any m a c l W hI (by omega) hA.2 (by omega) (by omega)) (Lib.hid fun W hI => by rw [← hok]; exact refMsRight_any m a c l W hI (by omega) (by omega) (by omega)) Bare.none
  | false => exact walk_r m a c l w h false [] 1 _ hE X hX1 hgt hg2 (Lib.hid fun W hI => refMsWrite_no m a c l W hI (by omega) (by omega) (by omega) hok) (Lib.hid fun W hI => msWrite_no m a c l W hI (by omega) hA.2 (by omega) (by omega) hok) (Lib.hid fun W hI => by rw [← hok]; exact msRight_any m a c l W hI (by omega) hA.2 (by omega) (by omega)) (Lib.hid fun W hI => by rw [← hok]; exact refMsRight_any m a c l W hI (by omega) (by omega) (by omega)) (Bare.errno 1)

end Go.Proofs.YtajbkoggmhgjfaaDoor.mstpWrites
