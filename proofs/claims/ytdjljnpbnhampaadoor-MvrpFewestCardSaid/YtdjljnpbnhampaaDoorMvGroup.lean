/- mvrp.split, readGroup, readEvents. -/
import Derived.Test.YtdjljnpbnhampaaDoorMvRdM
import Derived.Test.YtdjljnpbnhampaaDoorMvS
import Derived.Test.YtdjljnpbnhampaaDoorErrA
import Derived.Test.YtdjljnpbnhampaaDoorPrReadG
namespace Go.Proofs.YtdjljnpbnhampaaDoor
open Go.RowKit
attribute [local go_sem ↓] Go.wp_at_zero Go.wp_at_succ
set_option linter.unusedSimpArgs false
set_option linter.unusedVariables false
set_option maxRecDepth 100000

def a3 (l : List Int) : Array Value := #[.int .i64 (l.getD 0 0), .int .i64 (l.getD 1 0), .int .i64 (l.getD 2 0)]

theorem split_any (n : Nat) (hn : n ≤ 215) (w : World) : Calls Tryd.prog 130 #[.int .i64 (n : Nat)] w fun e w' => e = .returned (.agg (a3 (trip n))) ∧ Below w.heap.size w w' := by
  have HZ := Blk.new w 217 #[.int .i64 0, .int .i64 0, .int .i64 0]
  have B0 : Below w.heap.size w (w.alloc (.cells #[.int .i64 0, .int .i64 0, .int .i64 0] 217)) := (Below.refl _ _).alloc (Nat.le_refl _) _
  have k1 : (n : Int).tdiv 36 = ((n / 36 : Nat) : Int) := by rw [Int.tdiv_eq_ediv_of_nonneg (by omega)]; omega
  have k2 : (n : Int).tdiv 6 = ((n / 6 : Nat) : Int) := by rw [Int.tdiv_eq_ediv_of_nonneg (by omega)]; omega
  have k3 : ((n / 6 : Nat) : Int).tmod 6 = ((n / 6 % 6 : Nat) : Int) := by rw [Int.tmod_eq_emod_of_nonneg (by omega)]; omega
  have k4 : (n : Int).tmod 6 = ((n % 6 : Nat) : Int) := by rw [Int.tmod_eq_emod_of_nonneg (by omega)]; omega
  have HE : Hid (a3 (trip n) = #[.int .i64 ((n / 36 : Nat) : Int), .int .i64 ((n / 6 % 6 : Nat) : Int), .int .i64 ((n % 6 : Nat) : Int)]) := rfl
  have k1' : (n : Int) / 36 = ((n / 36 : Nat) : Int) := by omega
  have k2' : (n : Int) / 6 = ((n / 6 : Nat) : Int) := by omega
  have k3' : ((n / 6 : Nat) : Int) % 6 = ((n / 6 % 6 : Nat) : Int) := by omega
  have k4' : (n : Int) % 6 = ((n % 6 : Nat) : Int) := by omega
  have r1 : n / 36 ≤ 5 := by omega
  have r2 : n / 6 ≤ 35 := by omega
  rw [HE.out]
  clear HE
  generalize n / 6 % 6 = n2 at *
  generalize n / 36 = n1 at *
  generalize n / 6 = n6 at *
  generalize n % 6 = n3 at *
  go_enter Tryd.func130, Tryd.ntmps130
  go_upto_region 1 with (fail)
  generalize w.alloc (.cells #[.int .i64 0, .int .i64 0, .int .i64 0] 217) = w1 at *
  go_wp2_with (first
    | (refine build_blk (t := 217) #[.int .i64 (n1 : Int), .int .i64 (n2 : Int), .int .i64 (n3 : Int)] (by rfl) rfl (by kernel_rfl) ?_)
    | (refine store_blk (k := 0) 217 (.agg #[.int .i64 (n1 : Int), .int .i64 (n2 : Int), .int .i64 (n3 : Int)]) #[.int .i64 (n1 : Int), .int .i64 (n2 : Int), .int .i64 (n3 : Int)] (by rfl) rfl rfl rfl HZ (by kernel_rfl) (by exact Nat.le_refl 3) rfl rfl (fun w7 H7 b7 g7 => ?_)))
  exact bodyPost_ret (results_blk rfl rfl H7 (by kernel_rfl) (by kernel_rfl)) rfl ⟨rfl, B0.trans b7⟩

/-- Three events are read. -/
theorem readGroup_t {g : Nat} {S : ByteArray} (st : RSt) (w : World) (h : RdT w g S 0 st) (hp : st.1 ≤ S.size) (hb : S.size ≤ 281474976710656) :
    Calls Tryd.prog 122 #[.pointer (some ⟨g, 0, none⟩)] w fun e w' => e = .returned (.agg (a3 (gpL S.data.toList st))) ∧ RdT w' g S 0 (gpS S.data.toList st) ∧ w.grownBy w' (some g) := by
  have HZ := Blk.new w 217 #[.int .i64 0, .int .i64 0, .int .i64 0]
  have B0 : Below w.heap.size w (w.alloc (.cells #[.int .i64 0, .int .i64 0, .int .i64 0] 217)) := (Below.refl _ _).alloc (Nat.le_refl _) _
  have h1 := h.below B0
  have G0 : w.grownBy (w.alloc (.cells #[.int .i64 0, .int .i64 0, .int .i64 0] 217)) (some g) := World.grownBy_alloc w _ _
  have hgl : g < w.heap.size := h.lt
  have e0 : ((0 : Nat) : Int) + (st.1 : Int) = ((st.1 : Nat) : Int) := by omega
  have HE : gpL S.data.toList st = if 215 < nmV S.data.toList 0 st 1 then [0, 0, 0] else trip (nmV S.data.toList 0 st 1) := rfl
  have HS : gpS S.data.toList st = if 215 < nmV S.data.toList 0 st 1 then flR (nmS S.data.toList 0 st 1) 2 st.1 else nmS S.data.toList 0 st 1 := rfl
  rw [HE, HS]
  clear HE HS
  have HA : Hid (∀ W, RdT W g S 0 st → Calls Tryd.prog 77 #[.pointer (some ⟨g, 0, none⟩)] W fun e w' => e = .returned (.int .i64 (st.1 : Nat)) ∧ W = w') := fun W h => by
    have q := atT st W h
    rw [e0] at q
    exact q
  have HN : Hid (∀ W, RdT W g S 0 st → Calls Tryd.prog 44 #[.pointer (some ⟨g, 0, none⟩), .int .i64 1] W fun e w' => e = .returned (.int .i64 (nmV S.data.toList 0 st 1 : Nat)) ∧ RdT w' g S 0 (nmS S.data.toList 0 st 1) ∧ W.grownBy w' (some g)) := fun W h => numK_t st 1 (by decide) W h hp (by omega)
  have HF : Hid (∀ (W : World), RdT W g S 0 (nmS S.data.toList 0 st 1) → Calls Tryd.prog 61 #[.pointer (some ⟨g, 0, none⟩), .int .i64 2, .int .i64 (st.1 : Nat)] W fun e w' => e = .returned (.tuple #[]) ∧ RdT w' g S 0 (flR (nmS S.data.toList 0 st 1) 2 st.1) ∧ W.grownBy w' (some g)) := fun W h => fail_t _ 2 st.1 (by decide) W h
  have hbn : some w.heap.size ≠ some g := by simp; omega
  generalize nmS S.data.toList 0 st 1 = st1 at *
  generalize nmV S.data.toList 0 st 1 = n at *
  generalize st.1 = p at *
  clear hp h e0
  by_cases hn : 215 < n
  · rw [if_pos hn, if_pos hn]
    have d1 : decide ((215 : Int) < (n : Int)) = true := decide_eq_true (by omega)
    go_enter Tryd.func122, Tryd.ntmps122
    go_upto_region 1 with (fail)
    generalize w.alloc (.cells #[.int .i64 0, .int .i64 0, .int .i64 0] 217) = w1 at *
    go_wp2_with fail
    refine (HA.out _ h1).mono ?_
    rintro e w2 ⟨rfl, rfl⟩
    go_wp2_with fail
    refine (HN.out _ h1).mono ?_
    rintro e w3 ⟨rfl, HR3, g3'⟩
    have HZ3 := HZ.grown g3' hbn
    go_wp2_with fail
    refine (HF.out _ HR3).mono ?_
    rintro e w4 ⟨rfl, HR4, g4⟩
    have HZ4 := HZ3.grown g4 hbn
    have G4 := grownBy_trans (grownBy_trans G0 g3') g4
    clear HA HN HF HZ HZ3 g3' g4 G0 B0 HR3 h1
    go_wp2_with (first
      | (refine build_blk (t := 217) #[.int .i64 0, .int .i64 0, .int .i64 0] (by rfl) rfl (by kernel_rfl) ?_)
      | (refine store_blk (k := 0) 217 (.agg #[.int .i64 0, .int .i64 0, .int .i64 0]) #[.int .i64 0, .int .i64 0, .int .i64 0] (by rfl) rfl rfl rfl HZ4 (by kernel_rfl) (by exact Nat.le_refl 3) rfl rfl (fun w7 H7 b7 g7 => ?_)))
    exact bodyPost_ret (results_blk rfl rfl H7 (by kernel_rfl) (by kernel_rfl)) rfl ⟨rfl, HR4.other HZ4 (by decide) (by decide) g7, grown_own G4 g7 (Nat.le_refl _)⟩
  · rw [if_neg hn, if_neg hn]
    have d1 : decide ((215 : Int) < (n : Int)) = false := decide_eq_false (by omega)
    have HSP := Lib.hid (fun W => split_any n (by omega) W)
    go_enter Tryd.func122, Tryd.ntmps122
    go_upto_region 1 with (fail)
    generalize w.alloc (.cells #[.int .i64 0, .int .i64 0, .int .i64 0] 217) = w1 at *
    go_wp2_with fail
    refine (HA.out _ h1).mono ?_
    rintro e w2 ⟨rfl, rfl⟩
    go_wp2_with fail
    refine (HN.out _ h1).mono ?_
    rintro e w3 ⟨rfl, HR3, g3'⟩
    have HZ3 := HZ.grown g3' hbn
    go_wp2_with fail
    refine (HSP.out _).mono ?_
    rintro e w4 ⟨rfl, b4⟩
    have HZ4 := HZ3.kept b4
    have HR4 := HR3.below b4
    have G4 := grown_belowT (grownBy_trans G0 g3') b4
    clear HA HN HF HZ HZ3 g3' b4 G0 B0 HR3 h1
    go_wp2_with (refine store_blk (k := 0) 217 (.agg (a3 (trip n))) (a3 (trip n)) (by rfl) rfl rfl rfl HZ4 (by kernel_rfl) (show (3 : Nat) ≤ 3 from Nat.le_refl 3) (by rfl) (st_whole _ _ rfl) (fun w7 H7 b7 g7 => ?_))
    exact bodyPost_ret (results_blk rfl rfl H7 (by kernel_rfl) (by kernel_rfl)) rfl ⟨rfl, HR4.other HZ4 (by decide) (by decide) g7, grown_own G4 g7 (Nat.le_refl _)⟩

end Go.Proofs.YtdjljnpbnhampaaDoor
