/- The reference's BridgeLess and Better at every two. -/
import Derived.Test.YtceiiolpggolbaaRefLine
namespace Go.Proofs.Ytceiiolpggolbaa
open Go.RowKit
attribute [local go_sem ↓] Go.wp_at_zero Go.wp_at_succ
set_option linter.unusedSimpArgs false
set_option linter.unusedVariables false
set_option maxRecDepth 100000

theorem first_n8 (g1 g2 c1 c2 : Nat) (l m : List Int) (w : World) (hl : l.length = 8) (hm : m.length = 8) (h1 : IntsAt w g1 l) (h2 : IntsAt w g2 m) (hg1 : g1 < w.heap.size) (hg2 : g2 < w.heap.size) :
    Calls Try.prog 12 #[.slice (some ⟨g1, 0, none⟩) 8 c1, .slice (some ⟨g2, 0, none⟩) 8 c2] w fun e w' => e = .returned (.int .i64 (cmpL l m)) ∧ Below w.heap.size w w' := by
  have h := first_any g1 g2 c1 c2 l m w h1 h2 hg1 hg2 (hm.trans hl.symm) (by omega)
  rw [hl] at h
  exact h

theorem first_n21 (g1 g2 c1 c2 : Nat) (l m : List Int) (w : World) (hl : l.length = 21) (hm : m.length = 21) (h1 : IntsAt w g1 l) (h2 : IntsAt w g2 m) (hg1 : g1 < w.heap.size) (hg2 : g2 < w.heap.size) :
    Calls Try.prog 12 #[.slice (some ⟨g1, 0, none⟩) 21 c1, .slice (some ⟨g2, 0, none⟩) 21 c2] w fun e w' => e = .returned (.int .i64 (cmpL l m)) ∧ Below w.heap.size w w' := by
  have h := first_any g1 g2 c1 c2 l m w h1 h2 hg1 hg2 (hm.trans hl.symm) (by omega)
  rw [hl] at h
  exact h

set_option maxHeartbeats 6400000 in
theorem refLess_any (a b : Br) (ha : ∀ i, a.a i < 256) (hb : ∀ i, b.a i < 256) (w : World) :
    Calls Try.prog 6 #[.agg (brC a), .agg (brC b)] w fun e w' => e = .returned (.bool (lessB a b)) ∧ Below w.heap.size w w' := by
  obtain ⟨HA, HB, B1⟩ := two_blks w 25 25 (brC a) (brC b)
  have HN1 := Lib.hid (fun W => numbers_any W.heap.size a ha W (Nat.le_refl _))
  have HN2 := Lib.hid (fun W => numbers_any W.heap.size b hb W (Nat.le_refl _))
  have hl1 : (numsB a).length = 8 := rfl
  have hl2 : (numsB b).length = 8 := rfl
  unfold lessB
  generalize numsB a = l at *
  generalize numsB b = m at *
  unfold brC at HN1 HN2
  go_enter Try.func6, Try.ntmps6
  go_upto_region 1 with (fail)
  generalize (w.alloc (.cells (brC a) 25)).alloc (.cells (brC b) 25) = w1 at *
  go_region_held3 (fun w' => w'.cell? ⟨w.heap.size, 0, none⟩ = some (.int .i64 a.p) ∧ w'.cell? ⟨w.heap.size, 1, none⟩ = some (.int .i64 a.e) ∧ w'.cell? ⟨w.heap.size, 2, none⟩ = some (.int .u8 (a.a 0)) ∧ w'.cell? ⟨w.heap.size, 3, none⟩ = some (.int .u8 (a.a 1)) ∧ w'.cell? ⟨w.heap.size, 4, none⟩ = some (.int .u8 (a.a 2)) ∧ w'.cell? ⟨w.heap.size, 5, none⟩ = some (.int .u8 (a.a 3)) ∧ w'.cell? ⟨w.heap.size, 6, none⟩ = some (.int .u8 (a.a 4)) ∧ w'.cell? ⟨w.heap.size, 7, none⟩ = some (.int .u8 (a.a 5)) ∧ w'.cell? ⟨w.heap.size + 1, 0, none⟩ = some (.int .i64 b.p) ∧ w'.cell? ⟨w.heap.size + 1, 1, none⟩ = some (.int .i64 b.e) ∧ w'.cell? ⟨w.heap.size + 1, 2, none⟩ = some (.int .u8 (b.a 0)) ∧ w'.cell? ⟨w.heap.size + 1, 3, none⟩ = some (.int .u8 (b.a 1)) ∧ w'.cell? ⟨w.heap.size + 1, 4, none⟩ = some (.int .u8 (b.a 2)) ∧ w'.cell? ⟨w.heap.size + 1, 5, none⟩ = some (.int .u8 (b.a 3)) ∧ w'.cell? ⟨w.heap.size + 1, 6, none⟩ = some (.int .u8 (b.a 4)) ∧ w'.cell? ⟨w.heap.size + 1, 7, none⟩ = some (.int .u8 (b.a 5)))
    (first
      | exact ⟨(HA4).cv 0 _ rfl, (HA4).cv 1 _ rfl, (HA4).cv 2 _ rfl, (HA4).cv 3 _ rfl, (HA4).cv 4 _ rfl, (HA4).cv 5 _ rfl, (HA4).cv 6 _ rfl, (HA4).cv 7 _ rfl, (HB4).cv 0 _ rfl, (HB4).cv 1 _ rfl, (HB4).cv 2 _ rfl, (HB4).cv 3 _ rfl, (HB4).cv 4 _ rfl, (HB4).cv 5 _ rfl, (HB4).cv 6 _ rfl, (HB4).cv 7 _ rfl⟩
      | exact ⟨(HA3).cv 0 _ rfl, (HA3).cv 1 _ rfl, (HA3).cv 2 _ rfl, (HA3).cv 3 _ rfl, (HA3).cv 4 _ rfl, (HA3).cv 5 _ rfl, (HA3).cv 6 _ rfl, (HA3).cv 7 _ rfl, (HB3).cv 0 _ rfl, (HB3).cv 1 _ rfl, (HB3).cv 2 _ rfl, (HB3).cv 3 _ rfl, (HB3).cv 4 _ rfl, (HB3).cv 5 _ rfl, (HB3).cv 6 _ rfl, (HB3).cv 7 _ rfl⟩
      | exact ⟨(HA2).cv 0 _ rfl, (HA2).cv 1 _ rfl, (HA2).cv 2 _ rfl, (HA2).cv 3 _ rfl, (HA2).cv 4 _ rfl, (HA2).cv 5 _ rfl, (HA2).cv 6 _ rfl, (HA2).cv 7 _ rfl, (HB2).cv 0 _ rfl, (HB2).cv 1 _ rfl, (HB2).cv 2 _ rfl, (HB2).cv 3 _ rfl, (HB2).cv 4 _ rfl, (HB2).cv 5 _ rfl, (HB2).cv 6 _ rfl, (HB2).cv 7 _ rfl⟩
      | exact ⟨(HA).cv 0 _ rfl, (HA).cv 1 _ rfl, (HA).cv 2 _ rfl, (HA).cv 3 _ rfl, (HA).cv 4 _ rfl, (HA).cv 5 _ rfl, (HA).cv 6 _ rfl, (HA).cv 7 _ rfl, (HB).cv 0 _ rfl, (HB).cv 1 _ rfl, (HB).cv 2 _ rfl, (HB).cv 3 _ rfl, (HB).cv 4 _ rfl, (HB).cv 5 _ rfl, (HB).cv 6 _ rfl, (HB).cv 7 _ rfl⟩
      | exact ⟨(HA.drew).cv 0 _ rfl, (HA.drew).cv 1 _ rfl, (HA.drew).cv 2 _ rfl, (HA.drew).cv 3 _ rfl, (HA.drew).cv 4 _ rfl, (HA.drew).cv 5 _ rfl, (HA.drew).cv 6 _ rfl, (HA.drew).cv 7 _ rfl, (HB.drew).cv 0 _ rfl, (HB.drew).cv 1 _ rfl, (HB.drew).cv 2 _ rfl, (HB.drew).cv 3 _ rfl, (HB.drew).cv 4 _ rfl, (HB.drew).cv 5 _ rfl, (HB.drew).cv 6 _ rfl, (HB.drew).cv 7 _ rfl⟩
      )
    (first
      | (go_at_call 13; (with_reducible refine (HN1.out _).mono ?_); rintro e w2 ⟨g2, cap2, rfl, hown2, hg2, k2⟩; have HA2 := HA.drew.kept k2; have HB2 := HB.drew.kept k2; have B2 := B1.drew.trans (k2.mono B1.drew.size))
      | (go_at_call 13; (with_reducible refine (HN2.out _).mono ?_); rintro e w3 ⟨g3, cap3, rfl, hown3, hg3, k3⟩; have HA3 := HA2.kept k3; have HB3 := HB2.kept k3; have B3 := B2.trans (k3.mono B2.size); have hI := (ints_own hown2).below hg2 k3)
      | (go_at_call 12; (with_reducible refine (first_n8 g2 g3 cap2 cap3 l m _ hl1 hl2 hI (ints_own hown3) (Nat.lt_of_lt_of_le hg2 k3.size) hg3).mono ?_); rintro e w4 ⟨rfl, k4⟩; have HA4 := HA3.kept k4; have HB4 := HB3.kept k4; have B4 := B3.trans (k4.mono B3.size)))
  all_goals (
    go_wp2
    go_ret
    exact ⟨rfl, B4⟩)

set_option maxHeartbeats 6400000 in
theorem refBetter_any (a b : Ve) (ha : byV a) (hb : byV b) (w : World) :
    Calls Try.prog 8 #[.agg (veC a), .agg (veC b)] w fun e w' => e = .returned (.bool (bettV a b)) ∧ Below w.heap.size w w' := by
  obtain ⟨HA, HB, B1⟩ := two_blks w 29 29 (veC a) (veC b)
  have HN1 := Lib.hid (fun W => line_any W.heap.size a ha W (Nat.le_refl _))
  have HN2 := Lib.hid (fun W => line_any W.heap.size b hb W (Nat.le_refl _))
  have hl1 : (lineV a).length = 21 := rfl
  have hl2 : (lineV b).length = 21 := rfl
  unfold bettV
  generalize lineV a = l at *
  generalize lineV b = m at *
  go_enter Try.func8, Try.ntmps8
  go_upto_region 1 with (fail)
  generalize (w.alloc (.cells (veC a) 29)).alloc (.cells (veC b) 29) = w1 at *
  refine wp_region_noPanic ?_
  refine wp_region_held_drew (S := (fun w' => Blk w' w.heap.size 29 (veC a) ∧ Blk w' (w.heap.size + 1) 29 (veC b))) (by kernel_rfl) ?_ (fun hHeld => ?_)
  · exact ⟨HA, HB⟩
  refine wpAnyH_take (i := 0) (v := .agg (veC a)) rfl (by kernel_rfl) (by kernel_rfl) (by kernel_rfl) (fun _ _ _ h => h) (Or.inl ⟨by rfl, fun w hSw => exec_load_blk (k := 0) 29 (veC a) rfl rfl hSw.1 (by kernel_rfl) (by kernel_rfl) rfl⟩) (by assumption) ?_
  (try simp only [Act.put, List.getElem_toArray, List.getElem_cons_zero, List.getElem_cons_succ, List.setIfInBounds_toArray, List.set_cons_zero, List.set_cons_succ])
  refine wpAnyH_take (i := 2) (v := .agg (veC b)) rfl (by kernel_rfl) (by kernel_rfl) (by kernel_rfl) (fun _ _ _ h => h) (Or.inl ⟨by rfl, fun w hSw => exec_load_blk (k := 0) 29 (veC b) rfl rfl hSw.2 (by kernel_rfl) (by kernel_rfl) rfl⟩) (by assumption) ?_
  (try simp only [Act.put, List.getElem_toArray, List.getElem_cons_zero, List.getElem_cons_succ, List.setIfInBounds_toArray, List.set_cons_zero, List.set_cons_succ])
  refine wpAnyH_ready (rs := [1]) (by kernel_rfl) (by simp) ?_
  refine AllReadyH.cons rfl (fun K hK => ?_) AllReadyH.nil
  simp only [List.getElem_toArray, List.getElem_cons_zero, List.getElem_cons_succ]
  go_simp
  refine (HN1.out _).mono ?_
  rintro e w2 ⟨g2, cap2, rfl, hown2, hg2, k2⟩
  have HA2 := HA.drew.kept k2
  have HB2 := HB.drew.kept k2
  have B2 := B1.drew.trans (k2.mono B1.drew.size)
  refine hK.out _ _ ?_ (fun hHeld => ?_)
  · exact ⟨HA2, HB2⟩
  clear hK K
  (try simp only [Act.put, List.getElem_toArray, List.getElem_cons_zero, List.getElem_cons_succ, List.setIfInBounds_toArray, List.set_cons_zero, List.set_cons_succ])
  refine wpAnyH_ready (rs := [3]) (by kernel_rfl) (by simp) ?_
  refine AllReadyH.cons rfl (fun K hK => ?_) AllReadyH.nil
  simp only [List.getElem_toArray, List.getElem_cons_zero, List.getElem_cons_succ]
  go_simp
  refine (HN2.out _).mono ?_
  rintro e w3 ⟨g3, cap3, rfl, hown3, hg3, k3⟩
  have HA3 := HA2.kept k3
  have HB3 := HB2.kept k3
  have B3 := B2.trans (k3.mono B2.size)
  have hI := (ints_own hown2).below hg2 k3
  refine hK.out _ _ ?_ (fun hHeld => ?_)
  · exact ⟨HA3, HB3⟩
  clear hK K
  (try simp only [Act.put, List.getElem_toArray, List.getElem_cons_zero, List.getElem_cons_succ, List.setIfInBounds_toArray, List.set_cons_zero, List.set_cons_succ])
  refine wpAnyH_ready (rs := [4]) (by kernel_rfl) (by simp) ?_
  refine AllReadyH.cons rfl (fun K hK => ?_) AllReadyH.nil
  simp only [List.getElem_toArray, List.getElem_cons_zero, List.getElem_cons_succ]
  go_simp
  refine (first_n21 g2 g3 cap2 cap3 l m _ hl1 hl2 hI (ints_own hown3) (Nat.lt_of_lt_of_le hg2 k3.size) hg3).mono ?_
  rintro e w4 ⟨rfl, k4⟩
  have HA4 := HA3.kept k4
  have HB4 := HB3.kept k4
  have B4 := B3.trans (k4.mono B3.size)
  refine hK.out _ _ ?_ (fun hHeld => ?_)
  · exact ⟨HA4, HB4⟩
  clear hK K
  (try simp only [Act.put, List.getElem_toArray, List.getElem_cons_zero, List.getElem_cons_succ, List.setIfInBounds_toArray, List.set_cons_zero, List.set_cons_succ])
  refine wpAnyH_take (i := 5) (v := ?_) rfl (by kernel_rfl) (by kernel_rfl) (by kernel_rfl) (fun _ _ _ h => h) (Or.inl ⟨by rfl, ?_⟩) (by assumption) ?_
  rotate_left
  · (intro w hSw; (try dsimp only at hSw); go_simp; (try with_reducible rfl))
  (try simp only [Act.put, List.getElem_toArray, List.getElem_cons_zero, List.getElem_cons_succ, List.setIfInBounds_toArray, List.set_cons_zero, List.set_cons_succ])
  refine wpAnyH_take (i := 6) (v := ?_) rfl (by kernel_rfl) (by kernel_rfl) (by kernel_rfl) (fun _ _ _ h => h) (Or.inl ⟨by rfl, ?_⟩) (by assumption) ?_
  rotate_left
  · (intro w hSw; (try dsimp only at hSw); go_simp; (try with_reducible rfl))
  (try simp only [Act.put, List.getElem_toArray, List.getElem_cons_zero, List.getElem_cons_succ, List.setIfInBounds_toArray, List.set_cons_zero, List.set_cons_succ])
  refine wpAnyH_done (by kernel_rfl) ?_ _
  refine NoPanic.normal ?_
  go_wp2
  go_ret
  exact ⟨rfl, B4⟩

end Go.Proofs.Ytceiiolpggolbaa
