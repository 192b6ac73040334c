/- The reference's MvrpWrite: the bytes, or what is wrong first. -/
import Derived.Test.YtikjpcnfldkifaaDoorRefMvWrite
namespace Go.Proofs.YtikjpcnfldkifaaDoor
open Go.RowKit
attribute [local go_sem ↓] Go.wp_at_zero Go.wp_at_succ
set_option linter.unusedSimpArgs false
set_option linter.unusedVariables false
set_option maxRecDepth 100000

theorem bareFt_any (w : World) : Calls Tryd.prog 36 #[.int .i64 4] w fun e w' => e = .returned (.agg (ftC 4 (-1))) ∧ Below w.heap.size w w' := by
  have HZ := Blk.new w 26 (ftC 0 0)
  have hb0 : Below w.heap.size w (w.alloc (.cells (ftC 0 0) 26)) := (Below.refl _ _).alloc (Nat.le_refl _) _
  go_enter Tryd.func36, Tryd.ntmps36
  go_wp2_with (first | (refine alloc_blk 26 (ftC 0 0) (by rfl) rfl Tryd.ftZero ?_) | (refine build_blk (t := 26) (ftC 4 (-1)) (by rfl) rfl (by kernel_rfl) ?_) | (refine store_blk (k := 0) 26 (.agg (ftC 4 (-1))) (ftC 4 (-1)) (by rfl) rfl rfl rfl HZ (by kernel_rfl) (by exact Nat.le_refl 2) rfl rfl (fun w2 H2 b2 g2 => ?_)))
  exact bodyPost_ret (results_blk rfl rfl H2 (by kernel_rfl) (by kernel_rfl)) rfl ⟨rfl, hb0.trans b2⟩

theorem refMvWrite_long (a : Option Addr) (c : Nat) (n : Nat) (hn : 40 < n) (w : World) :
    Calls Tryd.prog 12 #[.slice a n c] w fun e w' => e = .returned (.tuple #[.string ⟨#[]⟩, .agg (ftC 4 (-1))]) ∧ Below w.heap.size w w' := by
  have q1 : (40 : Int) < (n : Int) := by omega
  have q2 : decide ((40 : Int) < (n : Int)) = true := decide_eq_true q1
  have HZ := Blk.new w 26 (ftC 0 0)
  have B0 : Below w.heap.size w (w.alloc (.cells (ftC 0 0) 26)) := (Below.refl _ _).alloc (Nat.le_refl _) _
  go_enter Tryd.func12, Tryd.ntmps12
  go_upto_region 2 with (refine alloc_blk 26 (ftC 0 0) (by rfl) rfl Tryd.ftZero ?_)
  generalize w.alloc (.cells (ftC 0 0) 26) = w1 at *
  go_wp2_with fail
  refine (bareFt_any _).mono ?_
  rintro e w6 ⟨rfl, b6⟩
  have HZ6 := HZ.kept b6
  have B6 := B0.trans (b6.mono B0.size)
  go_wp2_with (refine store_blk (k := 0) 26 (.agg (ftC 4 (-1))) (ftC 4 (-1)) (by rfl) rfl rfl rfl HZ6 (by kernel_rfl) (by exact Nat.le_refl 2) rfl rfl (fun w7 H7 b7 g7 => ?_))
  exact bodyPost_ret (results_tmp_blkM rfl rfl H7 (by kernel_rfl) (by kernel_rfl)) rfl ⟨rfl, B6.trans (b7.mono (Nat.le_refl _))⟩

theorem refMvWrite_nil (a : Option Addr) (c : Nat) (w : World) :
    Calls Tryd.prog 12 #[.slice a 0 c] w fun e w' => e = .returned (.tuple #[.string ⟨#[0, 0, 0]⟩, .agg (ftC 0 (-1))]) ∧ Below w.heap.size w w' := by
  have HZ := Blk.new w 26 (ftC 0 0)
  have B0 : Below w.heap.size w (w.alloc (.cells (ftC 0 0) 26)) := (Below.refl _ _).alloc (Nat.le_refl _) _
  go_enter Tryd.func12, Tryd.ntmps12
  go_upto_region 2 with (refine alloc_blk 26 (ftC 0 0) (by rfl) rfl Tryd.ftZero ?_)
  generalize w.alloc (.cells (ftC 0 0) 26) = w1 at *
  go_wp2_with fail
  go_loopw [4, 22] (fun v i wr => i = .int .i64 (0 : Int) ∧ v = .string ⟨#[0]⟩ ∧ wr = w1) (fun _ i _ => 0)
  case atStart => exact ⟨rfl, rfl, rfl⟩
  case round =>
    obtain ⟨rfl, rfl, hw⟩ := hrel
    subst hw
    go_wp2_with fail
    refine (good_any _).mono ?_
    rintro e w6 ⟨rfl, b6⟩
    have HZ6 := HZ.kept b6
    have B6 := B0.trans (b6.mono B0.size)
    go_wp2_with (refine store_blk (k := 0) 26 (.agg (ftC 0 (-1))) (ftC 0 (-1)) (by rfl) rfl rfl rfl HZ6 (by kernel_rfl) (by exact Nat.le_refl 2) rfl rfl (fun w7 H7 b7 g7 => ?_))
    exact bodyPost_ret (results_tmp_blkM rfl rfl H7 (by kernel_rfl) (by kernel_rfl)) rfl ⟨rfl, B6.trans (b7.mono (Nat.le_refl _))⟩

theorem refMvWrite_any (a : Option Addr) (c : Nat) (hs : List MvH) (w : World) (h : MvsIn w a hs) (hr : ∀ x ∈ hs, i64R x.x.first) :
    Calls Tryd.prog 12 #[.slice a hs.length c] w fun e w' => e = .returned (.tuple #[.string ⟨(mvX (xs hs)).toArray⟩, .agg (ftC (mvE (xs hs)).1 (mvE (xs hs)).2)]) ∧ Below w.heap.size w w' := by
  by_cases h1 : 40 < hs.length
  · have e1 := mvE_long (l := xs hs) (by rw [xs_len]; exact h1)
    rw [mvX_bad e1 (by decide), e1]
    exact refMvWrite_long a c hs.length h1 w
  · by_cases h0 : hs = []
    · subst h0
      exact refMvWrite_nil a c w
    · have hlo := List.length_pos_iff.2 h0
      have hne : xs hs ≠ [] := by simpa [xs] using h0
      have hr' : ∀ (k : Nat) (hk : k < hs.length), i64R hs[k].x.first := fun k hk => hr _ (List.getElem_mem hk)
      rcases mv_or (xs hs) with ha | ⟨k, hk, hb, ha⟩
      · have e1 := mvE_ok (l := xs hs) (by rw [xs_len]; exact h1) ha
        rw [mvX_ok e1, e1]
        have eW : mvW (xs hs) = [0, 1, 2] ++ attrsW (xs hs) ++ [0, 0, 0, 0] := by unfold mvW; rw [if_neg hne, List.append_assoc]
        rw [eW]
        exact refMvWrite_some a c hs hs.length (Nat.le_refl _) hlo h1 (fun k hk _ => ha _ (List.mem_map.2 ⟨hs[k], List.getElem_mem hk, rfl⟩)) hr' _ 0 (-1) (Or.inl ⟨rfl, rfl, rfl, rfl⟩) w h
      · have e1 := mvE_bad (l := xs hs) (by rw [xs_len]; exact h1) hk hb ha
        rw [mvX_bad e1 (by decide), e1]
        rw [xs_len] at hk
        rw [xs_get hs k hk] at hb
        exact refMvWrite_some a c hs k (Nat.le_of_lt hk) hlo h1 (fun j hj hjk => ha _ (by
          rw [← xs_take]
          exact List.mem_map.2 ⟨hs[j], List.mem_take_iff_getElem.2 ⟨j, by omega, rfl⟩, rfl⟩)) hr' [] 1 k (Or.inr ⟨hk, hb, rfl, rfl, rfl⟩) w h

end Go.Proofs.YtikjpcnfldkifaaDoor
