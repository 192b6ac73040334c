/- bpdu.Write at every BPDU. -/
import Derived.Test.YtgikembnkbpjpaaDoorBpBodyL
import Derived.Laws.Concat
namespace Go.Proofs.YtgikembnkbpjpaaDoor
open Go.RowKit
attribute [local go_sem ↓] Go.wp_at_zero Go.wp_at_succ
set_option linter.unusedSimpArgs false
set_option linter.unusedVariables false
set_option maxRecDepth 100000

theorem bpWrite_no (b : Bp) (h : okBp b = false) (hr : rgBp b) (w : World) :
    Calls Tryd.prog 8 #[.agg (bpC b)] w fun e w' => e = .returned (.tuple #[.string ⟨#[]⟩, .iface 32 (.int .i64 1)]) ∧ Below w.heap.size w w' := by
  have HA := Blk.new w 31 (bpC b)
  have B0 : Below w.heap.size w (w.alloc (.cells (bpC b) 31)) := (Below.refl _ _).alloc (Nat.le_refl _) _
  have HR := Lib.hid (fun W => bpRight_any b hr W)
  rw [h] at HR
  go_enter Tryd.func8, Tryd.ntmps8
  go_upto_region 1 with (fail)
  generalize (w.alloc (.cells (bpC b) 31)) = w1 at *
  go_wp2_with (refine load_blk (k := 0) 31 (bpC b) (by rfl) rfl rfl HA (by kernel_rfl) (by kernel_rfl) rfl ?_)
  refine (HR.out _).mono ?_
  rintro e w2 ⟨rfl, k2⟩
  go_wp2
  go_ret2
  exact ⟨rfl, B0.trans (k2.mono B0.size)⟩

set_option maxHeartbeats 3200000 in
theorem bpWrite_yes (b : Bp) (h : okBp b = true) (hx : byBp b) (hr : rgBp b) (w : World) :
    Calls Tryd.prog 8 #[.agg (bpC b)] w fun e w' => e = .returned (.tuple #[.string ⟨(writeL b).toArray⟩, .nilIface]) ∧ Below w.heap.size w w' := by
  have HA := Blk.new w 31 (bpC b)
  have B0 : Below w.heap.size w (w.alloc (.cells (bpC b) 31)) := (Below.refl _ _).alloc (Nat.le_refl _) _
  have HR := Lib.hid (fun W => bpRight_any b hr W)
  rw [h] at HR
  have hk : b.k = 1 ∨ b.k = 2 ∨ b.k = 3 := by
    unfold okBp at h
    by_cases k1 : b.k = 1
    · exact Or.inl k1
    · by_cases k2 : b.k = 2
      · exact Or.inr (Or.inl k2)
      · by_cases k3 : b.k = 3
        · exact Or.inr (Or.inr k3)
        · rw [if_neg k1, if_neg k2, if_neg k3] at h
          cases h
  rcases hk with hk | hk | hk
  · have HB := Lib.hid (fun W => body_any b (Or.inl hk) h hx hr W)
    have HL := Lib.hid (bodyL_len b)
    have HW : Hid (writeL b = [0, 0, 0, 0] ++ bodyL b) := by show _ = _; unfold writeL; rw [if_pos hk]
    generalize bodyL b = y at *
    have hl := HL.out
    obtain ⟨z1, hz1⟩ : ∃ z, z = [0, 0, 0, 0] ++ y := ⟨_, rfl⟩
    have zl1 : z1.length = 35 := by rw [hz1, List.length_append, hl]; rfl
    have p1 : ∀ W, (Op.stringOp .add ⟨#[0, 0, 0, 0]⟩ ⟨y.toArray⟩).run Tryd.prog W = .ok (.string ⟨z1.toArray⟩) W := fun W => by rw [hz1]; exact run_string_add_lists W [0, 0, 0, 0] _ (by decide) (by omega)
    replace HW : Hid (writeL b = z1) := by show _ = _; rw [HW.out, hz1]
    clear hz1 zl1 hl HL
    have d1 : (b.k == 1) = true := by rw [hk]; rfl
    have d2 : (b.k == 2) = false := by rw [hk]; rfl
    have d3 : (b.k == 3) = false := by rw [hk]; rfl
    clear h hk
    go_enter Tryd.func8, Tryd.ntmps8
    go_upto_region 1 with (fail)
    generalize (w.alloc (.cells (bpC b) 31)) = w1 at *
    go_wp2_with (refine load_blk (k := 0) 31 (bpC b) (by rfl) rfl rfl HA (by kernel_rfl) (by kernel_rfl) rfl ?_)
    refine (HR.out _).mono ?_
    rintro e w2 ⟨rfl, k2⟩
    have HA2 := HA.kept k2
    have B2 := B0.trans (k2.mono B0.size)
    have c0 := HA2.cv 0 (.int .i64 b.k) rfl
    go_wp2_with (refine load_blk (k := 0) 31 (bpC b) (by rfl) rfl rfl HA2 (by kernel_rfl) (by kernel_rfl) rfl ?_)
    refine (HB.out _).mono ?_
    rintro e w3 ⟨rfl, k3⟩
    have B3 := B2.trans (k3.mono B2.size)
    go_wp2
    go_ret2
    exact ⟨by rw [HW.out]; rfl, B3⟩
  · have HW : Hid (writeL b = [0, 0, 0, 128]) := by show _ = _; unfold writeL; rw [if_neg (by omega), if_neg (by omega)]
    have d1 : (b.k == 1) = false := by rw [hk]; rfl
    have d2 : (b.k == 2) = true := by rw [hk]; rfl
    have d3 : (b.k == 3) = false := by rw [hk]; rfl
    clear h hk
    go_enter Tryd.func8, Tryd.ntmps8
    go_upto_region 1 with (fail)
    generalize (w.alloc (.cells (bpC b) 31)) = w1 at *
    go_wp2_with (refine load_blk (k := 0) 31 (bpC b) (by rfl) rfl rfl HA (by kernel_rfl) (by kernel_rfl) rfl ?_)
    refine (HR.out _).mono ?_
    rintro e w2 ⟨rfl, k2⟩
    have HA2 := HA.kept k2
    have B2 := B0.trans (k2.mono B0.size)
    have c0 := HA2.cv 0 (.int .i64 b.k) rfl
    go_wp2
    go_ret2
    exact ⟨by rw [HW.out]; rfl, B2⟩
  · have HB := Lib.hid (fun W => body_any b (Or.inr hk) h hx hr W)
    have HL := Lib.hid (bodyL_len b)
    have HW : Hid (writeL b = ([0, 0, 2, 2] ++ bodyL b) ++ [0]) := by show _ = _; unfold writeL; rw [if_neg (by omega), if_pos hk]; simp
    generalize bodyL b = y at *
    have hl := HL.out
    obtain ⟨z1, hz1⟩ : ∃ z, z = [0, 0, 2, 2] ++ y := ⟨_, rfl⟩
    have zl1 : z1.length = 35 := by rw [hz1, List.length_append, hl]; rfl
    have p1 : ∀ W, (Op.stringOp .add ⟨#[0, 0, 2, 2]⟩ ⟨y.toArray⟩).run Tryd.prog W = .ok (.string ⟨z1.toArray⟩) W := fun W => by rw [hz1]; exact run_string_add_lists W [0, 0, 2, 2] _ (by decide) (by omega)
    obtain ⟨z2, hz2⟩ : ∃ z, z = z1 ++ [0] := ⟨_, rfl⟩
    have p2 : ∀ W, (Op.stringOp .add ⟨z1.toArray⟩ ⟨#[0]⟩).run Tryd.prog W = .ok (.string ⟨z2.toArray⟩) W := fun W => by rw [hz2]; exact run_string_add_lists W _ [0] (by omega) (by decide)
    replace HW : Hid (writeL b = z2) := by show _ = _; rw [HW.out, hz2, hz1]
    clear hz1 hz2 zl1 hl HL
    have d1 : (b.k == 1) = false := by rw [hk]; rfl
    have d2 : (b.k == 2) = false := by rw [hk]; rfl
    have d3 : (b.k == 3) = true := by rw [hk]; rfl
    clear h hk
    go_enter Tryd.func8, Tryd.ntmps8
    go_upto_region 1 with (fail)
    generalize (w.alloc (.cells (bpC b) 31)) = w1 at *
    go_wp2_with (refine load_blk (k := 0) 31 (bpC b) (by rfl) rfl rfl HA (by kernel_rfl) (by kernel_rfl) rfl ?_)
    refine (HR.out _).mono ?_
    rintro e w2 ⟨rfl, k2⟩
    have HA2 := HA.kept k2
    have B2 := B0.trans (k2.mono B0.size)
    have c0 := HA2.cv 0 (.int .i64 b.k) rfl
    go_wp2_with (refine load_blk (k := 0) 31 (bpC b) (by rfl) rfl rfl HA2 (by kernel_rfl) (by kernel_rfl) rfl ?_)
    refine (HB.out _).mono ?_
    rintro e w3 ⟨rfl, k3⟩
    have B3 := B2.trans (k3.mono B2.size)
    go_wp2
    go_ret2
    exact ⟨by rw [HW.out]; rfl, B3⟩

end Go.Proofs.YtgikembnkbpjpaaDoor
