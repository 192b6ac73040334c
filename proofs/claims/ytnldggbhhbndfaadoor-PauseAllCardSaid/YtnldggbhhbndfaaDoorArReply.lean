/- arp.Reply at every message. -/
import Derived.Test.YtnldggbhhbndfaaDoorBlk
import Derived.Test.YtnldggbhhbndfaaDoorAr
namespace Go.Proofs.YtnldggbhhbndfaaDoor
open Go.RowKit
attribute [local go_sem ↓] Go.wp_at_zero Go.wp_at_succ
set_option linter.unusedSimpArgs false
set_option linter.unusedVariables false
set_option maxRecDepth 100000

def arReply (a : Ar) (m : Nat → Nat) : Ar := ⟨2, m, a.sha, a.tpa, a.spa⟩

theorem arReply_no (a : Ar) (m : Nat → Nat) (w : World) (ho : a.op ≠ 1) : Calls Tryd.prog 13 #[.agg (arC a), .agg (c6 m)] w fun e w' => e = .returned (.tuple #[.agg (arC zAr), .iface 27 (.int .i64 6)]) ∧ Below w.heap.size w w' := by
  have hb0 : Below w.heap.size w (((w.alloc (.cells (arC a) 26)).alloc (.cells (c6 m) 23)).alloc (.cells (arC zAr) 26)) := (((Below.refl _ _).alloc (Nat.le_refl _) _).alloc (by simp) _).alloc (by simp; omega) _
  have HA := ((Blk.new w 26 (arC a)).alloc (.cells (c6 m) 23)).alloc (.cells (arC zAr) 26)
  have HR : Blk (((w.alloc (.cells (arC a) 26)).alloc (.cells (c6 m) 23)).alloc (.cells (arC zAr) 26)) (w.heap.size + 2) 26 (arC zAr) := by
    have h := Blk.new ((w.alloc (.cells (arC a) 26)).alloc (.cells (c6 m) 23)) 26 (arC zAr)
    simpa using h
  have h1 : (a.op != 1) = true := by simp [ho]
  clear ho
  go_enter Tryd.func13, Tryd.ntmps13
  go_upto_region 1 with (refine alloc_blk 26 (arC zAr) (by rfl) rfl Tryd.arZero ?_)
  generalize ((w.alloc (.cells (arC a) 26)).alloc (.cells (c6 m) 23)).alloc (.cells (arC zAr) 26) = w1 at *
  have c0 := HA.cv 0 (.int .i64 a.op) rfl
  go_wp2_with (first | (refine build_blk (t := 26) (arC zAr) (by rfl) rfl (by kernel_rfl) ?_) | (refine store_blk 26 (.agg (arC zAr)) (arC zAr) (by rfl) rfl rfl rfl HR (by kernel_rfl) (by exact Nat.le_refl 21) rfl rfl (fun w2 HR2 B2 G2 => ?_)))
  exact bodyPost_ret (results_blk_tmp rfl rfl HR2 (by kernel_rfl) (by kernel_rfl)) rfl ⟨rfl, hb0.trans (B2.mono (by omega))⟩

theorem arReply_yes (a : Ar) (m : Nat → Nat) (w : World) (ho : a.op = 1) : Calls Tryd.prog 13 #[.agg (arC a), .agg (c6 m)] w fun e w' => e = .returned (.tuple #[.agg (arC (arReply a m)), .nilIface]) ∧ Below w.heap.size w w' := by
  have hb0 : Below w.heap.size w (((w.alloc (.cells (arC a) 26)).alloc (.cells (c6 m) 23)).alloc (.cells (arC zAr) 26)) := (((Below.refl _ _).alloc (Nat.le_refl _) _).alloc (by simp) _).alloc (by simp; omega) _
  have HA := ((Blk.new w 26 (arC a)).alloc (.cells (c6 m) 23)).alloc (.cells (arC zAr) 26)
  have HM : Blk (((w.alloc (.cells (arC a) 26)).alloc (.cells (c6 m) 23)).alloc (.cells (arC zAr) 26)) (w.heap.size + 1) 23 (c6 m) := by
    have h := (Blk.new (w.alloc (.cells (arC a) 26)) 23 (c6 m)).alloc (.cells (arC zAr) 26)
    simpa using h
  have HR : Blk (((w.alloc (.cells (arC a) 26)).alloc (.cells (c6 m) 23)).alloc (.cells (arC zAr) 26)) (w.heap.size + 2) 26 (arC zAr) := by
    have h := Blk.new ((w.alloc (.cells (arC a) 26)).alloc (.cells (c6 m) 23)) 26 (arC zAr)
    simpa using h
  have h1 : (a.op != 1) = false := by simp [ho]
  clear ho
  go_enter Tryd.func13, Tryd.ntmps13
  go_upto_region 1 with (refine alloc_blk 26 (arC zAr) (by rfl) rfl Tryd.arZero ?_)
  generalize ((w.alloc (.cells (arC a) 26)).alloc (.cells (c6 m) 23)).alloc (.cells (arC zAr) 26) = w1 at *
  have c0 := HA.cv 0 (.int .i64 a.op) rfl
  go_wp2_with (first
    | (refine load_blk (k := 0) 23 (c6 m) (by rfl) rfl rfl HM (by kernel_rfl) (by kernel_rfl) rfl ?_)
    | (refine load_blk (k := 1) 23 (c6 a.sha) (by rfl) rfl rfl HA (by kernel_rfl) (by kernel_rfl) rfl ?_)
    | (refine load_blk (k := 13) 24 (c4 a.spa) (by rfl) rfl rfl HA (by kernel_rfl) (by kernel_rfl) rfl ?_)
    | (refine load_blk (k := 17) 24 (c4 a.tpa) (by rfl) rfl rfl HA (by kernel_rfl) (by kernel_rfl) rfl ?_)
    | (refine build_blk (t := 26) (arC (arReply a m)) (by rfl) rfl (by kernel_rfl) ?_)
    | (refine store_blk 26 (.agg (arC (arReply a m))) (arC (arReply a m)) (by rfl) rfl rfl rfl HR (by kernel_rfl) (by exact Nat.le_refl 21) rfl rfl (fun w2 HR2 B2 G2 => ?_)))
  exact bodyPost_ret (results_blk_tmp rfl rfl HR2 (by kernel_rfl) (by kernel_rfl)) rfl ⟨rfl, hb0.trans (B2.mono (by omega))⟩

end Go.Proofs.YtnldggbhhbndfaaDoor
