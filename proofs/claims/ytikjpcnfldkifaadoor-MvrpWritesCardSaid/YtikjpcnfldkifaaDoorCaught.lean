/- The reference's Fault; what was thrown is caught. -/
import Derived.Test.YtikjpcnfldkifaaDoorCur
import Derived.Defers
import Derived.Recover
namespace Go.Proofs.YtikjpcnfldkifaaDoor
open Go.RowKit
attribute [local go_sem ↓] Go.wp_at_zero Go.wp_at_succ
set_option linter.unusedSimpArgs false
set_option linter.unusedVariables false
set_option maxRecDepth 100000

/-- A Fault's cells. -/
def ftC (e pl : Int) : Array Value := #[.int .i64 e, .int .i64 pl]

theorem Tryd.ftZero : (Tryd.prog.info? 26).map (·.zero) = some (some (.agg (ftC 0 0))) := by kernel_rfl

theorem good_any (w : World) : Calls Tryd.prog 38 #[] w fun e w' => e = .returned (.agg (ftC 0 (-1))) ∧ Below w.heap.size w w' := by
  have HZ := Blk.new w 26 (ftC 0 0)
  have hb0 : Below w.heap.size w (w.alloc (.cells (ftC 0 0) 26)) := (Below.refl _ _).alloc (Nat.le_refl _) _
  go_enter Tryd.func38, Tryd.ntmps38
  go_wp2_with (first | (refine alloc_blk 26 (ftC 0 0) (by rfl) rfl Tryd.ftZero ?_) | (refine build_blk (t := 26) (ftC 0 (-1)) (by rfl) rfl (by kernel_rfl) ?_) | (refine store_blk (k := 0) 26 (.agg (ftC 0 (-1))) (ftC 0 (-1)) (by rfl) rfl rfl rfl HZ (by kernel_rfl) (by exact Nat.le_refl 2) rfl rfl (fun w2 H2 b2 g2 => ?_)))
  exact bodyPost_ret (results_blk rfl rfl H2 (by kernel_rfl) (by kernel_rfl)) rfl ⟨rfl, hb0.trans b2⟩

theorem is_any (e pl : Int) (w : World) : Calls Tryd.prog 47 #[.agg (ftC e pl)] w fun r w' => r = .returned (.bool (e == 0)) ∧ Below w.heap.size w w' := by
  have hb0 : Below w.heap.size w (w.alloc (.cells (ftC e pl) 26)) := (Below.refl _ _).alloc (Nat.le_refl _) _
  unfold ftC at *
  go_enter Tryd.func47, Tryd.ntmps47
  go_wp2
  go_ret
  exact ⟨rfl, hb0⟩

theorem Tryd.isThrown (v : Value) (w : World) : (Instr.typeAssert (.iface 177 v) 20 177 true).run Tryd.prog w = .ok (.tuple #[v, .bool true]) w := by kernel_rfl

theorem Tryd.thZero : (Tryd.prog.info? 177).map (·.zero) = some (some (.agg (ftC 0 0))) := by kernel_rfl

/-- The rest of a deferred call, where nothing more is recovered: its post behind a name. -/
theorem wpS_rest {P : Program} {c : Code} {Q : Exit → Act → List Frame → World → Prop} {a : Act} {cs : List Frame} {w : World} (T : Array Value) (hT : a = { tmps := T, defers := [] }) (h : ∀ Q' : Exit → Act → World → Prop, Hid (∀ e a' w', Q e a' cs w' → Q' e a' w') → c.wp P Q' { tmps := T, defers := [] } w) : c.wpS P Q a cs w := by
  subst hT
  exact wpS_of_wp (h _ (Lib.hid fun _ _ _ x => x))

/-- caught, where nothing was thrown. -/
theorem caught_idle (p : Addr) (w : World) :
    CallsD Tryd.prog 48 #[.pointer (some p)] .returning w fun e u' w' => e = .returned (.tuple #[]) ∧ u' = .returning ∧ w' = w := by
  have hnn : ∀ w : World, (binOp BinOp.neq 20 .nilIface .nilIface).run Tryd.prog w = .ok (.bool false) w := fun _ => by kernel_rfl
  refine callsD_of_wpS Tryd.func48 rfl fun c₀ cs hu => ?_
  apply wpS_seq
  apply wpS_region
  simp [wpOpsS, go_sem, recoverD, hu, Tryd.ntmps48, Exit.thenS]
  refine wpS_rest #[.pointer (some p), undef, .nilIface, undef, undef, .nilIface, undef, undef, undef, undef, undef, undef, undef, undef, undef, undef, undef, undef, undef, undef] (by kernel_rfl) fun Q' hQ' => ?_
  go_wp2
  refine hQ'.out _ _ _ ?_
  cases c₀
  simp_all [bodyPostS, results, Tryd.results48]

/-- caught, where something was thrown: it is laid. -/
theorem caught_thrown (B : Nat) (e0 pl0 e pl : Int) (older : List PanicEntry) (w : World) (hB : Blk w B 26 (ftC e0 pl0)) :
    CallsD Tryd.prog 48 #[.pointer (some ⟨B, 0, none⟩)] (.panicking ({ v := Thr e pl, recovered := false } :: older)) w fun r u' w' => r = .returned (.tuple #[]) ∧ u' = .panicking ({ v := Thr e pl, recovered := true } :: older) ∧ Blk w' B 26 (ftC e pl) ∧ w.grownBy w' (some B) := by
  have hta := Tryd.isThrown
  have hnn : ∀ w : World, (binOp BinOp.neq 20 (.iface 177 (.agg #[.int .i64 e, .int .i64 pl])) .nilIface).run Tryd.prog w = .ok (.bool true) w := fun _ => by kernel_rfl
  have HB2 := hB.alloc (.cells (ftC 0 0) 177)
  have HT := Blk.new w 177 (ftC 0 0)
  have hg0 := World.grownBy_alloc w (.cells (ftC 0 0) 177) (some B)
  have hlt := hB.lt
  refine callsD_of_wpS Tryd.func48 rfl fun c₀ cs hu => ?_
  unfold Thr at *
  apply wpS_seq
  apply wpS_region
  simp [wpOpsS, go_sem, recoverD, hu, Tryd.ntmps48, Exit.thenS]
  refine wpS_rest #[.pointer (some ⟨B, 0, none⟩), undef, .iface 177 (.agg #[.int .i64 e, .int .i64 pl]), undef, undef, .iface 177 (.agg #[.int .i64 e, .int .i64 pl]), undef, undef, undef, undef, undef, undef, undef, undef, undef, undef, undef, undef, undef, undef] (by kernel_rfl) fun Q' hQ' => ?_
  go_upto_region 5 with (first | (refine alloc_blk 177 (ftC 0 0) (by rfl) rfl Tryd.thZero ?_) | (refine store_blk (k := 0) 177 (.agg (ftC e pl)) (ftC e pl) (by rfl) rfl rfl rfl HT (by kernel_rfl) (by exact Nat.le_refl 2) rfl rfl (fun w2 HT2 b2 g2 => ?_)))
  have HB3 := HB2.grown g2 (by simp; omega)
  go_wp2_with (first | (refine load_blk (k := 0) 26 (ftC e pl) (by rfl) rfl rfl HT2 (by kernel_rfl) (by kernel_rfl) rfl ?_) | (refine store_blk (k := 0) 26 (.agg (ftC e pl)) (ftC e pl) (by rfl) rfl rfl rfl HB3 (by kernel_rfl) (by exact Nat.le_refl 2) rfl rfl (fun w3 HB4 b3 g3 => ?_)))
  have hG : w.grownBy w3 (some B) := by
    have h1 : w.grownBy w2 (some B) := ⟨g2.os, g2.tape, g2.output, Nat.le_trans hg0.size g2.size, fun k hk hne => (g2.block k (by simp; omega) (by simp; omega)).trans (hg0.block k hk hne)⟩
    exact grownBy_trans h1 g3
  refine hQ'.out _ _ _ ?_
  cases c₀
  simp_all [bodyPostS, results, Tryd.results48]

end Go.Proofs.YtikjpcnfldkifaaDoor
