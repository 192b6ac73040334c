/- Comparisons of empty lists. -/
import Derived.Test.YtdjljnpbnhampaaDoorMs
import Derived.Test.YtdjljnpbnhampaaDoorBoxB
namespace Go.Proofs.YtdjljnpbnhampaaDoor
open Go.RowKit
attribute [local go_sem ↓] Go.wp_at_zero Go.wp_at_succ
set_option linter.unusedSimpArgs false
set_option linter.unusedVariables false
set_option maxRecDepth 100000

theorem eqNil_str (w : World) : Calls Tryd.prog 51 #[.slice none 0 0, .slice none 0 0] w fun e w' => e = .returned (.bool true) ∧ w = w' := by
  go_enter Tryd.func51, Tryd.ntmps51
  go_wp2_with fail
  refine wp_loop_once ?_
  go_wp2
  go_ret
  exact ⟨rfl, rfl⟩

theorem eqNil_caps (w : World) : Calls Tryd.prog 52 #[.slice none 0 0, .slice none 0 0] w fun e w' => e = .returned (.bool true) ∧ w = w' := by
  go_enter Tryd.func52, Tryd.ntmps52
  go_wp2_with fail
  refine wp_loop_once ?_
  go_wp2
  go_ret
  exact ⟨rfl, rfl⟩

theorem eqNil_man (w : World) : Calls Tryd.prog 53 #[.slice none 0 0, .slice none 0 0] w fun e w' => e = .returned (.bool true) ∧ w = w' := by
  go_enter Tryd.func53, Tryd.ntmps53
  go_wp2_with fail
  refine wp_loop_once ?_
  go_wp2
  go_ret
  exact ⟨rfl, rfl⟩

theorem eqNil_org (w : World) : Calls Tryd.prog 54 #[.slice none 0 0, .slice none 0 0] w fun e w' => e = .returned (.bool true) ∧ w = w' := by
  go_enter Tryd.func54, Tryd.ntmps54
  go_wp2_with fail
  refine wp_loop_once ?_
  go_wp2
  go_ret
  exact ⟨rfl, rfl⟩

theorem eqNil_tag (w : World) : Calls Tryd.prog 83 #[.slice none 0 0, .slice none 0 0] w fun e w' => e = .returned (.bool true) ∧ w = w' := by
  go_enter Tryd.func83, Tryd.ntmps83
  go_wp2_with fail
  refine wp_loop_once ?_
  go_wp2
  go_ret
  exact ⟨rfl, rfl⟩

theorem eqNil_attr (v : Value) (w : World) : Calls Tryd.prog 84 #[.slice none 0 0, .slice none 0 0, v] w fun e w' => e = .returned (.bool true) ∧ w = w' := by
  go_enter Tryd.func84, Tryd.ntmps84
  go_wp2_with fail
  refine wp_loop_once ?_
  go_wp2
  go_ret
  exact ⟨rfl, rfl⟩

theorem sameAttrs_nil (w : World) : Calls Tryd.prog 55 #[.slice none 0 0, .slice none 0 0] w fun e w' => e = .returned (.bool true) ∧ w = w' := by
  go_enter Tryd.func55, Tryd.ntmps55
  go_wp2_with fail
  refine (eqNil_attr _ _).mono ?_
  rintro e w1 ⟨rfl, rfl⟩
  go_wp2
  go_ret
  exact ⟨rfl, rfl⟩

/-- A frame of nothing. -/
def zFr : Array Value := #[.int .u8 0, .int .u8 0, .int .u8 0, .int .u8 0, .int .u8 0, .int .u8 0, .int .u8 0, .int .u8 0, .int .u8 0, .int .u8 0, .int .u8 0, .int .u8 0, .slice none 0 0, .int .i64 0, .int .i64 0, .int .i64 0, .int .i64 0, .int .i64 0, .int .i64 0, .int .i64 0, .string ⟨#[]⟩]

theorem addr_same0 (W : World) : (Op.equalIn 10000 25 (.agg (c6 z6)) (.agg (c6 z6))).run Tryd.prog W = .ok true W := by kernel_rfl

set_option maxHeartbeats 6400000 in
theorem frameSame_nil (w : World) : Calls Tryd.prog 49 #[.agg zFr, .agg zFr] w fun e w' => e = .returned (.bool true) ∧ Below w.heap.size w w' := by
  have hs0 := addr_same0
  go_enter Tryd.func49, Tryd.ntmps49
  go_upto_region 1 with (first
    | (refine box_blk (o := ⟨some 2, _, _, _, _, _⟩) 48 zFr (by rfl) (by rfl) rfl ?_; intro w1 HA1 B1)
    | (refine box_blk (o := ⟨some 3, _, _, _, _, _⟩) 48 zFr (by rfl) (by rfl) rfl ?_; intro w2 HB2 b2; have HA2 := HA1.kept b2; have B2 := B1.trans (b2.mono B1.size)))
  (try simp only [Act.put, List.setIfInBounds_toArray, List.set_cons_zero, List.set_cons_succ])
  have hAl := HA2.lt
  have hBl := HB2.lt
  clear HA1 B1 b2
  generalize w1.heap.size = B at *
  have L : ∀ (A : Nat), Blk w2 A 48 zFr → ∀ k v, zFr[k]? = some v → w2.cell? ⟨A, k, none⟩ = some v := fun A h k v hk => h.cv k v hk
  have p13 := L _ HA2 13 (.int .i64 0) rfl
  have p14 := L _ HA2 14 (.int .i64 0) rfl
  have p15 := L _ HA2 15 (.int .i64 0) rfl
  have p16 := L _ HA2 16 (.int .i64 0) rfl
  have p17 := L _ HA2 17 (.int .i64 0) rfl
  have p18 := L _ HA2 18 (.int .i64 0) rfl
  have p19 := L _ HA2 19 (.int .i64 0) rfl
  have p20 := L _ HA2 20 (.string ⟨#[]⟩) rfl
  have p12 := L _ HA2 12 (.slice none 0 0) rfl
  have q13 := L _ HB2 13 (.int .i64 0) rfl
  have q14 := L _ HB2 14 (.int .i64 0) rfl
  have q15 := L _ HB2 15 (.int .i64 0) rfl
  have q16 := L _ HB2 16 (.int .i64 0) rfl
  have q17 := L _ HB2 17 (.int .i64 0) rfl
  have q18 := L _ HB2 18 (.int .i64 0) rfl
  have q19 := L _ HB2 19 (.int .i64 0) rfl
  have q20 := L _ HB2 20 (.string ⟨#[]⟩) rfl
  have q12 := L _ HB2 12 (.slice none 0 0) rfl
  clear L
  refine wp_region_lit ?_
  simp only [List.append_eq, List.cons_append, List.nil_append]
  go_wp2_with (first
    | (refine load_blk (B := w.heap.size) (k := 0) 25 (c6 z6) (by rfl) rfl rfl HA2 (by kernel_rfl) (by kernel_rfl) rfl ?_)
    | (refine load_blk (B := B) (k := 0) 25 (c6 z6) (by rfl) rfl rfl HB2 (by kernel_rfl) (by kernel_rfl) rfl ?_)
    | (refine load_blk (B := w.heap.size) (k := 6) 25 (c6 z6) (by rfl) rfl rfl HA2 (by kernel_rfl) (by kernel_rfl) rfl ?_)
    | (refine load_blk (B := B) (k := 6) 25 (c6 z6) (by rfl) rfl rfl HB2 (by kernel_rfl) (by kernel_rfl) rfl ?_))
  refine (eqNil_tag _).mono ?_
  rintro e w3 ⟨rfl, rfl⟩
  go_wp2
  go_ret
  exact ⟨rfl, B2⟩

end Go.Proofs.YtdjljnpbnhampaaDoor
