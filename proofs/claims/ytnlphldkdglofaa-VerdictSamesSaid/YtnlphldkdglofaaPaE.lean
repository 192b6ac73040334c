/- A message of chapter 7, plainly; its cells; two of them held against each other. -/
import Derived.Test.YtnlphldkdglofaaBlk
import Derived.Test.YtnlphldkdglofaaBy
namespace Go.Proofs.Ytnlphldkdglofaa
open Go.RowKit
attribute [local go_sem ↓] Go.wp_at_zero Go.wp_at_succ
set_option linter.unusedSimpArgs false
set_option linter.unusedVariables false
set_option maxRecDepth 100000

structure Pa where
  pfc : Bool
  en : Int
  t : Nat → Int

def c8 (t : Nat → Int) : Array Value := #[.int .i64 (t 0), .int .i64 (t 1), .int .i64 (t 2), .int .i64 (t 3), .int .i64 (t 4), .int .i64 (t 5), .int .i64 (t 6), .int .i64 (t 7)]

def paC (p : Pa) : Array Value := #[.bool p.pfc, .int .i64 p.en, .int .i64 (p.t 0), .int .i64 (p.t 1), .int .i64 (p.t 2), .int .i64 (p.t 3), .int .i64 (p.t 4), .int .i64 (p.t 5), .int .i64 (p.t 6), .int .i64 (p.t 7)]

def zPa : Pa := ⟨false, 0, fun _ => 0⟩

theorem Try.paZero : (Try.prog.info? 33).map (·.zero) = some (some (.agg (paC zPa))) := by kernel_rfl

theorem Try.paGuard : Try.prog.eqGuardType Try.prog.depth 33 = false := by kernel_rfl

theorem Try.intOne : Try.prog.cellsOf 3 = 1 := by kernel_rfl

theorem Try.intInfo : ∃ i, Try.prog.info? 3 = some i := Option.isSome_iff_exists.1 (by kernel_rfl)

def eq8 (x y : Nat → Int) : Bool := (List.range 8).all fun i => x i == y i

theorem eq8_refl (x : Nat → Int) : eq8 x x = true := by simp [eq8]

theorem run_eql_c8 (d : Nat) (x y : Nat → Int) (w : World) : (Op.equalIn (d + 2) 31 (.agg (c8 x)) (.agg (c8 y))).run Try.prog w = .ok (eq8 x y) w := by
  obtain ⟨i, hi⟩ := Try.intInfo
  refine run_eql_ints w d 8 31 3 .i64 .i64 i Try.underlying31 Try.underlying3 hi Try.intOne x y _ _ (fun j hj => ?_)
  have : j = 0 ∨ j = 1 ∨ j = 2 ∨ j = 3 ∨ j = 4 ∨ j = 5 ∨ j = 6 ∨ j = 7 := by omega
  rcases this with rfl | rfl | rfl | rfl | rfl | rfl | rfl | rfl <;> exact ⟨rfl, rfl⟩

def eqPa (a b : Pa) : Bool := (a.pfc == b.pfc) && ((a.en == b.en) && eq8 a.t b.t)

theorem eqPa_refl (a : Pa) : eqPa a a = true := by simp [eqPa, eq8_refl]

theorem run_eql_pa (a b : Pa) (w : World) : (Op.equalIn 10000 33 (.agg (paC a)) (.agg (paC b))).run Try.prog w = .ok (eqPa a b) w := by
  have hs : Try.prog.stoodInHeld 33 = false := by kernel_rfl
  have hu : Try.prog.underlying 33 = some (.struct (Try.prog.fieldsOf 33)) := by kernel_rfl
  have hf : (Try.prog.fieldsOf 33).toList.map (fun f => (f.name == "_", f.type, f.offset)) = [(false, 4, 0), (false, 3, 1), (false, 31, 2)] := by kernel_rfl
  rw [run_equalIn_agg w 9999 33 _ _ hu hs]
  obtain ⟨f0, l0, h0, g0, hf⟩ := List.map_eq_cons_iff.1 hf
  obtain ⟨f1, l1, rfl, g1, hf⟩ := List.map_eq_cons_iff.1 hf
  obtain ⟨f2, l2, rfl, g2, hf⟩ := List.map_eq_cons_iff.1 hf
  obtain rfl := List.map_eq_nil_iff.1 hf
  rw [h0]
  have e0 := run_equalIn_bool' w 9998 4 a.pfc b.pfc Try.underlying4
  have e1 := run_equalIn_int w 9998 3 .i64 .i64 a.en b.en Try.underlying3
  have e2 := run_eql_c8 9997 a.t b.t w
  have h := run_eqFields_cons w 9999 (paC a) (paC b) f0 _ _ _ _ _ _ _ g0 (run_part_one w _ _ 0 _ (by kernel_rfl) rfl) (run_part_one w _ _ 0 _ (by kernel_rfl) rfl) e0
    (run_eqFields_cons w 9999 (paC a) (paC b) f1 _ _ _ _ _ _ _ g1 (run_part_one w _ _ 1 _ (by kernel_rfl) rfl) (run_part_one w _ _ 1 _ (by kernel_rfl) rfl) e1
    (run_eqFields_cons w 9999 (paC a) (paC b) f2 _ _ _ _ _ _ _ g2 (run_part_agg w _ _ 2 8 (c8 a.t) (by kernel_rfl) (by kernel_rfl) rfl) (run_part_agg w _ _ 2 8 (c8 b.t) (by kernel_rfl) (by kernel_rfl) rfl) e2
    (run_eqFields_nil w 9999 _ _)))
  rw [Bool.and_true] at h
  exact h


end Go.Proofs.Ytnlphldkdglofaa
