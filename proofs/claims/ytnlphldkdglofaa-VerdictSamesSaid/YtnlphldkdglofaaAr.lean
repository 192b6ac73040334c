/- A message of chapter 6, plainly; its cells; two of them held against each other; arp.Right. -/
import Derived.Test.YtnlphldkdglofaaBlk
import Derived.Test.YtnlphldkdglofaaBy
namespace Go.Proofs.Ytnlphldkdglofaa
open Go.RowKit
attribute [local go_sem ↓] Go.wp_at_zero Go.wp_at_succ
set_option linter.unusedSimpArgs false
set_option linter.unusedVariables false
set_option maxRecDepth 100000

structure Ar where
  op : Int
  sha : Nat → Nat
  tha : Nat → Nat
  spa : Nat → Nat
  tpa : Nat → Nat

def arC (a : Ar) : Array Value := #[.int .i64 a.op, .int .u8 (a.sha 0), .int .u8 (a.sha 1), .int .u8 (a.sha 2), .int .u8 (a.sha 3), .int .u8 (a.sha 4), .int .u8 (a.sha 5), .int .u8 (a.tha 0), .int .u8 (a.tha 1), .int .u8 (a.tha 2), .int .u8 (a.tha 3), .int .u8 (a.tha 4), .int .u8 (a.tha 5),
  .int .u8 (a.spa 0), .int .u8 (a.spa 1), .int .u8 (a.spa 2), .int .u8 (a.spa 3), .int .u8 (a.tpa 0), .int .u8 (a.tpa 1), .int .u8 (a.tpa 2), .int .u8 (a.tpa 3)]

def zAr : Ar := ⟨0, z6, z6, z6, z6⟩

/-- Bytes they are. -/
structure ArB (a : Ar) : Prop where
  sha : ∀ i, a.sha i < 256
  tha : ∀ i, a.tha i < 256
  spa : ∀ i, a.spa i < 256
  tpa : ∀ i, a.tpa i < 256

theorem Try.arZero : (Try.prog.info? 30).map (·.zero) = some (some (.agg (arC zAr))) := by kernel_rfl

theorem Try.arGuard : Try.prog.eqGuardType Try.prog.depth 30 = false := by kernel_rfl

theorem Try.addrGuard : Try.prog.eqGuardType Try.prog.depth 24 = false := by kernel_rfl

theorem Try.fourGuard : Try.prog.eqGuardType Try.prog.depth 28 = false := by kernel_rfl

def eqAr (a b : Ar) : Bool := (a.op == b.op) && (eqN 6 a.sha b.sha && (eqN 6 a.tha b.tha && (eqN 4 a.spa b.spa && eqN 4 a.tpa b.tpa)))

theorem eqAr_refl (a : Ar) : eqAr a a = true := by simp [eqAr, eqN_refl]

theorem run_eql_ar (a b : Ar) (w : World) : (Op.equalIn 10000 30 (.agg (arC a)) (.agg (arC b))).run Try.prog w = .ok (eqAr a b) w := by
  have hs : Try.prog.stoodInHeld 30 = false := by kernel_rfl
  have hu : Try.prog.underlying 30 = some (.struct (Try.prog.fieldsOf 30)) := by kernel_rfl
  have hf : (Try.prog.fieldsOf 30).toList.map (fun f => (f.name == "_", f.type, f.offset)) = [(false, 3, 0), (false, 24, 1), (false, 24, 7), (false, 28, 13), (false, 28, 17)] := by kernel_rfl
  rw [run_equalIn_agg w 9999 30 _ _ hu hs]
  obtain ⟨f0, l0, h0, g0, hf⟩ := List.map_eq_cons_iff.1 hf
  obtain ⟨f1, l1, rfl, g1, hf⟩ := List.map_eq_cons_iff.1 hf
  obtain ⟨f2, l2, rfl, g2, hf⟩ := List.map_eq_cons_iff.1 hf
  obtain ⟨f3, l3, rfl, g3, hf⟩ := List.map_eq_cons_iff.1 hf
  obtain ⟨f4, l4, rfl, g4, hf⟩ := List.map_eq_cons_iff.1 hf
  obtain rfl := List.map_eq_nil_iff.1 hf
  rw [h0]
  have e0 := run_equalIn_int w 9998 3 .i64 .i64 a.op b.op Try.underlying3
  have e1 := run_eql_c6 9997 a.sha b.sha w
  have e2 := run_eql_c6 9997 a.tha b.tha w
  have e3 := run_eql_c4 9997 a.spa b.spa w
  have e4 := run_eql_c4 9997 a.tpa b.tpa w
  have h := run_eqFields_cons w 9999 (arC a) (arC b) f0 _ _ _ _ _ _ _ g0 (run_part_one w _ _ 0 _ (by kernel_rfl) rfl) (run_part_one w _ _ 0 _ (by kernel_rfl) rfl) e0
    (run_eqFields_cons w 9999 (arC a) (arC b) f1 _ _ _ _ _ _ _ g1 (run_part_agg w _ _ 1 6 (c6 a.sha) (by kernel_rfl) (by kernel_rfl) rfl) (run_part_agg w _ _ 1 6 (c6 b.sha) (by kernel_rfl) (by kernel_rfl) rfl) e1
    (run_eqFields_cons w 9999 (arC a) (arC b) f2 _ _ _ _ _ _ _ g2 (run_part_agg w _ _ 7 6 (c6 a.tha) (by kernel_rfl) (by kernel_rfl) rfl) (run_part_agg w _ _ 7 6 (c6 b.tha) (by kernel_rfl) (by kernel_rfl) rfl) e2
    (run_eqFields_cons w 9999 (arC a) (arC b) f3 _ _ _ _ _ _ _ g3 (run_part_agg w _ _ 13 4 (c4 a.spa) (by kernel_rfl) (by kernel_rfl) rfl) (run_part_agg w _ _ 13 4 (c4 b.spa) (by kernel_rfl) (by kernel_rfl) rfl) e3
    (run_eqFields_cons w 9999 (arC a) (arC b) f4 _ _ _ _ _ _ _ g4 (run_part_agg w _ _ 17 4 (c4 a.tpa) (by kernel_rfl) (by kernel_rfl) rfl) (run_part_agg w _ _ 17 4 (c4 b.tpa) (by kernel_rfl) (by kernel_rfl) rfl) e4
    (run_eqFields_nil w 9999 _ _)))))
  rw [Bool.and_true] at h
  exact h

def arRight (a : Ar) : Bool := (a.op == 1) || (a.op == 2)



end Go.Proofs.Ytnlphldkdglofaa
