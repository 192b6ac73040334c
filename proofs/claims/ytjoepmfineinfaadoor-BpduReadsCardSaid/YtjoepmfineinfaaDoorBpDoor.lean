/- The reference's BpduRead: its door. -/
import Derived.Test.YtjoepmfineinfaaDoorCBody
import Derived.Test.YtjoepmfineinfaaDoorCaught
namespace Go.Proofs.YtjoepmfineinfaaDoor
open Go.RowKit
attribute [local go_sem ↓] Go.wp_at_zero Go.wp_at_succ
set_option linter.unusedSimpArgs false
set_option linter.unusedVariables false
set_option maxRecDepth 100000


theorem bp_clo_ok (E A : Nat) (pl : Int) (w : World) (HE : Blk w E 29 (ftC 0 pl)) :
    CallsD Tryd.prog 50 #[.pointer (some ⟨E, 0, none⟩), .pointer (some ⟨A, 0, none⟩)] .returning w fun r u' w' => u' = .returning ∧ (r = .returned (.tuple #[]) ∧ Below w.heap.size w w') := by
  go_enter_d Tryd.func50, Tryd.ntmps50
  go_wp2_with (refine load_blk (k := 0) 29 (ftC 0 pl) (by rfl) rfl rfl HE (by kernel_rfl) (by kernel_rfl) rfl ?_)
  refine (is_any 0 pl _).mono ?_
  rintro e w2 ⟨rfl, b2⟩
  go_wp2
  go_end0
  exact ⟨rfl, b2⟩

theorem bp_clo_bad (E A : Nat) (e pl : Int) (x : Bp) (w : World) (he : e ≠ 0) (HE : Blk w E 29 (ftC e pl)) (HA : Blk w A 52 (bpC x)) (hne : A ≠ E) :
    CallsD Tryd.prog 50 #[.pointer (some ⟨E, 0, none⟩), .pointer (some ⟨A, 0, none⟩)] .returning w fun r u' w' => u' = .returning ∧ (r = .returned (.tuple #[]) ∧ Blk w' A 52 (bpC zBp) ∧ Blk w' E 29 (ftC e pl) ∧ w.grownBy w' (some A)) := by
  have h1 : (e == 0) = false := by simp [he]
  clear he
  go_enter_d Tryd.func50, Tryd.ntmps50
  go_wp2_with (refine load_blk (k := 0) 29 (ftC e pl) (by rfl) rfl rfl HE (by kernel_rfl) (by kernel_rfl) rfl ?_)
  refine (is_any e pl _).mono ?_
  rintro r w2 ⟨rfl, b2⟩
  have HA2 := HA.kept b2
  have HE2 := HE.kept b2
  have hg2 : w.grownBy w2 (some A) := ⟨b2.os, b2.tape, b2.output, b2.size, fun k hk _ => b2.block k hk⟩
  go_wp2_with (first | (refine build_blk (t := 52) (bpC zBp) (by rfl) rfl (by kernel_rfl) ?_) | (refine store_blk (k := 0) 52 (.agg (bpC zBp)) (bpC zBp) (by rfl) rfl rfl rfl HA2 (by kernel_rfl) (by exact Nat.le_refl 31) rfl rfl (fun w3 HA3 b3 g3 => ?_)))
  go_end0
  exact ⟨rfl, HA3, HE2.grown g3 (by simpa using Ne.symm hne), grownBy_trans hg2 g3⟩

/-- Behind what was thrown. -/
theorem bp_door_bad {w0 w : World} {tmps : Array Value} {A E : Nat} {x : Bp} {e0 pl0 e pl : Int} (ht2 : tmps.getD 2 undef = .pointer (some ⟨A, 0, none⟩)) (ht3 : tmps.getD 3 undef = .pointer (some ⟨E, 0, none⟩)) (he : e ≠ 0)
    (HA : Blk w A 52 (bpC x)) (HE : Blk w E 29 (ftC e0 pl0)) (hne : A ≠ E) (hA : w0.heap.size ≤ A) (hE : w0.heap.size ≤ E) (hb : Below w0.heap.size w0 w) :
    Leaves Tryd.prog Tryd.f16 tmps (fun r w' => r = .returned (.tuple #[.agg (bpC zBp), .agg (ftC e pl)]) ∧ Below w0.heap.size w0 w')
      [{ target := .fn (.func 26) #[], args := #[.pointer (some ⟨E, 0, none⟩)] }, { target := .fn (.func 50) #[.pointer (some ⟨E, 0, none⟩), .pointer (some ⟨A, 0, none⟩)], args := #[] }] (.panicking (Thrown e pl)) w := by
  refine leaves_cons (f := 26) (args := #[.pointer (some ⟨E, 0, none⟩)]) (by simp [Thrown]) (by simp [go_sem]) ?_
  refine (caught_thrown E e0 pl0 e pl [] w HE).mono ?_
  rintro r u' w2 ⟨rfl, rfl, HE2, g2⟩
  have HA2 := HA.grown g2 (by simpa using hne)
  have b2 : Below w0.heap.size w0 w2 := grown_belowA hb g2 hb.size hE
  refine leaves_cons (f := 50) (args := #[.pointer (some ⟨E, 0, none⟩), .pointer (some ⟨A, 0, none⟩)]) (by simp [settle]) (by simp [go_sem]) ?_
  refine (bp_clo_bad E A e pl x w2 he HE2 HA2 hne).mono ?_
  rintro r u' w3 ⟨rfl, rfl, HA3, HE3, g3⟩
  exact ⟨_, results_blk2 rfl ht2 ht3 HA3 HE3 (by kernel_rfl) (by kernel_rfl) (by kernel_rfl) (by kernel_rfl), rfl, grown_belowA b2 g3 b2.size hA⟩

/-- Where nothing was thrown. -/
theorem bp_door_ok {w0 w : World} {tmps : Array Value} {A E : Nat} {x : Bp} {pl : Int} (ht2 : tmps.getD 2 undef = .pointer (some ⟨A, 0, none⟩)) (ht3 : tmps.getD 3 undef = .pointer (some ⟨E, 0, none⟩))
    (HA : Blk w A 52 (bpC x)) (HE : Blk w E 29 (ftC 0 pl)) (hb : Below w0.heap.size w0 w) :
    Leaves Tryd.prog Tryd.f16 tmps (fun r w' => r = .returned (.tuple #[.agg (bpC x), .agg (ftC 0 pl)]) ∧ Below w0.heap.size w0 w')
      [{ target := .fn (.func 26) #[], args := #[.pointer (some ⟨E, 0, none⟩)] }, { target := .fn (.func 50) #[.pointer (some ⟨E, 0, none⟩), .pointer (some ⟨A, 0, none⟩)], args := #[] }] .returning w := by
  refine leaves_cons (f := 26) (args := #[.pointer (some ⟨E, 0, none⟩)]) (by simp) (by simp [go_sem]) ?_
  refine (caught_idle ⟨E, 0, none⟩ w).mono ?_
  rintro r u' w2 ⟨rfl, rfl, rfl⟩
  refine leaves_cons (f := 50) (args := #[.pointer (some ⟨E, 0, none⟩), .pointer (some ⟨A, 0, none⟩)]) (by simp [settle]) (by simp [go_sem]) ?_
  refine (bp_clo_ok E A pl w2 HE).mono ?_
  rintro r u' w3 ⟨rfl, rfl, b3⟩
  exact ⟨_, results_blk2 rfl ht2 ht3 (HA.kept b3) (HE.kept b3) (by kernel_rfl) (by kernel_rfl) (by kernel_rfl) (by kernel_rfl), rfl, hb.trans (b3.mono hb.size)⟩


end Go.Proofs.YtjoepmfineinfaaDoor
