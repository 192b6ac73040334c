/- The small functions that the laws share: pick (some number below n) and wired (a fact on package wire). -/
import Derived.Test.YtiikdmempgmlnaaDoorRdNum
namespace Go.Proofs.YtiikdmempgmlnaaDoor
open Go.RowKit

/-- What 'pick' comes to. -/
theorem pick_val (a : Int) (n : Nat) (h1 : 1 ≤ n) (hn : n ≤ 281474976710656) : ∃ r : Nat, wrap64 ((IntKind.u64.wrap a).tmod (n : Int)) = (r : Int) ∧ r < n := by
  have hw := wrap_u64_nonneg a
  have e : (IntKind.u64.wrap a).tmod (n : Int) = IntKind.u64.wrap a % (n : Int) := Int.tmod_eq_emod_of_nonneg hw
  have h0 := Int.emod_nonneg (IntKind.u64.wrap a) (show (n : Int) ≠ 0 by omega)
  have h2 := Int.emod_lt_of_pos (IntKind.u64.wrap a) (show (0 : Int) < n by omega)
  rw [e]
  generalize IntKind.u64.wrap a % (n : Int) = z at h0 h2
  refine ⟨z.toNat, ?_, by omega⟩
  unfold wrap64
  omega

theorem pick_any (a : Int) (n : Nat) (w : World) (h1 : 1 ≤ n) (hn : n ≤ 281474976710656) :
    Calls Tryd.prog 28 #[.int .i64 a, .int .i64 n] w fun e w' => ∃ r : Nat, e = .returned (.int .i64 r) ∧ r < n ∧ w = w' := by
  obtain ⟨r, hr, hlt⟩ := pick_val a n h1 hn
  have HR := Lib.hid hr
  clear hr
  go_enter Tryd.func28, Tryd.ntmps28
  go_wp2
  go_ret
  exact ⟨r, by rw [← HR.out]; rfl, hlt, rfl⟩

theorem grown_below {B g : Nat} {a w w' : World} (h : Below B a w) (hg : w.grownBy w' (some g)) (hB : B ≤ w.heap.size) (hr : B ≤ g) : Below B a w' :=
  h.grown hg hB fun k e => by cases e; exact hr

set_option maxHeartbeats 400000 in
theorem wired_any (w : World) :
    Calls Tryd.prog 27 #[] w fun e w' => e = .returned (.bool true) ∧ Below w.heap.size w w' := by
  have hput : putL 258 3 = [0, 1, 2] := by decide
  go_enter Tryd.func27, Tryd.ntmps27
  go_wp2_with fail
  refine (put_fits 258 3 _ (by omega) (by omega) (by decide)).mono ?_
  rintro e w1 ⟨rfl, hb1⟩
  go_wp2_with fail
  refine (new_any _ _ _).mono ?_
  rintro e w2 ⟨rfl, rfl⟩
  have hr0 : Rd (w1.alloc (.cells #[.string ⟨#[1, 2, 3]⟩, .int .i64 7, .pointer none] 66)) w1.heap.size ⟨#[1, 2, 3]⟩ 7 none := heap_alloc_new w1 _
  have hb2 : Below w.heap.size w (w1.alloc (.cells #[.string ⟨#[1, 2, 3]⟩, .int .i64 7, .pointer none] 66)) := hb1.alloc hb1.size _
  have hs1 := hb1.size
  go_wp2_with fail
  refine (num_read 2 _ hr0 (by omega) (by omega) (by decide) (by omega) (by decide)).mono ?_
  rintro e w3 ⟨rfl, hr, hg⟩
  have hb3 : Below w.heap.size w w3 := grown_below hb2 hg (by simp; omega) hs1
  have hn : wrap64 ((beN ((⟨#[1, 2, 3]⟩ : ByteArray).data.toList.take 2) : Nat) : Int) = 258 := by kernel_rfl
  rw [hn]
  have hex : (⟨#[1, 2, 3]⟩ : ByteArray).extract 2 (⟨#[1, 2, 3]⟩ : ByteArray).size = ⟨#[3]⟩ := by kernel_rfl
  rw [hex] at hr
  clear hb2 hb1 hr0 hg hn hex
  go_wp2_with fail
  refine (at_any _ hr).mono ?_
  rintro e w4 ⟨rfl, rfl⟩
  go_wp2_with fail
  refine (left_any _ hr).mono ?_
  rintro e w4 ⟨rfl, rfl⟩
  go_wp2_with fail
  refine (err_none _ hr).mono ?_
  rintro e w4 ⟨rfl, rfl⟩
  go_wp2
  go_ret
  exact ⟨rfl, hb3⟩
end Go.Proofs.YtiikdmempgmlnaaDoor
