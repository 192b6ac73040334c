/- frame.Same at every two frames. -/
import Derived.Test.YtnlphldkdglofaaFrSame0
namespace Go.Proofs.Ytnlphldkdglofaa
open Go.RowKit
attribute [local go_sem ↓] Go.wp_at_zero Go.wp_at_succ
set_option linter.unusedSimpArgs false
set_option linter.unusedVariables false

def nums (f : Fr) : Nat → Int
  | 0 => f.k
  | 1 => f.t
  | 2 => f.da
  | 3 => f.sa
  | 4 => f.ct
  | 5 => f.ou
  | _ => f.pi

def same7 (f g : Fr) : Bool := [0, 1, 2, 3, 4, 5, 6].all fun i => (nums f i == nums g i)

theorem size_int' : Try.prog.cellsOf 3 = 1 := by kernel_rfl

theorem infoI64 : ∃ i, Try.prog.info? 3 = some i := Option.isSome_iff_exists.1 (by kernel_rfl)

theorem run_eql_seven (f g : Fr) (w : World) : (Op.equalIn 10000 91 (.agg #[.int .i64 f.k, .int .i64 f.t, .int .i64 f.da, .int .i64 f.sa, .int .i64 f.ct, .int .i64 f.ou, .int .i64 f.pi]) (.agg #[.int .i64 g.k, .int .i64 g.t, .int .i64 g.da, .int .i64 g.sa, .int .i64 g.ct, .int .i64 g.ou, .int .i64 g.pi])).run Try.prog w = .ok (same7 f g) w := by
  obtain ⟨i, hi⟩ := infoI64
  rw [run_equalIn_array w 9999 _ _ Try.underlying91 hi, size_int']
  refine run_eqItems_intsF w 9998 3 .i64 .i64 Try.underlying3 (nums f) (nums g) _ _ (List.range 7) (fun i hi => ?_)
  have hi7 : i < 7 := by simpa using hi
  have : i = 0 ∨ i = 1 ∨ i = 2 ∨ i = 3 ∨ i = 4 ∨ i = 5 ∨ i = 6 := by omega
  rcases this with rfl | rfl | rfl | rfl | rfl | rfl | rfl <;> exact ⟨rfl, rfl⟩

theorem numbers_any (f : Fr) (w : World) :
    Calls Try.prog 22 #[.agg #[.int .u8 (f.d 0), .int .u8 (f.d 1), .int .u8 (f.d 2), .int .u8 (f.d 3), .int .u8 (f.d 4), .int .u8 (f.d 5), .int .u8 (f.s 0), .int .u8 (f.s 1), .int .u8 (f.s 2), .int .u8 (f.s 3), .int .u8 (f.s 4), .int .u8 (f.s 5), .slice f.ta f.tl.length f.tc, .int .i64 f.k, .int .i64 f.t, .int .i64 f.da, .int .i64 f.sa, .int .i64 f.ct, .int .i64 f.ou, .int .i64 f.pi, .string f.bo]] w fun e w' => e = .returned (.agg #[.int .i64 f.k, .int .i64 f.t, .int .i64 f.da, .int .i64 f.sa, .int .i64 f.ct, .int .i64 f.ou, .int .i64 f.pi]) ∧ Below w.heap.size w w' := by
  have hb0 : Below w.heap.size w (w.alloc (.cells (frC f) 27)) := (Below.refl _ _).alloc (Nat.le_refl _) _
  have hb1 := hb0.alloc (by simp) (.cells #[.int .i64 f.k, .int .i64 f.t, .int .i64 f.da, .int .i64 f.sa, .int .i64 f.ct, .int .i64 f.ou, .int .i64 f.pi] 91)
  unfold frC at *
  go_enter Try.func22, Try.ntmps22
  go_wp2
  exact bodyPost_ret (v := .agg #[.int .i64 f.k, .int .i64 f.t, .int .i64 f.da, .int .i64 f.sa, .int .i64 f.ct, .int .i64 f.ou, .int .i64 f.pi]) (by simp [results, Try.results22, go_sem]) rfl ⟨rfl, hb1⟩

end Go.Proofs.Ytnlphldkdglofaa
