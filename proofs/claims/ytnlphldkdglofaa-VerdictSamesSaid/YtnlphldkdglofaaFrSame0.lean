/- Frames held against each other: the reference's FrameSame. -/
import Derived.Test.YtnlphldkdglofaaFr
import Derived.Test.YtnlphldkdglofaaFrTags
import Derived.ChangeKeysEq
set_option linter.unusedVariables false
namespace Go.Proofs.Ytnlphldkdglofaa
open Go.RowKit

theorem run_eqItems_intsF {P : Program} (w : World) (d : Nat) (e : TypeId) (k k' : IntKind) (he : P.underlying e = some (.int k')) (xs ys : Nat → Int) (X Y : Array Value) : ∀ is : List Nat,
    (∀ i ∈ is, X[i]? = some (.int k (xs i)) ∧ Y[i]? = some (.int k (ys i))) → (Op.eqItems (d + 1) e 1 X Y is).run P w = .ok (is.all fun i => xs i == ys i) w
  | [], _ => by simp [Op.eqItems]
  | i :: is, h => by
    obtain ⟨h1, h2⟩ := h i (by simp)
    have p1 : (part e X (i * 1)).run P w = .ok (.int k (xs i)) w := by simp [part, isAgg, run_underlying he, h1]
    have p2 : (part e Y (i * 1)).run P w = .ok (.int k (ys i)) w := by simp [part, isAgg, run_underlying he, h2]
    have ih := run_eqItems_intsF w d e k k' he xs ys X Y is (fun j hj => h j (by simp [hj]))
    have q := run_equalIn_int (P := P) w d e k k' (xs i) (ys i) he
    simp only [Op.eqItems, Sem.run_bind, p1, p2, q, Result.andThen_ok, List.all_cons]
    cases (xs i == ys i)
    · simp
    · simpa using ih

/-- Two addresses. -/
def eq6 (x y : Nat → Nat) : Bool := [0, 1, 2, 3, 4, 5].all fun i => ((x i : Int) == (y i : Int))

theorem size_u8' : Try.prog.cellsOf 5 = 1 := by kernel_rfl

theorem infoU8 : ∃ i, Try.prog.info? 5 = some i := Option.isSome_iff_exists.1 (by kernel_rfl)

theorem run_eql_six (x y : Nat → Nat) (w : World) :
    (Op.equalIn 10000 24 (.agg #[.int .u8 (x 0), .int .u8 (x 1), .int .u8 (x 2), .int .u8 (x 3), .int .u8 (x 4), .int .u8 (x 5)]) (.agg #[.int .u8 (y 0), .int .u8 (y 1), .int .u8 (y 2), .int .u8 (y 3), .int .u8 (y 4), .int .u8 (y 5)])).run Try.prog w = .ok (eq6 x y) w := by
  obtain ⟨i, hi⟩ := infoU8
  rw [run_equalIn_array w 9999 _ _ Try.underlying24 hi, size_u8']
  refine run_eqItems_intsF w 9998 5 .u8 .u8 Try.underlying5 (fun i => (x i : Int)) (fun i => (y i : Int)) _ _ (List.range 6) (fun i hi => ?_)
  have hi6 : i < 6 := by simpa using hi
  have : i = 0 ∨ i = 1 ∨ i = 2 ∨ i = 3 ∨ i = 4 ∨ i = 5 := by omega
  rcases this with rfl | rfl | rfl | rfl | rfl | rfl <;> exact ⟨rfl, rfl⟩

/-- Whether two frames are one. -/
def sameB (f g : Fr) : Bool := eq6 f.d g.d && (eq6 f.s g.s && (tagsEq f.tl g.tl && ((f.k == g.k) && ((f.t == g.t) && ((f.da == g.da) && ((f.sa == g.sa) && ((f.ct == g.ct) && ((f.ou == g.ou) && ((f.pi == g.pi) && ((f.bo.toList == g.bo.toList)))))))))))

theorem both_boxed (w : World) (f g : Fr) : HasF ((w.alloc (.cells (frC f) 27)).alloc (.cells (frC g) 27)) w.heap.size f ∧ HasF ((w.alloc (.cells (frC f) 27)).alloc (.cells (frC g) 27)) (w.heap.size + 1) g ∧ Below w.heap.size w ((w.alloc (.cells (frC f) 27)).alloc (.cells (frC g) 27)) := by
  refine ⟨(heap_alloc_old _ _ (HasF.new w f).lt).trans (HasF.new w f), ?_, ((Below.refl _ _).alloc (Nat.le_refl _) _).alloc (by simp) _⟩
  have h := HasF.new (w.alloc (.cells (frC f) 27)) g
  rw [show (w.alloc (.cells (frC f) 27)).heap.size = w.heap.size + 1 by simp] at h
  exact h

end Go.Proofs.Ytnlphldkdglofaa
