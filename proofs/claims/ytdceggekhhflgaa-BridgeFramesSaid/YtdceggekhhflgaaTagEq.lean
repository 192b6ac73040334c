/- Two tags, held against each other. -/
import Derived.Test.YtdceggekhhflgaaTagParts
import Derived.Laws.StructEq
namespace Go.Proofs.Ytdceggekhhflgaa
open Go.RowKit

def eqT (a b : Tg) : Bool := (a.s == b.s) && ((a.p == b.p) && ((a.d == b.d) && (a.v == b.v)))

theorem eqT_refl (a : Tg) : eqT a a = true := by simp [eqT]

set_option maxRecDepth 100000 in
theorem run_eql_tag (a b : Tg) (w : World) :
    (Op.equalIn 10000 68 (tagV a) (tagV b)).run Try.prog w = .ok (eqT a b) w := by
  have hs : Try.prog.stoodInHeld 68 = false := by kernel_rfl
  have hu : Try.prog.underlying 68 = some (.struct (Try.prog.fieldsOf 68)) := by kernel_rfl
  have hf : (Try.prog.fieldsOf 68).toList = [{ name := "S", type := 4, offset := 0, embedded := false, tag := "", pkgPath := "", byteOffset := 0 }, { name := "Pcp", type := 3, offset := 1, embedded := false, tag := "", pkgPath := "", byteOffset := 8 }, { name := "Dei", type := 4, offset := 2, embedded := false, tag := "", pkgPath := "", byteOffset := 16 }, { name := "Vid", type := 3, offset := 3, embedded := false, tag := "", pkgPath := "", byteOffset := 24 }] := by kernel_rfl
  obtain ⟨s, p, d, v⟩ := a
  obtain ⟨s', p', d', v'⟩ := b
  unfold tagV
  rw [run_equalIn_agg w 9999 68 _ _ hu hs, hf]
  have q0 : ∀ (x y z u : Value) , (part 4 #[x, y, z, u] 0).run Try.prog w = .ok x w := fun x y z u => by simp [part, isAgg, run_underlying Try.underlying4]
  have q1 : ∀ (x y z u : Value) , (part 3 #[x, y, z, u] 1).run Try.prog w = .ok y w := fun x y z u => by simp [part, isAgg, run_underlying Try.underlying3]
  have q2 : ∀ (x y z u : Value) , (part 4 #[x, y, z, u] 2).run Try.prog w = .ok z w := fun x y z u => by simp [part, isAgg, run_underlying Try.underlying4]
  have q3 : ∀ (x y z u : Value) , (part 3 #[x, y, z, u] 3).run Try.prog w = .ok u w := fun x y z u => by simp [part, isAgg, run_underlying Try.underlying3]
  have e0 := run_equalIn_bool' w 9998 4 s s' Try.underlying4
  have e1 := run_equalIn_int w 9998 3 .i64 .i64 p p' Try.underlying3
  have e2 := run_equalIn_bool' w 9998 4 d d' Try.underlying4
  have e3 := run_equalIn_int w 9998 3 .i64 .i64 v v' Try.underlying3
  unfold eqT
  dsimp only
  generalize (s == s') = b0 at *
  generalize (p == p') = b1 at *
  generalize (d == d') = b2 at *
  generalize (v == v') = b3 at *
  cases b0 <;> cases b1 <;> cases b2 <;> cases b3 <;> simp [Op.eqFields, q0, q1, q2, q3, e0, e1, e2, e3]

end Go.Proofs.Ytdceggekhhflgaa
