/- Frames held against each other: the reference's FrameSame, some of its ways. -/
import Derived.Test.YtnlphldkdglofaaFrSame0
namespace Go.Proofs.Ytnlphldkdglofaa
open Go.RowKit

set_option maxHeartbeats 1600000 in
theorem refSame_0 (f g : Fr) (w : World)  (h1 : eq6 f.d g.d = false) :
    Calls Try.prog 14 #[frV f, frV g] w fun e w' => e = .returned (.bool false) ∧ Below w.heap.size w w' := by
  obtain ⟨hF, hG, hb0⟩ := both_boxed w f g
  have e1 : ∀ W, (Op.equalIn 10000 24 (.agg #[.int .u8 (f.d 0), .int .u8 (f.d 1), .int .u8 (f.d 2), .int .u8 (f.d 3), .int .u8 (f.d 4), .int .u8 (f.d 5)]) (.agg #[.int .u8 (g.d 0), .int .u8 (g.d 1), .int .u8 (g.d 2), .int .u8 (g.d 3), .int .u8 (g.d 4), .int .u8 (g.d 5)])).run Try.prog W = .ok false W := fun W => by have h := run_eql_six f.d g.d W; rw [h1] at h; exact h
  clear h1
  unfold frV frC at *
  go_enter Try.func14, Try.ntmps14
  go_wp2
  go_ret
  exact ⟨rfl, hb0⟩

set_option maxHeartbeats 1600000 in
theorem refSame_1 (f g : Fr) (w : World) (h1 : eq6 f.d g.d = true) (h2 : eq6 f.s g.s = false) :
    Calls Try.prog 14 #[frV f, frV g] w fun e w' => e = .returned (.bool false) ∧ Below w.heap.size w w' := by
  obtain ⟨hF, hG, hb0⟩ := both_boxed w f g
  have e1 : ∀ W, (Op.equalIn 10000 24 (.agg #[.int .u8 (f.d 0), .int .u8 (f.d 1), .int .u8 (f.d 2), .int .u8 (f.d 3), .int .u8 (f.d 4), .int .u8 (f.d 5)]) (.agg #[.int .u8 (g.d 0), .int .u8 (g.d 1), .int .u8 (g.d 2), .int .u8 (g.d 3), .int .u8 (g.d 4), .int .u8 (g.d 5)])).run Try.prog W = .ok true W := fun W => by have h := run_eql_six f.d g.d W; rw [h1] at h; exact h
  have e2 : ∀ W, (Op.equalIn 10000 24 (.agg #[.int .u8 (f.s 0), .int .u8 (f.s 1), .int .u8 (f.s 2), .int .u8 (f.s 3), .int .u8 (f.s 4), .int .u8 (f.s 5)]) (.agg #[.int .u8 (g.s 0), .int .u8 (g.s 1), .int .u8 (g.s 2), .int .u8 (g.s 3), .int .u8 (g.s 4), .int .u8 (g.s 5)])).run Try.prog W = .ok false W := fun W => by have h := run_eql_six f.s g.s W; rw [h2] at h; exact h
  clear h1 h2
  unfold frV frC at *
  go_enter Try.func14, Try.ntmps14
  go_wp2
  go_ret
  exact ⟨rfl, hb0⟩

set_option maxHeartbeats 1600000 in
theorem refSame_2 (f g : Fr) (w : World) (hf : FrIn w f) (hg : FrIn w g) (h1 : eq6 f.d g.d = true) (h2 : eq6 f.s g.s = true) (h3 : tagsEq f.tl g.tl = false) :
    Calls Try.prog 14 #[frV f, frV g] w fun e w' => e = .returned (.bool false) ∧ Below w.heap.size w w' := by
  obtain ⟨hF, hG, hb0⟩ := both_boxed w f g
  have e1 : ∀ W, (Op.equalIn 10000 24 (.agg #[.int .u8 (f.d 0), .int .u8 (f.d 1), .int .u8 (f.d 2), .int .u8 (f.d 3), .int .u8 (f.d 4), .int .u8 (f.d 5)]) (.agg #[.int .u8 (g.d 0), .int .u8 (g.d 1), .int .u8 (g.d 2), .int .u8 (g.d 3), .int .u8 (g.d 4), .int .u8 (g.d 5)])).run Try.prog W = .ok true W := fun W => by have h := run_eql_six f.d g.d W; rw [h1] at h; exact h
  have e2 : ∀ W, (Op.equalIn 10000 24 (.agg #[.int .u8 (f.s 0), .int .u8 (f.s 1), .int .u8 (f.s 2), .int .u8 (f.s 3), .int .u8 (f.s 4), .int .u8 (f.s 5)]) (.agg #[.int .u8 (g.s 0), .int .u8 (g.s 1), .int .u8 (g.s 2), .int .u8 (g.s 3), .int .u8 (g.s 4), .int .u8 (g.s 5)])).run Try.prog W = .ok true W := fun W => by have h := run_eql_six f.s g.s W; rw [h2] at h; exact h
  have hI := hf.below hb0
  have hJ := hg.below hb0
  have HE : Hid (∀ W, TagsIn W f.ta f.tl → TagsIn W g.ta g.tl → Calls Try.prog 21 #[.slice f.ta f.tl.length f.tc, .slice g.ta g.tl.length g.tc] W fun e w' => e = .returned (.bool false) ∧ Below W.heap.size W w') := fun W x y => by have h := equal_any f.ta g.ta f.tc g.tc f.tl g.tl W x y hf.few; rw [h3] at h; exact h
  clear h3
  clear h1 h2
  unfold frV frC at *
  go_enter Try.func14, Try.ntmps14
  go_wp2_with fail
  refine (HE.out _ hI.tags hJ.tags).mono ?_
  rintro e w1 ⟨rfl, k1⟩
  have b1 : Below w.heap.size w w1 := hb0.trans (k1.mono hb0.size)
  have hF1 : HasF w1 _ f := HasF.below hF k1 hF.lt
  have hG1 : HasF w1 _ g := HasF.below hG k1 hG.lt
  clear hF1 hG1 k1 hF hG hI hJ hb0 HE
  go_wp2
  go_ret
  exact ⟨rfl, b1⟩

set_option maxHeartbeats 1600000 in
theorem refSame_3 (f g : Fr) (w : World) (hf : FrIn w f) (hg : FrIn w g) (h1 : eq6 f.d g.d = true) (h2 : eq6 f.s g.s = true) (h3 : tagsEq f.tl g.tl = true) (h4 : (f.k == g.k) = false) :
    Calls Try.prog 14 #[frV f, frV g] w fun e w' => e = .returned (.bool false) ∧ Below w.heap.size w w' := by
  obtain ⟨hF, hG, hb0⟩ := both_boxed w f g
  have e1 : ∀ W, (Op.equalIn 10000 24 (.agg #[.int .u8 (f.d 0), .int .u8 (f.d 1), .int .u8 (f.d 2), .int .u8 (f.d 3), .int .u8 (f.d 4), .int .u8 (f.d 5)]) (.agg #[.int .u8 (g.d 0), .int .u8 (g.d 1), .int .u8 (g.d 2), .int .u8 (g.d 3), .int .u8 (g.d 4), .int .u8 (g.d 5)])).run Try.prog W = .ok true W := fun W => by have h := run_eql_six f.d g.d W; rw [h1] at h; exact h
  have e2 : ∀ W, (Op.equalIn 10000 24 (.agg #[.int .u8 (f.s 0), .int .u8 (f.s 1), .int .u8 (f.s 2), .int .u8 (f.s 3), .int .u8 (f.s 4), .int .u8 (f.s 5)]) (.agg #[.int .u8 (g.s 0), .int .u8 (g.s 1), .int .u8 (g.s 2), .int .u8 (g.s 3), .int .u8 (g.s 4), .int .u8 (g.s 5)])).run Try.prog W = .ok true W := fun W => by have h := run_eql_six f.s g.s W; rw [h2] at h; exact h
  have hI := hf.below hb0
  have hJ := hg.below hb0
  have HE : Hid (∀ W, TagsIn W f.ta f.tl → TagsIn W g.ta g.tl → Calls Try.prog 21 #[.slice f.ta f.tl.length f.tc, .slice g.ta g.tl.length g.tc] W fun e w' => e = .returned (.bool true) ∧ Below W.heap.size W w') := fun W x y => by have h := equal_any f.ta g.ta f.tc g.tc f.tl g.tl W x y hf.few; rw [h3] at h; exact h
  clear h3
  clear h1 h2
  unfold frV frC at *
  go_enter Try.func14, Try.ntmps14
  go_wp2_with fail
  refine (HE.out _ hI.tags hJ.tags).mono ?_
  rintro e w1 ⟨rfl, k1⟩
  have b1 : Below w.heap.size w w1 := hb0.trans (k1.mono hb0.size)
  have hF1 : HasF w1 _ f := HasF.below hF k1 hF.lt
  have hG1 : HasF w1 _ g := HasF.below hG k1 hG.lt
  have c13 : w1.cell? ⟨w.heap.size, 13, none⟩ = some (.int .i64 f.k) := (hF1.c 13).trans rfl
  have d13 : w1.cell? ⟨(w.heap.size + 1), 13, none⟩ = some (.int .i64 g.k) := (hG1.c 13).trans rfl
  clear hF1 hG1 k1 hF hG hI hJ hb0 HE
  go_wp2
  go_ret
  exact ⟨rfl, b1⟩

end Go.Proofs.Ytnlphldkdglofaa
