/- Frames held against each other: the reference's FrameSame, some of its ways. -/
import Derived.Test.YtnlphldkdglofaaFrSame0
namespace Go.Proofs.Ytnlphldkdglofaa
open Go.RowKit

set_option maxHeartbeats 1600000 in
theorem refSame_8 (f g : Fr) (w : World) (hf : FrIn w f) (hg : FrIn w g) (h1 : eq6 f.d g.d = true) (h2 : eq6 f.s g.s = true) (h3 : tagsEq f.tl g.tl = true) (h4 : (f.k == g.k) = true) (h5 : (f.t == g.t) = true) (h6 : (f.da == g.da) = true) (h7 : (f.sa == g.sa) = true) (h8 : (f.ct == g.ct) = true) (h9 : (f.ou == g.ou) = false) :
    Calls Try.prog 14 #[frV f, frV g] w fun e w' => e = .returned (.bool false) ∧ Below w.heap.size w w' := by
  obtain ⟨hF, hG, hb0⟩ := both_boxed w f g
  have e1 : ∀ W, (Op.equalIn 10000 24 (.agg #[.int .u8 (f.d 0), .int .u8 (f.d 1), .int .u8 (f.d 2), .int .u8 (f.d 3), .int .u8 (f.d 4), .int .u8 (f.d 5)]) (.agg #[.int .u8 (g.d 0), .int .u8 (g.d 1), .int .u8 (g.d 2), .int .u8 (g.d 3), .int .u8 (g.d 4), .int .u8 (g.d 5)])).run Try.prog W = .ok true W := fun W => by have h := run_eql_six f.d g.d W; rw [h1] at h; exact h
  have e2 : ∀ W, (Op.equalIn 10000 24 (.agg #[.int .u8 (f.s 0), .int .u8 (f.s 1), .int .u8 (f.s 2), .int .u8 (f.s 3), .int .u8 (f.s 4), .int .u8 (f.s 5)]) (.agg #[.int .u8 (g.s 0), .int .u8 (g.s 1), .int .u8 (g.s 2), .int .u8 (g.s 3), .int .u8 (g.s 4), .int .u8 (g.s 5)])).run Try.prog W = .ok true W := fun W => by have h := run_eql_six f.s g.s W; rw [h2] at h; exact h
  have hI := hf.below hb0
  have hJ := hg.below hb0
  have HE : Hid (∀ W, TagsIn W f.ta f.tl → TagsIn W g.ta g.tl → Calls Try.prog 21 #[.slice f.ta f.tl.length f.tc, .slice g.ta g.tl.length g.tc] W fun e w' => e = .returned (.bool true) ∧ Below W.heap.size W w') := fun W x y => by have h := equal_any f.ta g.ta f.tc g.tc f.tl g.tl W x y hf.few; rw [h3] at h; exact h
  clear h3
  clear h1 h2
  unfold frV frC at *
  go_enter Try.func14, Try.ntmps14
  go_wp2_with fail
  refine (HE.out _ hI.tags hJ.tags).mono ?_
  rintro e w1 ⟨rfl, k1⟩
  have b1 : Below w.heap.size w w1 := hb0.trans (k1.mono hb0.size)
  have hF1 : HasF w1 _ f := HasF.below hF k1 hF.lt
  have hG1 : HasF w1 _ g := HasF.below hG k1 hG.lt
  have c13 : w1.cell? ⟨w.heap.size, 13, none⟩ = some (.int .i64 f.k) := (hF1.c 13).trans rfl
  have c14 : w1.cell? ⟨w.heap.size, 14, none⟩ = some (.int .i64 f.t) := (hF1.c 14).trans rfl
  have c15 : w1.cell? ⟨w.heap.size, 15, none⟩ = some (.int .i64 f.da) := (hF1.c 15).trans rfl
  have c16 : w1.cell? ⟨w.heap.size, 16, none⟩ = some (.int .i64 f.sa) := (hF1.c 16).trans rfl
  have c17 : w1.cell? ⟨w.heap.size, 17, none⟩ = some (.int .i64 f.ct) := (hF1.c 17).trans rfl
  have c18 : w1.cell? ⟨w.heap.size, 18, none⟩ = some (.int .i64 f.ou) := (hF1.c 18).trans rfl
  have d13 : w1.cell? ⟨(w.heap.size + 1), 13, none⟩ = some (.int .i64 g.k) := (hG1.c 13).trans rfl
  have d14 : w1.cell? ⟨(w.heap.size + 1), 14, none⟩ = some (.int .i64 g.t) := (hG1.c 14).trans rfl
  have d15 : w1.cell? ⟨(w.heap.size + 1), 15, none⟩ = some (.int .i64 g.da) := (hG1.c 15).trans rfl
  have d16 : w1.cell? ⟨(w.heap.size + 1), 16, none⟩ = some (.int .i64 g.sa) := (hG1.c 16).trans rfl
  have d17 : w1.cell? ⟨(w.heap.size + 1), 17, none⟩ = some (.int .i64 g.ct) := (hG1.c 17).trans rfl
  have d18 : w1.cell? ⟨(w.heap.size + 1), 18, none⟩ = some (.int .i64 g.ou) := (hG1.c 18).trans rfl
  clear hF1 hG1 k1 hF hG hI hJ hb0 HE
  go_wp2
  go_ret
  exact ⟨rfl, b1⟩

set_option maxHeartbeats 1600000 in
theorem refSame_9 (f g : Fr) (w : World) (hf : FrIn w f) (hg : FrIn w g) (h1 : eq6 f.d g.d = true) (h2 : eq6 f.s g.s = true) (h3 : tagsEq f.tl g.tl = true) (h4 : (f.k == g.k) = true) (h5 : (f.t == g.t) = true) (h6 : (f.da == g.da) = true) (h7 : (f.sa == g.sa) = true) (h8 : (f.ct == g.ct) = true) (h9 : (f.ou == g.ou) = true) (h10 : (f.pi == g.pi) = false) :
    Calls Try.prog 14 #[frV f, frV g] w fun e w' => e = .returned (.bool false) ∧ Below w.heap.size w w' := by
  obtain ⟨hF, hG, hb0⟩ := both_boxed w f g
  have e1 : ∀ W, (Op.equalIn 10000 24 (.agg #[.int .u8 (f.d 0), .int .u8 (f.d 1), .int .u8 (f.d 2), .int .u8 (f.d 3), .int .u8 (f.d 4), .int .u8 (f.d 5)]) (.agg #[.int .u8 (g.d 0), .int .u8 (g.d 1), .int .u8 (g.d 2), .int .u8 (g.d 3), .int .u8 (g.d 4), .int .u8 (g.d 5)])).run Try.prog W = .ok true W := fun W => by have h := run_eql_six f.d g.d W; rw [h1] at h; exact h
  have e2 : ∀ W, (Op.equalIn 10000 24 (.agg #[.int .u8 (f.s 0), .int .u8 (f.s 1), .int .u8 (f.s 2), .int .u8 (f.s 3), .int .u8 (f.s 4), .int .u8 (f.s 5)]) (.agg #[.int .u8 (g.s 0), .int .u8 (g.s 1), .int .u8 (g.s 2), .int .u8 (g.s 3), .int .u8 (g.s 4), .int .u8 (g.s 5)])).run Try.prog W = .ok true W := fun W => by have h := run_eql_six f.s g.s W; rw [h2] at h; exact h
  have hI := hf.below hb0
  have hJ := hg.below hb0
  have HE : Hid (∀ W, TagsIn W f.ta f.tl → TagsIn W g.ta g.tl → Calls Try.prog 21 #[.slice f.ta f.tl.length f.tc, .slice g.ta g.tl.length g.tc] W fun e w' => e = .returned (.bool true) ∧ Below W.heap.size W w') := fun W x y => by have h := equal_any f.ta g.ta f.tc g.tc f.tl g.tl W x y hf.few; rw [h3] at h; exact h
  clear h3
  clear h1 h2
  unfold frV frC at *
  go_enter Try.func14, Try.ntmps14
  go_wp2_with fail
  refine (HE.out _ hI.tags hJ.tags).mono ?_
  rintro e w1 ⟨rfl, k1⟩
  have b1 : Below w.heap.size w w1 := hb0.trans (k1.mono hb0.size)
  have hF1 : HasF w1 _ f := HasF.below hF k1 hF.lt
  have hG1 : HasF w1 _ g := HasF.below hG k1 hG.lt
  have c13 : w1.cell? ⟨w.heap.size, 13, none⟩ = some (.int .i64 f.k) := (hF1.c 13).trans rfl
  have c14 : w1.cell? ⟨w.heap.size, 14, none⟩ = some (.int .i64 f.t) := (hF1.c 14).trans rfl
  have c15 : w1.cell? ⟨w.heap.size, 15, none⟩ = some (.int .i64 f.da) := (hF1.c 15).trans rfl
  have c16 : w1.cell? ⟨w.heap.size, 16, none⟩ = some (.int .i64 f.sa) := (hF1.c 16).trans rfl
  have c17 : w1.cell? ⟨w.heap.size, 17, none⟩ = some (.int .i64 f.ct) := (hF1.c 17).trans rfl
  have c18 : w1.cell? ⟨w.heap.size, 18, none⟩ = some (.int .i64 f.ou) := (hF1.c 18).trans rfl
  have c19 : w1.cell? ⟨w.heap.size, 19, none⟩ = some (.int .i64 f.pi) := (hF1.c 19).trans rfl
  have d13 : w1.cell? ⟨(w.heap.size + 1), 13, none⟩ = some (.int .i64 g.k) := (hG1.c 13).trans rfl
  have d14 : w1.cell? ⟨(w.heap.size + 1), 14, none⟩ = some (.int .i64 g.t) := (hG1.c 14).trans rfl
  have d15 : w1.cell? ⟨(w.heap.size + 1), 15, none⟩ = some (.int .i64 g.da) := (hG1.c 15).trans rfl
  have d16 : w1.cell? ⟨(w.heap.size + 1), 16, none⟩ = some (.int .i64 g.sa) := (hG1.c 16).trans rfl
  have d17 : w1.cell? ⟨(w.heap.size + 1), 17, none⟩ = some (.int .i64 g.ct) := (hG1.c 17).trans rfl
  have d18 : w1.cell? ⟨(w.heap.size + 1), 18, none⟩ = some (.int .i64 g.ou) := (hG1.c 18).trans rfl
  have d19 : w1.cell? ⟨(w.heap.size + 1), 19, none⟩ = some (.int .i64 g.pi) := (hG1.c 19).trans rfl
  clear hF1 hG1 k1 hF hG hI hJ hb0 HE
  go_wp2
  go_ret
  exact ⟨rfl, b1⟩

set_option maxHeartbeats 1600000 in
theorem refSame_10 (f g : Fr) (w : World) (hf : FrIn w f) (hg : FrIn w g) (h1 : eq6 f.d g.d = true) (h2 : eq6 f.s g.s = true) (h3 : tagsEq f.tl g.tl = true) (h4 : (f.k == g.k) = true) (h5 : (f.t == g.t) = true) (h6 : (f.da == g.da) = true) (h7 : (f.sa == g.sa) = true) (h8 : (f.ct == g.ct) = true) (h9 : (f.ou == g.ou) = true) (h10 : (f.pi == g.pi) = true) (h11 : (f.bo.toList == g.bo.toList) = false) :
    Calls Try.prog 14 #[frV f, frV g] w fun e w' => e = .returned (.bool false) ∧ Below w.heap.size w w' := by
  obtain ⟨hF, hG, hb0⟩ := both_boxed w f g
  have e1 : ∀ W, (Op.equalIn 10000 24 (.agg #[.int .u8 (f.d 0), .int .u8 (f.d 1), .int .u8 (f.d 2), .int .u8 (f.d 3), .int .u8 (f.d 4), .int .u8 (f.d 5)]) (.agg #[.int .u8 (g.d 0), .int .u8 (g.d 1), .int .u8 (g.d 2), .int .u8 (g.d 3), .int .u8 (g.d 4), .int .u8 (g.d 5)])).run Try.prog W = .ok true W := fun W => by have h := run_eql_six f.d g.d W; rw [h1] at h; exact h
  have e2 : ∀ W, (Op.equalIn 10000 24 (.agg #[.int .u8 (f.s 0), .int .u8 (f.s 1), .int .u8 (f.s 2), .int .u8 (f.s 3), .int .u8 (f.s 4), .int .u8 (f.s 5)]) (.agg #[.int .u8 (g.s 0), .int .u8 (g.s 1), .int .u8 (g.s 2), .int .u8 (g.s 3), .int .u8 (g.s 4), .int .u8 (g.s 5)])).run Try.prog W = .ok true W := fun W => by have h := run_eql_six f.s g.s W; rw [h2] at h; exact h
  have hI := hf.below hb0
  have hJ := hg.below hb0
  have HE : Hid (∀ W, TagsIn W f.ta f.tl → TagsIn W g.ta g.tl → Calls Try.prog 21 #[.slice f.ta f.tl.length f.tc, .slice g.ta g.tl.length g.tc] W fun e w' => e = .returned (.bool true) ∧ Below W.heap.size W w') := fun W x y => by have h := equal_any f.ta g.ta f.tc g.tc f.tl g.tl W x y hf.few; rw [h3] at h; exact h
  clear h3
  clear h1 h2
  unfold frV frC at *
  go_enter Try.func14, Try.ntmps14
  go_wp2_with fail
  refine (HE.out _ hI.tags hJ.tags).mono ?_
  rintro e w1 ⟨rfl, k1⟩
  have b1 : Below w.heap.size w w1 := hb0.trans (k1.mono hb0.size)
  have hF1 : HasF w1 _ f := HasF.below hF k1 hF.lt
  have hG1 : HasF w1 _ g := HasF.below hG k1 hG.lt
  have c13 : w1.cell? ⟨w.heap.size, 13, none⟩ = some (.int .i64 f.k) := (hF1.c 13).trans rfl
  have c14 : w1.cell? ⟨w.heap.size, 14, none⟩ = some (.int .i64 f.t) := (hF1.c 14).trans rfl
  have c15 : w1.cell? ⟨w.heap.size, 15, none⟩ = some (.int .i64 f.da) := (hF1.c 15).trans rfl
  have c16 : w1.cell? ⟨w.heap.size, 16, none⟩ = some (.int .i64 f.sa) := (hF1.c 16).trans rfl
  have c17 : w1.cell? ⟨w.heap.size, 17, none⟩ = some (.int .i64 f.ct) := (hF1.c 17).trans rfl
  have c18 : w1.cell? ⟨w.heap.size, 18, none⟩ = some (.int .i64 f.ou) := (hF1.c 18).trans rfl
  have c19 : w1.cell? ⟨w.heap.size, 19, none⟩ = some (.int .i64 f.pi) := (hF1.c 19).trans rfl
  have c20 : w1.cell? ⟨w.heap.size, 20, none⟩ = some (.string f.bo) := (hF1.c 20).trans rfl
  have d13 : w1.cell? ⟨(w.heap.size + 1), 13, none⟩ = some (.int .i64 g.k) := (hG1.c 13).trans rfl
  have d14 : w1.cell? ⟨(w.heap.size + 1), 14, none⟩ = some (.int .i64 g.t) := (hG1.c 14).trans rfl
  have d15 : w1.cell? ⟨(w.heap.size + 1), 15, none⟩ = some (.int .i64 g.da) := (hG1.c 15).trans rfl
  have d16 : w1.cell? ⟨(w.heap.size + 1), 16, none⟩ = some (.int .i64 g.sa) := (hG1.c 16).trans rfl
  have d17 : w1.cell? ⟨(w.heap.size + 1), 17, none⟩ = some (.int .i64 g.ct) := (hG1.c 17).trans rfl
  have d18 : w1.cell? ⟨(w.heap.size + 1), 18, none⟩ = some (.int .i64 g.ou) := (hG1.c 18).trans rfl
  have d19 : w1.cell? ⟨(w.heap.size + 1), 19, none⟩ = some (.int .i64 g.pi) := (hG1.c 19).trans rfl
  have d20 : w1.cell? ⟨(w.heap.size + 1), 20, none⟩ = some (.string g.bo) := (hG1.c 20).trans rfl
  clear hF1 hG1 k1 hF hG hI hJ hb0 HE
  go_wp2
  go_ret
  exact ⟨rfl, b1⟩

set_option maxHeartbeats 1600000 in
theorem refSame_11 (f g : Fr) (w : World) (hf : FrIn w f) (hg : FrIn w g) (h1 : eq6 f.d g.d = true) (h2 : eq6 f.s g.s = true) (h3 : tagsEq f.tl g.tl = true) (h4 : (f.k == g.k) = true) (h5 : (f.t == g.t) = true) (h6 : (f.da == g.da) = true) (h7 : (f.sa == g.sa) = true) (h8 : (f.ct == g.ct) = true) (h9 : (f.ou == g.ou) = true) (h10 : (f.pi == g.pi) = true) (h11 : (f.bo.toList == g.bo.toList) = true) :
    Calls Try.prog 14 #[frV f, frV g] w fun e w' => e = .returned (.bool true) ∧ Below w.heap.size w w' := by
  obtain ⟨hF, hG, hb0⟩ := both_boxed w f g
  have e1 : ∀ W, (Op.equalIn 10000 24 (.agg #[.int .u8 (f.d 0), .int .u8 (f.d 1), .int .u8 (f.d 2), .int .u8 (f.d 3), .int .u8 (f.d 4), .int .u8 (f.d 5)]) (.agg #[.int .u8 (g.d 0), .int .u8 (g.d 1), .int .u8 (g.d 2), .int .u8 (g.d 3), .int .u8 (g.d 4), .int .u8 (g.d 5)])).run Try.prog W = .ok true W := fun W => by have h := run_eql_six f.d g.d W; rw [h1] at h; exact h
  have e2 : ∀ W, (Op.equalIn 10000 24 (.agg #[.int .u8 (f.s 0), .int .u8 (f.s 1), .int .u8 (f.s 2), .int .u8 (f.s 3), .int .u8 (f.s 4), .int .u8 (f.s 5)]) (.agg #[.int .u8 (g.s 0), .int .u8 (g.s 1), .int .u8 (g.s 2), .int .u8 (g.s 3), .int .u8 (g.s 4), .int .u8 (g.s 5)])).run Try.prog W = .ok true W := fun W => by have h := run_eql_six f.s g.s W; rw [h2] at h; exact h
  have hI := hf.below hb0
  have hJ := hg.below hb0
  have HE : Hid (∀ W, TagsIn W f.ta f.tl → TagsIn W g.ta g.tl → Calls Try.prog 21 #[.slice f.ta f.tl.length f.tc, .slice g.ta g.tl.length g.tc] W fun e w' => e = .returned (.bool true) ∧ Below W.heap.size W w') := fun W x y => by have h := equal_any f.ta g.ta f.tc g.tc f.tl g.tl W x y hf.few; rw [h3] at h; exact h
  clear h3
  clear h1 h2
  unfold frV frC at *
  go_enter Try.func14, Try.ntmps14
  go_wp2_with fail
  refine (HE.out _ hI.tags hJ.tags).mono ?_
  rintro e w1 ⟨rfl, k1⟩
  have b1 : Below w.heap.size w w1 := hb0.trans (k1.mono hb0.size)
  have hF1 : HasF w1 _ f := HasF.below hF k1 hF.lt
  have hG1 : HasF w1 _ g := HasF.below hG k1 hG.lt
  have c13 : w1.cell? ⟨w.heap.size, 13, none⟩ = some (.int .i64 f.k) := (hF1.c 13).trans rfl
  have c14 : w1.cell? ⟨w.heap.size, 14, none⟩ = some (.int .i64 f.t) := (hF1.c 14).trans rfl
  have c15 : w1.cell? ⟨w.heap.size, 15, none⟩ = some (.int .i64 f.da) := (hF1.c 15).trans rfl
  have c16 : w1.cell? ⟨w.heap.size, 16, none⟩ = some (.int .i64 f.sa) := (hF1.c 16).trans rfl
  have c17 : w1.cell? ⟨w.heap.size, 17, none⟩ = some (.int .i64 f.ct) := (hF1.c 17).trans rfl
  have c18 : w1.cell? ⟨w.heap.size, 18, none⟩ = some (.int .i64 f.ou) := (hF1.c 18).trans rfl
  have c19 : w1.cell? ⟨w.heap.size, 19, none⟩ = some (.int .i64 f.pi) := (hF1.c 19).trans rfl
  have c20 : w1.cell? ⟨w.heap.size, 20, none⟩ = some (.string f.bo) := (hF1.c 20).trans rfl
  have d13 : w1.cell? ⟨(w.heap.size + 1), 13, none⟩ = some (.int .i64 g.k) := (hG1.c 13).trans rfl
  have d14 : w1.cell? ⟨(w.heap.size + 1), 14, none⟩ = some (.int .i64 g.t) := (hG1.c 14).trans rfl
  have d15 : w1.cell? ⟨(w.heap.size + 1), 15, none⟩ = some (.int .i64 g.da) := (hG1.c 15).trans rfl
  have d16 : w1.cell? ⟨(w.heap.size + 1), 16, none⟩ = some (.int .i64 g.sa) := (hG1.c 16).trans rfl
  have d17 : w1.cell? ⟨(w.heap.size + 1), 17, none⟩ = some (.int .i64 g.ct) := (hG1.c 17).trans rfl
  have d18 : w1.cell? ⟨(w.heap.size + 1), 18, none⟩ = some (.int .i64 g.ou) := (hG1.c 18).trans rfl
  have d19 : w1.cell? ⟨(w.heap.size + 1), 19, none⟩ = some (.int .i64 g.pi) := (hG1.c 19).trans rfl
  have d20 : w1.cell? ⟨(w.heap.size + 1), 20, none⟩ = some (.string g.bo) := (hG1.c 20).trans rfl
  clear hF1 hG1 k1 hF hG hI hJ hb0 HE
  go_wp2
  go_ret
  exact ⟨rfl, b1⟩

end Go.Proofs.Ytnlphldkdglofaa
