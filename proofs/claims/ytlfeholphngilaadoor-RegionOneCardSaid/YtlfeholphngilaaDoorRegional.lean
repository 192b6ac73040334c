/- switchyardkeep.regional: the facts. -/
import Derived.Test.YtlfeholphngilaaDoorRegFacts
namespace Go.Proofs.YtlfeholphngilaaDoor
open Go.RowKit
attribute [local go_sem ↓] Go.wp_at_zero Go.wp_at_succ
set_option linter.unusedSimpArgs false
set_option linter.unusedVariables false
set_option maxRecDepth 100000

set_option maxHeartbeats 6400000 in
theorem regional_any (w : World) (HM : HasMd w) :
    Calls Tryd.prog 24 #[] w fun e w' => e = .returned (.bool true) ∧ Below w.heap.size w w' := by
  obtain ⟨i0, hi, hz0, hz1, hz2⟩ := info_parts Tryd.spParts
  have HB := Blk.new w 42 (spL rl3).toArray
  have B0 : Below w.heap.size w (w.alloc (.cells (spL rl3).toArray 42)) := (Below.refl _ _).alloc (Nat.le_refl _) _
  have HD : Hid (∀ W, HasMd W → Calls Tryd.prog 30 #[.slice none 0 0] W fun e w' => e = .returned (.tuple #[.string ⟨#[172, 54, 23, 127, 80, 40, 60, 212, 184, 56, 33, 216, 171, 38, 222, 98]⟩, .nilIface]) ∧ Below W.heap.size W w') := fun W HM => by
    have h := spDigest_ok none 0 [] W (Or.inl rfl) (by decide) rl0_right HM
    rw [empty_mark] at h
    exact h
  have HF3 := Lib.hid fill_three
  have HF1 := Lib.hid fill_nine
  generalize hL3 : (spL rl3).toArray = L3 at *
  have HIN : Hid (∀ W B, Blk W B 42 L3 → SpIn W (some ⟨B, 0, none⟩) rl3) := fun W B q => spIn_blk (by rw [hL3]; exact q)
  go_enter Tryd.func24, Tryd.ntmps24
  go_upto_region 2 with (first
    | (refine build_blk (o := ⟨some 6, _, _, _, _, _⟩) (t := 42) (spC ⟨1, 5, 2⟩) (by rfl) rfl (by kernel_rfl) ?_)
    | (refine build_blk (o := ⟨some 7, _, _, _, _, _⟩) (t := 42) (spC ⟨6, 9, 2⟩) (by rfl) rfl (by kernel_rfl) ?_)
    | (refine build_blk (o := ⟨some 8, _, _, _, _, _⟩) (t := 42) (spC ⟨20, 20, 0⟩) (by rfl) rfl (by kernel_rfl) ?_)
    | (refine wpList_buildSlice rfl 27 42 3 _ rfl L3 i0 (.agg (spC zSp)) Tryd.underlying27 hi hz0 (by rw [hz1]; decide) (by rw [hz1]; decide) (by rw [hz1]; simp only [List.map_toArray, List.map_cons, List.map_nil]; exact HF3.out) ?_))
  generalize w.alloc (.cells L3 42) = w1 at *
  (try simp only [Act.put, List.setIfInBounds_toArray, List.set_cons_zero, List.set_cons_succ])
  have HLe : Hid (Calls Tryd.prog 20 #[.slice (some ⟨w.heap.size, 0, none⟩) 3 3] w1 fun e w' => (∃ v, e = .returned (.tuple #[v, .nilIface]) ∧ OwnV w' w1.heap.size v rl1) ∧ Below w1.heap.size w1 w') := spLeast_ok (some ⟨w.heap.size, 0, none⟩) 3 rl3 w1 (HIN.out w1 _ HB) (by decide) rl3_right
  clear HB HIN
  go_wp2_with fail
  refine HLe.out.mono ?_
  rintro e w2 ⟨⟨v2, rfl, O2⟩, k2⟩
  have b2 := B0.trans (k2.mono B0.size)
  go_wp2_with fail
  refine (HD.out _ (HM.below b2)).mono ?_
  rintro e w3 ⟨rfl, k3⟩
  have b3 := b2.trans (k3.mono b2.size)
  obtain ⟨a3, c3, rfl, S3⟩ := (O2.kept k3).inL
  have h3w := b3.size
  have HB3 := Blk.new w3 42 (spL rl1).toArray
  have S3a := S3.below ((Below.refl w3.heap.size w3).alloc (Nat.le_refl _) (.cells (spL rl1).toArray 42))
  have b4 := b3.alloc h3w (.cells (spL rl1).toArray 42)
  have S4 := spIn_blk HB3
  generalize hL1 : (spL rl1).toArray = L1 at *
  have HEq : Hid (∀ W a b c d, SpIn W a rl1 → SpIn W b rl1 → Calls Tryd.prog 26 #[.slice a 1 c, .slice b 1 d] W fun e w' => e = .returned (.bool true) ∧ Below W.heap.size W w') := fun W a b c d q1 q2 => eqSps_any a c b d rl1 W q1 q2 (by decide)
  have HF1' := HF1.out
  go_wp2_with (first
    | (refine build_blk (o := ⟨some 27, _, _, _, _, _⟩) (t := 42) (spC ⟨1, 9, 2⟩) (by rfl) rfl (by kernel_rfl) ?_)
    | (refine buildSlice_g (by rfl) 27 42 1 _ rfl L1 i0 (.agg (spC zSp)) Tryd.underlying27 hi hz0 (by rw [hz1]; decide) (by rw [hz1]; decide) (by rw [hz1]; simp only [List.map_toArray, List.map_cons, List.map_nil]; exact HF1') ?_))
  refine (HEq.out _ a3 (some ⟨w3.heap.size, 0, none⟩) c3 1 S3a S4).mono ?_
  rintro e w5 ⟨rfl, k5⟩
  have b5 := b4.trans (k5.mono b4.size)
  go_wp2
  go_ret
  exact ⟨rfl, b5⟩

end Go.Proofs.YtlfeholphngilaaDoor
