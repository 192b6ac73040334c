/- frame.Same: whether two frames are one. -/
import Derived.Test.YtnlphldkdglofaaFrSm1
import Derived.Test.YtnlphldkdglofaaFrSm2
import Derived.Test.YtnlphldkdglofaaFrSm3
import Derived.Test.YtnlphldkdglofaaFrSm4
namespace Go.Proofs.Ytnlphldkdglofaa
open Go.RowKit

theorem sameB_seven (f g : Fr) : sameB f g = (eq6 f.d g.d && (eq6 f.s g.s && (tagsEq f.tl g.tl && (same7 f g && (f.bo.toList == g.bo.toList))))) := by
  simp only [sameB, same7, List.all_cons, List.all_nil, nums, Bool.and_true, Bool.and_assoc]

theorem same_any (f g : Fr) (w : World) (hf : FrIn w f) (hg : FrIn w g) :
    Calls Try.prog 9 #[frV f, frV g] w fun e w' => e = .returned (.bool (sameB f g)) ∧ Below w.heap.size w w' := by
  rw [sameB_seven]
  cases h1 : eq6 f.d g.d with
  | false => exact same_0 f g w hf hg h1
  | true =>
    cases h2 : eq6 f.s g.s with
    | false => exact same_1 f g w hf hg h1 h2
    | true =>
      cases h3 : tagsEq f.tl g.tl with
      | false => exact same_2 f g w hf hg h1 h2 h3
      | true =>
        cases h4 : same7 f g with
        | false => exact same_3 f g w hf hg h1 h2 h3 h4
        | true =>
          cases h5 : (f.bo.toList == g.bo.toList) with
          | false => exact same_4 f g w hf hg h1 h2 h3 h4 h5
          | true =>
            exact same_5 f g w hf hg h1 h2 h3 h4 h5

end Go.Proofs.Ytnlphldkdglofaa
