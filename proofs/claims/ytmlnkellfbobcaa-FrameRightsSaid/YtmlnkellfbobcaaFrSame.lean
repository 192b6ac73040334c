/- Frames held against each other: the reference's FrameSame. -/
import Derived.Test.YtmlnkellfbobcaaFrSame1
import Derived.Test.YtmlnkellfbobcaaFrSame2
import Derived.Test.YtmlnkellfbobcaaFrSame3
namespace Go.Proofs.Ytmlnkellfbobcaa
open Go.RowKit

/-- FrameSame, the document's answer. -/
theorem refSame_any (f g : Fr) (w : World) (hf : FrIn w f) (hg : FrIn w g) :
    Calls Try.prog 16 #[frV f, frV g] w fun e w' => e = .returned (.bool (sameB f g)) ∧ Below w.heap.size w w' := by
  unfold sameB
  cases h1 : eq6 f.d g.d with
  | false => exact refSame_0 f g w h1
  | true =>
    cases h2 : eq6 f.s g.s with
    | false => exact refSame_1 f g w h1 h2
    | true =>
      cases h3 : tagsEq f.tl g.tl with
      | false => exact refSame_2 f g w hf hg h1 h2 h3
      | true =>
        cases h4 : (f.k == g.k) with
        | false => exact refSame_3 f g w hf hg h1 h2 h3 h4
        | true =>
          cases h5 : (f.t == g.t) with
          | false => exact refSame_4 f g w hf hg h1 h2 h3 h4 h5
          | true =>
            cases h6 : (f.da == g.da) with
            | false => exact refSame_5 f g w hf hg h1 h2 h3 h4 h5 h6
            | true =>
              cases h7 : (f.sa == g.sa) with
              | false => exact refSame_6 f g w hf hg h1 h2 h3 h4 h5 h6 h7
              | true =>
                cases h8 : (f.ct == g.ct) with
                | false => exact refSame_7 f g w hf hg h1 h2 h3 h4 h5 h6 h7 h8
                | true =>
                  cases h9 : (f.ou == g.ou) with
                  | false => exact refSame_8 f g w hf hg h1 h2 h3 h4 h5 h6 h7 h8 h9
                  | true =>
                    cases h10 : (f.pi == g.pi) with
                    | false => exact refSame_9 f g w hf hg h1 h2 h3 h4 h5 h6 h7 h8 h9 h10
                    | true =>
                      cases h11 : (f.bo.toList == g.bo.toList) with
                      | false => exact refSame_10 f g w hf hg h1 h2 h3 h4 h5 h6 h7 h8 h9 h10 h11
                      | true =>
                        exact refSame_11 f g w hf hg h1 h2 h3 h4 h5 h6 h7 h8 h9 h10 h11

end Go.Proofs.Ytmlnkellfbobcaa
