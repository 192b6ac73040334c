/- The reference's FrameRight at every frame. -/
import Derived.Test.YtmlnkellfbobcaaRR0
import Derived.Test.YtmlnkellfbobcaaRR1
import Derived.Test.YtmlnkellfbobcaaRL1
import Derived.Test.YtmlnkellfbobcaaRL2
import Derived.Test.YtmlnkellfbobcaaRL3
import Derived.Test.YtmlnkellfbobcaaRL4
import Derived.Test.YtmlnkellfbobcaaRL5
import Derived.Test.YtmlnkellfbobcaaRL6
import Derived.Test.YtmlnkellfbobcaaRR3
import Derived.Test.YtmlnkellfbobcaaRR4
namespace Go.Proofs.Ytmlnkellfbobcaa
open Go.RowKit

theorem refFrameRight_any (f : Fr) (w : World) (hf : FrIn w f) :
    Calls Try.prog 5 #[frV f] w fun e w' => e = .returned (.bool (rightB f)) ∧ Below w.heap.size w w' := by
  unfold rightB
  cases hst : stackB f.tl with
  | false => exact refRight_unstacked f w hf hst
  | true =>
    cases hlg : longB f with
    | true => exact refRight_long f w hf hst hlg
    | false =>
      show Calls _ _ _ _ fun e w' => e = .returned (.bool (kindB f)) ∧ _
      unfold kindB
      by_cases hk1 : f.k = 1
      · rw [if_pos hk1]
        exact refRight_ether f w hf hst hlg hk1
      · rw [if_neg hk1]
        by_cases hk2 : f.k = 2
        · rw [if_pos hk2]
          cases h1 : inB f.da 0 255 with
          | false => rw [llc_no1 f _ h1]; exact refRight_llc1 f w hf hst hlg hk2 h1
          | true =>
            cases h2 : inB f.sa 0 255 with
            | false => rw [llc_no2 f _ h2]; exact refRight_llc2 f w hf hst hlg hk2 h1 h2
            | true =>
              cases h3 : inB f.ct 0 255 with
              | false => rw [llc_no3 f _ h3]; exact refRight_llc3 f w hf hst hlg hk2 h1 h2 h3
              | true =>
                cases h4 : leadB f.da f.sa f.ct with
                | true => rw [llc_no4 f _ h4]; exact refRight_llc4 f w hf hst hlg hk2 h1 h2 h3 h4
                | false =>
                  by_cases h5 : hdI f.k + (f.bo.size : Int) ≤ 1500
                  · rw [llc_yes f _ h1 h2 h3 h4 h5]; exact refRight_llc6 f w hf hst hlg hk2 h1 h2 h3 h4 h5
                  · rw [inner_no _ _ _ (by omega)]; exact refRight_llc5 f w hf hst hlg hk2 h1 h2 h3 h4 (by omega)
        · rw [if_neg hk2]
          by_cases hk3 : f.k = 3
          · rw [if_pos hk3]
            exact refRight_snap f w hf hst hlg hk3
          · rw [if_neg hk3]
            exact refRight_else f w hf hst hlg hk1 hk2 hk3

end Go.Proofs.Ytmlnkellfbobcaa
