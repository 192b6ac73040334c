/- switchyardkeep.marked: the facts. -/
import Derived.Test.YtlfeholphngilaaDoorMdHmac
import Derived.Test.YtlfeholphngilaaDoorMd5M
namespace Go.Proofs.YtlfeholphngilaaDoor
open Go.RowKit
attribute [local go_sem ↓] Go.wp_at_zero Go.wp_at_succ
set_option linter.unusedSimpArgs false
set_option linter.unusedVariables false
set_option maxRecDepth 100000

set_option maxHeartbeats 3200000 in
theorem marked_any (w : World) (HM : HasMd w) :
    Calls Tryd.prog 14 #[] w fun e w' => e = .returned (.bool true) ∧ Below w.heap.size w w' := by
  have H1 : Hid (∀ W, HasMd W → Calls Tryd.prog 10 #[.string ⟨#[97, 98, 99]⟩] W fun e w' => e = .returned (.string ⟨#[144, 1, 80, 152, 60, 210, 79, 176, 214, 150, 63, 125, 40, 225, 127, 114]⟩) ∧ Below W.heap.size W w') := fun W HM => by
    have h := mdSum_any ⟨#[97, 98, 99]⟩ (by decide) W HM
    rw [show (⟨#[97, 98, 99]⟩ : ByteArray).data.toList = [97, 98, 99] from rfl, md5_abc] at h
    exact h
  have H2 : Hid (∀ W, HasMd W → Calls Tryd.prog 12 #[.string ⟨#[74, 101, 102, 101]⟩, .string ⟨#[119, 104, 97, 116, 32, 100, 111, 32, 121, 97, 32, 119, 97, 110, 116, 32, 102, 111, 114, 32, 110, 111, 116, 104, 105, 110, 103, 63]⟩] W fun e w' => e = .returned (.string ⟨#[117, 12, 120, 62, 106, 176, 181, 3, 234, 168, 110, 49, 10, 93, 183, 56]⟩) ∧ Below W.heap.size W w') := fun W HM => by
    have h := mdHmac_any ⟨#[74, 101, 102, 101]⟩ ⟨#[119, 104, 97, 116, 32, 100, 111, 32, 121, 97, 32, 119, 97, 110, 116, 32, 102, 111, 114, 32, 110, 111, 116, 104, 105, 110, 103, 63]⟩ (by decide) (by decide) W HM
    rw [show (⟨#[74, 101, 102, 101]⟩ : ByteArray).data.toList = [74, 101, 102, 101] from rfl, show (⟨#[119, 104, 97, 116, 32, 100, 111, 32, 121, 97, 32, 119, 97, 110, 116, 32, 102, 111, 114, 32, 110, 111, 116, 104, 105, 110, 103, 63]⟩ : ByteArray).data.toList = [119, 104, 97, 116, 32, 100, 111, 32, 121, 97, 32, 119, 97, 110, 116, 32, 102, 111, 114, 32, 110, 111, 116, 104, 105, 110, 103, 63] from rfl, hmac_jefe] at h
    exact h
  go_enter Tryd.func14, Tryd.ntmps14
  go_wp2_with fail
  refine (H1.out _ HM).mono ?_
  rintro e w1 ⟨rfl, k1⟩
  go_wp2_with fail
  refine (H2.out _ (HM.below k1)).mono ?_
  rintro e w2 ⟨rfl, k2⟩
  go_wp2
  go_ret
  exact ⟨rfl, k1.trans (k2.mono k1.size)⟩

end Go.Proofs.YtlfeholphngilaaDoor
