/- region.Digest at every list. -/
import Derived.Test.YtlfeholphngilaaDoorSpTable
import Derived.Test.YtlfeholphngilaaDoorMdHmac
namespace Go.Proofs.YtlfeholphngilaaDoor
open Go.RowKit
attribute [local go_sem ↓] Go.wp_at_zero Go.wp_at_succ
set_option linter.unusedSimpArgs false
set_option linter.unusedVariables false
set_option maxRecDepth 100000

def keyB : ByteArray := ⟨#[19, 172, 6, 166, 46, 71, 253, 81, 249, 93, 43, 162, 67, 205, 3, 70]⟩
theorem keyB_list : keyB.data.toList = mstKey := rfl
set_option maxHeartbeats 3200000 in
theorem spDigest_bad (a : Option Addr) (c : Nat) (l : List Sp) (w : World) (h : SpIn w a l) (hlen : l.length ≤ 1000000) (hr : rightL l = false) :
    Calls Tryd.prog 30 #[.slice a l.length c] w fun e w' => e = .returned (.tuple #[.string ⟨#[]⟩, .iface 35 (.int .i64 1)]) ∧ Below w.heap.size w w' := by
  have HT := Lib.hid (spTable_bad a c l w h hlen hr)
  clear hr
  go_enter Tryd.func30, Tryd.ntmps30
  go_wp2_with fail
  refine HT.out.mono ?_
  rintro e w1 ⟨rfl, k1⟩
  go_wp2
  go_ret2
  exact ⟨rfl, k1⟩
set_option maxHeartbeats 3200000 in
theorem spDigest_ok (a : Option Addr) (c : Nat) (l : List Sp) (w : World) (h : SpIn w a l) (hlen : l.length ≤ 1000000) (hr : rightL l = true) (HM : HasMd w) :
    Calls Tryd.prog 30 #[.slice a l.length c] w fun e w' => e = .returned (.tuple #[.string ⟨(hmacL mstKey (tabB l)).toArray⟩, .nilIface]) ∧ Below w.heap.size w w' := by
  have HT := Lib.hid (spTable_ok a c l w h hlen hr)
  have hts : (⟨(tabB l).toArray⟩ : ByteArray).size ≤ 900000 := by show (tabB l).toArray.size ≤ _; rw [List.size_toArray, tabB_len]; omega
  have HH : Hid (∀ W, HasMd W → Calls Tryd.prog 12 #[.string ⟨#[19, 172, 6, 166, 46, 71, 253, 81, 249, 93, 43, 162, 67, 205, 3, 70]⟩, .string ⟨(tabB l).toArray⟩] W fun e w' => e = .returned (.string ⟨(hmacL mstKey (tabB l)).toArray⟩) ∧ Below W.heap.size W w') := fun W HM => by
    have h := mdHmac_any keyB ⟨(tabB l).toArray⟩ (by decide) hts W HM
    rw [keyB_list] at h
    exact h
  generalize (⟨(hmacL mstKey (tabB l)).toArray⟩ : ByteArray) = out at *
  generalize (⟨(tabB l).toArray⟩ : ByteArray) = tb at *
  clear hr
  go_enter Tryd.func30, Tryd.ntmps30
  go_wp2_with fail
  refine HT.out.mono ?_
  rintro e w1 ⟨rfl, k1⟩
  go_wp2_with fail
  refine (HH.out _ (HM.below k1)).mono ?_
  rintro e w2 ⟨rfl, k2⟩
  go_wp2
  go_ret2
  exact ⟨rfl, k1.trans (k2.mono k1.size)⟩

end Go.Proofs.YtlfeholphngilaaDoor
