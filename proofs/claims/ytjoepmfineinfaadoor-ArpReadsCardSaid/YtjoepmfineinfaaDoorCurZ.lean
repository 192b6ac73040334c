/- The reference's cursor: what is thrown, eaten, counted, asked for. (apart: noughts_ok, noughts_bad) -/
import Derived.Test.YtjoepmfineinfaaDoorCur
import Derived.Test.YtjoepmfineinfaaDoorRdZ
namespace Go.Proofs.YtjoepmfineinfaaDoor
open Go.RowKit
attribute [local go_sem ↓] Go.wp_at_zero Go.wp_at_succ
set_option linter.unusedSimpArgs false
set_option linter.unusedVariables false
set_option maxRecDepth 100000

/-- Only noughts are left. -/
theorem noughts_ok {w : World} {c p off : Nat} {s : ByteArray} (h : Cur w c s p off) (hp : p ≤ s.size) (hz : ∀ (j : Nat) b, p ≤ j → s.data.toList[j]? = some b → b = 0) (hb : off + s.size ≤ 281474976710656) :
    Calls Tryd.prog 32 #[.pointer (some ⟨c, 0, none⟩)] w fun r w' => r = .returned (.tuple #[]) ∧ w.grownBy w' (some c) := by
  have hlt := h.lt
  have HZ := Lib.hid hz
  clear hz
  go_enter Tryd.func32, Tryd.ntmps32
  go_wp2_with fail
  go_loopw [2] (fun _ wr => ∃ k : Nat, p ≤ k ∧ k ≤ s.size ∧ Cur wr c s k off ∧ w.grownBy wr (some c)) (fun _ wr => s.size - curAt wr c)
  case atStart => exact ⟨p, Nat.le_refl _, hp, h, World.grownBy.refl _ _⟩
  case round =>
    obtain ⟨k, hk, hks, hr, hg⟩ := hrel
    have c0 := hr.cv 0 (.string s) rfl
    have c1 := hr.cv 1 (.int .i64 k) rfl
    have z1 := hr.fz 1
    have HM := Lib.hid hr.at
    by_cases hlt2 : k < s.size
    · have hI : (0 : Int) ≤ (k : Int) := by omega
      have hks2 : k < s.size := by omega
      have hI2 : (k : Int) < (s.size : Int) := by omega
      have ht : ((s[k].toNat : Int) != 0) = false := by rw [HZ.out k s[k] hk (by rw [Array.getElem?_toList]; exact Array.getElem?_eq_getElem _)]; rfl
      have HS : Hid (Cur (wr.setCell ⟨c, 1, none⟩ (.int .i64 ((k + 1 : Nat) : Int))) c s (k + 1) off) := hr.set ((k + 1 : Nat) : Int)
      have HG := Lib.hid (grownBy_trans hg (grownC wr c 1 (.int .i64 ((k + 1 : Nat) : Int))))
      go_wp2
      go_region
      go_wp2
      go_region
      go_wp2
      go_roundw
      case rel => exact ⟨k + 1, by omega, by omega, HS.out, HG.out.os, HG.out.tape, HG.out.output, HG.out.size, HG.out.block⟩
      case measure =>
        have e2 := Cur.at HS.out
        have e3 : curAt wr c = k := HM.out
        show s.size - curAt (wr.setCell ⟨c, 1, none⟩ (.int .i64 ((k + 1 : Nat) : Int))) c < s.size - curAt wr c
        rw [e2, e3]
        omega
    · have HG := Lib.hid hg
      go_wp2
      go_region
      go_wp2
      go_end0
      exact ⟨rfl, HG.out.os, HG.out.tape, HG.out.output, HG.out.size, HG.out.block⟩

/-- Another byte, and where. -/
theorem noughts_bad {w : World} {c p off m : Nat} {s : ByteArray} (h : Cur w c s p off) (hp : p ≤ m) (hms : m < s.size) (hz : ∀ (j : Nat) b, p ≤ j → j < m → s.data.toList[j]? = some b → b = 0) (hm : s[m] ≠ 0) (hb : off + s.size ≤ 281474976710656) :
    Calls Tryd.prog 32 #[.pointer (some ⟨c, 0, none⟩)] w fun r w' => r = .panicked (Thrown 15 (off + m)) ∧ w.grownBy w' (some c) := by
  have hlt := h.lt
  have HZ := Lib.hid hz
  clear hz
  go_enter Tryd.func32, Tryd.ntmps32
  go_wp2_with fail
  go_loopw [2] (fun _ wr => ∃ k : Nat, p ≤ k ∧ k ≤ m ∧ Cur wr c s k off ∧ w.grownBy wr (some c)) (fun _ wr => s.size - curAt wr c)
  case atStart => exact ⟨p, Nat.le_refl _, hp, h, World.grownBy.refl _ _⟩
  case round =>
    obtain ⟨k, hk, hks, hr, hg⟩ := hrel
    have c0 := hr.cv 0 (.string s) rfl
    have c1 := hr.cv 1 (.int .i64 k) rfl
    have z1 := hr.fz 1
    have HM := Lib.hid hr.at
    by_cases hlt2 : k < m
    · have hI : (0 : Int) ≤ (k : Int) := by omega
      have hks2 : k < s.size := by omega
      have hI2 : (k : Int) < (s.size : Int) := by omega
      have ht : ((s[k].toNat : Int) != 0) = false := by rw [HZ.out k s[k] hk hlt2 (by rw [Array.getElem?_toList]; exact Array.getElem?_eq_getElem _)]; rfl
      have HS : Hid (Cur (wr.setCell ⟨c, 1, none⟩ (.int .i64 ((k + 1 : Nat) : Int))) c s (k + 1) off) := hr.set ((k + 1 : Nat) : Int)
      have HG := Lib.hid (grownBy_trans hg (grownC wr c 1 (.int .i64 ((k + 1 : Nat) : Int))))
      go_wp2
      go_region
      go_wp2
      go_region
      go_wp2
      go_roundw
      case rel => exact ⟨k + 1, by omega, by omega, HS.out, HG.out.os, HG.out.tape, HG.out.output, HG.out.size, HG.out.block⟩
      case measure =>
        have e2 := Cur.at HS.out
        have e3 : curAt wr c = k := HM.out
        show s.size - curAt (wr.setCell ⟨c, 1, none⟩ (.int .i64 ((k + 1 : Nat) : Int))) c < s.size - curAt wr c
        rw [e2, e3]
        omega
    · obtain rfl : k = m := by omega
      have hI : (0 : Int) ≤ (k : Int) := by omega
      have hI2 : (k : Int) < (s.size : Int) := by omega
      have ht : ((s[k].toNat : Int) != 0) = true := by
        apply bne_iff_ne.2
        intro e
        exact hm (UInt8.toNat_inj.1 (by show _ = 0; omega))
      have hbl : off + k ≤ 281474976710656 := by omega
      have HG := Lib.hid hg
      go_wp2
      go_region
      go_wp2
      go_region
      go_wp2_with fail
      refine (throw_any (show Cur wr.drew.drew c s k off from hr) 15 k (by omega) (by omega)).mono ?_
      rintro e w2 ⟨rfl, rfl⟩
      go_wp2
      exact ⟨rfl, rfl, HG.out.os, HG.out.tape, HG.out.output, HG.out.size, HG.out.block⟩

end Go.Proofs.YtjoepmfineinfaaDoor
