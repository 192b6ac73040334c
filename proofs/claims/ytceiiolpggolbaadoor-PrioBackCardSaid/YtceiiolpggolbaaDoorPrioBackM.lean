/- switchyardkeep.PrioBack returns true at every name of a bridge and of a port, and every text, and changes nothing that was there. -/
import Derived.Test.YtceiiolpggolbaaDoorNamed
import Derived.Test.YtceiiolpggolbaaDoorPrReadPort
namespace Go.Proofs.YtceiiolpggolbaaDoor.prioBack
open Go.RowKit
attribute [local go_sem ↓] Go.wp_at_zero Go.wp_at_succ
set_option linter.unusedSimpArgs false
set_option linter.unusedVariables false
set_option maxRecDepth 100000

theorem ofBytes (x : Nat → Nat) (hx : ∀ i, x i < 256) : ∀ i, i < 6 → byX (nb 6 x) i = x i := by
  intro i hi
  have : i = 0 ∨ i = 1 ∨ i = 2 ∨ i = 3 ∨ i = 4 ∨ i = 5 := by omega
  rcases this with rfl | rfl | rfl | rfl | rfl | rfl <;> (show (UInt8.ofNat _).toNat = _; rw [UInt8.toNat_ofNat']; exact Nat.mod_eq_of_lt (hx _))

/-- What both names are as bytes is read back. -/
theorem back_math (b : Br) (p n : Int) (hb : byB b) (hok : okB b = true) (hpt : okPt p n = true) :
    let l := packL b ++ ppL p n
    l.length = 10 ∧ (rdBs l 0 (0, 0, -1)) = (8, 0, -1) ∧ brC (rdB l 0 (0, 0, -1)) = brC b ∧ rpSt l 0 (8, 0, -1) = (10, 0, -1) ∧ rpC l 0 (8, 0, -1) = ptC p n := by
  intro l
  obtain ⟨p0, p1, pm, e0, e1⟩ := okB_all hok
  obtain ⟨q0, q1, qm, f0, f1⟩ := okPt_all hpt
  obtain ⟨X, hX⟩ := Int.eq_ofNat_of_zero_le (show 0 ≤ b.p + b.e by omega)
  obtain ⟨Y, hY⟩ := Int.eq_ofNat_of_zero_le (show 0 ≤ 256 * p + n by omega)
  have hl : l = putL X 2 ++ (nb 6 b.a ++ putL Y 2) := by
    show packL b ++ ppL p n = _
    rw [packL_nb, hX, Int.toNat_natCast]
    unfold ppL
    rw [hY, Int.toNat_natCast, List.append_assoc]
  have l1 := putL_length X 2
  have l2 := putL_length Y 2
  have l3 := nb_len 6 b.a
  have hlen : l.length = 10 := by rw [hl]; simp only [List.length_append]; omega
  have t1 : (l.drop 0).take 2 = putL X 2 := by
    rw [List.drop_zero, hl]
    exact List.take_left' l1
  have t2 : (l.drop 2).take 6 = nb 6 b.a := by
    rw [hl]
    have : (putL X 2 ++ (nb 6 b.a ++ putL Y 2)).drop 2 = nb 6 b.a ++ putL Y 2 := by
      conv => lhs; arg 1; rw [← l1]
      rw [List.drop_left]
    rw [this]
    conv => lhs; arg 1; rw [← l3]
    rw [List.take_left]
  have t3 : (l.drop 8).take 2 = putL Y 2 := by
    have e8 : l = (putL X 2 ++ nb 6 b.a) ++ putL Y 2 := by rw [hl, List.append_assoc]
    have l8 : (putL X 2 ++ nb 6 b.a).length = 8 := by simp only [List.length_append]; omega
    rw [e8]
    have : ((putL X 2 ++ nb 6 b.a) ++ putL Y 2).drop 8 = putL Y 2 := by
      conv => lhs; arg 1; rw [← l8]
      rw [List.drop_left]
    rw [this]
    exact List.take_of_length_le (by omega)
  have g1 := tkN_go l 0 (0, 0, -1) 2 true rfl (by rw [hlen]; decide) (by simp)
  have r1 : rdS1 l 0 (0, 0, -1) = (2, 0, -1) := by unfold rdS1; rw [show ((2 : Int)) = ((2 : Nat) : Int) from rfl, g1]
  have n1 : rdN l 0 (0, 0, -1) = X := by
    unfold rdN
    rw [show ((2 : Int)) = ((2 : Nat) : Int) from rfl, g1]
    show beN ((l.drop 0).take 2) = X
    rw [t1, beN_putL_fits X 2 (by omega)]
  have g2 := tkN_go l 0 (2, 0, -1) 6 false rfl (by rw [hlen]; decide) (by simp)
  have r2 : rdBs l 0 (0, 0, -1) = (8, 0, -1) := by unfold rdBs; rw [r1, show ((6 : Int)) = ((6 : Nat) : Int) from rfl, g2]
  have a2 : rdA l 0 (0, 0, -1) = nb 6 b.a := by
    unfold rdA
    rw [r1, show ((6 : Int)) = ((6 : Nat) : Int) from rfl, g2]
    exact t2
  have g3 := tkN_go l 0 (8, 0, -1) 2 true rfl (by rw [hlen]; decide) (by simp)
  have r3 : rdS1 l 0 (8, 0, -1) = (10, 0, -1) := by unfold rdS1; rw [show ((2 : Int)) = ((2 : Nat) : Int) from rfl, g3]
  have n3 : rdN l 0 (8, 0, -1) = Y := by
    unfold rdN
    rw [show ((2 : Int)) = ((2 : Nat) : Int) from rfl, g3]
    show beN ((l.drop 8).take 2) = Y
    rw [t3, beN_putL_fits Y 2 (by omega)]
  refine ⟨hlen, r2, ?_, ?_, ?_⟩
  · unfold rdB
    rw [if_pos (by rw [r2]), n1, a2]
    have v1 : (X : Int) / 4096 * 4096 = b.p := by omega
    have v2 : (X : Int) % 4096 = b.e := by omega
    have ob := ofBytes b.a hb
    simp only [brC, v1, v2, ob 0 (by decide), ob 1 (by decide), ob 2 (by decide), ob 3 (by decide), ob 4 (by decide), ob 5 (by decide)]
  · unfold rpSt
    rw [n3, if_neg (by omega), r3]
  · unfold rpC
    rw [n3, if_neg (by omega)]
    have v1 : (Y : Int) / 4096 * 16 = p := by omega
    have v2 : (Y : Int) % 4096 = n := by omega
    rw [v1, v2]

end Go.Proofs.YtceiiolpggolbaaDoor.prioBack
