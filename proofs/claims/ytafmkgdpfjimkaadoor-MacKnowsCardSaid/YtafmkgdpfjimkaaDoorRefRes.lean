/- The reference's Reserved at every address; nothing that was there is changed. -/
import Derived.Test.YtafmkgdpfjimkaaDoorAddrText
namespace Go.Proofs.YtafmkgdpfjimkaaDoor
open Go.RowKit
attribute [local go_sem ↓] Go.wp_at_zero Go.wp_at_succ

theorem known_text (k : Nat) : [48, 49, 58, 56, 48, 58, 99, 50, 58, 48, 48, 58, 48, 48, 58] ++ hex2 k = addrL (knownF k) := by
  simp [addrL, addrTo, knownF, hex2, hexc]

set_option maxHeartbeats 1600000 in
set_option maxRecDepth 100000 in
theorem refReserved_any (x : Nat → Nat) (hx : ∀ i, x i < 256) (w : World) (hz : HasTz w) :
    Calls Tryd.prog 18 #[addrV x] w fun e w' => e = .returned (.int .i64 (resv x)) ∧ Below w.heap.size w w' := by
  have a1 : HasA (w.alloc (.cells #[.int .u8 (x 0), .int .u8 (x 1), .int .u8 (x 2), .int .u8 (x 3), .int .u8 (x 4), .int .u8 (x 5)] 23)) w.heap.size x := heap_alloc_new w _
  have b1 : Below w.heap.size w (w.alloc (.cells #[.int .u8 (x 0), .int .u8 (x 1), .int .u8 (x 2), .int .u8 (x 3), .int .u8 (x 4), .int .u8 (x 5)] 23)) := (Below.refl _ _).alloc (Nat.le_refl _) _
  unfold addrV
  go_enter Tryd.func18, Tryd.ntmps18
  go_wp2
  go_loopw [4] (fun i wr => ∃ k : Nat, k ≤ 16 ∧ i = .int .i64 k ∧ (∀ j, j < k → addrL x ≠ addrL (knownF j)) ∧ HasA wr w.heap.size x ∧ Below w.heap.size w wr) (fun i _ => 16 - (intOf i).toNat)
  case atStart => exact ⟨0, by omega, rfl, fun j hj => absurd hj (by omega), a1, b1⟩
  case round =>
    obtain ⟨k, hk, rfl, hno, ha, hb⟩ := hrel
    by_cases hlt : k < 16
    · have z1 : HasTz wr := hz.below hb
      have c0 := ha.c 0 (by omega)
      have c1 := ha.c 1 (by omega)
      have c2 := ha.c 2 (by omega)
      have c3 := ha.c 3 (by omega)
      have c4 := ha.c 4 (by omega)
      have c5 := ha.c 5 (by omega)
      have hadd : ∀ W, (Op.stringOp .add ⟨#[48, 49, 58, 56, 48, 58, 99, 50, 58, 48, 48, 58, 48, 48, 58]⟩ ⟨(hex2 k).toArray⟩).run Tryd.prog W = .ok (.string ⟨(addrL (knownF k)).toArray⟩) W := fun W => by
        rw [← known_text k]
        exact run_string_add_lists W [48, 49, 58, 56, 48, 58, 99, 50, 58, 48, 48, 58, 48, 48, 58] (hex2 k) (by decide) (by simp [hex2])
      go_wp2_with fail
      refine (refText_any x hx _ z1).mono ?_
      rintro e w2 ⟨rfl, k2⟩
      have hb2 := below_then hb k2
      have ha2 := ha.below k2 ha.lt
      have z2 : HasTz w2 := hz.below hb2
      clear hb ha k2 z1 c0 c1 c2 c3 c4 c5 a1 b1
      go_wp2_with fail
      refine (digits16 k (by omega) _ z2).mono ?_
      rintro e w3 ⟨rfl, k3⟩
      have hb3 := below_then hb2 k3
      have ha3 := ha2.below k3 ha2.lt
      clear hb2 ha2 k3 z2
      by_cases he : addrL x = addrL (knownF k)
      · have he1 : (addrL x == addrL (knownF k)) = true := beq_iff_eq.2 he
        have hs := addrL_inj hx (knownF_lt k (by omega)) he
        have h5 : x 5 = k := by simp only [six, List.cons.injEq, and_true] at hs; exact hs.2.2.2.2.2
        have HR : Hid (resv x = (k : Int)) := by
          show _ = _
          unfold resv
          rw [h5, if_pos ⟨hlt, hs⟩]
        clear hno hs h5 he
        go_wp2
        go_ret
        exact ⟨by rw [HR.out]; rfl, hb3⟩
      · have he1 : (addrL x == addrL (knownF k)) = false := beq_eq_false_iff_ne.2 he
        have hno2 : ∀ j, j < k + 1 → addrL x ≠ addrL (knownF j) := fun j hj => by
          rcases Nat.lt_or_ge j k with h | h
          · exact hno j h
          · have : j = k := by omega
            subst this
            exact he
        clear hno he
        go_wp2
        go_roundw
        case rel => exact ⟨k + 1, by omega, by go_num, hno2, ha3, hb3⟩
        case measure => simp [intOf]; omega
    · obtain rfl : k = 16 := by omega
      have HR : Hid (resv x = -1) := by
        show _ = _
        unfold resv
        rw [if_neg]
        rintro ⟨h1, h2⟩
        exact hno (x 5) h1 (addrL_six h2)
      clear hno
      go_wp2
      go_ret
      exact ⟨by rw [HR.out]; rfl, hb⟩
end Go.Proofs.YtafmkgdpfjimkaaDoor
