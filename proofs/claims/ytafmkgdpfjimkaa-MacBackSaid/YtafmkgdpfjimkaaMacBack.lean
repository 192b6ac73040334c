/- switchyardkeep.MacBack returns true at every address and every text, and changes nothing that was there. -/
import Derived.Test.YtafmkgdpfjimkaaMacLow
namespace Go.Proofs.Ytafmkgdpfjimkaa.macBack
open Go.RowKit
attribute [local go_sem ↓] Go.wp_at_zero Go.wp_at_succ

theorem walk (x : Nat → Nat) (hx : ∀ i, x i < 256) (s : ByteArray) (w : World) :
    Calls Try.prog 3 #[addrV x, .string s] w fun e w' => e = .returned (.bool true) ∧ Below w.heap.size w w' := by
  have h1 : HasA (w.alloc (.cells #[.int .u8 (x 0), .int .u8 (x 1), .int .u8 (x 2), .int .u8 (x 3), .int .u8 (x 4), .int .u8 (x 5)] 23)) w.heap.size x := heap_alloc_new w _
  have hb1 : Below w.heap.size w (w.alloc (.cells #[.int .u8 (x 0), .int .u8 (x 1), .int .u8 (x 2), .int .u8 (x 3), .int .u8 (x 4), .int .u8 (x 5)] 23)) := (Below.refl _ _).alloc (Nat.le_refl _) _
  have hq : ∀ W, (Op.equalIn 10000 23 (.agg #[.int .u8 (x 0), .int .u8 (x 1), .int .u8 (x 2), .int .u8 (x 3), .int .u8 (x 4), .int .u8 (x 5)]) (.agg #[.int .u8 (x 0), .int .u8 (x 1), .int .u8 (x 2), .int .u8 (x 3), .int .u8 (x 4), .int .u8 (x 5)])).run Try.prog W = .ok true W := fun W => by
    have h := run_eql_addr x x hx hx W
    rw [decide_eq_true rfl] at h
    exact h
  have hlen := addrL_length x
  unfold addrV
  go_enter Try.func3, Try.ntmps3
  go_wp2_with fail
  refine (addressed_any _).mono ?_
  rintro e w2 ⟨rfl, k2⟩
  have hb2 := below_then hb1 k2
  have h2 : HasA w2 w.heap.size x := h1.below k2 h1.lt
  have c0 := h2.c 0 (by omega)
  have c1 := h2.c 1 (by omega)
  have c2 := h2.c 2 (by omega)
  have c3 := h2.c 3 (by omega)
  have c4 := h2.c 4 (by omega)
  have c5 := h2.c 5 (by omega)
  clear hb1 h1 k2
  go_wp2_with fail
  refine (text_any x hx _).mono ?_
  rintro e w3 ⟨rfl, k3⟩
  go_wp2_with fail
  refine (parse_text x hx _).mono ?_
  rintro e w4 ⟨rfl, k4⟩
  unfold addrV
  have h4 : HasA w4 w.heap.size x := (h2.below k3 h2.lt).below k4 (h2.below k3 h2.lt).lt
  have hb4 := below_then (below_then hb2 k3) k4
  clear c0 c1 c2 c3 c4 c5 h2 hb2 k3 k4
  have h5 : HasA (w4.alloc (.cells #[.int .u8 (x 0), .int .u8 (x 1), .int .u8 (x 2), .int .u8 (x 3), .int .u8 (x 4), .int .u8 (x 5)] 23)) w.heap.size x := (heap_alloc_old _ _ h4.lt).trans h4
  have g5 : HasA (w4.alloc (.cells #[.int .u8 (x 0), .int .u8 (x 1), .int .u8 (x 2), .int .u8 (x 3), .int .u8 (x 4), .int .u8 (x 5)] 23)) w4.heap.size x := heap_alloc_new _ _
  have hb5 : Below w.heap.size w (w4.alloc (.cells #[.int .u8 (x 0), .int .u8 (x 1), .int .u8 (x 2), .int .u8 (x 3), .int .u8 (x 4), .int .u8 (x 5)] 23)) := hb4.alloc hb4.size _
  have c0 := h5.c 0 (by omega)
  have c1 := h5.c 1 (by omega)
  have c2 := h5.c 2 (by omega)
  have c3 := h5.c 3 (by omega)
  have c4 := h5.c 4 (by omega)
  have c5 := h5.c 5 (by omega)
  go_wp2_with fail
  refine (text_any x hx _).mono ?_
  rintro e w6 ⟨rfl, k6⟩
  have hb6 := below_then hb5 k6
  clear c0 c1 c2 c3 c4 c5 h4 hb4 h5 g5 hb5 k6 hq
  by_cases hs : s.size ≤ 100
  · have hgt : decide ((100 : Int) < (s.size : Int)) = false := decide_eq_false (by omega)
    go_wp2_with fail
    refine (parse_any s _).mono ?_
    rintro e w7 ⟨hp, k7⟩
    have hb7 := below_then hb6 k7
    rcases hp with ⟨a, ha, he, rfl⟩ | ⟨_, rfl⟩
    · have g8 : HasA (w7.alloc (.cells #[.int .u8 (a 0), .int .u8 (a 1), .int .u8 (a 2), .int .u8 (a 3), .int .u8 (a 4), .int .u8 (a 5)] 23)) w7.heap.size a := heap_alloc_new _ _
      have hb8 : Below w.heap.size w (w7.alloc (.cells #[.int .u8 (a 0), .int .u8 (a 1), .int .u8 (a 2), .int .u8 (a 3), .int .u8 (a 4), .int .u8 (a 5)] 23)) := hb7.alloc hb7.size _
      unfold addrV
      clear hb6 k7 hb7 g8
      go_wp2_with fail
      refine (text_any a ha _).mono ?_
      rintro e w9 ⟨rfl, k9⟩
      have hb9 := below_then hb8 k9
      have he1 : (addrL a == s.toList) = true := by rw [beq_iff_eq, he, ByteArray.toList_eq]
      clear hb8 k9
      go_wp2
      go_ret
      exact ⟨rfl, hb9⟩
    · have hb8 : Below w.heap.size w (w7.alloc (.cells #[.int .u8 0, .int .u8 0, .int .u8 0, .int .u8 0, .int .u8 0, .int .u8 0] 23)) := hb7.alloc hb7.size _
      unfold addrV
      go_wp2
      go_ret
      exact ⟨rfl, hb8⟩
  · have hgt : decide ((100 : Int) < (s.size : Int)) = true := decide_eq_true (by omega)
    go_wp2
    go_ret
    exact ⟨rfl, hb6⟩
end Go.Proofs.Ytafmkgdpfjimkaa.macBack
