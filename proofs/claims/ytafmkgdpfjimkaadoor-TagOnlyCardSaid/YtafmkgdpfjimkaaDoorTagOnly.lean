/- switchyardkeep.TagOnly returns true at every text, and changes nothing that was there. -/
import Derived.Test.YtafmkgdpfjimkaaDoorTagLow
namespace Go.Proofs.YtafmkgdpfjimkaaDoor.tagOnly
open Go.RowKit

theorem walk (s : ByteArray) (w : World) (hL : HasLib w) :
    Calls Tryd.prog 8 #[.string s] w fun e w' => e = .returned (.bool true) ∧ Below w.heap.size w w' := by
  have hq : ∀ W, (Op.equalIn 10000 40 (.agg #[.bool false, .int .i64 0, .bool false, .int .i64 0]) (.agg #[.bool false, .int .i64 0, .bool false, .int .i64 0])).run Tryd.prog W = .ok true W := fun W => by
    have h := run_eql_tag noT noT W
    rw [eqT_refl] at h
    exact h
  by_cases hs : s.size ≤ 50
  · have hd : decide ((50 : Int) < (s.size : Int)) = false := decide_eq_false (by omega)
    go_enter Tryd.func8, Tryd.ntmps8
    go_wp2_with fail
    refine (tagged_any _ hL).mono ?_
    rintro e w1 ⟨rfl, k1⟩
    have L1 := hL.below k1
    go_wp2_with fail
    refine (tagParse_any s _ L1 (by omega)).mono ?_
    rintro e w2 ⟨hp, k2⟩
    have hb2 := k1.trans (k2.mono k1.size)
    have L2 := L1.below k2
    clear k1 k2 L1
    rcases hp with ⟨t, hok, he, rfl⟩ | ⟨_, rfl⟩
    · have T3 : HasT (w2.alloc (.cells #[.bool t.s, .int .i64 t.p, .bool t.d, .int .i64 t.v] 40)) w2.heap.size t := heap_alloc_new _ _
      have hb3 : Below w.heap.size w (w2.alloc (.cells #[.bool t.s, .int .i64 t.p, .bool t.d, .int .i64 t.v] 40)) := hb2.alloc hb2.size _
      have L3 := L2.below ((Below.refl _ _).alloc (Nat.le_refl _) (.cells #[.bool t.s, .int .i64 t.p, .bool t.d, .int .i64 t.v] 40))
      have he1 : (textT t == s.toList) = true := by rw [beq_iff_eq, he, ByteArray.toList_eq]
      clear hq
      unfold tagV
      go_wp2_with fail
      refine (text_yes t hok _ L3.tab).mono ?_
      rintro e w4 ⟨rfl, k4⟩
      have T4 := T3.below k4 T3.lt
      have hb4 := hb3.trans (k4.mono hb3.size)
      have c0 := T4.c0
      have c1 := T4.c1
      have c2 := T4.c2
      have c3 := T4.c3
      clear T3 T4 k4 hb3 L3 L2
      go_wp2_with fail
      refine (right_any t _).mono ?_
      rintro e w5 ⟨rfl, k5⟩
      rw [hok]
      have hb5 := hb4.trans (k5.mono hb4.size)
      go_wp2
      go_ret
      exact ⟨rfl, hb5⟩
    · have hb3 : Below w.heap.size w (w2.alloc (.cells #[.bool false, .int .i64 0, .bool false, .int .i64 0] 40)) := hb2.alloc hb2.size _
      unfold tagV noT
      dsimp only
      go_wp2
      go_ret
      exact ⟨rfl, hb3⟩
  · have hd : decide ((50 : Int) < (s.size : Int)) = true := decide_eq_true (by omega)
    go_enter Tryd.func8, Tryd.ntmps8
    go_wp2_with fail
    refine (tagged_any _ hL).mono ?_
    rintro e w1 ⟨rfl, k1⟩
    go_wp2
    go_ret
    exact ⟨rfl, k1⟩
end Go.Proofs.YtafmkgdpfjimkaaDoor.tagOnly
