/- mvrp.messages and attrs: the makers, and the iterators at whatever loop's body. -/
import Derived.Test.YtikjpcnfldkifaaDoorMvRound
import Derived.Test.YtikjpcnfldkifaaDoorMvAttr
import Derived.Test.YtikjpcnfldkifaaDoorRF
namespace Go.Proofs.YtikjpcnfldkifaaDoor
open Go.RowKit
attribute [local go_sem ↓] Go.wp_at_zero Go.wp_at_succ
set_option linter.unusedSimpArgs false
set_option linter.unusedVariables false
set_option maxRecDepth 100000

theorem messages_any (g : Nat) (w : World) :
    Calls Tryd.prog 55 #[.pointer (some ⟨g, 0, none⟩)] w fun e w' => e = .returned (.func (.func 84) #[] #[.pointer (some ⟨w.heap.size, 0, none⟩)]) ∧
      Blk w' w.heap.size 128 #[.pointer (some ⟨g, 0, none⟩)] ∧ Below w.heap.size w w' ∧ w'.heap.size = w.heap.size + 1 := by
  have hmf : ∀ (fn : Fn) (first cap : Array Value) (w : World), (Instr.makeFunc fn first cap).run Tryd.prog w = .ok (.func fn first cap) w := fun _ _ _ _ => rfl
  have h1 := Blk.new w 128 #[.pointer (some ⟨g, 0, none⟩)]
  have b : Below w.heap.size w (w.alloc (.cells #[.pointer (some ⟨g, 0, none⟩)] 128)) := (Below.refl _ _).alloc (Nat.le_refl _) _
  go_enter Tryd.func55, Tryd.ntmps55
  go_wp2
  go_ret
  exact ⟨rfl, h1, b, by simp⟩

theorem attrs_any (g : Nat) (w : World) :
    Calls Tryd.prog 56 #[.pointer (some ⟨g, 0, none⟩)] w fun e w' => e = .returned (.func (.func 87) #[] #[.pointer (some ⟨w.heap.size, 0, none⟩)]) ∧
      Blk w' w.heap.size 128 #[.pointer (some ⟨g, 0, none⟩)] ∧ Below w.heap.size w w' ∧ w'.heap.size = w.heap.size + 1 := by
  have hmf : ∀ (fn : Fn) (first cap : Array Value) (w : World), (Instr.makeFunc fn first cap).run Tryd.prog w = .ok (.func fn first cap) w := fun _ _ _ _ => rfl
  have h1 := Blk.new w 128 #[.pointer (some ⟨g, 0, none⟩)]
  have b : Below w.heap.size w (w.alloc (.cells #[.pointer (some ⟨g, 0, none⟩)] 128)) := (Below.refl _ _).alloc (Nat.le_refl _) _
  go_enter Tryd.func56, Tryd.ntmps56
  go_wp2
  go_ret
  exact ⟨rfl, h1, b, by simp⟩

set_option maxHeartbeats 3200000 in
/-- messages: J st holds between two messages, the reader at st. -/
theorem messages_it {g b1 l : Nat} {S : ByteArray} (hb : S.size ≤ 281474976710656) (J : RSt → World → Prop) (hr : ∀ st W, J st W → RdT W g S 0 st ∧ st.1 ≤ S.size ∧ Blk W b1 128 #[.pointer (some ⟨g, 0, none⟩)])
    (hY : ∀ st W0 W, J st W0 → mhV S.data.toList st = true → RdT W g S 0 (mhS S.data.toList st) → W0.grownBy W (some g) →
      YieldAt Fence.wide 0 Tryd.prog l #[.int .i64 (st.1 : Nat)] W fun e W' => e = .returned (.bool true) ∧ ∃ st', J st' W' ∧ rdLeft S.size W' g < rdLeft S.size W0 g)
    (st0 : RSt) (w : World) (h0 : J st0 w) :
    Calls Tryd.prog 84 #[.func (.yield l) #[] #[], .pointer (some ⟨b1, 0, none⟩)] w fun e w' => (∃ v, e = .returned v) ∧ ∃ st W0, J st W0 ∧ mhV S.data.toList st = false ∧ RdT w' g S 0 (mhS S.data.toList st) ∧ W0.grownBy w' (some g) := by
  have HA : Hid (∀ st W, J st W → Calls Tryd.prog 85 #[.pointer (some ⟨g, 0, none⟩)] W fun e w' => e = .returned (.int .i64 (st.1 : Nat)) ∧ W = w') := fun st W h => by
    have q := atT st W (hr st W h).1
    rw [show ((0 : Nat) : Int) + (st.1 : Int) = ((st.1 : Nat) : Int) by omega] at q
    exact q
  have c0 := (hr st0 w h0).2.2.cv 0 (.pointer (some ⟨g, 0, none⟩)) rfl
  go_enter Tryd.func84, Tryd.ntmps84
  go_wp2_with fail
  refine (HA.out _ _ h0).mono ?_
  rintro e w1 ⟨rfl, rfl⟩
  go_wp2_with fail
  go_loopw [3] (fun v wr => ∃ st : RSt, v = .int .i64 (st.1 : Nat) ∧ J st wr) (fun _ wr => rdLeft S.size wr g)
  case atStart => exact ⟨st0, rfl, h0⟩
  case round =>
    clear c0 h0
    obtain ⟨st, rfl, HJ⟩ := hrel
    obtain ⟨HR, hp, HX⟩ := hr _ _ HJ
    have c1 := HX.cv 0 (.pointer (some ⟨g, 0, none⟩)) rfl
    have HH := Lib.hid (readHead_m st _ HR hp hb)
    have HYY := Lib.hid (fun W hv => hY st _ W HJ hv)
    cases hv : mhV S.data.toList st with
    | false =>
      rw [hv] at HH
      go_wp2_with fail
      refine HH.out.mono ?_
      rintro e w2 ⟨rfl, HR2, g2⟩
      go_wp2
      go_end0
      exact ⟨⟨_, rfl⟩, st, _, HJ, hv, HR2, g2⟩
    | true =>
      rw [hv] at HH
      have HY2 := Lib.hid (fun W => HYY.out W hv)
      clear HYY hv
      obtain ⟨p, hpp⟩ : ∃ p : Nat, st.1 = p := ⟨_, rfl⟩
      rw [hpp] at HY2 ⊢
      go_wp2_with fail
      refine HH.out.mono ?_
      rintro e w2 ⟨rfl, HR2, g2⟩
      have HY3 := HY2.out w2 HR2 g2
      clear HH HY2 hpp
      go_upto_region 3 with (fail)
      refine (wpIn_wide (n := 0)).1 ?_
      obtain ⟨fn, tmps, assign, body, hy, hR⟩ := HY3
      gi_wp2
      refine ⟨rfl, hR.mono ?_⟩
      rintro e W3 ⟨rfl, st', HJ3, hms⟩
      have HX3 := (hr _ _ HJ3).2.2
      have c3 := HX3.cv 0 (.pointer (some ⟨g, 0, none⟩)) rfl
      have HA3 := Lib.hid (HA.out _ _ HJ3)
      gi_wp2
      go_wp2_with fail
      refine HA3.out.mono ?_
      rintro e w4 ⟨rfl, rfl⟩
      go_wp2
      go_roundw
      case rel => exact ⟨st', rfl, HJ3⟩
      case measure => exact hms

set_option maxHeartbeats 3200000 in
/-- attrs: J st holds between two attributes. -/
theorem attrs_it {g b1 l : Nat} {S : ByteArray} (hb : S.size ≤ 281474976710656) (J : RSt → World → Prop) (E : World → Prop) (hr : ∀ st W, J st W → RdT W g S 0 st ∧ Blk W b1 128 #[.pointer (some ⟨g, 0, none⟩)])
    (hY : ∀ st W0, J st W0 → ∃ RA, AtI S.data.toList RA st ∧
      (∀ hd st' W, AtOut S.data.toList RA hd.x st' → st'.2.1 = 0 → OwnIv W W0.heap.size (.slice hd.a hd.x.ev.length hd.c) hd.x.ev → RdT W g S 0 st' → W0.grownBy W (some g) →
        YieldAt Fence.wide 0 Tryd.prog l #[.agg (mvC hd)] W fun e W' => e = .returned (.bool true) ∧ ∃ st'', J st'' W' ∧ rdLeft S.size W' g < rdLeft S.size W0 g) ∧
      (∀ st' W, AtEnd S.data.toList RA st' → RdT W g S 0 st' → W0.grownBy W (some g) → E W))
    (st0 : RSt) (w : World) (h0 : J st0 w) :
    Calls Tryd.prog 87 #[.func (.yield l) #[] #[], .pointer (some ⟨b1, 0, none⟩)] w fun e w' => (∃ v, e = .returned v) ∧ E w' := by
  go_enter Tryd.func87, Tryd.ntmps87
  go_wp2_with fail
  go_loopw [] (fun wr => ∃ st : RSt, J st wr) (fun wr => rdLeft S.size wr g)
  case atStart => exact ⟨st0, h0⟩
  case round =>
    clear h0
    obtain ⟨st, HJ⟩ := hrel
    obtain ⟨HR, HX⟩ := hr _ _ HJ
    have c1 := HX.cv 0 (.pointer (some ⟨g, 0, none⟩)) rfl
    obtain ⟨RA, hI, hgo, hend⟩ := hY _ _ HJ
    have HH := Lib.hid (readAttr_t RA st hI _ HR hb)
    have HGO := Lib.hid hgo
    have HEN := Lib.hid hend
    clear hgo hend hI HR
    go_wp2_with fail
    refine HH.out.mono ?_
    rintro e w2 ⟨hd, more, st', rfl, hA, HR2, g2⟩
    clear HH
    have HZ := Blk.new w2 36 (mvC zMvH)
    have b3 : Below w2.heap.size w2 (w2.alloc (.cells (mvC zMvH) 36)) := (Below.refl _ _).alloc (Nat.le_refl _) _
    rcases hA with ⟨rfl, hO, hs0, HO⟩ | ⟨rfl, hE⟩
    · go_upto_region 1 with (first
        | (refine alloc_blk 36 (mvC zMvH) (by rfl) rfl Tryd.mhZero ?_)
        | (refine store_blk (k := 0) 36 (.agg (mvC hd)) (mvC hd) (by rfl) rfl rfl rfl HZ (by kernel_rfl) (show (3 : Nat) ≤ 3 from Nat.le_refl 3) (by rfl) (st_whole _ _ rfl) ?_; intro w5 HA5 b5 g5))
      have b35 := b3.trans b5
      have HY5 := HGO.out hd st' w5 hO hs0 (HO.kept b35) (HR2.below b35) (grown_belowT g2 b35)
      clear HGO HEN HZ b3 b5 g5 b35 HR2 HO hO
      generalize w2.heap.size = B2 at *
      refine (wpIn_wide (n := 0)).1 ?_
      obtain ⟨fn, tmps, assign, body, hy, hR⟩ := HY5
      gi_wp2_with (refine loadR (k := 0) 36 (mvC hd) (by rfl) rfl rfl HA5 (by kernel_rfl) (by kernel_rfl) rfl ?_)
      refine ⟨rfl, hR.mono ?_⟩
      rintro e W3 ⟨rfl, st'', HJ3, hms⟩
      gi_wp2
      go_wp2
      go_roundw
      case rel => exact ⟨st'', HJ3⟩
      case measure => exact hms
    · have hEE := Lib.hid hE
      go_wp2_with (first
        | (refine alloc_blk 36 (mvC zMvH) (by rfl) rfl Tryd.mhZero ?_)
        | (refine store_blk (k := 0) 36 (.agg (mvC hd)) (mvC hd) (by rfl) rfl rfl rfl HZ (by kernel_rfl) (show (3 : Nat) ≤ 3 from Nat.le_refl 3) (by rfl) (st_whole _ _ rfl) ?_; intro w5 HA5 b5 g5))
      (try simp only [Exit.inBlock, Exit.then]); refine bodyPost_ret (results_none rfl _ _ _) rfl ?_
      have b35 := b3.trans b5
      exact ⟨⟨_, rfl⟩, HEN.out st' w5 hEE.out (HR2.below b35) (grown_belowT g2 b35)⟩

end Go.Proofs.YtikjpcnfldkifaaDoor
