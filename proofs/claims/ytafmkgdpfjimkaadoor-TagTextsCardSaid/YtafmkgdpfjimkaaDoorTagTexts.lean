/- switchyardlaw.TagTexts returns true at every tag and every text, and changes nothing that was there. -/
import Derived.Test.YtafmkgdpfjimkaaDoorRefTagParse
import Derived.Test.YtafmkgdpfjimkaaDoorTagEq
import Derived.Test.YtafmkgdpfjimkaaDoorBare
import Derived.Deep.RegionHeld3
import Derived.Deep.DrawnRows
namespace Go.Proofs.YtafmkgdpfjimkaaDoor.tagTexts
open Go.RowKit
attribute [local go_sem ↓] Go.wp_at_zero Go.wp_at_succ

theorem texts_any (t : Tg) : ∃ (x : ByteArray) (er : Value) (ea : Int),
    (∀ w, HasTab w → Calls Tryd.prog 26 #[tagV t] w fun e w' => e = .returned (.tuple #[.string x, .int .i64 ea]) ∧ Below w.heap.size w w') ∧
    (∀ w, HasTab w → Calls Tryd.prog 27 #[tagV t] w fun e w' => e = .returned (.tuple #[.string x, er]) ∧ Below w.heap.size w w') ∧ Bare er ea := by
  cases h : okT t with
  | false => exact ⟨⟨#[]⟩, _, 1, fun w _ => refTagText_no t h w, fun w _ => text_no t h w, Bare.errno 1⟩
  | true => exact ⟨⟨(textT t).toArray⟩, .nilIface, 0, fun w hT => refTagText_yes t h w hT, fun w hT => text_yes t h w hT, Bare.none⟩

theorem text_one {a b : Tg} (ha : okT a = true) (hb : okT b = true) (h : textT a = textT b) : a = b := by
  rw [← guess_text a ha, h, guess_text b hb]

theorem parses_any (s : ByteArray) (hs : s.size ≤ 100) : ∃ (u : Tg) (er : Value) (ea : Int),
    (∀ w, HasLib w → Calls Tryd.prog 28 #[.string s] w fun e w' => e = .returned (.tuple #[tagV u, .int .i64 ea]) ∧ Below w.heap.size w w') ∧
    (∀ w, HasLib w → Calls Tryd.prog 29 #[.string s] w fun e w' => e = .returned (.tuple #[tagV u, er]) ∧ Below w.heap.size w w') ∧ Bare er ea := by
  by_cases h : ∃ t : Tg, okT t = true ∧ textT t = s.data.toList
  · obtain ⟨t, hok, ht⟩ := h
    refine ⟨t, .nilIface, 0, fun w hL => ?_, fun w hL => ?_, Bare.none⟩
    · refine (refTagParse_any s w hL.tab hs).mono fun e w' k => ⟨?_, k.2⟩
      rcases k.1 with ⟨a, ha, hl, he⟩ | ⟨hno, _⟩
      · rw [he, text_one ha hok (hl.trans ht.symm)]
      · exact absurd ht (hno t hok)
    · refine (tagParse_any s w hL (by omega)).mono fun e w' k => ⟨?_, k.2⟩
      rcases k.1 with ⟨a, ha, hl, he⟩ | ⟨hno, _⟩
      · rw [he, text_one ha hok (hl.trans ht.symm)]
      · exact absurd ht (hno t hok)
  · refine ⟨noT, _, 3, fun w hL => ?_, fun w hL => ?_, Bare.errno 3⟩
    · refine (refTagParse_any s w hL.tab hs).mono fun e w' k => ⟨?_, k.2⟩
      rcases k.1 with ⟨a, ha, hl, he⟩ | ⟨_, he⟩
      · exact absurd ⟨a, ha, hl⟩ h
      · exact he
    · refine (tagParse_any s w hL (by omega)).mono fun e w' k => ⟨?_, k.2⟩
      rcases k.1 with ⟨a, ha, hl, he⟩ | ⟨_, he⟩
      · exact absurd ⟨a, ha, hl⟩ h
      · exact he

set_option maxHeartbeats 1600000 in
set_option maxRecDepth 100000 in
theorem walk (t : Tg) (s : ByteArray) (w : World) (hL : HasLib w) (hE : HasErr w) :
    Calls Tryd.prog 6 #[tagV t, .string s] w fun e w' => e = .returned (.bool true) ∧ Below w.heap.size w w' := by
  have ht0 : HasT (w.alloc (.cells #[.bool t.s, .int .i64 t.p, .bool t.d, .int .i64 t.v] 40)) w.heap.size t := heap_alloc_new w _
  have hb0 : Below w.heap.size w (w.alloc (.cells #[.bool t.s, .int .i64 t.p, .bool t.d, .int .i64 t.v] 40)) := (Below.refl _ _).alloc (Nat.le_refl _) _
  by_cases hs : s.size ≤ 100
  · have hgt : decide ((100 : Int) < (s.size : Int)) = false := decide_eq_false (by omega)
    obtain ⟨x, er, ea, p1, p2, p3⟩ := texts_any t
    obtain ⟨u, fr, fa, q1, q2, q3⟩ := parses_any s hs
    have P1 := Lib.hid p1
    have P2 := Lib.hid p2
    have P3 : Hid (∀ w, HasErr w → Calls Tryd.prog 14 #[er, .int .i64 ea] w fun e w' => e = .returned (.bool true) ∧ Below w.heap.size w w') := Lib.hid p3
    have Q1 := Lib.hid q1
    have Q2 := Lib.hid q2
    have Q3 : Hid (∀ w, HasErr w → Calls Tryd.prog 14 #[fr, .int .i64 fa] w fun e w' => e = .returned (.bool true) ∧ Below w.heap.size w w') := Lib.hid q3
    clear p1 p2 p3 q1 q2 q3
    have hq : ∀ W, (Op.equalIn 10000 40 (.agg #[.bool u.s, .int .i64 u.p, .bool u.d, .int .i64 u.v]) (.agg #[.bool u.s, .int .i64 u.p, .bool u.d, .int .i64 u.v])).run Tryd.prog W = .ok true W := fun W => by
      have h := run_eql_tag u u W
      rw [eqT_refl] at h
      exact h
    unfold tagV
    go_enter Tryd.func6, Tryd.ntmps6
    go_wp2_with fail
    refine (P1.out _ (hL.below hb0).tab).mono ?_
    rintro e w3 ⟨rfl, k3⟩
    have hb3 := hb0.trans (k3.mono hb0.size)
    have ht3 : HasT w3 w.heap.size t := ht0.below k3 ht0.lt
    have c0 := ht3.c0
    have c1 := ht3.c1
    have c2 := ht3.c2
    have c3 := ht3.c3
    clear hb0 k3 ht0
    go_wp2_with fail
    refine (P2.out _ (hL.below hb3).tab).mono ?_
    rintro e w4 ⟨rfl, k4⟩
    have hb4 := hb3.trans (k4.mono hb3.size)
    clear hb3 k4 ht3 c0 c1 c2 c3
    go_wp2_with fail
    refine (Q1.out _ (hL.below hb4)).mono ?_
    rintro e w5 ⟨rfl, k5⟩
    have hb5 := hb4.trans (k5.mono hb4.size)
    have hs5 := hb5.size
    clear hb4 k5
    unfold tagV
    have hc5 : HasT (w5.alloc (.cells #[.bool u.s, .int .i64 u.p, .bool u.d, .int .i64 u.v] 40)) w5.heap.size u := heap_alloc_new _ _
    have hb5' : Below w.heap.size w (w5.alloc (.cells #[.bool u.s, .int .i64 u.p, .bool u.d, .int .i64 u.v] 40)) := hb5.alloc hs5 _
    clear hb5
    go_wp2_with fail
    refine (Q2.out _ (hL.below hb5')).mono ?_
    rintro e w6 ⟨rfl, k6⟩
    have hb6 := hb5'.trans (k6.mono hb5'.size)
    have hc6 : HasT w6 w5.heap.size u := hc5.below k6 hc5.lt
    have hs6 := hb6.size
    clear hb5' k6 hc5
    unfold tagV
    have hc7 : HasT (w6.alloc (.cells #[.bool u.s, .int .i64 u.p, .bool u.d, .int .i64 u.v] 40)) w5.heap.size u := (heap_alloc_old _ _ hc6.lt).trans hc6
    have hd7 : HasT (w6.alloc (.cells #[.bool u.s, .int .i64 u.p, .bool u.d, .int .i64 u.v] 40)) w6.heap.size u := heap_alloc_new _ _
    have hb7 : Below w.heap.size w (w6.alloc (.cells #[.bool u.s, .int .i64 u.p, .bool u.d, .int .i64 u.v] 40)) := hb6.alloc hs6 _
    clear hc6 hb6
    go_wp2_with fail
    generalize w6.alloc (.cells #[.bool u.s, .int .i64 u.p, .bool u.d, .int .i64 u.v] 40) = w7 at *
    have hE7 := (hE.below hb7)
    clear hL
    refine (P3.out _ hE7).mono ?_
    rintro e w8 ⟨rfl, k8⟩
    have hc8 : HasT w8 w5.heap.size u := hc7.below k8 hc7.lt
    have hd8 : HasT w8 w6.heap.size u := hd7.below k8 hd7.lt
    have hb8 := hb7.trans (k8.mono hb7.size)
    have hE8 := HasErr.below hE7 k8
    clear hc7 hd7 hb7 k8 hE7
    go_wp2_with fail
    refine (Q3.out _ hE8).mono ?_
    rintro e w9 ⟨rfl, k9⟩
    have hc9 : HasT w9 w5.heap.size u := hc8.below k9 hc8.lt
    have hd9 : HasT w9 w6.heap.size u := hd8.below k9 hd8.lt
    have hb9 := hb8.trans (k9.mono hb8.size)
    clear hc8 hd8 hb8 k9 hE8
    have c0 := hc9.c0
    have c1 := hc9.c1
    have c2 := hc9.c2
    have c3 := hc9.c3
    have d0 := hd9.c0
    have d1 := hd9.c1
    have d2 := hd9.c2
    have d3 := hd9.c3
    go_wp2
    go_ret
    exact ⟨by simp, hb9⟩
  · have hgt : decide ((100 : Int) < (s.size : Int)) = true := decide_eq_true (by omega)
    unfold tagV
    go_enter Tryd.func6, Tryd.ntmps6
    go_wp2
    go_ret
    exact ⟨rfl, hb0⟩
end Go.Proofs.YtafmkgdpfjimkaaDoor.tagTexts
