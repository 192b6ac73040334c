/- switchyardlaw.MacTexts returns true at every address and every text, and changes nothing that was there. -/
import Derived.Test.YtafmkgdpfjimkaaDoorRefParse
import Derived.Test.YtafmkgdpfjimkaaDoorBare
import Derived.Test.YtafmkgdpfjimkaaDoorMacRes
import Derived.Deep.RegionHeld3
import Derived.Deep.DrawnRows
namespace Go.Proofs.YtafmkgdpfjimkaaDoor.macTexts
open Go.RowKit
attribute [local go_sem ↓] Go.wp_at_zero Go.wp_at_succ

theorem parses_any (s : ByteArray) : ∃ (u : Nat → Nat) (er : Value) (ea : Int), (∀ i, u i < 256) ∧
    (∀ w, HasTz w → Calls Tryd.prog 10 #[.string s] w fun e w' => e = .returned (.tuple #[.agg #[.int .u8 (u 0), .int .u8 (u 1), .int .u8 (u 2), .int .u8 (u 3), .int .u8 (u 4), .int .u8 (u 5)], .int .i64 ea]) ∧ Below w.heap.size w w') ∧
    (∀ w, Calls Tryd.prog 11 #[.string s] w fun e w' => e = .returned (.tuple #[.agg #[.int .u8 (u 0), .int .u8 (u 1), .int .u8 (u 2), .int .u8 (u 3), .int .u8 (u 4), .int .u8 (u 5)], er]) ∧ Below w.heap.size w w') ∧ Bare er ea := by
  by_cases h : ∃ b : Nat → Nat, (∀ i, b i < 256) ∧ addrL b = s.data.toList
  · obtain ⟨b, hb, hl⟩ := h
    refine ⟨b, .nilIface, 0, hb, fun w hz => ?_, fun w => ?_, Bare.none⟩
    · refine (refParse_any s w hz).mono fun e w' h => ⟨?_, h.2⟩
      rcases h.1 with ⟨a, ha, hl2, he⟩ | ⟨hno, _⟩
      · rw [he, addrV_six (addrL_inj ha hb (hl2.trans hl.symm))]
        rfl
      · exact absurd hl (hno b hb)
    · refine (parse_any s w).mono fun e w' h => ⟨?_, h.2⟩
      rcases h.1 with ⟨a, ha, hl2, he⟩ | ⟨hno, _⟩
      · rw [he, addrV_six (addrL_inj ha hb (hl2.trans hl.symm))]
        rfl
      · exact absurd hl (hno b hb)
  · refine ⟨fun _ => 0, _, 3, fun _ => Nat.zero_lt_succ _, fun w hz => ?_, fun w => ?_, Bare.errno 3⟩
    · refine (refParse_any s w hz).mono fun e w' k => ⟨?_, k.2⟩
      rcases k.1 with ⟨a, ha, hl2, he⟩ | ⟨_, he⟩
      · exact absurd ⟨a, ha, hl2⟩ h
      · exact he
    · refine (parse_any s w).mono fun e w' k => ⟨?_, k.2⟩
      rcases k.1 with ⟨a, ha, hl2, he⟩ | ⟨_, he⟩
      · exact absurd ⟨a, ha, hl2⟩ h
      · exact he

theorem text_lit (x : Nat → Nat) (hx : ∀ i, x i < 256) (w : World) :
    Calls Tryd.prog 12 #[.agg #[.int .u8 (x 0), .int .u8 (x 1), .int .u8 (x 2), .int .u8 (x 3), .int .u8 (x 4), .int .u8 (x 5)]] w fun e w' => e = .returned (.string ⟨(addrL x).toArray⟩) ∧ Below w.heap.size w w' := text_any x hx w
theorem refText_lit (x : Nat → Nat) (hx : ∀ i, x i < 256) (w : World) (hz : HasTz w) :
    Calls Tryd.prog 13 #[.agg #[.int .u8 (x 0), .int .u8 (x 1), .int .u8 (x 2), .int .u8 (x 3), .int .u8 (x 4), .int .u8 (x 5)]] w fun e w' => e = .returned (.string ⟨(addrL x).toArray⟩) ∧ Below w.heap.size w w' := refText_any x hx w hz

set_option maxHeartbeats 1600000 in
set_option maxRecDepth 100000 in
theorem walk (x : Nat → Nat) (hx : ∀ i, x i < 256) (s : ByteArray) (w : World) (hz : HasTz w) (hE : HasErr w) :
    Calls Tryd.prog 3 #[addrV x, .string s] w fun e w' => e = .returned (.bool true) ∧ Below w.heap.size w w' := by
  obtain ⟨u, er, ea, hu, p1, p2, p3⟩ := parses_any s
  have P1 := Lib.hid p1
  have P2 := Lib.hid p2
  have P3 : Hid (∀ w, HasErr w → Calls Tryd.prog 14 #[er, .int .i64 ea] w fun e w' => e = .returned (.bool true) ∧ Below w.heap.size w w') := Lib.hid p3
  clear p1 p2 p3
  have hq : ∀ W, (Op.equalIn 10000 23 (.agg #[.int .u8 (u 0), .int .u8 (u 1), .int .u8 (u 2), .int .u8 (u 3), .int .u8 (u 4), .int .u8 (u 5)]) (.agg #[.int .u8 (u 0), .int .u8 (u 1), .int .u8 (u 2), .int .u8 (u 3), .int .u8 (u 4), .int .u8 (u 5)])).run Tryd.prog W = .ok true W := fun W => by
    have h := run_eql_addr u u hu hu W
    rw [decide_eq_true rfl] at h
    exact h
  have ht0 : HasA (w.alloc (.cells #[.int .u8 (x 0), .int .u8 (x 1), .int .u8 (x 2), .int .u8 (x 3), .int .u8 (x 4), .int .u8 (x 5)] 23)) w.heap.size x := heap_alloc_new w _
  have hb0 : Below w.heap.size w (w.alloc (.cells #[.int .u8 (x 0), .int .u8 (x 1), .int .u8 (x 2), .int .u8 (x 3), .int .u8 (x 4), .int .u8 (x 5)] 23)) := (Below.refl _ _).alloc (Nat.le_refl _) _
  by_cases hs : s.size ≤ 100
  · have hgt : decide ((100 : Int) < (s.size : Int)) = false := decide_eq_false (by omega)
    unfold addrV
    go_enter Tryd.func3, Tryd.ntmps3
    go_wp2_with fail
    refine (P1.out _ (hz.below hb0)).mono ?_
    rintro e w4 ⟨rfl, k4⟩
    have hb4 := below_then hb0 k4
    have ht4 : HasA w4 w.heap.size x := ht0.below k4 ht0.lt
    have hs4 := hb4.size
    clear hb0 k4 ht0
    have hb5 : Below w.heap.size w (w4.alloc (.cells #[.int .u8 (u 0), .int .u8 (u 1), .int .u8 (u 2), .int .u8 (u 3), .int .u8 (u 4), .int .u8 (u 5)] 23)) := hb4.alloc hs4 _
    have ht5 : HasA (w4.alloc (.cells #[.int .u8 (u 0), .int .u8 (u 1), .int .u8 (u 2), .int .u8 (u 3), .int .u8 (u 4), .int .u8 (u 5)] 23)) w.heap.size x := (heap_alloc_old _ _ ht4.lt).trans ht4
    have hc5 : HasA (w4.alloc (.cells #[.int .u8 (u 0), .int .u8 (u 1), .int .u8 (u 2), .int .u8 (u 3), .int .u8 (u 4), .int .u8 (u 5)] 23)) w4.heap.size u := heap_alloc_new _ _
    clear hb4 ht4
    go_wp2_with fail
    refine (P2.out _).mono ?_
    rintro e w5 ⟨rfl, k5⟩
    have hb6 := below_then hb5 k5
    have ht6 : HasA w5 w.heap.size x := ht5.below k5 ht5.lt
    have hc6 : HasA w5 w4.heap.size u := hc5.below k5 hc5.lt
    have hs6 := hb6.size
    clear hb5 k5 ht5 hc5
    have hb7 : Below w.heap.size w (w5.alloc (.cells #[.int .u8 (u 0), .int .u8 (u 1), .int .u8 (u 2), .int .u8 (u 3), .int .u8 (u 4), .int .u8 (u 5)] 23)) := hb6.alloc hs6 _
    have ht7 : HasA (w5.alloc (.cells #[.int .u8 (u 0), .int .u8 (u 1), .int .u8 (u 2), .int .u8 (u 3), .int .u8 (u 4), .int .u8 (u 5)] 23)) w.heap.size x := (heap_alloc_old _ _ ht6.lt).trans ht6
    have hc7 : HasA (w5.alloc (.cells #[.int .u8 (u 0), .int .u8 (u 1), .int .u8 (u 2), .int .u8 (u 3), .int .u8 (u 4), .int .u8 (u 5)] 23)) w4.heap.size u := (heap_alloc_old _ _ hc6.lt).trans hc6
    have hd7 : HasA (w5.alloc (.cells #[.int .u8 (u 0), .int .u8 (u 1), .int .u8 (u 2), .int .u8 (u 3), .int .u8 (u 4), .int .u8 (u 5)] 23)) w5.heap.size u := heap_alloc_new _ _
    clear hb6 ht6 hc6
    go_wp2
    generalize w5.alloc (.cells #[.int .u8 (u 0), .int .u8 (u 1), .int .u8 (u 2), .int .u8 (u 3), .int .u8 (u 4), .int .u8 (u 5)] 23) = w7 at *
    have hE7 := hE.below hb7
    have hz7 := hz.below hb7
    have S7 : w7.cell? ⟨w.heap.size, 0, none⟩ = some (.int .u8 (x 0)) ∧ w7.cell? ⟨w.heap.size, 1, none⟩ = some (.int .u8 (x 1)) ∧ w7.cell? ⟨w.heap.size, 2, none⟩ = some (.int .u8 (x 2)) ∧ w7.cell? ⟨w.heap.size, 3, none⟩ = some (.int .u8 (x 3)) ∧ w7.cell? ⟨w.heap.size, 4, none⟩ = some (.int .u8 (x 4)) ∧ w7.cell? ⟨w.heap.size, 5, none⟩ = some (.int .u8 (x 5)) ∧ w7.cell? ⟨w4.heap.size, 0, none⟩ = some (.int .u8 (u 0)) ∧ w7.cell? ⟨w4.heap.size, 1, none⟩ = some (.int .u8 (u 1)) ∧ w7.cell? ⟨w4.heap.size, 2, none⟩ = some (.int .u8 (u 2)) ∧ w7.cell? ⟨w4.heap.size, 3, none⟩ = some (.int .u8 (u 3)) ∧ w7.cell? ⟨w4.heap.size, 4, none⟩ = some (.int .u8 (u 4)) ∧ w7.cell? ⟨w4.heap.size, 5, none⟩ = some (.int .u8 (u 5)) ∧ w7.cell? ⟨w5.heap.size, 0, none⟩ = some (.int .u8 (u 0)) ∧ w7.cell? ⟨w5.heap.size, 1, none⟩ = some (.int .u8 (u 1)) ∧ w7.cell? ⟨w5.heap.size, 2, none⟩ = some (.int .u8 (u 2)) ∧ w7.cell? ⟨w5.heap.size, 3, none⟩ = some (.int .u8 (u 3)) ∧ w7.cell? ⟨w5.heap.size, 4, none⟩ = some (.int .u8 (u 4)) ∧ w7.cell? ⟨w5.heap.size, 5, none⟩ = some (.int .u8 (u 5)) := ⟨ht7.c 0 (by omega), ht7.c 1 (by omega), ht7.c 2 (by omega), ht7.c 3 (by omega), ht7.c 4 (by omega), ht7.c 5 (by omega), hc7.c 0 (by omega), hc7.c 1 (by omega), hc7.c 2 (by omega), hc7.c 3 (by omega), hc7.c 4 (by omega), hc7.c 5 (by omega), hd7.c 0 (by omega), hd7.c 1 (by omega), hd7.c 2 (by omega), hd7.c 3 (by omega), hd7.c 4 (by omega), hd7.c 5 (by omega)⟩
    go_region_held3 (fun w' => w'.cell? ⟨w.heap.size, 0, none⟩ = some (.int .u8 (x 0)) ∧ w'.cell? ⟨w.heap.size, 1, none⟩ = some (.int .u8 (x 1)) ∧ w'.cell? ⟨w.heap.size, 2, none⟩ = some (.int .u8 (x 2)) ∧ w'.cell? ⟨w.heap.size, 3, none⟩ = some (.int .u8 (x 3)) ∧ w'.cell? ⟨w.heap.size, 4, none⟩ = some (.int .u8 (x 4)) ∧ w'.cell? ⟨w.heap.size, 5, none⟩ = some (.int .u8 (x 5)) ∧ w'.cell? ⟨w4.heap.size, 0, none⟩ = some (.int .u8 (u 0)) ∧ w'.cell? ⟨w4.heap.size, 1, none⟩ = some (.int .u8 (u 1)) ∧ w'.cell? ⟨w4.heap.size, 2, none⟩ = some (.int .u8 (u 2)) ∧ w'.cell? ⟨w4.heap.size, 3, none⟩ = some (.int .u8 (u 3)) ∧ w'.cell? ⟨w4.heap.size, 4, none⟩ = some (.int .u8 (u 4)) ∧ w'.cell? ⟨w4.heap.size, 5, none⟩ = some (.int .u8 (u 5)) ∧ w'.cell? ⟨w5.heap.size, 0, none⟩ = some (.int .u8 (u 0)) ∧ w'.cell? ⟨w5.heap.size, 1, none⟩ = some (.int .u8 (u 1)) ∧ w'.cell? ⟨w5.heap.size, 2, none⟩ = some (.int .u8 (u 2)) ∧ w'.cell? ⟨w5.heap.size, 3, none⟩ = some (.int .u8 (u 3)) ∧ w'.cell? ⟨w5.heap.size, 4, none⟩ = some (.int .u8 (u 4)) ∧ w'.cell? ⟨w5.heap.size, 5, none⟩ = some (.int .u8 (u 5)))
      (first
        | exact S10
        | exact S9
        | exact S8
        | exact S7)
      (first
        | (go_at_call 12; (with_reducible refine (text_lit x hx _).mono ?_); rintro e w8 ⟨rfl, k8⟩; have ht8 : HasA w8 _ _ := HasA.below ht7.drew k8 ht7.lt; have hc8 : HasA w8 _ _ := HasA.below hc7.drew k8 hc7.lt; have hd8 : HasA w8 _ _ := HasA.below hd7.drew k8 hd7.lt; have S8 : w8.cell? ⟨w.heap.size, 0, none⟩ = some (.int .u8 (x 0)) ∧ w8.cell? ⟨w.heap.size, 1, none⟩ = some (.int .u8 (x 1)) ∧ w8.cell? ⟨w.heap.size, 2, none⟩ = some (.int .u8 (x 2)) ∧ w8.cell? ⟨w.heap.size, 3, none⟩ = some (.int .u8 (x 3)) ∧ w8.cell? ⟨w.heap.size, 4, none⟩ = some (.int .u8 (x 4)) ∧ w8.cell? ⟨w.heap.size, 5, none⟩ = some (.int .u8 (x 5)) ∧ w8.cell? ⟨w4.heap.size, 0, none⟩ = some (.int .u8 (u 0)) ∧ w8.cell? ⟨w4.heap.size, 1, none⟩ = some (.int .u8 (u 1)) ∧ w8.cell? ⟨w4.heap.size, 2, none⟩ = some (.int .u8 (u 2)) ∧ w8.cell? ⟨w4.heap.size, 3, none⟩ = some (.int .u8 (u 3)) ∧ w8.cell? ⟨w4.heap.size, 4, none⟩ = some (.int .u8 (u 4)) ∧ w8.cell? ⟨w4.heap.size, 5, none⟩ = some (.int .u8 (u 5)) ∧ w8.cell? ⟨w5.heap.size, 0, none⟩ = some (.int .u8 (u 0)) ∧ w8.cell? ⟨w5.heap.size, 1, none⟩ = some (.int .u8 (u 1)) ∧ w8.cell? ⟨w5.heap.size, 2, none⟩ = some (.int .u8 (u 2)) ∧ w8.cell? ⟨w5.heap.size, 3, none⟩ = some (.int .u8 (u 3)) ∧ w8.cell? ⟨w5.heap.size, 4, none⟩ = some (.int .u8 (u 4)) ∧ w8.cell? ⟨w5.heap.size, 5, none⟩ = some (.int .u8 (u 5)) := ⟨ht8.c 0 (by omega), ht8.c 1 (by omega), ht8.c 2 (by omega), ht8.c 3 (by omega), ht8.c 4 (by omega), ht8.c 5 (by omega), hc8.c 0 (by omega), hc8.c 1 (by omega), hc8.c 2 (by omega), hc8.c 3 (by omega), hc8.c 4 (by omega), hc8.c 5 (by omega), hd8.c 0 (by omega), hd8.c 1 (by omega), hd8.c 2 (by omega), hd8.c 3 (by omega), hd8.c 4 (by omega), hd8.c 5 (by omega)⟩)
        | (go_at_call 13; (with_reducible refine (refText_lit x hx _ ?_).mono ?_); (exact HasTz.below (w := w7.drew) hz7 k8); rintro e w9 ⟨rfl, k9⟩; have ht9 : HasA w9 _ _ := HasA.below ht8 k9 ht8.lt; have hc9 : HasA w9 _ _ := HasA.below hc8 k9 hc8.lt; have hd9 : HasA w9 _ _ := HasA.below hd8 k9 hd8.lt; have S9 : w9.cell? ⟨w.heap.size, 0, none⟩ = some (.int .u8 (x 0)) ∧ w9.cell? ⟨w.heap.size, 1, none⟩ = some (.int .u8 (x 1)) ∧ w9.cell? ⟨w.heap.size, 2, none⟩ = some (.int .u8 (x 2)) ∧ w9.cell? ⟨w.heap.size, 3, none⟩ = some (.int .u8 (x 3)) ∧ w9.cell? ⟨w.heap.size, 4, none⟩ = some (.int .u8 (x 4)) ∧ w9.cell? ⟨w.heap.size, 5, none⟩ = some (.int .u8 (x 5)) ∧ w9.cell? ⟨w4.heap.size, 0, none⟩ = some (.int .u8 (u 0)) ∧ w9.cell? ⟨w4.heap.size, 1, none⟩ = some (.int .u8 (u 1)) ∧ w9.cell? ⟨w4.heap.size, 2, none⟩ = some (.int .u8 (u 2)) ∧ w9.cell? ⟨w4.heap.size, 3, none⟩ = some (.int .u8 (u 3)) ∧ w9.cell? ⟨w4.heap.size, 4, none⟩ = some (.int .u8 (u 4)) ∧ w9.cell? ⟨w4.heap.size, 5, none⟩ = some (.int .u8 (u 5)) ∧ w9.cell? ⟨w5.heap.size, 0, none⟩ = some (.int .u8 (u 0)) ∧ w9.cell? ⟨w5.heap.size, 1, none⟩ = some (.int .u8 (u 1)) ∧ w9.cell? ⟨w5.heap.size, 2, none⟩ = some (.int .u8 (u 2)) ∧ w9.cell? ⟨w5.heap.size, 3, none⟩ = some (.int .u8 (u 3)) ∧ w9.cell? ⟨w5.heap.size, 4, none⟩ = some (.int .u8 (u 4)) ∧ w9.cell? ⟨w5.heap.size, 5, none⟩ = some (.int .u8 (u 5)) := ⟨ht9.c 0 (by omega), ht9.c 1 (by omega), ht9.c 2 (by omega), ht9.c 3 (by omega), ht9.c 4 (by omega), ht9.c 5 (by omega), hc9.c 0 (by omega), hc9.c 1 (by omega), hc9.c 2 (by omega), hc9.c 3 (by omega), hc9.c 4 (by omega), hc9.c 5 (by omega), hd9.c 0 (by omega), hd9.c 1 (by omega), hd9.c 2 (by omega), hd9.c 3 (by omega), hd9.c 4 (by omega), hd9.c 5 (by omega)⟩)
        | (go_at_call 14; (with_reducible refine (P3.out _ ?_).mono ?_); (exact HasErr.below (w := w8) (HasErr.below (w := w7.drew) hE7 k8) k9); rintro e w10 ⟨rfl, k10⟩; have ht10 : HasA w10 _ _ := HasA.below ht9 k10 ht9.lt; have hc10 : HasA w10 _ _ := HasA.below hc9 k10 hc9.lt; have hd10 : HasA w10 _ _ := HasA.below hd9 k10 hd9.lt; have S10 : w10.cell? ⟨w.heap.size, 0, none⟩ = some (.int .u8 (x 0)) ∧ w10.cell? ⟨w.heap.size, 1, none⟩ = some (.int .u8 (x 1)) ∧ w10.cell? ⟨w.heap.size, 2, none⟩ = some (.int .u8 (x 2)) ∧ w10.cell? ⟨w.heap.size, 3, none⟩ = some (.int .u8 (x 3)) ∧ w10.cell? ⟨w.heap.size, 4, none⟩ = some (.int .u8 (x 4)) ∧ w10.cell? ⟨w.heap.size, 5, none⟩ = some (.int .u8 (x 5)) ∧ w10.cell? ⟨w4.heap.size, 0, none⟩ = some (.int .u8 (u 0)) ∧ w10.cell? ⟨w4.heap.size, 1, none⟩ = some (.int .u8 (u 1)) ∧ w10.cell? ⟨w4.heap.size, 2, none⟩ = some (.int .u8 (u 2)) ∧ w10.cell? ⟨w4.heap.size, 3, none⟩ = some (.int .u8 (u 3)) ∧ w10.cell? ⟨w4.heap.size, 4, none⟩ = some (.int .u8 (u 4)) ∧ w10.cell? ⟨w4.heap.size, 5, none⟩ = some (.int .u8 (u 5)) ∧ w10.cell? ⟨w5.heap.size, 0, none⟩ = some (.int .u8 (u 0)) ∧ w10.cell? ⟨w5.heap.size, 1, none⟩ = some (.int .u8 (u 1)) ∧ w10.cell? ⟨w5.heap.size, 2, none⟩ = some (.int .u8 (u 2)) ∧ w10.cell? ⟨w5.heap.size, 3, none⟩ = some (.int .u8 (u 3)) ∧ w10.cell? ⟨w5.heap.size, 4, none⟩ = some (.int .u8 (u 4)) ∧ w10.cell? ⟨w5.heap.size, 5, none⟩ = some (.int .u8 (u 5)) := ⟨ht10.c 0 (by omega), ht10.c 1 (by omega), ht10.c 2 (by omega), ht10.c 3 (by omega), ht10.c 4 (by omega), ht10.c 5 (by omega), hc10.c 0 (by omega), hc10.c 1 (by omega), hc10.c 2 (by omega), hc10.c 3 (by omega), hc10.c 4 (by omega), hc10.c 5 (by omega), hd10.c 0 (by omega), hd10.c 1 (by omega), hd10.c 2 (by omega), hd10.c 3 (by omega), hd10.c 4 (by omega), hd10.c 5 (by omega)⟩))
    all_goals (
      go_wp2
      go_ret
      exact ⟨by simp, ((hb7.drew.trans (k8.mono hb7.size)).trans (k9.mono (Nat.le_trans hb7.size k8.size))).trans (k10.mono (Nat.le_trans (Nat.le_trans hb7.size k8.size) k9.size))⟩)
  · have hgt : decide ((100 : Int) < (s.size : Int)) = true := decide_eq_true (by omega)
    unfold addrV
    go_enter Tryd.func3, Tryd.ntmps3
    go_wp2
    go_ret
    exact ⟨rfl, hb0⟩
end Go.Proofs.YtafmkgdpfjimkaaDoor.macTexts
