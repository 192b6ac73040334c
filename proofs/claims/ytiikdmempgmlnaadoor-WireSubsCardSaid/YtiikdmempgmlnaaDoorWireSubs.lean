/- switchyardkeep.WireSubs returns true for every text and every number, and changes nothing that was there. -/
import Derived.Test.YtiikdmempgmlnaaDoorSub
import Derived.Test.YtiikdmempgmlnaaDoorPlace
import Derived.Deep.RegionHeld3
namespace Go.Proofs.YtiikdmempgmlnaaDoor.wireSubs
open Go.RowKit
set_option linter.unusedVariables false

theorem long (s : ByteArray) (a1 : Int) (w : World) (hs : 200 < s.size) :
    Calls Tryd.prog 7 #[.string s, .int .i64 a1] w fun e w' => e = .returned (.bool true) ∧ Below w.heap.size w w' := by
  go_enter Tryd.func7, Tryd.ntmps7
  go_wp2_with fail
  refine (wired_any _).mono ?_
  rintro e w1 ⟨rfl, hb1⟩
  go_wp2
  go_ret
  exact ⟨rfl, hb1⟩

theorem extract_all (t : ByteArray) : t.extract 0 t.size = t := by
  apply ByteArray.ext
  apply Array.toList_inj.1
  rw [extract_list, List.drop_zero, List.take_of_length_le (by simp)]

/-- Bytes of all that is left. -/
theorem bytes_all {g : Nat} {t : ByteArray} {a : Int} (z : Int) (w : World) (h : Rd w g t a none) (hz : z = (t.size : Int)) (ha : 0 ≤ a) (hb : a + t.size ≤ 281474976710656) :
    Calls Tryd.prog 15 #[.pointer (some ⟨g, 0, none⟩), .int .i64 z] w fun e w' => e = .returned (.string t) ∧ Rd w' g (t.extract t.size t.size) (a + t.size) none ∧ w.grownBy w' (some g) := by
  subst hz
  refine (bytes_read t.size w h (Nat.le_refl _) ha hb).mono ?_
  rintro e w' ⟨rfl, q⟩
  exact ⟨by rw [extract_all], q⟩

/-- Err, something noted: a copy of it. -/
theorem err_b {g p : Nat} {s : ByteArray} {n x y : Int} (w : World) (h : Rd w g s n (some ⟨p, 0, none⟩)) (hf : Flt w p x y) :
    Calls Tryd.prog 23 #[.pointer (some ⟨g, 0, none⟩)] w fun e w' => ∃ q, e = .returned (.iface 64 (.pointer (some ⟨q, 0, none⟩))) ∧ Flt w' q x y ∧ Below w.heap.size w w' :=
  (err_some w h hf).mono (by rintro e w' ⟨rfl, rfl⟩; exact ⟨_, rfl, flt_new _ _ _, (Below.refl _ _).alloc (Nat.le_refl _) _⟩)

set_option maxHeartbeats 1600000 in
theorem short (s : ByteArray) (a1 : Int) (w : World) (hs : ¬ 200 < s.size) (hE : HasErr w) :
    Calls Tryd.prog 7 #[.string s, .int .i64 a1] w fun e w' => e = .returned (.bool true) ∧ Below w.heap.size w w' := by
  go_enter Tryd.func7, Tryd.ntmps7
  go_wp2_with fail
  refine (wired_any _).mono ?_
  rintro e w1 ⟨rfl, hb1⟩
  have hs1 := hb1.size
  go_wp2_with fail
  rw [show (s.size : Int) + 1 = ((s.size + 1 : Nat) : Int) by omega]
  refine (pick_any _ (s.size + 1) _ (by omega) (by omega)).mono ?_
  rintro e w3 ⟨n, rfl, hn, rfl⟩
  have hn' : n ≤ s.size := by omega
  go_wp2_with fail
  refine (new_any _ _ _).mono ?_
  rintro e w2 ⟨rfl, rfl⟩
  have r2 := rd_new w1 s 100 none
  have hb2 := hb1.alloc hs1 (.cells #[.string s, .int .i64 100, .pointer none] 66)
  generalize w1.alloc (.cells #[.string s, .int .i64 100, .pointer none] 66) = w2 at *
  generalize w1.heap.size = g at *
  clear hb1
  go_wp2_with fail
  refine (sub_read n _ r2 (by omega) (by omega) (by omega)).mono ?_
  rintro e w3 ⟨rfl, b3, r3, g3⟩
  have hb3 := grown_below hb2 g3 hb2.size hs1
  have hgb : g < w2.heap.size := r2.lt
  have hbb := hb2.size
  clear r2 g3 hb2
  generalize w2.heap.size = b at *
  have hz : (s.extract 0 n).size = n := by rw [ByteArray.size_extract]; omega
  go_wp2_with fail
  refine (bytes_all _ _ b3 (by rw [hz]) (by omega) (by rw [hz]; omega)).mono ?_
  rintro e w4 ⟨rfl, b4, g4⟩
  have r4 := r3.kept g4 (by intro e; cases e; omega)
  have hb4 := grown_below hb3 g4 hb3.size hbb
  clear b3 r3 g4 hb3
  have hz2 : ((s.extract 0 n).extract (s.extract 0 n).size (s.extract 0 n).size).size = 0 := by rw [ByteArray.size_extract]; omega
  generalize (s.extract 0 n).extract (s.extract 0 n).size (s.extract 0 n).size = nil at *
  go_wp2_with fail
  refine (bytes_missing 1 _ b4 (by rw [hz2]; decide)).mono ?_
  rintro e w5 ⟨rfl, b5, f5, g5⟩
  have r5 := r4.kept g5 (by intro e; cases e; omega)
  have hb5 := grown_below hb4 g5 hb4.size hbb
  clear b4 r4 g5 hb4 hz2
  generalize w4.heap.size = p at *
  rw [hz] at b5 f5
  clear hz
  have b5d : Rd w5.drew b nil (100 + n) (some ⟨p, 0, none⟩) := b5
  have f5d : Flt w5.drew p 7 (100 + n) := f5
  have r5d : Rd w5.drew g (s.extract n s.size) (100 + n) none := r5
  have hb5d : Below w.heap.size w w5.drew := hb5.drew
  clear b5 f5 r5 hb5
  have hzr : ((s.size : Int) - (n : Int)) = ((s.extract n s.size).size : Int) := by rw [ByteArray.size_extract]; omega
  have HZ := Lib.hid hzr
  clear hzr
  have HA : ∀ W, Rd W g (s.extract n s.size) (100 + n) none → Calls Tryd.prog 15 #[.pointer (some ⟨g, 0, none⟩), .int .i64 ((s.size : Int) - (n : Int))] W fun e w' => e = .returned (.string (s.extract n s.size)) ∧ Rd w' g ((s.extract n s.size).extract (s.extract n s.size).size (s.extract n s.size).size) (100 + s.size) none ∧ W.grownBy w' (some g) := by
    intro W hW
    refine (bytes_all _ _ hW HZ.out (by omega) (by rw [ByteArray.size_extract]; omega)).mono ?_
    rintro e w' ⟨rfl, q1, q2⟩
    have e1 : (100 : Int) + (n : Int) + ((s.extract n s.size).size : Int) = 100 + s.size := by rw [← HZ.out]; omega
    rw [e1] at q1
    exact ⟨rfl, q1, q2⟩
  have HB := Lib.hid HA
  clear HA
  have v1 : IntKind.i64.wrap ((s.size : Int) - (n : Int)) = (s.size : Int) - (n : Int) := by rw [IntKind.wrap_i64]; omega
  have v2 : IntKind.i64.wrap ((100 : Int) + (s.size : Int)) = (100 : Int) + (s.size : Int) := by rw [IntKind.wrap_i64]; omega
  go_wp2
  go_region_held3 (fun _ => True) (exact True.intro) (first
    | (go_at_call 23; (with_reducible refine (err_b _ b5d f5d).mono ?_); rintro e w6 ⟨q, rfl, q6, t6⟩; have r6 := r5d.below t6; have hb6 := hb5d.trans (t6.mono hb5d.size); have hE6 := hE.below hb6)
    | (go_at_call 24; (with_reducible refine (tell_at q 7 _ _ hE6 q6).mono ?_); rintro e w7 ⟨rfl, t7⟩; have r7 := r6.below t7; have hb7 := hb6.trans (t7.mono hb6.size))
    | (go_at_call 23; (with_reducible refine (err_none _ r7).mono ?_); rintro e w8 ⟨rfl, rfl⟩)
    | (go_at_call 15; (with_reducible refine (HB.out _ r7).mono ?_); rintro e w8 ⟨rfl, r8, g8⟩; have hb8 := grown_below hb7 g8 hb7.size hs1; clear r7)
    | (go_at_call 23; (with_reducible refine (err_none _ r8).mono ?_); rintro e w9 ⟨rfl, rfl⟩)
    | (go_at_call 21; (with_reducible refine (at_any _ r8).mono ?_); rintro e w9 ⟨rfl, rfl⟩))
  clear v1 v2
  all_goals go_wp2
  all_goals go_ret
  all_goals exact ⟨rfl, hb8⟩

theorem walk (s : ByteArray) (a1 : Int) (w : World) (hE : HasErr w) :
    Calls Tryd.prog 7 #[.string s, .int .i64 a1] w fun e w' => e = .returned (.bool true) ∧ Below w.heap.size w w' := by
  by_cases hs : 200 < s.size
  · exact long s a1 w hs
  · exact short s a1 w hs hE
end Go.Proofs.YtiikdmempgmlnaaDoor.wireSubs
