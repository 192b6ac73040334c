/- switchyardlaw.MstpReads: every text, read by the program and by the document: true, and what was there is as it was. -/
import Derived.Test.YtajbkoggmhgjfaaDoorMsBack
import Derived.Test.YtajbkoggmhgjfaaDoorRefMsRead
import Derived.Test.YtajbkoggmhgjfaaDoorPlaced
import Derived.Test.YtajbkoggmhgjfaaDoorSameV
namespace Go.Proofs.YtajbkoggmhgjfaaDoor.mstpReads
open Go.RowKit
attribute [local go_sem ↓] Go.wp_at_zero Go.wp_at_succ
set_option linter.unusedSimpArgs false
set_option linter.unusedVariables false
set_option maxRecDepth 100000

/-- A list that lay somewhere ahead lies there still. -/
theorem inIn_at {w0 w w' : World} {a : Option Addr} {l : List Ins} (h : InIn w a l) (h0 : InIn w0 a l) (hb : Below w0.heap.size w w') : InIn w' a l := by
  rcases h with h | ⟨b, o, e1, e2, e3⟩
  · exact Or.inl h
  · rcases h0 with h0 | ⟨b0, o0, f1, f2, f3⟩
    · exact Or.inl h0
    · rw [e1] at f1
      cases f1
      exact Or.inr ⟨b, o, e1, Nat.lt_of_lt_of_le e2 hb.size, e3.below hb f2⟩

set_option maxHeartbeats 6400000 in
theorem walk_some (s : ByteArray) (w : World) (hE : HasErr w) (hs : s.size ≤ 3000) (X : Ms) (l : List Ins) (hll : l.length ≤ 1000000) (x y : Int)
    (HV : Hid (∀ W, Calls Tryd.prog 11 #[.string s] W fun r w' => ∃ v, r = .returned (.tuple #[.agg (msC X v), .agg (ftC x y)]) ∧ OwnI w' W.heap.size v l ∧ Below W.heap.size W w'))
    (HW : Hid (∀ W, Calls Tryd.prog 12 #[.string s] W fun r w' => ∃ v er, r = .returned (.tuple #[.agg (msC X v), er]) ∧ OwnI w' W.heap.size v l ∧ ErrAs w' er x y ∧ Below W.heap.size W w')) :
    Calls Tryd.prog 4 #[.string s] w fun e w' => e = .returned (.bool true) ∧ Below w.heap.size w w' := by
  have h3 : decide ((3000 : Int) < (s.size : Int)) = false := decide_eq_false (by omega)
  go_enter Tryd.func4, Tryd.ntmps4
  go_wp2_with fail
  refine (HV.out _).mono ?_
  rintro e w2 ⟨v1, rfl, O1, b2⟩
  obtain ⟨a1, c1, hv1, J1⟩ := O1.inL
  subst hv1
  clear O1
  have HA3 := (Blk.new w2 34 (msC zMs (.slice none 0 0))).alloc (.cells (ftC 0 0) 45)
  have HF3 := Blk.new (w2.alloc (.cells (msC zMs (.slice none 0 0)) 34)) 45 (ftC 0 0)
  have hsz : (w2.alloc (.cells (msC zMs (.slice none 0 0)) 34)).heap.size = w2.heap.size + 1 := by simp
  have B3 : Below w.heap.size w ((w2.alloc (.cells (msC zMs (.slice none 0 0)) 34)).alloc (.cells (ftC 0 0) 45)) := (b2.alloc b2.size _).alloc (by have := b2.size; simp; omega) _
  have hs2 := b2.size
  clear b2 HV
  go_upto_region 4 with (first | (refine alloc_blk 34 (msC zMs (.slice none 0 0)) (by rfl) rfl Tryd.msZero ?_) | (refine alloc_blk 45 (ftC 0 0) (by rfl) rfl Tryd.ftZero ?_) | ((refine store_blk (k := 0) 34 (.agg (msC X (.slice a1 l.length c1))) (msC X (.slice a1 l.length c1)) (by rfl) rfl rfl rfl HA3 (by kernel_rfl) (by exact Nat.le_refl 45) rfl rfl (fun w4 HA4 b4 g4 => ?_)); have HF4 := HF3.grown g4 (by rw [hsz]; simp)) | (refine store_blk (k := 0) 45 (.agg (ftC x y)) (ftC x y) (by rfl) rfl rfl rfl HF4 (by kernel_rfl) (by exact Nat.le_refl 2) rfl rfl (fun w5 HF5 b5 g5 => ?_)))
  rw [hsz] at HF5 g5 b5
  clear hsz
  have HA5 := HA4.grown g5 (by simp)
  have B5 : Below w.heap.size w w5 := (B3.trans (b4.mono hs2)).trans (b5.mono (by omega))
  have I5 : InIn w5 a1 l := by
    have q3 := J1.below ((Below.refl _ _).alloc (Nat.le_refl _) (.cells (msC zMs (.slice none 0 0)) 34))
    have q4 := q3.below ((Below.refl _ _).alloc (Nat.le_refl _) (.cells (ftC 0 0) 45))
    have q5 := inIn_at q4 J1 b4
    exact inIn_at q5 J1 (b5.mono (by omega))
  clear HA3 HF3 HA4 B3 b4 g4 b5 g5
  go_wp2_with fail
  refine (HW.out _).mono ?_
  rintro e w6 ⟨v2, er, rfl, O2, hp6, b6⟩
  obtain ⟨a2, c2, hv2, J6⟩ := O2.inL
  subst hv2
  clear O2
  have J5 := I5.below b6
  have hlt := HF5.lt
  have HA6 := (HA5.kept b6).alloc (.cells (msC zMs (.slice none 0 0)) 34)
  have HF6 := (HF5.kept b6).alloc (.cells (msC zMs (.slice none 0 0)) 34)
  have B6a := B5.trans (b6.mono B5.size)
  have B6 := B6a.alloc B6a.size (.cells (msC zMs (.slice none 0 0)) 34)
  have hp7 := hp6.below ((Below.refl _ _).alloc (Nat.le_refl _) (.cells (msC zMs (.slice none 0 0)) 34))
  have HV6 := Blk.new w6 34 (msC zMs (.slice none 0 0))
  have hs6 := B6a.size
  have hlt6 : w2.heap.size + 1 < w6.heap.size := Nat.lt_of_lt_of_le hlt b6.size
  clear HA5 HF5 B5 b6 HW hp6 B6a
  go_upto_region 5 with (first | (refine alloc_blk 34 (msC zMs (.slice none 0 0)) (by rfl) rfl Tryd.msZero ?_) | (refine store_blk (k := 0) 34 (.agg (msC X (.slice a2 l.length c2))) (msC X (.slice a2 l.length c2)) (by rfl) rfl rfl rfl HV6 (by kernel_rfl) (by exact Nat.le_refl 45) rfl rfl (fun w7 HV7 b7 g7 => ?_)))
  have HA7 := HA6.grown g7 (by simp; omega)
  have HF7 := HF6.grown g7 (by simp; omega)
  have B7 : Below w.heap.size w w7 := B6.trans (b7.mono hs6)
  have hp8 : ErrAs w7 er x y := by
    rcases hp7 with h | ⟨he, q, hq, hf⟩
    · exact Or.inl h
    · refine Or.inr ⟨he, q, hq, hf.kept g7 ?_⟩
      intro e0
      have e0 : q = w6.heap.size := by simpa using e0
      subst e0
      have h1 : (w6.alloc (.cells (msC zMs (.slice none 0 0)) 34)).heap[w6.heap.size]? = some (.cells #[.int .i64 x, .int .i64 y] 161) := hf
      have h2 : (w6.alloc (.cells (msC zMs (.slice none 0 0)) 34)).heap[w6.heap.size]? = some (.cells (msC zMs (.slice none 0 0)) 34 (0, 0)) := HV6
      have h3 := h1.symm.trans h2
      injection h3 with h3
      injection h3 with h3 h4
      exact absurd h4 (by decide)
  have hE7 : HasErr w7 := hE.below B7
  have I7 : InIn w7 a1 l := inIn_at (J5.below ((Below.refl _ _).alloc (Nat.le_refl _) (.cells (msC zMs (.slice none 0 0)) 34))) J5 b7
  have K7 : InIn w7 a2 l := inIn_at (J6.below ((Below.refl _ _).alloc (Nat.le_refl _) (.cells (msC zMs (.slice none 0 0)) 34))) J6 b7
  clear HA6 HF6 HV6 B6 g7 b7 hp7
  go_wp2_with (refine load_blk (k := 0) 45 (ftC x y) (by rfl) rfl rfl HF7 (by kernel_rfl) (by kernel_rfl) rfl ?_)
  refine (placed_any er x y _ hE7 hp8).mono ?_
  rintro e w8 ⟨rfl, b8⟩
  have HA8 := HA7.kept b8
  have HV8 := HV7.kept b8
  have I8 := I7.below b8
  have K8 := K7.below b8
  have B8 := B7.trans (b8.mono B7.size)
  clear HA7 HF7 HV7 B7 b8 hE7 hp8
  go_wp2_with (first | (refine load_blk (B := w2.heap.size) (k := 0) 34 (msC X (.slice a1 l.length c1)) (by rfl) rfl rfl HA8 (by kernel_rfl) (by kernel_rfl) rfl ?_) | (refine load_blk (B := w6.heap.size) (k := 0) 34 (msC X (.slice a2 l.length c2)) (by rfl) rfl rfl HV8 (by kernel_rfl) (by kernel_rfl) rfl ?_) | (refine build_blk (o := ⟨some 25, _, _, _, _, _⟩) (t := 77) (vdM X (.slice a1 l.length c1)) (by rfl) rfl (by kernel_rfl) ?_) | (refine build_blk (o := ⟨some 27, _, _, _, _, _⟩) (t := 77) (vdM X (.slice a2 l.length c2)) (by rfl) rfl (by kernel_rfl) ?_))
  refine (sameVerdict_mst X a1 c1 a2 c2 l _ I8 K8 hll).mono ?_
  rintro e w9 ⟨rfl, b9⟩
  go_wp2
  go_ret
  exact ⟨rfl, B8.trans (b9.mono B8.size)⟩

theorem walk (s : ByteArray) (w : World) (hE : HasErr w) :
    Calls Tryd.prog 4 #[.string s] w fun e w' => e = .returned (.bool true) ∧ Below w.heap.size w w' := by
  by_cases hs : s.size ≤ 3000
  · rcases all_ways s with ⟨e, x, h1, h2, h3⟩ | ⟨h1, h2, h3, h4, h5, h6⟩
    · refine walk_some s w hE hs zMs [] (by decide) e x (Lib.hid fun W => refMsRead_any s W hs _ (fun e' x' w' q hne B' => ?_) (fun v w' q => ?_)) (Lib.hid fun W => (msRead_bad s W (by omega) e x h2 h3).mono ?_)
      · rw [h1] at q
        cases q
        exact ⟨_, rfl, Or.inl ⟨rfl, rfl⟩, B'⟩
      · rw [h1] at q
        cases q
      · rintro r w' ⟨er, rfl, hp, hb⟩
        exact ⟨_, er, rfl, Or.inl ⟨rfl, rfl⟩, hp, hb⟩
    · refine walk_some s w hE hs (msAt s) (insAt s 102 (cntAt s)) (by rw [insAt_len]; omega) 0 (-1) (Lib.hid fun W => refMsRead_any s W hs _ (fun e' x' w' q hne B' => ?_) (fun v w' q hO B' => ?_)) (Lib.hid fun W => (msRead_ok s W (by omega) (by rw [h4]) _ _ h5 h6).mono ?_)
      · rw [h1] at q
        cases q
      · exact ⟨v, rfl, hO, B'⟩
      · rintro r w' ⟨⟨v, rfl, hO⟩, hb⟩
        exact ⟨v, _, rfl, hO, Or.inl ⟨rfl, rfl, rfl⟩, hb⟩
  · have h3 : decide ((3000 : Int) < (s.size : Int)) = true := decide_eq_true (by omega)
    go_enter Tryd.func4, Tryd.ntmps4
    go_wp2
    go_ret
    exact ⟨rfl, Below.refl _ _⟩


end Go.Proofs.YtajbkoggmhgjfaaDoor.mstpReads
