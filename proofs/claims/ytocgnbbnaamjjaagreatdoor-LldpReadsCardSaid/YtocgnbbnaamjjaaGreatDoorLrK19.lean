/- Texts one behind the other. switchyardlaw.LldpReads: every text, read by the program and by the document: true, and what was there is as it was. -/
import Derived.Test.YtocgnbbnaamjjaaGreatDoorLrK11
import Derived.Test.YtocgnbbnaamjjaaGreatDoorLrK15
import Derived.Test.YtocgnbbnaamjjaaGreatDoorLrK16
import Derived.Test.YtocgnbbnaamjjaaGreatDoorLrK18
namespace Go.Proofs.YtocgnbbnaamjjaaGreatDoor.lldpReads
open Go.RowKit
attribute [local go_sem ↓] Go.wp_at_zero Go.wp_at_succ
set_option linter.unusedSimpArgs false
set_option linter.unusedVariables false
set_option maxRecDepth 100000

theorem rd_len (S : List UInt8) (h : S.length ≤ 3000) : ldLen (rdLd S).val := by
  unfold rdLd
  cases hT : rdAll S with
  | bad e p => exact (show ldLen zLd by unfold ldLen; decide)
  | ok l a e =>
    have hw := wrote_rdAll S l a e hT
    obtain ⟨f1, f2, f3, f4, f5, f6, f7⟩ := hw
    have hll : l.length ≤ 50000 := by omega
    have h0 : ldOf (.ok l a e) = ldAtK e l a 0 := (ldAtK_zero e l a).symm
    rw [h0]
    rcases hR : ldAtK e l a 0 with ⟨e', p⟩ | x
    · exact (show ldLen zLd by unfold ldLen; decide)
    · have hx : x = ldVal l := ((ldGo_ok e x l [] zLd a).1 hR).2.2
      obtain ⟨g1, g2, g3, g4, g5, g6⟩ := fold_len l zLd
      have z0 : zLd.de.length = 0 ∧ zLd.ho.length = 0 ∧ zLd.sy.length = 0 ∧ zLd.ca.length = 0 ∧ zLd.ma.length = 0 ∧ zLd.og.length = 0 := ⟨rfl, rfl, rfl, rfl, rfl, rfl⟩
      have c4 := cntK_le 4 l
      have c5 := cntK_le 5 l
      have c6 := cntK_le 6 l
      have c7 := cntK_le 7 l
      show ldLen x
      rw [hx]
      unfold ldLen ldVal
      refine ⟨?_, ?_, ?_, ?_, ?_, ?_⟩ <;> omega

set_option maxHeartbeats 6400000 in
theorem walk_some (s : ByteArray) (w : World) (hE : HasErr w) (hs : s.size ≤ 3000) (X : Ld) (hl : ldLen X) (x y : Int)
    (HV : Hid (∀ W, Calls Tryz.prog 4 #[.string s] W fun r w' => ∃ q, r = .returned (.tuple #[.agg (ldC X q), .agg (ftC x y)]) ∧ LdIn w' X q ∧ Below W.heap.size W w'))
    (HW : Hid (∀ W, Calls Tryz.prog 5 #[.string s] W fun r w' => ∃ q er, r = .returned (.tuple #[.agg (ldC X q), er]) ∧ LdIn w' X q ∧ ErrAs w' er x y ∧ Below W.heap.size W w')) :
    Calls Tryz.prog 3 #[.string s] w fun e w' => e = .returned (.bool true) ∧ Below w.heap.size w w' := by
  have h3 : decide ((3000 : Int) < (s.size : Int)) = false := decide_eq_false (by omega)
  go_enter Tryz.func3, Tryz.ntmps3
  go_wp2_with fail
  refine (HV.out _).mono ?_
  rintro e w2 ⟨q1, rfl, J1, b2⟩
  have HA3 := (Blk.new w2 29 (ldC zLd zLdA)).alloc (.cells (ftC 0 0) 32)
  have HF3 := Blk.new (w2.alloc (.cells (ldC zLd zLdA) 29)) 32 (ftC 0 0)
  have hsz : (w2.alloc (.cells (ldC zLd zLdA) 29)).heap.size = w2.heap.size + 1 := by simp
  have B3 : Below w.heap.size w ((w2.alloc (.cells (ldC zLd zLdA) 29)).alloc (.cells (ftC 0 0) 32)) := (b2.alloc b2.size _).alloc (by have := b2.size; simp; omega) _
  have hs2 := b2.size
  clear b2 HV
  go_upto_region 4 with (first | (refine alloc_blk 29 (ldC zLd zLdA) (by rfl) rfl Tryz.ldZero ?_) | (refine alloc_blk 32 (ftC 0 0) (by rfl) rfl Tryz.ftZero ?_) | (refine store_blk (k := 0) 29 (.agg (ldC X q1)) (ldC X q1) (by rfl) rfl rfl rfl HA3 (by kernel_rfl) (by exact Nat.le_refl 11) rfl rfl (fun w4 HA4 b4 g4 => ?_); have HF4 := HF3.grown g4 (by rw [hsz]; simp)) | (refine store_blk (k := 0) 32 (.agg (ftC x y)) (ftC x y) (by rfl) rfl rfl rfl HF4 (by kernel_rfl) (by exact Nat.le_refl 2) rfl rfl (fun w5 HF5 b5 g5 => ?_)))
  rw [hsz] at HF5 g5 b5
  clear hsz
  have HA5 := HA4.grown g5 (by simp)
  have B5 : Below w.heap.size w w5 := (B3.trans (b4.mono hs2)).trans (b5.mono (by omega))
  have I5 : LdIn w5 X q1 := by
    have z3 := J1.below ((Below.refl _ _).alloc (Nat.le_refl _) (.cells (ldC zLd zLdA) 29))
    have z4 := z3.below ((Below.refl _ _).alloc (Nat.le_refl _) (.cells (ftC 0 0) 32))
    have z5 := z4.late J1 b4
    exact z5.late J1 (b5.mono (by omega))
  clear HA3 HF3 HA4 B3 b4 g4 b5 g5
  go_wp2_with fail
  refine (HW.out _).mono ?_
  rintro e w6 ⟨q2, er, rfl, J6, hp6, b6⟩
  have J5 := I5.below b6
  have hlt := HF5.lt
  have HA6 := (HA5.kept b6).alloc (.cells (ldC zLd zLdA) 29)
  have HF6 := (HF5.kept b6).alloc (.cells (ldC zLd zLdA) 29)
  have B6a := B5.trans (b6.mono B5.size)
  have B6 := B6a.alloc B6a.size (.cells (ldC zLd zLdA) 29)
  have hp7 := hp6.below ((Below.refl _ _).alloc (Nat.le_refl _) (.cells (ldC zLd zLdA) 29))
  have HV6 := Blk.new w6 29 (ldC zLd zLdA)
  have hs6 := B6a.size
  have hlt6 : w2.heap.size + 1 < w6.heap.size := Nat.lt_of_lt_of_le hlt b6.size
  clear HA5 HF5 B5 b6 HW hp6 B6a
  go_upto_region 5 with (first | (refine alloc_blk 29 (ldC zLd zLdA) (by rfl) rfl Tryz.ldZero ?_) | (refine store_blk (k := 0) 29 (.agg (ldC X q2)) (ldC X q2) (by rfl) rfl rfl rfl HV6 (by kernel_rfl) (by exact Nat.le_refl 11) rfl rfl (fun w7 HV7 b7 g7 => ?_)))
  have HA7 := HA6.grown g7 (by simp; omega)
  have HF7 := HF6.grown g7 (by simp; omega)
  have B7 : Below w.heap.size w w7 := B6.trans (b7.mono hs6)
  have hp8 : ErrAs w7 er x y := by
    rcases hp7 with h | ⟨he, q, hq, hf⟩
    · exact Or.inl h
    · refine Or.inr ⟨he, q, hq, hf.kept g7 ?_⟩
      intro e0
      have e0 : q = w6.heap.size := by simpa using e0
      subst e0
      have h1 : (w6.alloc (.cells (ldC zLd zLdA) 29)).heap[w6.heap.size]? = some (.cells #[.int .i64 x, .int .i64 y] 99) := hf
      have h2 : (w6.alloc (.cells (ldC zLd zLdA) 29)).heap[w6.heap.size]? = some (.cells (ldC zLd zLdA) 29 (0, 0)) := HV6
      have h3 := h1.symm.trans h2
      injection h3 with h3
      injection h3 with h3 h4
      exact absurd h4 (by decide)
  have hE7 : HasErr w7 := hE.below B7
  have I7 : LdIn w7 X q1 := (J5.below ((Below.refl _ _).alloc (Nat.le_refl _) (.cells (ldC zLd zLdA) 29))).late J5 b7
  have K7 : LdIn w7 X q2 := (J6.below ((Below.refl _ _).alloc (Nat.le_refl _) (.cells (ldC zLd zLdA) 29))).late J6 b7
  clear HA6 HF6 HV6 B6 g7 b7 hp7
  go_wp2_with (refine load_blk (k := 0) 32 (ftC x y) (by rfl) rfl rfl HF7 (by kernel_rfl) (by kernel_rfl) rfl ?_)
  refine (placed_any er x y _ hE7 hp8).mono ?_
  rintro e w8 ⟨rfl, b8⟩
  have HA8 := HA7.kept b8
  have HV8 := HV7.kept b8
  have I8 := I7.below b8
  have K8 := K7.below b8
  have B8 := B7.trans (b8.mono B7.size)
  clear HA7 HF7 HV7 B7 b8 hE7 hp8
  go_wp2_with (first | (refine load_blk (B := w2.heap.size) (k := 0) 29 (ldC X q1) (by rfl) rfl rfl HA8 (by kernel_rfl) (by kernel_rfl) rfl ?_) | (refine load_blk (B := w6.heap.size) (k := 0) 29 (ldC X q2) (by rfl) rfl rfl HV8 (by kernel_rfl) (by kernel_rfl) rfl ?_) | (refine build_blk (o := ⟨some 25, _, _, _, _, _⟩) (t := 71) (vdL X q1) (by rfl) rfl (by kernel_rfl) ?_) | (refine build_blk (o := ⟨some 27, _, _, _, _, _⟩) (t := 71) (vdL X q2) (by rfl) rfl (by kernel_rfl) ?_))
  refine (sameVerdict_ld X q1 q2 _ I8 K8 hl).mono ?_
  rintro e w9 ⟨rfl, b9⟩
  go_wp2
  go_ret
  exact ⟨rfl, B8.trans (b9.mono B8.size)⟩

theorem pl_eq (R : LdR) : (match R with | .bad _ p => (p : Int) | .ok _ => -1) = R.pl := by cases R <;> rfl

theorem walk (s : ByteArray) (w : World) (hE : HasErr w) :
    Calls Tryz.prog 3 #[.string s] w fun e w' => e = .returned (.bool true) ∧ Below w.heap.size w w' := by
  by_cases hs : s.size ≤ 3000
  · obtain ⟨R, hR⟩ : ∃ R, rdLd s.data.toList = R := ⟨_, rfl⟩
    have hl : ldLen R.val := by rw [← hR]; exact rd_len _ (by simpa using hs)
    refine walk_some s w hE hs R.val hl R.er R.pl (Lib.hid fun W => (refLd_any s W (by omega) R hR).mono ?_) (Lib.hid fun W => (ldRead_any s W (by omega) R hR).mono ?_)
    · rintro r w' ⟨q, rfl, h1, h2⟩
      exact ⟨q, by cases R <;> rfl, h1, h2⟩
    · rintro r w' ⟨q, er, rfl, h1, h2, h3⟩
      exact ⟨q, er, rfl, h1, h2, h3⟩
  · have h3 : decide ((3000 : Int) < (s.size : Int)) = true := decide_eq_true (by omega)
    go_enter Tryz.func3, Tryz.ntmps3
    go_wp2
    go_ret
    exact ⟨rfl, Below.refl _ _⟩

end Go.Proofs.YtocgnbbnaamjjaaGreatDoor.lldpReads

