/- The card of switchyardlaw.BpduReads: for every argument it returns true, and the arguments read as they did; what its row lists of package-level variables is tied to the program's text. -/
import Derived.Test.YtjoepmfineinfaaDoorTell
import Derived.Test.YtjoepmfineinfaaDoorCaught
import Derived.Test.YtjoepmfineinfaaDoorErrA
import Derived.Test.YtjoepmfineinfaaDoorBpRead
import Derived.Test.YtjoepmfineinfaaDoorRefBpRead
import Derived.Below
import Derived.ChangeSame
import Derived.Test.YtjoepmfineinfaaDoorRows
import Derived.Test.YtjoepmfineinfaaDoorCards
import Derived.Test.YtjoepmfineinfaaDoorTie
import Derived.ProofKit
import Derived.OpenShut
import Derived.LaidHandle
import Derived.LaidMore
import Derived.LaidSub
import Derived.Deep.DeepHandedRow
import Derived.Lib.LaidTab
namespace Go.Proofs.YtjoepmfineinfaaDoor
open Go.RowKit Go.Extern.Stop Go.Stop Go.Extern

/-- What errors.As leaves: the target holds the Errno; nothing else that was there is changed. -/
theorem as_left {t : Addr} {x : Int} {old : Value} {w w1 : World} (hb : Below w.heap.size w w1) (ht : w.cell? t = some old) :
    (w1.setCell t (.int .i64 x)).cell? t = some (.int .i64 x) ∧ w.grownBy (w1.setCell t (.int .i64 x)) (some t.block) := by
  have hlt : t.block < w.heap.size := World.block_lt_of_cell? w t ht
  have hc : w1.cell? t = some old := (hb.cell hlt).trans ht
  refine ⟨World.cell?_setCell_same' w1 t _ (by rw [hc]; rfl), hb.os, hb.tape, hb.output, by simpa [World.setCell] using hb.size, fun k hk hne => ?_⟩
  exact (Below.heap_setCell _ _ _ _ (by intro e; exact hne (by rw [e]))).trans (hb.block k hk)

theorem tell_nil (w : World) : Calls Tryd.prog 21 #[.nilIface] w fun e w' => e = .returned (.int .i64 0) ∧ w = w' := by
  go_enter Tryd.func21, Tryd.ntmps21
  go_wp2
  go_ret
  exact ⟨rfl, rfl⟩

theorem tell_errno (x : Int) (w : World) (hg : HasErr w) : Calls Tryd.prog 21 #[.iface 27 (.int .i64 x)] w fun e w' => e = .returned (.int .i64 x) ∧ Below w.heap.size w w' := by
  go_enter Tryd.func21, Tryd.ntmps21
  go_wp2_with fail
  have hc : (w.alloc (.cells #[.int .i64 0] 27)).cell? ⟨w.heap.size, 0, none⟩ = some (.int .i64 0) := by simp
  refine (as_errno x ⟨w.heap.size, 0, none⟩ (.int .i64 0) _ (hg.alloc _) hc (by simp)).mono ?_
  rintro e w' ⟨rfl, w1, hb1, rfl⟩
  obtain ⟨h1, h2⟩ := as_left (x := x) hb1 hc
  have hB : Below w.heap.size w (w1.setCell ⟨w.heap.size, 0, none⟩ (.int .i64 x)) := ((Below.refl _ _).alloc (Nat.le_refl _) _).grown h2 (by simp) (fun k e => by cases e; exact Nat.le_refl _)
  clear hb1 h2 hc
  generalize w1.setCell ⟨w.heap.size, 0, none⟩ (.int .i64 x) = w2 at *
  go_wp2
  go_ret
  exact ⟨rfl, hB⟩

theorem tell_at (p : Nat) (x y : Int) (w : World) (hg : HasErr w) (hp : Flt w p x y) : Calls Tryd.prog 21 #[.iface 102 (.pointer (some ⟨p, 0, none⟩))] w fun e w' => e = .returned (.int .i64 x) ∧ Below w.heap.size w w' := by
  go_enter Tryd.func21, Tryd.ntmps21
  go_wp2_with fail
  have hc : (w.alloc (.cells #[.int .i64 0] 27)).cell? ⟨w.heap.size, 0, none⟩ = some (.int .i64 0) := by simp
  refine (as_at p x y ⟨w.heap.size, 0, none⟩ (.int .i64 0) _ (hp.alloc _) (hg.alloc _) hc (by simp)).mono ?_
  rintro e w' ⟨rfl, w1, hb1, rfl⟩
  obtain ⟨h1, h2⟩ := as_left (x := x) hb1 hc
  have hB : Below w.heap.size w (w1.setCell ⟨w.heap.size, 0, none⟩ (.int .i64 x)) := ((Below.refl _ _).alloc (Nat.le_refl _) _).grown h2 (by simp) (fun k e => by cases e; exact Nat.le_refl _)
  clear hb1 h2 hc
  generalize w1.setCell ⟨w.heap.size, 0, none⟩ (.int .i64 x) = w2 at *
  go_wp2
  go_ret
  exact ⟨rfl, hB⟩

theorem Tryd.noUnwrapE (v : Value) (xT : TypeId) (w : World) : (Instr.typeAssert (.iface 27 v) xT 112 true).run Tryd.prog w = .ok (.tuple #[.nilIface, .bool false]) w :=
  run_typeAssert_lacksB Tryd.underlying112 (by kernel_rfl) (by kernel_rfl) v xT w

theorem Tryd.noAtE (v : Value) (w : World) : (Instr.typeAssert (.iface 27 v) 33 102 true).run Tryd.prog w = .ok (.tuple #[.pointer none, .bool false]) w := by kernel_rfl

theorem Tryd.isAtA (v : Value) (w : World) : (Instr.typeAssert (.iface 102 v) 33 102 true).run Tryd.prog w = .ok (.tuple #[v, .bool true]) w := by kernel_rfl

theorem place_nil (w : World) : Calls Tryd.prog 40 #[.nilIface] w fun e w' => e = .returned (.tuple #[.int .i64 0, .int .i64 (-1)]) ∧ w = w' := by
  go_enter Tryd.func40, Tryd.ntmps40
  go_wp2_with fail
  refine (tell_nil _).mono ?_
  rintro e w' ⟨rfl, rfl⟩
  go_wp2
  refine wp_loop_rounds 1 ?_
  rw [rounds_succ]
  go_wp2
  go_ret2
  exact ⟨rfl, rfl⟩

set_option maxRecDepth 100000 in
theorem place_errno (x : Int) (w : World) (hg : HasErr w) : Calls Tryd.prog 40 #[.iface 27 (.int .i64 x)] w fun e w' => e = .returned (.tuple #[.int .i64 x, .int .i64 (-1)]) ∧ Below w.heap.size w w' := by
  have q := Tryd.noUnwrapE
  have q2 := Tryd.noAtE
  go_enter Tryd.func40, Tryd.ntmps40
  go_wp2_with fail
  refine (tell_errno x _ hg).mono ?_
  rintro e w' ⟨rfl, hB⟩
  go_wp2
  refine wp_loop_rounds 1 ?_
  rw [rounds_succ]
  go_wp2
  go_ret2
  exact ⟨rfl, hB⟩

set_option maxRecDepth 100000 in
theorem place_at (p : Nat) (x y : Int) (w : World) (hg : HasErr w) (hp : Flt w p x y) : Calls Tryd.prog 40 #[.iface 102 (.pointer (some ⟨p, 0, none⟩))] w fun e w' => e = .returned (.tuple #[.int .i64 x, .int .i64 y]) ∧ Below w.heap.size w w' := by
  have q2 := Tryd.isAtA
  go_enter Tryd.func40, Tryd.ntmps40
  go_wp2_with fail
  refine (tell_at p x y _ hg hp).mono ?_
  rintro e w' ⟨rfl, hB⟩
  have hc : w'.cell? ⟨p, 1, none⟩ = some (.int .i64 y) := (hB.cell (p := ⟨p, 1, none⟩) hp.lt).trans hp.c1
  go_wp2
  refine wp_loop_rounds 1 ?_
  rw [rounds_succ]
  go_wp2
  go_region
  all_goals go_wp2
  all_goals go_ret2
  all_goals exact ⟨rfl, hB.drew⟩

end Go.Proofs.YtjoepmfineinfaaDoor

namespace Go.Proofs.YtjoepmfineinfaaDoor
open Go.RowKit
set_option linter.unusedVariables false

theorem placed_nil (w : World) : Calls Tryd.prog 10 #[.nilIface, .agg (ftC 0 (-1))] w fun e w' => e = .returned (.bool true) ∧ Below w.heap.size w w' := by
  have hb0 : Below w.heap.size w (w.alloc (.cells (ftC 0 (-1)) 29)) := (Below.refl _ _).alloc (Nat.le_refl _) _
  unfold ftC at *
  go_enter Tryd.func10, Tryd.ntmps10
  go_wp2_with fail
  refine (place_nil _).mono ?_
  rintro e w' ⟨rfl, rfl⟩
  go_wp2
  go_ret
  exact ⟨rfl, hb0⟩

theorem placed_at (q : Nat) (x y : Int) (w : World) (hE : HasErr w) (hq : Flt w q x y) : Calls Tryd.prog 10 #[.iface 102 (.pointer (some ⟨q, 0, none⟩)), .agg (ftC x y)] w fun e w' => e = .returned (.bool true) ∧ Below w.heap.size w w' := by
  have hb0 : Below w.heap.size w (w.alloc (.cells (ftC x y) 29)) := (Below.refl _ _).alloc (Nat.le_refl _) _
  have HB := Blk.new w 29 (ftC x y)
  have hq1 := hq.below hb0
  have hE1 : HasErr (w.alloc (.cells (ftC x y) 29)) := hE.below hb0
  go_enter Tryd.func10, Tryd.ntmps10
  go_upto_region 1 with (fail)
  generalize w.alloc (.cells (ftC x y) 29) = w1 at *
  go_wp2_with fail
  refine (place_at q x y _ hE1 hq1).mono ?_
  rintro e w2 ⟨rfl, b2⟩
  have HB2 := HB.kept b2
  have c0 := HB2.cv 0 (.int .i64 x) rfl
  have c1 := HB2.cv 1 (.int .i64 y) rfl
  have e1 : (x == x) = true := by simp
  have e2 : (y == y) = true := by simp
  go_wp2
  go_ret
  exact ⟨rfl, hb0.trans (b2.mono hb0.size)⟩

theorem placed_any (er : Value) (x y : Int) (w : World) (hE : HasErr w) (h : ErrAs w er x y) : Calls Tryd.prog 10 #[er, .agg (ftC x y)] w fun e w' => e = .returned (.bool true) ∧ Below w.heap.size w w' := by
  rcases h with ⟨rfl, rfl, rfl⟩ | ⟨_, q, rfl, hf⟩
  · exact placed_nil w
  · exact placed_at q x y w hE hf

end Go.Proofs.YtjoepmfineinfaaDoor

namespace Go.Proofs.YtjoepmfineinfaaDoor.bpduReads
open Go.RowKit
attribute [local go_sem ↓] Go.wp_at_zero Go.wp_at_succ
set_option linter.unusedSimpArgs false
set_option linter.unusedVariables false
set_option maxRecDepth 100000

theorem some_ne {a : Int} {b : Nat} {e : Int} {x : Nat} (ha : a ≠ 0) (h : some (a, b) = some (e, x)) : e ≠ 0 := by
  cases h
  exact ha

theorem bdE_ne {n p : Nat} {z : Bool} {e : Int} {x : Nat} (h : bdE n p z = some (e, x)) : e ≠ 0 := by
  unfold bdE at h
  by_cases q0 : n < p + 1
  · rw [if_pos q0] at h
    exact some_ne (by decide) h
  rw [if_neg q0] at h
  by_cases q1 : n < p + 3
  · rw [if_pos q1] at h
    exact some_ne (by decide) h
  rw [if_neg q1] at h
  by_cases q2 : n < p + 9
  · rw [if_pos q2] at h
    exact some_ne (by decide) h
  rw [if_neg q2] at h
  by_cases q3 : n < p + 13
  · rw [if_pos q3] at h
    exact some_ne (by decide) h
  rw [if_neg q3] at h
  by_cases q4 : n < p + 15
  · rw [if_pos q4] at h
    exact some_ne (by decide) h
  rw [if_neg q4] at h
  by_cases q5 : n < p + 21
  · rw [if_pos q5] at h
    exact some_ne (by decide) h
  rw [if_neg q5] at h
  by_cases q6 : n < p + 23
  · rw [if_pos q6] at h
    exact some_ne (by decide) h
  rw [if_neg q6] at h
  by_cases q7 : z = true
  · rw [if_pos q7] at h
    exact some_ne (by decide) h
  rw [if_neg q7] at h
  by_cases q8 : n < p + 25
  · rw [if_pos q8] at h
    exact some_ne (by decide) h
  rw [if_neg q8] at h
  by_cases q9 : n < p + 27
  · rw [if_pos q9] at h
    exact some_ne (by decide) h
  rw [if_neg q9] at h
  by_cases q10 : n < p + 29
  · rw [if_pos q10] at h
    exact some_ne (by decide) h
  rw [if_neg q10] at h
  by_cases q11 : n < p + 31
  · rw [if_pos q11] at h
    exact some_ne (by decide) h
  rw [if_neg q11] at h
  cases h

theorem bdE_size {n p : Nat} {z : Bool} (h : bdE n p z = none) : p + 31 ≤ n := by
  unfold bdE at h
  by_cases q0 : n < p + 1
  · rw [if_pos q0] at h
    cases h
  rw [if_neg q0] at h
  by_cases q1 : n < p + 3
  · rw [if_pos q1] at h
    cases h
  rw [if_neg q1] at h
  by_cases q2 : n < p + 9
  · rw [if_pos q2] at h
    cases h
  rw [if_neg q2] at h
  by_cases q3 : n < p + 13
  · rw [if_pos q3] at h
    cases h
  rw [if_neg q3] at h
  by_cases q4 : n < p + 15
  · rw [if_pos q4] at h
    cases h
  rw [if_neg q4] at h
  by_cases q5 : n < p + 21
  · rw [if_pos q5] at h
    cases h
  rw [if_neg q5] at h
  by_cases q6 : n < p + 23
  · rw [if_pos q6] at h
    cases h
  rw [if_neg q6] at h
  by_cases q7 : z = true
  · rw [if_pos q7] at h
    cases h
  rw [if_neg q7] at h
  by_cases q8 : n < p + 25
  · rw [if_pos q8] at h
    cases h
  rw [if_neg q8] at h
  by_cases q9 : n < p + 27
  · rw [if_pos q9] at h
    cases h
  rw [if_neg q9] at h
  by_cases q10 : n < p + 29
  · rw [if_pos q10] at h
    cases h
  rw [if_neg q10] at h
  by_cases q11 : n < p + 31
  · rw [if_pos q11] at h
    cases h
  rw [if_neg q11] at h
  omega

/-- Both read the same. -/
theorem both (s : ByteArray) (hs : s.size ≤ 300) : ∃ (X : Bp) (e pl : Int),
    (∀ W, Calls Tryd.prog 16 #[.string s] W fun r w' => r = .returned (.tuple #[.agg (bpC X), .agg (ftC e pl)]) ∧ Below W.heap.size W w') ∧
    (∀ W, Calls Tryd.prog 17 #[.string s] W (ReadsAs (bpC X) e pl W)) := by
  by_cases h : s.size < 4
  · exact ⟨_, _, _, fun W => refBpRead_short s W hs h, fun W => bpRead_short s W hs h⟩
  by_cases h0 : hdAt s = [0, 0, 0, 0]
  · cases he : bdE s.size 4 (pzAt s (4 + 21)) with
    | some q =>
      obtain ⟨e, x⟩ := q
      exact ⟨_, _, _, fun W => refBpRead_config_bad s W hs h h0 e x he (bdE_ne he), fun W => bpRead_config_bad s W hs h h0 e x he⟩
    | none => exact ⟨_, _, _, fun W => refBpRead_config_ok s W hs h h0 he, fun W => bpRead_config_ok s W hs h h0 he⟩
  by_cases h1 : hdAt s = [0, 0, 0, 128]
  · exact ⟨_, _, _, fun W => refBpRead_notice s W hs h h1, fun W => bpRead_notice s W hs h h1⟩
  by_cases h2 : hdAt s = [0, 0, 2, 2]
  · cases he : bdE s.size 4 (pzAt s (4 + 21)) with
    | some q =>
      obtain ⟨e, x⟩ := q
      exact ⟨_, _, _, fun W => refBpRead_rapid_bad s W hs h h2 e x he (bdE_ne he), fun W => bpRead_rapid_bad s W hs h h2 e x he⟩
    | none =>
      have h35 : 35 ≤ s.size := bdE_size he
      by_cases h36 : 36 ≤ s.size
      · by_cases ht : tlAt s = [0]
        · exact ⟨_, _, _, fun W => refBpRead_rapid_ok s W hs h h2 he h35 h36 ht, fun W => bpRead_rapid_ok s W hs h h2 he h35 h36 ht⟩
        · exact ⟨_, _, _, fun W => refBpRead_rapid_form s W hs h h2 he h35 h36 ht, fun W => bpRead_rapid_form s W hs h h2 he h35 h36 ht⟩
      · exact ⟨_, _, _, fun W => refBpRead_rapid_cut s W hs h h2 he h35 h36, fun W => bpRead_rapid_cut s W hs h h2 he h35 h36⟩
  · exact ⟨_, _, _, fun W => refBpRead_other s W hs h h0 h1 h2, fun W => bpRead_other s W hs h h0 h1 h2⟩

set_option maxHeartbeats 1600000 in
theorem walk_some (s : ByteArray) (w : World) (hE : HasErr w) (hs : s.size ≤ 300) (X : Bp) (x y : Int)
    (HV : Hid (∀ W, Calls Tryd.prog 16 #[.string s] W fun r w' => r = .returned (.tuple #[.agg (bpC X), .agg (ftC x y)]) ∧ Below W.heap.size W w'))
    (HW : Hid (∀ W, Calls Tryd.prog 17 #[.string s] W (ReadsAs (bpC X) x y W))) :
    Calls Tryd.prog 5 #[.string s] w fun e w' => e = .returned (.bool true) ∧ Below w.heap.size w w' := by
  have h3 : decide ((300 : Int) < (s.size : Int)) = false := decide_eq_false (by omega)
  go_enter Tryd.func5, Tryd.ntmps5
  go_wp2_with fail
  refine (HV.out _).mono ?_
  rintro e w2 ⟨rfl, b2⟩
  have HA3 := (Blk.new w2 52 (bpC zBp)).alloc (.cells (ftC 0 0) 29)
  have HF3 := Blk.new (w2.alloc (.cells (bpC zBp) 52)) 29 (ftC 0 0)
  have hsz : (w2.alloc (.cells (bpC zBp) 52)).heap.size = w2.heap.size + 1 := by simp
  have B3 : Below w.heap.size w ((w2.alloc (.cells (bpC zBp) 52)).alloc (.cells (ftC 0 0) 29)) := (b2.alloc b2.size _).alloc (by have := b2.size; simp; omega) _
  have hs2 := b2.size
  clear b2 HV
  go_upto_region 4 with (first | (refine alloc_blk 52 (bpC zBp) (by rfl) rfl Tryd.bpZero ?_) | (refine alloc_blk 29 (ftC 0 0) (by rfl) rfl Tryd.ftZero ?_) | ((refine store_blk (k := 0) 52 (.agg (bpC X)) (bpC X) (by rfl) rfl rfl rfl HA3 (by kernel_rfl) (by exact Nat.le_refl 31) rfl rfl (fun w4 HA4 b4 g4 => ?_)); have HF4 := HF3.grown g4 (by rw [hsz]; simp)) | (refine store_blk (k := 0) 29 (.agg (ftC x y)) (ftC x y) (by rfl) rfl rfl rfl HF4 (by kernel_rfl) (by exact Nat.le_refl 2) rfl rfl (fun w5 HF5 b5 g5 => ?_)))
  rw [hsz] at HF5 g5 b5
  clear hsz
  have HA5 := HA4.grown g5 (by simp)
  have B5 : Below w.heap.size w w5 := (B3.trans (b4.mono hs2)).trans (b5.mono (by omega))
  clear HA3 HF3 HA4 B3 b4 g4 b5 g5
  go_wp2_with fail
  refine (HW.out _).mono ?_
  rintro e w6 ⟨er, rfl, hp6, b6⟩
  have hlt := HF5.lt
  have HA6 := (HA5.kept b6).alloc (.cells (bpC zBp) 52)
  have HF6 := (HF5.kept b6).alloc (.cells (bpC zBp) 52)
  have B6a := B5.trans (b6.mono B5.size)
  have B6 := B6a.alloc B6a.size (.cells (bpC zBp) 52)
  have hp7 := hp6.below ((Below.refl _ _).alloc (Nat.le_refl _) (.cells (bpC zBp) 52))
  have HV6 := Blk.new w6 52 (bpC zBp)
  have hs6 := B6a.size
  have hlt6 : w2.heap.size + 1 < w6.heap.size := Nat.lt_of_lt_of_le hlt b6.size
  clear HA5 HF5 B5 b6 HW hp6 B6a
  go_upto_region 5 with (first | (refine alloc_blk 52 (bpC zBp) (by rfl) rfl Tryd.bpZero ?_) | (refine store_blk (k := 0) 52 (.agg (bpC X)) (bpC X) (by rfl) rfl rfl rfl HV6 (by kernel_rfl) (by exact Nat.le_refl 31) rfl rfl (fun w7 HV7 b7 g7 => ?_)))
  have HA7 := HA6.grown g7 (by simp; omega)
  have HF7 := HF6.grown g7 (by simp; omega)
  have B7 : Below w.heap.size w w7 := B6.trans (b7.mono hs6)
  have hp8 : ErrAs w7 er x y := by
    rcases hp7 with h | ⟨he, q, hq, hf⟩
    · exact Or.inl h
    · refine Or.inr ⟨he, q, hq, hf.kept g7 ?_⟩
      intro e0
      have e0 : q = w6.heap.size := by simpa using e0
      subst e0
      have h1 : (w6.alloc (.cells (bpC zBp) 52)).heap[w6.heap.size]? = some (.cells #[.int .i64 x, .int .i64 y] 110) := hf
      have h2 : (w6.alloc (.cells (bpC zBp) 52)).heap[w6.heap.size]? = some (.cells (bpC zBp) 52 (0, 0)) := HV6
      have h3 := h1.symm.trans h2
      injection h3 with h3
      injection h3 with h3 h4
      exact absurd h4 (by decide)
  have hE7 : HasErr w7 := hE.below B7
  clear HA6 HF6 HV6 B6 g7 b7 hp7
  go_wp2_with (refine load_blk (k := 0) 29 (ftC x y) (by rfl) rfl rfl HF7 (by kernel_rfl) (by kernel_rfl) rfl ?_)
  refine (placed_any er x y _ hE7 hp8).mono ?_
  rintro e w8 ⟨rfl, b8⟩
  have HA8 := HA7.kept b8
  have HV8 := HV7.kept b8
  have B8 := B7.trans (b8.mono B7.size)
  have q : ∀ W, (Op.equalIn 10000 52 (.agg (bpC X)) (.agg (bpC X))).run Tryd.prog W = .ok true W := fun W => by have h := run_eql_bp 9996 X X W; rw [eqBp_self] at h; exact h
  clear HA7 HF7 HV7 B7 b8 hE7 hp8
  go_wp2_with (first | (refine load_blk (k := 0) 52 (bpC X) (by rfl) rfl rfl HA8 (by kernel_rfl) (by kernel_rfl) rfl ?_) | (refine load_blk (k := 0) 52 (bpC X) (by rfl) rfl rfl HV8 (by kernel_rfl) (by kernel_rfl) rfl ?_) | (refine eq_blk .eql 52 (bpC X) (bpC X) true (by rfl) rfl (by first | exact Or.inl rfl | exact Or.inr rfl) rfl rfl (by kernel_rfl) (q _) ?_))
  go_ret
  exact ⟨rfl, B8⟩

theorem walk (s : ByteArray) (w : World) (hE : HasErr w) :
    Calls Tryd.prog 5 #[.string s] w fun e w' => e = .returned (.bool true) ∧ Below w.heap.size w w' := by
  by_cases hs : s.size ≤ 300
  · obtain ⟨X, e, pl, h1, h2⟩ := both s hs
    exact walk_some s w hE hs X e pl (Lib.hid h1) (Lib.hid h2)
  · have h3 : decide ((300 : Int) < (s.size : Int)) = true := decide_eq_true (by omega)
    go_enter Tryd.func5, Tryd.ntmps5
    go_wp2
    go_ret
    exact ⟨rfl, Below.refl _ _⟩

end Go.Proofs.YtjoepmfineinfaaDoor.bpduReads

namespace Go.Proofs.YtjoepmfineinfaaDoor
open Go.RowKit Go.WideShapes Go.ChangeShapes

/-- The specification is met: one result, which reads as told; the arguments and the named variables read as they did; old memory is as it was. -/
theorem met_below {P : Program} {H : Type} {enc : TypeId × Value → H} {f : Func} {s : ChangeSpec} {apart fresh handsOn again : Bool} {W W' : World} {args : Array Value} {v : Value} {ds gs : List (DataW H)} {places : List MemPlace}
    (whole : DataW.Whole enc P f.params.toList s.vars apart W args.toList ds gs places)
    (results : ∀ (b : Nat) (sp : Nat → Bool) (hd : Bool), DataW.TrodAll enc P W' b sp hd f.resultTypes.toList (v.resultList f.resultTypes.size) (s.fn H (ds ++ gs)).results [])
    (arguments : ∀ sp : Nat → Bool, (∀ p ∈ places, sp p.block = true) → DataW.TrodAll enc P W' 0 sp true f.params.toList args.toList (s.fn H (ds ++ gs)).args places)
    (variables : ∀ sp : Nat → Bool, DataW.TrodVars enc P W' sp s.vars (s.fn H (ds ++ gs)).vars [])
    (below : Below W.heap.size W W')
    (formed : ∀ (j : Nat) (t : TypeId) (r : Value), f.resultTypes[j]? = some t → (v.resultList f.resultTypes.size)[j]? = some r → Value.okWide P W' .any 0 t r) :
    s.post enc P f apart fresh handsOn again W args v W' := by
  have old : ∀ p ∈ places, p.block < W.heap.size := fun p hp => whole.lt p hp
  have oldB : ∀ p ∈ places, (fun b => decide (b < W.heap.size)) p.block = true := fun p hp => decide_eq_true (old p hp)
  obtain ⟨_, _, _, _, _, unfrozen, once⟩ := id whole
  refine ⟨ds, gs, places, [], places, [], whole, results _ _ _, arguments _ oldB, variables _, below.frame _, fun _ => ⟨formed, _, _, ([] ++ places) ++ [], ⟨[] ++ places, [], trodAll_append (arguments _ fun _ _ => rfl) (results _ _ _), variables _, rfl, fun b off hp => ?_, fun ha => by simpa using once ha⟩, fun p hp _ => by simpa using hp⟩⟩
  have hin : MemPlace.cell b off ∈ places := by simpa using hp
  exact (below.frozen (p := ⟨b, off, none⟩) (old _ hin)).trans (unfrozen b off hin)

end Go.Proofs.YtjoepmfineinfaaDoor

namespace Go.Proofs.YtjoepmfineinfaaDoor
open Go.ChangeShapes Go.WideShapes Go.ChangeAt Go.RowKit

theorem own : ownKnob Tryd.prog.godebug = none := by kernel_rfl

theorem Tryd.gErr : Tryd.prog.globalNamed "errors.errorType" = some 0 := by kernel_rfl

theorem Tryd.rtRow : (Tryd.prog.cutTypes.find? (·.1 == "internal/reflectlite.rtype")).map (·.2) = some 155 := by kernel_rfl

theorem Tryd.errRow : ((List.range 202).filter fun t => Tryd.prog.rowNamed t [101, 114, 114, 111, 114]) = [33] := by kernel_rfl

theorem Tryd.typesSize : Tryd.prog.types.size = 202 := by kernel_rfl

/-- A list that holds errors.errorType with the handle of the type error says what errors.As asks. -/
theorem hasErr_of_laid {W : World} {l : List (String × DataW Unit)} (h : laidMetH Tryd.prog l W) (hm : ("errors.errorType", Rows.laid_errors_errorType) ∈ l) : HasErr W := by
  obtain ⟨_, h2⟩ := laidMetH_iff.1 h
  obtain ⟨name, u, ty, e1, e2, e3, e4, e5⟩ := h2 _ (List.mem_filter.2 ⟨hm, by kernel_rfl⟩)
  have en : name = [101, 114, 114, 111, 114] := (Option.some.inj e1).symm
  subst en
  obtain rfl := Option.some.inj (Tryd.rtRow.symm.trans e2)
  have hin : ty ∈ (List.range 202).filter fun t => Tryd.prog.rowNamed t [101, 114, 114, 111, 114] := List.mem_filter.2 ⟨List.mem_range.2 (by rw [← Tryd.typesSize]; exact e3), e4⟩
  rw [Tryd.errRow] at hin
  obtain rfl := List.mem_singleton.1 hin
  have hh : typeHandle Tryd.prog 33 = .pointer (some ⟨4, 33, none⟩) := by kernel_rfl
  rw [hh] at e5
  have hc := World.var?_cell Tryd.gErr e5 0
  unfold HasErr
  simpa using hc

/-- The cells that a flat datum of integers lays. -/
def cellsOfDatum : DataW Unit → Array Value
  | .agg l => (l.map fun d => match d with | .lit (.int k n) => Value.int k n | _ => .int .u8 0).toArray
  | _ => #[]

/-- The door's own heap, and Go's own table beside it. -/
noncomputable def laidWorld (os : Os) : World :=
  let w0 := World.doorLaid Tryd.prog 400 os
  { w0 with heap := w0.heap.modify 1 fun | .cells _ t fr => .cells (cellsOfDatum Go.Pinned.utf8First) t fr | o => o }

end Go.Proofs.YtjoepmfineinfaaDoor

namespace Go.Proofs.YtjoepmfineinfaaDoor.bpduReads
open Go.ChangeShapes Go.WideShapes Go.ChangeAt Go.RowKit
set_option linter.unusedVariables false

theorem laid_met (os : Os) : laidMetH Tryd.prog Rows.bpduReadsRow.laid ((laidWorld os).forCall (fun _ _ => 0) ⟨#[], #[.string ⟨#[]⟩], []⟩).memory :=
  laidMetH_of_parts3 (fuel := 8) (laidMet_of_run' 8 (by kernel_rfl) (by kernel_rfl)) (by kernel_rfl) (by kernel_rfl)

theorem reads (os : Os) {H : Type} (enc : TypeId × Value → H) : ∃ places, DataW.whole enc Tryd.prog ((laidWorld os).forCall (fun _ _ => 0) ⟨#[], #[.string ⟨#[]⟩], []⟩).memory Tryd.f5.params.toList Rows.bpduReadsSpec.vars false #[Value.string ⟨#[]⟩].toList 8 = some ([.lit (.string [])], [], places) :=
  ⟨[], by kernel_rfl⟩

set_option maxRecDepth 100000 in
theorem lifted (os : Os) (started : os.Started) (H : Type) (enc : TypeId × Value → H) (F : Stop.Interp) :
    ReturnsInHanded {} Tryd.checked os 5 .any ((OpenSpec.ofChange Rows.bpduReadsSpec).preRow enc Tryd.prog Tryd.f5 Rows.bpduReadsRow.domain false Rows.bpduReadsRow.laid) (((OpenSpec.ofChange Rows.bpduReadsSpec).at F).post enc Tryd.prog Tryd.f5 false true false false) := by
  obtain ⟨places, hx⟩ := reads os enc
  refine returnsInHanded_of_row (C := Tryd.checked) (s := OpenSpec.ofChange Rows.bpduReadsSpec) own started (by kernel_rfl) Tryd.func5
    (witness_row_at (enc := enc) (C := Tryd.checked) false (laidWorld os) #[.string ⟨#[]⟩] rfl (by kernel_rfl) (by kernel_rfl) (by kernel_rfl)
      (OpenSpec.preRow_of_cond 8 hx (by kernel_rfl) (fun k hk => by cases hk) (by kernel_rfl) (laid_met os))) ?_
  intro W base args ds gs before hval0 hW _ _ hSz hL hsh _
  have hval : ∀ (j : Nat) t v, Tryd.f5.params[j]? = some t → args[j]? = some v → Value.okWide Tryd.prog W .any base t v := hval0
  have hE := hasErr_of_laid hL (by simp [Rows.bpduReadsRow])
  have hW' := hW
  obtain ⟨p, q, hA0, hV, rfl, hfz, hnd⟩ := hW
  have hA : DataW.TrodAll enc Tryd.prog W 0 (fun _ => true) true Tryd.f5.params.toList args.toList ds p := hA0
  rw [Tryd.params5] at hA hval
  obtain ⟨v0, vs0, d0, ds0, p0, q0, hargs, rfl, rfl, h0, r0⟩ := trodAll_cons hA
  obtain ⟨rfl, rfl, rfl⟩ := trodAll_nil r0
  obtain rfl : args = #[v0] := by cases args; simp_all
  obtain ⟨rfl, rfl⟩ := trodVars_none hV
  obtain ⟨a0, rfl, rfl, rfl, w0⟩ := ChangeMaps.open_string Tryd.underlying9 (hval 0 9 v0 rfl rfl) h0
  clear hA0
  simp only [List.append_nil] at hW'
  refine (walk a0 W hE).mono fun e W' ⟨he, hb⟩ => ?_
  subst he
  exact ⟨_, rfl, met_below hW' (fun _ _ _ => (trodAll_cons_mk (shut_bool Tryd.underlying4 _) trodAll_mk0)) (fun sp _ => (trodAll_cons_mk (ChangeMaps.shut_string Tryd.underlying9 w0) trodAll_mk0)) (fun _ => rfl) hb
    (ok_one (by kernel_rfl) rfl (okWide_bool_mk Tryd.underlying4 _))⟩

theorem said : Rows.BpduReadsSaid :=
  OpenClaim.holds_of_cond 5 Tryd.f5 rfl rfl rfl rfl rfl rfl rfl ⟨rfl, rfl, rfl, rfl, rfl⟩ rfl rfl rfl rfl rfl (by kernel_rfl) Tryd.func5 (by kernel_rfl)
    (of_decide_eq_true (by kernel_rfl)) (by unfold Func.isWrapper; first | (rw [if_pos (by decide +kernel)]; kernel_rfl) | (rw [if_neg (by decide +kernel)]; exact ⟨rfl, rfl⟩))
    (fun os started H enc _ F => by rw [OpenClaim.pre_eq_preRow]; exact lifted os started H enc F)

theorem plain (f : FuncId) (fn : Func) (hf : Tryd.pinned.checked.prog.funcNamed "switchyard/switchyardlaw.BpduReads" = some f) (hfn : Tryd.pinned.checked.prog.funcs[f]? = some fn) :
    true = Tryd.pinned.checked.prog.looks [] ∧ ∀ (j : Nat) t, fn.params[j]? = some t → Tryd.pinned.checked.prog.wantsStandIn t = false := by
  obtain rfl : f = 5 := Option.some.inj ((show Tryd.prog.funcNamed "switchyard/switchyardlaw.BpduReads" = some 5 by kernel_rfl).symm.trans hf) |>.symm
  obtain rfl : fn = Tryd.f5 := (Option.some.inj (Tryd.func5.symm.trans hfn)).symm
  refine ⟨by kernel_rfl, fun j t ht => ?_⟩
  rw [Tryd.params5] at ht
  have hm : t ∈ #[9] := Array.mem_of_getElem? ht
  simp only [List.mem_toArray, List.mem_cons, List.not_mem_nil, or_false] at hm
  rcases hm with rfl
  · exact (show Tryd.prog.wantsStandIn 9 = false by kernel_rfl)

theorem card : Rows.BpduReadsCardSaid :=
  Claim7.holds_tied_plain_at .later [] _ _ _ _ said (fun _ h => by cases h) (by kernel_rfl) (fun _ h => by cases h) bpduReads_row_tie rfl ⟨rfl, rfl⟩ (by kernel_rfl) rfl plain (by kernel_rfl)
#print axioms card

end Go.Proofs.YtjoepmfineinfaaDoor.bpduReads

