/- tag.Parse at every text: the tag whose text it is, or ErrForm; nothing that was there is changed. -/
import Derived.Test.YtafmkgdpfjimkaaDoorTagText
namespace Go.Proofs.YtafmkgdpfjimkaaDoor
open Go.RowKit
attribute [local go_sem ↓] Go.wp_at_zero Go.wp_at_succ

theorem Tryd.gMax : Tryd.prog.globalNamed "internal/bytealg.MaxLen" = some 0 := by kernel_rfl
theorem Tryd.gSyn : Tryd.prog.globalNamed "strconv.ErrSyntax" = some 2 := by kernel_rfl
theorem Tryd.gRng : Tryd.prog.globalNamed "strconv.ErrRange" = some 3 := by kernel_rfl

/-- What the library's functions that Parse calls ask of the memory. -/
structure HasLib (w : World) : Prop where
  tab : HasTab w
  syn : ∃ tp p, w.var? Tryd.prog "strconv.ErrSyntax" = some #[.iface tp p]
  rng : ∃ tp p, w.var? Tryd.prog "strconv.ErrRange" = some #[.iface tp p]
  max : ∃ m, w.cell? ⟨0, 0, none⟩ = some (.int .i64 m)

theorem HasLib.below {w w' : World} (h : HasLib w) (hb : Below w.heap.size w w') : HasLib w' := by
  obtain ⟨t, ⟨tp, p, hs⟩, ⟨tq, q, hr⟩, m, hm⟩ := h
  have ls : 2 < w.heap.size := World.block_lt_of_cell? w _ (World.var?_cell Tryd.gSyn hs 0)
  have lr : 3 < w.heap.size := World.block_lt_of_cell? w _ (World.var?_cell Tryd.gRng hr 0)
  have lm : 0 < w.heap.size := World.block_lt_of_cell? w _ hm
  exact ⟨t.below hb, ⟨tp, p, var?_below hb Tryd.gSyn ls hs⟩, ⟨tq, q, var?_below hb Tryd.gRng lr hr⟩, m, (hb.cell (p := ⟨0, 0, none⟩) lm).trans hm⟩

theorem HasLib.drew {w : World} (h : HasLib w) : HasLib w.drew := ⟨h.tab, h.syn, h.rng, h.max⟩

theorem cut_any (s sep : ByteArray) (w : World) (h : HasLib w) (hs : s.size < 4294967281) :
    Calls Tryd.prog 40 #[.string s, .string sep] w fun e w' => ∃ hb tb fl, e = .returned (.tuple #[.string hb, .string tb, .bool fl]) ∧ hb.data.toList = (Lib.cut s.data.toList sep.data.toList).1 ∧ tb.data.toList = (Lib.cut s.data.toList sep.data.toList).2.1 ∧ Below w.heap.size w w' := by
  obtain ⟨m, hm⟩ := h.max
  refine (Tryd.strings_Cut s sep m w hs hm).mono ?_
  rintro e w' ⟨rfl, n, rfl⟩
  exact ⟨_, _, _, rfl, rfl, rfl, Joins.below_draws _ _ _⟩

theorem atoi_any (s : ByteArray) (w : World) (h : HasLib w) (hs : s.size < 4294967281) :
    Calls Tryd.prog 41 #[.string s] w fun e w' => ∃ er, e = .returned (.tuple #[.int .i64 (atoiV s.data.toList), er]) ∧ Below w.heap.size w w' := by
  obtain ⟨tp, p, hsy⟩ := h.syn
  obtain ⟨tq, q, hrg⟩ := h.rng
  cases ha : Lib.atoiAll s.data.toList
  · rename_i v
    refine (Tryd.strconv_Atoi_ok s (by omega) v ha w).mono ?_
    rintro e w' ⟨rfl, rfl | ⟨t, rfl⟩⟩
    · exact ⟨_, by rw [atoiV, ha], Below.refl _ _⟩
    · exact ⟨_, by rw [atoiV, ha], Joins.below_bytesWorld _ _ _ _ (Nat.le_refl _)⟩
  · have hc := Any.strconv_Atoi_syntax_var Tryd.laysC172 s (by omega) ha tp p w hsy
    refine Calls.mono hc ?_
    rintro e w' ⟨N, rfl, _, _, hb⟩
    exact ⟨_, by rw [atoiV, ha], hb⟩
  · refine (Tryd.strconv_Atoi_range_var s (by omega) ha tq q w hrg).mono ?_
    rintro e w' ⟨N, rfl, _, _, hb⟩
    exact ⟨_, by rw [atoiV, ha], hb⟩

/-- Four cells stored. -/
def set4 (w : World) (B : Nat) (t : Tg) : World :=
  (((w.setCell ⟨B, 0, none⟩ (.bool t.s)).setCell ⟨B, 1, none⟩ (.int .i64 t.p)).setCell ⟨B, 2, none⟩ (.bool t.d)).setCell ⟨B, 3, none⟩ (.int .i64 t.v)

theorem set4_has {w : World} {B : Nat} {z : Tg} (t : Tg) (h : HasT w B z) : HasT (set4 w B t) B t := by
  have h0 := Joins.block_setCell h (i := 0) (.bool t.s)
  have h1 := Joins.block_setCell h0 (i := 1) (.int .i64 t.p)
  have h2 := Joins.block_setCell h1 (i := 2) (.bool t.d)
  have h3 := Joins.block_setCell h2 (i := 3) (.int .i64 t.v)
  exact h3

theorem set4_below {C : Nat} {w w0 : World} {B : Nat} (t : Tg) (h : Below C w0 w) (hB : C ≤ B) : Below C w0 (set4 w B t) :=
  (((h.setCell (p := ⟨B, 0, none⟩) hB _).setCell (p := ⟨B, 1, none⟩) hB _).setCell (p := ⟨B, 2, none⟩) hB _).setCell (p := ⟨B, 3, none⟩) hB _

set_option linter.unusedSimpArgs false in
set_option maxHeartbeats 1600000 in
theorem tagParse_any (s : ByteArray) (w : World) (hL : HasLib w) (hs : s.size < 4294967281) :
    Calls Tryd.prog 29 #[.string s] w fun e w' => ParseT s.data.toList e ∧ Below w.heap.size w w' := by
  have B0 : Below w.heap.size w (w.alloc (.cells #[.bool false, .int .i64 0, .bool false, .int .i64 0] 40)) := (Below.refl _ _).alloc (Nat.le_refl _) _
  have L0 := hL.below B0
  have R0 : HasT (w.alloc (.cells #[.bool false, .int .i64 0, .bool false, .int .i64 0] 40)) w.heap.size noT := heap_alloc_new _ _
  go_enter Tryd.func29, Tryd.ntmps29
  go_wp2_with fail
  refine (cut_any s _ _ L0 hs).mono ?_
  rintro e w1 ⟨hb, tb, fl, rfl, hh, ht, k1⟩
  replace hh : hb.data.toList = (Lib.cut s.data.toList [46]).1 := hh
  replace ht : tb.data.toList = (Lib.cut s.data.toList [46]).2.1 := ht
  have hb1 := B0.trans (k1.mono B0.size)
  have L1 := L0.below k1
  have R1 := R0.below k1 R0.lt
  clear k1 R0 B0 L0 hL
  have htl : tb.size ≤ s.size := by
    show tb.data.size ≤ s.data.size
    rw [← Array.length_toList, ← Array.length_toList, ht]
    unfold Lib.cut
    split <;> simp
  by_cases h2 : hb.size < 2
  · have hd : decide ((hb.size : Int) < 2) = true := decide_eq_true (by omega)
    have hno : ∀ t : Tg, okT t = true → textT t ≠ s.data.toList := by
      intro t hok he
      have h3 := (textT_long t hok).2
      rw [he, ← hh, Array.length_toList] at h3
      exact absurd h3 (by show ¬ 2 ≤ hb.size; omega)
    have r0 := R1.c0
    have r1 := R1.c1
    have r2 := R1.c2
    have r3 := R1.c3
    have fz0 : w1.frozen? ⟨w.heap.size, 0, none⟩ = false := Joins.unfrozen_of_block R1 0
    have fz1 : w1.frozen? ⟨w.heap.size, 1, none⟩ = false := Joins.unfrozen_of_block R1 1
    have fz2 : w1.frozen? ⟨w.heap.size, 2, none⟩ = false := Joins.unfrozen_of_block R1 2
    have fz3 : w1.frozen? ⟨w.heap.size, 3, none⟩ = false := Joins.unfrozen_of_block R1 3
    have HR := Lib.hid R1
    clear R1 hh ht
    go_wp2
    change bodyPost _ _ _ _ _ (set4 w1 w.heap.size noT)
    have z0 : (set4 w1 w.heap.size noT).cell? ⟨w.heap.size, 0, none⟩ = some (.bool false) := (set4_has noT HR.out).c0
    have z1 : (set4 w1 w.heap.size noT).cell? ⟨w.heap.size, 1, none⟩ = some (.int .i64 0) := (set4_has noT HR.out).c1
    have z2 : (set4 w1 w.heap.size noT).cell? ⟨w.heap.size, 2, none⟩ = some (.bool false) := (set4_has noT HR.out).c2
    have z3 : (set4 w1 w.heap.size noT).cell? ⟨w.heap.size, 3, none⟩ = some (.int .i64 0) := (set4_has noT HR.out).c3
    have hb4 := set4_below noT hb1 (Nat.le_refl _)
    generalize set4 w1 w.heap.size noT = W4 at *
    exact bodyPost_ret (v := .tuple #[tagV noT, .iface 24 (.int .i64 3)]) (by simp [results, Tryd.results29, go_sem, z0, z1, z2, z3, tagV, noT]) rfl ⟨Or.inr ⟨hno, rfl⟩, hb4⟩
  · have hd : decide ((hb.size : Int) < 2) = false := decide_eq_false (by omega)
    obtain ⟨g, hg⟩ : ∃ g, g = guess s.data.toList := ⟨_, rfl⟩
    obtain ⟨c0, hc0⟩ : ∃ c, c = hb.data.toList.getD 0 0 := ⟨_, rfl⟩
    obtain ⟨c1, hc1⟩ : ∃ c, c = hb.data.toList.getD 1 0 := ⟨_, rfl⟩
    have i0 : ∀ p : 0 < hb.size, hb[0]'p = c0 := fun p => by rw [hc0]; exact Lib.getD_at hb 0 p
    have i1 : ∀ p : 1 < hb.size, hb[1]'p = c1 := fun p => by rw [hc1]; exact Lib.getD_at hb 1 p
    have e0 : ((c0.toNat : Int) == 115) = g.s := by
      rw [hg, guess, hc0, hh]
      dsimp only
      rw [Bool.eq_iff_iff]
      simp only [beq_iff_eq]
      constructor
      · intro q; exact UInt8.toNat_inj.1 (by show _ = 115; omega)
      · intro q; rw [q]; rfl
    have e1 : IntKind.i64.wrap (IntKind.u8.wrap ((c1.toNat : Int) - 48)) = g.p := by
      have q : IntKind.u8.wrap ((c1.toNat : Int) - 48) = ((c1.toNat : Int) - 48) % 256 := rfl
      rw [q, IntKind.wrap_i64, hg, guess, hc1, hh]
      dsimp only
      omega
    have e2 : decide ((2 : Int) < (hb.size : Int)) = g.d := by
      rw [hg, guess, ← hh, Array.length_toList]
      dsimp only
      rw [Bool.eq_iff_iff, decide_eq_true_eq, decide_eq_true_eq]
      show _ ↔ 2 < hb.size
      omega
    have e3 : atoiV tb.data.toList = g.v := by rw [hg, guess, ht]
    have n0 : 0 < hb.size := by omega
    have n1 : 1 < hb.size := by omega
    have b0 : (0 : Int) < (hb.size : Int) := by omega
    have b1 : (1 : Int) < (hb.size : Int) := by omega
    have hl0 : s.data.toList ≠ [] := by
      intro q
      rw [q] at hh
      have : hb.data.toList.length = 0 := by rw [hh]; rfl
      rw [Array.length_toList] at this
      exact h2 (by show hb.data.size < 2; omega)
    have HG := Lib.hid hg
    clear hg hc0 hc1 hh ht h2
    go_wp2_with fail
    refine (atoi_any tb _ L1 (by omega)).mono ?_
    rintro e w2 ⟨er, rfl, k2⟩
    rw [e3]
    have hb2 := hb1.trans (k2.mono hb1.size)
    have L2 := L1.below k2
    have R2 := R1.below k2 R1.lt
    clear k2 hb1 L1 R1 e3
    go_wp2
    refine wp_region_noPanic ?_
    refine wp_region_held_drew (S := (fun _ => True)) (by kernel_rfl) ?_ (fun hHeld => ?_)
    · exact trivial
    refine wpAnyH_take (i := 0) (v := ?_) rfl (by kernel_rfl) (by kernel_rfl) (by kernel_rfl) (fun _ _ _ h => h) (Or.inl ⟨by rfl, ?_⟩) (by assumption) ?_
    rotate_left
    · (intro w hSw; (try dsimp only at hSw); go_simp; (try with_reducible rfl))
    (try simp only [Act.put, List.getElem_toArray, List.getElem_cons_zero, List.getElem_cons_succ, List.setIfInBounds_toArray, List.set_cons_zero, List.set_cons_succ])
    refine wpAnyH_take (i := 1) (v := ?_) rfl (by kernel_rfl) (by kernel_rfl) (by kernel_rfl) (fun _ _ _ h => h) (Or.inl ⟨by rfl, ?_⟩) (by assumption) ?_
    rotate_left
    · (intro w hSw; (try dsimp only at hSw); go_simp; (try with_reducible rfl))
    (try simp only [Act.put, List.getElem_toArray, List.getElem_cons_zero, List.getElem_cons_succ, List.setIfInBounds_toArray, List.set_cons_zero, List.set_cons_succ])
    refine wpAnyH_take (i := 2) (v := ?_) rfl (by kernel_rfl) (by kernel_rfl) (by kernel_rfl) (fun _ _ _ h => h) (Or.inl ⟨by rfl, ?_⟩) (by assumption) ?_
    rotate_left
    · (intro w hSw; (try dsimp only at hSw); go_simp; (try with_reducible rfl))
    (try simp only [Act.put, List.getElem_toArray, List.getElem_cons_zero, List.getElem_cons_succ, List.setIfInBounds_toArray, List.set_cons_zero, List.set_cons_succ])
    refine wpAnyH_take (i := 3) (v := ?_) rfl (by kernel_rfl) (by kernel_rfl) (by kernel_rfl) (fun _ _ _ h => h) (Or.inl ⟨by rfl, ?_⟩) (by assumption) ?_
    rotate_left
    · (intro w hSw; (try dsimp only at hSw); go_simp; (try with_reducible rfl))
    (try simp only [Act.put, List.getElem_toArray, List.getElem_cons_zero, List.getElem_cons_succ, List.setIfInBounds_toArray, List.set_cons_zero, List.set_cons_succ])
    refine wpAnyH_take (i := 4) (v := ?_) rfl (by kernel_rfl) (by kernel_rfl) (by kernel_rfl) (fun _ _ _ h => h) (Or.inl ⟨by rfl, ?_⟩) (by assumption) ?_
    rotate_left
    · (intro w hSw; (try dsimp only at hSw); go_simp; (try with_reducible rfl))
    (try simp only [Act.put, List.getElem_toArray, List.getElem_cons_zero, List.getElem_cons_succ, List.setIfInBounds_toArray, List.set_cons_zero, List.set_cons_succ])
    refine wpAnyH_take (i := 5) (v := ?_) rfl (by kernel_rfl) (by kernel_rfl) (by kernel_rfl) (fun _ _ _ h => h) (Or.inl ⟨by rfl, ?_⟩) (by assumption) ?_
    rotate_left
    · (intro w hSw; (try dsimp only at hSw); go_simp; (try with_reducible rfl))
    (try simp only [Act.put, List.getElem_toArray, List.getElem_cons_zero, List.getElem_cons_succ, List.setIfInBounds_toArray, List.set_cons_zero, List.set_cons_succ])
    refine wpAnyH_take (i := 6) (v := ?_) rfl (by kernel_rfl) (by kernel_rfl) (by kernel_rfl) (fun _ _ _ h => h) (Or.inl ⟨by rfl, ?_⟩) (by assumption) ?_
    rotate_left
    · (intro w hSw; (try dsimp only at hSw); go_simp; (try with_reducible rfl))
    (try simp only [Act.put, List.getElem_toArray, List.getElem_cons_zero, List.getElem_cons_succ, List.setIfInBounds_toArray, List.set_cons_zero, List.set_cons_succ])
    refine wpAnyH_take (i := 7) (v := ?_) rfl (by kernel_rfl) (by kernel_rfl) (by kernel_rfl) (fun _ _ _ h => h) (Or.inl ⟨by rfl, ?_⟩) (by assumption) ?_
    rotate_left
    · (intro w hSw; (try dsimp only at hSw); go_simp; (try with_reducible rfl))
    (try simp only [Act.put, List.getElem_toArray, List.getElem_cons_zero, List.getElem_cons_succ, List.setIfInBounds_toArray, List.set_cons_zero, List.set_cons_succ])
    refine wpAnyH_take (i := 8) (v := ?_) rfl (by kernel_rfl) (by kernel_rfl) (by kernel_rfl) (fun _ _ _ h => h) (Or.inl ⟨by rfl, ?_⟩) (by assumption) ?_
    rotate_left
    · (intro w hSw; (try dsimp only at hSw); go_simp; (try with_reducible rfl))
    (try simp only [Act.put, List.getElem_toArray, List.getElem_cons_zero, List.getElem_cons_succ, List.setIfInBounds_toArray, List.set_cons_zero, List.set_cons_succ])
    refine wpAnyH_take (i := 9) (v := ?_) rfl (by kernel_rfl) (by kernel_rfl) (by kernel_rfl) (fun _ _ _ h => h) (Or.inl ⟨by rfl, ?_⟩) (by assumption) ?_
    rotate_left
    · (intro w hSw; (try dsimp only at hSw); go_simp; (try with_reducible rfl))
    (try simp only [Act.put, List.getElem_toArray, List.getElem_cons_zero, List.getElem_cons_succ, List.setIfInBounds_toArray, List.set_cons_zero, List.set_cons_succ])
    refine wpAnyH_take (i := 10) (v := ?_) rfl (by kernel_rfl) (by kernel_rfl) (by kernel_rfl) (fun _ _ _ h => h) (Or.inl ⟨by rfl, ?_⟩) (by assumption) ?_
    rotate_left
    · (intro w hSw; (try dsimp only at hSw); go_simp; (try with_reducible rfl))
    (try simp only [Act.put, List.getElem_toArray, List.getElem_cons_zero, List.getElem_cons_succ, List.setIfInBounds_toArray, List.set_cons_zero, List.set_cons_succ])
    refine wpAnyH_take (i := 11) (v := ?_) rfl (by kernel_rfl) (by kernel_rfl) (by kernel_rfl) (fun _ _ _ h => h) (Or.inl ⟨by rfl, ?_⟩) (by assumption) ?_
    rotate_left
    · (intro w hSw; (try dsimp only at hSw); go_simp; (try with_reducible rfl))
    (try simp only [Act.put, List.getElem_toArray, List.getElem_cons_zero, List.getElem_cons_succ, List.setIfInBounds_toArray, List.set_cons_zero, List.set_cons_succ])
    refine wpAnyH_ready (rs := [12]) (by kernel_rfl) (by simp) ?_
    refine AllReadyH.cons rfl (fun K hK => ?_) AllReadyH.nil
    simp only [List.getElem_toArray, List.getElem_cons_zero, List.getElem_cons_succ]
    go_simp
    refine hK.out _ _ ?_ (fun hHeld => ?_)
    · exact trivial
    clear hK K
    (try simp only [Act.put, List.getElem_toArray, List.getElem_cons_zero, List.getElem_cons_succ, List.setIfInBounds_toArray, List.set_cons_zero, List.set_cons_succ])
    refine wpAnyH_ready (rs := [13]) (by kernel_rfl) (by simp) ?_
    refine AllReadyH.cons rfl (fun K hK => ?_) AllReadyH.nil
    simp only [List.getElem_toArray, List.getElem_cons_zero, List.getElem_cons_succ]
    go_simp
    go_wp2_with fail
    refine hK.out _ _ ?_ (fun hHeld => ?_)
    · exact trivial
    clear hK K
    (try simp only [Act.put, List.getElem_toArray, List.getElem_cons_zero, List.getElem_cons_succ, List.setIfInBounds_toArray, List.set_cons_zero, List.set_cons_succ])
    refine wpAnyH_done (by kernel_rfl) ?_ _
    refine NoPanic.normal ?_
    have G3 : HasT (w2.alloc (.cells #[.bool g.s, .int .i64 g.p, .bool g.d, .int .i64 g.v] 40)).drew w2.heap.size g := heap_alloc_new w2 _
    have R3 : HasT (w2.alloc (.cells #[.bool g.s, .int .i64 g.p, .bool g.d, .int .i64 g.v] 40)).drew w.heap.size noT := (heap_alloc_old _ _ R2.lt).trans R2
    have hb3 : Below w.heap.size w (w2.alloc (.cells #[.bool g.s, .int .i64 g.p, .bool g.d, .int .i64 g.v] 40)).drew := (hb2.alloc hb2.size _).drew
    have L3 : HasLib (w2.alloc (.cells #[.bool g.s, .int .i64 g.p, .bool g.d, .int .i64 g.v] 40)).drew := (L2.below ((Below.refl _ _).alloc (Nat.le_refl _) _)).drew
    clear hb2 L2 R2 b0 b1 n0 n1 e0 e1 e2 i0 i1
    generalize (w2.alloc (.cells #[.bool g.s, .int .i64 g.p, .bool g.d, .int .i64 g.v] 40)).drew = w3 at *
    generalize w2.heap.size = B at *
    have q0 := G3.c0
    have q1 := G3.c1
    have q2 := G3.c2
    have q3 := G3.c3
    cases hok : okT g with
    | true =>
      go_wp2_with fail
      refine (text_yes g hok _ L3.tab).mono ?_
      rintro e w4 ⟨rfl, k4⟩
      have hb4 := hb3.trans (k4.mono hb3.size)
      have R4 := R3.below k4 R3.lt
      have G4 := G3.below k4 G3.lt
      clear k4 hb3 R3 G3 L3 q0 q1 q2 q3
      by_cases he : textT g = s.data.toList
      · have he1 : (textT g == s.toList) = true := by rw [beq_iff_eq, he, ByteArray.toList_eq]
        have q0 := G4.c0
        have q1 := G4.c1
        have q2 := G4.c2
        have q3 := G4.c3
        have r0 := R4.c0
        have r1 := R4.c1
        have r2 := R4.c2
        have r3 := R4.c3
        have fz0 : w4.frozen? ⟨w.heap.size, 0, none⟩ = false := Joins.unfrozen_of_block R4 0
        have fz1 : w4.frozen? ⟨w.heap.size, 1, none⟩ = false := Joins.unfrozen_of_block R4 1
        have fz2 : w4.frozen? ⟨w.heap.size, 2, none⟩ = false := Joins.unfrozen_of_block R4 2
        have fz3 : w4.frozen? ⟨w.heap.size, 3, none⟩ = false := Joins.unfrozen_of_block R4 3
        have HR := Lib.hid R4
        clear R4 G4
        go_wp2
        change bodyPost _ _ _ _ _ (set4 w4 w.heap.size g)
        have z0 : (set4 w4 w.heap.size g).cell? ⟨w.heap.size, 0, none⟩ = some (.bool g.s) := (set4_has g HR.out).c0
        have z1 : (set4 w4 w.heap.size g).cell? ⟨w.heap.size, 1, none⟩ = some (.int .i64 g.p) := (set4_has g HR.out).c1
        have z2 : (set4 w4 w.heap.size g).cell? ⟨w.heap.size, 2, none⟩ = some (.bool g.d) := (set4_has g HR.out).c2
        have z3 : (set4 w4 w.heap.size g).cell? ⟨w.heap.size, 3, none⟩ = some (.int .i64 g.v) := (set4_has g HR.out).c3
        have hb5 := set4_below g hb4 (Nat.le_refl _)
        generalize set4 w4 w.heap.size g = W5 at *
        exact bodyPost_ret (v := .tuple #[tagV g, .nilIface]) (by simp [results, Tryd.results29, go_sem, z0, z1, z2, z3, tagV]) rfl ⟨Or.inl ⟨g, hok, he, rfl⟩, hb5⟩
      · have he1 : (textT g == s.toList) = false := by rw [beq_eq_false_iff_ne, ByteArray.toList_eq]; exact he
        have hno : ∀ t : Tg, okT t = true → textT t ≠ s.data.toList := by
          intro t ht hq
          have := guess_text t ht
          rw [hq, ← HG.out] at this
          exact he (by rw [this]; exact hq)
        have r0 := R4.c0
        have r1 := R4.c1
        have r2 := R4.c2
        have r3 := R4.c3
        have fz0 : w4.frozen? ⟨w.heap.size, 0, none⟩ = false := Joins.unfrozen_of_block R4 0
        have fz1 : w4.frozen? ⟨w.heap.size, 1, none⟩ = false := Joins.unfrozen_of_block R4 1
        have fz2 : w4.frozen? ⟨w.heap.size, 2, none⟩ = false := Joins.unfrozen_of_block R4 2
        have fz3 : w4.frozen? ⟨w.heap.size, 3, none⟩ = false := Joins.unfrozen_of_block R4 3
        have HR := Lib.hid R4
        clear R4
        go_wp2
        change bodyPost _ _ _ _ _ (set4 w4 w.heap.size noT)
        have z0 : (set4 w4 w.heap.size noT).cell? ⟨w.heap.size, 0, none⟩ = some (.bool false) := (set4_has noT HR.out).c0
        have z1 : (set4 w4 w.heap.size noT).cell? ⟨w.heap.size, 1, none⟩ = some (.int .i64 0) := (set4_has noT HR.out).c1
        have z2 : (set4 w4 w.heap.size noT).cell? ⟨w.heap.size, 2, none⟩ = some (.bool false) := (set4_has noT HR.out).c2
        have z3 : (set4 w4 w.heap.size noT).cell? ⟨w.heap.size, 3, none⟩ = some (.int .i64 0) := (set4_has noT HR.out).c3
        have hb5 := set4_below noT hb4 (Nat.le_refl _)
        generalize set4 w4 w.heap.size noT = W5 at *
        exact bodyPost_ret (v := .tuple #[tagV noT, .iface 24 (.int .i64 3)]) (by simp [results, Tryd.results29, go_sem, z0, z1, z2, z3, tagV, noT]) rfl ⟨Or.inr ⟨hno, rfl⟩, hb5⟩
    | false =>
      go_wp2_with fail
      refine (text_no g hok _).mono ?_
      rintro e w4 ⟨rfl, k4⟩
      have hb4 := hb3.trans (k4.mono hb3.size)
      have R4 := R3.below k4 R3.lt
      clear k4 hb3 R3 G3 L3 q0 q1 q2 q3
      have he1 : (([] : List UInt8) == s.toList) = false := by rw [beq_eq_false_iff_ne, ByteArray.toList_eq]; exact fun q => hl0 q.symm
      have hno : ∀ t : Tg, okT t = true → textT t ≠ s.data.toList := by
        intro t ht hq
        have := guess_text t ht
        rw [hq, ← HG.out] at this
        rw [this, ht] at hok
        cases hok
      have r0 := R4.c0
      have r1 := R4.c1
      have r2 := R4.c2
      have r3 := R4.c3
      have fz0 : w4.frozen? ⟨w.heap.size, 0, none⟩ = false := Joins.unfrozen_of_block R4 0
      have fz1 : w4.frozen? ⟨w.heap.size, 1, none⟩ = false := Joins.unfrozen_of_block R4 1
      have fz2 : w4.frozen? ⟨w.heap.size, 2, none⟩ = false := Joins.unfrozen_of_block R4 2
      have fz3 : w4.frozen? ⟨w.heap.size, 3, none⟩ = false := Joins.unfrozen_of_block R4 3
      have HR := Lib.hid R4
      clear R4
      go_wp2
      change bodyPost _ _ _ _ _ (set4 w4 w.heap.size noT)
      have z0 : (set4 w4 w.heap.size noT).cell? ⟨w.heap.size, 0, none⟩ = some (.bool false) := (set4_has noT HR.out).c0
      have z1 : (set4 w4 w.heap.size noT).cell? ⟨w.heap.size, 1, none⟩ = some (.int .i64 0) := (set4_has noT HR.out).c1
      have z2 : (set4 w4 w.heap.size noT).cell? ⟨w.heap.size, 2, none⟩ = some (.bool false) := (set4_has noT HR.out).c2
      have z3 : (set4 w4 w.heap.size noT).cell? ⟨w.heap.size, 3, none⟩ = some (.int .i64 0) := (set4_has noT HR.out).c3
      have hb5 := set4_below noT hb4 (Nat.le_refl _)
      generalize set4 w4 w.heap.size noT = W5 at *
      exact bodyPost_ret (v := .tuple #[tagV noT, .iface 24 (.int .i64 3)]) (by simp [results, Tryd.results29, go_sem, z0, z1, z2, z3, tagV, noT]) rfl ⟨Or.inr ⟨hno, rfl⟩, hb5⟩
end Go.Proofs.YtafmkgdpfjimkaaDoor
