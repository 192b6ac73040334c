/- switchyardkeep.PrioBack returns true at every name of a bridge and of a port, and every text, and changes nothing that was there. -/
import Derived.Test.YtceiiolpggolbaaDoorPrioBackM
namespace Go.Proofs.YtceiiolpggolbaaDoor.prioBack
open Go.RowKit
attribute [local go_sem ↓] Go.wp_at_zero Go.wp_at_succ
set_option linter.unusedSimpArgs false
set_option linter.unusedVariables false
set_option maxRecDepth 100000

theorem left_t {g : Nat} {s : ByteArray} {off : Nat} (st : RSt) (w : World) (h : RdT w g s off st) (hz : s.size = st.1) :
    Calls Tryd.prog 32 #[.pointer (some ⟨g, 0, none⟩)] w fun e w' => e = .returned (.int .i64 0) ∧ w = w' := by
  obtain ⟨f, hr, hf⟩ := h
  have h1 := hr.c0
  have hz2 : (s.extract st.1 s.size).size = 0 := by rw [ByteArray.size_extract]; omega
  generalize s.extract st.1 s.size = t at *
  go_enter Tryd.func32, Tryd.ntmps32
  go_wp2
  go_ret
  exact ⟨rfl, rfl⟩

theorem grown_belowK {B g : Nat} {a w w' : World} (h : Below B a w) (hg : w.grownBy w' (some g)) (hB : B ≤ w.heap.size) (hr : B ≤ g) : Below B a w' :=
  h.grown hg hB fun k e => by cases e; exact hr
/-- The variables that are held against each other. -/
def Trio (w : World) (k d : Nat) (b : Br) (p n : Int) : Prop := Blk w k 25 (brC b) ∧ Blk w (k + 1) 27 (ptC p n) ∧ Blk w d 25 (brC b)
theorem Trio.grown {w w' : World} {k d g : Nat} {b : Br} {p n : Int} (h : Trio w k d b p n) (hg : w.grownBy w' (some g)) (h0 : k ≠ g) (h1 : k + 1 ≠ g) (h2 : d ≠ g) : Trio w' k d b p n := ⟨h.1.grown hg (by simpa using h0), h.2.1.grown hg (by simpa using h1), h.2.2.grown hg (by simpa using h2)⟩
theorem Trio.drew {w : World} {k d : Nat} {b : Br} {p n : Int} (h : Trio w k d b p n) : Trio w.drew k d b p n := h

set_option maxHeartbeats 6400000 in
theorem walk (b : Br) (hb : byB b) (p n : Int) (s : ByteArray) (w : World) (hL : HasLib w) :
    Calls Tryd.prog 6 #[.agg (brC b), .agg (ptC p n), .string s] w fun e w' => e = .returned (.bool true) ∧ Below w.heap.size w w' := by
  obtain ⟨A0, C0, B0⟩ := two_blks w 25 27 (brC b) (ptC p n)
  have HN := Lib.hid (fun W (h : HasLib W) => named_any W h)
  have R1 := Lib.hid (fun W => right_any b W)
  have R2 := Lib.hid (fun W => port_any p n W)
  have HZ : ∀ W, (Op.equalIn 10000 25 (.agg (brC zBr)) (.agg (brC zBr))).run Tryd.prog W = .ok true W := fun W => by
    have h := run_eql_br 9997 zBr zBr W
    rw [eqB_refl] at h
    exact h
  have HZH := Lib.hid HZ
  clear HZ
  cases hok : okB b with
  | false =>
    rw [hok] at R1
    go_enter Tryd.func6, Tryd.ntmps6
    go_upto_region 1 with (fail)
    generalize (w.alloc (.cells (brC b) 25)).alloc (.cells (ptC p n) 27) = w0 at *
    go_wp2_with fail
    refine (HN.out _ (hL.below B0)).mono ?_
    rintro e w1 ⟨rfl, k1⟩
    have A1 := A0.kept k1
    have C1 := C0.kept k1
    have B1 := B0.trans (k1.mono B0.size)
    clear A0 C0 B0 k1
    go_wp2_with (refine load_blk (k := 0) 25 (brC b) (by rfl) rfl rfl A1 (by kernel_rfl) (by kernel_rfl) rfl ?_)
    refine (R1.out _).mono ?_
    rintro e w2 ⟨rfl, k2⟩
    have A2 := A1.kept k2
    have C2 := C1.kept k2
    have B2 := B1.trans (k2.mono B1.size)
    clear A1 C1 B1 k2
    have LT := hL.below B2
    by_cases hs : s.size ≤ 100
    · have hgt : decide ((100 : Int) < (s.size : Int)) = false := decide_eq_false (by omega)
      go_wp2_with fail
      refine (prParse_any s _ LT (by omega)).mono ?_
      rintro e x1 ⟨hp, kx⟩
      have BX := (B2).trans (kx.mono (B2).size)
      rcases hp with ⟨u, hok, hby, ht, rfl⟩ | ⟨_, rfl⟩
      · go_wp2_with (first
          | (refine alloc_blk 25 (brC zBr) (by rfl) rfl Tryd.brZero ?_)
          | (refine store_blk (k := 0) 25 (.agg (brC u)) (brC u) (by rfl) rfl rfl rfl (Blk.new x1 _ _) (by kernel_rfl) (show (8 : Nat) ≤ 8 from Nat.le_refl 8) (by rfl) (st_whole _ _ rfl) ?_; intro x2 U2 bx2 gx2; have BX2 := (BX.alloc BX.size (.cells (brC zBr) 25)).trans (bx2.mono BX.size))
          | (refine load_blk (k := 0) 25 (brC u) (by rfl) rfl rfl U2 (by kernel_rfl) (by kernel_rfl) rfl ?_))
        refine (prText_yes u hok hby _ (hL.below BX2).tab).mono ?_
        rintro e x3 ⟨rfl, kx3⟩
        have he1 : (textB u == s.toList) = true := by rw [beq_iff_eq, ht, ByteArray.toList_eq]
        go_wp2
        go_ret
        exact ⟨rfl, BX2.trans (kx3.mono BX2.size)⟩
      · go_wp2_with (first
          | (refine alloc_blk 25 (brC zBr) (by rfl) rfl Tryd.brZero ?_)
          | (refine store_blk (k := 0) 25 (.agg (brC zBr)) (brC zBr) (by rfl) rfl rfl rfl (Blk.new x1 _ _) (by kernel_rfl) (show (8 : Nat) ≤ 8 from Nat.le_refl 8) (by rfl) (st_whole _ _ rfl) ?_; intro x2 U2 bx2 gx2; have BX2 := (BX.alloc BX.size (.cells (brC zBr) 25)).trans (bx2.mono BX.size))
          | (refine load_blk (k := 0) 25 (brC zBr) (by rfl) rfl rfl U2 (by kernel_rfl) (by kernel_rfl) rfl ?_)
          | (refine build_blk (t := 25) (brC zBr) (by rfl) rfl (by kernel_rfl) ?_)
          | (refine eq_blk .eql 25 (brC zBr) (brC zBr) true (by rfl) rfl (Or.inl rfl) rfl rfl (by kernel_rfl) (HZH.out _) ?_))
        go_ret
        exact ⟨rfl, BX2⟩
    · have hgt : decide ((100 : Int) < (s.size : Int)) = true := decide_eq_true (by omega)
      go_wp2
      go_ret
      exact ⟨rfl, B2⟩
  | true =>
    rw [hok] at R1
    cases hpt : okPt p n with
    | false =>
      rw [hpt] at R2
      go_enter Tryd.func6, Tryd.ntmps6
      go_upto_region 1 with (fail)
      generalize (w.alloc (.cells (brC b) 25)).alloc (.cells (ptC p n) 27) = w0 at *
      go_wp2_with fail
      refine (HN.out _ (hL.below B0)).mono ?_
      rintro e w1 ⟨rfl, k1⟩
      have A1 := A0.kept k1
      have C1 := C0.kept k1
      have B1 := B0.trans (k1.mono B0.size)
      clear A0 C0 B0 k1
      go_wp2_with (refine load_blk (k := 0) 25 (brC b) (by rfl) rfl rfl A1 (by kernel_rfl) (by kernel_rfl) rfl ?_)
      refine (R1.out _).mono ?_
      rintro e w2 ⟨rfl, k2⟩
      have A2 := A1.kept k2
      have C2 := C1.kept k2
      have B2 := B1.trans (k2.mono B1.size)
      clear A1 C1 B1 k2
      go_wp2_with (refine load_blk (k := 0) 27 (ptC p n) (by rfl) rfl rfl C2 (by kernel_rfl) (by kernel_rfl) rfl ?_)
      refine (R2.out _).mono ?_
      rintro e w3 ⟨rfl, k3⟩
      have A3 := A2.kept k3
      have C3 := C2.kept k3
      have B3 := B2.trans (k3.mono B2.size)
      clear A2 C2 B2 k3
      have LT := hL.below B3
      by_cases hs : s.size ≤ 100
      · have hgt : decide ((100 : Int) < (s.size : Int)) = false := decide_eq_false (by omega)
        go_wp2_with fail
        refine (prParse_any s _ LT (by omega)).mono ?_
        rintro e x1 ⟨hp, kx⟩
        have BX := (B3).trans (kx.mono (B3).size)
        rcases hp with ⟨u, hok, hby, ht, rfl⟩ | ⟨_, rfl⟩
        · go_wp2_with (first
            | (refine alloc_blk 25 (brC zBr) (by rfl) rfl Tryd.brZero ?_)
            | (refine store_blk (k := 0) 25 (.agg (brC u)) (brC u) (by rfl) rfl rfl rfl (Blk.new x1 _ _) (by kernel_rfl) (show (8 : Nat) ≤ 8 from Nat.le_refl 8) (by rfl) (st_whole _ _ rfl) ?_; intro x2 U2 bx2 gx2; have BX2 := (BX.alloc BX.size (.cells (brC zBr) 25)).trans (bx2.mono BX.size))
            | (refine load_blk (k := 0) 25 (brC u) (by rfl) rfl rfl U2 (by kernel_rfl) (by kernel_rfl) rfl ?_))
          refine (prText_yes u hok hby _ (hL.below BX2).tab).mono ?_
          rintro e x3 ⟨rfl, kx3⟩
          have he1 : (textB u == s.toList) = true := by rw [beq_iff_eq, ht, ByteArray.toList_eq]
          go_wp2
          go_ret
          exact ⟨rfl, BX2.trans (kx3.mono BX2.size)⟩
        · go_wp2_with (first
            | (refine alloc_blk 25 (brC zBr) (by rfl) rfl Tryd.brZero ?_)
            | (refine store_blk (k := 0) 25 (.agg (brC zBr)) (brC zBr) (by rfl) rfl rfl rfl (Blk.new x1 _ _) (by kernel_rfl) (show (8 : Nat) ≤ 8 from Nat.le_refl 8) (by rfl) (st_whole _ _ rfl) ?_; intro x2 U2 bx2 gx2; have BX2 := (BX.alloc BX.size (.cells (brC zBr) 25)).trans (bx2.mono BX.size))
            | (refine load_blk (k := 0) 25 (brC zBr) (by rfl) rfl rfl U2 (by kernel_rfl) (by kernel_rfl) rfl ?_)
            | (refine build_blk (t := 25) (brC zBr) (by rfl) rfl (by kernel_rfl) ?_)
            | (refine eq_blk .eql 25 (brC zBr) (brC zBr) true (by rfl) rfl (Or.inl rfl) rfl rfl (by kernel_rfl) (HZH.out _) ?_))
          go_ret
          exact ⟨rfl, BX2⟩
      · have hgt : decide ((100 : Int) < (s.size : Int)) = true := decide_eq_true (by omega)
        go_wp2
        go_ret
        exact ⟨rfl, B3⟩
    | true =>
      rw [hpt] at R2
      obtain ⟨hlen, m1, m2, m3, m4⟩ := back_math b p n hb hok hpt
      have hadd : ∀ W, (Op.stringOp .add ⟨(packL b).toArray⟩ ⟨(ppL p n).toArray⟩).run Tryd.prog W = .ok (.string ⟨(packL b ++ ppL p n).toArray⟩) W := fun W => by
        have q1 := packL_len b
        have q2 : (ppL p n).length = 2 := putL_length _ _
        exact run_string_add_lists W _ _ (by omega) (by omega)
      have P1 := Lib.hid (fun W => pack_yes b hok hb W)
      have P2 := Lib.hid (fun W => packPort_yes p n hpt W)
      have P3 := Lib.hid (fun W (h : HasLib W) => prText_yes b hok hb W h.tab)
      have P4 := Lib.hid (fun W (h : HasLib W) => prParse_text b hok hb W h)
      have hsz : (⟨(packL b ++ ppL p n).toArray⟩ : ByteArray).size = 10 := by simpa [ByteArray.size] using hlen
      have Q1 : Hid (∀ {g : Nat} (W : World), RdT W g ⟨(packL b ++ ppL p n).toArray⟩ 0 (0, 0, -1) → Calls Tryd.prog 22 #[.pointer (some ⟨g, 0, none⟩)] W fun e w' => e = .returned (.agg (brC b)) ∧ RdT w' g ⟨(packL b ++ ppL p n).toArray⟩ 0 (8, 0, -1) ∧ W.grownBy w' (some g)) := fun {g} W h => by
        have q := prRead_t (g := g) (s := ⟨(packL b ++ ppL p n).toArray⟩) (off := 0) (0, 0, -1) W h (Nat.zero_le _) (by rw [hsz]; decide)
        rw [show (⟨(packL b ++ ppL p n).toArray⟩ : ByteArray).data.toList = packL b ++ ppL p n from by simp, m1, m2] at q
        exact q
      have Q2 : Hid (∀ {g : Nat} (W : World), RdT W g ⟨(packL b ++ ppL p n).toArray⟩ 0 (8, 0, -1) → Calls Tryd.prog 23 #[.pointer (some ⟨g, 0, none⟩)] W fun e w' => e = .returned (.agg (ptC p n)) ∧ RdT w' g ⟨(packL b ++ ppL p n).toArray⟩ 0 (10, 0, -1) ∧ W.grownBy w' (some g)) := fun {g} W h => by
        have q := prReadPort_t (g := g) (s := ⟨(packL b ++ ppL p n).toArray⟩) (off := 0) (8, 0, -1) W h (by rw [hsz]; decide) (by rw [hsz]; decide)
        rw [show (⟨(packL b ++ ppL p n).toArray⟩ : ByteArray).data.toList = packL b ++ ppL p n from by simp, m3, m4] at q
        exact q
      have HBr : Hid (∀ W, (Op.equalIn 10000 25 (.agg (brC b)) (.agg (brC b))).run Tryd.prog W = .ok true W) := fun W => by
        have h := run_eql_br 9997 b b W
        rw [eqB_refl] at h
        exact h
      have HPt : Hid (∀ W, (Op.equalIn 10000 27 (.agg (ptC p n)) (.agg (ptC p n))).run Tryd.prog W = .ok true W) := fun W => by
        have h := run_eql_pt 9997 ⟨p, n⟩ ⟨p, n⟩ W
        have e : eqP ⟨p, n⟩ ⟨p, n⟩ = true := by simp [eqP]
        rw [e] at h
        exact h
      have HSZ := Lib.hid hsz
      clear hlen m1 m2 m3 m4 hsz
      generalize packL b = u1 at *
      generalize ppL p n = u2 at *
      generalize u1 ++ u2 = u3 at *
      go_enter Tryd.func6, Tryd.ntmps6
      go_upto_region 1 with (fail)
      generalize (w.alloc (.cells (brC b) 25)).alloc (.cells (ptC p n) 27) = w0 at *
      go_wp2_with fail
      refine (HN.out _ (hL.below B0)).mono ?_
      rintro e w1 ⟨rfl, k1⟩
      have A1 := A0.kept k1
      have C1 := C0.kept k1
      have B1 := B0.trans (k1.mono B0.size)
      clear A0 C0 B0 k1
      go_wp2_with (refine load_blk (k := 0) 25 (brC b) (by rfl) rfl rfl A1 (by kernel_rfl) (by kernel_rfl) rfl ?_)
      refine (R1.out _).mono ?_
      rintro e w2 ⟨rfl, k2⟩
      have A2 := A1.kept k2
      have C2 := C1.kept k2
      have B2 := B1.trans (k2.mono B1.size)
      clear A1 C1 B1 k2
      go_wp2_with (refine load_blk (k := 0) 27 (ptC p n) (by rfl) rfl rfl C2 (by kernel_rfl) (by kernel_rfl) rfl ?_)
      refine (R2.out _).mono ?_
      rintro e w3 ⟨rfl, k3⟩
      have A3 := A2.kept k3
      have C3 := C2.kept k3
      have B3 := B2.trans (k3.mono B2.size)
      clear A2 C2 B2 k3
      go_wp2_with (refine load_blk (k := 0) 25 (brC b) (by rfl) rfl rfl A3 (by kernel_rfl) (by kernel_rfl) rfl ?_)
      refine (P1.out _).mono ?_
      rintro e w4 ⟨rfl, k4⟩
      have A4 := A3.kept k4
      have C4 := C3.kept k4
      have B4 := B3.trans (k4.mono B3.size)
      clear A3 C3 B3 k4
      go_wp2_with (refine load_blk (k := 0) 27 (ptC p n) (by rfl) rfl rfl C4 (by kernel_rfl) (by kernel_rfl) rfl ?_)
      refine (P2.out _).mono ?_
      rintro e w5 ⟨rfl, k5⟩
      have A5 := A4.kept k5
      have C5 := C4.kept k5
      have B5 := B4.trans (k5.mono B4.size)
      clear A4 C4 B4 k5
      go_wp2_with (refine load_blk (k := 0) 25 (brC b) (by rfl) rfl rfl A5 (by kernel_rfl) (by kernel_rfl) rfl ?_)
      refine (P3.out _ (hL.below B5)).mono ?_
      rintro e w6 ⟨rfl, k6⟩
      have A6 := A5.kept k6
      have C6 := C5.kept k6
      have B6 := B5.trans (k6.mono B5.size)
      clear A5 C5 B5 k6
      go_wp2_with fail
      refine (P4.out _ (hL.below B6)).mono ?_
      rintro e w7 ⟨rfl, k7⟩
      have A7 := A6.kept k7
      have C7 := C6.kept k7
      have B7 := B6.trans (k7.mono B6.size)
      clear A6 C6 B6 k7
      have lt7 := A7.lt
      have ltc7 := C7.lt
      go_wp2_with (first
        | (refine alloc_blk 25 (brC zBr) (by rfl) rfl Tryd.brZero ?_)
        | (refine store_blk (k := 0) 25 (.agg (brC b)) (brC b) (by rfl) rfl rfl rfl (Blk.new w7 _ _) (by kernel_rfl) (show (8 : Nat) ≤ 8 from Nat.le_refl 8) (by rfl) (st_whole _ _ rfl) ?_; intro w8 D8 b8 g8; have A8 := (A7.alloc (.cells (brC zBr) 25)).below b8 lt7; have C8 := (C7.alloc (.cells (brC zBr) 25)).below b8 ltc7; have B8 := (B7.alloc B7.size (.cells (brC zBr) 25)).trans (b8.mono B7.size)))
      clear A7 C7 B7 b8 g8
      refine (new_t ⟨u3.toArray⟩ 0 _).mono ?_
      rintro e w9 ⟨rfl, H9, k9⟩
      have V9 : Trio w9 w.heap.size w7.heap.size b p n := ⟨A8.kept k9, C8.kept k9, D8.kept k9⟩
      have B9 := B8.trans (k9.mono B8.size)
      have lg := D8.lt
      have lc : w.heap.size + 1 < w7.heap.size := ltc7
      clear A8 C8 D8 B8 k9
      generalize w8.heap.size = g at *
      generalize w7.heap.size = d at *
      go_upto_region 9 with (fail)
      refine wp_region_noPanic ?_
      refine wp_region_held_drew (S := (fun w' => Trio w' w.heap.size d b p n)) (by kernel_rfl) ?_ (fun hHeld => ?_)
      · exact V9
      refine wpAnyH_take (i := 0) (v := ?_) rfl (by kernel_rfl) (by kernel_rfl) (by kernel_rfl) (fun _ _ _ h => h) (Or.inl ⟨by rfl, ?_⟩) (by assumption) ?_
      rotate_left
      · (intro w hSw; (try dsimp only at hSw); go_simp; (try with_reducible rfl))
      (try simp only [Act.put, List.getElem_toArray, List.getElem_cons_zero, List.getElem_cons_succ, List.setIfInBounds_toArray, List.set_cons_zero, List.set_cons_succ])
      refine wpAnyH_take (i := 1) (v := ?_) rfl (by kernel_rfl) (by kernel_rfl) (by kernel_rfl) (fun _ _ _ h => h) (Or.inl ⟨by rfl, ?_⟩) (by assumption) ?_
      rotate_left
      · (intro w hSw; (try dsimp only at hSw); go_simp; (try with_reducible rfl))
      (try simp only [Act.put, List.getElem_toArray, List.getElem_cons_zero, List.getElem_cons_succ, List.setIfInBounds_toArray, List.set_cons_zero, List.set_cons_succ])
      refine wpAnyH_take (i := 2) (v := ?_) rfl (by kernel_rfl) (by kernel_rfl) (by kernel_rfl) (fun _ _ _ h => h) (Or.inl ⟨by rfl, ?_⟩) (by assumption) ?_
      rotate_left
      · (intro w hSw; (try dsimp only at hSw); go_simp; (try with_reducible rfl))
      (try simp only [Act.put, List.getElem_toArray, List.getElem_cons_zero, List.getElem_cons_succ, List.setIfInBounds_toArray, List.set_cons_zero, List.set_cons_succ])
      refine wpAnyH_take (i := 3) (v := ?_) rfl (by kernel_rfl) (by kernel_rfl) (by kernel_rfl) (fun _ _ _ h => h) (Or.inl ⟨by rfl, ?_⟩) (by assumption) ?_
      rotate_left
      · (intro w hSw; (try dsimp only at hSw); go_simp; (try with_reducible rfl))
      (try simp only [Act.put, List.getElem_toArray, List.getElem_cons_zero, List.getElem_cons_succ, List.setIfInBounds_toArray, List.set_cons_zero, List.set_cons_succ])
      refine wpAnyH_take (i := 4) (v := ?_) rfl (by kernel_rfl) (by kernel_rfl) (by kernel_rfl) (fun _ _ _ h => h) (Or.inl ⟨by rfl, ?_⟩) (by assumption) ?_
      rotate_left
      · (intro w hSw; (try dsimp only at hSw); go_simp; (try with_reducible rfl))
      (try simp only [Act.put, List.getElem_toArray, List.getElem_cons_zero, List.getElem_cons_succ, List.setIfInBounds_toArray, List.set_cons_zero, List.set_cons_succ])
      refine wpAnyH_take (i := 5) (v := ?_) rfl (by kernel_rfl) (by kernel_rfl) (by kernel_rfl) (fun _ _ _ h => h) (Or.inl ⟨by rfl, ?_⟩) (by assumption) ?_
      rotate_left
      · (intro w hSw; (try dsimp only at hSw); go_simp; (try with_reducible rfl))
      (try simp only [Act.put, List.getElem_toArray, List.getElem_cons_zero, List.getElem_cons_succ, List.setIfInBounds_toArray, List.set_cons_zero, List.set_cons_succ])
      refine wpAnyH_take (i := 6) (v := ?_) rfl (by kernel_rfl) (by kernel_rfl) (by kernel_rfl) (fun _ _ _ h => h) (Or.inl ⟨by rfl, ?_⟩) (by assumption) ?_
      rotate_left
      · (intro w hSw; (try dsimp only at hSw); go_simp; (try with_reducible rfl))
      (try simp only [Act.put, List.getElem_toArray, List.getElem_cons_zero, List.getElem_cons_succ, List.setIfInBounds_toArray, List.set_cons_zero, List.set_cons_succ])
      refine wpAnyH_take (i := 7) (v := ?_) rfl (by kernel_rfl) (by kernel_rfl) (by kernel_rfl) (fun _ _ _ h => h) (Or.inl ⟨by rfl, ?_⟩) (by assumption) ?_
      rotate_left
      · (intro w hSw; (try dsimp only at hSw); go_simp; (try with_reducible rfl))
      (try simp only [Act.put, List.getElem_toArray, List.getElem_cons_zero, List.getElem_cons_succ, List.setIfInBounds_toArray, List.set_cons_zero, List.set_cons_succ])
      refine wpAnyH_take (i := 8) (v := ?_) rfl (by kernel_rfl) (by kernel_rfl) (by kernel_rfl) (fun _ _ _ h => h) (Or.inl ⟨by rfl, ?_⟩) (by assumption) ?_
      rotate_left
      · (intro w hSw; (try dsimp only at hSw); go_simp; (try with_reducible rfl))
      (try simp only [Act.put, List.getElem_toArray, List.getElem_cons_zero, List.getElem_cons_succ, List.setIfInBounds_toArray, List.set_cons_zero, List.set_cons_succ])
      refine wpAnyH_take (i := 9) (v := ?_) rfl (by kernel_rfl) (by kernel_rfl) (by kernel_rfl) (fun _ _ _ h => h) (Or.inl ⟨by rfl, ?_⟩) (by assumption) ?_
      rotate_left
      · (intro w hSw; (try dsimp only at hSw); go_simp; (try with_reducible rfl))
      (try simp only [Act.put, List.getElem_toArray, List.getElem_cons_zero, List.getElem_cons_succ, List.setIfInBounds_toArray, List.set_cons_zero, List.set_cons_succ])
      refine wpAnyH_take (i := 10) (v := ?_) rfl (by kernel_rfl) (by kernel_rfl) (by kernel_rfl) (fun _ _ _ h => h) (Or.inl ⟨by rfl, ?_⟩) (by assumption) ?_
      rotate_left
      · (intro w hSw; (try dsimp only at hSw); go_simp; (try with_reducible rfl))
      (try simp only [Act.put, List.getElem_toArray, List.getElem_cons_zero, List.getElem_cons_succ, List.setIfInBounds_toArray, List.set_cons_zero, List.set_cons_succ])
      refine wpAnyH_take (i := 11) (v := ?_) rfl (by kernel_rfl) (by kernel_rfl) (by kernel_rfl) (fun _ _ _ h => h) (Or.inl ⟨by rfl, ?_⟩) (by assumption) ?_
      rotate_left
      · (intro w hSw; (try dsimp only at hSw); go_simp; (try with_reducible rfl))
      (try simp only [Act.put, List.getElem_toArray, List.getElem_cons_zero, List.getElem_cons_succ, List.setIfInBounds_toArray, List.set_cons_zero, List.set_cons_succ])
      refine wpAnyH_take (i := 12) (v := ?_) rfl (by kernel_rfl) (by kernel_rfl) (by kernel_rfl) (fun _ _ _ h => h) (Or.inl ⟨by rfl, ?_⟩) (by assumption) ?_
      rotate_left
      · (intro w hSw; (try dsimp only at hSw); go_simp; (try with_reducible rfl))
      (try simp only [Act.put, List.getElem_toArray, List.getElem_cons_zero, List.getElem_cons_succ, List.setIfInBounds_toArray, List.set_cons_zero, List.set_cons_succ])
      refine wpAnyH_take (i := 13) (v := ?_) rfl (by kernel_rfl) (by kernel_rfl) (by kernel_rfl) (fun _ _ _ h => h) (Or.inl ⟨by rfl, ?_⟩) (by assumption) ?_
      rotate_left
      · (intro w hSw; (try dsimp only at hSw); go_simp; (try with_reducible rfl))
      (try simp only [Act.put, List.getElem_toArray, List.getElem_cons_zero, List.getElem_cons_succ, List.setIfInBounds_toArray, List.set_cons_zero, List.set_cons_succ])
      refine wpAnyH_take (i := 14) (v := ?_) rfl (by kernel_rfl) (by kernel_rfl) (by kernel_rfl) (fun _ _ _ h => h) (Or.inl ⟨by rfl, ?_⟩) (by assumption) ?_
      rotate_left
      · (intro w hSw; (try dsimp only at hSw); go_simp; (try with_reducible rfl))
      (try simp only [Act.put, List.getElem_toArray, List.getElem_cons_zero, List.getElem_cons_succ, List.setIfInBounds_toArray, List.set_cons_zero, List.set_cons_succ])
      refine wpAnyH_take (i := 15) (v := ?_) rfl (by kernel_rfl) (by kernel_rfl) (by kernel_rfl) (fun _ _ _ h => h) (Or.inl ⟨by rfl, ?_⟩) (by assumption) ?_
      rotate_left
      · (intro w hSw; (try dsimp only at hSw); go_simp; (try with_reducible rfl))
      (try simp only [Act.put, List.getElem_toArray, List.getElem_cons_zero, List.getElem_cons_succ, List.setIfInBounds_toArray, List.set_cons_zero, List.set_cons_succ])
      refine wpAnyH_take (i := 16) (v := ?_) rfl (by kernel_rfl) (by kernel_rfl) (by kernel_rfl) (fun _ _ _ h => h) (Or.inl ⟨by rfl, ?_⟩) (by assumption) ?_
      rotate_left
      · (intro w hSw; (try dsimp only at hSw); go_simp; (try with_reducible rfl))
      (try simp only [Act.put, List.getElem_toArray, List.getElem_cons_zero, List.getElem_cons_succ, List.setIfInBounds_toArray, List.set_cons_zero, List.set_cons_succ])
      refine wpAnyH_take (i := 17) (v := ?_) rfl (by kernel_rfl) (by kernel_rfl) (by kernel_rfl) (fun _ _ _ h => h) (Or.inl ⟨by rfl, ?_⟩) (by assumption) ?_
      rotate_left
      · (intro w hSw; (try dsimp only at hSw); go_simp; (try with_reducible rfl))
      (try simp only [Act.put, List.getElem_toArray, List.getElem_cons_zero, List.getElem_cons_succ, List.setIfInBounds_toArray, List.set_cons_zero, List.set_cons_succ])
      refine wpAnyH_take (i := 18) (v := ?_) rfl (by kernel_rfl) (by kernel_rfl) (by kernel_rfl) (fun _ _ _ h => h) (Or.inl ⟨by rfl, ?_⟩) (by assumption) ?_
      rotate_left
      · (intro w hSw; (try dsimp only at hSw); go_simp; (try with_reducible rfl))
      (try simp only [Act.put, List.getElem_toArray, List.getElem_cons_zero, List.getElem_cons_succ, List.setIfInBounds_toArray, List.set_cons_zero, List.set_cons_succ])
      refine wpAnyH_take (i := 19) (v := ?_) rfl (by kernel_rfl) (by kernel_rfl) (by kernel_rfl) (fun _ _ _ h => h) (Or.inl ⟨by rfl, ?_⟩) (by assumption) ?_
      rotate_left
      · (intro w hSw; (try dsimp only at hSw); go_simp; (try with_reducible rfl))
      (try simp only [Act.put, List.getElem_toArray, List.getElem_cons_zero, List.getElem_cons_succ, List.setIfInBounds_toArray, List.set_cons_zero, List.set_cons_succ])
      refine wpAnyH_take (i := 21) (v := .agg (brC b)) rfl (by kernel_rfl) (by kernel_rfl) (by kernel_rfl) (fun _ _ _ h => h) (Or.inl ⟨by rfl, fun w hSw => exec_load_blk (k := 0) 25 (brC b) rfl rfl hSw.1 (by kernel_rfl) (by kernel_rfl) rfl⟩) (by assumption) ?_
      (try simp only [Act.put, List.getElem_toArray, List.getElem_cons_zero, List.getElem_cons_succ, List.setIfInBounds_toArray, List.set_cons_zero, List.set_cons_succ])
      refine wpAnyH_ready (rs := [20]) (by kernel_rfl) (by simp) ?_
      refine AllReadyH.cons rfl (fun K hK => ?_) AllReadyH.nil
      simp only [List.getElem_toArray, List.getElem_cons_zero, List.getElem_cons_succ]
      go_simp
      with_reducible refine (Q1.out _ H9.drew).mono ?_
      rintro e w10 ⟨rfl, H10, g10⟩
      have V10 := V9.drew.grown g10 (by omega) (by omega) (by omega)
      have B10 := grown_belowK B9.drew g10 B9.size (by omega)
      refine hK.out _ _ ?_ (fun hHeld => ?_)
      · exact V10
      clear hK K
      (try simp only [Act.put, List.getElem_toArray, List.getElem_cons_zero, List.getElem_cons_succ, List.setIfInBounds_toArray, List.set_cons_zero, List.set_cons_succ])
      refine wpAnyH_take (i := 22) (v := .bool false) rfl (by kernel_rfl) (by kernel_rfl) (by kernel_rfl) (fun _ _ _ h => h) (Or.inl ⟨by rfl, fun w hSw => exec_eq_agg .neq 25 (brC b) (brC b) true rfl (Or.inr rfl) rfl rfl (by kernel_rfl) (HBr.out _)⟩) (by assumption) ?_
      (try simp only [Act.put, List.getElem_toArray, List.getElem_cons_zero, List.getElem_cons_succ, List.setIfInBounds_toArray, List.set_cons_zero, List.set_cons_succ])
      refine wpAnyH_take (i := 23) (v := ?_) rfl (by kernel_rfl) (by kernel_rfl) (by kernel_rfl) (fun _ _ _ h => h) (Or.inl ⟨by rfl, ?_⟩) (by assumption) ?_
      rotate_left
      · (intro w hSw; (try dsimp only at hSw); go_simp; (try with_reducible rfl))
      (try simp only [Act.put, List.getElem_toArray, List.getElem_cons_zero, List.getElem_cons_succ, List.setIfInBounds_toArray, List.set_cons_zero, List.set_cons_succ])
      refine wpAnyH_take (i := 24) (v := ?_) rfl (by kernel_rfl) (by kernel_rfl) (by kernel_rfl) (fun _ _ _ h => h) (Or.inl ⟨by rfl, ?_⟩) (by assumption) ?_
      rotate_left
      · (intro w hSw; (try dsimp only at hSw); go_simp; (try with_reducible rfl))
      (try simp only [Act.put, List.getElem_toArray, List.getElem_cons_zero, List.getElem_cons_succ, List.setIfInBounds_toArray, List.set_cons_zero, List.set_cons_succ])
      refine wpAnyH_take (i := 25) (v := ?_) rfl (by kernel_rfl) (by kernel_rfl) (by kernel_rfl) (fun _ _ _ h => h) (Or.inl ⟨by rfl, ?_⟩) (by assumption) ?_
      rotate_left
      · (intro w hSw; (try dsimp only at hSw); go_simp; (try with_reducible rfl))
      (try simp only [Act.put, List.getElem_toArray, List.getElem_cons_zero, List.getElem_cons_succ, List.setIfInBounds_toArray, List.set_cons_zero, List.set_cons_succ])
      refine wpAnyH_take (i := 27) (v := .agg (ptC p n)) rfl (by kernel_rfl) (by kernel_rfl) (by kernel_rfl) (fun _ _ _ h => h) (Or.inl ⟨by rfl, fun w hSw => exec_load_blk (k := 0) 27 (ptC p n) rfl rfl hSw.2.1 (by kernel_rfl) (by kernel_rfl) rfl⟩) (by assumption) ?_
      (try simp only [Act.put, List.getElem_toArray, List.getElem_cons_zero, List.getElem_cons_succ, List.setIfInBounds_toArray, List.set_cons_zero, List.set_cons_succ])
      refine wpAnyH_ready (rs := [26]) (by kernel_rfl) (by simp) ?_
      refine AllReadyH.cons rfl (fun K hK => ?_) AllReadyH.nil
      simp only [List.getElem_toArray, List.getElem_cons_zero, List.getElem_cons_succ]
      go_simp
      with_reducible refine (Q2.out _ H10).mono ?_
      rintro e w11 ⟨rfl, H11, g11⟩
      have V11 := V10.grown g11 (by omega) (by omega) (by omega)
      have B11 := grown_belowK B10 g11 B10.size (by omega)
      refine hK.out _ _ ?_ (fun hHeld => ?_)
      · exact V11
      clear hK K
      (try simp only [Act.put, List.getElem_toArray, List.getElem_cons_zero, List.getElem_cons_succ, List.setIfInBounds_toArray, List.set_cons_zero, List.set_cons_succ])
      refine wpAnyH_take (i := 28) (v := .bool false) rfl (by kernel_rfl) (by kernel_rfl) (by kernel_rfl) (fun _ _ _ h => h) (Or.inl ⟨by rfl, fun w hSw => exec_eq_agg .neq 27 (ptC p n) (ptC p n) true rfl (Or.inr rfl) rfl rfl (by kernel_rfl) (HPt.out _)⟩) (by assumption) ?_
      (try simp only [Act.put, List.getElem_toArray, List.getElem_cons_zero, List.getElem_cons_succ, List.setIfInBounds_toArray, List.set_cons_zero, List.set_cons_succ])
      refine wpAnyH_take (i := 29) (v := ?_) rfl (by kernel_rfl) (by kernel_rfl) (by kernel_rfl) (fun _ _ _ h => h) (Or.inl ⟨by rfl, ?_⟩) (by assumption) ?_
      rotate_left
      · (intro w hSw; (try dsimp only at hSw); go_simp; (try with_reducible rfl))
      (try simp only [Act.put, List.getElem_toArray, List.getElem_cons_zero, List.getElem_cons_succ, List.setIfInBounds_toArray, List.set_cons_zero, List.set_cons_succ])
      refine wpAnyH_take (i := 30) (v := ?_) rfl (by kernel_rfl) (by kernel_rfl) (by kernel_rfl) (fun _ _ _ h => h) (Or.inl ⟨by rfl, ?_⟩) (by assumption) ?_
      rotate_left
      · (intro w hSw; (try dsimp only at hSw); go_simp; (try with_reducible rfl))
      (try simp only [Act.put, List.getElem_toArray, List.getElem_cons_zero, List.getElem_cons_succ, List.setIfInBounds_toArray, List.set_cons_zero, List.set_cons_succ])
      refine wpAnyH_take (i := 31) (v := ?_) rfl (by kernel_rfl) (by kernel_rfl) (by kernel_rfl) (fun _ _ _ h => h) (Or.inl ⟨by rfl, ?_⟩) (by assumption) ?_
      rotate_left
      · (intro w hSw; (try dsimp only at hSw); go_simp; (try with_reducible rfl))
      (try simp only [Act.put, List.getElem_toArray, List.getElem_cons_zero, List.getElem_cons_succ, List.setIfInBounds_toArray, List.set_cons_zero, List.set_cons_succ])
      refine wpAnyH_ready (rs := [32]) (by kernel_rfl) (by simp) ?_
      refine AllReadyH.cons rfl (fun K hK => ?_) AllReadyH.nil
      simp only [List.getElem_toArray, List.getElem_cons_zero, List.getElem_cons_succ]
      go_simp
      with_reducible refine (err_ok (10, 0, -1) _ H11 rfl).mono ?_
      rintro e w12 ⟨rfl, rfl⟩
      refine hK.out _ _ ?_ (fun hHeld => ?_)
      · exact V11
      clear hK K
      (try simp only [Act.put, List.getElem_toArray, List.getElem_cons_zero, List.getElem_cons_succ, List.setIfInBounds_toArray, List.set_cons_zero, List.set_cons_succ])
      refine wpAnyH_take (i := 33) (v := ?_) rfl (by kernel_rfl) (by kernel_rfl) (by kernel_rfl) (fun _ _ _ h => h) (Or.inl ⟨by rfl, ?_⟩) (by assumption) ?_
      rotate_left
      · (intro w hSw; (try dsimp only at hSw); go_simp; (try with_reducible rfl))
      (try simp only [Act.put, List.getElem_toArray, List.getElem_cons_zero, List.getElem_cons_succ, List.setIfInBounds_toArray, List.set_cons_zero, List.set_cons_succ])
      refine wpAnyH_take (i := 34) (v := ?_) rfl (by kernel_rfl) (by kernel_rfl) (by kernel_rfl) (fun _ _ _ h => h) (Or.inl ⟨by rfl, ?_⟩) (by assumption) ?_
      rotate_left
      · (intro w hSw; (try dsimp only at hSw); go_simp; (try with_reducible rfl))
      (try simp only [Act.put, List.getElem_toArray, List.getElem_cons_zero, List.getElem_cons_succ, List.setIfInBounds_toArray, List.set_cons_zero, List.set_cons_succ])
      refine wpAnyH_take (i := 35) (v := ?_) rfl (by kernel_rfl) (by kernel_rfl) (by kernel_rfl) (fun _ _ _ h => h) (Or.inl ⟨by rfl, ?_⟩) (by assumption) ?_
      rotate_left
      · (intro w hSw; (try dsimp only at hSw); go_simp; (try with_reducible rfl))
      (try simp only [Act.put, List.getElem_toArray, List.getElem_cons_zero, List.getElem_cons_succ, List.setIfInBounds_toArray, List.set_cons_zero, List.set_cons_succ])
      refine wpAnyH_take (i := 36) (v := ?_) rfl (by kernel_rfl) (by kernel_rfl) (by kernel_rfl) (fun _ _ _ h => h) (Or.inl ⟨by rfl, ?_⟩) (by assumption) ?_
      rotate_left
      · (intro w hSw; (try dsimp only at hSw); go_simp; (try with_reducible rfl))
      (try simp only [Act.put, List.getElem_toArray, List.getElem_cons_zero, List.getElem_cons_succ, List.setIfInBounds_toArray, List.set_cons_zero, List.set_cons_succ])
      refine wpAnyH_ready (rs := [37]) (by kernel_rfl) (by simp) ?_
      refine AllReadyH.cons rfl (fun K hK => ?_) AllReadyH.nil
      simp only [List.getElem_toArray, List.getElem_cons_zero, List.getElem_cons_succ]
      go_simp
      with_reducible refine (left_t (10, 0, -1) _ H11 HSZ.out).mono ?_
      rintro e w13 ⟨rfl, rfl⟩
      refine hK.out _ _ ?_ (fun hHeld => ?_)
      · exact V11
      clear hK K
      (try simp only [Act.put, List.getElem_toArray, List.getElem_cons_zero, List.getElem_cons_succ, List.setIfInBounds_toArray, List.set_cons_zero, List.set_cons_succ])
      refine wpAnyH_take (i := 38) (v := ?_) rfl (by kernel_rfl) (by kernel_rfl) (by kernel_rfl) (fun _ _ _ h => h) (Or.inl ⟨by rfl, ?_⟩) (by assumption) ?_
      rotate_left
      · (intro w hSw; (try dsimp only at hSw); go_simp; (try with_reducible rfl))
      (try simp only [Act.put, List.getElem_toArray, List.getElem_cons_zero, List.getElem_cons_succ, List.setIfInBounds_toArray, List.set_cons_zero, List.set_cons_succ])
      refine wpAnyH_take (i := 39) (v := ?_) rfl (by kernel_rfl) (by kernel_rfl) (by kernel_rfl) (fun _ _ _ h => h) (Or.inl ⟨by rfl, ?_⟩) (by assumption) ?_
      rotate_left
      · (intro w hSw; (try dsimp only at hSw); go_simp; (try with_reducible rfl))
      (try simp only [Act.put, List.getElem_toArray, List.getElem_cons_zero, List.getElem_cons_succ, List.setIfInBounds_toArray, List.set_cons_zero, List.set_cons_succ])
      refine wpAnyH_take (i := 40) (v := ?_) rfl (by kernel_rfl) (by kernel_rfl) (by kernel_rfl) (fun _ _ _ h => h) (Or.inl ⟨by rfl, ?_⟩) (by assumption) ?_
      rotate_left
      · (intro w hSw; (try dsimp only at hSw); go_simp; (try with_reducible rfl))
      (try simp only [Act.put, List.getElem_toArray, List.getElem_cons_zero, List.getElem_cons_succ, List.setIfInBounds_toArray, List.set_cons_zero, List.set_cons_succ])
      refine wpAnyH_take (i := 41) (v := .agg (brC b)) rfl (by kernel_rfl) (by kernel_rfl) (by kernel_rfl) (fun _ _ _ h => h) (Or.inl ⟨by rfl, fun w hSw => exec_load_blk (k := 0) 25 (brC b) rfl rfl hSw.2.2 (by kernel_rfl) (by kernel_rfl) rfl⟩) (by assumption) ?_
      (try simp only [Act.put, List.getElem_toArray, List.getElem_cons_zero, List.getElem_cons_succ, List.setIfInBounds_toArray, List.set_cons_zero, List.set_cons_succ])
      refine wpAnyH_take (i := 42) (v := .agg (brC b)) rfl (by kernel_rfl) (by kernel_rfl) (by kernel_rfl) (fun _ _ _ h => h) (Or.inl ⟨by rfl, fun w hSw => exec_load_blk (k := 0) 25 (brC b) rfl rfl hSw.1 (by kernel_rfl) (by kernel_rfl) rfl⟩) (by assumption) ?_
      (try simp only [Act.put, List.getElem_toArray, List.getElem_cons_zero, List.getElem_cons_succ, List.setIfInBounds_toArray, List.set_cons_zero, List.set_cons_succ])
      refine wpAnyH_take (i := 43) (v := .bool false) rfl (by kernel_rfl) (by kernel_rfl) (by kernel_rfl) (fun _ _ _ h => h) (Or.inl ⟨by rfl, fun w hSw => exec_eq_agg .neq 25 (brC b) (brC b) true rfl (Or.inr rfl) rfl rfl (by kernel_rfl) (HBr.out _)⟩) (by assumption) ?_
      (try simp only [Act.put, List.getElem_toArray, List.getElem_cons_zero, List.getElem_cons_succ, List.setIfInBounds_toArray, List.set_cons_zero, List.set_cons_succ])
      refine wpAnyH_take (i := 44) (v := ?_) rfl (by kernel_rfl) (by kernel_rfl) (by kernel_rfl) (fun _ _ _ h => h) (Or.inl ⟨by rfl, ?_⟩) (by assumption) ?_
      rotate_left
      · (intro w hSw; (try dsimp only at hSw); go_simp; (try with_reducible rfl))
      (try simp only [Act.put, List.getElem_toArray, List.getElem_cons_zero, List.getElem_cons_succ, List.setIfInBounds_toArray, List.set_cons_zero, List.set_cons_succ])
      refine wpAnyH_done (by kernel_rfl) ?_ _
      refine NoPanic.normal ?_
      have LT := hL.below B11
      by_cases hs : s.size ≤ 100
      · have hgt : decide ((100 : Int) < (s.size : Int)) = false := decide_eq_false (by omega)
        go_wp2_with fail
        refine (prParse_any s _ LT (by omega)).mono ?_
        rintro e x1 ⟨hp, kx⟩
        have BX := (B11).trans (kx.mono (B11).size)
        rcases hp with ⟨u, hok, hby, ht, rfl⟩ | ⟨_, rfl⟩
        · go_wp2_with (first
            | (refine alloc_blk 25 (brC zBr) (by rfl) rfl Tryd.brZero ?_)
            | (refine store_blk (k := 0) 25 (.agg (brC u)) (brC u) (by rfl) rfl rfl rfl (Blk.new x1 _ _) (by kernel_rfl) (show (8 : Nat) ≤ 8 from Nat.le_refl 8) (by rfl) (st_whole _ _ rfl) ?_; intro x2 U2 bx2 gx2; have BX2 := (BX.alloc BX.size (.cells (brC zBr) 25)).trans (bx2.mono BX.size))
            | (refine load_blk (k := 0) 25 (brC u) (by rfl) rfl rfl U2 (by kernel_rfl) (by kernel_rfl) rfl ?_))
          refine (prText_yes u hok hby _ (hL.below BX2).tab).mono ?_
          rintro e x3 ⟨rfl, kx3⟩
          have he1 : (textB u == s.toList) = true := by rw [beq_iff_eq, ht, ByteArray.toList_eq]
          go_wp2
          go_ret
          exact ⟨rfl, BX2.trans (kx3.mono BX2.size)⟩
        · go_wp2_with (first
            | (refine alloc_blk 25 (brC zBr) (by rfl) rfl Tryd.brZero ?_)
            | (refine store_blk (k := 0) 25 (.agg (brC zBr)) (brC zBr) (by rfl) rfl rfl rfl (Blk.new x1 _ _) (by kernel_rfl) (show (8 : Nat) ≤ 8 from Nat.le_refl 8) (by rfl) (st_whole _ _ rfl) ?_; intro x2 U2 bx2 gx2; have BX2 := (BX.alloc BX.size (.cells (brC zBr) 25)).trans (bx2.mono BX.size))
            | (refine load_blk (k := 0) 25 (brC zBr) (by rfl) rfl rfl U2 (by kernel_rfl) (by kernel_rfl) rfl ?_)
            | (refine build_blk (t := 25) (brC zBr) (by rfl) rfl (by kernel_rfl) ?_)
            | (refine eq_blk .eql 25 (brC zBr) (brC zBr) true (by rfl) rfl (Or.inl rfl) rfl rfl (by kernel_rfl) (HZH.out _) ?_))
          go_ret
          exact ⟨rfl, BX2⟩
      · have hgt : decide ((100 : Int) < (s.size : Int)) = true := decide_eq_true (by omega)
        go_wp2
        go_ret
        exact ⟨rfl, B11⟩

end Go.Proofs.YtceiiolpggolbaaDoor.prioBack
