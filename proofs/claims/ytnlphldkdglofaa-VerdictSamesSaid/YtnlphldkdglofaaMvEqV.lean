/- Are attributes the same? (package verdict, the reference) -/
import Derived.Test.YtnlphldkdglofaaMvS
import Derived.Test.YtnlphldkdglofaaShelf
namespace Go.Proofs.Ytnlphldkdglofaa
open Go.RowKit
attribute [local go_sem ↓] Go.wp_at_zero Go.wp_at_succ
set_option linter.unusedSimpArgs false
set_option linter.unusedVariables false
set_option maxRecDepth 100000

structure MvsIn (w : World) (a : Option Addr) (hs : List MvH) : Prop where
  row : MhIn w a hs
  ev : ∀ h ∈ hs, IvIn w h.a h.x.ev ∧ h.x.ev.length ≤ h.c ∧ h.c ≤ maxLen

theorem MvsIn.below {w w' : World} {a : Option Addr} {hs : List MvH} (h : MvsIn w a hs) (hb : Below w.heap.size w w') : MvsIn w' a hs := ⟨h.row.below hb, fun x hx => ⟨(h.ev x hx).1.below hb, (h.ev x hx).2⟩⟩

def xs (hs : List MvH) : List Mv := hs.map (·.x)

theorem xs_len (hs : List MvH) : (xs hs).length = hs.length := by simp [xs]

theorem xs_get (hs : List MvH) (k : Nat) (hk : k < hs.length) : (xs hs)[k]'(by rw [xs_len]; exact hk) = hs[k].x := by simp [xs]

theorem xs_take (hs : List MvH) (k : Nat) : xs (hs.take k) = (xs hs).take k := by simp [xs, List.map_take]

theorem bel_drewN (w : World) (q : Nat) : Below w.heap.size w (w.drewN q) := ⟨rfl, rfl, rfl, Nat.le_refl _, fun _ _ => rfl⟩

theorem ivIn_cells {w : World} {b o : Nat} {l : List Int} (h : IvAt w b o l) : ∀ j, j < l.length → w.cell? ⟨b, o + j, none⟩ = some (.int .i64 (l.getD j 0)) := fun j hj => by
  have e := h j hj 0 (.int .i64 l[j]) rfl
  rw [Nat.mul_one, Nat.add_zero] at e
  rw [e, List.getD_eq_getElem?_getD, List.getElem?_eq_getElem hj]
  rfl

theorem intEq_any (a1 a2 : Option Addr) (c1 c2 : Nat) (l1 l2 : List Int) (w : World) (h1 : IvIn w a1 l1) (h2 : IvIn w a2 l2) (m1 : l1.length ≤ maxLen) (m2 : l2.length ≤ maxLen) :
    Calls Try.prog 23 #[.slice a1 l1.length c1, .slice a2 l2.length c2] w fun e w' => e = .returned (.bool (decide (l1 = l2))) ∧ Below w.heap.size w w' := by
  have k1 : l1.length ≤ 9223372036854775807 := m1
  have k2 : l2.length ≤ 9223372036854775807 := m2
  by_cases hl : l1.length = l2.length
  · by_cases h0 : l1 = []
    · subst h0
      have h20 : l2 = [] := List.eq_nil_of_length_eq_zero hl.symm
      subst h20
      refine (Try.slices_Equal_int_empty a1 a2 c1 0 c2 w (by omega)).mono ?_
      rintro e w' ⟨rfl, rfl⟩
      exact ⟨rfl, Below.refl _ _⟩
    · have hp1 := List.length_pos_iff.2 h0
      obtain ⟨b1, o1, rfl, _, q1⟩ := h1.at hp1
      obtain ⟨b2, o2, rfl, _, q2⟩ := h2.at (show 0 < l2.length by omega)
      refine (Try.slices_Equal_int b1 o1 l1.length c1 b2 o2 l2.length c2 l1 l2 w (Nat.le_refl _) (Nat.le_refl _) k1 k2 (ivIn_cells q1) (ivIn_cells q2)).mono ?_
      rintro e w' ⟨rfl, q, rfl⟩
      rw [List.take_length, List.take_length]
      exact ⟨by rw [show (l1 == l2) = decide (l1 = l2) from by rw [Bool.eq_iff_iff]; simp], bel_drewN w q⟩
  · refine (Try.slices_Equal_int_lens a1 a2 l1.length c1 l2.length c2 w hl).mono ?_
    rintro e w' ⟨rfl, rfl⟩
    rw [decide_eq_false (fun q => hl (by rw [q]))]
    exact ⟨rfl, Below.refl _ _⟩

set_option maxHeartbeats 1600000 in
theorem sameR_one (x y : MvH) (w : World) (hx : IvIn w x.a x.x.ev) (hy : IvIn w y.a y.x.ev) (mx : x.x.ev.length ≤ maxLen) (my : y.x.ev.length ≤ maxLen) :
    Calls Try.prog 24 #[.agg (mvC x), .agg (mvC y)] w fun e w' => e = .returned (.bool (decide (x.x = y.x))) ∧ Below w.heap.size w w' := by
  obtain ⟨⟨a1, f1, e1⟩, p1, c1⟩ := x
  obtain ⟨⟨a2, f2, e2⟩, p2, c2⟩ := y
  simp only at *
  unfold mvC
  simp only
  have hb0 : Below w.heap.size w ((w.alloc (.cells #[.bool a1, .int .i64 f1, .slice p1 e1.length c1] 72)).alloc (.cells #[.bool a2, .int .i64 f2, .slice p2 e2.length c2] 72)) := ((Below.refl _ _).alloc (Nat.le_refl _) _).alloc (by simp) _
  have HE := Lib.hid (intEq_any p1 p2 c1 c2 e1 e2 _ (hx.below hb0) (hy.below hb0) mx my)
  have he : decide ((⟨a1, f1, e1⟩ : Mv) = ⟨a2, f2, e2⟩) = ((a1 == a2) && ((f1 == f2) && decide (e1 = e2))) := by
    by_cases q1 : a1 = a2
    · by_cases q2 : f1 = f2
      · subst q1 q2
        simp
      · rw [decide_eq_false (fun q => q2 (congrArg Mv.first q)), (beq_eq_false_iff_ne.2 q2)]
        simp
    · rw [decide_eq_false (fun q => q1 (congrArg Mv.all q)), (beq_eq_false_iff_ne.2 q1)]
      simp
  rw [he]
  clear he hx hy
  cases hq1 : (a1 == a2) with
  | false =>
    clear HE
    go_enter Try.func24, Try.ntmps24
    go_wp2
    go_ret
    exact ⟨by simp, hb0⟩
  | true =>
    cases hq2 : (f1 == f2) with
    | false =>
      clear HE
      go_enter Try.func24, Try.ntmps24
      go_wp2
      go_ret
      exact ⟨by simp, hb0⟩
    | true =>
      have hsz : ((w.alloc (.cells #[.bool a1, .int .i64 f1, .slice p1 e1.length c1] 72)).alloc (.cells #[.bool a2, .int .i64 f2, .slice p2 e2.length c2] 72)).heap.size = w.heap.size + 1 + 1 := by simp
      go_enter Try.func24, Try.ntmps24
      go_wp2_with fail
      refine HE.out.mono ?_
      rintro e w2 ⟨rfl, b2⟩
      have B2 := hb0.trans (b2.mono hb0.size)
      go_wp2
      go_ret
      exact ⟨by simp, B2⟩

set_option maxHeartbeats 3200000 in
theorem sameR_many (a1 a2 : Option Addr) (c1 c2 : Nat) (h1 h2 : List MvH) (w : World) (H1 : MvsIn w a1 h1) (H2 : MvsIn w a2 h2) (m1 : h1.length ≤ maxLen) (m2 : h2.length ≤ maxLen) :
    Calls Try.prog 12 #[.slice a1 h1.length c1, .slice a2 h2.length c2, .func (.func 24) #[] #[]] w fun e w' => e = .returned (.bool (decide (xs h1 = xs h2))) ∧ Below w.heap.size w w' := by
  have k1 : h1.length ≤ 9223372036854775807 := m1
  have k2 : h2.length ≤ 9223372036854775807 := m2
  clear m1 m2
  by_cases hl : h1.length = h2.length
  · have hl3 := Lib.hid hl.symm
    have HIN : Hid (∀ (k : Nat) (hk : k < h1.length), xs h1 = xs h2 → h1[k].x = (h2[k]'(by rw [hl3.out]; exact hk)).x) := fun k hk q => by
      have e1 := xs_get h1 k hk
      have e2 := xs_get h2 k (by rw [hl3.out]; exact hk)
      rw [← e1, ← e2]
      congr 1
    have HEX : Hid ((∀ (k : Nat) (hk : k < h1.length), h1[k].x = (h2[k]'(by rw [hl3.out]; exact hk)).x) → xs h1 = xs h2) := fun q => by
      apply List.ext_getElem
      · rw [xs_len, xs_len, hl]
      · intro k q1 q2
        rw [xs_len] at q1 q2
        rw [xs_get h1 k q1, xs_get h2 k q2]
        exact q k q1
    rw [← hl]
    clear hl k2
    go_enter Try.func12, Try.ntmps12
    go_wp2_with fail
    go_loopw [17] (fun i wr => ∃ k : Nat, k ≤ h1.length ∧ i = .int .i64 k ∧ (∀ (j : Nat) (hj : j < h1.length), j < k → h1[j].x = (h2[j]'(by rw [hl3.out]; exact hj)).x) ∧ Below w.heap.size w wr) (fun i _ => h1.length - (intOf i).toNat)
    case atStart => exact ⟨0, by omega, rfl, fun j hj q => by omega, Below.refl _ _⟩
    case round =>
      obtain ⟨k, hk, rfl, hall, Bk⟩ := hrel
      by_cases hlt : k < h1.length
      · have I1 := H1.below Bk
        have I2 := H2.below Bk
        have hlt2 : k < h2.length := by rw [hl3.out]; exact hlt
        obtain ⟨b1, o1, rfl, hb1, at1⟩ := I1.row.at hlt
        obtain ⟨b2, o2, rfl, hb2, at2⟩ := I2.row.at hlt2
        have q1 : (k : Int) < (h1.length : Int) := by omega
        have q2 : decide ((k : Int) < (h1.length : Int)) = true := decide_eq_true q1
        have q3 : (0 : Int) ≤ (k : Int) := by omega
        have q4 : IntKind.i64.wrap ((k : Int) + 1) = (k : Int) + 1 := by rw [IntKind.wrap_i64] <;> omega
        have HK1 := at1 k hlt
        have HK2 := at2 k hlt2
        obtain ⟨e1, cp1, cm1⟩ := I1.ev h1[k] (List.getElem_mem hlt)
        obtain ⟨e2, cp2, cm2⟩ := I2.ev h2[k] (List.getElem_mem hlt2)
        have HS : Hid (∀ W, Below wr.heap.size wr W → Calls Try.prog 24 #[.agg (mvC h1[k]), .agg (mvC h2[k])] W fun e w' => e = .returned (.bool (decide (h1[k].x = h2[k].x))) ∧ Below W.heap.size W w') := fun W hb => sameR_one h1[k] h2[k] W (e1.below hb) (e2.below hb) (Nat.le_trans cp1 cm1) (Nat.le_trans cp2 cm2)
        have hstep : Hid (h1[k].x = h2[k].x → ∀ (j : Nat) (hj : j < h1.length), j < k + 1 → h1[j].x = (h2[j]'(by rw [hl3.out]; exact hj)).x) := fun q j hj hj2 => by
          by_cases hjk : j = k
          · subst hjk; exact q
          · exact hall j hj (by omega)
        have hno : Hid (¬ h1[k].x = h2[k].x → decide (xs h1 = xs h2) = false) := fun q => decide_eq_false (fun r => q (HIN.out k hlt r))
        generalize h1[k] = x at *
        generalize h2[k] = y at *
        clear at1 at2 e1 e2 cp1 cm1 cp2 cm2 I1 I2 hall HIN HEX
        have k2 : (k : Int) < (h2.length : Int) := by have := hl3.out; omega
        have HA4 := Blk.new wr 72 (mvC zMvH)
        have b4 : Below wr.heap.size wr (wr.alloc (.cells (mvC zMvH) 72)) := (Below.refl _ _).alloc (Nat.le_refl _) _
        go_upto_region 6 with (first
          | (refine load_cells (B := b1) (k := o1 + k * 3) 72 (mvC x) (by rfl) rfl rfl HK1 (by kernel_rfl) (by kernel_rfl) ?_)
          | (refine alloc_blk 72 (mvC zMvH) (by rfl) rfl Try.mhZero ?_)
          | (refine store_blk (k := 0) 72 (.agg (mvC x)) (mvC x) (by rfl) rfl rfl rfl HA4 (by kernel_rfl) (show (3 : Nat) ≤ 3 from Nat.le_refl 3) (by rfl) (st_whole _ _ rfl) ?_; intro w5 HA5 b5 g5))
        have b15 := b4.trans b5
        have HK5 : CellsAt w5 b2 (o2 + k * 3) (mvC y) := HK2.below b15 hb2
        have HA6 := Blk.new w5 72 (mvC zMvH)
        have b6 : Below w5.heap.size w5 (w5.alloc (.cells (mvC zMvH) 72)) := (Below.refl _ _).alloc (Nat.le_refl _) _
        clear HA4 b4 b5 g5 HK1 HK2
        have hsw := Bk.size
        have hs5 : w.heap.size ≤ w5.heap.size := Nat.le_trans hsw b15.size
        have HS5 := Lib.hid (fun W (hb : Below w5.heap.size w5 W) => HS.out W (b15.trans (hb.mono b15.size)))
        have B5 := Bk.trans (b15.mono hsw)
        clear HS b15 Bk
        generalize wr.heap.size = G1 at *
        go_upto_region 7 with (first
          | (refine load_cells (B := b2) (k := o2 + k * 3) 72 (mvC y) (by rfl) rfl rfl HK5 (by kernel_rfl) (by kernel_rfl) ?_)
          | (refine alloc_blk 72 (mvC zMvH) (by rfl) rfl Try.mhZero ?_)
          | (refine store_blk (k := 0) 72 (.agg (mvC y)) (mvC y) (by rfl) rfl rfl rfl HA6 (by kernel_rfl) (show (3 : Nat) ≤ 3 from Nat.le_refl 3) (by rfl) (st_whole _ _ rfl) ?_; intro w7 HA7 b7 g7))
        have b57 := b6.trans b7
        have HA5' := HA5.kept b57
        have B7 := B5.trans (b57.mono hs5)
        have HS7 := Lib.hid (HS5.out w7 b57)
        have hs7 : w.heap.size ≤ w7.heap.size := Nat.le_trans hs5 b57.size
        clear HS5 B5 b57 b6 b7 g7 HA6 HK5
        generalize w5.heap.size = G2 at *
        go_wp2_with (first
          | (refine load_blk (k := 0) 72 (mvC x) (by rfl) rfl rfl HA5' (by kernel_rfl) (by kernel_rfl) rfl ?_)
          | (refine load_blk (k := 0) 72 (mvC y) (by rfl) rfl rfl HA7 (by kernel_rfl) (by kernel_rfl) rfl ?_))
        refine HS7.out.mono ?_
        rintro e w8 ⟨rfl, b8⟩
        have B8 := B7.trans (b8.mono hs7)
        by_cases hxy : x.x = y.x
        · rw [decide_eq_true hxy]
          have hst := Lib.hid (hstep.out hxy)
          clear hno hxy hstep
          go_wp2
          go_roundw
          case rel => exact ⟨k + 1, by omega, by go_num, hst.out, B8⟩
          case measure => simp [intOf]; omega
        · rw [decide_eq_false hxy]
          have hnn := Lib.hid (hno.out hxy)
          clear hno hxy hstep
          go_wp2
          go_ret
          exact ⟨by rw [hnn.out]; rfl, B8⟩
      · obtain rfl : k = h1.length := by omega
        have q2 : decide ((h1.length : Int) < (h1.length : Int)) = false := decide_eq_false (by omega)
        have hyes : Hid (decide (xs h1 = xs h2) = true) := decide_eq_true (HEX.out (fun j hj => hall j hj hj))
        clear hall HIN HEX
        go_wp2
        go_ret
        exact ⟨by rw [hyes.out]; rfl, Bk⟩
  · have d : ((h1.length : Int) != (h2.length : Int)) = true := by
      rw [bne_iff_ne]
      omega
    rw [decide_eq_false (fun q : xs h1 = xs h2 => hl (by rw [← xs_len h1, ← xs_len h2, q]))]
    clear hl
    go_enter Try.func12, Try.ntmps12
    go_wp2
    go_ret
    exact ⟨rfl, Below.refl _ _⟩

theorem sameR_any (a1 a2 : Option Addr) (c1 c2 : Nat) (h1 h2 : List MvH) (w : World) (H1 : MvsIn w a1 h1) (H2 : MvsIn w a2 h2) (m1 : h1.length ≤ maxLen) (m2 : h2.length ≤ maxLen) :
    Calls Try.prog 20 #[.slice a1 h1.length c1, .slice a2 h2.length c2] w fun e w' => e = .returned (.bool (decide (xs h1 = xs h2))) ∧ Below w.heap.size w w' := by
  have HX := Lib.hid (sameR_many a1 a2 c1 c2 h1 h2 w H1 H2 m1 m2)
  go_enter Try.func20, Try.ntmps20
  go_wp2_with fail
  refine HX.out.mono ?_
  rintro e w2 ⟨rfl, b2⟩
  go_wp2
  go_ret
  exact ⟨rfl, b2⟩

set_option maxHeartbeats 1600000 in
theorem sameV_one (x y : MvH) (w : World) (hx : IvIn w x.a x.x.ev) (hy : IvIn w y.a y.x.ev) (mx : x.x.ev.length ≤ maxLen) (my : y.x.ev.length ≤ maxLen) :
    Calls Try.prog 13 #[.agg (mvC x), .agg (mvC y)] w fun e w' => e = .returned (.bool (decide (x.x = y.x))) ∧ Below w.heap.size w w' := by
  obtain ⟨⟨a1, f1, e1⟩, p1, c1⟩ := x
  obtain ⟨⟨a2, f2, e2⟩, p2, c2⟩ := y
  simp only at *
  unfold mvC
  simp only
  have hb0 : Below w.heap.size w ((w.alloc (.cells #[.bool a1, .int .i64 f1, .slice p1 e1.length c1] 72)).alloc (.cells #[.bool a2, .int .i64 f2, .slice p2 e2.length c2] 72)) := ((Below.refl _ _).alloc (Nat.le_refl _) _).alloc (by simp) _
  have HE := Lib.hid (intEq_any p1 p2 c1 c2 e1 e2 _ (hx.below hb0) (hy.below hb0) mx my)
  have he : decide ((⟨a1, f1, e1⟩ : Mv) = ⟨a2, f2, e2⟩) = ((a1 == a2) && ((f1 == f2) && decide (e1 = e2))) := by
    by_cases q1 : a1 = a2
    · by_cases q2 : f1 = f2
      · subst q1 q2
        simp
      · rw [decide_eq_false (fun q => q2 (congrArg Mv.first q)), (beq_eq_false_iff_ne.2 q2)]
        simp
    · rw [decide_eq_false (fun q => q1 (congrArg Mv.all q)), (beq_eq_false_iff_ne.2 q1)]
      simp
  rw [he]
  clear he hx hy
  cases hq1 : (a1 == a2) with
  | false =>
    clear HE
    go_enter Try.func13, Try.ntmps13
    go_wp2
    go_ret
    exact ⟨by simp, hb0⟩
  | true =>
    cases hq2 : (f1 == f2) with
    | false =>
      clear HE
      go_enter Try.func13, Try.ntmps13
      go_wp2
      go_ret
      exact ⟨by simp, hb0⟩
    | true =>
      have hsz : ((w.alloc (.cells #[.bool a1, .int .i64 f1, .slice p1 e1.length c1] 72)).alloc (.cells #[.bool a2, .int .i64 f2, .slice p2 e2.length c2] 72)).heap.size = w.heap.size + 1 + 1 := by simp
      go_enter Try.func13, Try.ntmps13
      go_wp2_with fail
      refine HE.out.mono ?_
      rintro e w2 ⟨rfl, b2⟩
      have B2 := hb0.trans (b2.mono hb0.size)
      go_wp2
      go_ret
      exact ⟨by simp, B2⟩

set_option maxHeartbeats 3200000 in
theorem sameV_many (a1 a2 : Option Addr) (c1 c2 : Nat) (h1 h2 : List MvH) (w : World) (H1 : MvsIn w a1 h1) (H2 : MvsIn w a2 h2) (m1 : h1.length ≤ maxLen) (m2 : h2.length ≤ maxLen) :
    Calls Try.prog 12 #[.slice a1 h1.length c1, .slice a2 h2.length c2, .func (.func 13) #[] #[]] w fun e w' => e = .returned (.bool (decide (xs h1 = xs h2))) ∧ Below w.heap.size w w' := by
  have k1 : h1.length ≤ 9223372036854775807 := m1
  have k2 : h2.length ≤ 9223372036854775807 := m2
  clear m1 m2
  by_cases hl : h1.length = h2.length
  · have hl3 := Lib.hid hl.symm
    have HIN : Hid (∀ (k : Nat) (hk : k < h1.length), xs h1 = xs h2 → h1[k].x = (h2[k]'(by rw [hl3.out]; exact hk)).x) := fun k hk q => by
      have e1 := xs_get h1 k hk
      have e2 := xs_get h2 k (by rw [hl3.out]; exact hk)
      rw [← e1, ← e2]
      congr 1
    have HEX : Hid ((∀ (k : Nat) (hk : k < h1.length), h1[k].x = (h2[k]'(by rw [hl3.out]; exact hk)).x) → xs h1 = xs h2) := fun q => by
      apply List.ext_getElem
      · rw [xs_len, xs_len, hl]
      · intro k q1 q2
        rw [xs_len] at q1 q2
        rw [xs_get h1 k q1, xs_get h2 k q2]
        exact q k q1
    rw [← hl]
    clear hl k2
    go_enter Try.func12, Try.ntmps12
    go_wp2_with fail
    go_loopw [17] (fun i wr => ∃ k : Nat, k ≤ h1.length ∧ i = .int .i64 k ∧ (∀ (j : Nat) (hj : j < h1.length), j < k → h1[j].x = (h2[j]'(by rw [hl3.out]; exact hj)).x) ∧ Below w.heap.size w wr) (fun i _ => h1.length - (intOf i).toNat)
    case atStart => exact ⟨0, by omega, rfl, fun j hj q => by omega, Below.refl _ _⟩
    case round =>
      obtain ⟨k, hk, rfl, hall, Bk⟩ := hrel
      by_cases hlt : k < h1.length
      · have I1 := H1.below Bk
        have I2 := H2.below Bk
        have hlt2 : k < h2.length := by rw [hl3.out]; exact hlt
        obtain ⟨b1, o1, rfl, hb1, at1⟩ := I1.row.at hlt
        obtain ⟨b2, o2, rfl, hb2, at2⟩ := I2.row.at hlt2
        have q1 : (k : Int) < (h1.length : Int) := by omega
        have q2 : decide ((k : Int) < (h1.length : Int)) = true := decide_eq_true q1
        have q3 : (0 : Int) ≤ (k : Int) := by omega
        have q4 : IntKind.i64.wrap ((k : Int) + 1) = (k : Int) + 1 := by rw [IntKind.wrap_i64] <;> omega
        have HK1 := at1 k hlt
        have HK2 := at2 k hlt2
        obtain ⟨e1, cp1, cm1⟩ := I1.ev h1[k] (List.getElem_mem hlt)
        obtain ⟨e2, cp2, cm2⟩ := I2.ev h2[k] (List.getElem_mem hlt2)
        have HS : Hid (∀ W, Below wr.heap.size wr W → Calls Try.prog 13 #[.agg (mvC h1[k]), .agg (mvC h2[k])] W fun e w' => e = .returned (.bool (decide (h1[k].x = h2[k].x))) ∧ Below W.heap.size W w') := fun W hb => sameV_one h1[k] h2[k] W (e1.below hb) (e2.below hb) (Nat.le_trans cp1 cm1) (Nat.le_trans cp2 cm2)
        have hstep : Hid (h1[k].x = h2[k].x → ∀ (j : Nat) (hj : j < h1.length), j < k + 1 → h1[j].x = (h2[j]'(by rw [hl3.out]; exact hj)).x) := fun q j hj hj2 => by
          by_cases hjk : j = k
          · subst hjk; exact q
          · exact hall j hj (by omega)
        have hno : Hid (¬ h1[k].x = h2[k].x → decide (xs h1 = xs h2) = false) := fun q => decide_eq_false (fun r => q (HIN.out k hlt r))
        generalize h1[k] = x at *
        generalize h2[k] = y at *
        clear at1 at2 e1 e2 cp1 cm1 cp2 cm2 I1 I2 hall HIN HEX
        have k2 : (k : Int) < (h2.length : Int) := by have := hl3.out; omega
        have HA4 := Blk.new wr 72 (mvC zMvH)
        have b4 : Below wr.heap.size wr (wr.alloc (.cells (mvC zMvH) 72)) := (Below.refl _ _).alloc (Nat.le_refl _) _
        go_upto_region 6 with (first
          | (refine load_cells (B := b1) (k := o1 + k * 3) 72 (mvC x) (by rfl) rfl rfl HK1 (by kernel_rfl) (by kernel_rfl) ?_)
          | (refine alloc_blk 72 (mvC zMvH) (by rfl) rfl Try.mhZero ?_)
          | (refine store_blk (k := 0) 72 (.agg (mvC x)) (mvC x) (by rfl) rfl rfl rfl HA4 (by kernel_rfl) (show (3 : Nat) ≤ 3 from Nat.le_refl 3) (by rfl) (st_whole _ _ rfl) ?_; intro w5 HA5 b5 g5))
        have b15 := b4.trans b5
        have HK5 : CellsAt w5 b2 (o2 + k * 3) (mvC y) := HK2.below b15 hb2
        have HA6 := Blk.new w5 72 (mvC zMvH)
        have b6 : Below w5.heap.size w5 (w5.alloc (.cells (mvC zMvH) 72)) := (Below.refl _ _).alloc (Nat.le_refl _) _
        clear HA4 b4 b5 g5 HK1 HK2
        have hsw := Bk.size
        have hs5 : w.heap.size ≤ w5.heap.size := Nat.le_trans hsw b15.size
        have HS5 := Lib.hid (fun W (hb : Below w5.heap.size w5 W) => HS.out W (b15.trans (hb.mono b15.size)))
        have B5 := Bk.trans (b15.mono hsw)
        clear HS b15 Bk
        generalize wr.heap.size = G1 at *
        go_upto_region 7 with (first
          | (refine load_cells (B := b2) (k := o2 + k * 3) 72 (mvC y) (by rfl) rfl rfl HK5 (by kernel_rfl) (by kernel_rfl) ?_)
          | (refine alloc_blk 72 (mvC zMvH) (by rfl) rfl Try.mhZero ?_)
          | (refine store_blk (k := 0) 72 (.agg (mvC y)) (mvC y) (by rfl) rfl rfl rfl HA6 (by kernel_rfl) (show (3 : Nat) ≤ 3 from Nat.le_refl 3) (by rfl) (st_whole _ _ rfl) ?_; intro w7 HA7 b7 g7))
        have b57 := b6.trans b7
        have HA5' := HA5.kept b57
        have B7 := B5.trans (b57.mono hs5)
        have HS7 := Lib.hid (HS5.out w7 b57)
        have hs7 : w.heap.size ≤ w7.heap.size := Nat.le_trans hs5 b57.size
        clear HS5 B5 b57 b6 b7 g7 HA6 HK5
        generalize w5.heap.size = G2 at *
        go_wp2_with (first
          | (refine load_blk (k := 0) 72 (mvC x) (by rfl) rfl rfl HA5' (by kernel_rfl) (by kernel_rfl) rfl ?_)
          | (refine load_blk (k := 0) 72 (mvC y) (by rfl) rfl rfl HA7 (by kernel_rfl) (by kernel_rfl) rfl ?_))
        refine HS7.out.mono ?_
        rintro e w8 ⟨rfl, b8⟩
        have B8 := B7.trans (b8.mono hs7)
        by_cases hxy : x.x = y.x
        · rw [decide_eq_true hxy]
          have hst := Lib.hid (hstep.out hxy)
          clear hno hxy hstep
          go_wp2
          go_roundw
          case rel => exact ⟨k + 1, by omega, by go_num, hst.out, B8⟩
          case measure => simp [intOf]; omega
        · rw [decide_eq_false hxy]
          have hnn := Lib.hid (hno.out hxy)
          clear hno hxy hstep
          go_wp2
          go_ret
          exact ⟨by rw [hnn.out]; rfl, B8⟩
      · obtain rfl : k = h1.length := by omega
        have q2 : decide ((h1.length : Int) < (h1.length : Int)) = false := decide_eq_false (by omega)
        have hyes : Hid (decide (xs h1 = xs h2) = true) := decide_eq_true (HEX.out (fun j hj => hall j hj hj))
        clear hall HIN HEX
        go_wp2
        go_ret
        exact ⟨by rw [hyes.out]; rfl, Bk⟩
  · have d : ((h1.length : Int) != (h2.length : Int)) = true := by
      rw [bne_iff_ne]
      omega
    rw [decide_eq_false (fun q : xs h1 = xs h2 => hl (by rw [← xs_len h1, ← xs_len h2, q]))]
    clear hl
    go_enter Try.func12, Try.ntmps12
    go_wp2
    go_ret
    exact ⟨rfl, Below.refl _ _⟩

end Go.Proofs.Ytnlphldkdglofaa
