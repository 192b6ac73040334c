/- The card of switchyardkeep.MvrpJoins: for every argument it returns true, and the arguments read as they did; what its row lists of package-level variables is tied to the program's text. -/
import Derived.Test.YtikjpcnfldkifaaDoorMvWrite
import Derived.Test.YtikjpcnfldkifaaDoorShelf
import Derived.Test.YtikjpcnfldkifaaDoorMvRead
import Derived.Test.YtikjpcnfldkifaaDoorMvM
import Derived.Test.YtikjpcnfldkifaaDoorCells
import Derived.Test.YtikjpcnfldkifaaDoorFits
import Derived.Test.YtikjpcnfldkifaaDoorStOp
import Derived.Deep.AppendLies
import Derived.Deep.RegionHeld3
import Derived.Great.BuildSlice
import Derived.Deep.AppendSrc
import Derived.Lib.AppendZeros
import Derived.Test.YtikjpcnfldkifaaDoorMvS
import Derived.Test.YtikjpcnfldkifaaDoorFlt
import Derived.LaidEql
import Derived.Stop.Asserts
import Derived.RowKitTokens
import Derived.Lib.Hide
import Derived.Below
import Derived.ChangeSame
import Derived.Test.YtikjpcnfldkifaaDoorRows
import Derived.Test.YtikjpcnfldkifaaDoorCards
import Derived.Test.YtikjpcnfldkifaaDoorTie
import Derived.ProofKit
import Derived.OpenShut
import Derived.LaidHandle
import Derived.LaidMore
import Derived.LaidSub
import Derived.Deep.DeepHandedRow
import Derived.Lib.LaidTab
import Derived.WideKeyArgs
import Derived.WideShapes
import Derived.SizedLaws
import Derived.Lib.SmallJoins
import Derived.Deep.SlicePairs
namespace Go.Proofs.YtikjpcnfldkifaaDoor
open Go.RowKit
attribute [local go_sem ↓] Go.wp_at_zero Go.wp_at_succ
set_option linter.unusedSimpArgs false
set_option linter.unusedVariables false
set_option maxRecDepth 100000

theorem bel_drewN (w : World) (q : Nat) : Below w.heap.size w (w.drewN q) := ⟨rfl, rfl, rfl, Nat.le_refl _, fun _ _ => rfl⟩

theorem ivIn_cells {w : World} {b o : Nat} {l : List Int} (h : IvAt w b o l) : ∀ j, j < l.length → w.cell? ⟨b, o + j, none⟩ = some (.int .i64 (l.getD j 0)) := fun j hj => by
  have e := h j hj 0 (.int .i64 l[j]) rfl
  rw [Nat.mul_one, Nat.add_zero] at e
  rw [e, List.getD_eq_getElem?_getD, List.getElem?_eq_getElem hj]
  rfl

theorem intEq_any (a1 a2 : Option Addr) (c1 c2 : Nat) (l1 l2 : List Int) (w : World) (h1 : IvIn w a1 l1) (h2 : IvIn w a2 l2) (m1 : l1.length ≤ maxLen) (m2 : l2.length ≤ maxLen) :
    Calls Tryd.prog 72 #[.slice a1 l1.length c1, .slice a2 l2.length c2] w fun e w' => e = .returned (.bool (decide (l1 = l2))) ∧ Below w.heap.size w w' := by
  have k1 : l1.length ≤ 9223372036854775807 := m1
  have k2 : l2.length ≤ 9223372036854775807 := m2
  by_cases hl : l1.length = l2.length
  · by_cases h0 : l1 = []
    · subst h0
      have h20 : l2 = [] := List.eq_nil_of_length_eq_zero hl.symm
      subst h20
      refine (Tryd.slices_Equal_int_empty a1 a2 c1 0 c2 w (by omega)).mono ?_
      rintro e w' ⟨rfl, rfl⟩
      exact ⟨rfl, Below.refl _ _⟩
    · have hp1 := List.length_pos_iff.2 h0
      obtain ⟨b1, o1, rfl, _, q1⟩ := h1.at hp1
      obtain ⟨b2, o2, rfl, _, q2⟩ := h2.at (show 0 < l2.length by omega)
      refine (Tryd.slices_Equal_int b1 o1 l1.length c1 b2 o2 l2.length c2 l1 l2 w (Nat.le_refl _) (Nat.le_refl _) k1 k2 (ivIn_cells q1) (ivIn_cells q2)).mono ?_
      rintro e w' ⟨rfl, q, rfl⟩
      rw [List.take_length, List.take_length]
      exact ⟨by rw [show (l1 == l2) = decide (l1 = l2) from by rw [Bool.eq_iff_iff]; simp], bel_drewN w q⟩
  · refine (Tryd.slices_Equal_int_lens a1 a2 l1.length c1 l2.length c2 w hl).mono ?_
    rintro e w' ⟨rfl, rfl⟩
    rw [decide_eq_false (fun q => hl (by rw [q]))]
    exact ⟨rfl, Below.refl _ _⟩

set_option maxHeartbeats 1600000 in
theorem sameK_one (x y : MvH) (w : World) (hx : IvIn w x.a x.x.ev) (hy : IvIn w y.a y.x.ev) (mx : x.x.ev.length ≤ maxLen) (my : y.x.ev.length ≤ maxLen) :
    Calls Tryd.prog 71 #[.agg (mvC x), .agg (mvC y)] w fun e w' => e = .returned (.bool (decide (x.x = y.x))) ∧ Below w.heap.size w w' := by
  obtain ⟨⟨a1, f1, e1⟩, p1, c1⟩ := x
  obtain ⟨⟨a2, f2, e2⟩, p2, c2⟩ := y
  simp only at *
  unfold mvC
  simp only
  have hb0 : Below w.heap.size w ((w.alloc (.cells #[.bool a1, .int .i64 f1, .slice p1 e1.length c1] 36)).alloc (.cells #[.bool a2, .int .i64 f2, .slice p2 e2.length c2] 36)) := ((Below.refl _ _).alloc (Nat.le_refl _) _).alloc (by simp) _
  have HE := Lib.hid (intEq_any p1 p2 c1 c2 e1 e2 _ (hx.below hb0) (hy.below hb0) mx my)
  have he : decide ((⟨a1, f1, e1⟩ : Mv) = ⟨a2, f2, e2⟩) = ((a1 == a2) && ((f1 == f2) && decide (e1 = e2))) := by
    by_cases q1 : a1 = a2
    · by_cases q2 : f1 = f2
      · subst q1 q2
        simp
      · rw [decide_eq_false (fun q => q2 (congrArg Mv.first q)), (beq_eq_false_iff_ne.2 q2)]
        simp
    · rw [decide_eq_false (fun q => q1 (congrArg Mv.all q)), (beq_eq_false_iff_ne.2 q1)]
      simp
  rw [he]
  clear he hx hy
  cases hq1 : (a1 == a2) with
  | false =>
    clear HE
    go_enter Tryd.func71, Tryd.ntmps71
    go_wp2
    go_ret
    exact ⟨by simp, hb0⟩
  | true =>
    cases hq2 : (f1 == f2) with
    | false =>
      clear HE
      go_enter Tryd.func71, Tryd.ntmps71
      go_wp2
      go_ret
      exact ⟨by simp, hb0⟩
    | true =>
      have hsz : ((w.alloc (.cells #[.bool a1, .int .i64 f1, .slice p1 e1.length c1] 36)).alloc (.cells #[.bool a2, .int .i64 f2, .slice p2 e2.length c2] 36)).heap.size = w.heap.size + 1 + 1 := by simp
      go_enter Tryd.func71, Tryd.ntmps71
      go_wp2_with fail
      refine HE.out.mono ?_
      rintro e w2 ⟨rfl, b2⟩
      have B2 := hb0.trans (b2.mono hb0.size)
      go_wp2
      go_ret
      exact ⟨by simp, B2⟩

set_option maxHeartbeats 3200000 in
theorem sameK_many (a1 a2 : Option Addr) (c1 c2 : Nat) (h1 h2 : List MvH) (w : World) (H1 : MvsIn w a1 h1) (H2 : MvsIn w a2 h2) (m1 : h1.length ≤ maxLen) (m2 : h2.length ≤ maxLen) :
    Calls Tryd.prog 70 #[.slice a1 h1.length c1, .slice a2 h2.length c2, .func (.func 71) #[] #[]] w fun e w' => e = .returned (.bool (decide (xs h1 = xs h2))) ∧ Below w.heap.size w w' := by
  have k1 : h1.length ≤ 9223372036854775807 := m1
  have k2 : h2.length ≤ 9223372036854775807 := m2
  clear m1 m2
  by_cases hl : h1.length = h2.length
  · have hl3 := Lib.hid hl.symm
    have HIN : Hid (∀ (k : Nat) (hk : k < h1.length), xs h1 = xs h2 → h1[k].x = (h2[k]'(by rw [hl3.out]; exact hk)).x) := fun k hk q => by
      have e1 := xs_get h1 k hk
      have e2 := xs_get h2 k (by rw [hl3.out]; exact hk)
      rw [← e1, ← e2]
      congr 1
    have HEX : Hid ((∀ (k : Nat) (hk : k < h1.length), h1[k].x = (h2[k]'(by rw [hl3.out]; exact hk)).x) → xs h1 = xs h2) := fun q => by
      apply List.ext_getElem
      · rw [xs_len, xs_len, hl]
      · intro k q1 q2
        rw [xs_len] at q1 q2
        rw [xs_get h1 k q1, xs_get h2 k q2]
        exact q k q1
    rw [← hl]
    clear hl k2
    go_enter Tryd.func70, Tryd.ntmps70
    go_wp2_with fail
    go_loopw [17] (fun i wr => ∃ k : Nat, k ≤ h1.length ∧ i = .int .i64 k ∧ (∀ (j : Nat) (hj : j < h1.length), j < k → h1[j].x = (h2[j]'(by rw [hl3.out]; exact hj)).x) ∧ Below w.heap.size w wr) (fun i _ => h1.length - (intOf i).toNat)
    case atStart => exact ⟨0, by omega, rfl, fun j hj q => by omega, Below.refl _ _⟩
    case round =>
      obtain ⟨k, hk, rfl, hall, Bk⟩ := hrel
      by_cases hlt : k < h1.length
      · have I1 := H1.below Bk
        have I2 := H2.below Bk
        have hlt2 : k < h2.length := by rw [hl3.out]; exact hlt
        obtain ⟨b1, o1, rfl, hb1, at1⟩ := I1.row.at hlt
        obtain ⟨b2, o2, rfl, hb2, at2⟩ := I2.row.at hlt2
        have q1 : (k : Int) < (h1.length : Int) := by omega
        have q2 : decide ((k : Int) < (h1.length : Int)) = true := decide_eq_true q1
        have q3 : (0 : Int) ≤ (k : Int) := by omega
        have q4 : IntKind.i64.wrap ((k : Int) + 1) = (k : Int) + 1 := by rw [IntKind.wrap_i64] <;> omega
        have HK1 := at1 k hlt
        have HK2 := at2 k hlt2
        obtain ⟨e1, cp1, cm1⟩ := I1.ev h1[k] (List.getElem_mem hlt)
        obtain ⟨e2, cp2, cm2⟩ := I2.ev h2[k] (List.getElem_mem hlt2)
        have HS : Hid (∀ W, Below wr.heap.size wr W → Calls Tryd.prog 71 #[.agg (mvC h1[k]), .agg (mvC h2[k])] W fun e w' => e = .returned (.bool (decide (h1[k].x = h2[k].x))) ∧ Below W.heap.size W w') := fun W hb => sameK_one h1[k] h2[k] W (e1.below hb) (e2.below hb) (Nat.le_trans cp1 cm1) (Nat.le_trans cp2 cm2)
        have hstep : Hid (h1[k].x = h2[k].x → ∀ (j : Nat) (hj : j < h1.length), j < k + 1 → h1[j].x = (h2[j]'(by rw [hl3.out]; exact hj)).x) := fun q j hj hj2 => by
          by_cases hjk : j = k
          · subst hjk; exact q
          · exact hall j hj (by omega)
        have hno : Hid (¬ h1[k].x = h2[k].x → decide (xs h1 = xs h2) = false) := fun q => decide_eq_false (fun r => q (HIN.out k hlt r))
        generalize h1[k] = x at *
        generalize h2[k] = y at *
        clear at1 at2 e1 e2 cp1 cm1 cp2 cm2 I1 I2 hall HIN HEX
        have k2 : (k : Int) < (h2.length : Int) := by have := hl3.out; omega
        have HA4 := Blk.new wr 36 (mvC zMvH)
        have b4 : Below wr.heap.size wr (wr.alloc (.cells (mvC zMvH) 36)) := (Below.refl _ _).alloc (Nat.le_refl _) _
        go_upto_region 6 with (first
          | (refine load_cells (B := b1) (k := o1 + k * 3) 36 (mvC x) (by rfl) rfl rfl HK1 (by kernel_rfl) (by kernel_rfl) ?_)
          | (refine alloc_blk 36 (mvC zMvH) (by rfl) rfl Tryd.mhZero ?_)
          | (refine store_blk (k := 0) 36 (.agg (mvC x)) (mvC x) (by rfl) rfl rfl rfl HA4 (by kernel_rfl) (show (3 : Nat) ≤ 3 from Nat.le_refl 3) (by rfl) (st_whole _ _ rfl) ?_; intro w5 HA5 b5 g5))
        have b15 := b4.trans b5
        have HK5 : CellsAt w5 b2 (o2 + k * 3) (mvC y) := HK2.below b15 hb2
        have HA6 := Blk.new w5 36 (mvC zMvH)
        have b6 : Below w5.heap.size w5 (w5.alloc (.cells (mvC zMvH) 36)) := (Below.refl _ _).alloc (Nat.le_refl _) _
        clear HA4 b4 b5 g5 HK1 HK2
        have hsw := Bk.size
        have hs5 : w.heap.size ≤ w5.heap.size := Nat.le_trans hsw b15.size
        have HS5 := Lib.hid (fun W (hb : Below w5.heap.size w5 W) => HS.out W (b15.trans (hb.mono b15.size)))
        have B5 := Bk.trans (b15.mono hsw)
        clear HS b15 Bk
        generalize wr.heap.size = G1 at *
        go_upto_region 7 with (first
          | (refine load_cells (B := b2) (k := o2 + k * 3) 36 (mvC y) (by rfl) rfl rfl HK5 (by kernel_rfl) (by kernel_rfl) ?_)
          | (refine alloc_blk 36 (mvC zMvH) (by rfl) rfl Tryd.mhZero ?_)
          | (refine store_blk (k := 0) 36 (.agg (mvC y)) (mvC y) (by rfl) rfl rfl rfl HA6 (by kernel_rfl) (show (3 : Nat) ≤ 3 from Nat.le_refl 3) (by rfl) (st_whole _ _ rfl) ?_; intro w7 HA7 b7 g7))
        have b57 := b6.trans b7
        have HA5' := HA5.kept b57
        have B7 := B5.trans (b57.mono hs5)
        have HS7 := Lib.hid (HS5.out w7 b57)
        have hs7 : w.heap.size ≤ w7.heap.size := Nat.le_trans hs5 b57.size
        clear HS5 B5 b57 b6 b7 g7 HA6 HK5
        generalize w5.heap.size = G2 at *
        go_wp2_with (first
          | (refine load_blk (k := 0) 36 (mvC x) (by rfl) rfl rfl HA5' (by kernel_rfl) (by kernel_rfl) rfl ?_)
          | (refine load_blk (k := 0) 36 (mvC y) (by rfl) rfl rfl HA7 (by kernel_rfl) (by kernel_rfl) rfl ?_))
        refine HS7.out.mono ?_
        rintro e w8 ⟨rfl, b8⟩
        have B8 := B7.trans (b8.mono hs7)
        by_cases hxy : x.x = y.x
        · rw [decide_eq_true hxy]
          have hst := Lib.hid (hstep.out hxy)
          clear hno hxy hstep
          go_wp2
          go_roundw
          case rel => exact ⟨k + 1, by omega, by go_num, hst.out, B8⟩
          case measure => simp [intOf]; omega
        · rw [decide_eq_false hxy]
          have hnn := Lib.hid (hno.out hxy)
          clear hno hxy hstep
          go_wp2
          go_ret
          exact ⟨by rw [hnn.out]; rfl, B8⟩
      · obtain rfl : k = h1.length := by omega
        have q2 : decide ((h1.length : Int) < (h1.length : Int)) = false := decide_eq_false (by omega)
        have hyes : Hid (decide (xs h1 = xs h2) = true) := decide_eq_true (HEX.out (fun j hj => hall j hj hj))
        clear hall HIN HEX
        go_wp2
        go_ret
        exact ⟨by rw [hyes.out]; rfl, Bk⟩
  · have d : ((h1.length : Int) != (h2.length : Int)) = true := by
      rw [bne_iff_ne]
      omega
    rw [decide_eq_false (fun q : xs h1 = xs h2 => hl (by rw [← xs_len h1, ← xs_len h2, q]))]
    clear hl
    go_enter Tryd.func70, Tryd.ntmps70
    go_wp2
    go_ret
    exact ⟨rfl, Below.refl _ _⟩

theorem sameK_any (a1 a2 : Option Addr) (c1 c2 : Nat) (h1 h2 : List MvH) (w : World) (H1 : MvsIn w a1 h1) (H2 : MvsIn w a2 h2) (m1 : h1.length ≤ maxLen) (m2 : h2.length ≤ maxLen) :
    Calls Tryd.prog 30 #[.slice a1 h1.length c1, .slice a2 h2.length c2] w fun e w' => e = .returned (.bool (decide (xs h1 = xs h2))) ∧ Below w.heap.size w w' := by
  have HX := Lib.hid (sameK_many a1 a2 c1 c2 h1 h2 w H1 H2 m1 m2)
  go_enter Tryd.func30, Tryd.ntmps30
  go_wp2_with fail
  refine HX.out.mono ?_
  rintro e w2 ⟨rfl, b2⟩
  go_wp2
  go_ret
  exact ⟨rfl, b2⟩

end Go.Proofs.YtikjpcnfldkifaaDoor

namespace Go.Proofs.YtikjpcnfldkifaaDoor
open Go.RowKit
attribute [local go_sem ↓] Go.wp_at_zero Go.wp_at_succ
set_option linter.unusedSimpArgs false
set_option linter.unusedVariables false
set_option maxRecDepth 100000

theorem ownIv_cap {w : World} {base n c : Nat} {a : Option Addr} {l : List Int} (hn : n = l.length) (h : OwnIv w base (.slice a n c) l) : IvIn w a l ∧ n ≤ c ∧ c ≤ maxLen := by
  subst hn
  rcases h with ⟨rfl, e⟩ | ⟨h1, g, cap, e, h2⟩
  · injection e with e1 e2 e3
    subst e1 e3
    exact ⟨Or.inl rfl, Nat.le_refl _, Nat.zero_le _⟩
  · injection e with e1 e2 e3
    subst e1 e3
    rcases h2.2 with ⟨e, _⟩ | ⟨g', cap', cur, e, _, _, q1, q2, _⟩
    · cases e
    · injection e with e1 e2 e3
      subst e3
      exact ⟨Or.inr ⟨g, 0, rfl, (h2.lt g rfl).2, iv_own rfl h2⟩, q1, q2⟩

theorem ownAs_in {w : World} {base : Nat} {v : Value} {hs : List MvH} (h : OwnAs w base v hs) : ∃ a c, v = .slice a hs.length c ∧ MvsIn w a hs := by
  obtain ⟨a, c, e, hm⟩ := h.row.inL
  exact ⟨a, c, e, hm, fun x hx => ownIv_cap rfl (h.ev x hx)⟩

theorem err_nil {w : World} {er : Value} {pl : Int} (h : ErrAs w er 0 pl) : er = .nilIface := by
  rcases h with ⟨e, _⟩ | ⟨e, _⟩
  · exact e
  · exact absurd rfl e

theorem err3_nil {w : World} {er : Value} {pl : Int} (h : ErrAs3 w er 0 pl) : er = .nilIface := by
  rcases h with h | ⟨_, e, _⟩
  · exact err_nil h
  · exact absurd rfl e

theorem err3_ne {w : World} {er : Value} {e pl : Int} (h : ErrAs3 w er e pl) (he : e ≠ 0) : ∃ t p, er = .iface t p := by
  rcases h with (⟨_, e1, _⟩ | ⟨_, q, e1, _⟩) | ⟨e1, _⟩
  · exact absurd e1 he
  · exact ⟨_, _, e1⟩
  · exact ⟨_, _, e1⟩

theorem err_ne {w : World} {er : Value} {e pl : Int} (h : ErrAs w er e pl) (he : e ≠ 0) : ∃ q, er = .iface 110 (.pointer (some ⟨q, 0, none⟩)) ∧ Flt w q e pl := by
  rcases h with ⟨_, e1, _⟩ | ⟨_, q, e1, hf⟩
  · exact absurd e1 he
  · exact ⟨q, e1, hf⟩

set_option maxHeartbeats 1600000 in
theorem lots_some (a : Option Addr) (c : Nat) (hs : List MvH) (w : World) (h : MvsIn w a hs) (hm : hs.length ≤ maxLen) :
    Calls Tryd.prog 25 #[.slice a hs.length c] w fun e w' => (∃ b, e = .returned (.bool b)) ∧ Below w.heap.size w w' := by
  have k1 : hs.length ≤ 9223372036854775807 := hm
  clear hm
  go_enter Tryd.func25, Tryd.ntmps25
  go_wp2_with fail
  go_loopw [3, 10] (fun v i wr => ∃ k : Nat, k ≤ hs.length ∧ i = .int .i64 k ∧ (∃ x : Int, v = .int .i64 x) ∧ Below w.heap.size w wr) (fun _ i _ => hs.length - (intOf i).toNat)
  case atStart => exact ⟨0, by omega, rfl, ⟨_, rfl⟩, Below.refl _ _⟩
  case round =>
    obtain ⟨k, hk, rfl, ⟨x, rfl⟩, Bk⟩ := hrel
    by_cases hlt : k < hs.length
    · have hI := h.below Bk
      obtain ⟨b, lo, rfl, hbl, hat⟩ := hI.row.at hlt
      have q1 : (k : Int) < (hs.length : Int) := by omega
      have q2 : decide ((k : Int) < (hs.length : Int)) = true := decide_eq_true q1
      have q3 : (0 : Int) ≤ (k : Int) := by omega
      have q4 : IntKind.i64.wrap ((k : Int) + 1) = (k : Int) + 1 := by rw [IntKind.wrap_i64] <;> omega
      have HK := hat k hlt
      have hsw := Bk.size
      generalize hs[k] = y at *
      clear hat hI
      have HA4 := Blk.new wr 36 (mvC zMvH)
      have b4 : Below wr.heap.size wr (wr.alloc (.cells (mvC zMvH) 36)) := (Below.refl _ _).alloc (Nat.le_refl _) _
      go_upto_region 5 with (first
        | (refine load_cells (B := b) (k := lo + k * 3) 36 (mvC y) (by rfl) rfl rfl HK (by kernel_rfl) (by kernel_rfl) ?_)
        | (refine alloc_blk 36 (mvC zMvH) (by rfl) rfl Tryd.mhZero ?_)
        | (refine store_blk (k := 0) 36 (.agg (mvC y)) (mvC y) (by rfl) rfl rfl rfl HA4 (by kernel_rfl) (show (3 : Nat) ≤ 3 from Nat.le_refl 3) (by rfl) (st_whole _ _ rfl) ?_; intro w5 HA5 b5 g5))
      have B5 := Bk.trans ((b4.trans b5).mono hsw)
      clear HA4 b4 b5 g5 HK Bk
      generalize wr.heap.size = G1 at *
      have c2 := HA5.cv 2 (.slice y.a y.x.ev.length y.c) rfl
      obtain ⟨L, hL⟩ : ∃ L, y.x.ev.length = L := ⟨_, rfl⟩
      rw [hL] at c2
      clear hL HA5
      go_wp2
      go_roundw
      case rel => exact ⟨k + 1, by omega, by go_num, ⟨_, rfl⟩, B5⟩
      case measure => simp [intOf]; omega
    · obtain rfl : k = hs.length := by omega
      have q2 : decide ((hs.length : Int) < (hs.length : Int)) = false := decide_eq_false (by omega)
      go_wp2
      go_ret
      exact ⟨⟨_, rfl⟩, Bk⟩

def mv0 : Mv := ⟨false, 10, [1, 2, 3, 4]⟩

theorem mv0_ok : okMv mv0 = true := by decide

theorem mv0_E : mvE [mv0] = (0, -1) := by decide

theorem mv0_W : mvX [mv0] = [0, 1, 2, 0, 4, 0, 10, 51, 144, 0, 0, 0, 0] := by decide

theorem mv0_R : rdMvs [0, 1, 2, 0, 4, 0, 10, 51, 144, 0, 0, 0, 0] = .ok [mv0] := by
  have h := mvs_wrote [mv0] (by simp [mv0_ok]) (by decide)
  have e : mvW [mv0] = [0, 1, 2, 0, 4, 0, 10, 51, 144, 0, 0, 0, 0] := by decide
  rw [e] at h
  exact h

theorem w_one (B0 B1 : Nat) (w2 : World) (H1 : Blk w2 B1 36 (mvC ⟨mv0, some ⟨B0, 0, none⟩, 4⟩)) (H0 : Blk w2 B0 3 #[.int .i64 1, .int .i64 2, .int .i64 3, .int .i64 4]) :
    MvsIn w2 (some ⟨B1, 0, none⟩) [⟨mv0, some ⟨B0, 0, none⟩, 4⟩] := by
  refine ⟨Or.inr ⟨B1, 0, rfl, H1.lt, ?_⟩, ?_⟩
  · intro j hj
    have hj : j < 1 := hj
    obtain rfl : j = 0 := by omega
    intro k u hu
    have := H1.cv k u hu
    simpa using this
  · intro h hh
    simp only [List.mem_singleton] at hh
    subst hh
    refine ⟨Or.inr ⟨B0, 0, rfl, H0.lt, ?_⟩, Nat.le_refl 4, (show 4 ≤ maxLen by unfold maxLen; decide)⟩
    intro j hj
    have hj : j < 4 := hj
    intro k u hu
    have hk : k = 0 := by
      rcases k with _ | k
      · rfl
      · simp [ivC] at hu
    subst hk
    have e : (#[.int .i64 1, .int .i64 2, .int .i64 3, .int .i64 4] : Array Value)[j]? = some u := by
      rw [← hu]
      rcases j with _ | _ | _ | _ | j <;> first | rfl | omega
    have := H0.cv j u e
    simpa using this

theorem wr_one (a : Option Addr) (c : Nat) (h : MvH) (hh : h.x = mv0) (S : ByteArray) (hS : S = ⟨#[0, 1, 2, 0, 4, 0, 10, 51, 144, 0, 0, 0, 0]⟩) (w : World) (H : MvsIn w a [h]) :
    Calls Tryd.prog 13 #[.slice a 1 c] w fun e w' => e = .returned (.tuple #[.string S, .nilIface]) ∧ Below w.heap.size w w' := by
  subst hS
  have hx : xs [h] = [mv0] := by simp [xs, hh]
  refine (mvWrite_any a c [h] w H).mono ?_
  rintro e w' ⟨er, rfl, hE, b⟩
  rw [hx, mv0_E] at hE
  obtain rfl := err3_nil hE
  rw [hx, mv0_W]
  exact ⟨rfl, b⟩

theorem rd_one (S : ByteArray) (hS : S = ⟨#[0, 1, 2, 0, 4, 0, 10, 51, 144, 0, 0, 0, 0]⟩) (w : World) :
    Calls Tryd.prog 18 #[.string S] w fun e w' => ∃ a c h, e = .returned (.tuple #[.slice a 1 c, .nilIface]) ∧ h.x = mv0 ∧ MvsIn w' a [h] ∧ Below w.heap.size w w' := by
  subst hS
  refine (mvRead_any ⟨#[0, 1, 2, 0, 4, 0, 10, 51, 144, 0, 0, 0, 0]⟩ w (by decide)).mono ?_
  rintro e w' ⟨v, er, hs, rfl, hx, hO, hE, b⟩
  have e1 : rdMvs (⟨#[0, 1, 2, 0, 4, 0, 10, 51, 144, 0, 0, 0, 0]⟩ : ByteArray).data.toList = .ok [mv0] := mv0_R
  rw [e1] at hx hE
  obtain rfl := err_nil hE
  obtain ⟨a, c, rfl, hm⟩ := ownAs_in hO
  have hx : xs hs = [mv0] := hx
  have hl : hs.length = 1 := by rw [← xs_len, hx]; rfl
  match hs, hl with
  | [h], _ =>
    have : h.x = mv0 := by simpa [xs] using hx
    exact ⟨a, c, h, rfl, this, hm, b⟩

theorem same_one (a1 a2 : Option Addr) (c1 c2 : Nat) (h1 h2 : MvH) (e1 : h1.x = mv0) (e2 : h2.x = mv0) (w : World) (H1 : MvsIn w a1 [h1]) (H2 : MvsIn w a2 [h2]) :
    Calls Tryd.prog 30 #[.slice a1 1 c1, .slice a2 1 c2] w fun e w' => e = .returned (.bool true) ∧ Below w.heap.size w w' := by
  refine (sameK_any a1 a2 c1 c2 [h1] [h2] w H1 H2 (show 1 ≤ maxLen by unfold maxLen; decide) (show 1 ≤ maxLen by unfold maxLen; decide)).mono ?_
  rintro e w' ⟨rfl, b⟩
  have : xs [h1] = xs [h2] := by simp [xs, e1, e2]
  rw [decide_eq_true this]
  exact ⟨rfl, b⟩

set_option maxHeartbeats 3200000 in
theorem wanted_yes (w : World) : Calls Tryd.prog 24 #[] w fun e w' => e = .returned (.bool true) ∧ Below w.heap.size w w' := by
  have hE0 := Blk.new w 3 #[.int .i64 1, .int .i64 2, .int .i64 3, .int .i64 4]
  have b0 : Below w.heap.size w (w.alloc (.cells #[.int .i64 1, .int .i64 2, .int .i64 3, .int .i64 4] 3)) := (Below.refl _ _).alloc (Nat.le_refl _) _
  have z0 : (0 : Nat) < w.heap.size + 1 := Nat.succ_pos _
  generalize hhd : (⟨mv0, some ⟨w.heap.size, 0, none⟩, 4⟩ : MvH) = hd
  have hc : Hid (mvC hd = #[.bool false, .int .i64 10, .slice (some ⟨w.heap.size, 0, none⟩) 4 4]) := by rw [← hhd]; rfl
  have hx : Hid (hd.x = mv0) := by rw [← hhd]; exact Lib.hid rfl
  have hM : Hid (∀ w2 B1, Blk w2 B1 36 (mvC hd) → Blk w2 w.heap.size 3 #[.int .i64 1, .int .i64 2, .int .i64 3, .int .i64 4] → MvsIn w2 (some ⟨B1, 0, none⟩) [hd]) := by
    intro w2 B1 H1 H0
    rw [← hhd] at H1 ⊢
    exact w_one _ _ _ H1 H0
  clear hhd
  have hz : Hid (∀ o, (w.alloc o).heap.size = w.heap.size + 1) := Lib.hid fun o => Array.size_push _
  obtain ⟨S, hS⟩ : ∃ S : ByteArray, Hid (S = ⟨#[0, 1, 2, 0, 4, 0, 10, 51, 144, 0, 0, 0, 0]⟩) := ⟨_, Lib.hid rfl⟩
  have q1 : (S.toList == [0, 1, 2, 0, 4, 0, 10, 51, 144, 0, 0, 0, 0]) = true := by rw [hS.out, ByteArray.toList_eq]; decide
  go_enter Tryd.func24, Tryd.ntmps24
  go_wp2_with (first
    | (refine build_blk (t := 36) (mvC hd) (by rfl) rfl (by rw [hc.out]; kernel_rfl) ?_)
    | (refine sliceL_mh hd rfl rfl rfl ?_; intro w2 HS2 b2 s2
       rw [hz.out] at HS2 b2 s2
       have HM2 := hM.out w2 _ HS2 (hE0.below b2 (Nat.lt_succ_self _)))
    | (refine (wr_one _ _ hd hx.out S hS.out _ HM2).mono ?_; rintro e w3 ⟨rfl, b3⟩)
    | (refine (rd_one S hS.out _).mono ?_; rintro e w4 ⟨a4, c4, h4, rfl, e4, HM4, b4⟩)
    | (refine (same_one _ _ _ _ hd h4 hx.out e4 _ (HM2.below (b3.trans (b4.mono b3.size))) HM4).mono ?_; rintro e w5 ⟨rfl, b5⟩))
  go_ret
  refine ⟨rfl, b0.trans ((b2.mono (Nat.le_succ _)).trans ?_)⟩
  exact (b3.trans ((b4.mono b3.size).trans (b5.mono (Nat.le_trans b3.size b4.size)))).mono (Nat.le_of_lt (Nat.lt_trans (Nat.lt_succ_self _) s2))

end Go.Proofs.YtikjpcnfldkifaaDoor

namespace Go.Proofs.YtikjpcnfldkifaaDoor
open Go.RowKit
attribute [local go_sem ↓] Go.wp_at_zero Go.wp_at_succ
set_option linter.unusedSimpArgs false
set_option linter.unusedVariables false
set_option maxRecDepth 100000

/-- A VID and its event. -/
structure Pr where
  vid : Int
  ev : Int
deriving DecidableEq

instance : Inhabited Pr := ⟨⟨0, 0⟩⟩

def zPr : Pr := ⟨0, 0⟩

def prC (x : Pr) : Array Value := #[.int .i64 x.vid, .int .i64 x.ev]

def PrAt (w : World) (b o : Nat) (l : List Pr) : Prop := ∀ j (hj : j < l.length), CellsAt w b (o + j * 2) (prC l[j])

def PrIn (w : World) (a : Option Addr) (l : List Pr) : Prop := l = [] ∨ ∃ b o, a = some ⟨b, o, none⟩ ∧ b < w.heap.size ∧ PrAt w b o l

theorem PrAt.below {w w' : World} {b o D : Nat} {l : List Pr} (h : PrAt w b o l) (hb : Below D w w') (hB : b < D) : PrAt w' b o l := fun j hj => (h j hj).below hb hB

theorem PrIn.below {w w' : World} {a : Option Addr} {l : List Pr} (h : PrIn w a l) (hb : Below w.heap.size w w') : PrIn w' a l := by
  rcases h with h | ⟨b, o, h1, h2, h3⟩
  · exact Or.inl h
  · exact Or.inr ⟨b, o, h1, Nat.lt_of_lt_of_le h2 hb.size, fun j hj => (h3 j hj).below hb h2⟩

theorem PrIn.drew {w : World} {a : Option Addr} {l : List Pr} (h : PrIn w a l) : PrIn w.drew a l := h

theorem PrIn.at {w : World} {a : Option Addr} {l : List Pr} (h : PrIn w a l) {k : Nat} (hk : k < l.length) : ∃ b o, a = some ⟨b, o, none⟩ ∧ b < w.heap.size ∧ PrAt w b o l := by
  rcases h with rfl | h
  · simp at hk
  · exact h

/-- A list that lay somewhere ahead lies there still. -/
theorem PrIn.late {w0 w w' : World} {a : Option Addr} {l : List Pr} (h : PrIn w a l) (h0 : PrIn w0 a l) (hb : Below w0.heap.size w w') : PrIn w' a l := by
  rcases h with h | ⟨b, o, e1, e2, e3⟩
  · exact Or.inl h
  · rcases h0 with h0 | ⟨b0, o0, f1, f2, f3⟩
    · exact Or.inl h0
    · rw [e1] at f1
      cases f1
      exact Or.inr ⟨b, o, e1, Nat.lt_of_lt_of_le e2 hb.size, e3.below hb f2⟩

theorem Tryd.prZero : (Tryd.prog.info? 88).map (·.zero) = some (some (.agg (prC zPr))) := by kernel_rfl

def eqPr (a b : Pr) : Bool := (a.vid == b.vid) && (a.ev == b.ev)

theorem run_eql_pr (d : Nat) (a b : Pr) (w : World) : (Op.equalIn (d + 5) 88 (.agg (prC a)) (.agg (prC b))).run Tryd.prog w = .ok (eqPr a b) w := by
  have hs : Tryd.prog.stoodInHeld 88 = false := by kernel_rfl
  have hu : Tryd.prog.underlying 88 = some (.struct (Tryd.prog.fieldsOf 88)) := by kernel_rfl
  have hf : (Tryd.prog.fieldsOf 88).toList.map (fun f => (f.name == "_", f.type, f.offset)) = [(false, 3, 0), (false, 3, 1)] := by kernel_rfl
  rw [run_equalIn_agg w (d + 4) 88 _ _ hu hs]
  obtain ⟨f0, l0, h0, g0, hf⟩ := List.map_eq_cons_iff.1 hf
  obtain ⟨f1, l1, rfl, g1, hf⟩ := List.map_eq_cons_iff.1 hf
  obtain rfl := List.map_eq_nil_iff.1 hf
  rw [h0]
  have e0 := run_equalIn_int (P := Tryd.prog) w (d + 3) 3 .i64 .i64 a.vid b.vid Tryd.underlying3
  have e1 := run_equalIn_int (P := Tryd.prog) w (d + 3) 3 .i64 .i64 a.ev b.ev Tryd.underlying3
  have h := run_eqFields_cons w (d + 4) (prC a) (prC b) f0 _ _ _ _ _ _ _ g0 (run_part_one w _ _ 0 _ (by kernel_rfl) rfl) (run_part_one w _ _ 0 _ (by kernel_rfl) rfl) e0
    (run_eqFields_cons w (d + 4) (prC a) (prC b) f1 _ _ _ _ _ _ _ g1 (run_part_one w _ _ 1 _ (by kernel_rfl) rfl) (run_part_one w _ _ 1 _ (by kernel_rfl) rfl) e1
    (run_eqFields_nil w (d + 4) _ _))
  rw [Bool.and_true] at h
  exact h

theorem eqPr_same (a : Pr) : eqPr a a = true := by simp [eqPr]

theorem pr_same (x : Pr) (W : World) : (Op.equalIn 10000 88 (.agg (prC x)) (.agg (prC x))).run Tryd.prog W = .ok true W := by
  have h := run_eql_pr 9995 x x W
  rw [eqPr_same] at h
  exact h

/-- The cells of records, one behind the other. -/
def prR (l : List Pr) : List Value := l.flatMap fun v => (prC v).toList

theorem prR_cons (v : Pr) (l : List Pr) : prR (v :: l) = (prC v).toList ++ prR l := by simp [prR]

theorem prR_append (l m : List Pr) : prR (l ++ m) = prR l ++ prR m := by simp [prR]

theorem prR_one (v : Pr) : prR [v] = (prC v).toList := by simp [prR]

theorem prC_len (v : Pr) : (prC v).toList.length = 2 := rfl

theorem prR_len (l : List Pr) : (prR l).length = l.length * 2 := by
  induction l with
  | nil => rfl
  | cons v l ih => rw [prR_cons, List.length_append, ih, prC_len, List.length_cons]; omega

theorem prR_get : ∀ (l : List Pr) (j : Nat) (hj : j < l.length) (k : Nat), k < 2 → (prR l)[j * 2 + k]? = (prC l[j])[k]?
  | [], j, hj, _, _ => by simp at hj
  | v :: l, 0, _, k, hk => by
    rw [prR_cons, List.getElem?_append_left (by rw [prC_len]; omega)]
    simp
  | v :: l, j + 1, hj, k, hk => by
    have ih := prR_get l j (by simpa using hj) k hk
    rw [prR_cons, List.getElem?_append_right (by rw [prC_len]; omega), prC_len, show (j + 1) * 2 + k - 2 = j * 2 + k by omega, ih]
    rfl

theorem prC_cells (v : Pr) : ∀ u ∈ (prC v).toList, u.oneCell' = true := by
  intro u hu
  simp only [prC, List.mem_cons, List.not_mem_nil, or_false] at hu
  rcases hu with rfl | rfl <;> rfl

theorem prR_cells (l : List Pr) : ∀ u ∈ prR l, u.oneCell' = true := by
  intro u hu
  unfold prR at hu
  obtain ⟨v, _, hv⟩ := List.mem_flatMap.1 hu
  exact prC_cells v u hv

theorem prAt_news {w : World} {b o : Nat} {l : List Pr} (h : PrAt w b o l) : ∀ (q : Nat) u, (prR l)[q]? = some u → w.cell? ((⟨b, o, none⟩ : Addr).add q) = some u := by
  intro q u hu
  have hq : q < l.length * 2 := by
    rw [← prR_len]
    exact (List.getElem?_eq_some_iff.1 hu).1
  have hj : q / 2 < l.length := by omega
  have e : q = q / 2 * 2 + q % 2 := by omega
  rw [e, prR_get l (q / 2) hj (q % 2) (by omega)] at hu
  have := h (q / 2) hj (q % 2) u hu
  rw [e, Addr.add_lit, ← Nat.add_assoc]
  exact this

theorem pr_own {w : World} {base g cap n : Nat} {T : TypeId} {l : List Pr} (hn : n = l.length) (h : w.ownsRow base T 2 (.slice (some ⟨g, 0, none⟩) n cap) n (prR l)) : PrAt w g 0 l := by
  subst hn
  intro j hj k c hc
  have hk : k < 2 := (Array.getElem?_eq_some_iff.1 hc).1
  have h2 := h.cellAt (j * 2 + k) (by omega)
  rw [prR_get l j hj k hk, hc] at h2
  rw [Nat.zero_add]
  exact h2

/-- A row of records of one's own: none, or a block from base on. -/
def OwnPr (w : World) (base : Nat) (v : Value) (l : List Pr) : Prop := (l = [] ∧ v = .slice none 0 0) ∨ (l ≠ [] ∧ ∃ g cap, v = .slice (some ⟨g, 0, none⟩) l.length cap ∧ w.ownsRow base 88 2 v l.length (prR l))

theorem OwnPr.nil (w : World) (base : Nat) : OwnPr w base (.slice none 0 0) [] := Or.inl ⟨rfl, rfl⟩

theorem OwnPr.kept {w w' : World} {base : Nat} {v : Value} {l : List Pr} (h : OwnPr w base v l) (hb : Below w.heap.size w w') : OwnPr w' base v l := by
  rcases h with h | ⟨h1, g, cap, rfl, h2⟩
  · exact Or.inl h
  · exact Or.inr ⟨h1, g, cap, rfl, h2.kept (show w.grownBy w' none from ⟨hb.os, hb.tape, hb.output, hb.size, fun k hk _ => hb.block k hk⟩) (Or.inr (by simp [Value.ownBlock]))⟩

theorem OwnPr.alloc {w : World} {base : Nat} {v : Value} {l : List Pr} (h : OwnPr w base v l) (o : Obj) : OwnPr (w.alloc o) base v l := h.kept ((Below.refl _ _).alloc (Nat.le_refl _) o)

theorem OwnPr.inL {w : World} {base : Nat} {v : Value} {l : List Pr} (h : OwnPr w base v l) : ∃ a c, v = .slice a l.length c ∧ PrIn w a l := by
  rcases h with ⟨rfl, rfl⟩ | ⟨h1, g, cap, rfl, h2⟩
  · exact ⟨none, 0, rfl, Or.inl rfl⟩
  · exact ⟨some ⟨g, 0, none⟩, cap, rfl, Or.inr ⟨g, 0, rfl, (h2.lt g rfl).2, pr_own rfl h2⟩⟩

theorem prR_snoc (l : List Pr) (x : Pr) : prR (l ++ [x]) = prR l ++ (prC x).toList := by rw [prR_append, prR_one]

/-- Another block is written. -/
theorem OwnPr.grown {w w' : World} {base : Nat} {v : Value} {l : List Pr} {row : Option Nat} (h : OwnPr w base v l) (hg : w.grownBy w' row) (hr : ∀ g, row = some g → g < base) : OwnPr w' base v l := by
  rcases h with h | ⟨h1, g, cap, rfl, h2⟩
  · exact Or.inl h
  · refine Or.inr ⟨h1, g, cap, rfl, h2.kept hg ?_⟩
    right
    intro e
    have h3 := (h2.lt g rfl).1
    have := hr g (by rw [← e]; simp [Value.ownBlock])
    omega

theorem OwnPr.mono {w : World} {base B : Nat} {v : Value} {l : List Pr} (h : OwnPr w base v l) (hB : B ≤ base) : OwnPr w B v l := by
  rcases h with h | ⟨h1, g, cap, rfl, h2, h3⟩
  · exact Or.inl h
  · refine Or.inr ⟨h1, g, cap, rfl, h2, ?_⟩
    rcases h3 with h3 | ⟨g', cap', cur, e1, e2, e3⟩
    · exact Or.inl h3
    · exact Or.inr ⟨g', cap', cur, e1, Nat.le_trans hB e2, e3⟩

/-- Its block. -/
theorem OwnPr.blk {w : World} {base : Nat} {v : Value} {l : List Pr} (h : OwnPr w base v l) : v.ownBlock = none ∨ ∃ g C, v.ownBlock = some g ∧ base ≤ g ∧ Blk w g 88 C := by
  rcases h with ⟨rfl, rfl⟩ | ⟨h1, g, cap, rfl, h2⟩
  · exact Or.inl rfl
  · rcases h2.2 with ⟨h3, -⟩ | ⟨g1, cap1, cur1, e1, e2, e3, -⟩
    · cases h3
    · cases e1
      exact Or.inr ⟨g, cur1, rfl, e2, e3⟩

/-- A block of another type is written. -/
theorem OwnPr.other {w w' : World} {base B : Nat} {v : Value} {l : List Pr} {T : TypeId} {C : Array Value} (h : OwnPr w base v l) (hB : Blk w B T C) (hT : T ≠ 88) (hg : w.grownBy w' (some B)) : OwnPr w' base v l := by
  have hb := h.blk
  rcases h with h | ⟨h1, g, cap, rfl, h2⟩
  · exact Or.inl h
  · refine Or.inr ⟨h1, g, cap, rfl, h2.kept hg ?_⟩
    right
    intro e
    rcases hb with hb | ⟨g1, C1, e1, e2, e3⟩
    · rw [hb] at e; cases e
    · rw [e1] at e
      cases e
      have h3 : w.heap[B]? = some (.cells C T (0, 0)) := hB
      have h4 : w.heap[B]? = some (.cells C1 88 (0, 0)) := e3
      rw [h3] at h4
      injection h4 with h4
      injection h4 with _ h5
      exact hT h5

theorem Tryd.prParts : (Tryd.prog.info? 88).map (fun i => (i.zero, i.size, i.bytes)) = some (some (.agg (prC zPr)), 2, 16) := by kernel_rfl

theorem fill_pr (v : Pr) : Instr.fill (fun i => some (i * 2, 2)) ((Array.range (1 * 2)).map ((Value.agg (prC zPr)).cells[· % (Value.agg (prC zPr)).cells.size]!)) [(0, .agg (prC v))] = some (prC v) := by kernel_rfl

/-- One comes behind. -/
theorem append_pr {o : Oper} {a : Act} {w : World} {K : Act → World → Prop} {Q : Exit → Act → World → Prop} {s x : Operand} {base G : Nat} {v : Value} {l : List Pr} (y : Pr)
    (ho : o.op = .call { callee := .builtin .append, args := #[s, x], argTypes := #[84, 84] }) (hs : a.eval s = v) (hx : a.eval x = .slice (some ⟨G, 0, none⟩) 1 1)
    (hO : OwnPr w base v l) (hG : Blk w G 88 (prC y)) (hlen : l.length ≤ 100000) (hbase : base ≤ w.heap.size)
    (h : ∀ v' w', OwnPr w' base v' (l ++ [y]) → Below base w w' → w.grownBy w' v.ownBlock → K (a.put o.dst v') w') : Oper.wp Tryd.prog o a w K Q := by
  obtain ⟨i0, hi, hz0, hz1, hz2⟩ := info_parts Tryd.prParts
  have hnews : ∀ (j : Nat) u, (prC y).toList[j]? = some u → w.cell? ((⟨G, 0, none⟩ : Addr).add j) = some u := fun j u hu => by
    rw [Addr.add_lit, Nat.zero_add]
    exact hG.cv j u (by simpa using hu)
  rcases hO with ⟨rfl, rfl⟩ | ⟨hne, g, cap, rfl, hown⟩
  · refine wp_append_lies w s x _ ho base 88 i0 (.agg (prC zPr)) 2 16 Tryd.underlying84 hi hz0 hz1 hz2 rfl (by decide) (.slice none 0 0) 0 [] hs (World.ownsRow_nil w base _ 2) ⟨G, 0, none⟩ 1 1 (prC y).toList hx rfl hnews (prC_cells y) (by decide) (by unfold maxLen; omega) (by decide) hbase _ rfl ?_
    intro g cap w' hown hgrow hat hlt
    refine h _ _ (Or.inr ⟨by simp, g, cap, rfl, ?_⟩) ((Below.refl base w).grown hgrow hbase (fun q hq => by simp [Value.ownBlock] at hq)) hgrow
    rw [List.nil_append, prR_one]
    exact hown
  · have hown' := hown
    refine wp_append_lies w s x _ ho base 88 i0 (.agg (prC zPr)) 2 16 Tryd.underlying84 hi hz0 hz1 hz2 rfl (by decide) (.slice (some ⟨g, 0, none⟩) l.length cap) l.length (prR l) hs hown ⟨G, 0, none⟩ 1 1 (prC y).toList hx rfl hnews (prC_cells y) (by decide) (by unfold maxLen; omega) (by omega) hbase _ rfl ?_
    intro g' cap' w' hown2 hgrow hat hlt
    obtain ⟨cur, hB, hge⟩ : ∃ cur, Blk w g 88 cur ∧ base ≤ g := by
      rcases hown'.2 with ⟨h1, -⟩ | ⟨g1, cap1, cur1, e1, e2, e3, -⟩
      · cases h1
      · cases e1
        exact ⟨cur1, e3, e2⟩
    refine h _ _ (Or.inr ⟨by simp, g', cap', by rw [List.length_append]; rfl, ?_⟩) ((Below.refl base w).grown hgrow hbase (fun q hq => by cases hq; exact hge)) hgrow
    rw [prR_snoc, List.length_append]
    exact hown2

/-- Of one alone. -/
theorem slice_pr {o : Oper} {a : Act} {w : World} {K : Act → World → Prop} {Q : Exit → Act → World → Prop} {x : Operand} (y : Pr) (ho : o.op = .buildSlice 84 1 #[(0, x)]) (hx : a.eval x = .agg (prC y))
    (h : ∀ w1, Blk w1 w.heap.size 88 (prC y) → Below w.heap.size w w1 → w.heap.size < w1.heap.size → K (a.put o.dst (.slice (some ⟨w.heap.size, 0, none⟩) 1 1)) w1) : Oper.wp Tryd.prog o a w K Q := by
  obtain ⟨i0, hi, hz0, hz1, hz2⟩ := info_parts Tryd.prParts
  refine wp_buildSlice 84 88 1 _ ho (prC y) i0 (.agg (prC zPr)) Tryd.underlying84 hi hz0 (by rw [hz1]; decide) (by rw [hz1]; decide) (by rw [hz1]; simp only [List.map_toArray, List.map_cons, List.map_nil, hx]; exact fill_pr y) (h _ (Blk.new w _ _) ((Below.refl _ _).alloc (Nat.le_refl _) _) (Blk.new w _ _).lt)

theorem sliceL_pr {ops : Array Oper} {rest : List Oper} {o : Oper} {a : Act} {w : World} {Q : Exit → Act → World → Prop} {x : Operand} (y : Pr) (hg : o.guard = none) (ho : o.op = .buildSlice 84 1 #[(0, x)]) (hx : a.eval x = .agg (prC y))
    (h : ∀ w1, Blk w1 w.heap.size 88 (prC y) → Below w.heap.size w w1 → w.heap.size < w1.heap.size → wpList Tryd.prog ops Q rest (a.put o.dst (.slice (some ⟨w.heap.size, 0, none⟩) 1 1)) w1) : wpList Tryd.prog ops Q (o :: rest) a w :=
  wpList_plain hg fun _ hK => slice_pr y ho hx fun w1 hB hb hs => hK _ _ (h w1 hB hb hs)

theorem appendL_pr {ops : Array Oper} {rest : List Oper} {o : Oper} {a : Act} {w : World} {Q : Exit → Act → World → Prop} {s x : Operand} {base G : Nat} {v : Value} {l : List Pr} (y : Pr) (hg : o.guard = none)
    (ho : o.op = .call { callee := .builtin .append, args := #[s, x], argTypes := #[84, 84] }) (hs : a.eval s = v) (hx : a.eval x = .slice (some ⟨G, 0, none⟩) 1 1)
    (hO : OwnPr w base v l) (hG : Blk w G 88 (prC y)) (hlen : l.length ≤ 100000) (hbase : base ≤ w.heap.size)
    (h : ∀ v' w', OwnPr w' base v' (l ++ [y]) → Below base w w' → w.grownBy w' v.ownBlock → wpList Tryd.prog ops Q rest (a.put o.dst v') w') : wpList Tryd.prog ops Q (o :: rest) a w :=
  wpList_plain hg fun _ hK => append_pr y ho hs hx hO hG hlen hbase fun v' w' h1 h2 h3 => hK _ _ (h v' w' h1 h2 h3)

end Go.Proofs.YtikjpcnfldkifaaDoor

namespace Go.Proofs.YtikjpcnfldkifaaDoor
open Go.RowKit
attribute [local go_sem ↓] Go.wp_at_zero Go.wp_at_succ
set_option linter.unusedSimpArgs false
set_option linter.unusedVariables false
set_option maxRecDepth 100000

/-- The VIDs of events, from the i-th on. -/
def prsF (f : Int) : Nat → List Int → List Pr
  | _, [] => []
  | i, e :: l => ⟨IntKind.i64.wrap (f + (i : Int)), e⟩ :: prsF f (i + 1) l

theorem prsF_len (f : Int) : ∀ (i : Nat) (l : List Int), (prsF f i l).length = l.length
  | _, [] => rfl
  | i, e :: l => by rw [prsF, List.length_cons, prsF_len f (i + 1) l, List.length_cons]

theorem prsF_snoc (f : Int) (x : Int) : ∀ (i : Nat) (l : List Int), prsF f i (l ++ [x]) = prsF f i l ++ [⟨IntKind.i64.wrap (f + ((i + l.length : Nat) : Int)), x⟩]
  | i, [] => by simp [prsF]
  | i, e :: l => by
    rw [List.cons_append, prsF, prsF_snoc f x (i + 1) l, prsF, List.cons_append, List.length_cons]
    rw [show i + 1 + l.length = i + (l.length + 1) by omega]

/-- All VIDs with their events. -/
def eachL (l : List Mv) : List Pr := l.flatMap fun x => prsF x.first 0 x.ev

theorem eachL_append (a b : List Mv) : eachL (a ++ b) = eachL a ++ eachL b := by simp [eachL]

theorem eachL_take (hs : List MvH) (k : Nat) (hk : k < hs.length) : eachL (xs (hs.take (k + 1))) = eachL (xs (hs.take k)) ++ prsF hs[k].x.first 0 hs[k].x.ev := by
  have e : hs.take (k + 1) = hs.take k ++ [hs[k]] := by rw [List.take_add_one, List.getElem?_eq_getElem hk]; rfl
  rw [e]
  simp only [xs, eachL, List.map_append, List.flatMap_append, List.map_cons, List.map_nil, List.flatMap_cons, List.flatMap_nil, List.append_nil]

theorem eachL_le (hs : List MvH) (k : Nat) : (eachL (xs (hs.take k))).length ≤ (eachL (xs hs)).length := by
  have h : xs hs = xs (hs.take k) ++ xs (hs.drop k) := by rw [← List.take_append_drop k hs]; simp [xs]
  rw [h, eachL_append, List.length_append]
  omega

theorem blk_pr {w w' : World} {v : Value} {l : List Pr} {base B : Nat} {T : TypeId} {C : Array Value} (hO : OwnPr w base v l) (hg : w.grownBy w' v.ownBlock) (h : Blk w B T C) (hT : T ≠ 88) : Blk w' B T C := by
  rcases hO with ⟨rfl, rfl⟩ | ⟨h1, g, cap, rfl, h2⟩
  · exact h.grown hg (by simp [Value.ownBlock])
  · rcases h2.2 with ⟨h3, -⟩ | ⟨g1, cap1, cur1, e1, e2, e3, -⟩
    · cases h3
    · cases e1
      refine h.grown hg ?_
      intro e2'
      obtain rfl : B = g := by simpa [Value.ownBlock] using e2'
      have q1 : w.heap[B]? = some (.cells C T (0, 0)) := h
      have q2 : w.heap[B]? = some (.cells cur1 88 (0, 0)) := e3
      rw [q1] at q2
      injection q2 with q2
      injection q2 with _ q2
      exact hT q2

set_option maxHeartbeats 6400000 in
theorem mvEach_any (a : Option Addr) (c : Nat) (hs : List MvH) (w : World) (h : MvsIn w a hs) (hm : hs.length ≤ maxLen) (hsum : (eachL (xs hs)).length ≤ 90000) :
    Calls Tryd.prog 21 #[.slice a hs.length c] w fun e w' => ∃ v, e = .returned v ∧ OwnPr w' w.heap.size v (eachL (xs hs)) ∧ Below w.heap.size w w' := by
  have k1 : hs.length ≤ 9223372036854775807 := hm
  clear hm
  obtain ⟨base, hbase⟩ : ∃ base, w.heap.size = base := ⟨_, rfl⟩
  have hO0 := OwnPr.nil w base
  have HLE := Lib.hid (eachL_le hs)
  have hb0 : Below base w w := Below.refl _ _
  rw [hbase]
  go_enter Tryd.func21, Tryd.ntmps21
  go_wp2_with fail
  go_loopw [3, 10] (fun v i wr => ∃ k : Nat, k ≤ hs.length ∧ i = .int .i64 k ∧ OwnPr wr base v (eachL (xs (hs.take k))) ∧ Below base w wr) (fun _ i _ => hs.length - (intOf i).toNat)
  case atStart => exact ⟨0, by omega, rfl, hO0, hb0⟩
  case round =>
    obtain ⟨k, hk, rfl, HO, Bk⟩ := hrel
    clear hO0 hb0
    by_cases hlt : k < hs.length
    · have hI := h.below (by rw [hbase]; exact Bk)
      obtain ⟨b, lo, rfl, hbl, hat⟩ := hI.row.at hlt
      have q1 : (k : Int) < (hs.length : Int) := by omega
      have q2 : decide ((k : Int) < (hs.length : Int)) = true := decide_eq_true q1
      have q3 : (0 : Int) ≤ (k : Int) := by omega
      have q4 : IntKind.i64.wrap ((k : Int) + 1) = (k : Int) + 1 := by rw [IntKind.wrap_i64] <;> omega
      have HK := hat k hlt
      have hmem := List.getElem_mem hlt
      have hev0 := h.ev _ hmem
      have HS := Lib.hid (eachL_take hs k hlt)
      have HL2 := Lib.hid (HLE.out (k + 1))
      have hsw := Bk.size
      rw [hbase] at hsw
      generalize hs[k] = y at *
      clear hat hI hmem
      obtain ⟨v0, hv0⟩ : ∃ acc, eachL (xs (hs.take k)) = acc := ⟨_, rfl⟩
      rw [hv0] at HO HS
      clear hv0
      have HA4 := Blk.new wr 36 (mvC zMvH)
      have b4 : Below wr.heap.size wr (wr.alloc (.cells (mvC zMvH) 36)) := (Below.refl _ _).alloc (Nat.le_refl _) _
      go_upto_region 5 with (first
        | (refine load_cells (B := b) (k := lo + k * 3) 36 (mvC y) (by rfl) rfl rfl HK (by kernel_rfl) (by kernel_rfl) ?_)
        | (refine alloc_blk 36 (mvC zMvH) (by rfl) rfl Tryd.mhZero ?_)
        | (refine store_blk (k := 0) 36 (.agg (mvC y)) (mvC y) (by rfl) rfl rfl rfl HA4 (by kernel_rfl) (show (3 : Nat) ≤ 3 from Nat.le_refl 3) (by rfl) (st_whole _ _ rfl) ?_; intro w5 HA5 b5 g5))
      have B5 := Bk.trans ((b4.trans b5).mono hsw)
      have HO5 := HO.kept (b4.trans b5)
      obtain ⟨B, hB⟩ : ∃ B, wr.heap.size = B := ⟨_, rfl⟩
      rw [hB] at HA5
      rw [hB] at hsw
      clear HA4 b4 b5 g5 HK HO Bk
      have c2 := HA5.cv 2 (.slice y.a y.x.ev.length y.c) rfl
      have c1 := HA5.cv 1 (.int .i64 y.x.first) rfl
      obtain ⟨⟨ya, yf, ye⟩, yp, yc⟩ := y
      simp only at c1 c2 hev0 HS
      go_wp2_with fail
      have HLEN : Hid (v0.length + ye.length ≤ 90000) := by
        show _ ≤ _
        have e1 := HL2.out
        rw [HS.out, List.length_append, prsF_len] at e1
        omega
      have hyl : ye.length ≤ 9223372036854775807 := by have := HLEN.out; omega
      have HEV := Lib.hid hev0.1
      clear c1 c2 hev0 HL2
      go_loopw [3, 17] (fun v i wv => ∃ j : Nat, j ≤ ye.length ∧ i = .int .i64 j ∧ OwnPr wv base v (v0 ++ prsF yf 0 (ye.take j)) ∧ Blk wv B 36 #[.bool ya, .int .i64 yf, .slice yp ye.length yc] ∧ Below base w wv) (fun _ i _ => ye.length - (intOf i).toNat)
      case atStart => exact ⟨0, Nat.zero_le _, rfl, by rw [List.take_zero, prsF, List.append_nil]; exact HO5, HA5, B5⟩
      case round =>
        clear HA5 HO5 B5
        obtain ⟨j, hj, rfl, HO, HA, Bj⟩ := hrel
        have c1 := HA.cv 1 (.int .i64 yf) rfl
        by_cases hjl : j < ye.length
        · have hin := HEV.out.below (by rw [hbase]; exact Bj)
          obtain ⟨eb, eo, rfl, hel, het⟩ := hin.at hjl
          have p1 : (j : Int) < (ye.length : Int) := by omega
          have p2 : decide ((j : Int) < (ye.length : Int)) = true := decide_eq_true p1
          have p3 : (0 : Int) ≤ (j : Int) := by omega
          have p4 : IntKind.i64.wrap ((j : Int) + 1) = (j : Int) + 1 := by rw [IntKind.wrap_i64] <;> omega
          have HJ := het j hjl
          have hsn : Hid (prsF yf 0 (ye.take (j + 1)) = prsF yf 0 (ye.take j) ++ [⟨IntKind.i64.wrap (yf + (j : Int)), ye[j]⟩]) := by
            show _ = _
            have e : ye.take (j + 1) = ye.take j ++ [ye[j]] := by rw [List.take_add_one, List.getElem?_eq_getElem hjl]; rfl
            rw [e, prsF_snoc, Nat.zero_add, List.length_take, Nat.min_eq_left (by omega)]
          have hln : Hid ((v0 ++ prsF yf 0 (ye.take j)).length ≤ 90000) := by
            show _ ≤ _
            have e1 := HLEN.out
            rw [List.length_append, prsF_len, List.length_take]
            omega
          have hbw : base ≤ wr.heap.size := by rw [← hbase]; have q := Bj.size; rw [hbase] at q ⊢; exact q
          generalize ye[j] = ev at *
          have KX : wr.cell? ⟨eb, eo + j, none⟩ = some (.int .i64 ev) := by
            have q := HJ 0 (.int .i64 ev) rfl
            rw [Nat.mul_one, Nat.add_zero] at q
            exact q
          clear HJ het hin
          obtain ⟨vid, hvid⟩ : ∃ vid, IntKind.i64.wrap (yf + (j : Int)) = vid := ⟨_, rfl⟩
          rw [hvid] at hsn
          obtain ⟨acc, hacc⟩ : ∃ acc, v0 ++ prsF yf 0 (ye.take j) = acc := ⟨_, rfl⟩
          have hsn2 : Hid (v0 ++ prsF yf 0 (ye.take (j + 1)) = acc ++ [⟨vid, ev⟩]) := by
            show _ = _
            rw [hsn.out, ← List.append_assoc, hacc]
          rw [hacc] at HO hln
          clear hacc hsn HS HLEN HEV
          go_wp2_with (first
            | (refine sliceL_pr ⟨vid, ev⟩ rfl rfl rfl ?_; intro w6 HS6 b6 s6; have HO6 := HO.kept b6)
            | (refine appendL_pr ⟨vid, ev⟩ rfl rfl rfl rfl HO6 HS6 (by have := hln.out; omega) (Nat.le_trans hbw b6.size) ?_; intro v7 w7 HO7 b7 g7; have HA7 := blk_pr HO6 g7 (HA.below b6 HA.lt) (by decide)))
          refine ⟨⟨j + 1, by omega, by go_num, ?_, HA7, (Bj.trans (b6.mono hbw)).trans b7⟩, by simp [intOf]; omega⟩
          rw [hsn2.out]
          exact HO7
        · obtain rfl : j = ye.length := by omega
          have p2 : decide ((ye.length : Int) < (ye.length : Int)) = false := decide_eq_false (by omega)
          rw [List.take_length, ← HS.out] at HO
          clear c1
          go_wp2_with fail
          go_roundw
          case rel => exact ⟨k + 1, by omega, by go_num, HO, Bj⟩
          case measure => simp [intOf]; omega
    · obtain rfl : k = hs.length := by omega
      have q2 : decide ((hs.length : Int) < (hs.length : Int)) = false := decide_eq_false (by omega)
      rw [List.take_length] at HO
      go_wp2
      go_ret
      exact ⟨_, rfl, HO, Bk⟩

end Go.Proofs.YtikjpcnfldkifaaDoor

namespace Go.Proofs.YtikjpcnfldkifaaDoor
open Go.RowKit
attribute [local go_sem ↓] Go.wp_at_zero Go.wp_at_succ
set_option linter.unusedSimpArgs false
set_option linter.unusedVariables false
set_option maxRecDepth 100000

set_option maxHeartbeats 1600000 in
theorem lots_val (a : Option Addr) (c : Nat) (hs : List MvH) (w : World) (h : MvsIn w a hs) (hm : hs.length + (eachL (xs hs)).length ≤ 4611686018427387904) :
    Calls Tryd.prog 25 #[.slice a hs.length c] w fun e w' => e = .returned (.bool (decide (1500 < hs.length + (eachL (xs hs)).length))) ∧ Below w.heap.size w w' := by
  have k1 : hs.length ≤ 9223372036854775807 := by omega
  have HLE := Lib.hid (eachL_le hs)
  have HMX : Hid (hs.length + (eachL (xs hs)).length ≤ 4611686018427387904) := hm
  clear hm
  go_enter Tryd.func25, Tryd.ntmps25
  go_wp2_with fail
  go_loopw [3, 10] (fun v i wr => ∃ k : Nat, k ≤ hs.length ∧ i = .int .i64 k ∧ v = .int .i64 ((hs.length + (eachL (xs (hs.take k))).length : Nat) : Int) ∧ Below w.heap.size w wr) (fun _ i _ => hs.length - (intOf i).toNat)
  case atStart => exact ⟨0, by omega, rfl, by simp [xs, eachL], Below.refl _ _⟩
  case round =>
    obtain ⟨k, hk, rfl, rfl, Bk⟩ := hrel
    by_cases hlt : k < hs.length
    · have hI := h.below Bk
      obtain ⟨b, lo, rfl, hbl, hat⟩ := hI.row.at hlt
      have q1 : (k : Int) < (hs.length : Int) := by omega
      have q2 : decide ((k : Int) < (hs.length : Int)) = true := decide_eq_true q1
      have q3 : (0 : Int) ≤ (k : Int) := by omega
      have q4 : IntKind.i64.wrap ((k : Int) + 1) = (k : Int) + 1 := by rw [IntKind.wrap_i64] <;> omega
      have HK := hat k hlt
      have HS : Hid ((eachL (xs (hs.take (k + 1)))).length = (eachL (xs (hs.take k))).length + hs[k].x.ev.length) := by
        show _ = _
        rw [eachL_take hs k hlt, List.length_append, prsF_len]
      have HL2 := Lib.hid (HLE.out (k + 1))
      have hsw := Bk.size
      generalize hs[k] = y at *
      clear hat hI
      have HA4 := Blk.new wr 36 (mvC zMvH)
      have b4 : Below wr.heap.size wr (wr.alloc (.cells (mvC zMvH) 36)) := (Below.refl _ _).alloc (Nat.le_refl _) _
      go_upto_region 5 with (first
        | (refine load_cells (B := b) (k := lo + k * 3) 36 (mvC y) (by rfl) rfl rfl HK (by kernel_rfl) (by kernel_rfl) ?_)
        | (refine alloc_blk 36 (mvC zMvH) (by rfl) rfl Tryd.mhZero ?_)
        | (refine store_blk (k := 0) 36 (.agg (mvC y)) (mvC y) (by rfl) rfl rfl rfl HA4 (by kernel_rfl) (show (3 : Nat) ≤ 3 from Nat.le_refl 3) (by rfl) (st_whole _ _ rfl) ?_; intro w5 HA5 b5 g5))
      have B5 := Bk.trans ((b4.trans b5).mono hsw)
      clear HA4 b4 b5 g5 HK Bk
      generalize wr.heap.size = G1 at *
      have c2 := HA5.cv 2 (.slice y.a y.x.ev.length y.c) rfl
      obtain ⟨L, hL⟩ : ∃ L, y.x.ev.length = L := ⟨_, rfl⟩
      rw [hL] at c2 HS
      clear hL HA5
      obtain ⟨M, hM⟩ : ∃ M, hs.length + (eachL (xs (hs.take k))).length = M := ⟨_, rfl⟩
      have HM : Hid (hs.length + (eachL (xs (hs.take (k + 1)))).length = M + L) := by
        show _ = _
        rw [HS.out, ← hM]
        omega
      have q5 : IntKind.i64.wrap ((M : Int) + (L : Int)) = ((M + L : Nat) : Int) := by
        have e1 := HM.out
        have e2 := HL2.out
        have e3 := HMX.out
        rw [IntKind.wrap_i64] <;> omega
      rw [hM]
      clear hM
      go_wp2
      go_roundw
      case rel => exact ⟨k + 1, by omega, by go_num, by rw [HM.out]; first | rfl | exact congrArg _ q5, B5⟩
      case measure => simp [intOf]; omega
    · obtain rfl : k = hs.length := by omega
      have q2 : decide ((hs.length : Int) < (hs.length : Int)) = false := decide_eq_false (by omega)
      rw [List.take_length]
      obtain ⟨M, hM⟩ : ∃ M, hs.length + (eachL (xs hs)).length = M := ⟨_, rfl⟩
      rw [hM]
      have hd : decide ((1500 : Int) < (M : Int)) = decide (1500 < M) := by
        by_cases hq : 1500 < M
        · rw [decide_eq_true hq, decide_eq_true (by omega)]
        · rw [decide_eq_false hq, decide_eq_false (by omega)]
      go_wp2
      go_ret
      exact ⟨by rw [hM, ← hd]; rfl, Bk⟩


end Go.Proofs.YtikjpcnfldkifaaDoor

namespace Go.Proofs.YtikjpcnfldkifaaDoor
open Go.RowKit
attribute [local go_sem ↓] Go.wp_at_zero Go.wp_at_succ
set_option linter.unusedSimpArgs false
set_option linter.unusedVariables false
set_option maxRecDepth 100000

theorem CellsAt.drewC {w : World} {B o : Nat} {X : Array Value} (h : CellsAt w B o X) : CellsAt w.drew B o X := h

set_option maxHeartbeats 6400000 in
theorem eqPrs_any (a1 : Option Addr) (c1 : Nat) (a2 : Option Addr) (c2 : Nat) (l : List Pr) (w : World) (h1 : PrIn w a1 l) (h2 : PrIn w a2 l) (hlen : l.length ≤ 1000000) :
    Calls Tryd.prog 32 #[.slice a1 l.length c1, .slice a2 l.length c2] w fun e w' => e = .returned (.bool true) ∧ Below w.heap.size w w' := by
  go_enter Tryd.func32, Tryd.ntmps32
  go_wp2_with fail
  go_loopw [13] (fun i wr => ∃ k : Nat, k ≤ l.length ∧ i = .int .i64 k ∧ Below w.heap.size w wr) (fun i _ => l.length - (intOf i).toNat)
  case atStart => exact ⟨0, by omega, rfl, Below.refl _ _⟩
  case round =>
    obtain ⟨k, hk, rfl, hb⟩ := hrel
    by_cases hlt : k < l.length
    · obtain ⟨b1, o1, rfl, hb1, hat1⟩ := h1.at hlt
      obtain ⟨b2, o2, rfl, hb2, hat2⟩ := h2.at hlt
      have q1 : (k : Int) < (l.length : Int) := by omega
      have q2 : decide ((k : Int) < (l.length : Int)) = true := decide_eq_true q1
      have q3 : (0 : Int) ≤ (k : Int) := by omega
      have HK1 := (hat1 k hlt).below hb hb1
      have HK2 := (hat2 k hlt).below hb hb2
      have HEQ := fun W => pr_same l[k] W
      generalize l[k] = x at *
      go_upto_region 6 with (fail)
      refine wp_region_noPanic ?_
      refine wp_region_held_drew (S := (fun w' => CellsAt w' b1 (o1 + k * 2) (prC x) ∧ CellsAt w' b2 (o2 + k * 2) (prC x))) (by kernel_rfl) ?_ (fun hHeld => ?_)
      · exact ⟨HK1.drewC, HK2.drewC⟩
      refine wpAnyH_take (i := 0) (v := ?_) rfl (by kernel_rfl) (by kernel_rfl) (by kernel_rfl) (fun _ _ _ h => h) (Or.inl ⟨by rfl, ?_⟩) (by assumption) ?_
      rotate_left
      · (intro w hSw; (try dsimp only at hSw); go_simp; (try with_reducible rfl))
      (try simp only [Act.put, List.getElem_toArray, List.getElem_cons_zero, List.getElem_cons_succ, List.setIfInBounds_toArray, List.set_cons_zero, List.set_cons_succ])
      refine wpAnyH_take (i := 1) (v := ?_) rfl (by kernel_rfl) (by kernel_rfl) (by kernel_rfl) (fun _ _ _ h => h) (Or.inl ⟨by rfl, ?_⟩) (by assumption) ?_
      rotate_left
      · (intro w hSw; (try dsimp only at hSw); go_simp; (try with_reducible rfl))
      (try simp only [Act.put, List.getElem_toArray, List.getElem_cons_zero, List.getElem_cons_succ, List.setIfInBounds_toArray, List.set_cons_zero, List.set_cons_succ])
      refine wpAnyH_take (i := 2) (v := ?_) rfl (by kernel_rfl) (by kernel_rfl) (by kernel_rfl) (fun _ _ _ h => h) (Or.inl ⟨by rfl, ?_⟩) (by assumption) ?_
      rotate_left
      · (intro w hSw; (try dsimp only at hSw); go_simp; (try with_reducible rfl))
      (try simp only [Act.put, List.getElem_toArray, List.getElem_cons_zero, List.getElem_cons_succ, List.setIfInBounds_toArray, List.set_cons_zero, List.set_cons_succ])
      refine wpAnyH_take (i := 3) (v := .agg (prC x)) rfl (by kernel_rfl) (by kernel_rfl) (by kernel_rfl) (fun _ _ _ h => h) (Or.inl ⟨by rfl, fun w hSw => exec_load_cells 88 (prC x) rfl rfl hSw.1 (by kernel_rfl) (by kernel_rfl)⟩) (by assumption) ?_
      (try simp only [Act.put, List.getElem_toArray, List.getElem_cons_zero, List.getElem_cons_succ, List.setIfInBounds_toArray, List.set_cons_zero, List.set_cons_succ])
      refine wpAnyH_take (i := 4) (v := ?_) rfl (by kernel_rfl) (by kernel_rfl) (by kernel_rfl) (fun _ _ _ h => h) (Or.inl ⟨by rfl, ?_⟩) (by assumption) ?_
      rotate_left
      · (intro w hSw; (try dsimp only at hSw); go_simp; (try with_reducible rfl))
      (try simp only [Act.put, List.getElem_toArray, List.getElem_cons_zero, List.getElem_cons_succ, List.setIfInBounds_toArray, List.set_cons_zero, List.set_cons_succ])
      refine wpAnyH_take (i := 5) (v := ?_) rfl (by kernel_rfl) (by kernel_rfl) (by kernel_rfl) (fun _ _ _ h => h) (Or.inl ⟨by rfl, ?_⟩) (by assumption) ?_
      rotate_left
      · (intro w hSw; (try dsimp only at hSw); go_simp; (try with_reducible rfl))
      (try simp only [Act.put, List.getElem_toArray, List.getElem_cons_zero, List.getElem_cons_succ, List.setIfInBounds_toArray, List.set_cons_zero, List.set_cons_succ])
      refine wpAnyH_take (i := 6) (v := ?_) rfl (by kernel_rfl) (by kernel_rfl) (by kernel_rfl) (fun _ _ _ h => h) (Or.inl ⟨by rfl, ?_⟩) (by assumption) ?_
      rotate_left
      · (intro w hSw; (try dsimp only at hSw); go_simp; (try with_reducible rfl))
      (try simp only [Act.put, List.getElem_toArray, List.getElem_cons_zero, List.getElem_cons_succ, List.setIfInBounds_toArray, List.set_cons_zero, List.set_cons_succ])
      refine wpAnyH_take (i := 7) (v := .agg (prC x)) rfl (by kernel_rfl) (by kernel_rfl) (by kernel_rfl) (fun _ _ _ h => h) (Or.inl ⟨by rfl, fun w hSw => exec_load_cells 88 (prC x) rfl rfl hSw.2 (by kernel_rfl) (by kernel_rfl)⟩) (by assumption) ?_
      (try simp only [Act.put, List.getElem_toArray, List.getElem_cons_zero, List.getElem_cons_succ, List.setIfInBounds_toArray, List.set_cons_zero, List.set_cons_succ])
      refine wpAnyH_take (i := 8) (v := .bool false) rfl (by kernel_rfl) (by kernel_rfl) (by kernel_rfl) (fun _ _ _ h => h) (Or.inl ⟨by rfl, fun w hSw => exec_eq_agg .neq 88 (prC x) (prC x) true rfl (Or.inr rfl) rfl rfl (by kernel_rfl) (HEQ w)⟩) (by assumption) ?_
      (try simp only [Act.put, List.getElem_toArray, List.getElem_cons_zero, List.getElem_cons_succ, List.setIfInBounds_toArray, List.set_cons_zero, List.set_cons_succ])
      refine wpAnyH_done (by kernel_rfl) ?_ _
      refine NoPanic.normal ?_
      have hbd := hb.drew
      go_wp2
      go_roundw
      case rel => exact ⟨k + 1, by omega, by go_num, hbd⟩
      case measure => simp [intOf]; omega
    · obtain rfl : k = l.length := by omega
      have q2 : decide ((l.length : Int) < (l.length : Int)) = false := decide_eq_false (by omega)
      go_wp2
      go_ret
      exact ⟨rfl, hb⟩

end Go.Proofs.YtikjpcnfldkifaaDoor

namespace Go.Proofs.YtikjpcnfldkifaaDoor
open Go.RowKit
attribute [local go_sem ↓] Go.wp_at_zero Go.wp_at_succ
set_option linter.unusedSimpArgs false
set_option linter.unusedVariables false
set_option maxRecDepth 100000

/-- A row of one's own, made or not; it may be empty. -/
def RowPr (w : World) (base : Nat) (v : Value) (l : List Pr) : Prop := (∃ a c, v = .slice a l.length c) ∧ w.ownsRow base 88 2 v l.length (prR l)

theorem RowPr.inL {w : World} {base : Nat} {v : Value} {l : List Pr} (h : RowPr w base v l) : ∃ a c, v = .slice a l.length c ∧ PrIn w a l := by
  obtain ⟨⟨a, c, rfl⟩, h2⟩ := h
  refine ⟨a, c, rfl, ?_⟩
  rcases h2.2 with ⟨_, h3⟩ | ⟨g, cap, cur, e1, e2, e3, e4, e5, e6, e7⟩
  · exact Or.inl (List.eq_nil_of_length_eq_zero h3)
  · cases e1
    exact Or.inr ⟨g, 0, rfl, (Array.getElem?_eq_some_iff.1 e3).1, pr_own rfl h2⟩

theorem RowPr.kept {w w' : World} {base : Nat} {v : Value} {l : List Pr} (h : RowPr w base v l) (hb : Below w.heap.size w w') : RowPr w' base v l :=
  ⟨h.1, h.2.kept (show w.grownBy w' none from ⟨hb.os, hb.tape, hb.output, hb.size, fun k hk _ => hb.block k hk⟩) (by cases hv : v.ownBlock <;> simp)⟩

theorem OwnPr.row {w : World} {base : Nat} {v : Value} {l : List Pr} (h : OwnPr w base v l) : RowPr w base v l := by
  rcases h with ⟨rfl, rfl⟩ | ⟨h1, g, cap, rfl, h2⟩
  · exact ⟨⟨none, 0, rfl⟩, World.ownsRow_nil w base _ 2⟩
  · exact ⟨⟨_, _, rfl⟩, h2⟩

theorem RowPr.own {w : World} {base : Nat} {v : Value} {l : List Pr} (h : RowPr w base v l) (hv : l = [] → v = .slice none 0 0) : OwnPr w base v l := by
  by_cases hl : l = []
  · exact Or.inl ⟨hl, hv hl⟩
  · rcases h.2.2 with ⟨_, h3⟩ | ⟨g, cap, cur, e1, e2, e3, e4, e5, e6, e7⟩
    · exact absurd (List.eq_nil_of_length_eq_zero h3) hl
    · exact Or.inr ⟨hl, g, cap, e1, h.2⟩

set_option maxHeartbeats 1600000 in
/-- Many come behind. -/
theorem many_pr {o : Oper} {a : Act} {w : World} {K : Act → World → Prop} {Q : Exit → Act → World → Prop} {s x : Operand} {base : Nat} {v : Value} {l l2 : List Pr} {a2 : Option Addr} {c2 : Nat}
    (ho : o.op = .call { callee := .builtin .append, args := #[s, x], argTypes := #[84, 84] }) (hs : a.eval s = v) (hx : a.eval x = .slice a2 l2.length c2)
    (hO : RowPr w base v l) (hI : PrIn w a2 l2) (hlen : l.length + l2.length ≤ 100000) (hbase : base ≤ w.heap.size)
    (h : ∀ v' w', RowPr w' base v' (l ++ l2) → (l ++ l2 = [] → v' = v) → Below base w w' → w.grownBy w' v.ownBlock → K (a.put o.dst v') w') : Oper.wp Tryd.prog o a w K Q := by
  obtain ⟨i0, hi, hz0, hz1, hz2⟩ := info_parts Tryd.prParts
  by_cases hl2 : l2 = []
  · subst hl2
    obtain ⟨⟨a1, c1, rfl⟩, hown⟩ := hO
    have hr : (Builtin.append_ #[84, 84] o.type #[.slice a1 l.length c1, .slice a2 0 c2]).run Tryd.prog w = .ok (.slice a1 l.length c1) w := by
      have hsrc : Src Tryd.prog i0.size 84 (.slice a2 0 c2) 0 [] w := by
        cases a2 with
        | none => exact Src.ofNil w Tryd.underlying84 c2
        | some ad => exact Src.ofSlice w Tryd.underlying84 ad 0 c2 [] (by simp) (fun j u hj => by simp at hj) (fun u hu => by cases hu)
      rcases hown.2 with ⟨e1, h3⟩ | ⟨g, cap, cur, e1, e2, e3, e4, e5, e6, e7⟩
      · simp only [Value.slice.injEq] at e1
        obtain ⟨rfl, e2, rfl⟩ := e1
        have hcl := hsrc.cells
        rw [e2]
        simp [Builtin.append_, run_underlying Tryd.underlying84, sizeOf, typeInfo, hi, Builtin.lenOf]
        cases a2 <;> simp [Builtin.firstCells] at hcl ⊢
        simp [hcl]
      · simp only [Value.slice.injEq] at e1
        obtain ⟨rfl, _, rfl⟩ := e1
        have h5 := run_append_room_src (P := Tryd.prog) w 84 84 o.type 88 i0 Tryd.underlying84 hi g 0 l.length c1 (.slice a2 0 c2) 0 [] hsrc (by omega) (fun j hj => by simp at hj) (fun j hj => by simp at hj)
        simpa [World.setCells] using h5
    refine Lib.wp_append_run w s x _ _ ho _ _ hs hx _ _ hr (h _ _ ?_ (fun _ => rfl) (Below.refl _ _) (World.grownBy.refl _ _))
    rw [List.append_nil]
    exact ⟨⟨a1, c1, rfl⟩, hown⟩
  · rcases hI with hI | ⟨b, lo, rfl, hb, hat⟩
    · exact absurd hI hl2
    have hpos : 0 < l2.length := List.length_pos_iff.2 hl2
    have hown := hO.2
    refine wp_append_lies w s x _ ho base 88 i0 (.agg (prC zPr)) 2 16 Tryd.underlying84 hi hz0 hz1 hz2 rfl (by decide) v l.length (prR l) hs hown ⟨b, lo, none⟩ l2.length c2 (prR l2) hx (prR_len l2) (prAt_news hat) (prR_cells l2) hpos (by unfold maxLen; omega) (by omega) hbase _ rfl ?_
    intro g cap w' hown2 hgrow hatg hlt
    refine h _ _ ⟨⟨_, _, by rw [List.length_append]⟩, ?_⟩ (fun q => absurd (List.append_eq_nil_iff.1 q).2 hl2) ((Below.refl base w).grown hgrow hbase (fun q hq => ?_)) hgrow
    · rw [prR_append, List.length_append]
      exact hown2
    · rcases hown.2 with ⟨rfl, _⟩ | ⟨g1, cap1, cur1, rfl, e2, _⟩
      · simp [Value.ownBlock] at hq
      · simp [Value.ownBlock] at hq
        omega

theorem manyL_pr {ops : Array Oper} {rest : List Oper} {o : Oper} {a : Act} {w : World} {Q : Exit → Act → World → Prop} {s x : Operand} {base : Nat} {v : Value} {l l2 : List Pr} {a2 : Option Addr} {c2 : Nat} (hg : o.guard = none)
    (ho : o.op = .call { callee := .builtin .append, args := #[s, x], argTypes := #[84, 84] }) (hs : a.eval s = v) (hx : a.eval x = .slice a2 l2.length c2)
    (hO : RowPr w base v l) (hI : PrIn w a2 l2) (hlen : l.length + l2.length ≤ 100000) (hbase : base ≤ w.heap.size)
    (h : ∀ v' w', RowPr w' base v' (l ++ l2) → (l ++ l2 = [] → v' = v) → Below base w w' → w.grownBy w' v.ownBlock → wpList Tryd.prog ops Q rest (a.put o.dst v') w') : wpList Tryd.prog ops Q (o :: rest) a w :=
  wpList_plain hg fun _ hK => many_pr ho hs hx hO hI hlen hbase fun v' w' h1 h2 h3 h4 => hK _ _ (h v' w' h1 h2 h3 h4)

end Go.Proofs.YtikjpcnfldkifaaDoor

namespace Go.Proofs.YtikjpcnfldkifaaDoor
open Go.RowKit
attribute [local go_sem ↓] Go.wp_at_zero Go.wp_at_succ
set_option linter.unusedSimpArgs false
set_option linter.unusedVariables false
set_option maxRecDepth 100000

theorem grow_pr (n : Nat) (hn : n ≤ 90000) (w : World) : Calls Tryd.prog 74 #[.slice none 0 0, .int .i64 n] w fun e w' => ∃ v, e = .returned v ∧ RowPr w' w.heap.size v [] ∧ Below w.heap.size w w' := by
  obtain ⟨i0, hi, hz0, hz1, hz2⟩ := info_parts Tryd.prParts
  by_cases h0 : n = 0
  · subst h0
    go_enter Tryd.func74, Tryd.ntmps74
    go_wp2
    go_ret
    exact ⟨_, rfl, ⟨⟨none, 0, rfl⟩, World.ownsRow_nil w _ _ 2⟩, Below.refl _ _⟩
  · obtain ⟨Gc, hG⟩ : ∃ Gc, Gc = grownCap w n 0 88 := ⟨_, rfl⟩
    obtain ⟨ROW, hROW⟩ : ∃ ROW : Array Value, ROW = Builtin.zeroCells (Value.agg (prC zPr)).cells n ++ Builtin.zeroCells (Value.agg (prC zPr)).cells (Gc - n) := ⟨_, rfl⟩
    have hrz : ∀ ty, (Builtin.append_ #[84, 3] ty #[.slice none 0 0, .int .i64 (n : Int)]).run Tryd.prog w = .ok (.slice (some ⟨w.heap.size, 0, none⟩) n Gc) (w.drew.alloc (.cells ROW 88)) := fun ty => by
      have h := Lib.run_append_nil_zeros w 84 3 ty 88 i0 _ .i64 .i64 Tryd.underlying84 Tryd.underlying3 hi hz0 n (by omega) (by rw [hz1]; decide) (by omega) (by rw [hz2]; omega)
      rw [hROW, hG]
      exact h
    have hGn : n ≤ Gc := by rw [hG]; exact grownCap_ge w _ _ _
    have hGm : Gc ≤ maxLen := by rw [hG]; exact grownCap_le_maxLen w n 0 88 (by unfold maxLen; omega)
    have hRl : ROW.size = Gc * 2 := by
      rw [hROW, Array.size_append, size_zeroCells, size_zeroCells]
      show n * 2 + (Gc - n) * 2 = Gc * 2
      omega
    have HN := Blk.new w.drew 88 ROW
    have BN : Below w.heap.size w (w.drew.alloc (.cells ROW 88)) := (Below.refl w.heap.size w).drew.alloc (Nat.le_refl _) _
    have d1 : decide ((n : Int) < 0) = false := decide_eq_false (by omega)
    have d2 : decide ((0 : Int) < (n : Int)) = true := decide_eq_true (by omega)
    have d3 : (0 : Int) ≤ (n : Int) := by omega
    have d4 : ¬ (n : Int) < 0 := by omega
    have d5 : (0 : Int) < (n : Int) := by omega
    have d6 : (0 : Int) ≤ (Gc : Int) := by omega
    have d7 : 0 < n := by omega
    have hOwn : Hid (RowPr (w.drew.alloc (.cells ROW 88)) w.heap.size (.slice (some ⟨w.heap.size, 0, none⟩) 0 Gc) []) := ⟨⟨_, _, rfl⟩, by simp [prR], Or.inr ⟨w.heap.size, Gc, ROW, rfl, Nat.le_refl _, HN, Nat.zero_le _, hGm, hRl, by simp [prR]⟩⟩
    clear hG hROW h0 HN hRl
    go_enter Tryd.func74, Tryd.ntmps74
    go_wp2_with (at_builtin; refine Lib.wpList_append_run _ rfl _ _ _ _ rfl _ _ rfl rfl _ _ (hrz _) ?_)
    go_ret
    exact ⟨_, rfl, hOwn.out, BN⟩

set_option maxHeartbeats 3200000 in
theorem concat_pr (g : Nat) (a1 : Option Addr) (c1 : Nat) (l1 : List Pr) (a2 : Option Addr) (c2 : Nat) (l2 : List Pr) (w : World) (HG : Blk w g 84 #[.slice a1 l1.length c1, .slice a2 l2.length c2]) (h1 : PrIn w a1 l1) (h2 : PrIn w a2 l2) (hl1 : l1.length ≤ 40000) (hl2 : l2.length ≤ 40000) :
    Calls Tryd.prog 35 #[.slice (some ⟨g, 0, none⟩) 2 2] w fun e w' => ∃ a c, e = .returned (.slice a (l1 ++ l2).length c) ∧ PrIn w' a (l1 ++ l2) ∧ Below w.heap.size w w' := by
  have hgl := HG.lt
  have e1 : IntKind.i64.wrap (l1.length : Int) = (l1.length : Int) := by rw [IntKind.wrap_i64] <;> omega
  have e2 : IntKind.i64.wrap ((l1.length : Int) + (l2.length : Int)) = ((l1.length + l2.length : Nat) : Int) := by rw [IntKind.wrap_i64] <;> omega
  have s1 : decide ((l1.length : Int) < 0) = false := decide_eq_false (by omega)
  have s2 : decide (((l1.length + l2.length : Nat) : Int) < 0) = false := decide_eq_false (by omega)
  have s3 : ¬ (l1.length : Int) < 0 := by omega
  have s4 : ¬ ((l1.length + l2.length : Nat) : Int) < 0 := by omega
  have HGR := Lib.hid (grow_pr (l1.length + l2.length) (by omega))
  have hall : (l1 ++ l2).length = l1.length + l2.length := List.length_append
  obtain ⟨NN, hNN⟩ : ∃ NN, NN = l1.length + l2.length := ⟨_, rfl⟩
  rw [← hNN] at e2 s2 s4 HGR hall
  have HNN := Lib.hid hNN
  clear hNN
  go_enter Tryd.func35, Tryd.ntmps35
  go_wp2_with fail
  go_loopw [3, 11] (fun z i wr => ∃ k : Nat, k ≤ 2 ∧ i = .int .i64 k ∧ z = .int .i64 (if k = 0 then 0 else if k = 1 then (l1.length : Int) else (NN : Int)) ∧ wr = w) (fun _ i _ => 2 - (intOf i).toNat)
  case atStart => exact ⟨0, by omega, rfl, rfl, rfl⟩
  case round =>
    obtain ⟨k, hk, rfl, rfl, hw⟩ := hrel
    replace hw := hw.symm
    subst hw
    have cases3 : k = 0 ∨ k = 1 ∨ k = 2 := by omega
    rcases cases3 with rfl | rfl | rfl
    · have c0 := HG.cv 0 (.slice a1 l1.length c1) rfl
      simp only [if_true]
      go_wp2
      go_roundw
      case rel => exact ⟨1, by omega, by go_num, rfl, by first | rfl | trivial⟩
      case measure => simp [intOf]
    · have c1' := HG.cv 1 (.slice a2 l2.length c2) rfl
      have d10 : (1 : Nat) ≠ 0 := by decide
      simp only [if_true, if_neg d10]
      go_wp2
      go_roundw
      case rel => exact ⟨2, by omega, by go_num, rfl, by first | rfl | trivial⟩
      case measure => simp [intOf]
    · have d20 : ¬ (2 : Nat) = 0 := by decide
      have d21 : ¬ (2 : Nat) = 1 := by decide
      simp only [if_neg d20, if_neg d21]
      go_wp2_with fail
      refine (HGR.out _).mono ?_
      rintro e w2 ⟨v0, rfl, O0, B0⟩
      go_wp2_with fail
      go_loopw [6, 27] (fun v i wr => ∃ k : Nat, k ≤ 2 ∧ i = .int .i64 k ∧ RowPr wr w.heap.size v (if k = 0 then [] else if k = 1 then l1 else l1 ++ l2) ∧ Below w.heap.size w wr) (fun _ i _ => 2 - (intOf i).toNat)
      case atStart => exact ⟨0, by omega, rfl, O0, B0⟩
      case round =>
        obtain ⟨k, hk, rfl, Ok, Bk⟩ := hrel
        have cases3 : k = 0 ∨ k = 1 ∨ k = 2 := by omega
        have HGk := HG.kept Bk
        have I1 := h1.below Bk
        have I2 := h2.below Bk
        have hsw := Bk.size
        rcases cases3 with rfl | rfl | rfl
        · have c0 := HGk.cv 0 (.slice a1 l1.length c1) rfl
          rw [if_pos rfl] at Ok
          go_wp2_with (refine manyL_pr rfl rfl rfl rfl Ok I1 (by simp; omega) hsw ?_; intro v3 w3 O3 _ b3 g3)
          rw [List.nil_append] at O3
          go_roundw
          case rel => exact ⟨1, by omega, by go_num, O3, Bk.trans b3⟩
          case measure => simp [intOf]
        · have c1' := HGk.cv 1 (.slice a2 l2.length c2) rfl
          rw [if_neg (by decide), if_pos rfl] at Ok
          go_wp2_with (refine manyL_pr rfl rfl rfl rfl Ok I2 (by omega) hsw ?_; intro v3 w3 O3 _ b3 g3)
          go_roundw
          case rel => exact ⟨2, by omega, by go_num, O3, Bk.trans b3⟩
          case measure => simp [intOf]
        · rw [if_neg (by decide), if_neg (by decide)] at Ok
          obtain ⟨a3, c3, rfl, I3⟩ := Ok.inL
          go_wp2
          go_ret
          exact ⟨_, _, rfl, I3, Bk⟩

end Go.Proofs.YtikjpcnfldkifaaDoor

namespace Go.Proofs.YtikjpcnfldkifaaDoor
open Go.RowKit
attribute [local go_sem ↓] Go.wp_at_zero Go.wp_at_succ
set_option linter.unusedSimpArgs false
set_option linter.unusedVariables false
set_option maxRecDepth 100000

/-- A row of one's own, made or not; it may be empty. -/
def RowMh (w : World) (base : Nat) (v : Value) (l : List MvH) : Prop := (∃ a c, v = .slice a l.length c) ∧ w.ownsRow base 36 3 v l.length (mvR l)

theorem RowMh.inL {w : World} {base : Nat} {v : Value} {l : List MvH} (h : RowMh w base v l) : ∃ a c, v = .slice a l.length c ∧ MhIn w a l := by
  obtain ⟨⟨a, c, rfl⟩, h2⟩ := h
  refine ⟨a, c, rfl, ?_⟩
  rcases h2.2 with ⟨_, h3⟩ | ⟨g, cap, cur, e1, e2, e3, e4, e5, e6, e7⟩
  · exact Or.inl (List.eq_nil_of_length_eq_zero h3)
  · cases e1
    exact Or.inr ⟨g, 0, rfl, (Array.getElem?_eq_some_iff.1 e3).1, mh_own rfl h2⟩

theorem RowMh.kept {w w' : World} {base : Nat} {v : Value} {l : List MvH} (h : RowMh w base v l) (hb : Below w.heap.size w w') : RowMh w' base v l :=
  ⟨h.1, h.2.kept (show w.grownBy w' none from ⟨hb.os, hb.tape, hb.output, hb.size, fun k hk _ => hb.block k hk⟩) (by cases hv : v.ownBlock <;> simp)⟩

theorem OwnMh.row {w : World} {base : Nat} {v : Value} {l : List MvH} (h : OwnMh w base v l) : RowMh w base v l := by
  rcases h with ⟨rfl, rfl⟩ | ⟨h1, g, cap, rfl, h2⟩
  · exact ⟨⟨none, 0, rfl⟩, World.ownsRow_nil w base _ 3⟩
  · exact ⟨⟨_, _, rfl⟩, h2⟩

theorem RowMh.own {w : World} {base : Nat} {v : Value} {l : List MvH} (h : RowMh w base v l) (hv : l = [] → v = .slice none 0 0) : OwnMh w base v l := by
  by_cases hl : l = []
  · exact Or.inl ⟨hl, hv hl⟩
  · rcases h.2.2 with ⟨_, h3⟩ | ⟨g, cap, cur, e1, e2, e3, e4, e5, e6, e7⟩
    · exact absurd (List.eq_nil_of_length_eq_zero h3) hl
    · exact Or.inr ⟨hl, g, cap, e1, h.2⟩

set_option maxHeartbeats 1600000 in
/-- Many come behind. -/
theorem many_mh {o : Oper} {a : Act} {w : World} {K : Act → World → Prop} {Q : Exit → Act → World → Prop} {s x : Operand} {base : Nat} {v : Value} {l l2 : List MvH} {a2 : Option Addr} {c2 : Nat}
    (ho : o.op = .call { callee := .builtin .append, args := #[s, x], argTypes := #[22, 22] }) (hs : a.eval s = v) (hx : a.eval x = .slice a2 l2.length c2)
    (hO : RowMh w base v l) (hI : MhIn w a2 l2) (hlen : l.length + l2.length ≤ 100000) (hbase : base ≤ w.heap.size)
    (h : ∀ v' w', RowMh w' base v' (l ++ l2) → (l ++ l2 = [] → v' = v) → Below base w w' → w.grownBy w' v.ownBlock → K (a.put o.dst v') w') : Oper.wp Tryd.prog o a w K Q := by
  obtain ⟨i0, hi, hz0, hz1, hz2⟩ := info_parts Tryd.mhParts
  by_cases hl2 : l2 = []
  · subst hl2
    obtain ⟨⟨a1, c1, rfl⟩, hown⟩ := hO
    have hr : (Builtin.append_ #[22, 22] o.type #[.slice a1 l.length c1, .slice a2 0 c2]).run Tryd.prog w = .ok (.slice a1 l.length c1) w := by
      have hsrc : Src Tryd.prog i0.size 22 (.slice a2 0 c2) 0 [] w := by
        cases a2 with
        | none => exact Src.ofNil w Tryd.underlying22 c2
        | some ad => exact Src.ofSlice w Tryd.underlying22 ad 0 c2 [] (by simp) (fun j u hj => by simp at hj) (fun u hu => by cases hu)
      rcases hown.2 with ⟨e1, h3⟩ | ⟨g, cap, cur, e1, e2, e3, e4, e5, e6, e7⟩
      · simp only [Value.slice.injEq] at e1
        obtain ⟨rfl, e2, rfl⟩ := e1
        have hcl := hsrc.cells
        rw [e2]
        simp [Builtin.append_, run_underlying Tryd.underlying22, sizeOf, typeInfo, hi, Builtin.lenOf]
        cases a2 <;> simp [Builtin.firstCells] at hcl ⊢
        simp [hcl]
      · simp only [Value.slice.injEq] at e1
        obtain ⟨rfl, _, rfl⟩ := e1
        have h5 := run_append_room_src (P := Tryd.prog) w 22 22 o.type 36 i0 Tryd.underlying22 hi g 0 l.length c1 (.slice a2 0 c2) 0 [] hsrc (by omega) (fun j hj => by simp at hj) (fun j hj => by simp at hj)
        simpa [World.setCells] using h5
    refine Lib.wp_append_run w s x _ _ ho _ _ hs hx _ _ hr (h _ _ ?_ (fun _ => rfl) (Below.refl _ _) (World.grownBy.refl _ _))
    rw [List.append_nil]
    exact ⟨⟨a1, c1, rfl⟩, hown⟩
  · rcases hI with hI | ⟨b, lo, rfl, hb, hat⟩
    · exact absurd hI hl2
    have hpos : 0 < l2.length := List.length_pos_iff.2 hl2
    have hown := hO.2
    refine wp_append_lies w s x _ ho base 36 i0 (.agg (mvC zMvH)) 3 40 Tryd.underlying22 hi hz0 hz1 hz2 rfl (by decide) v l.length (mvR l) hs hown ⟨b, lo, none⟩ l2.length c2 (mvR l2) hx (mvR_len l2) (mhAt_news hat) (mvR_cells l2) hpos (by unfold maxLen; omega) (by omega) hbase _ rfl ?_
    intro g cap w' hown2 hgrow hatg hlt
    refine h _ _ ⟨⟨_, _, by rw [List.length_append]⟩, ?_⟩ (fun q => absurd (List.append_eq_nil_iff.1 q).2 hl2) ((Below.refl base w).grown hgrow hbase (fun q hq => ?_)) hgrow
    · rw [mvR_append, List.length_append]
      exact hown2
    · rcases hown.2 with ⟨rfl, _⟩ | ⟨g1, cap1, cur1, rfl, e2, _⟩
      · simp [Value.ownBlock] at hq
      · simp [Value.ownBlock] at hq
        omega

theorem manyL_mh {ops : Array Oper} {rest : List Oper} {o : Oper} {a : Act} {w : World} {Q : Exit → Act → World → Prop} {s x : Operand} {base : Nat} {v : Value} {l l2 : List MvH} {a2 : Option Addr} {c2 : Nat} (hg : o.guard = none)
    (ho : o.op = .call { callee := .builtin .append, args := #[s, x], argTypes := #[22, 22] }) (hs : a.eval s = v) (hx : a.eval x = .slice a2 l2.length c2)
    (hO : RowMh w base v l) (hI : MhIn w a2 l2) (hlen : l.length + l2.length ≤ 100000) (hbase : base ≤ w.heap.size)
    (h : ∀ v' w', RowMh w' base v' (l ++ l2) → (l ++ l2 = [] → v' = v) → Below base w w' → w.grownBy w' v.ownBlock → wpList Tryd.prog ops Q rest (a.put o.dst v') w') : wpList Tryd.prog ops Q (o :: rest) a w :=
  wpList_plain hg fun _ hK => many_mh ho hs hx hO hI hlen hbase fun v' w' h1 h2 h3 h4 => hK _ _ (h v' w' h1 h2 h3 h4)

end Go.Proofs.YtikjpcnfldkifaaDoor

namespace Go.Proofs.YtikjpcnfldkifaaDoor
open Go.RowKit
attribute [local go_sem ↓] Go.wp_at_zero Go.wp_at_succ
set_option linter.unusedSimpArgs false
set_option linter.unusedVariables false
set_option maxRecDepth 100000

theorem grow_mh (n : Nat) (hn : n ≤ 90000) (w : World) : Calls Tryd.prog 73 #[.slice none 0 0, .int .i64 n] w fun e w' => ∃ v, e = .returned v ∧ RowMh w' w.heap.size v [] ∧ Below w.heap.size w w' := by
  obtain ⟨i0, hi, hz0, hz1, hz2⟩ := info_parts Tryd.mhParts
  by_cases h0 : n = 0
  · subst h0
    go_enter Tryd.func73, Tryd.ntmps73
    go_wp2
    go_ret
    exact ⟨_, rfl, ⟨⟨none, 0, rfl⟩, World.ownsRow_nil w _ _ 3⟩, Below.refl _ _⟩
  · obtain ⟨Gc, hG⟩ : ∃ Gc, Gc = grownCap w n 0 36 := ⟨_, rfl⟩
    obtain ⟨ROW, hROW⟩ : ∃ ROW : Array Value, ROW = Builtin.zeroCells (Value.agg (mvC zMvH)).cells n ++ Builtin.zeroCells (Value.agg (mvC zMvH)).cells (Gc - n) := ⟨_, rfl⟩
    have hrz : ∀ ty, (Builtin.append_ #[22, 3] ty #[.slice none 0 0, .int .i64 (n : Int)]).run Tryd.prog w = .ok (.slice (some ⟨w.heap.size, 0, none⟩) n Gc) (w.drew.alloc (.cells ROW 36)) := fun ty => by
      have h := Lib.run_append_nil_zeros w 22 3 ty 36 i0 _ .i64 .i64 Tryd.underlying22 Tryd.underlying3 hi hz0 n (by omega) (by rw [hz1]; decide) (by omega) (by rw [hz2]; omega)
      rw [hROW, hG]
      exact h
    have hGn : n ≤ Gc := by rw [hG]; exact grownCap_ge w _ _ _
    have hGm : Gc ≤ maxLen := by rw [hG]; exact grownCap_le_maxLen w n 0 36 (by unfold maxLen; omega)
    have hRl : ROW.size = Gc * 3 := by
      rw [hROW, Array.size_append, size_zeroCells, size_zeroCells]
      show n * 3 + (Gc - n) * 3 = Gc * 3
      omega
    have HN := Blk.new w.drew 36 ROW
    have BN : Below w.heap.size w (w.drew.alloc (.cells ROW 36)) := (Below.refl w.heap.size w).drew.alloc (Nat.le_refl _) _
    have d1 : decide ((n : Int) < 0) = false := decide_eq_false (by omega)
    have d2 : decide ((0 : Int) < (n : Int)) = true := decide_eq_true (by omega)
    have d3 : (0 : Int) ≤ (n : Int) := by omega
    have d4 : ¬ (n : Int) < 0 := by omega
    have d5 : (0 : Int) < (n : Int) := by omega
    have d6 : (0 : Int) ≤ (Gc : Int) := by omega
    have d7 : 0 < n := by omega
    have hOwn : Hid (RowMh (w.drew.alloc (.cells ROW 36)) w.heap.size (.slice (some ⟨w.heap.size, 0, none⟩) 0 Gc) []) := ⟨⟨_, _, rfl⟩, by simp [mvR], Or.inr ⟨w.heap.size, Gc, ROW, rfl, Nat.le_refl _, HN, Nat.zero_le _, hGm, hRl, by simp [mvR]⟩⟩
    clear hG hROW h0 HN hRl
    go_enter Tryd.func73, Tryd.ntmps73
    go_wp2_with (at_builtin; refine Lib.wpList_append_run _ rfl _ _ _ _ rfl _ _ rfl rfl _ _ (hrz _) ?_)
    go_ret
    exact ⟨_, rfl, hOwn.out, BN⟩

set_option maxHeartbeats 3200000 in
theorem concat_mh (g : Nat) (a1 : Option Addr) (c1 : Nat) (l1 : List MvH) (a2 : Option Addr) (c2 : Nat) (l2 : List MvH) (w : World) (HG : Blk w g 22 #[.slice a1 l1.length c1, .slice a2 l2.length c2]) (h1 : MhIn w a1 l1) (h2 : MhIn w a2 l2) (hl1 : l1.length ≤ 40000) (hl2 : l2.length ≤ 40000) :
    Calls Tryd.prog 34 #[.slice (some ⟨g, 0, none⟩) 2 2] w fun e w' => ∃ a c, e = .returned (.slice a (l1 ++ l2).length c) ∧ MhIn w' a (l1 ++ l2) ∧ Below w.heap.size w w' := by
  have hgl := HG.lt
  have e1 : IntKind.i64.wrap (l1.length : Int) = (l1.length : Int) := by rw [IntKind.wrap_i64] <;> omega
  have e2 : IntKind.i64.wrap ((l1.length : Int) + (l2.length : Int)) = ((l1.length + l2.length : Nat) : Int) := by rw [IntKind.wrap_i64] <;> omega
  have s1 : decide ((l1.length : Int) < 0) = false := decide_eq_false (by omega)
  have s2 : decide (((l1.length + l2.length : Nat) : Int) < 0) = false := decide_eq_false (by omega)
  have s3 : ¬ (l1.length : Int) < 0 := by omega
  have s4 : ¬ ((l1.length + l2.length : Nat) : Int) < 0 := by omega
  have HGR := Lib.hid (grow_mh (l1.length + l2.length) (by omega))
  have hall : (l1 ++ l2).length = l1.length + l2.length := List.length_append
  obtain ⟨NN, hNN⟩ : ∃ NN, NN = l1.length + l2.length := ⟨_, rfl⟩
  rw [← hNN] at e2 s2 s4 HGR hall
  have HNN := Lib.hid hNN
  clear hNN
  go_enter Tryd.func34, Tryd.ntmps34
  go_wp2_with fail
  go_loopw [3, 11] (fun z i wr => ∃ k : Nat, k ≤ 2 ∧ i = .int .i64 k ∧ z = .int .i64 (if k = 0 then 0 else if k = 1 then (l1.length : Int) else (NN : Int)) ∧ wr = w) (fun _ i _ => 2 - (intOf i).toNat)
  case atStart => exact ⟨0, by omega, rfl, rfl, rfl⟩
  case round =>
    obtain ⟨k, hk, rfl, rfl, hw⟩ := hrel
    replace hw := hw.symm
    subst hw
    have cases3 : k = 0 ∨ k = 1 ∨ k = 2 := by omega
    rcases cases3 with rfl | rfl | rfl
    · have c0 := HG.cv 0 (.slice a1 l1.length c1) rfl
      simp only [if_true]
      go_wp2
      go_roundw
      case rel => exact ⟨1, by omega, by go_num, rfl, by first | rfl | trivial⟩
      case measure => simp [intOf]
    · have c1' := HG.cv 1 (.slice a2 l2.length c2) rfl
      have d10 : (1 : Nat) ≠ 0 := by decide
      simp only [if_true, if_neg d10]
      go_wp2
      go_roundw
      case rel => exact ⟨2, by omega, by go_num, rfl, by first | rfl | trivial⟩
      case measure => simp [intOf]
    · have d20 : ¬ (2 : Nat) = 0 := by decide
      have d21 : ¬ (2 : Nat) = 1 := by decide
      simp only [if_neg d20, if_neg d21]
      go_wp2_with fail
      refine (HGR.out _).mono ?_
      rintro e w2 ⟨v0, rfl, O0, B0⟩
      go_wp2_with fail
      go_loopw [6, 27] (fun v i wr => ∃ k : Nat, k ≤ 2 ∧ i = .int .i64 k ∧ RowMh wr w.heap.size v (if k = 0 then [] else if k = 1 then l1 else l1 ++ l2) ∧ Below w.heap.size w wr) (fun _ i _ => 2 - (intOf i).toNat)
      case atStart => exact ⟨0, by omega, rfl, O0, B0⟩
      case round =>
        obtain ⟨k, hk, rfl, Ok, Bk⟩ := hrel
        have cases3 : k = 0 ∨ k = 1 ∨ k = 2 := by omega
        have HGk := HG.kept Bk
        have I1 := h1.below Bk
        have I2 := h2.below Bk
        have hsw := Bk.size
        rcases cases3 with rfl | rfl | rfl
        · have c0 := HGk.cv 0 (.slice a1 l1.length c1) rfl
          rw [if_pos rfl] at Ok
          go_wp2_with (refine manyL_mh rfl rfl rfl rfl Ok I1 (by simp; omega) hsw ?_; intro v3 w3 O3 _ b3 g3)
          rw [List.nil_append] at O3
          go_roundw
          case rel => exact ⟨1, by omega, by go_num, O3, Bk.trans b3⟩
          case measure => simp [intOf]
        · have c1' := HGk.cv 1 (.slice a2 l2.length c2) rfl
          rw [if_neg (by decide), if_pos rfl] at Ok
          go_wp2_with (refine manyL_mh rfl rfl rfl rfl Ok I2 (by omega) hsw ?_; intro v3 w3 O3 _ b3 g3)
          go_roundw
          case rel => exact ⟨2, by omega, by go_num, O3, Bk.trans b3⟩
          case measure => simp [intOf]
        · rw [if_neg (by decide), if_neg (by decide)] at Ok
          obtain ⟨a3, c3, rfl, I3⟩ := Ok.inL
          go_wp2
          go_ret
          exact ⟨_, _, rfl, I3, Bk⟩

end Go.Proofs.YtikjpcnfldkifaaDoor

namespace Go.Proofs.YtikjpcnfldkifaaDoor.mvrpJoinsUpto
open Go.RowKit
attribute [local go_sem ↓] Go.wp_at_zero Go.wp_at_succ
set_option linter.unusedSimpArgs false
set_option linter.unusedVariables false
set_option maxRecDepth 100000

theorem pr_inL {w : World} {base : Nat} {v : Value} {l : List Pr} (h : OwnPr w base v l) : ∃ a c, v = .slice a l.length c ∧ PrIn w a l := h.inL

theorem xs_app (a b : List MvH) : xs (a ++ b) = xs a ++ xs b := by simp [xs]

set_option maxHeartbeats 6400000 in
theorem walk (a1 : Option Addr) (c1 : Nat) (h1 : List MvH) (a2 : Option Addr) (c2 : Nat) (h2 : List MvH) (w : World) (H1 : MvsIn w a1 h1) (H2 : MvsIn w a2 h2) (m1 : h1.length + (eachL (xs h1)).length ≤ 4611686018427387904) (m2 : h2.length + (eachL (xs h2)).length ≤ 4611686018427387904) :
    Calls Tryd.prog 10 #[.slice a1 h1.length c1, .slice a2 h2.length c2] w fun e w' => e = .returned (.bool true) ∧ Below w.heap.size w w' := by
  have HL1 := Lib.hid (fun (W : World) (M : MvsIn W a1 h1) => lots_val a1 c1 h1 W M m1)
  have HL2 := Lib.hid (fun (W : World) (M : MvsIn W a2 h2) => lots_val a2 c2 h2 W M m2)
  by_cases q1 : 1500 < h1.length + (eachL (xs h1)).length
  · rw [decide_eq_true q1] at HL1
    clear HL2 m1 m2 q1
    go_enter Tryd.func10, Tryd.ntmps10
    go_wp2_with (first
      | (go_at_call 24; refine (wanted_yes _).mono ?_; rintro e w2 ⟨rfl, B2⟩)
      | (go_at_call 25; refine (HL1.out _ (H1.below B2)).mono ?_; rintro e w3 ⟨rfl, b3⟩; have B3 := B2.trans (b3.mono B2.size)))
    go_ret
    exact ⟨rfl, B3⟩
  · rw [decide_eq_false q1] at HL1
    by_cases q2 : 1500 < h2.length + (eachL (xs h2)).length
    · rw [decide_eq_true q2] at HL2
      clear m1 m2 q1 q2
      go_enter Tryd.func10, Tryd.ntmps10
      go_wp2_with fail
      refine (wanted_yes _).mono ?_
      rintro e w2 ⟨rfl, B2⟩
      go_wp2_with fail
      refine (HL1.out _ (H1.below B2)).mono ?_
      rintro e w3 ⟨rfl, b3⟩
      have B3 := B2.trans (b3.mono B2.size)
      go_wp2_with fail
      refine (HL2.out _ (H2.below B3)).mono ?_
      rintro e w4 ⟨rfl, b4⟩
      have B4 := B3.trans (b4.mono B3.size)
      go_wp2
      go_ret
      exact ⟨rfl, B4⟩
    · rw [decide_eq_false q2] at HL2
      have n1 : Hid (h1.length ≤ 1500 ∧ (eachL (xs h1)).length ≤ 1500) := Lib.hid ⟨by omega, by omega⟩
      have n2 : Hid (h2.length ≤ 1500 ∧ (eachL (xs h2)).length ≤ 1500) := Lib.hid ⟨by omega, by omega⟩
      have hap : Hid (eachL (xs (h1 ++ h2)) = eachL (xs h1) ++ eachL (xs h2)) := by
        show _ = _
        rw [xs_app, eachL_append]
      have hlh : Hid ((h1 ++ h2).length = h1.length + h2.length) := List.length_append
      have hlp : Hid ((eachL (xs h1) ++ eachL (xs h2)).length = (eachL (xs h1)).length + (eachL (xs h2)).length) := List.length_append
      clear m1 m2 q1 q2
      generalize hh : h1 ++ h2 = h3 at *
      generalize hp1 : eachL (xs h1) = p1 at *
      generalize hp2 : eachL (xs h2) = p2 at *
      generalize hp3 : p1 ++ p2 = p3 at *
      go_enter Tryd.func10, Tryd.ntmps10
      go_wp2_with fail
      refine (wanted_yes _).mono ?_
      rintro e w2 ⟨rfl, B2⟩
      go_wp2_with fail
      refine (HL1.out _ (H1.below B2)).mono ?_
      rintro e w3 ⟨rfl, b3⟩
      have B3 := B2.trans (b3.mono B2.size)
      go_wp2_with fail
      refine (HL2.out _ (H2.below B3)).mono ?_
      rintro e w4 ⟨rfl, b4⟩
      have B4 := B3.trans (b4.mono B3.size)
      have HG5 := Blk.new w4 22 #[.slice a1 h1.length c1, .slice a2 h2.length c2]
      have B5 := B4.alloc B4.size (.cells #[.slice a1 h1.length c1, .slice a2 h2.length c2] 22)
      go_wp2_with fail
      refine (concat_mh _ a1 c1 h1 a2 c2 h2 _ HG5 (H1.below B5).row (H2.below B5).row (by have := n1.out; omega) (by have := n2.out; omega)).mono ?_
      rintro e w6 ⟨a6, c6, rfl, I6, b6⟩
      rw [hh] at I6 ⊢
      have B6 := B5.trans (b6.mono B5.size)
      have M6 : MvsIn w6 a6 h3 := ⟨I6, fun x hx => by
        rw [← hh] at hx
        rcases List.mem_append.1 hx with q | q
        · exact (H1.below B6).ev x q
        · exact (H2.below B6).ev x q⟩
      clear HG5 b6 B5 B4 b4 B3 b3 B2 I6
      go_wp2_with fail
      refine (mvEach_any a6 c6 h3 w6 M6 (by have e1 := hlh.out; have e2 := n1.out; have e3 := n2.out; unfold maxLen; omega) (by rw [hap.out, hlp.out]; have e2 := n1.out; have e3 := n2.out; omega)).mono ?_
      rintro e w7 ⟨v7, rfl, O7, b7⟩
      rw [hap.out] at O7
      have B7 := B6.trans (b7.mono B6.size)
      go_wp2_with fail
      refine (mvEach_any a1 c1 h1 w7 (H1.below B7) (by have e2 := n1.out; unfold maxLen; omega) (by rw [hp1]; have e2 := n1.out; omega)).mono ?_
      rintro e w8 ⟨v8, rfl, O8, b8⟩
      rw [hp1] at O8
      have B8 := B7.trans (b8.mono B7.size)
      go_wp2_with fail
      refine (mvEach_any a2 c2 h2 w8 (H2.below B8) (by have e2 := n2.out; unfold maxLen; omega) (by rw [hp2]; have e2 := n2.out; omega)).mono ?_
      rintro e w9 ⟨v9, rfl, O9, b9⟩
      rw [hp2] at O9
      have B9 := B8.trans (b9.mono B8.size)
      obtain ⟨a7, c7, rfl, P7⟩ := pr_inL O7
      obtain ⟨a8, c8, rfl, P8⟩ := pr_inL O8
      obtain ⟨a9, c9, rfl, P9⟩ := pr_inL O9
      have P7' := (P7.below b8).below b9
      have P8' := P8.below b9
      clear O7 O8 O9 M6 P7 P8 b7 b8 B7 B6
      have HG10 := Blk.new w9 84 #[.slice a8 p1.length c8, .slice a9 p2.length c9]
      have b10 : Below w9.heap.size w9 (w9.alloc (.cells #[.slice a8 p1.length c8, .slice a9 p2.length c9] 84)) := (Below.refl _ _).alloc (Nat.le_refl _) _
      have B10 := B9.trans (b10.mono B9.size)
      go_wp2_with fail
      refine (concat_pr _ a8 c8 p1 a9 c9 p2 _ HG10 (P8'.below b10) (P9.below b10) (by have := n1.out; omega) (by have := n2.out; omega)).mono ?_
      rintro e w11 ⟨a11, c11, rfl, P11, b11⟩
      rw [hp3] at P11 ⊢
      have B11 := B10.trans (b11.mono B10.size)
      go_wp2_with fail
      refine (eqPrs_any a7 c7 a11 c11 p3 w11 ((P7'.below b10).below b11) P11 (by rw [hlp.out]; have e2 := n1.out; have e3 := n2.out; omega)).mono ?_
      rintro e w12 ⟨rfl, b12⟩
      have B12 := B11.trans (b12.mono B11.size)
      go_wp2
      go_ret
      exact ⟨rfl, B12⟩

end Go.Proofs.YtikjpcnfldkifaaDoor.mvrpJoinsUpto

namespace Go.Proofs.YtikjpcnfldkifaaDoor
open Go.RowKit Go.Extern.Stop Go.Stop Go.Extern

/-! Closed facts on the entries for internal/reflectlite at this program's types. -/

theorem Tryd.rlValueOfPE (t : Addr) (w : World) : (ReflectliteValue.unpack (.iface 155 (.pointer (some t)))).run Tryd.prog w
    = .ok (.agg #[.pointer (some ⟨4, 155, none⟩), .pointer (some ⟨w.heap.size, 0, none⟩), .int .u64 150]) (w.alloc (.cells #[.pointer (some t)] 155)) := by kernel_rfl

theorem Tryd.rlTypePE (a : Addr) (w : World) : (ReflectliteValue.methodAny (ReflectliteValue.valueError "reflectlite.Value.Type" 0) (fun t _ _ _ => ReflectliteType.toType t) #[.agg #[.pointer (some ⟨4, 155, none⟩), .pointer (some a), .int .u64 150]]).run Tryd.prog w
    = .ok (.iface 216 (.agg #[.pointer (some ⟨4, 155, none⟩)])) w := by kernel_rfl

theorem Tryd.rlMethodKind (h : Value) (w : World) : (Go.method 368 216 (.agg #[h]) "Kind").run Tryd.prog w = .ok (137, h) w := by kernel_rfl

theorem Tryd.rlKindPE (w : World) : ((ReflectliteType.abiMethod fun t => (fun a : Nat => Value.int IntKind.u8 (a : Int)) <$> Rtype.kind t) #[.pointer (some ⟨4, 155, none⟩)]).run Tryd.prog w = .ok (.int .u8 22) w := by kernel_rfl

theorem Tryd.rlKindE (w : World) : ((ReflectliteType.abiMethod fun t => (fun a : Nat => Value.int IntKind.u8 (a : Int)) <$> Rtype.kind t) #[.pointer (some ⟨4, 24, none⟩)]).run Tryd.prog w = .ok (.int .u8 2) w := by kernel_rfl

theorem Tryd.rlPartsPE (a : Addr) (w : World) : (ReflectliteValue.parts (.agg #[.pointer (some ⟨4, 155, none⟩), .pointer (some a), .int .u64 150])).run Tryd.prog w = .ok (some (155, a, 150)) w := by kernel_rfl

theorem Tryd.rlIsNilPE (a p : Addr) (W : World) (ha : W.cell? a = some (.pointer (some p))) :
    (ReflectliteValue.method (ReflectliteValue.valueError "reflectlite.Value.IsNil" 0) ReflectliteValue.isNil #[.agg #[.pointer (some ⟨4, 155, none⟩), .pointer (some a), .int .u64 150]]).run Tryd.prog W = .ok (.bool false) W := by
  change Sem.run _ (ReflectliteValue.parts (.agg #[.pointer (some ⟨4, 155, none⟩), .pointer (some a), .int .u64 150]) >>= _) _ = _
  simp only [Sem.run_bind, Tryd.rlPartsPE, Result.andThen]
  simp [ReflectliteValue.isNil, loadVar, isAgg, underlying, Tryd.underlying155, ha, Result.andThen]

theorem Tryd.rlMethodElem (h : Value) (w : World) : (Go.method 368 216 (.agg #[h]) "Elem").run Tryd.prog w = .ok (150, .agg #[h]) w := by kernel_rfl

theorem Tryd.rlMethodImplements (h : Value) (w : World) : (Go.method 368 216 (.agg #[h]) "Implements").run Tryd.prog w = .ok (151, .agg #[h]) w := by kernel_rfl

theorem Tryd.rlMethodAssignableTo (h : Value) (w : World) : (Go.method 368 216 (.agg #[h]) "AssignableTo").run Tryd.prog w = .ok (148, .agg #[h]) w := by kernel_rfl

theorem Tryd.rlElemPE (w : World) : (ReflectliteType.method ReflectliteType.elem #[.agg #[.pointer (some ⟨4, 155, none⟩)]]).run Tryd.prog w = .ok (.iface 216 (.agg #[.pointer (some ⟨4, 24, none⟩)])) w := by kernel_rfl

theorem Tryd.rlImplementsE (w : World) : (ReflectliteType.relation "Implements" ReflectliteType.implements_ #[.agg #[.pointer (some ⟨4, 24, none⟩)], .iface 216 (.agg #[.pointer (some ⟨4, 30, none⟩)])]).run Tryd.prog w = .ok (.bool true) w := by kernel_rfl

theorem Tryd.rlTypeOfE (v : Value) (w : World) : (ReflectliteType.typeOf #[.iface 24 v]).run Tryd.prog w = .ok (.iface 216 (.agg #[.pointer (some ⟨4, 24, none⟩)])) w := by kernel_rfl

theorem Tryd.rlTypeOfA (v : Value) (w : World) : (ReflectliteType.typeOf #[.iface 110 v]).run Tryd.prog w = .ok (.iface 216 (.agg #[.pointer (some ⟨4, 110, none⟩)])) w := by kernel_rfl

theorem Tryd.rlAssignableEE (w : World) : (ReflectliteType.relation "AssignableTo" ReflectliteType.assignableTo #[.agg #[.pointer (some ⟨4, 24, none⟩)], .iface 216 (.agg #[.pointer (some ⟨4, 24, none⟩)])]).run Tryd.prog w = .ok (.bool true) w := by kernel_rfl

theorem Tryd.rlAssignableAE (w : World) : (ReflectliteType.relation "AssignableTo" ReflectliteType.assignableTo #[.agg #[.pointer (some ⟨4, 110, none⟩)], .iface 216 (.agg #[.pointer (some ⟨4, 24, none⟩)])]).run Tryd.prog w = .ok (.bool false) w := by kernel_rfl

theorem Tryd.rlValueOfE (x : Int) (w : World) : (ReflectliteValue.unpack (.iface 24 (.int .i64 x))).run Tryd.prog w
    = .ok (.agg #[.pointer (some ⟨4, 24, none⟩), .pointer (some ⟨w.heap.size, 0, none⟩), .int .u64 130]) (w.alloc (.cells #[.int .i64 x] 24)) := by kernel_rfl

theorem Tryd.rlElemOfPE (w : World) : (Rtype.elem? 155).run Tryd.prog w = .ok (some 24) w := by kernel_rfl

theorem Tryd.rlMkE (p : Addr) (w : World) : (ReflectliteValue.mk 24 p ReflectliteValue.flagAddr).run Tryd.prog w = .ok (.agg #[.pointer (some ⟨4, 24, none⟩), .pointer (some p), .int .u64 386]) w := by kernel_rfl

theorem Tryd.rlElemVPE (a p : Addr) (W : World) (ha : W.cell? a = some (.pointer (some p))) :
    (ReflectliteValue.method (ReflectliteValue.valueError "reflectlite.Value.Elem" 0) ReflectliteValue.elem #[.agg #[.pointer (some ⟨4, 155, none⟩), .pointer (some a), .int .u64 150]]).run Tryd.prog W
      = .ok (.agg #[.pointer (some ⟨4, 24, none⟩), .pointer (some p), .int .u64 386]) W := by
  change Sem.run _ (ReflectliteValue.parts (.agg #[.pointer (some ⟨4, 155, none⟩), .pointer (some a), .int .u64 150]) >>= _) _ = _
  simp only [Sem.run_bind, Tryd.rlPartsPE, Result.andThen]
  simp [ReflectliteValue.elem, loadVar, isAgg, underlying, Tryd.underlying155, ha, Result.andThen, Tryd.rlElemOfPE, Tryd.rlMkE]

theorem Tryd.rlPartsEa (a : Addr) (w : World) : (ReflectliteValue.parts (.agg #[.pointer (some ⟨4, 24, none⟩), .pointer (some a), .int .u64 386])).run Tryd.prog w = .ok (some (24, a, 386)) w := by kernel_rfl

theorem Tryd.rlPartsE (a : Addr) (w : World) : (ReflectliteValue.parts (.agg #[.pointer (some ⟨4, 24, none⟩), .pointer (some a), .int .u64 130])).run Tryd.prog w = .ok (some (24, a, 130)) w := by kernel_rfl

theorem Tryd.rlDirectE (w : World) : (Rtype.directlyAssignable 24 24).run Tryd.prog w = .ok true w := by kernel_rfl

theorem Tryd.rlSizeE (w : World) : (sizeOf 24).run Tryd.prog w = .ok 1 w := by kernel_rfl

theorem Tryd.rlSetE (ta b : Addr) (x : Int) (old : Value) (W : World) (hb : W.cell? b = some (.int .i64 x)) (ht : W.cell? ta = some old) (hf : W.frozen? ta = false) :
    (ReflectliteValue.set #[.agg #[.pointer (some ⟨4, 24, none⟩), .pointer (some ta), .int .u64 386], .agg #[.pointer (some ⟨4, 24, none⟩), .pointer (some b), .int .u64 130]]).run Tryd.prog W
      = .ok (.tuple #[]) (W.setCell ta (.int .i64 x)) := by
  change Sem.run _ (ReflectliteValue.parts (.agg #[.pointer (some ⟨4, 24, none⟩), .pointer (some ta), .int .u64 386]) >>= fun _ => ReflectliteValue.parts (.agg #[.pointer (some ⟨4, 24, none⟩), .pointer (some b), .int .u64 130]) >>= _) _ = _
  simp only [Sem.run_bind, Tryd.rlPartsEa, Tryd.rlPartsE, Result.andThen]
  simp [ReflectliteValue.flagAddr, loadVar, isAgg, underlying, Tryd.underlying24, hb, Result.andThen, Tryd.rlDirectE, storeVar, Value.cells, storeCells, Addr.add]
  rw [run_store Tryd.prog W ta _ _ (by rfl)]
  simp [ht, hf]

end Go.Proofs.YtikjpcnfldkifaaDoor

namespace Go.Proofs.YtikjpcnfldkifaaDoor
open Go.RowKit Go.Extern.Stop Go.Stop Go.Extern

/-- The variable errors.errorType holds the type error's handle. -/
def HasErr (w : World) : Prop := w.cell? ⟨0, 0, none⟩ = some (.iface 216 (.agg #[.pointer (some ⟨4, 30, none⟩)]))

theorem HasErr.lt {w : World} (h : HasErr w) : 0 < w.heap.size := by
  rcases Nat.lt_or_ge 0 w.heap.size with h' | h'
  · exact h'
  · have : w.cell? ⟨0, 0, none⟩ = none := by simp [World.cell?, Array.getElem?_eq_none h']
    unfold HasErr at h
    rw [this] at h
    cases h

theorem HasErr.alloc {w : World} (h : HasErr w) (o : Obj) : HasErr (w.alloc o) := (World.cell?_alloc_lt _ _ _ h.lt).trans h

theorem HasErr.below {w w' : World} (h : HasErr w) (hb : Below w.heap.size w w') : HasErr w' := (hb.cell (p := ⟨0, 0, none⟩) h.lt).trans h

theorem as_nil (t : Value) (w : World) :
    Calls Tryd.prog 68 #[.nilIface, t] w fun e w' => e = .returned (.bool false) ∧ w' = w := by
  go_enter Tryd.func68, Tryd.ntmps68
  go_wp2
  go_ret
  exact ⟨rfl, rfl⟩

set_option maxHeartbeats 4000000 in
/-- errors.As, the error is an Errno: it is found. -/
theorem as_errno (x : Int) (t : Addr) (old : Value) (w : World) (hg : HasErr w) (ht0 : w.cell? t = some old) (hf0 : w.frozen? t = false) :
    Calls Tryd.prog 68 #[.iface 24 (.int .i64 x), .iface 155 (.pointer (some t))] w fun ev w' => ev = .returned (.bool true) ∧ ∃ w1, Below w.heap.size w w1 ∧ w' = w1.setCell t (.int .i64 x) := by
  have hVO := @run_callFunc_extern Tryd.prog 92 _ (fun args => ReflectliteValue.unpack (args.getD 0 (.tuple #[]))) Tryd.func92 (by kernel_rfl) (by kernel_rfl) (by kernel_rfl) (by kernel_rfl)
  have hTy := @run_callFunc_extern Tryd.prog 93 _ (ReflectliteValue.methodAny (ReflectliteValue.valueError "reflectlite.Value.Type" 0) (fun t _ _ _ => ReflectliteType.toType t)) Tryd.func93 (by kernel_rfl) (by kernel_rfl) (by kernel_rfl) (by kernel_rfl)
  have hIN := @run_callFunc_extern Tryd.prog 94 _ (ReflectliteValue.method (ReflectliteValue.valueError "reflectlite.Value.IsNil" 0) ReflectliteValue.isNil) Tryd.func94 (by kernel_rfl) (by kernel_rfl) (by kernel_rfl) (by kernel_rfl)
  have hKi := @run_callFunc_extern Tryd.prog 137 _ (ReflectliteType.abiMethod fun t => do pure (.int .u8 (← Rtype.kind t))) Tryd.func137 (by kernel_rfl) (by kernel_rfl) (by kernel_rfl) (by kernel_rfl)
  have hEl := @run_callFunc_extern Tryd.prog 150 _ (ReflectliteType.method ReflectliteType.elem) Tryd.func150 (by kernel_rfl) (by kernel_rfl) (by kernel_rfl) (by kernel_rfl)
  have hIm := @run_callFunc_extern Tryd.prog 151 _ (ReflectliteType.relation "Implements" ReflectliteType.implements_) Tryd.func151 (by kernel_rfl) (by kernel_rfl) (by kernel_rfl) (by kernel_rfl)
  have hTO := @run_callFunc_extern Tryd.prog 106 _ ReflectliteType.typeOf Tryd.func106 (by kernel_rfl) (by kernel_rfl) (by kernel_rfl) (by kernel_rfl)
  have hAT := @run_callFunc_extern Tryd.prog 148 _ (ReflectliteType.relation "AssignableTo" ReflectliteType.assignableTo) Tryd.func148 (by kernel_rfl) (by kernel_rfl) (by kernel_rfl) (by kernel_rfl)
  have hEV := @run_callFunc_extern Tryd.prog 107 _ (ReflectliteValue.method (ReflectliteValue.valueError "reflectlite.Value.Elem" 0) ReflectliteValue.elem) Tryd.func107 (by kernel_rfl) (by kernel_rfl) (by kernel_rfl) (by kernel_rfl)
  have hSe := @run_callFunc_extern Tryd.prog 108 _ ReflectliteValue.set Tryd.func108 (by kernel_rfl) (by kernel_rfl) (by kernel_rfl) (by kernel_rfl)
  have q1 := Tryd.rlValueOfPE
  have q2 := Tryd.rlTypePE
  have q3 := Tryd.rlMethodKind
  have q4 := Tryd.rlKindPE
  have q5 := Tryd.rlKindE
  have q6 := Tryd.rlMethodElem
  have q7 := Tryd.rlMethodImplements
  have q8 := Tryd.rlMethodAssignableTo
  have q9 := Tryd.rlElemPE
  have q10 := Tryd.rlImplementsE
  have q11 := Tryd.rlTypeOfE
  have q12 := Tryd.rlAssignableEE
  have q13 := Tryd.rlValueOfE
  have n8 := Tryd.rlIsNilPE ⟨w.heap.size, 0, none⟩ t ((w.alloc (.cells #[.pointer (some t)] 155)).alloc (.cells #[.pointer (some ⟨4, 155, none⟩), .pointer (some ⟨w.heap.size, 0, none⟩), .int .u64 150] 194)) (by simp)
  have hg2 : ((w.alloc (.cells #[.pointer (some t)] 155)).alloc (.cells #[.pointer (some ⟨4, 155, none⟩), .pointer (some ⟨w.heap.size, 0, none⟩), .int .u64 150] 194)).cell? ⟨0, 0, none⟩ = some (.iface 216 (.agg #[.pointer (some ⟨4, 30, none⟩)])) := (hg.alloc _).alloc _
  have htl : t.block < w.heap.size := by
    rcases Nat.lt_or_ge t.block w.heap.size with h | h
    · exact h
    · simp [World.cell?, Array.getElem?_eq_none h] at ht0
  have el := Tryd.rlElemVPE ⟨w.heap.size, 0, none⟩ t (((w.alloc (.cells #[.pointer (some t)] 155)).alloc (.cells #[.pointer (some ⟨4, 155, none⟩), .pointer (some ⟨w.heap.size, 0, none⟩), .int .u64 150] 194)).alloc (.cells #[.pointer (some ⟨4, 155, none⟩), .pointer (some ⟨w.heap.size, 0, none⟩), .int .u64 150] 194)) (by rw [World.cell?_alloc_lt _ _ ⟨w.heap.size, 0, none⟩ (by simp; omega)]; simp)
  have st := Tryd.rlSetE t ⟨w.heap.size + 1 + 1 + 1, 0, none⟩ x old ((((w.alloc (.cells #[.pointer (some t)] 155)).alloc (.cells #[.pointer (some ⟨4, 155, none⟩), .pointer (some ⟨w.heap.size, 0, none⟩), .int .u64 150] 194)).alloc (.cells #[.pointer (some ⟨4, 155, none⟩), .pointer (some ⟨w.heap.size, 0, none⟩), .int .u64 150] 194)).alloc (.cells #[.int .i64 x] 24))
    (by rw [World.cell?_alloc_at _ _ _ _ (by simp)]; rfl)
    (by rw [World.cell?_alloc_lt _ _ t (by simp; omega), World.cell?_alloc_lt _ _ t (by simp; omega), World.cell?_alloc_lt _ _ t (by simp; omega), World.cell?_alloc_lt _ _ t htl]; exact ht0)
    (by rw [World.frozen?_alloc_old _ _ t (by simp; omega), World.frozen?_alloc_old _ _ t (by simp; omega), World.frozen?_alloc_old _ _ t (by simp; omega), World.frozen?_alloc_old _ _ t (Nat.ne_of_lt htl)]; exact hf0)
  have hB : Below w.heap.size w ((((w.alloc (.cells #[.pointer (some t)] 155)).alloc (.cells #[.pointer (some ⟨4, 155, none⟩), .pointer (some ⟨w.heap.size, 0, none⟩), .int .u64 150] 194)).alloc (.cells #[.pointer (some ⟨4, 155, none⟩), .pointer (some ⟨w.heap.size, 0, none⟩), .int .u64 150] 194)).alloc (.cells #[.int .i64 x] 24)) := ((((Below.refl _ _).alloc (Nat.le_refl _) _).alloc (by simp) _).alloc (by simp; omega) _).alloc (by simp; omega) _
  have HB := Lib.hid hB
  clear hB
  go_enter Tryd.func68, Tryd.ntmps68
  go_wp2
  refine wp_loop_rounds 1 ?_
  rw [rounds_succ]
  go_wp2
  go_ret
  exact ⟨rfl, _, HB.out, rfl⟩
/-! What is asked of an *api.At: it has no As, it has an Unwrap. -/

theorem Tryd.noAsA (v : Value) (xT : TypeId) (w : World) : (Instr.typeAssert (.iface 110 v) xT 221 true).run Tryd.prog w = .ok (.tuple #[.nilIface, .bool false]) w :=
  run_typeAssert_lacksB Tryd.underlying221 (by kernel_rfl) (by kernel_rfl) v xT w

theorem Tryd.hasUnwrapA (v : Value) (xT : TypeId) (w : World) : (Instr.typeAssert (.iface 110 v) xT 173 true).run Tryd.prog w = .ok (.tuple #[.iface 110 v, .bool true]) w :=
  run_typeAssert_hasB Tryd.underlying173 (by kernel_rfl) v xT w

theorem Tryd.methodUnwrapA (a : Addr) (w : World) : (Go.method 368 110 (.pointer (some a)) "Unwrap").run Tryd.prog w = .ok (143, .pointer (some a)) w := by kernel_rfl

theorem Tryd.nilAheadA (a : Addr) (w : World) : (Go.nilAhead 368 110 (.pointer (some a)) "Unwrap").run Tryd.prog w = .ok (some false) w := by kernel_rfl

set_option maxHeartbeats 4000000 in
/-- errors.As, the error is an *api.At: its Unwrap is asked, and is an Errno. -/
theorem as_at (p : Nat) (x y : Int) (t : Addr) (old : Value) (w : World) (hp : Flt w p x y) (hg : HasErr w) (ht0 : w.cell? t = some old) (hf0 : w.frozen? t = false) :
    Calls Tryd.prog 68 #[.iface 110 (.pointer (some ⟨p, 0, none⟩)), .iface 155 (.pointer (some t))] w fun ev w' => ev = .returned (.bool true) ∧ ∃ w1, Below w.heap.size w w1 ∧ w' = w1.setCell t (.int .i64 x) := by
  have hVO := @run_callFunc_extern Tryd.prog 92 _ (fun args => ReflectliteValue.unpack (args.getD 0 (.tuple #[]))) Tryd.func92 (by kernel_rfl) (by kernel_rfl) (by kernel_rfl) (by kernel_rfl)
  have hTy := @run_callFunc_extern Tryd.prog 93 _ (ReflectliteValue.methodAny (ReflectliteValue.valueError "reflectlite.Value.Type" 0) (fun t _ _ _ => ReflectliteType.toType t)) Tryd.func93 (by kernel_rfl) (by kernel_rfl) (by kernel_rfl) (by kernel_rfl)
  have hIN := @run_callFunc_extern Tryd.prog 94 _ (ReflectliteValue.method (ReflectliteValue.valueError "reflectlite.Value.IsNil" 0) ReflectliteValue.isNil) Tryd.func94 (by kernel_rfl) (by kernel_rfl) (by kernel_rfl) (by kernel_rfl)
  have hKi := @run_callFunc_extern Tryd.prog 137 _ (ReflectliteType.abiMethod fun t => do pure (.int .u8 (← Rtype.kind t))) Tryd.func137 (by kernel_rfl) (by kernel_rfl) (by kernel_rfl) (by kernel_rfl)
  have hEl := @run_callFunc_extern Tryd.prog 150 _ (ReflectliteType.method ReflectliteType.elem) Tryd.func150 (by kernel_rfl) (by kernel_rfl) (by kernel_rfl) (by kernel_rfl)
  have hIm := @run_callFunc_extern Tryd.prog 151 _ (ReflectliteType.relation "Implements" ReflectliteType.implements_) Tryd.func151 (by kernel_rfl) (by kernel_rfl) (by kernel_rfl) (by kernel_rfl)
  have hTO := @run_callFunc_extern Tryd.prog 106 _ ReflectliteType.typeOf Tryd.func106 (by kernel_rfl) (by kernel_rfl) (by kernel_rfl) (by kernel_rfl)
  have hAT := @run_callFunc_extern Tryd.prog 148 _ (ReflectliteType.relation "AssignableTo" ReflectliteType.assignableTo) Tryd.func148 (by kernel_rfl) (by kernel_rfl) (by kernel_rfl) (by kernel_rfl)
  have hEV := @run_callFunc_extern Tryd.prog 107 _ (ReflectliteValue.method (ReflectliteValue.valueError "reflectlite.Value.Elem" 0) ReflectliteValue.elem) Tryd.func107 (by kernel_rfl) (by kernel_rfl) (by kernel_rfl) (by kernel_rfl)
  have hSe := @run_callFunc_extern Tryd.prog 108 _ ReflectliteValue.set Tryd.func108 (by kernel_rfl) (by kernel_rfl) (by kernel_rfl) (by kernel_rfl)
  have q1 := Tryd.rlValueOfPE
  have q2 := Tryd.rlTypePE
  have q3 := Tryd.rlMethodKind
  have q4 := Tryd.rlKindPE
  have q5 := Tryd.rlKindE
  have q6 := Tryd.rlMethodElem
  have q7 := Tryd.rlMethodImplements
  have q8 := Tryd.rlMethodAssignableTo
  have q9 := Tryd.rlElemPE
  have q10 := Tryd.rlImplementsE
  have q11 := Tryd.rlTypeOfE
  have q12 := Tryd.rlAssignableEE
  have q13 := Tryd.rlValueOfE
  have q14 := Tryd.rlTypeOfA
  have q15 := Tryd.rlAssignableAE
  have q16 := Tryd.noAsA
  have q17 := Tryd.hasUnwrapA
  have q18 := Tryd.methodUnwrapA
  have q19 := Tryd.nilAheadA
  have n8 := Tryd.rlIsNilPE ⟨w.heap.size, 0, none⟩ t ((w.alloc (.cells #[.pointer (some t)] 155)).alloc (.cells #[.pointer (some ⟨4, 155, none⟩), .pointer (some ⟨w.heap.size, 0, none⟩), .int .u64 150] 194)) (by simp)
  have hg2 : ((w.alloc (.cells #[.pointer (some t)] 155)).alloc (.cells #[.pointer (some ⟨4, 155, none⟩), .pointer (some ⟨w.heap.size, 0, none⟩), .int .u64 150] 194)).cell? ⟨0, 0, none⟩ = some (.iface 216 (.agg #[.pointer (some ⟨4, 30, none⟩)])) := (hg.alloc _).alloc _
  have htl : t.block < w.heap.size := by
    rcases Nat.lt_or_ge t.block w.heap.size with h | h
    · exact h
    · simp [World.cell?, Array.getElem?_eq_none h] at ht0
  have el := Tryd.rlElemVPE ⟨w.heap.size, 0, none⟩ t (((w.alloc (.cells #[.pointer (some t)] 155)).alloc (.cells #[.pointer (some ⟨4, 155, none⟩), .pointer (some ⟨w.heap.size, 0, none⟩), .int .u64 150] 194)).alloc (.cells #[.pointer (some ⟨4, 155, none⟩), .pointer (some ⟨w.heap.size, 0, none⟩), .int .u64 150] 194)) (by rw [World.cell?_alloc_lt _ _ ⟨w.heap.size, 0, none⟩ (by simp; omega)]; simp)
  have st := Tryd.rlSetE t ⟨w.heap.size + 1 + 1 + 1, 0, none⟩ x old ((((w.alloc (.cells #[.pointer (some t)] 155)).alloc (.cells #[.pointer (some ⟨4, 155, none⟩), .pointer (some ⟨w.heap.size, 0, none⟩), .int .u64 150] 194)).alloc (.cells #[.pointer (some ⟨4, 155, none⟩), .pointer (some ⟨w.heap.size, 0, none⟩), .int .u64 150] 194)).alloc (.cells #[.int .i64 x] 24))
    (by rw [World.cell?_alloc_at _ _ _ _ (by simp)]; rfl)
    (by rw [World.cell?_alloc_lt _ _ t (by simp; omega), World.cell?_alloc_lt _ _ t (by simp; omega), World.cell?_alloc_lt _ _ t (by simp; omega), World.cell?_alloc_lt _ _ t htl]; exact ht0)
    (by rw [World.frozen?_alloc_old _ _ t (by simp; omega), World.frozen?_alloc_old _ _ t (by simp; omega), World.frozen?_alloc_old _ _ t (by simp; omega), World.frozen?_alloc_old _ _ t (Nat.ne_of_lt htl)]; exact hf0)
  have hB : Below w.heap.size w ((((w.alloc (.cells #[.pointer (some t)] 155)).alloc (.cells #[.pointer (some ⟨4, 155, none⟩), .pointer (some ⟨w.heap.size, 0, none⟩), .int .u64 150] 194)).alloc (.cells #[.pointer (some ⟨4, 155, none⟩), .pointer (some ⟨w.heap.size, 0, none⟩), .int .u64 150] 194)).alloc (.cells #[.int .i64 x] 24)) := ((((Below.refl _ _).alloc (Nat.le_refl _) _).alloc (by simp) _).alloc (by simp; omega) _).alloc (by simp; omega) _
  have hc0 : (((w.alloc (.cells #[.pointer (some t)] 155)).alloc (.cells #[.pointer (some ⟨4, 155, none⟩), .pointer (some ⟨w.heap.size, 0, none⟩), .int .u64 150] 194)).alloc (.cells #[.pointer (some ⟨4, 155, none⟩), .pointer (some ⟨w.heap.size, 0, none⟩), .int .u64 150] 194)).cell? ⟨p, 0, none⟩ = some (.int .i64 x) := (((hp.alloc _).alloc _).alloc _).c0
  have HB := Lib.hid hB
  clear hB
  go_enter Tryd.func68, Tryd.ntmps68
  go_wp2
  refine wp_loop_rounds 2 ?_
  rw [rounds_succ]
  go_wp2
  rw [rounds_succ]
  go_wp2
  go_ret
  exact ⟨rfl, _, HB.out, rfl⟩

end Go.Proofs.YtikjpcnfldkifaaDoor

namespace Go.Proofs.YtikjpcnfldkifaaDoor
open Go.RowKit Go.Extern.Stop Go.Stop Go.Extern

/-- What errors.As leaves: the target holds the Errno; nothing else that was there is changed. -/
theorem as_left {t : Addr} {x : Int} {old : Value} {w w1 : World} (hb : Below w.heap.size w w1) (ht : w.cell? t = some old) :
    (w1.setCell t (.int .i64 x)).cell? t = some (.int .i64 x) ∧ w.grownBy (w1.setCell t (.int .i64 x)) (some t.block) := by
  have hlt : t.block < w.heap.size := World.block_lt_of_cell? w t ht
  have hc : w1.cell? t = some old := (hb.cell hlt).trans ht
  refine ⟨World.cell?_setCell_same' w1 t _ (by rw [hc]; rfl), hb.os, hb.tape, hb.output, by simpa [World.setCell] using hb.size, fun k hk hne => ?_⟩
  exact (Below.heap_setCell _ _ _ _ (by intro e; exact hne (by rw [e]))).trans (hb.block k hk)

theorem tell_nil (w : World) : Calls Tryd.prog 27 #[.nilIface] w fun e w' => e = .returned (.int .i64 0) ∧ w = w' := by
  go_enter Tryd.func27, Tryd.ntmps27
  go_wp2
  go_ret
  exact ⟨rfl, rfl⟩

theorem tell_errno (x : Int) (w : World) (hg : HasErr w) : Calls Tryd.prog 27 #[.iface 24 (.int .i64 x)] w fun e w' => e = .returned (.int .i64 x) ∧ Below w.heap.size w w' := by
  go_enter Tryd.func27, Tryd.ntmps27
  go_wp2_with fail
  have hc : (w.alloc (.cells #[.int .i64 0] 24)).cell? ⟨w.heap.size, 0, none⟩ = some (.int .i64 0) := by simp
  refine (as_errno x ⟨w.heap.size, 0, none⟩ (.int .i64 0) _ (hg.alloc _) hc (by simp)).mono ?_
  rintro e w' ⟨rfl, w1, hb1, rfl⟩
  obtain ⟨h1, h2⟩ := as_left (x := x) hb1 hc
  have hB : Below w.heap.size w (w1.setCell ⟨w.heap.size, 0, none⟩ (.int .i64 x)) := ((Below.refl _ _).alloc (Nat.le_refl _) _).grown h2 (by simp) (fun k e => by cases e; exact Nat.le_refl _)
  clear hb1 h2 hc
  generalize w1.setCell ⟨w.heap.size, 0, none⟩ (.int .i64 x) = w2 at *
  go_wp2
  go_ret
  exact ⟨rfl, hB⟩

theorem tell_at (p : Nat) (x y : Int) (w : World) (hg : HasErr w) (hp : Flt w p x y) : Calls Tryd.prog 27 #[.iface 110 (.pointer (some ⟨p, 0, none⟩))] w fun e w' => e = .returned (.int .i64 x) ∧ Below w.heap.size w w' := by
  go_enter Tryd.func27, Tryd.ntmps27
  go_wp2_with fail
  have hc : (w.alloc (.cells #[.int .i64 0] 24)).cell? ⟨w.heap.size, 0, none⟩ = some (.int .i64 0) := by simp
  refine (as_at p x y ⟨w.heap.size, 0, none⟩ (.int .i64 0) _ (hp.alloc _) (hg.alloc _) hc (by simp)).mono ?_
  rintro e w' ⟨rfl, w1, hb1, rfl⟩
  obtain ⟨h1, h2⟩ := as_left (x := x) hb1 hc
  have hB : Below w.heap.size w (w1.setCell ⟨w.heap.size, 0, none⟩ (.int .i64 x)) := ((Below.refl _ _).alloc (Nat.le_refl _) _).grown h2 (by simp) (fun k e => by cases e; exact Nat.le_refl _)
  clear hb1 h2 hc
  generalize w1.setCell ⟨w.heap.size, 0, none⟩ (.int .i64 x) = w2 at *
  go_wp2
  go_ret
  exact ⟨rfl, hB⟩

theorem Tryd.noUnwrapE (v : Value) (xT : TypeId) (w : World) : (Instr.typeAssert (.iface 24 v) xT 173 true).run Tryd.prog w = .ok (.tuple #[.nilIface, .bool false]) w :=
  run_typeAssert_lacksB Tryd.underlying173 (by kernel_rfl) (by kernel_rfl) v xT w

theorem Tryd.noAtE (v : Value) (w : World) : (Instr.typeAssert (.iface 24 v) 30 110 true).run Tryd.prog w = .ok (.tuple #[.pointer none, .bool false]) w := by kernel_rfl

theorem Tryd.isAtA (v : Value) (w : World) : (Instr.typeAssert (.iface 110 v) 30 110 true).run Tryd.prog w = .ok (.tuple #[v, .bool true]) w := by kernel_rfl

theorem place_nil (w : World) : Calls Tryd.prog 42 #[.nilIface] w fun e w' => e = .returned (.tuple #[.int .i64 0, .int .i64 (-1)]) ∧ w = w' := by
  go_enter Tryd.func42, Tryd.ntmps42
  go_wp2_with fail
  refine (tell_nil _).mono ?_
  rintro e w' ⟨rfl, rfl⟩
  go_wp2
  refine wp_loop_rounds 1 ?_
  rw [rounds_succ]
  go_wp2
  go_ret2
  exact ⟨rfl, rfl⟩

set_option maxRecDepth 100000 in
theorem place_errno (x : Int) (w : World) (hg : HasErr w) : Calls Tryd.prog 42 #[.iface 24 (.int .i64 x)] w fun e w' => e = .returned (.tuple #[.int .i64 x, .int .i64 (-1)]) ∧ Below w.heap.size w w' := by
  have q := Tryd.noUnwrapE
  have q2 := Tryd.noAtE
  go_enter Tryd.func42, Tryd.ntmps42
  go_wp2_with fail
  refine (tell_errno x _ hg).mono ?_
  rintro e w' ⟨rfl, hB⟩
  go_wp2
  refine wp_loop_rounds 1 ?_
  rw [rounds_succ]
  go_wp2
  go_ret2
  exact ⟨rfl, hB⟩

set_option maxRecDepth 100000 in
theorem place_at (p : Nat) (x y : Int) (w : World) (hg : HasErr w) (hp : Flt w p x y) : Calls Tryd.prog 42 #[.iface 110 (.pointer (some ⟨p, 0, none⟩))] w fun e w' => e = .returned (.tuple #[.int .i64 x, .int .i64 y]) ∧ Below w.heap.size w w' := by
  have q2 := Tryd.isAtA
  go_enter Tryd.func42, Tryd.ntmps42
  go_wp2_with fail
  refine (tell_at p x y _ hg hp).mono ?_
  rintro e w' ⟨rfl, hB⟩
  have hc : w'.cell? ⟨p, 1, none⟩ = some (.int .i64 y) := (hB.cell (p := ⟨p, 1, none⟩) hp.lt).trans hp.c1
  go_wp2
  refine wp_loop_rounds 1 ?_
  rw [rounds_succ]
  go_wp2
  go_region
  all_goals go_wp2
  all_goals go_ret2
  all_goals exact ⟨rfl, hB.drew⟩

end Go.Proofs.YtikjpcnfldkifaaDoor

namespace Go.Proofs.YtikjpcnfldkifaaDoor
open Go.RowKit Go.WideShapes Go.ChangeShapes

/-- The specification is met: one result, which reads as told; the arguments and the named variables read as they did; old memory is as it was. -/
theorem met_below {P : Program} {H : Type} {enc : TypeId × Value → H} {f : Func} {s : ChangeSpec} {apart fresh handsOn again : Bool} {W W' : World} {args : Array Value} {v : Value} {ds gs : List (DataW H)} {places : List MemPlace}
    (whole : DataW.Whole enc P f.params.toList s.vars apart W args.toList ds gs places)
    (results : ∀ (b : Nat) (sp : Nat → Bool) (hd : Bool), DataW.TrodAll enc P W' b sp hd f.resultTypes.toList (v.resultList f.resultTypes.size) (s.fn H (ds ++ gs)).results [])
    (arguments : ∀ sp : Nat → Bool, (∀ p ∈ places, sp p.block = true) → DataW.TrodAll enc P W' 0 sp true f.params.toList args.toList (s.fn H (ds ++ gs)).args places)
    (variables : ∀ sp : Nat → Bool, DataW.TrodVars enc P W' sp s.vars (s.fn H (ds ++ gs)).vars [])
    (below : Below W.heap.size W W')
    (formed : ∀ (j : Nat) (t : TypeId) (r : Value), f.resultTypes[j]? = some t → (v.resultList f.resultTypes.size)[j]? = some r → Value.okWide P W' .any 0 t r) :
    s.post enc P f apart fresh handsOn again W args v W' := by
  have old : ∀ p ∈ places, p.block < W.heap.size := fun p hp => whole.lt p hp
  have oldB : ∀ p ∈ places, (fun b => decide (b < W.heap.size)) p.block = true := fun p hp => decide_eq_true (old p hp)
  obtain ⟨_, _, _, _, _, unfrozen, once⟩ := id whole
  refine ⟨ds, gs, places, [], places, [], whole, results _ _ _, arguments _ oldB, variables _, below.frame _, fun _ => ⟨formed, _, _, ([] ++ places) ++ [], ⟨[] ++ places, [], trodAll_append (arguments _ fun _ _ => rfl) (results _ _ _), variables _, rfl, fun b off hp => ?_, fun ha => by simpa using once ha⟩, fun p hp _ => by simpa using hp⟩⟩
  have hin : MemPlace.cell b off ∈ places := by simpa using hp
  exact (below.frozen (p := ⟨b, off, none⟩) (old _ hin)).trans (unfrozen b off hin)

end Go.Proofs.YtikjpcnfldkifaaDoor

namespace Go.Proofs.YtikjpcnfldkifaaDoor
open Go.ChangeShapes Go.WideShapes Go.ChangeAt Go.RowKit

theorem own : ownKnob Tryd.prog.godebug = none := by kernel_rfl

theorem Tryd.gErr : Tryd.prog.globalNamed "errors.errorType" = some 0 := by kernel_rfl

theorem Tryd.rtRow : (Tryd.prog.cutTypes.find? (·.1 == "internal/reflectlite.rtype")).map (·.2) = some 216 := by kernel_rfl

theorem Tryd.errRow : ((List.range 268).filter fun t => Tryd.prog.rowNamed t [101, 114, 114, 111, 114]) = [30] := by kernel_rfl

theorem Tryd.typesSize : Tryd.prog.types.size = 268 := by kernel_rfl

/-- A list that holds errors.errorType with the handle of the type error says what errors.As asks. -/
theorem hasErr_of_laid {W : World} {l : List (String × DataW Unit)} (h : laidMetH Tryd.prog l W) (hm : ("errors.errorType", Rows.laid_errors_errorType) ∈ l) : HasErr W := by
  obtain ⟨_, h2⟩ := laidMetH_iff.1 h
  obtain ⟨name, u, ty, e1, e2, e3, e4, e5⟩ := h2 _ (List.mem_filter.2 ⟨hm, by kernel_rfl⟩)
  have en : name = [101, 114, 114, 111, 114] := (Option.some.inj e1).symm
  subst en
  obtain rfl := Option.some.inj (Tryd.rtRow.symm.trans e2)
  have hin : ty ∈ (List.range 268).filter fun t => Tryd.prog.rowNamed t [101, 114, 114, 111, 114] := List.mem_filter.2 ⟨List.mem_range.2 (by rw [← Tryd.typesSize]; exact e3), e4⟩
  rw [Tryd.errRow] at hin
  obtain rfl := List.mem_singleton.1 hin
  have hh : typeHandle Tryd.prog 30 = .pointer (some ⟨4, 30, none⟩) := by kernel_rfl
  rw [hh] at e5
  have hc := World.var?_cell Tryd.gErr e5 0
  unfold HasErr
  simpa using hc

/-- The cells that a flat datum of integers lays. -/
def cellsOfDatum : DataW Unit → Array Value
  | .agg l => (l.map fun d => match d with | .lit (.int k n) => Value.int k n | _ => .int .u8 0).toArray
  | _ => #[]

/-- The door's own heap, and Go's own table beside it. -/
noncomputable def laidWorld (os : Os) : World :=
  let w0 := World.doorLaid Tryd.prog 400 os
  { w0 with heap := w0.heap.modify 1 fun | .cells _ t fr => .cells (cellsOfDatum Go.Pinned.utf8First) t fr | o => o }

end Go.Proofs.YtikjpcnfldkifaaDoor

namespace Go.Proofs.YtikjpcnfldkifaaDoor
open Go.ChangeShapes Go.WideShapes Go.ChangeAt Go.RowKit Go.Deep Go.Joins
set_option linter.unusedVariables false

theorem bk_row {H : Type} {D : Nat → DataW H} {f : Nat → Nat} : ∀ (n : Nat), (∀ i, i < n → f i + 1 ≤ Rows.uptoBulk (D i)) → ((List.range n).map f).sum + n ≤ Rows.uptoBulkAll ((List.range n).map D)
  | 0, _ => by simp
  | n + 1, h => by
    have h1 := bk_row n fun i hi => h i (by omega)
    have h2 := h n (by omega)
    have e : ∀ (a b : List (DataW H)), Rows.uptoBulkAll (a ++ b) = Rows.uptoBulkAll a + Rows.uptoBulkAll b := fun a b => by
      induction a with
      | nil => simp [Rows.uptoBulkAll]
      | cons x r ih => simp only [List.cons_append, Rows.uptoBulkAll, ih]; omega
    rw [List.range_succ, List.map_append, List.map_append, List.sum_append, e]
    simp only [List.map_cons, List.map_nil, List.sum_cons, List.sum_nil, Rows.uptoBulkAll]
    omega

theorem list1s {α : Type} (l : List α) (h : l.length = 1) : ∃ c0, l = [c0] := by
  match l, h with
  | [c0], _ => exact ⟨c0, rfl⟩

theorem list3s {α : Type} (l : List α) (h : l.length = 3) : ∃ c0 c1 c2, l = [c0, c1, c2] := by
  match l, h with
  | [c0, c1, c2], _ => exact ⟨c0, c1, c2, rfl⟩

theorem each_sum (l : List MvH) : (eachL (xs l)).length = (l.map fun x => x.x.ev.length).sum := by
  induction l with
  | nil => rfl
  | cons x l ih =>
    rw [List.map_cons, List.sum_cons, ← ih]
    show (eachL (x.x :: xs l)).length = _
    rw [show eachL (x.x :: xs l) = prsF x.x.first 0 x.x.ev ++ eachL (xs l) from rfl, List.length_append, prsF_len]

theorem iv_trod {H : Type} {enc : TypeId × Value → H} {W : World} {base fuel : Nat} {sp : Nat → Bool} {held : Bool} {c0 : Value} {y : DataW H × List MemPlace}
    (h : DataW.trod enc Tryd.prog W base sp held fuel 3 [c0] = some y) : ∃ x : Int, True ∧ [c0] = (ivC x).toList ∧ 0 + 1 ≤ Rows.uptoBulk y.1 := by
  obtain ⟨x0, e0, q0, wf0⟩ := DataW.trod_int Tryd.underlying3 h
  exact ⟨x0, trivial, e0, by rw [q0]; simp only [Rows.uptoBulk]; omega⟩

set_option maxRecDepth 100000 in
theorem ivb_cell {H : Type} {enc : TypeId × Value → H} {W : World} {fuel : Nat} {z0 : Value} {y : DataW H × List MemPlace}
    (hf : DataW.trod enc Tryd.prog W 0 (fun _ => true) true fuel 34 [z0] = some y) : ∃ (a : Option Addr) (c : Nat) (l : List Int), z0 = .slice a l.length c ∧ l.length ≤ c ∧ c ≤ maxLen ∧ IvIn W a l ∧ (∀ x ∈ l, True) ∧ (l.map fun x => 0).sum + l.length ≤ Rows.uptoBulk y.1 := by
  have hs : Tryd.prog.underlying 34 = some (.slice 3) := by kernel_rfl
  have hc3 : Tryd.prog.cellsOf 3 = 1 := by kernel_rfl
  rcases open_slice hs hf with ⟨hc, hx⟩ | ⟨b, n, c, m, k, D, Pl, hc, hb, hl, hm, hmm, hx, hall⟩
  · simp at hc
    subst hc
    exact ⟨none, 0, [], rfl, Nat.le_refl _, by decide, Or.inl rfl, by simp, by simp⟩
  · simp at hc
    subst hc
    have hlm : n ≤ m := by rw [hmm]; split <;> omega
    have each : ∀ i, i < n → ∃ t : Int, (True ∧ 0 + 1 ≤ Rows.uptoBulk (D i)) ∧ ∀ (j : Nat) (x : Value), (ivC t)[j]? = some x → W.cell? (b.add (i * 1 + j)) = some x := by
      intro i hi
      obtain ⟨cs', h1, h2⟩ := hall i (by omega)
      rw [hc3] at h1
      obtain ⟨_, hlen, hcell⟩ := World.cells?_some h1
      obtain ⟨c0, rfl⟩ := list1s cs' hlen
      obtain ⟨t, ht, he, hbk⟩ := iv_trod h2
      refine ⟨t, ⟨ht, hbk⟩, fun j x hj => ?_⟩
      have hj2 : j < 1 := (Array.getElem?_eq_some_iff.1 hj).1
      have g := hcell j (by omega)
      rw [add_add] at g
      rw [g]
      have e2 : ([c0] : List Value)[j]? = some x := by rw [he]; simpa using hj
      exact e2
    obtain ⟨z, hz⟩ := choose_lt each
    obtain ⟨bb, bo, bs⟩ := b
    rcases Nat.eq_zero_or_pos n with rfl | q0
    · exact ⟨some ⟨bb, bo, bs⟩, c, [], rfl, hl, hm, Or.inl rfl, by simp, by simp⟩
    have h0 := (hz 0 q0).2 0 _ rfl
    have hspot : bs = none := by simpa [Addr.add] using World.cell?_spot h0
    subst hspot
    refine ⟨some ⟨bb, bo, none⟩, c, (List.range n).map z, by simp, by simpa using hl, hm, Or.inr ⟨bb, bo, rfl, ?_, fun j hj k x hx => ?_⟩, ?_, ?_⟩
    · have := World.block_lt_of_cell? W _ h0
      simpa [Addr.add] using this
    · have hj' : j < n := by simpa using hj
      simp only [List.getElem_map, List.getElem_range] at hx
      have e0 := (hz j hj').2 k x hx
      rw [add_plain] at e0
      rw [Nat.add_assoc]
      exact e0
    · intro v hv
      obtain ⟨j, hj, rfl⟩ := List.mem_map.1 hv
      exact (hz j (List.mem_range.1 hj)).1.1
    · have hrow := bk_row n fun i hi => (hz i hi).1.2
      rw [hx]
      rw [List.map_map, List.length_map, List.length_range]
      simp only [Rows.uptoBulk]
      have e : ((List.range n).map ((fun x => 0) ∘ z)).sum = ((List.range n).map fun i => 0).sum := rfl
      omega



set_option maxRecDepth 100000 in
theorem mv_trod {H : Type} {enc : TypeId × Value → H} {W : World} {fuel : Nat} {c0 c1 c2 : Value} {y : DataW H × List MemPlace}
    (h : DataW.trod enc Tryd.prog W 0 (fun _ => true) true fuel 36 [c0, c1, c2] = some y) : ∃ x : MvH, (IvIn W x.a x.x.ev ∧ x.x.ev.length ≤ x.c ∧ x.c ≤ maxLen) ∧ [c0, c1, c2] = (mvC x).toList ∧ x.x.ev.length + 1 ≤ Rows.uptoBulk y.1 := by
  have _h1 : Tryd.prog.cellsOf 4 = 1 := by kernel_rfl
  have _h2 : Tryd.prog.cellsOf 3 = 1 := by kernel_rfl
  have _h3 : Tryd.prog.cellsOf 34 = 1 := by kernel_rfl
  obtain ⟨xs, n, _, hx, _, hlen, hg⟩ := DataW.trod_struct Tryd.underlying36 h
  obtain ⟨y0, y1, y2, rfl⟩ := list3s xs hlen
  have g0 := hg 0 _ rfl
  have g1 := hg 1 _ rfl
  have g2 := hg 2 _ rfl
  obtain ⟨x0, e0, _⟩ := DataW.trod_bool Tryd.underlying4 g0
  obtain rfl : c0 = .bool x0 := (List.cons.inj (show [c0] = [.bool x0] from e0)).1
  obtain ⟨x1, e1, _, wf1⟩ := DataW.trod_int Tryd.underlying3 g1
  obtain rfl : c1 = .int .i64 x1 := (List.cons.inj (show [c1] = [.int .i64 x1] from e1)).1
  obtain ⟨a, c, l, rfl, hl, hm, hin, _, hbk⟩ := ivb_cell (z0 := c2) g2
  have hy : Rows.uptoBulk y.1 = Rows.uptoBulkAll [y0.1, y1.1, y2.1] + 1 := by
    rw [hx]
    simp only [List.map_cons, List.map_nil, Rows.uptoBulk]
  simp only [Rows.uptoBulkAll] at hy
  exact ⟨⟨⟨x0, x1, l⟩, a, c⟩, ⟨hin, hl, hm⟩, rfl, by show l.length + 1 ≤ _; omega⟩

set_option maxRecDepth 100000 in
theorem mvb_cell {H : Type} {enc : TypeId × Value → H} {W : World} {fuel : Nat} {z0 : Value} {y : DataW H × List MemPlace}
    (hf : DataW.trod enc Tryd.prog W 0 (fun _ => true) true fuel 22 [z0] = some y) : ∃ (a : Option Addr) (c : Nat) (l : List MvH), z0 = .slice a l.length c ∧ l.length ≤ c ∧ c ≤ maxLen ∧ MhIn W a l ∧ (∀ x ∈ l, (IvIn W x.a x.x.ev ∧ x.x.ev.length ≤ x.c ∧ x.c ≤ maxLen)) ∧ (l.map fun x => x.x.ev.length).sum + l.length ≤ Rows.uptoBulk y.1 := by
  have hs : Tryd.prog.underlying 22 = some (.slice 36) := by kernel_rfl
  have hc3 : Tryd.prog.cellsOf 36 = 3 := by kernel_rfl
  rcases open_slice hs hf with ⟨hc, hx⟩ | ⟨b, n, c, m, k, D, Pl, hc, hb, hl, hm, hmm, hx, hall⟩
  · simp at hc
    subst hc
    exact ⟨none, 0, [], rfl, Nat.le_refl _, by decide, Or.inl rfl, by simp, by simp⟩
  · simp at hc
    subst hc
    have hlm : n ≤ m := by rw [hmm]; split <;> omega
    have each : ∀ i, i < n → ∃ t : MvH, ((IvIn W t.a t.x.ev ∧ t.x.ev.length ≤ t.c ∧ t.c ≤ maxLen) ∧ t.x.ev.length + 1 ≤ Rows.uptoBulk (D i)) ∧ ∀ (j : Nat) (x : Value), (mvC t)[j]? = some x → W.cell? (b.add (i * 3 + j)) = some x := by
      intro i hi
      obtain ⟨cs', h1, h2⟩ := hall i (by omega)
      rw [hc3] at h1
      obtain ⟨_, hlen, hcell⟩ := World.cells?_some h1
      obtain ⟨c0, c1, c2, rfl⟩ := list3s cs' hlen
      obtain ⟨t, ht, he, hbk⟩ := mv_trod h2
      refine ⟨t, ⟨ht, hbk⟩, fun j x hj => ?_⟩
      have hj2 : j < 3 := (Array.getElem?_eq_some_iff.1 hj).1
      have g := hcell j (by omega)
      rw [add_add] at g
      rw [g]
      have e2 : ([c0, c1, c2] : List Value)[j]? = some x := by rw [he]; simpa using hj
      exact e2
    obtain ⟨z, hz⟩ := choose_lt each
    obtain ⟨bb, bo, bs⟩ := b
    rcases Nat.eq_zero_or_pos n with rfl | q0
    · exact ⟨some ⟨bb, bo, bs⟩, c, [], rfl, hl, hm, Or.inl rfl, by simp, by simp⟩
    have h0 := (hz 0 q0).2 0 _ rfl
    have hspot : bs = none := by simpa [Addr.add] using World.cell?_spot h0
    subst hspot
    refine ⟨some ⟨bb, bo, none⟩, c, (List.range n).map z, by simp, by simpa using hl, hm, Or.inr ⟨bb, bo, rfl, ?_, fun j hj k x hx => ?_⟩, ?_, ?_⟩
    · have := World.block_lt_of_cell? W _ h0
      simpa [Addr.add] using this
    · have hj' : j < n := by simpa using hj
      simp only [List.getElem_map, List.getElem_range] at hx
      have e0 := (hz j hj').2 k x hx
      rw [add_plain] at e0
      rw [Nat.add_assoc]
      exact e0
    · intro v hv
      obtain ⟨j, hj, rfl⟩ := List.mem_map.1 hv
      exact (hz j (List.mem_range.1 hj)).1.1
    · have hrow := bk_row n fun i hi => (hz i hi).1.2
      rw [hx]
      rw [List.map_map, List.length_map, List.length_range]
      simp only [Rows.uptoBulk]
      have e : ((List.range n).map ((fun x => x.x.ev.length) ∘ z)).sum = ((List.range n).map fun i => (z i).x.ev.length).sum := rfl
      omega



set_option maxRecDepth 100000 in
theorem open_mvb {H : Type} {enc : TypeId × Value → H} {W : World} {base : Nat} {v : Value} {d : DataW H} {p : List MemPlace} (hval : Value.okWide Tryd.prog W .any base 22 v)
    (h : DataW.Trod enc Tryd.prog W 0 (fun _ => true) true 22 v d p) : ∃ (a : Option Addr) (c : Nat) (l : List MvH), v = .slice a l.length c ∧ l.length ≤ c ∧ c ≤ maxLen ∧ MvsIn W a l ∧ l.length + (eachL (xs l)).length ≤ Rows.uptoBulk d := by
  have hs : Tryd.prog.underlying 22 = some (.slice 36) := by kernel_rfl
  obtain ⟨a, n, c, rfl⟩ := okWide_slice hs hval
  obtain ⟨fuel, hf⟩ := h
  obtain ⟨a', c', l, e, h1, h2, h3, h4, h5⟩ := mvb_cell (show DataW.trod enc Tryd.prog W 0 (fun _ => true) true fuel 22 [.slice a n c] = some _ by simpa [Value.cells] using hf)
  exact ⟨a', c', l, e, h1, h2, ⟨h3, h4⟩, by rw [each_sum]; dsimp only at h5; omega⟩

end Go.Proofs.YtikjpcnfldkifaaDoor

namespace Go.Proofs.YtikjpcnfldkifaaDoor.mvrpJoinsUpto
open Go.ChangeShapes Go.WideShapes Go.ChangeAt Go.RowKit
set_option linter.unusedVariables false

theorem laidOut_ : laidOutB Tryd.prog = true := by kernel_rfl

theorem laid_met (os : Os) : laidMetH Tryd.prog Rows.mvrpJoinsUptoRow.laid ((laidWorld os).forCall (fun _ _ => 0) ⟨#[], #[.slice none 0 0, .slice none 0 0], []⟩).memory :=
  laidMetH_of_parts3 (fuel := 8) (laidMet_of_run' 8 (by kernel_rfl) (by kernel_rfl)) (by kernel_rfl) (by kernel_rfl)

theorem reads (os : Os) {H : Type} (enc : TypeId × Value → H) : ∃ places, DataW.whole enc Tryd.prog ((laidWorld os).forCall (fun _ _ => 0) ⟨#[], #[.slice none 0 0, .slice none 0 0], []⟩).memory Tryd.f10.params.toList Rows.mvrpJoinsSpec.vars false #[Value.slice none 0 0, Value.slice none 0 0].toList 8 = some ([.nil, .nil], [], places) :=
  ⟨[], by kernel_rfl⟩

set_option maxRecDepth 100000 in
theorem lifted (os : Os) (started : os.Started) (H : Type) (enc : TypeId × Value → H) (F : Stop.Interp) :
    ReturnsInHanded {} Tryd.checked os 10 .any ((Rows.OpenSpec.upto Rows.mvrpJoinsSpec).preRow enc Tryd.prog Tryd.f10 Rows.mvrpJoinsUptoRow.domain false Rows.mvrpJoinsUptoRow.laid) (((Rows.OpenSpec.upto Rows.mvrpJoinsSpec).at F).post enc Tryd.prog Tryd.f10 false true false false) := by
  obtain ⟨places, hx⟩ := reads os enc
  refine returnsInHanded_of_row (C := Tryd.checked) (s := Rows.OpenSpec.upto Rows.mvrpJoinsSpec) own started (by kernel_rfl) Tryd.func10
    (witness_row_at (enc := enc) (C := Tryd.checked) false (laidWorld os) #[.slice none 0 0, .slice none 0 0] rfl (by kernel_rfl) (by kernel_rfl) (by kernel_rfl)
      (OpenSpec.preRow_of_cond 8 hx (by kernel_rfl) (fun k hk => by cases hk; kernel_rfl) (by kernel_rfl) (laid_met os))) ?_
  intro W base args ds gs before hval0 hW _ hcond hSz hL hsh _
  have hval : ∀ (j : Nat) t v, Tryd.f10.params[j]? = some t → args[j]? = some v → Value.okWide Tryd.prog W .any base t v := hval0
  have hW' := hW
  obtain ⟨p, q, hA0, hV, rfl, hfz, hnd⟩ := hW
  have hA : DataW.TrodAll enc Tryd.prog W 0 (fun _ => true) true Tryd.f10.params.toList args.toList ds p := hA0
  rw [Tryd.params10] at hA hval
  obtain ⟨v0, vs0, d0, ds0, p0, q0, hargs, rfl, rfl, h0, r0⟩ := trodAll_cons hA
  obtain ⟨v1, vs1, d1, ds1, p1, q1, rfl, rfl, rfl, h1, r1⟩ := trodAll_cons r0
  obtain ⟨rfl, rfl, rfl⟩ := trodAll_nil r1
  obtain rfl : args = #[v0, v1] := by cases args; simp_all
  obtain ⟨rfl, rfl⟩ := trodVars_none hV
  clear hA0
  simp only [List.append_nil] at hW'
  have hlt := hW'.lt
  have hk := hcond _ rfl
  have hbA : Rows.uptoBulkAll ([d0, d1] ++ []) ≤ 1048576 := of_decide_eq_true hk
  simp only [List.append_nil, Rows.uptoBulkAll] at hbA
  obtain ⟨a0, c0, l0, hv0, hlc0, hcm0, hin0, hbk0⟩ := open_mvb (hval 0 22 v0 rfl rfl) h0
  obtain ⟨a1, c1, l1, hv1, hlc1, hcm1, hin1, hbk1⟩ := open_mvb (hval 1 22 v1 rfl rfl) h1
  subst hv0
  subst hv1
  refine (walk a0 c0 l0 a1 c1 l1 W hin0 hin1 (by omega) (by omega)).mono fun e W' ⟨he, hb⟩ => ?_
  subst he
  exact ⟨_, rfl, met_below hW' (fun _ _ _ => (trodAll_cons_mk (shut_bool Tryd.underlying4 _) trodAll_mk0)) (fun sp hsp => by have r := (trodAll_cons_mk (WideElems.Trod_stays laidOut_ (by kernel_rfl) (of_decide_eq_true (by kernel_rfl)) h0 (fun x hx => hb.same (hlt x (by simp [hx]))) (fun x hx => hsp x (by simp [hx]))) (trodAll_cons_mk (WideElems.Trod_stays laidOut_ (by kernel_rfl) (of_decide_eq_true (by kernel_rfl)) h1 (fun x hx => hb.same (hlt x (by simp [hx]))) (fun x hx => hsp x (by simp [hx]))) trodAll_mk0)); simp only [List.append_nil] at r; exact r) (fun _ => rfl) hb
    (ok_one (by kernel_rfl) rfl (okWide_bool_mk Tryd.underlying4 _))⟩

theorem said : Rows.MvrpJoinsUptoSaid :=
  OpenClaim.holds_of_cond 10 Tryd.f10 rfl rfl rfl rfl rfl rfl rfl ⟨rfl, rfl, rfl, rfl, rfl⟩ rfl rfl rfl rfl rfl (by kernel_rfl) Tryd.func10 (by kernel_rfl)
    (of_decide_eq_true (by kernel_rfl)) (by unfold Func.isWrapper; first | (rw [if_pos (by decide +kernel)]; kernel_rfl) | (rw [if_neg (by decide +kernel)]; exact ⟨rfl, rfl⟩))
    (fun os started H enc _ F => by rw [OpenClaim.pre_eq_preRow]; exact lifted os started H enc F)

theorem plain (f : FuncId) (fn : Func) (hf : Tryd.pinned.checked.prog.funcNamed "switchyard/switchyardkeep.MvrpJoins" = some f) (hfn : Tryd.pinned.checked.prog.funcs[f]? = some fn) :
    true = Tryd.pinned.checked.prog.looks [] ∧ ∀ (j : Nat) t, fn.params[j]? = some t → Tryd.pinned.checked.prog.wantsStandIn t = false := by
  obtain rfl : f = 10 := Option.some.inj ((show Tryd.prog.funcNamed "switchyard/switchyardkeep.MvrpJoins" = some 10 by kernel_rfl).symm.trans hf) |>.symm
  obtain rfl : fn = Tryd.f10 := (Option.some.inj (Tryd.func10.symm.trans hfn)).symm
  refine ⟨by kernel_rfl, fun j t ht => ?_⟩
  rw [Tryd.params10] at ht
  have hm : t ∈ #[22, 22] := Array.mem_of_getElem? ht
  simp only [List.mem_toArray, List.mem_cons, List.not_mem_nil, or_false] at hm
  rcases hm with rfl | rfl
  · exact (show Tryd.prog.wantsStandIn 22 = false by kernel_rfl)
  · exact (show Tryd.prog.wantsStandIn 22 = false by kernel_rfl)

theorem card : Rows.MvrpJoinsUptoCardSaid :=
  Claim7.holds_tied_plain_at .later [] _ _ _ _ said (fun _ h => by cases h) (by kernel_rfl) (fun _ h => by cases h) mvrpJoinsUpto_row_tie rfl ⟨rfl, rfl⟩ (by kernel_rfl) rfl plain (by kernel_rfl)
#print axioms card

end Go.Proofs.YtikjpcnfldkifaaDoor.mvrpJoinsUpto

