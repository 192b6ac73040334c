/- The reference's Crc, the document's own answer by a long division: it is the sum by shifting. -/
import Derived.Test.YtonignmhmfhnfaaDoorBits
import Derived.Test.YtonignmhmfhnfaaDoorRow
import Derived.Test.YtonignmhmfhnfaaDoorNum
import Derived.Test.YtonignmhmfhnfaaDoorCrcSum
import Derived.WalkLawsBesides
import Derived.Lib.SmallJoins
import Derived.BigRegion
import Derived.Laws.BitsAllLaws
namespace Go.Proofs.YtonignmhmfhnfaaDoor
open Go.RowKit

theorem leV_bit : ∀ (l : List UInt8) (k j : Nat), k < l.length → j < 8 → (leV l).testBit (8 * k + j) = ((l.getD k 0).toNat).testBit j
  | b :: l, 0, j, _, hj => by
    rw [show 8 * 0 + j = j by omega, leV, add_is_xor _ _ b.toNat_lt, Nat.testBit_xor, show (256 : Nat) * leV l = 2 ^ 8 * leV l from rfl, Nat.testBit_two_pow_mul, decide_eq_false (show ¬ 8 ≤ j by omega)]
    simp
  | b :: l, k + 1, j, h, hj => by
    have hb : (b.toNat).testBit (8 * (k + 1) + j) = false := Nat.testBit_lt_two_pow (Nat.lt_of_lt_of_le b.toNat_lt (show 2 ^ 8 ≤ 2 ^ (8 * (k + 1) + j) from Nat.pow_le_pow_right (by decide) (by omega)))
    rw [leV, add_is_xor _ _ b.toNat_lt, Nat.testBit_xor, hb, show (256 : Nat) * leV l = 2 ^ 8 * leV l from rfl, Nat.testBit_two_pow_mul, show 8 * (k + 1) + j - 8 = 8 * k + j by omega, leV_bit l k j (by simpa using h) hj, decide_eq_true (show 8 ≤ 8 * (k + 1) + j by omega)]
    simp

theorem leV_high (l : List UInt8) (p : Nat) (h : 8 * l.length ≤ p) : (leV l).testBit p = false := by
  refine Nat.testBit_lt_two_pow (Nat.lt_of_lt_of_le (leV_lt l) ?_)
  rw [show 256 ^ l.length = 2 ^ (8 * l.length) by rw [Nat.pow_mul]]
  exact Nat.pow_le_pow_right (by decide) h

theorem byte_bit (x j : Nat) (h : x < 256) : bits BinOp.and IntKind.u8 ((x : Int) / 2 ^ j) 1 = ((x.testBit j).toNat : Int) := by
  have e : (x : Int) / 2 ^ j = ((x / 2 ^ j : Nat) : Int) := by simp
  have hl : x / 2 ^ j < 256 := Nat.lt_of_le_of_lt (Nat.div_le_self _ _) h
  rw [e, show (1 : Int) = ((1 : Nat) : Int) from rfl, u8_and_nat _ 1 hl (by decide), nat_mask1, Nat.testBit_eq_decide_div_mod_eq]
  rcases Nat.mod_two_eq_zero_or_one (x / 2 ^ j) with q | q <;> simp [q]

/-- The first q bits are turned. -/
def flip (L q : Nat) (p : Nat) : Bool := if p < q then !L.testBit p else L.testBit p
theorem flip_zero (L p : Nat) : flip L 0 p = L.testBit p := by simp [flip]
theorem flip_at (L q : Nat) : flip L q q = L.testBit q := by simp [flip]
theorem flip_done (L q : Nat) : flip L (q + 1) q = !L.testBit q := by simp [flip]
theorem flip_other (L q p : Nat) (h : p ≠ q) : flip L (q + 1) p = flip L q p := by
  unfold flip
  by_cases h1 : p < q
  · rw [if_pos h1, if_pos (by omega)]
  · rw [if_neg h1, if_neg (by omega)]
theorem all_bits (p : Nat) : cM.testBit p = decide (p < 32) := by
  have : cM = 2 ^ 32 - 1 := rfl
  rw [this, Nat.testBit_two_pow_sub_one]
theorem flip_all (L p : Nat) : (cM ^^^ L).testBit p = flip L 32 p := by
  rw [Nat.testBit_xor, all_bits]
  unfold flip
  by_cases h : p < 32
  · rw [if_pos h, decide_eq_true h]
    simp
  · rw [if_neg h, decide_eq_false h]
    simp

/-- The polynomial's bits. -/
def polyB (m : Nat) : Bool := (2 * cP + 1).testBit m

/-- The polynomial is brought in at q, as far as its first m bits. -/
def brought (f : Nat → Bool) (q m p : Nat) : Bool := if q ≤ p ∧ p < q + m then (f p ^^ polyB (p - q)) else f p

theorem next_even (q Y : Nat) (f : Nat → Bool) (n : Nat) (hf : ∀ p, q ≤ p → p < n → f p = (csteps q Y).testBit (p - q)) (h : (csteps q Y).testBit 0 = false) :
    ∀ p, q + 1 ≤ p → p < n → f p = (csteps (q + 1) Y).testBit (p - (q + 1)) := by
  intro p h1 h2
  have h0 : ¬ csteps q Y % 2 = 1 := by
    rw [Nat.testBit_zero] at h
    simpa using h
  rw [hf p (by omega) h2, csteps_succ, cstep_bit, decide_eq_false h0, Bool.false_and, Bool.xor_false, show p - (q + 1) + 1 = p - q by omega]

theorem polyB_high (m : Nat) (h : 33 ≤ m) : polyB m = false := by
  unfold polyB
  refine Nat.testBit_lt_two_pow (Nat.lt_of_lt_of_le (show 2 * cP + 1 < 2 ^ 33 by decide) (Nat.pow_le_pow_right (by decide) h))

theorem polyB_succ (m : Nat) : polyB (m + 1) = cP.testBit m := by
  unfold polyB
  rw [Nat.testBit_succ, show (2 * cP + 1) / 2 = cP by decide]

theorem next_odd (q Y : Nat) (f : Nat → Bool) (n : Nat) (hf : ∀ p, q ≤ p → p < n → f p = (csteps q Y).testBit (p - q)) (h : (csteps q Y).testBit 0 = true) :
    ∀ p, q + 1 ≤ p → p < n → brought f q 33 p = (csteps (q + 1) Y).testBit (p - (q + 1)) := by
  intro p h1 h2
  have h0 : csteps q Y % 2 = 1 := by
    rw [Nat.testBit_zero] at h
    simpa using h
  have e : brought f q 33 p = (f p ^^ polyB (p - q)) := by
    unfold brought
    by_cases hp : p < q + 33
    · rw [if_pos ⟨by omega, hp⟩]
    · rw [if_neg (fun x => hp x.2), polyB_high _ (by omega), Bool.xor_false]
  rw [e, hf p (by omega) h2, csteps_succ, cstep_bit, decide_eq_true h0, Bool.true_and, show p - (q + 1) + 1 = p - q by omega, ← polyB_succ, show p - (q + 1) + 1 = p - q by omega]

theorem brought_zero (f : Nat → Bool) (q p : Nat) : brought f q 0 p = f p := by
  unfold brought
  rw [if_neg (by omega)]
theorem brought_at (f : Nat → Bool) (q m : Nat) : brought f q m (q + m) = f (q + m) := by
  unfold brought
  rw [if_neg (by omega)]
theorem brought_done (f : Nat → Bool) (q m : Nat) : brought f q (m + 1) (q + m) = (f (q + m) ^^ polyB m) := by
  unfold brought
  rw [if_pos (by omega), Nat.add_sub_cancel_left]
theorem brought_other (f : Nat → Bool) (q m p : Nat) (h : p ≠ q + m) : brought f q (m + 1) p = brought f q m p := by
  unfold brought
  by_cases h1 : q ≤ p ∧ p < q + m
  · rw [if_pos h1, if_pos (by omega)]
  · rw [if_neg h1, if_neg (by omega)]

theorem mod_off (Z j : Nat) (h : Z.testBit j = false) : Z % 2 ^ (j + 1) = Z % 2 ^ j := by
  rw [mod_succ_xor, if_neg (by rw [h]; exact Bool.false_ne_true), Nat.xor_zero]

theorem mod_on (Z j : Nat) (hj : j < 32) (h : Z.testBit j = true) : bits BinOp.or IntKind.u32 ((Z : Int) % 2 ^ j) (2 ^ j % 4294967296) = ((Z % 2 ^ (j + 1) : Nat) : Int) := by
  have e0 : (Z : Int) % 2 ^ j = ((Z % 2 ^ j : Nat) : Int) := by simp
  rw [e0]
  have hp : 2 ^ j ≤ 2 ^ 31 := Nat.pow_le_pow_right (by decide) (by omega)
  have hl : Z % 2 ^ j < 2 ^ j := Nat.mod_lt _ (Nat.pow_pos (by decide))
  have e : (2 : Int) ^ j % 4294967296 = ((2 ^ j : Nat) : Int) := by
    have : (2 : Int) ^ j = ((2 ^ j : Nat) : Int) := by simp
    rw [this]
    generalize 2 ^ j = q at hp
    omega
  have hd : Z / 2 ^ j % 2 = 1 := by
    rw [Nat.testBit_eq_decide_div_mod_eq] at h
    simpa using h
  have e2 := Nat.two_pow_add_eq_or_of_lt hl 1
  rw [Nat.mul_one] at e2
  rw [e, u32_or_nat _ _ (by omega) (by omega), Nat.or_comm, ← e2, Nat.mod_pow_succ, hd, Nat.mul_one, Nat.add_comm]

theorem iterPos_of {w : World} {k p : Nat} {s : ByteArray} (h : w.heap[k]? = some (.stringIter s p)) : w.iterPos k = p := by simp [World.iterPos, h]

/-- The polynomial's text. -/
def polyS : ByteArray := ⟨#[49, 48, 48, 48, 48, 48, 49, 48, 48, 49, 49, 48, 48, 48, 48, 48, 49, 48, 48, 48, 49, 49, 49, 48, 49, 49, 48, 49, 49, 48, 49, 49, 49]⟩
theorem polyS_size : polyS.size = 33 := rfl
theorem polyS_at : ∀ m : Nat, m < 33 → (polyS.data.toList.getD m 0).toNat = 48 + (polyB m).toNat := by decide +kernel

theorem Tryd.infoInt : (Tryd.prog.info? 3).map (fun i => (i.zero, i.size, i.bytes)) = some (some (.int .i64 0), 1, 8) := by kernel_rfl

set_option maxHeartbeats 1600000 in
set_option maxRecDepth 100000 in
theorem refCrc_any (s : ByteArray) (w : World) (hs : s.size ≤ 1000) :
    Calls Tryd.prog 7 #[.string s] w fun e w' => e = .returned (.int .u32 (csum s.data.toList : Nat)) ∧ Below w.heap.size w w' := by
  obtain ⟨i0, hi, hz0, hz1, hz2⟩ := info_parts Tryd.infoInt
  obtain ⟨n, hn⟩ : ∃ n, n = s.size := ⟨_, rfl⟩
  have hcv := fun W => run_bytes_of_string (P := Tryd.prog) W 9 36 5 s Tryd.underlying9 Tryd.underlying36 Tryd.underlying5
  rw [← hn] at hcv hs
  have HN := Lib.hid hn
  clear hn
  obtain ⟨l, hl⟩ : ∃ l, l = s.data.toList := ⟨_, rfl⟩
  have hlen : l.length = n := by rw [hl, HN.out]; simp
  have hr0 : BRow ((w.alloc (Obj.cells (bytesRow s (grownCap w n 0 5)) 5 ((bytesRow s (grownCap w n 0 5)).size, (bytesRow s (grownCap w n 0 5)).size + 1))).drew) w.heap.size l := by rw [hl]; exact BRow.new w s _
  have hb0 : Below w.heap.size w ((w.alloc (Obj.cells (bytesRow s (grownCap w n 0 5)) 5 ((bytesRow s (grownCap w n 0 5)).size, (bytesRow s (grownCap w n 0 5)).size + 1))).drew) := ((Below.refl _ _).alloc (Nat.le_refl _) _).drew
  have hz0' : ((w.alloc (Obj.cells (bytesRow s (grownCap w n 0 5)) 5 ((bytesRow s (grownCap w n 0 5)).size, (bytesRow s (grownCap w n 0 5)).size + 1))).drew).heap.size = w.heap.size + 1 := by simp
  rw [← hl]
  have HLN := Lib.hid hlen
  have HLS := Lib.hid hl
  have HZ := Lib.hid hz0'
  clear hl hlen hz0'
  go_enter Tryd.func7, Tryd.ntmps7
  go_wp2
  generalize (w.alloc (Obj.cells (bytesRow s (grownCap w n 0 5)) 5 ((bytesRow s (grownCap w n 0 5)).size, (bytesRow s (grownCap w n 0 5)).size + 1))).drew = W0 at *
  generalize grownCap w n 0 5 = cap at *
  generalize hB : w.heap.size = B at *
  obtain ⟨L, hL⟩ : ∃ L, L = leV l := ⟨_, rfl⟩
  have HL := Lib.hid hL
  have HB := Lib.hid hB
  clear hL hB hcv
  go_loopw [3, 16] (fun v i wr => ∃ k : Nat, k ≤ n ∧ i = .int .i64 k ∧ wr.ownsRow (B + 1) 3 1 v (8 * k) (bl L.testBit (8 * k)) ∧ BRow wr B l ∧ B + 1 ≤ wr.heap.size ∧ Below B w wr) (fun _ i _ => n - (intOf i).toNat)
  case atStart => exact ⟨0, by omega, rfl, World.ownsRow_nil _ _ _ _, hr0, by rw [HZ.out]; exact Nat.le_refl _, hb0⟩
  case round =>
    obtain ⟨k, hk, rfl, hown, hrow, hsz, hbl⟩ := hrel
    clear hr0 hb0
    by_cases hlt : k < n
    · have hkl : k < l.length := by rw [HLN.out]; exact hlt
      have hcell := hrow.cellD hkl
      have hx := (l.getD k 0).toNat_lt
      have HV : Hid (∀ j, j < 8 → bits BinOp.and IntKind.u8 (((l.getD k 0).toNat : Int) / 2 ^ j) 1 = ((L.testBit (8 * k + j)).toNat : Int)) := fun j hj => by rw [byte_bit _ _ (l.getD k 0).toNat_lt, HL.out, leV_bit l k j hkl hj]
      have HR := Lib.hid hrow
      clear hkl hrow
      generalize (l.getD k 0).toNat = x at *
      go_wp2
      go_loopw [3, 20] (fun v i wr => ∃ j : Nat, j ≤ 8 ∧ i = .int .i64 j ∧ wr.ownsRow (B + 1) 3 1 v (8 * k + j) (bl L.testBit (8 * k + j)) ∧ BRow wr B l ∧ B + 1 ≤ wr.heap.size ∧ Below B w wr) (fun _ i _ => 8 - (intOf i).toNat)
      case atStart => exact ⟨0, by omega, rfl, hown, HR.out, hsz, hbl⟩
      case round =>
        obtain ⟨j, hj, rfl, hown, hrow, hsz, hbl⟩ := hrel
        clear hcell
        by_cases hlj : j < 8
        · have hv := HV.out j hlj
          have HS := Lib.hid (bl_succ L.testBit (8 * k + j))
          have hmx : (8 * k + j) + 1 ≤ maxLen := by unfold maxLen; omega
          have HR := Lib.hid hrow
          clear hrow
          cases hc : L.testBit (8 * k + j)
          all_goals
            rw [hc] at hv HS
            clear hc
            go_wp2_with (at_builtin; refine wpList_append_own _ rfl _ _ 35 rfl (B + 1) 3 i0 (.int .i64 0) 1 8 Tryd.underlying35 hi hz0 hz1 hz2 rfl (by decide) _ _ _ rfl (hown.alloc _) ⟨wr.heap.size, 0, none⟩ 1 1 _ rfl rfl (cell_one_new _ _ _) ?_ hmx ?_ ?_ ?_)
            · intro u hu; simp at hu; subst hu; rfl
            · omega
            · simp; omega
            · intro v' w1 hown1 hgrow _
              have hown2 : w1.ownsRow (B + 1) 3 1 v' (8 * k + j + 1) (bl L.testBit (8 * k + j + 1)) := by rw [HS.out]; exact hown1
              have hne : ∀ q, (_ : Value).ownBlock = some q → B + 1 ≤ q := fun q hq => (hown.lt q hq).1
              have hR1 := HR.out.same ((hgrow.block B (by simp; have := HR.out.lt; omega) (fun e => by have := hne B e.symm; omega)).trans (heap_alloc_old wr _ HR.out.lt))
              have hs1 : B + 1 ≤ w1.heap.size := Nat.le_trans (by simp; omega) hgrow.size
              have hb1 : Below B w w1 := (hbl.alloc (by omega) _).grown hgrow (by simp; omega) (fun q hq => by have := hne q hq; omega)
              clear hown hown1 hgrow hne hbl HR HS
              go_wp2
              go_roundw
              case rel => exact ⟨j + 1, by omega, by go_num, hown2, hR1, hs1, hb1⟩
              case measure => simp [intOf]; omega
        · have hj8 : j = 8 := by omega
          have hown2 := hown
          rw [show 8 * k + j = 8 * (k + 1) by omega] at hown2
          clear hj8 hown
          go_wp2
          go_roundw
          case rel => exact ⟨k + 1, by omega, by go_num, hown2, hrow, hsz, hbl⟩
          case measure => simp [intOf]; omega
    · obtain rfl : k = n := by omega
      have hty : Tryd.prog.underlying 3 = some (.int .i64) := Tryd.underlying3
      obtain ⟨v2, w2, hap, hown2, hgr⟩ := run_append_zeros_own (P := Tryd.prog) wr (B + 1) 35 3 35 3 i0 .i64 .i64 Tryd.underlying35 hty hi hz0 hz1 hz2 _ _ _ hown 32 (by omega) (by omega) (by omega) hsz
      have HE := Lib.hid (bl_zeros L.testBit (8 * k) 32 (fun p hp => by rw [HL.out]; exact leV_high l p (by rw [HLN.out]; exact hp)))
      rw [HE.out] at hown2
      have hb2 : Below B w w2 := hbl.grown hgr (by omega) (fun q hq => by have := (hown.lt q hq).1; omega)
      clear hty hown hgr HE hrow hbl hsz
      obtain ⟨g, cap2, rfl, hg, hnc, hcm, hbits⟩ := BitsAt.of_own hown2 (by omega)
      clear hown2
      go_wp2_with (at_builtin; refine Lib.wpList_append_run _ rfl _ _ _ _ rfl _ _ rfl rfl _ _ hap ?_)
      have hgB : B ≤ g := by omega
      go_loopw [35] (fun i wr => ∃ q : Nat, q ≤ 32 ∧ i = .int .i64 q ∧ BitsAt wr g (flip L q) (8 * k + 32) ∧ Below B w wr) (fun i _ => 32 - (intOf i).toNat)
      case atStart => exact ⟨0, by omega, rfl, hbits.like (fun p _ => flip_zero L p), hb2⟩
      case round =>
        obtain ⟨q, hq, rfl, hbq, hbl⟩ := hrel
        clear hb2 hbits hap
        by_cases hlt : q < 32
        · have hcell := hbq.cell (show q < 8 * k + 32 by omega)
          rw [flip_at] at hcell
          have hfz := hbq.fz q
          have HS := Lib.hid (hbq.set (f' := flip L (q + 1)) q (fun p _ hne => flip_other L q p hne))
          have HF := Lib.hid (flip_done L q)
          clear hbq
          cases hc : L.testBit q
          all_goals
            rw [hc] at hcell HF
            clear hc
            go_wp2
            go_roundw
            case rel =>
              refine ⟨q + 1, by omega, by go_num, ?_, hbl.setCell (p := ⟨g, q, none⟩) hgB _⟩
              have h := HS.out
              rw [HF.out] at h
              exact h
            case measure => simp [intOf]; omega
        · have hq32 : q = 32 := by omega
          obtain ⟨Y, hY⟩ : ∃ Y, Y = cM ^^^ L := ⟨_, rfl⟩
          have hb3 := hbq.like (f' := Y.testBit) (fun p _ => by rw [hY, hq32]; exact flip_all L p)
          have HY := Lib.hid hY
          clear hbq hY hq32
          generalize q = qq at *
          go_wp2
          go_loopw [8] (fun i wr => ∃ (q : Nat) (f : Nat → Bool), q ≤ 8 * k ∧ i = .int .i64 q ∧ BitsAt wr g f (8 * k + 32) ∧ (∀ p, q ≤ p → p < 8 * k + 32 → f p = (csteps q Y).testBit (p - q)) ∧ Below B w wr) (fun i _ => 8 * k - (intOf i).toNat)
          case atStart => exact ⟨0, Y.testBit, by omega, rfl, hb3, fun p _ _ => rfl, hbl⟩
          case round =>
            clear hb3 hbl
            obtain ⟨q, f, hq, rfl, hbq, hf, hbl⟩ := hrel
            by_cases hlt : q < 8 * k
            · have hd51 : decide ((q : Int) < 8 * (k : Int)) = true := decide_eq_true (by omega)
              have hq0 : f q = (csteps q Y).testBit 0 := by rw [hf q (by omega) (by omega), Nat.sub_self]
              have hcell := hbq.cell (show q < 8 * k + 32 by omega)
              have HQ := Lib.hid hbq
              have HF := Lib.hid hf
              clear hbq hf
              cases hc : f q
              · rw [hc] at hcell
                have HN0 := Lib.hid (next_even q Y f (8 * k + 32) HF.out (by rw [← hq0, hc]))
                clear hc hq0 HF
                go_wp2
                go_roundw
                case rel => exact ⟨q + 1, f, by omega, by go_num, HQ.out, HN0.out, hbl⟩
                case measure => simp [intOf]; omega
              · rw [hc] at hcell
                have HN1 := Lib.hid (next_odd q Y f (8 * k + 32) HF.out (by rw [← hq0, hc]))
                clear hc hq0 HF
                go_wp2
                have hit : (wr.iter (⟨#[49, 48, 48, 48, 48, 48, 49, 48, 48, 49, 49, 48, 48, 48, 48, 48, 49, 48, 48, 48, 49, 49, 49, 48, 49, 49, 48, 49, 49, 48, 49, 49, 49]⟩ : ByteArray) 0).heap[wr.heap.size]? = some (.stringIter (⟨#[49, 48, 48, 48, 48, 48, 49, 48, 48, 49, 49, 48, 48, 48, 48, 48, 49, 48, 48, 48, 49, 49, 49, 48, 49, 49, 48, 49, 49, 48, 49, 49, 49]⟩ : ByteArray) 0) := World.iter_heap _ _ _
                have hb6 : BitsAt (wr.iter (⟨#[49, 48, 48, 48, 48, 48, 49, 48, 48, 49, 49, 48, 48, 48, 48, 48, 49, 48, 48, 48, 49, 49, 49, 48, 49, 49, 48, 49, 49, 48, 49, 49, 49]⟩ : ByteArray) 0) g (brought f q 0) (8 * k + 32) := (HQ.out.like (fun p _ => brought_zero f q p)).same (heap_alloc_old wr _ HQ.out.lt)
                have hbl6 : Below B w (wr.iter (⟨#[49, 48, 48, 48, 48, 48, 49, 48, 48, 49, 49, 48, 48, 48, 48, 48, 49, 48, 48, 48, 49, 49, 49, 48, 49, 49, 48, 49, 49, 48, 49, 49, 49]⟩ : ByteArray) 0) := hbl.alloc (Nat.le_of_lt (Nat.lt_of_le_of_lt hgB HQ.out.lt)) _
                have hgK : g < wr.heap.size := HQ.out.lt
                have hBK : B ≤ wr.heap.size := by omega
                clear hcell hbl HQ
                generalize wr.iter (⟨#[49, 48, 48, 48, 48, 48, 49, 48, 48, 49, 49, 48, 48, 48, 48, 48, 49, 48, 48, 48, 49, 49, 49, 48, 49, 49, 48, 49, 49, 48, 49, 49, 49]⟩ : ByteArray) 0 = w6 at *
                generalize wr.heap.size = K at *
                go_loopw [9] (fun _ wr => ∃ m : Nat, m ≤ 33 ∧ wr.heap[K]? = some (.stringIter (⟨#[49, 48, 48, 48, 48, 48, 49, 48, 48, 49, 49, 48, 48, 48, 48, 48, 49, 48, 48, 48, 49, 49, 49, 48, 49, 49, 48, 49, 49, 48, 49, 49, 49]⟩ : ByteArray) m) ∧ BitsAt wr g (brought f q m) (8 * k + 32) ∧ Below B w wr) (fun _ wr => 33 - wr.iterPos K)
                case atStart => exact ⟨0, by omega, hit, hb6, hbl6⟩
                case round =>
                  clear hit hb6 hbl6
                  obtain ⟨m, hm, hit, hbq, hbl⟩ := hrel
                  by_cases hlm : m < 33
                  · have hsz : m < (⟨#[49, 48, 48, 48, 48, 48, 49, 48, 48, 49, 49, 48, 48, 48, 48, 48, 49, 48, 48, 48, 49, 49, 49, 48, 49, 49, 48, 49, 49, 48, 49, 49, 49]⟩ : ByteArray).size := hlm
                    have hat : ((⟨#[49, 48, 48, 48, 48, 48, 49, 48, 48, 49, 49, 48, 48, 48, 48, 48, 49, 48, 48, 48, 49, 49, 49, 48, 49, 49, 48, 49, 49, 48, 49, 49, 49]⟩ : ByteArray)[m]'hsz).toNat = 48 + (polyB m).toNat := by
                      rw [← polyS_at m hlm]
                      exact congrArg UInt8.toNat (by rw [List.getD_eq_getElem?_getD, List.getElem?_eq_getElem (show m < polyS.data.toList.length from hlm)]; rfl)
                    have hnx := fun ty => Lib.run_next_ascii_at (P := Tryd.prog) wr K (⟨#[49, 48, 48, 48, 48, 48, 49, 48, 48, 49, 49, 48, 48, 48, 48, 48, 49, 48, 48, 48, 49, 49, 49, 48, 49, 49, 48, 49, 49, 48, 49, 49, 49]⟩ : ByteArray) m ty hit hsz (by rw [hat]; cases polyB m <;> decide)
                    have hit7 := Lib.iterAt_heap wr K (⟨#[49, 48, 48, 48, 48, 48, 49, 48, 48, 49, 49, 48, 48, 48, 48, 48, 49, 48, 48, 48, 49, 49, 49, 48, 49, 49, 48, 49, 49, 48, 49, 49, 49]⟩ : ByteArray) m (m + 1) hit
                    have hb7 := hbq.same (Lib.iterAt_other wr K g (⟨#[49, 48, 48, 48, 48, 48, 49, 48, 48, 49, 49, 48, 48, 48, 48, 48, 49, 48, 48, 48, 49, 49, 49, 48, 49, 49, 48, 49, 49, 48, 49, 49, 49]⟩ : ByteArray) (m + 1) (by omega))
                    have hbl7 := Lib.below_iterAt hbl hBK (⟨#[49, 48, 48, 48, 48, 48, 49, 48, 48, 49, 49, 48, 48, 48, 48, 48, 49, 48, 48, 48, 49, 49, 49, 48, 49, 49, 48, 49, 49, 48, 49, 49, 49]⟩ : ByteArray) (m + 1)
                    have HIT := Lib.hid hit
                    clear hit hbq hbl
                    generalize wr.iterAt K (⟨#[49, 48, 48, 48, 48, 48, 49, 48, 48, 49, 49, 48, 48, 48, 48, 48, 49, 48, 48, 48, 49, 49, 49, 48, 49, 49, 48, 49, 49, 48, 49, 49, 49]⟩ : ByteArray) (m + 1) = w7 at *
                    have hcell := hb7.cell (show q + m < 8 * k + 32 by omega)
                    rw [brought_at] at hcell
                    have hfz := hb7.fz (q + m)
                    have HH : Hid (∀ v, ((w7.setCell ⟨g, q + m, none⟩ v).drew).heap[K]? = some (.stringIter (⟨#[49, 48, 48, 48, 48, 48, 49, 48, 48, 49, 49, 48, 48, 48, 48, 48, 49, 48, 48, 48, 49, 49, 49, 48, 49, 49, 48, 49, 49, 48, 49, 49, 49]⟩ : ByteArray) (m + 1))) := fun v => (Below.heap_setCell w7 ⟨g, q + m, none⟩ v K (by show K ≠ g; omega)).trans hit7
                    have HS := Lib.hid (hb7.set (f' := brought f q (m + 1)) (q + m) (fun p _ hne => brought_other f q m p hne))
                    have HF := Lib.hid (brought_done f q m)
                    have x00 : bits BinOp.xor IntKind.i64 0 0 = 0 := by decide
                    have x01 : bits BinOp.xor IntKind.i64 0 1 = 1 := by decide
                    have x10 : bits BinOp.xor IntKind.i64 1 0 = 1 := by decide
                    have x11 : bits BinOp.xor IntKind.i64 1 1 = 0 := by decide
                    clear hb7
                    cases hp : polyB m <;> cases hc2 : f (q + m)
                    all_goals
                      rw [hp] at hat HF
                      rw [hc2] at hcell HF
                      clear hp hc2
                      go_wp2
                      go_region
                      go_wp2
                      go_roundw
                      case rel =>
                        refine ⟨m + 1, by omega, HH.out _, ?_, (hbl7.setCell (p := ⟨g, q + m, none⟩) hgB _).drew⟩
                        have h := HS.out
                        rw [HF.out] at h
                        exact h
                      case measure =>
                        rw [iterPos_of HIT.out, iterPos_of (HH.out _)]
                        omega
                  · obtain rfl : m = 33 := by omega
                    have hnx := fun ty => Lib.run_next_end_at (P := Tryd.prog) wr K (⟨#[49, 48, 48, 48, 48, 48, 49, 48, 48, 49, 49, 48, 48, 48, 48, 48, 49, 48, 48, 48, 49, 49, 49, 48, 49, 49, 48, 49, 49, 48, 49, 49, 49]⟩ : ByteArray) 33 ty hit (by decide)
                    go_wp2
                    go_roundw
                    case rel => exact ⟨q + 1, brought f q 33, by omega, by go_num, hbq, HN1.out, hbl⟩
                    case measure => simp [intOf]; omega
            · have hd51 : decide ((q : Int) < 8 * (k : Int)) = false := decide_eq_false (by omega)
              have hq8 : q = 8 * k := by omega
              have HQ8 := Lib.hid hq8
              clear hq8
              obtain ⟨Z, hZ⟩ : ∃ Z, Z = csteps (8 * k) Y ^^^ cM := ⟨_, rfl⟩
              have hfZ : ∀ j, j < 32 → f (8 * k + j) = !Z.testBit j := fun j hj => by
                rw [hf (8 * k + j) (by rw [HQ8.out]; omega) (by omega), HQ8.out, Nat.add_sub_cancel_left, hZ, Nat.testBit_xor, all_bits, decide_eq_true hj]
                simp
              have HFZ := Lib.hid hfZ
              have HZ2 := Lib.hid hZ
              have HBQ := Lib.hid hbq
              clear hfZ hZ hbq hf
              go_wp2
              go_loop [10, 81] (fun v c => ∃ j : Nat, j ≤ 32 ∧ c = .int .i64 j ∧ v = .int .u32 ((Z % 2 ^ j : Nat) : Int)) (fun _ c => 32 - (intOf c).toNat)
              case atStart => exact ⟨0, by omega, rfl, by simp [Nat.mod_one]⟩
              case round =>
                obtain ⟨j, hj, rfl, rfl⟩ := hrel
                by_cases hlj : j < 32
                · have hcell := HBQ.out.cell (show 8 * k + j < 8 * k + 32 by omega)
                  rw [HFZ.out j hlj] at hcell
                  cases hb : Z.testBit j
                  · rw [hb] at hcell
                    have HM := Lib.hid (mod_off Z j hb)
                    clear hb
                    go_wp2
                    go_round
                    case rel => exact ⟨j + 1, by omega, by go_num, by rw [HM.out]⟩
                    case measure => simp [intOf]; omega
                  · rw [hb] at hcell
                    have HM := Lib.hid (mod_on Z j hlj hb)
                    clear hb
                    go_wp2
                    go_round
                    case rel => exact ⟨j + 1, by omega, by go_num, by rw [HM.out]⟩
                    case measure => simp [intOf]; omega
                · have hj32 : j = 32 := by omega
                  have HE : Hid (Z % 2 ^ j = csum s.data.toList) := by
                    show _ = _
                    have hcs : csum s.data.toList = Z := by
                      rw [← HLS.out, HZ2.out, HY.out, HL.out]
                      unfold csum
                      rw [cfeed_leV, HLN.out]
                    rw [hcs, hj32]
                    refine Nat.mod_eq_of_lt ?_
                    rw [← hcs]
                    exact csum_lt _
                  clear hj32
                  go_wp2
                  go_ret
                  refine ⟨?_, by rw [HB.out]; exact hbl⟩
                  show Ending.returned (.int .u32 ((Z : Int) % 2 ^ j)) = _
                  rw [HLS.out, ← HE.out]
                  simp
end Go.Proofs.YtonignmhmfhnfaaDoor
