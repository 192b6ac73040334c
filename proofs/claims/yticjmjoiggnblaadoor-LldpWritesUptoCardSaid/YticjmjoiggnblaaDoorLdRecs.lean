/- lldp.records at what may be told. -/
import Derived.Test.YticjmjoiggnblaaDoorLdAdd
import Derived.Test.YticjmjoiggnblaaDoorLdV
namespace Go.Proofs.YticjmjoiggnblaaDoor
open Go.RowKit
attribute [local go_sem ↓] Go.wp_at_zero Go.wp_at_succ
set_option linter.unusedSimpArgs false
set_option linter.unusedVariables false
set_option maxRecDepth 100000

def cpW (y : Cp) : List UInt8 := putL y.h.toNat 2 ++ putL y.o.toNat 2
def ogW (y : Og) : List UInt8 := (putL y.ou.toNat 3 ++ putL y.su.toNat 1) ++ y.nf.data.toList
def cpTl (y : Cp) : Tl := ⟨7, ⟨(cpW y).toArray⟩⟩
def mgTl (y : Mg) : Tl := ⟨8, ⟨(mgW y).toArray⟩⟩
def ogTl (y : Og) : Tl := ⟨127, ⟨(ogW y).toArray⟩⟩
def ldHead (x : Ld) : List Tl := [⟨1, ⟨(nmW x.ch).toArray⟩⟩, ⟨2, ⟨(nmW x.po).toArray⟩⟩, ⟨3, ⟨(putL x.tt.toNat 2).toArray⟩⟩]
/-- The records that tell it. -/
def ldTls (x : Ld) : List Tl := ldHead x ++ kTl 4 x.de ++ kTl 5 x.ho ++ kTl 6 x.sy ++ x.ca.map cpTl ++ x.ma.map mgTl ++ x.og.map ogTl
theorem map_take1 {α β : Type} (f : α → β) (l : List α) (k : Nat) (hk : k < l.length) : (l.take (k + 1)).map f = (l.take k).map f ++ [f l[k]] := by
  rw [List.take_add_one, List.getElem?_eq_getElem hk, List.map_append]
  rfl
theorem kTl_len (k : Int) (l : List ByteArray) : (kTl k l).length = l.length := by simp [kTl]
theorem wthn_all {x a b : Int} (h : wthn x a b = true) : a ≤ x ∧ x ≤ b := by simpa [wthn] using h
theorem okNm_all {x : Nm} (h : okNm x = true) : (1 ≤ x.su ∧ x.su ≤ 7) ∧ 1 ≤ x.id.size ∧ x.id.size ≤ 255 := by
  unfold okNm at h
  rw [Bool.and_eq_true] at h
  have h1 := wthn_all h.1
  have h2 := wthn_all h.2
  omega
theorem okCp_all {x : Cp} (h : okCp x = true) : (0 ≤ x.h ∧ x.h < 65536) ∧ (0 ≤ x.o ∧ x.o < 65536) := by
  unfold okCp at h
  rw [Bool.and_eq_true] at h
  have h1 : fitI 2 x.h = true ∧ fitI 2 x.o = true := by simpa using h.1
  exact ⟨fitI_all h1.1, fitI_all h1.2⟩
theorem okMg_all {x : Mg} (h : okMg x = true) : (0 ≤ x.as ∧ x.as < 256) ∧ (1 ≤ x.ai.size ∧ x.ai.size ≤ 31) ∧ (1 ≤ x.fs ∧ x.fs ≤ 3) ∧ (0 ≤ x.fi ∧ x.fi < 4294967296) ∧ x.oid.size ≤ 128 := by
  unfold okMg at h
  simp only [Bool.and_eq_true, decide_eq_true_eq] at h
  obtain ⟨h1, h2, h3, h4, h5⟩ := h
  have g1 := fitI_all h1
  have g2 := wthn_all h2
  have g3 := wthn_all h3
  have g4 := fitI_all h4
  have e1 : (256 : Int) ^ 1 = 256 := by decide
  have e4 : (256 : Int) ^ 4 = 4294967296 := by decide
  rw [e1] at g1
  rw [e4] at g4
  omega
theorem okOg_all {x : Og} (h : okOg x = true) : (0 ≤ x.ou ∧ x.ou < 16777216) ∧ (0 ≤ x.su ∧ x.su < 256) ∧ x.nf.size ≤ 507 := by
  unfold okOg at h
  simp only [Bool.and_eq_true, decide_eq_true_eq] at h
  obtain ⟨h1, h2, h3⟩ := h
  have g1 := fitI_all h1
  have g2 := fitI_all h2
  have e1 : (256 : Int) ^ 1 = 256 := by decide
  have e3 : (256 : Int) ^ 3 = 16777216 := by decide
  rw [e3] at g1
  rw [e1] at g2
  omega
theorem few_all {α : Type} {ok : α → Bool} {l : List α} (h : few ok l = true) : l.length ≤ 1 ∧ ∀ y ∈ l, ok y = true := by
  unfold few at h
  rw [Bool.and_eq_true, decide_eq_true_eq] at h
  exact ⟨by omega, List.all_eq_true.1 h.2⟩
theorem okLd_all {x : Ld} (h : okLd x = true) : okNm x.ch = true ∧ okNm x.po = true ∧ (0 ≤ x.tt ∧ x.tt < 65536) ∧ (x.de.length ≤ 1 ∧ ∀ y ∈ x.de, okSt y = true) ∧ (x.ho.length ≤ 1 ∧ ∀ y ∈ x.ho, okSt y = true) ∧ (x.sy.length ≤ 1 ∧ ∀ y ∈ x.sy, okSt y = true) ∧ (x.ca.length ≤ 1 ∧ ∀ y ∈ x.ca, okCp y = true) ∧ (x.ma.length ≤ 20 ∧ ∀ y ∈ x.ma, okMg y = true) ∧ (x.og.length ≤ 20 ∧ ∀ y ∈ x.og, okOg y = true) := by
  unfold okLd at h
  simp only [Bool.and_eq_true, decide_eq_true_eq] at h
  obtain ⟨h1, h2, h3, h4, h5, h6, h7, h8, h9, h10, h11⟩ := h
  exact ⟨h1, h2, fitI_all h3, few_all h4, few_all h5, few_all h6, few_all h7, ⟨by omega, List.all_eq_true.1 h9⟩, ⟨by omega, List.all_eq_true.1 h11⟩⟩
theorem cpW_len (y : Cp) : (cpW y).length = 4 := by simp [cpW, putL_length]
theorem ogW_len (y : Og) : (ogW y).length = 4 + y.nf.size := by
  simp [ogW, putL_length]
  omega

set_option maxHeartbeats 6400000 in
theorem records_any (x : Ld) (q : LdA) (hok : okLd x = true) (w : World) (h : LdIn w x q) :
    Calls Tryd.prog 60 #[.agg (ldC x q)] w fun e w' => ∃ a c, e = .returned (.slice a (ldTls x).length c) ∧ TlIn w' a (ldTls x) ∧ Below w.heap.size w w' := by
  obtain ⟨⟨qd, qdc⟩, ⟨qh, qhc⟩, ⟨qs, qsc⟩, ⟨qc, qcc⟩, ⟨qm, qmc⟩, ⟨qo, qoc⟩⟩ := q
  obtain ⟨i1, i2, i3, i4, i5, i6⟩ := h
  dsimp only at i1 i2 i3 i4 i5 i6
  obtain ⟨x, p, tt, de, ho, sy, ca, ma, og⟩ := x
  obtain ⟨o1, o2, o3, o4, o5, o6, o7, o8, o9⟩ := okLd_all hok
  dsimp only at o1 o2 o3 o4 o5 o6 o7 o8 o9
  have m1 := okNm_all o1
  have m2 := okNm_all o2
  have HN1 := Lib.hid (fun W => nameText_any x W (by omega) (by omega) (by omega))
  have HN2 := Lib.hid (fun W => nameText_any p W (by omega) (by omega) (by omega))
  have HN3 := Lib.hid (fun W => must_i2 tt W o3.1 o3.2)
  have P7 := Lib.hid (fun k (hk : k < ca.length) => okCp_all (o7.2 _ (List.getElem_mem hk)))
  have P8 := Lib.hid (fun k (hk : k < ma.length) => okMg_all (o8.2 _ (List.getElem_mem hk)))
  have P9 := Lib.hid (fun k (hk : k < og.length) => okOg_all (o9.2 _ (List.getElem_mem hk)))
  have l4 := o4.1
  have l5 := o5.1
  have l6 := o6.1
  have l7 := o7.1
  have l8 := o8.1
  have l9 := o9.1
  have hmf : ∀ (fn : Fn) (first cap : Array Value) (w : World), (Instr.makeFunc fn first cap).run Tryd.prog w = .ok (.func fn first cap) w := fun _ _ _ _ => rfl
  clear hok o1 o2 o3 o4 o5 o6 o7 o8 o9 m1 m2
  obtain ⟨C, hC⟩ : ∃ C, C = ldC ⟨x, p, tt, de, ho, sy, ca, ma, og⟩ ⟨(qd, qdc), (qh, qhc), (qs, qsc), (qc, qcc), (qm, qmc), (qo, qoc)⟩ := ⟨_, rfl⟩
  have HA0 := Blk.new w 54 (ldC ⟨x, p, tt, de, ho, sy, ca, ma, og⟩ ⟨(qd, qdc), (qh, qhc), (qs, qsc), (qc, qcc), (qm, qmc), (qo, qoc)⟩)
  have B0 : Below w.heap.size w (w.alloc (.cells (ldC ⟨x, p, tt, de, ho, sy, ca, ma, og⟩ ⟨(qd, qdc), (qh, qhc), (qs, qsc), (qc, qcc), (qm, qmc), (qo, qoc)⟩) 54)) := (Below.refl _ _).alloc (Nat.le_refl _) _
  have hlt0 := HA0.lt
  obtain ⟨D, hD⟩ : ∃ D, D = ldC ⟨x, p, tt, de, ho, sy, ca, ma, og⟩ ⟨(qd, qdc), (qh, qhc), (qs, qsc), (qc, qcc), (qm, qmc), (qo, qoc)⟩ := ⟨_, rfl⟩
  clear hC C hD D
  go_enter Tryd.func60, Tryd.ntmps60
  go_upto_region 1 with (fail)
  generalize (w.alloc (.cells (ldC ⟨x, p, tt, de, ho, sy, ca, ma, og⟩ ⟨(qd, qdc), (qh, qhc), (qs, qsc), (qc, qcc), (qm, qmc), (qo, qoc)⟩) 54)) = w0 at *
  have hA1 : AcTl (w0.alloc (.cells #[.slice none 0 0] 22)) w0.heap.size [] := ⟨none, 0, Blk.new w0 22 #[.slice none 0 0], OwnTl.nil _ _⟩
  have hb1 : Below w0.heap.size w0 (w0.alloc (.cells #[.slice none 0 0] 22)) := (Below.refl _ _).alloc (Nat.le_refl _) _
  have HA1 := HA0.kept hb1
  have B1 := B0.trans (hb1.mono B0.size)
  have hwB : w.heap.size ≤ w0.heap.size := B0.size
  have hBz : w0.heap.size < (w0.alloc (.cells #[.slice none 0 0] 22)).heap.size := by simp
  go_upto_region 3 with (fail)
  generalize (w0.alloc (.cells #[.slice none 0 0] 22)) = w1 at *
  clear HA0 B0 hb1
  generalize w0.heap.size = B at *

  go_wp2_with (refine load_blk (k := 0) 48 (nmC x) (by rfl) rfl rfl HA1 (by kernel_rfl) (by kernel_rfl) rfl ?_)
  refine (HN1.out _).mono ?_
  rintro e w2 ⟨rfl, b2⟩
  have HA2 := HA1.kept b2
  have hA2 := hA1.kept b2
  have B2 := B1.trans (b2.mono B1.size)
  have hBz2 := Nat.lt_of_lt_of_le hBz b2.size
  clear HA1 hA1 B1 b2
  go_wp2_with (refine sliceL_st ⟨(nmW x).toArray⟩ rfl rfl rfl (fun w3 HG3 b3 hlt3 => ?_); have HA3 := HA2.kept b3; have hA3 := hA2.kept b3; have B3 := B2.trans (b3.mono B2.size); have hBz3 := Nat.lt_of_lt_of_le hBz2 b3.size)
  refine (add_one B 1 ⟨(nmW x).toArray⟩ ([]) _ _ hA3 HG3 (by simp)).mono ?_
  rintro e w4 ⟨rfl, hA4, b4, -⟩
  have HA4 := HA3.below b4 hlt0
  have B4 := B3.trans (b4.mono hwB)
  have hBz4 := Nat.lt_of_lt_of_le hBz3 b4.size
  clear HA3 hA3 B3 b4 HA2 hA2 B2 HG3 b3

  go_wp2_with (refine load_blk (k := 2) 48 (nmC p) (by rfl) rfl rfl HA4 (by kernel_rfl) (by kernel_rfl) rfl ?_)
  refine (HN2.out _).mono ?_
  rintro e w5 ⟨rfl, b5⟩
  have HA5 := HA4.kept b5
  have hA5 := hA4.kept b5
  have B5 := B4.trans (b5.mono B4.size)
  have hBz5 := Nat.lt_of_lt_of_le hBz4 b5.size
  clear HA4 hA4 B4 b5
  go_wp2_with (refine sliceL_st ⟨(nmW p).toArray⟩ rfl rfl rfl (fun w6 HG6 b6 hlt6 => ?_); have HA6 := HA5.kept b6; have hA6 := hA5.kept b6; have B6 := B5.trans (b6.mono B5.size); have hBz6 := Nat.lt_of_lt_of_le hBz5 b6.size)
  refine (add_one B 2 ⟨(nmW p).toArray⟩ ([] ++ [_]) _ _ hA6 HG6 (by simp)).mono ?_
  rintro e w7 ⟨rfl, hA7, b7, -⟩
  have HA7 := HA6.below b7 hlt0
  have B7 := B6.trans (b7.mono hwB)
  have hBz7 := Nat.lt_of_lt_of_le hBz6 b7.size
  clear HA6 hA6 B6 b7 HA5 hA5 B5 HG6 b6
  have c4 := HA7.cv 4 (.int .i64 tt) rfl

  go_wp2_with fail
  refine (HN3.out _).mono ?_
  rintro e w8 ⟨rfl, b8⟩
  have HA8 := HA7.kept b8
  have hA8 := hA7.kept b8
  have B8 := B7.trans (b8.mono B7.size)
  have hBz8 := Nat.lt_of_lt_of_le hBz7 b8.size
  clear HA7 hA7 B7 b8
  go_wp2_with (refine sliceL_st ⟨(putL tt.toNat 2).toArray⟩ rfl rfl rfl (fun w9 HG9 b9 hlt9 => ?_); have HA9 := HA8.kept b9; have hA9 := hA8.kept b9; have B9 := B8.trans (b9.mono B8.size); have hBz9 := Nat.lt_of_lt_of_le hBz8 b9.size)
  refine (add_one B 3 ⟨(putL tt.toNat 2).toArray⟩ ([] ++ [_] ++ [_]) _ _ hA9 HG9 (by simp)).mono ?_
  rintro e w10 ⟨rfl, hA10, b10, -⟩
  have HA10 := HA9.below b10 hlt0
  have B10 := B9.trans (b10.mono hwB)
  have hBz10 := Nat.lt_of_lt_of_le hBz9 b10.size
  clear HA9 hA9 B9 b10 HA8 hA8 B8 HG9 b9
  obtain ⟨L, hL⟩ : ∃ L, L = ldHead ⟨x, p, tt, de, ho, sy, ca, ma, og⟩ := ⟨_, rfl⟩
  have hA10 : AcTl w10 B L := by rw [hL]; exact hA10
  have hLn : L.length = 3 := by rw [hL]; rfl
  have HLL := Lib.hid hL
  clear hL
  have c5 := HA10.cv 5 (.slice qd de.length qdc) rfl
  go_wp2_with fail
  refine (add_far B 4 qd qdc de (L) w _ hA10 i1 B10 hwB (by (try simp only [List.length_append, kTl_len]); omega)).mono ?_
  rintro e w11 ⟨rfl, hA11, b11, -⟩
  have HA11 := HA10.below b11 hlt0
  have B11 := B10.trans (b11.mono hwB)
  have hBz11 := Nat.lt_of_lt_of_le hBz10 b11.size
  clear HA10 hA10 B10 b11 c5
  have c6 := HA11.cv 6 (.slice qh ho.length qhc) rfl
  go_wp2_with fail
  refine (add_far B 5 qh qhc ho (L ++ kTl 4 de) w _ hA11 i2 B11 hwB (by (try simp only [List.length_append, kTl_len]); omega)).mono ?_
  rintro e w12 ⟨rfl, hA12, b12, -⟩
  have HA12 := HA11.below b12 hlt0
  have B12 := B11.trans (b12.mono hwB)
  have hBz12 := Nat.lt_of_lt_of_le hBz11 b12.size
  clear HA11 hA11 B11 b12 c6
  have c7 := HA12.cv 7 (.slice qs sy.length qsc) rfl
  go_wp2_with fail
  refine (add_far B 6 qs qsc sy (L ++ kTl 4 de ++ kTl 5 ho) w _ hA12 i3 B12 hwB (by (try simp only [List.length_append, kTl_len]); omega)).mono ?_
  rintro e w13 ⟨rfl, hA13, b13, -⟩
  have HA13 := HA12.below b13 hlt0
  have B13 := B12.trans (b13.mono hwB)
  have hBz13 := Nat.lt_of_lt_of_le hBz12 b13.size
  clear HA12 hA12 B12 b13 c7
  generalize hL2 : L ++ kTl 4 de ++ kTl 5 ho ++ kTl 6 sy = L2 at *
  have hL2n : L2.length ≤ 6 := by rw [← hL2]; simp only [List.length_append, kTl_len]; omega
  have HL2 := Lib.hid hL2
  clear hL2 hLn
  have c8 := HA13.cv 8 (.slice qc ca.length qcc) rfl
  go_wp2_with fail
  go_loopw [45] (fun i wr => ∃ k : Nat, k ≤ ca.length ∧ i = .int .i64 k ∧ Blk wr w.heap.size 54 (ldC ⟨x, p, tt, de, ho, sy, ca, ma, og⟩ ⟨(qd, qdc), (qh, qhc), (qs, qsc), (qc, qcc), (qm, qmc), (qo, qoc)⟩) ∧ AcTl wr B (L2 ++ (ca.take k).map cpTl) ∧ Below w.heap.size w wr ∧ B < wr.heap.size) (fun i _ => ca.length - (intOf i).toNat)
  case atStart => exact ⟨0, by omega, rfl, HA13, by rw [List.take_zero, List.map_nil, List.append_nil]; exact hA13, B13, hBz13⟩
  case round =>
    clear HA13 hA13 B13 c8 hBz13
    obtain ⟨k, hk, rfl, HAk, hAk, Bk, hBk⟩ := hrel
    by_cases hlt : k < ca.length
    · have hIk := i4.below Bk
      obtain ⟨b, lo, rfl, hbl, hat⟩ := hIk.at hlt
      have q1 : (k : Int) < (ca.length : Int) := by omega
      have q2 : decide ((k : Int) < (ca.length : Int)) = true := decide_eq_true q1
      have q3 : (0 : Int) ≤ (k : Int) := by omega
      have hsw := Bk.size
      have HK := hat k hlt
      have HT := Lib.hid (map_take1 cpTl ca k hlt)
      have hP := P7.out k hlt
      have hln : Hid ((L2 ++ (ca.take k).map cpTl).length ≤ 100) := by
        show _ ≤ _
        rw [List.length_append, List.length_map, List.length_take]
        omega
      have HV4 := Blk.new wr 110 (cpC zCp)
      have B4 : Below wr.heap.size wr (wr.alloc (.cells (cpC zCp) 110)) := (Below.refl _ _).alloc (Nat.le_refl _) _
      generalize ca[k] = y at *
      clear hat hIk
      go_upto_region 12 with (first
        | (refine load_cells (B := b) (k := lo + k * 2) 110 (cpC y) (by rfl) rfl rfl HK (by kernel_rfl) (by kernel_rfl) ?_)
        | (refine alloc_blk 110 (cpC zCp) (by rfl) rfl Tryd.cpZero ?_)
        | (refine store_blk (k := 0) 110 (.agg (cpC y)) (cpC y) (by rfl) rfl rfl rfl HV4 (by kernel_rfl) (show (2 : Nat) ≤ 2 from Nat.le_refl 2) (by rfl) (st_whole _ _ rfl) ?_; intro w5 HV5 b5 g5))
      have b5' := B4.trans b5
      have HA5 := HAk.kept b5'
      have hA5 := hAk.kept b5'
      have B5 := Bk.trans (b5'.mono hsw)
      have hB5 := Nat.lt_of_lt_of_le hBk b5'.size
      clear HV4 B4 b5 g5 b5' HK HAk hAk Bk
      generalize wr.heap.size = V at *
      have HM0 := Lib.hid (fun W => must_i2 y.h W hP.1.1 hP.1.2)
      have HM1 := Lib.hid (fun W => must_i2 y.o W hP.2.1 hP.2.2)
      have HY : Hid (cpTl y = ⟨7, ⟨(cpW y).toArray⟩⟩) := rfl
      have p1 : ∀ W, (Op.stringOp .add ⟨(putL y.h.toNat 2).toArray⟩ ⟨(putL y.o.toNat 2).toArray⟩).run Tryd.prog W = .ok (.string ⟨(cpW y).toArray⟩) W := fun W => run_string_add_lists W (putL y.h.toNat 2) (putL y.o.toNat 2) (by rw [putL_length]; omega) (by rw [putL_length]; omega)
      rw [HY.out] at HT
      generalize putL y.h.toNat 2 = y0 at *
      generalize putL y.o.toNat 2 = y1 at *
      generalize cpW y = z at *
      clear HY hP
      refine wp_region_noPanic ?_
      refine wp_region_held_drew (S := (fun w' => Blk w' V 110 (cpC y))) (by kernel_rfl) ?_ (fun hHeld => ?_)
      · exact HV5.drew
      refine wpAnyH_take (i := 0) (v := ?_) rfl (by kernel_rfl) (by kernel_rfl) (by kernel_rfl) (fun _ _ _ h => h) (Or.inl ⟨by rfl, ?_⟩) (by assumption) ?_
      rotate_left
      · (intro w hSw; (try dsimp only at hSw); go_simp; (try with_reducible rfl))
      (try simp only [Act.put, List.getElem_toArray, List.getElem_cons_zero, List.getElem_cons_succ, List.setIfInBounds_toArray, List.set_cons_zero, List.set_cons_succ])
      refine wpAnyH_take (i := 1) (v := ?_) rfl (by kernel_rfl) (by kernel_rfl) (by kernel_rfl) (fun _ _ _ h => h) (Or.inl ⟨by rfl, ?_⟩) (by assumption) ?_
      rotate_left
      · (intro w hSw; (try dsimp only at hSw); go_simp; (try with_reducible rfl))
      (try simp only [Act.put, List.getElem_toArray, List.getElem_cons_zero, List.getElem_cons_succ, List.setIfInBounds_toArray, List.set_cons_zero, List.set_cons_succ])
      refine wpAnyH_take (i := 2) (v := .int .i64 y.h) rfl (by kernel_rfl) (by kernel_rfl) (by kernel_rfl) (fun _ _ _ h => h) (Or.inl ⟨by rfl, fun w hSw => by have c := hSw.cv 0 (.int .i64 y.h) rfl; go_simp⟩) (by assumption) ?_
      (try simp only [Act.put, List.getElem_toArray, List.getElem_cons_zero, List.getElem_cons_succ, List.setIfInBounds_toArray, List.set_cons_zero, List.set_cons_succ])
      refine wpAnyH_take (i := 4) (v := ?_) rfl (by kernel_rfl) (by kernel_rfl) (by kernel_rfl) (fun _ _ _ h => h) (Or.inl ⟨by rfl, ?_⟩) (by assumption) ?_
      rotate_left
      · (intro w hSw; (try dsimp only at hSw); go_simp; (try with_reducible rfl))
      (try simp only [Act.put, List.getElem_toArray, List.getElem_cons_zero, List.getElem_cons_succ, List.setIfInBounds_toArray, List.set_cons_zero, List.set_cons_succ])
      refine wpAnyH_take (i := 5) (v := .int .i64 y.o) rfl (by kernel_rfl) (by kernel_rfl) (by kernel_rfl) (fun _ _ _ h => h) (Or.inl ⟨by rfl, fun w hSw => by have c := hSw.cv 1 (.int .i64 y.o) rfl; go_simp⟩) (by assumption) ?_
      (try simp only [Act.put, List.getElem_toArray, List.getElem_cons_zero, List.getElem_cons_succ, List.setIfInBounds_toArray, List.set_cons_zero, List.set_cons_succ])
      refine wpAnyH_ready (rs := [3]) (by kernel_rfl) (by simp) ?_
      refine AllReadyH.cons rfl (fun K hK => ?_) AllReadyH.nil
      simp only [List.getElem_toArray, List.getElem_cons_zero, List.getElem_cons_succ]
      go_simp
      go_at_call 39; (with_reducible refine (HM0.out _).mono ?_); rintro e w6 ⟨rfl, b6⟩; have HV6 := HV5.drew.kept b6; have HA6 := HA5.drew.kept b6; have hA6 := hA5.drew.kept b6; have B6 := B5.drew.trans (b6.mono B5.drew.size); have hB6 := Nat.lt_of_lt_of_le (show B < w5.heap.size from hB5) b6.size
      refine hK.out _ _ ?_ (fun hHeld => ?_)
      · exact HV6
      clear hK K
      (try simp only [Act.put, List.getElem_toArray, List.getElem_cons_zero, List.getElem_cons_succ, List.setIfInBounds_toArray, List.set_cons_zero, List.set_cons_succ])
      refine wpAnyH_ready (rs := [6]) (by kernel_rfl) (by simp) ?_
      refine AllReadyH.cons rfl (fun K hK => ?_) AllReadyH.nil
      simp only [List.getElem_toArray, List.getElem_cons_zero, List.getElem_cons_succ]
      go_simp
      go_at_call 39; (with_reducible refine (HM1.out _).mono ?_); rintro e w7 ⟨rfl, b7⟩; have HV7 := HV6.kept b7; have HA7 := HA6.kept b7; have hA7 := hA6.kept b7; have B7 := B6.trans (b7.mono B6.size); have hB7 := Nat.lt_of_lt_of_le (show B < w6.heap.size from hB6) b7.size
      refine hK.out _ _ ?_ (fun hHeld => ?_)
      · exact HV7
      clear hK K
      (try simp only [Act.put, List.getElem_toArray, List.getElem_cons_zero, List.getElem_cons_succ, List.setIfInBounds_toArray, List.set_cons_zero, List.set_cons_succ])
      refine wpAnyH_take (i := 7) (v := .string ⟨z.toArray⟩) rfl (by kernel_rfl) (by kernel_rfl) (by kernel_rfl) (fun _ _ _ h => h) (Or.inl ⟨by rfl, fun w hSw => by go_simp⟩) (by assumption) ?_
      (try simp only [Act.put, List.getElem_toArray, List.getElem_cons_zero, List.getElem_cons_succ, List.setIfInBounds_toArray, List.set_cons_zero, List.set_cons_succ])
      refine wpAnyH_ready (rs := [8]) (by kernel_rfl) (by simp) ?_
      refine AllReadyH.cons rfl (fun K hK => ?_) AllReadyH.nil
      simp only [List.getElem_toArray, List.getElem_cons_zero, List.getElem_cons_succ]
      rw [if_pos (by rfl)]
      refine slice_st ⟨z.toArray⟩ rfl rfl (fun w8 HG8 b8 hlt8 => ?_)
      have HV8 := HV7.kept b8
      have HA8 := HA7.kept b8
      have hA8 := hA7.kept b8
      have B8 := B7.trans (b8.mono B7.size)
      have hB8 := Nat.lt_of_lt_of_le hB7 b8.size
      refine hK.out _ _ ?_ (fun hHeld => ?_)
      · exact HV8
      clear hK K
      (try simp only [Act.put, List.getElem_toArray, List.getElem_cons_zero, List.getElem_cons_succ, List.setIfInBounds_toArray, List.set_cons_zero, List.set_cons_succ])
      refine wpAnyH_ready (rs := [9]) (by kernel_rfl) (by simp) ?_
      refine AllReadyH.cons rfl (fun K hK => ?_) AllReadyH.nil
      simp only [List.getElem_toArray, List.getElem_cons_zero, List.getElem_cons_succ]
      go_simp
      refine (add_one B 7 ⟨z.toArray⟩ _ _ _ hA8 HG8 (by have := hln.out; omega)).mono ?_
      rintro e wz ⟨rfl, hAz, bz, Kz⟩
      have HAz := HA8.below bz hlt0
      have Bz := B8.trans (bz.mono hwB)
      have hBzz := Nat.lt_of_lt_of_le hB8 bz.size
      have HVz := Kz _ _ _ HV8 (by decide) (by decide)
      refine hK.out _ _ ?_ (fun hHeld => ?_)
      · exact HVz
      clear hK K
      (try simp only [Act.put, List.getElem_toArray, List.getElem_cons_zero, List.getElem_cons_succ, List.setIfInBounds_toArray, List.set_cons_zero, List.set_cons_succ])
      refine wpAnyH_done (by kernel_rfl) ?_ _
      refine NoPanic.normal ?_
      go_wp2
      go_roundw
      case rel => exact ⟨k + 1, by omega, by go_num, HAz, by rw [HT.out, ← List.append_assoc]; exact hAz, Bz, hBzz⟩
      case measure => simp [intOf]; omega
    · obtain rfl : k = ca.length := by omega
      have q2 : decide ((ca.length : Int) < (ca.length : Int)) = false := decide_eq_false (by omega)
      rw [List.take_length] at hAk
      generalize hL3 : L2 ++ ca.map cpTl = L3 at *
      have hL3n : L3.length ≤ 7 := by rw [← hL3, List.length_append, List.length_map]; omega
      have HL3 := Lib.hid hL3
      have HA14 := HAk
      have hA14 := hAk
      have B14 := Bk
      have hBz14 := hBk
      obtain ⟨w14, hw14⟩ : ∃ z, z = wr := ⟨_, rfl⟩
      subst hw14
      clear hL3 hL2n HAk hAk Bk hBk q2 hlt hk
      have c9 := HA14.cv 9 (.slice qm ma.length qmc) rfl
      go_wp2_with fail
      go_loopw [63] (fun i wr => ∃ k : Nat, k ≤ ma.length ∧ i = .int .i64 k ∧ Blk wr w.heap.size 54 (ldC ⟨x, p, tt, de, ho, sy, ca, ma, og⟩ ⟨(qd, qdc), (qh, qhc), (qs, qsc), (qc, qcc), (qm, qmc), (qo, qoc)⟩) ∧ AcTl wr B (L3 ++ (ma.take k).map mgTl) ∧ Below w.heap.size w wr ∧ B < wr.heap.size) (fun i _ => ma.length - (intOf i).toNat)
      case atStart => exact ⟨0, by omega, rfl, HA14, by rw [List.take_zero, List.map_nil, List.append_nil]; exact hA14, B14, hBz14⟩
      case round =>
        clear HA14 hA14 B14 c9 hBz14
        obtain ⟨k, hk, rfl, HAk, hAk, Bk, hBk⟩ := hrel
        by_cases hlt : k < ma.length
        · have hIk := i5.below Bk
          obtain ⟨b, lo, rfl, hbl, hat⟩ := hIk.at hlt
          have q1 : (k : Int) < (ma.length : Int) := by omega
          have q2 : decide ((k : Int) < (ma.length : Int)) = true := decide_eq_true q1
          have q3 : (0 : Int) ≤ (k : Int) := by omega
          have hsw := Bk.size
          have HK := hat k hlt
          have HT := Lib.hid (map_take1 mgTl ma k hlt)
          have hP := P8.out k hlt
          have hln : Hid ((L3 ++ (ma.take k).map mgTl).length ≤ 100) := by
            show _ ≤ _
            rw [List.length_append, List.length_map, List.length_take]
            omega
          have HV4 := Blk.new wr 114 (mgC zMg)
          have B4 : Below wr.heap.size wr (wr.alloc (.cells (mgC zMg) 114)) := (Below.refl _ _).alloc (Nat.le_refl _) _
          generalize ma[k] = y at *
          clear hat hIk
          go_upto_region 17 with (first
            | (refine load_cells (B := b) (k := lo + k * 5) 114 (mgC y) (by rfl) rfl rfl HK (by kernel_rfl) (by kernel_rfl) ?_)
            | (refine alloc_blk 114 (mgC zMg) (by rfl) rfl Tryd.mgZero ?_)
            | (refine store_blk (k := 0) 114 (.agg (mgC y)) (mgC y) (by rfl) rfl rfl rfl HV4 (by kernel_rfl) (show (5 : Nat) ≤ 5 from Nat.le_refl 5) (by rfl) (st_whole _ _ rfl) ?_; intro w5 HV5 b5 g5))
          have b5' := B4.trans b5
          have HA5 := HAk.kept b5'
          have hA5 := hAk.kept b5'
          have B5 := Bk.trans (b5'.mono hsw)
          have hB5 := Nat.lt_of_lt_of_le hBk b5'.size
          clear HV4 B4 b5 g5 b5' HK HAk hAk Bk
          generalize wr.heap.size = V at *
          have HM := Lib.hid (fun W => manageText_any y W (by omega) (by omega) (by omega) (by omega) (by omega) (by omega) (by omega) (by omega))
          have HY : Hid (mgTl y = ⟨8, ⟨(mgW y).toArray⟩⟩) := rfl
          rw [HY.out] at HT
          generalize mgW y = z at *
          clear HY hP
          go_wp2_with (refine load_blk (k := 0) 114 (mgC y) (by rfl) rfl rfl HV5 (by kernel_rfl) (by kernel_rfl) rfl ?_)
          refine (HM.out _).mono ?_
          rintro e w6 ⟨rfl, b6⟩
          have HA6 := HA5.kept b6
          have hA6 := hA5.kept b6
          have B6 := B5.trans (b6.mono B5.size)
          have hB6 := Nat.lt_of_lt_of_le hB5 b6.size
          go_wp2_with (refine sliceL_st ⟨z.toArray⟩ rfl rfl rfl (fun w7 HG7 b7 hlt7 => ?_); have HA7 := HA6.kept b7; have hA7 := hA6.kept b7; have B7 := B6.trans (b7.mono B6.size); have hB7 := Nat.lt_of_lt_of_le hB6 b7.size)
          refine (add_one B 8 ⟨z.toArray⟩ _ _ _ hA7 HG7 (by have := hln.out; omega)).mono ?_
          rintro e wz ⟨rfl, hAz, bz, Kz⟩
          have HAz := HA7.below bz hlt0
          have Bz := B7.trans (bz.mono hwB)
          have hBzz := Nat.lt_of_lt_of_le hB7 bz.size
          go_wp2
          go_roundw
          case rel => exact ⟨k + 1, by omega, by go_num, HAz, by rw [HT.out, ← List.append_assoc]; exact hAz, Bz, hBzz⟩
          case measure => simp [intOf]; omega
        · obtain rfl : k = ma.length := by omega
          have q2 : decide ((ma.length : Int) < (ma.length : Int)) = false := decide_eq_false (by omega)
          rw [List.take_length] at hAk
          generalize hL4 : L3 ++ ma.map mgTl = L4 at *
          have hL4n : L4.length ≤ 27 := by rw [← hL4, List.length_append, List.length_map]; omega
          have HL4 := Lib.hid hL4
          have HA15 := HAk
          have hA15 := hAk
          have B15 := Bk
          have hBz15 := hBk
          obtain ⟨w15, hw15⟩ : ∃ z, z = wr := ⟨_, rfl⟩
          subst hw15
          clear hL4 hL3n HAk hAk Bk hBk q2 hlt hk
          have c10 := HA15.cv 10 (.slice qo og.length qoc) rfl
          go_wp2_with fail
          go_loopw [76] (fun i wr => ∃ k : Nat, k ≤ og.length ∧ i = .int .i64 k ∧ Blk wr w.heap.size 54 (ldC ⟨x, p, tt, de, ho, sy, ca, ma, og⟩ ⟨(qd, qdc), (qh, qhc), (qs, qsc), (qc, qcc), (qm, qmc), (qo, qoc)⟩) ∧ AcTl wr B (L4 ++ (og.take k).map ogTl) ∧ Below w.heap.size w wr ∧ B < wr.heap.size) (fun i _ => og.length - (intOf i).toNat)
          case atStart => exact ⟨0, by omega, rfl, HA15, by rw [List.take_zero, List.map_nil, List.append_nil]; exact hA15, B15, hBz15⟩
          case round =>
            clear HA15 hA15 B15 c10 hBz15
            obtain ⟨k, hk, rfl, HAk, hAk, Bk, hBk⟩ := hrel
            by_cases hlt : k < og.length
            · have hIk := i6.below Bk
              obtain ⟨b, lo, rfl, hbl, hat⟩ := hIk.at hlt
              have q1 : (k : Int) < (og.length : Int) := by omega
              have q2 : decide ((k : Int) < (og.length : Int)) = true := decide_eq_true q1
              have q3 : (0 : Int) ≤ (k : Int) := by omega
              have hsw := Bk.size
              have HK := hat k hlt
              have HT := Lib.hid (map_take1 ogTl og k hlt)
              have hP := P9.out k hlt
              have hln : Hid ((L4 ++ (og.take k).map ogTl).length ≤ 100) := by
                show _ ≤ _
                rw [List.length_append, List.length_map, List.length_take]
                omega
              have HV4 := Blk.new wr 61 (ogC zOg)
              have B4 : Below wr.heap.size wr (wr.alloc (.cells (ogC zOg) 61)) := (Below.refl _ _).alloc (Nat.le_refl _) _
              generalize og[k] = y at *
              clear hat hIk
              go_upto_region 22 with (first
                | (refine load_cells (B := b) (k := lo + k * 3) 61 (ogC y) (by rfl) rfl rfl HK (by kernel_rfl) (by kernel_rfl) ?_)
                | (refine alloc_blk 61 (ogC zOg) (by rfl) rfl Tryd.ogZero ?_)
                | (refine store_blk (k := 0) 61 (.agg (ogC y)) (ogC y) (by rfl) rfl rfl rfl HV4 (by kernel_rfl) (show (3 : Nat) ≤ 3 from Nat.le_refl 3) (by rfl) (st_whole _ _ rfl) ?_; intro w5 HV5 b5 g5))
              have b5' := B4.trans b5
              have HA5 := HAk.kept b5'
              have hA5 := hAk.kept b5'
              have B5 := Bk.trans (b5'.mono hsw)
              have hB5 := Nat.lt_of_lt_of_le hBk b5'.size
              clear HV4 B4 b5 g5 b5' HK HAk hAk Bk
              generalize wr.heap.size = V at *
              have HM0 := Lib.hid (fun W => must_i3 y.ou W hP.1.1 hP.1.2)
              have HM1 := Lib.hid (fun W => must_i1 y.su W hP.2.1.1 hP.2.1.2)
              have HY : Hid (ogTl y = ⟨127, ⟨(ogW y).toArray⟩⟩) := rfl
              have hpz := hP.2.2
              have p1 : ∀ W, (Op.stringOp .add ⟨(putL y.ou.toNat 3).toArray⟩ ⟨(putL y.su.toNat 1).toArray⟩).run Tryd.prog W = .ok (.string ⟨(putL y.ou.toNat 3 ++ putL y.su.toNat 1).toArray⟩) W := fun W => run_string_add_lists W (putL y.ou.toNat 3) (putL y.su.toNat 1) (by rw [putL_length]; omega) (by rw [putL_length]; omega)
              have p2 : ∀ W, (Op.stringOp .add ⟨(putL y.ou.toNat 3 ++ putL y.su.toNat 1).toArray⟩ y.nf).run Tryd.prog W = .ok (.string ⟨(ogW y).toArray⟩) W := fun W => run_string_add_lists W (putL y.ou.toNat 3 ++ putL y.su.toNat 1) y.nf.data.toList (by rw [List.length_append, putL_length, putL_length]; omega) (by simp; omega)
              rw [HY.out] at HT
              generalize putL y.ou.toNat 3 ++ putL y.su.toNat 1 = y2 at *
              generalize putL y.ou.toNat 3 = y0 at *
              generalize putL y.su.toNat 1 = y1 at *
              generalize ogW y = z at *
              clear HY hP hpz
              refine wp_region_noPanic ?_
              refine wp_region_held_drew (S := (fun w' => Blk w' V 61 (ogC y))) (by kernel_rfl) ?_ (fun hHeld => ?_)
              · exact HV5.drew
              refine wpAnyH_take (i := 0) (v := ?_) rfl (by kernel_rfl) (by kernel_rfl) (by kernel_rfl) (fun _ _ _ h => h) (Or.inl ⟨by rfl, ?_⟩) (by assumption) ?_
              rotate_left
              · (intro w hSw; (try dsimp only at hSw); go_simp; (try with_reducible rfl))
              (try simp only [Act.put, List.getElem_toArray, List.getElem_cons_zero, List.getElem_cons_succ, List.setIfInBounds_toArray, List.set_cons_zero, List.set_cons_succ])
              refine wpAnyH_take (i := 1) (v := ?_) rfl (by kernel_rfl) (by kernel_rfl) (by kernel_rfl) (fun _ _ _ h => h) (Or.inl ⟨by rfl, ?_⟩) (by assumption) ?_
              rotate_left
              · (intro w hSw; (try dsimp only at hSw); go_simp; (try with_reducible rfl))
              (try simp only [Act.put, List.getElem_toArray, List.getElem_cons_zero, List.getElem_cons_succ, List.setIfInBounds_toArray, List.set_cons_zero, List.set_cons_succ])
              refine wpAnyH_take (i := 2) (v := .int .i64 y.ou) rfl (by kernel_rfl) (by kernel_rfl) (by kernel_rfl) (fun _ _ _ h => h) (Or.inl ⟨by rfl, fun w hSw => by have c := hSw.cv 0 (.int .i64 y.ou) rfl; go_simp⟩) (by assumption) ?_
              (try simp only [Act.put, List.getElem_toArray, List.getElem_cons_zero, List.getElem_cons_succ, List.setIfInBounds_toArray, List.set_cons_zero, List.set_cons_succ])
              refine wpAnyH_take (i := 4) (v := ?_) rfl (by kernel_rfl) (by kernel_rfl) (by kernel_rfl) (fun _ _ _ h => h) (Or.inl ⟨by rfl, ?_⟩) (by assumption) ?_
              rotate_left
              · (intro w hSw; (try dsimp only at hSw); go_simp; (try with_reducible rfl))
              (try simp only [Act.put, List.getElem_toArray, List.getElem_cons_zero, List.getElem_cons_succ, List.setIfInBounds_toArray, List.set_cons_zero, List.set_cons_succ])
              refine wpAnyH_take (i := 5) (v := .int .i64 y.su) rfl (by kernel_rfl) (by kernel_rfl) (by kernel_rfl) (fun _ _ _ h => h) (Or.inl ⟨by rfl, fun w hSw => by have c := hSw.cv 1 (.int .i64 y.su) rfl; go_simp⟩) (by assumption) ?_
              (try simp only [Act.put, List.getElem_toArray, List.getElem_cons_zero, List.getElem_cons_succ, List.setIfInBounds_toArray, List.set_cons_zero, List.set_cons_succ])
              refine wpAnyH_take (i := 8) (v := ?_) rfl (by kernel_rfl) (by kernel_rfl) (by kernel_rfl) (fun _ _ _ h => h) (Or.inl ⟨by rfl, ?_⟩) (by assumption) ?_
              rotate_left
              · (intro w hSw; (try dsimp only at hSw); go_simp; (try with_reducible rfl))
              (try simp only [Act.put, List.getElem_toArray, List.getElem_cons_zero, List.getElem_cons_succ, List.setIfInBounds_toArray, List.set_cons_zero, List.set_cons_succ])
              refine wpAnyH_take (i := 9) (v := .string y.nf) rfl (by kernel_rfl) (by kernel_rfl) (by kernel_rfl) (fun _ _ _ h => h) (Or.inl ⟨by rfl, fun w hSw => by have c := hSw.cv 2 (.string y.nf) rfl; go_simp⟩) (by assumption) ?_
              (try simp only [Act.put, List.getElem_toArray, List.getElem_cons_zero, List.getElem_cons_succ, List.setIfInBounds_toArray, List.set_cons_zero, List.set_cons_succ])
              refine wpAnyH_ready (rs := [3]) (by kernel_rfl) (by simp) ?_
              refine AllReadyH.cons rfl (fun K hK => ?_) AllReadyH.nil
              simp only [List.getElem_toArray, List.getElem_cons_zero, List.getElem_cons_succ]
              go_simp
              go_at_call 39; (with_reducible refine (HM0.out _).mono ?_); rintro e w6 ⟨rfl, b6⟩; have HV6 := HV5.drew.kept b6; have HA6 := HA5.drew.kept b6; have hA6 := hA5.drew.kept b6; have B6 := B5.drew.trans (b6.mono B5.drew.size); have hB6 := Nat.lt_of_lt_of_le (show B < w5.heap.size from hB5) b6.size
              refine hK.out _ _ ?_ (fun hHeld => ?_)
              · exact HV6
              clear hK K
              (try simp only [Act.put, List.getElem_toArray, List.getElem_cons_zero, List.getElem_cons_succ, List.setIfInBounds_toArray, List.set_cons_zero, List.set_cons_succ])
              refine wpAnyH_ready (rs := [6]) (by kernel_rfl) (by simp) ?_
              refine AllReadyH.cons rfl (fun K hK => ?_) AllReadyH.nil
              simp only [List.getElem_toArray, List.getElem_cons_zero, List.getElem_cons_succ]
              go_simp
              go_at_call 39; (with_reducible refine (HM1.out _).mono ?_); rintro e w7 ⟨rfl, b7⟩; have HV7 := HV6.kept b7; have HA7 := HA6.kept b7; have hA7 := hA6.kept b7; have B7 := B6.trans (b7.mono B6.size); have hB7 := Nat.lt_of_lt_of_le (show B < w6.heap.size from hB6) b7.size
              refine hK.out _ _ ?_ (fun hHeld => ?_)
              · exact HV7
              clear hK K
              (try simp only [Act.put, List.getElem_toArray, List.getElem_cons_zero, List.getElem_cons_succ, List.setIfInBounds_toArray, List.set_cons_zero, List.set_cons_succ])
              refine wpAnyH_take (i := 7) (v := .string ⟨y2.toArray⟩) rfl (by kernel_rfl) (by kernel_rfl) (by kernel_rfl) (fun _ _ _ h => h) (Or.inl ⟨by rfl, fun w hSw => by go_simp⟩) (by assumption) ?_
              (try simp only [Act.put, List.getElem_toArray, List.getElem_cons_zero, List.getElem_cons_succ, List.setIfInBounds_toArray, List.set_cons_zero, List.set_cons_succ])
              refine wpAnyH_take (i := 10) (v := .string ⟨z.toArray⟩) rfl (by kernel_rfl) (by kernel_rfl) (by kernel_rfl) (fun _ _ _ h => h) (Or.inl ⟨by rfl, fun w hSw => by go_simp⟩) (by assumption) ?_
              (try simp only [Act.put, List.getElem_toArray, List.getElem_cons_zero, List.getElem_cons_succ, List.setIfInBounds_toArray, List.set_cons_zero, List.set_cons_succ])
              refine wpAnyH_ready (rs := [11]) (by kernel_rfl) (by simp) ?_
              refine AllReadyH.cons rfl (fun K hK => ?_) AllReadyH.nil
              simp only [List.getElem_toArray, List.getElem_cons_zero, List.getElem_cons_succ]
              rw [if_pos (by rfl)]
              refine slice_st ⟨z.toArray⟩ rfl rfl (fun w8 HG8 b8 hlt8 => ?_)
              have HV8 := HV7.kept b8
              have HA8 := HA7.kept b8
              have hA8 := hA7.kept b8
              have B8 := B7.trans (b8.mono B7.size)
              have hB8 := Nat.lt_of_lt_of_le hB7 b8.size
              refine hK.out _ _ ?_ (fun hHeld => ?_)
              · exact HV8
              clear hK K
              (try simp only [Act.put, List.getElem_toArray, List.getElem_cons_zero, List.getElem_cons_succ, List.setIfInBounds_toArray, List.set_cons_zero, List.set_cons_succ])
              refine wpAnyH_ready (rs := [12]) (by kernel_rfl) (by simp) ?_
              refine AllReadyH.cons rfl (fun K hK => ?_) AllReadyH.nil
              simp only [List.getElem_toArray, List.getElem_cons_zero, List.getElem_cons_succ]
              go_simp
              refine (add_one B 127 ⟨z.toArray⟩ _ _ _ hA8 HG8 (by have := hln.out; omega)).mono ?_
              rintro e wz ⟨rfl, hAz, bz, Kz⟩
              have HAz := HA8.below bz hlt0
              have Bz := B8.trans (bz.mono hwB)
              have hBzz := Nat.lt_of_lt_of_le hB8 bz.size
              have HVz := Kz _ _ _ HV8 (by decide) (by decide)
              refine hK.out _ _ ?_ (fun hHeld => ?_)
              · exact HVz
              clear hK K
              (try simp only [Act.put, List.getElem_toArray, List.getElem_cons_zero, List.getElem_cons_succ, List.setIfInBounds_toArray, List.set_cons_zero, List.set_cons_succ])
              refine wpAnyH_done (by kernel_rfl) ?_ _
              refine NoPanic.normal ?_
              go_wp2
              go_roundw
              case rel => exact ⟨k + 1, by omega, by go_num, HAz, by rw [HT.out, ← List.append_assoc]; exact hAz, Bz, hBzz⟩
              case measure => simp [intOf]; omega
            · obtain rfl : k = og.length := by omega
              have q2 : decide ((og.length : Int) < (og.length : Int)) = false := decide_eq_false (by omega)
              rw [List.take_length] at hAk
              obtain ⟨a9, c9, HB9, HO9⟩ := hAk
              have HT9 : TlIn wr a9 (L4 ++ og.map ogTl) := by
                obtain ⟨a', c', e1, e2⟩ := HO9.inL
                injection e1 with e1 _ _
                rw [e1]
                exact e2
              have hfin : Hid (L4 ++ og.map ogTl = ldTls ⟨x, p, tt, de, ho, sy, ca, ma, og⟩) := by
                show _ = _
                rw [← HL4.out, ← HL3.out, ← HL2.out, HLL.out]
                rfl
              rw [hfin.out] at HT9 HB9
              have c0 := HB9.cv 0 _ rfl
              go_wp2
              go_ret
              exact ⟨_, _, rfl, HT9, Bk⟩

end Go.Proofs.YticjmjoiggnblaaDoor
