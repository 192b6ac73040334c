/- Texts one behind the other. What a station tells, whole. lldp.records at what may be told. lldp.Right, part by part. lldp.isEach, isFew of string. lldp.isEach, isFew of api.Caps. lldp.isEach, isFew of api.Manage. lldp.isEach, isFew of api.Org. lldp.Right at every announcement. tlv.Right, and the reference's, at every record. A list of records that comes in. switchyardlaw.placed: an error that is this one, at this place. (apart: ErrAs, ErrAs.below, ErrAs.nil) -/
import Derived.Test.YtcijhmbimbejfaaGreatDoorLbK1
import Derived.Test.YtcijhmbimbejfaaGreatDoorLbK3
import Derived.ProofKit
import Derived.OpenShut
import Derived.WideKeyArgs
import Derived.WideShapes
import Derived.SizedLaws
import Derived.Lib.SmallJoins
import Derived.Deep.SlicePairs
namespace Go.Proofs.YtcijhmbimbejfaaGreatDoor
open Go.RowKit
attribute [local go_sem ↓] Go.wp_at_zero Go.wp_at_succ
set_option linter.unusedSimpArgs false
set_option linter.unusedVariables false
set_option maxRecDepth 100000

/-- Where the lists lie, and their room. -/
structure LdA where
  de : Option Addr × Nat
  ho : Option Addr × Nat
  sy : Option Addr × Nat
  ca : Option Addr × Nat
  ma : Option Addr × Nat
  og : Option Addr × Nat
def zLdA : LdA := ⟨(none, 0), (none, 0), (none, 0), (none, 0), (none, 0), (none, 0)⟩
def ldC (x : Ld) (q : LdA) : Array Value := #[.int .i64 x.ch.su, .string x.ch.id, .int .i64 x.po.su, .string x.po.id, .int .i64 x.tt, .slice q.de.1 x.de.length q.de.2, .slice q.ho.1 x.ho.length q.ho.2, .slice q.sy.1 x.sy.length q.sy.2, .slice q.ca.1 x.ca.length q.ca.2, .slice q.ma.1 x.ma.length q.ma.2, .slice q.og.1 x.og.length q.og.2]
def LdIn (w : World) (x : Ld) (q : LdA) : Prop := StIn w q.de.1 x.de ∧ StIn w q.ho.1 x.ho ∧ StIn w q.sy.1 x.sy ∧ CpIn w q.ca.1 x.ca ∧ MgIn w q.ma.1 x.ma ∧ OgIn w q.og.1 x.og
theorem LdIn.below {w w' : World} {x : Ld} {q : LdA} (h : LdIn w x q) (hb : Below w.heap.size w w') : LdIn w' x q :=
  ⟨h.1.below hb, h.2.1.below hb, h.2.2.1.below hb, h.2.2.2.1.below hb, h.2.2.2.2.1.below hb, h.2.2.2.2.2.below hb⟩
theorem LdIn.late {w0 w w' : World} {x : Ld} {q : LdA} (h : LdIn w x q) (h0 : LdIn w0 x q) (hb : Below w0.heap.size w w') : LdIn w' x q :=
  ⟨h.1.late h0.1 hb, h.2.1.late h0.2.1 hb, h.2.2.1.late h0.2.2.1 hb, h.2.2.2.1.late h0.2.2.2.1 hb, h.2.2.2.2.1.late h0.2.2.2.2.1 hb, h.2.2.2.2.2.late h0.2.2.2.2.2 hb⟩
/-- Numbers of 64 bits, lists that a machine holds. -/
def rgLd (x : Ld) : Prop := rgNm x.ch ∧ rgNm x.po ∧ i64R x.tt ∧ (∀ y ∈ x.ca, rgCp y) ∧ (∀ y ∈ x.ma, rgMg y) ∧ (∀ y ∈ x.og, rgOg y) ∧ x.de.length ≤ maxLen ∧ x.ho.length ≤ maxLen ∧ x.sy.length ≤ maxLen ∧ x.ca.length ≤ maxLen ∧ x.ma.length ≤ maxLen ∧ x.og.length ≤ maxLen
theorem Tryz.ldZero : (Tryz.prog.info? 29).map (·.zero) = some (some (.agg (ldC zLd zLdA))) := by kernel_rfl
theorem Tryz.ldSize : (Tryz.prog.info? 29).map (·.size) = some 11 := by kernel_rfl

end Go.Proofs.YtcijhmbimbejfaaGreatDoor

namespace Go.Proofs.YtcijhmbimbejfaaGreatDoor
open Go.RowKit
attribute [local go_sem ↓] Go.wp_at_zero Go.wp_at_succ
set_option linter.unusedSimpArgs false
set_option linter.unusedVariables false
set_option maxRecDepth 100000

def cpW (y : Cp) : List UInt8 := putL y.h.toNat 2 ++ putL y.o.toNat 2
def ogW (y : Og) : List UInt8 := (putL y.ou.toNat 3 ++ putL y.su.toNat 1) ++ y.nf.data.toList
def cpTl (y : Cp) : Tl := ⟨7, ⟨(cpW y).toArray⟩⟩
def mgTl (y : Mg) : Tl := ⟨8, ⟨(mgW y).toArray⟩⟩
def ogTl (y : Og) : Tl := ⟨127, ⟨(ogW y).toArray⟩⟩
def ldHead (x : Ld) : List Tl := [⟨1, ⟨(nmW x.ch).toArray⟩⟩, ⟨2, ⟨(nmW x.po).toArray⟩⟩, ⟨3, ⟨(putL x.tt.toNat 2).toArray⟩⟩]
/-- The records that tell it. -/
def ldTls (x : Ld) : List Tl := ldHead x ++ kTl 4 x.de ++ kTl 5 x.ho ++ kTl 6 x.sy ++ x.ca.map cpTl ++ x.ma.map mgTl ++ x.og.map ogTl
theorem map_take1 {α β : Type} (f : α → β) (l : List α) (k : Nat) (hk : k < l.length) : (l.take (k + 1)).map f = (l.take k).map f ++ [f l[k]] := by
  rw [List.take_add_one, List.getElem?_eq_getElem hk, List.map_append]
  rfl
theorem kTl_len (k : Int) (l : List ByteArray) : (kTl k l).length = l.length := by simp [kTl]
theorem wthn_all {x a b : Int} (h : wthn x a b = true) : a ≤ x ∧ x ≤ b := by simpa [wthn] using h
theorem okNm_all {x : Nm} (h : okNm x = true) : (1 ≤ x.su ∧ x.su ≤ 7) ∧ 1 ≤ x.id.size ∧ x.id.size ≤ 255 := by
  unfold okNm at h
  rw [Bool.and_eq_true] at h
  have h1 := wthn_all h.1
  have h2 := wthn_all h.2
  omega
theorem okCp_all {x : Cp} (h : okCp x = true) : (0 ≤ x.h ∧ x.h < 65536) ∧ (0 ≤ x.o ∧ x.o < 65536) := by
  unfold okCp at h
  rw [Bool.and_eq_true] at h
  have h1 : fitI 2 x.h = true ∧ fitI 2 x.o = true := by simpa using h.1
  exact ⟨fitI_all h1.1, fitI_all h1.2⟩
theorem okMg_all {x : Mg} (h : okMg x = true) : (0 ≤ x.asb ∧ x.asb < 256) ∧ (1 ≤ x.ai.size ∧ x.ai.size ≤ 31) ∧ (1 ≤ x.fs ∧ x.fs ≤ 3) ∧ (0 ≤ x.fi ∧ x.fi < 4294967296) ∧ x.oid.size ≤ 128 := by
  unfold okMg at h
  simp only [Bool.and_eq_true, decide_eq_true_eq] at h
  obtain ⟨h1, h2, h3, h4, h5⟩ := h
  have g1 := fitI_all h1
  have g2 := wthn_all h2
  have g3 := wthn_all h3
  have g4 := fitI_all h4
  have e1 : (256 : Int) ^ 1 = 256 := by decide
  have e4 : (256 : Int) ^ 4 = 4294967296 := by decide
  rw [e1] at g1
  rw [e4] at g4
  omega
theorem okOg_all {x : Og} (h : okOg x = true) : (0 ≤ x.ou ∧ x.ou < 16777216) ∧ (0 ≤ x.su ∧ x.su < 256) ∧ x.nf.size ≤ 507 := by
  unfold okOg at h
  simp only [Bool.and_eq_true, decide_eq_true_eq] at h
  obtain ⟨h1, h2, h3⟩ := h
  have g1 := fitI_all h1
  have g2 := fitI_all h2
  have e1 : (256 : Int) ^ 1 = 256 := by decide
  have e3 : (256 : Int) ^ 3 = 16777216 := by decide
  rw [e3] at g1
  rw [e1] at g2
  omega
theorem few_all {α : Type} {ok : α → Bool} {l : List α} (h : few ok l = true) : l.length ≤ 1 ∧ ∀ y ∈ l, ok y = true := by
  unfold few at h
  rw [Bool.and_eq_true, decide_eq_true_eq] at h
  exact ⟨by omega, List.all_eq_true.1 h.2⟩
theorem okLd_all {x : Ld} (h : okLd x = true) : okNm x.ch = true ∧ okNm x.po = true ∧ (0 ≤ x.tt ∧ x.tt < 65536) ∧ (x.de.length ≤ 1 ∧ ∀ y ∈ x.de, okSt y = true) ∧ (x.ho.length ≤ 1 ∧ ∀ y ∈ x.ho, okSt y = true) ∧ (x.sy.length ≤ 1 ∧ ∀ y ∈ x.sy, okSt y = true) ∧ (x.ca.length ≤ 1 ∧ ∀ y ∈ x.ca, okCp y = true) ∧ (x.ma.length ≤ 20 ∧ ∀ y ∈ x.ma, okMg y = true) ∧ (x.og.length ≤ 20 ∧ ∀ y ∈ x.og, okOg y = true) := by
  unfold okLd at h
  simp only [Bool.and_eq_true, decide_eq_true_eq] at h
  obtain ⟨h1, h2, h3, h4, h5, h6, h7, h8, h9, h10, h11⟩ := h
  exact ⟨h1, h2, fitI_all h3, few_all h4, few_all h5, few_all h6, few_all h7, ⟨by omega, List.all_eq_true.1 h9⟩, ⟨by omega, List.all_eq_true.1 h11⟩⟩
theorem cpW_len (y : Cp) : (cpW y).length = 4 := by simp [cpW, putL_length]
theorem ogW_len (y : Og) : (ogW y).length = 4 + y.nf.size := by
  simp [ogW, putL_length]
  omega

set_option maxHeartbeats 6400000 in
theorem records_any (x : Ld) (q : LdA) (hok : okLd x = true) (w : World) (h : LdIn w x q) :
    Calls Tryz.prog 34 #[.agg (ldC x q)] w fun e w' => ∃ a c, e = .returned (.slice a (ldTls x).length c) ∧ TlIn w' a (ldTls x) ∧ Below w.heap.size w w' := by
  obtain ⟨⟨qd, qdc⟩, ⟨qh, qhc⟩, ⟨qs, qsc⟩, ⟨qc, qcc⟩, ⟨qm, qmc⟩, ⟨qo, qoc⟩⟩ := q
  obtain ⟨i1, i2, i3, i4, i5, i6⟩ := h
  dsimp only at i1 i2 i3 i4 i5 i6
  obtain ⟨x, p, tt, de, ho, sy, ca, ma, og⟩ := x
  obtain ⟨o1, o2, o3, o4, o5, o6, o7, o8, o9⟩ := okLd_all hok
  dsimp only at o1 o2 o3 o4 o5 o6 o7 o8 o9
  have m1 := okNm_all o1
  have m2 := okNm_all o2
  have HN1 := Lib.hid (fun W => nameText_any x W (by omega) (by omega) (by omega))
  have HN2 := Lib.hid (fun W => nameText_any p W (by omega) (by omega) (by omega))
  have HN3 := Lib.hid (fun W => must_i2 tt W o3.1 o3.2)
  have P7 := Lib.hid (fun k (hk : k < ca.length) => okCp_all (o7.2 _ (List.getElem_mem hk)))
  have P8 := Lib.hid (fun k (hk : k < ma.length) => okMg_all (o8.2 _ (List.getElem_mem hk)))
  have P9 := Lib.hid (fun k (hk : k < og.length) => okOg_all (o9.2 _ (List.getElem_mem hk)))
  have l4 := o4.1
  have l5 := o5.1
  have l6 := o6.1
  have l7 := o7.1
  have l8 := o8.1
  have l9 := o9.1
  have hmf : ∀ (fn : Fn) (first cap : Array Value) (w : World), (Instr.makeFunc fn first cap).run Tryz.prog w = .ok (.func fn first cap) w := fun _ _ _ _ => rfl
  clear hok o1 o2 o3 o4 o5 o6 o7 o8 o9 m1 m2
  obtain ⟨C, hC⟩ : ∃ C, C = ldC ⟨x, p, tt, de, ho, sy, ca, ma, og⟩ ⟨(qd, qdc), (qh, qhc), (qs, qsc), (qc, qcc), (qm, qmc), (qo, qoc)⟩ := ⟨_, rfl⟩
  have HA0 := Blk.new w 29 (ldC ⟨x, p, tt, de, ho, sy, ca, ma, og⟩ ⟨(qd, qdc), (qh, qhc), (qs, qsc), (qc, qcc), (qm, qmc), (qo, qoc)⟩)
  have B0 : Below w.heap.size w (w.alloc (.cells (ldC ⟨x, p, tt, de, ho, sy, ca, ma, og⟩ ⟨(qd, qdc), (qh, qhc), (qs, qsc), (qc, qcc), (qm, qmc), (qo, qoc)⟩) 29)) := (Below.refl _ _).alloc (Nat.le_refl _) _
  have hlt0 := HA0.lt
  obtain ⟨D, hD⟩ : ∃ D, D = ldC ⟨x, p, tt, de, ho, sy, ca, ma, og⟩ ⟨(qd, qdc), (qh, qhc), (qs, qsc), (qc, qcc), (qm, qmc), (qo, qoc)⟩ := ⟨_, rfl⟩
  clear hC C hD D
  go_enter Tryz.func34, Tryz.ntmps34
  go_upto_region 1 with (fail)
  generalize (w.alloc (.cells (ldC ⟨x, p, tt, de, ho, sy, ca, ma, og⟩ ⟨(qd, qdc), (qh, qhc), (qs, qsc), (qc, qcc), (qm, qmc), (qo, qoc)⟩) 29)) = w0 at *
  have hA1 : AcTl (w0.alloc (.cells #[.slice none 0 0] 79)) w0.heap.size [] := ⟨none, 0, Blk.new w0 79 #[.slice none 0 0], OwnTl.nil _ _⟩
  have hb1 : Below w0.heap.size w0 (w0.alloc (.cells #[.slice none 0 0] 79)) := (Below.refl _ _).alloc (Nat.le_refl _) _
  have HA1 := HA0.kept hb1
  have B1 := B0.trans (hb1.mono B0.size)
  have hwB : w.heap.size ≤ w0.heap.size := B0.size
  have hBz : w0.heap.size < (w0.alloc (.cells #[.slice none 0 0] 79)).heap.size := by simp
  go_upto_region 3 with (fail)
  generalize (w0.alloc (.cells #[.slice none 0 0] 79)) = w1 at *
  clear HA0 B0 hb1
  generalize w0.heap.size = B at *

  go_wp2_with (refine load_blk (k := 0) 23 (nmC x) (by rfl) rfl rfl HA1 (by kernel_rfl) (by kernel_rfl) rfl ?_)
  refine (HN1.out _).mono ?_
  rintro e w2 ⟨rfl, b2⟩
  have HA2 := HA1.kept b2
  have hA2 := hA1.kept b2
  have B2 := B1.trans (b2.mono B1.size)
  have hBz2 := Nat.lt_of_lt_of_le hBz b2.size
  clear HA1 hA1 B1 b2
  go_wp2_with (refine sliceL_st ⟨(nmW x).toArray⟩ rfl rfl rfl (fun w3 HG3 b3 hlt3 => ?_); have HA3 := HA2.kept b3; have hA3 := hA2.kept b3; have B3 := B2.trans (b3.mono B2.size); have hBz3 := Nat.lt_of_lt_of_le hBz2 b3.size)
  refine (add_one B 1 ⟨(nmW x).toArray⟩ ([]) _ _ hA3 HG3 (by simp)).mono ?_
  rintro e w4 ⟨rfl, hA4, b4, -⟩
  have HA4 := HA3.below b4 hlt0
  have B4 := B3.trans (b4.mono hwB)
  have hBz4 := Nat.lt_of_lt_of_le hBz3 b4.size
  clear HA3 hA3 B3 b4 HA2 hA2 B2 HG3 b3

  go_wp2_with (refine load_blk (k := 2) 23 (nmC p) (by rfl) rfl rfl HA4 (by kernel_rfl) (by kernel_rfl) rfl ?_)
  refine (HN2.out _).mono ?_
  rintro e w5 ⟨rfl, b5⟩
  have HA5 := HA4.kept b5
  have hA5 := hA4.kept b5
  have B5 := B4.trans (b5.mono B4.size)
  have hBz5 := Nat.lt_of_lt_of_le hBz4 b5.size
  clear HA4 hA4 B4 b5
  go_wp2_with (refine sliceL_st ⟨(nmW p).toArray⟩ rfl rfl rfl (fun w6 HG6 b6 hlt6 => ?_); have HA6 := HA5.kept b6; have hA6 := hA5.kept b6; have B6 := B5.trans (b6.mono B5.size); have hBz6 := Nat.lt_of_lt_of_le hBz5 b6.size)
  refine (add_one B 2 ⟨(nmW p).toArray⟩ ([] ++ [_]) _ _ hA6 HG6 (by simp)).mono ?_
  rintro e w7 ⟨rfl, hA7, b7, -⟩
  have HA7 := HA6.below b7 hlt0
  have B7 := B6.trans (b7.mono hwB)
  have hBz7 := Nat.lt_of_lt_of_le hBz6 b7.size
  clear HA6 hA6 B6 b7 HA5 hA5 B5 HG6 b6
  have c4 := HA7.cv 4 (.int .i64 tt) rfl

  go_wp2_with fail
  refine (HN3.out _).mono ?_
  rintro e w8 ⟨rfl, b8⟩
  have HA8 := HA7.kept b8
  have hA8 := hA7.kept b8
  have B8 := B7.trans (b8.mono B7.size)
  have hBz8 := Nat.lt_of_lt_of_le hBz7 b8.size
  clear HA7 hA7 B7 b8
  go_wp2_with (refine sliceL_st ⟨(putL tt.toNat 2).toArray⟩ rfl rfl rfl (fun w9 HG9 b9 hlt9 => ?_); have HA9 := HA8.kept b9; have hA9 := hA8.kept b9; have B9 := B8.trans (b9.mono B8.size); have hBz9 := Nat.lt_of_lt_of_le hBz8 b9.size)
  refine (add_one B 3 ⟨(putL tt.toNat 2).toArray⟩ ([] ++ [_] ++ [_]) _ _ hA9 HG9 (by simp)).mono ?_
  rintro e w10 ⟨rfl, hA10, b10, -⟩
  have HA10 := HA9.below b10 hlt0
  have B10 := B9.trans (b10.mono hwB)
  have hBz10 := Nat.lt_of_lt_of_le hBz9 b10.size
  clear HA9 hA9 B9 b10 HA8 hA8 B8 HG9 b9
  obtain ⟨L, hL⟩ : ∃ L, L = ldHead ⟨x, p, tt, de, ho, sy, ca, ma, og⟩ := ⟨_, rfl⟩
  have hA10 : AcTl w10 B L := by rw [hL]; exact hA10
  have hLn : L.length = 3 := by rw [hL]; rfl
  have HLL := Lib.hid hL
  clear hL
  have c5 := HA10.cv 5 (.slice qd de.length qdc) rfl
  go_wp2_with fail
  refine (add_far B 4 qd qdc de (L) w _ hA10 i1 B10 hwB (by (try simp only [List.length_append, kTl_len]); omega)).mono ?_
  rintro e w11 ⟨rfl, hA11, b11, -⟩
  have HA11 := HA10.below b11 hlt0
  have B11 := B10.trans (b11.mono hwB)
  have hBz11 := Nat.lt_of_lt_of_le hBz10 b11.size
  clear HA10 hA10 B10 b11 c5
  have c6 := HA11.cv 6 (.slice qh ho.length qhc) rfl
  go_wp2_with fail
  refine (add_far B 5 qh qhc ho (L ++ kTl 4 de) w _ hA11 i2 B11 hwB (by (try simp only [List.length_append, kTl_len]); omega)).mono ?_
  rintro e w12 ⟨rfl, hA12, b12, -⟩
  have HA12 := HA11.below b12 hlt0
  have B12 := B11.trans (b12.mono hwB)
  have hBz12 := Nat.lt_of_lt_of_le hBz11 b12.size
  clear HA11 hA11 B11 b12 c6
  have c7 := HA12.cv 7 (.slice qs sy.length qsc) rfl
  go_wp2_with fail
  refine (add_far B 6 qs qsc sy (L ++ kTl 4 de ++ kTl 5 ho) w _ hA12 i3 B12 hwB (by (try simp only [List.length_append, kTl_len]); omega)).mono ?_
  rintro e w13 ⟨rfl, hA13, b13, -⟩
  have HA13 := HA12.below b13 hlt0
  have B13 := B12.trans (b13.mono hwB)
  have hBz13 := Nat.lt_of_lt_of_le hBz12 b13.size
  clear HA12 hA12 B12 b13 c7
  generalize hL2 : L ++ kTl 4 de ++ kTl 5 ho ++ kTl 6 sy = L2 at *
  have hL2n : L2.length ≤ 6 := by rw [← hL2]; simp only [List.length_append, kTl_len]; omega
  have HL2 := Lib.hid hL2
  clear hL2 hLn
  have c8 := HA13.cv 8 (.slice qc ca.length qcc) rfl
  go_wp2_with fail
  go_loopw [45] (fun i wr => ∃ k : Nat, k ≤ ca.length ∧ i = .int .i64 k ∧ Blk wr w.heap.size 29 (ldC ⟨x, p, tt, de, ho, sy, ca, ma, og⟩ ⟨(qd, qdc), (qh, qhc), (qs, qsc), (qc, qcc), (qm, qmc), (qo, qoc)⟩) ∧ AcTl wr B (L2 ++ (ca.take k).map cpTl) ∧ Below w.heap.size w wr ∧ B < wr.heap.size) (fun i _ => ca.length - (intOf i).toNat)
  case atStart => exact ⟨0, by omega, rfl, HA13, by rw [List.take_zero, List.map_nil, List.append_nil]; exact hA13, B13, hBz13⟩
  case round =>
    clear HA13 hA13 B13 c8 hBz13
    obtain ⟨k, hk, rfl, HAk, hAk, Bk, hBk⟩ := hrel
    by_cases hlt : k < ca.length
    · have hIk := i4.below Bk
      obtain ⟨b, lo, rfl, hbl, hat⟩ := hIk.at hlt
      have q1 : (k : Int) < (ca.length : Int) := by omega
      have q2 : decide ((k : Int) < (ca.length : Int)) = true := decide_eq_true q1
      have q3 : (0 : Int) ≤ (k : Int) := by omega
      have hsw := Bk.size
      have HK := hat k hlt
      have HT := Lib.hid (map_take1 cpTl ca k hlt)
      have hP := P7.out k hlt
      have hln : Hid ((L2 ++ (ca.take k).map cpTl).length ≤ 100) := by
        show _ ≤ _
        rw [List.length_append, List.length_map, List.length_take]
        omega
      have HV4 := Blk.new wr 91 (cpC zCp)
      have B4 : Below wr.heap.size wr (wr.alloc (.cells (cpC zCp) 91)) := (Below.refl _ _).alloc (Nat.le_refl _) _
      generalize ca[k] = y at *
      clear hat hIk
      go_upto_region 12 with (first
        | (refine load_cells (B := b) (k := lo + k * 2) 91 (cpC y) (by rfl) rfl rfl HK (by kernel_rfl) (by kernel_rfl) ?_)
        | (refine alloc_blk 91 (cpC zCp) (by rfl) rfl Tryz.cpZero ?_)
        | (refine store_blk (k := 0) 91 (.agg (cpC y)) (cpC y) (by rfl) rfl rfl rfl HV4 (by kernel_rfl) (show (2 : Nat) ≤ 2 from Nat.le_refl 2) (by rfl) (st_whole _ _ rfl) ?_; intro w5 HV5 b5 g5))
      have b5' := B4.trans b5
      have HA5 := HAk.kept b5'
      have hA5 := hAk.kept b5'
      have B5 := Bk.trans (b5'.mono hsw)
      have hB5 := Nat.lt_of_lt_of_le hBk b5'.size
      clear HV4 B4 b5 g5 b5' HK HAk hAk Bk
      generalize wr.heap.size = V at *
      have HM0 := Lib.hid (fun W => must_i2 y.h W hP.1.1 hP.1.2)
      have HM1 := Lib.hid (fun W => must_i2 y.o W hP.2.1 hP.2.2)
      have HY : Hid (cpTl y = ⟨7, ⟨(cpW y).toArray⟩⟩) := rfl
      have p1 : ∀ W, (Op.stringOp .add ⟨(putL y.h.toNat 2).toArray⟩ ⟨(putL y.o.toNat 2).toArray⟩).run Tryz.prog W = .ok (.string ⟨(cpW y).toArray⟩) W := fun W => run_string_add_lists W (putL y.h.toNat 2) (putL y.o.toNat 2) (by rw [putL_length]; omega) (by rw [putL_length]; omega)
      rw [HY.out] at HT
      generalize putL y.h.toNat 2 = y0 at *
      generalize putL y.o.toNat 2 = y1 at *
      generalize cpW y = z at *
      clear HY hP
      refine wp_region_noPanic ?_
      refine wp_region_held_drew (S := (fun w' => Blk w' V 91 (cpC y))) (by kernel_rfl) ?_ (fun hHeld => ?_)
      · exact HV5.drew
      refine wpAnyH_take (i := 0) (v := ?_) rfl (by kernel_rfl) (by kernel_rfl) (by kernel_rfl) (fun _ _ _ h => h) (Or.inl ⟨by rfl, ?_⟩) (by assumption) ?_
      rotate_left
      · (intro w hSw; (try dsimp only at hSw); go_simp; (try with_reducible rfl))
      (try simp only [Act.put, List.getElem_toArray, List.getElem_cons_zero, List.getElem_cons_succ, List.setIfInBounds_toArray, List.set_cons_zero, List.set_cons_succ])
      refine wpAnyH_take (i := 1) (v := ?_) rfl (by kernel_rfl) (by kernel_rfl) (by kernel_rfl) (fun _ _ _ h => h) (Or.inl ⟨by rfl, ?_⟩) (by assumption) ?_
      rotate_left
      · (intro w hSw; (try dsimp only at hSw); go_simp; (try with_reducible rfl))
      (try simp only [Act.put, List.getElem_toArray, List.getElem_cons_zero, List.getElem_cons_succ, List.setIfInBounds_toArray, List.set_cons_zero, List.set_cons_succ])
      refine wpAnyH_take (i := 2) (v := .int .i64 y.h) rfl (by kernel_rfl) (by kernel_rfl) (by kernel_rfl) (fun _ _ _ h => h) (Or.inl ⟨by rfl, fun w hSw => by have c := hSw.cv 0 (.int .i64 y.h) rfl; go_simp⟩) (by assumption) ?_
      (try simp only [Act.put, List.getElem_toArray, List.getElem_cons_zero, List.getElem_cons_succ, List.setIfInBounds_toArray, List.set_cons_zero, List.set_cons_succ])
      refine wpAnyH_take (i := 4) (v := ?_) rfl (by kernel_rfl) (by kernel_rfl) (by kernel_rfl) (fun _ _ _ h => h) (Or.inl ⟨by rfl, ?_⟩) (by assumption) ?_
      rotate_left
      · (intro w hSw; (try dsimp only at hSw); go_simp; (try with_reducible rfl))
      (try simp only [Act.put, List.getElem_toArray, List.getElem_cons_zero, List.getElem_cons_succ, List.setIfInBounds_toArray, List.set_cons_zero, List.set_cons_succ])
      refine wpAnyH_take (i := 5) (v := .int .i64 y.o) rfl (by kernel_rfl) (by kernel_rfl) (by kernel_rfl) (fun _ _ _ h => h) (Or.inl ⟨by rfl, fun w hSw => by have c := hSw.cv 1 (.int .i64 y.o) rfl; go_simp⟩) (by assumption) ?_
      (try simp only [Act.put, List.getElem_toArray, List.getElem_cons_zero, List.getElem_cons_succ, List.setIfInBounds_toArray, List.set_cons_zero, List.set_cons_succ])
      refine wpAnyH_ready (rs := [3]) (by kernel_rfl) (by simp) ?_
      refine AllReadyH.cons rfl (fun K hK => ?_) AllReadyH.nil
      simp only [List.getElem_toArray, List.getElem_cons_zero, List.getElem_cons_succ]
      go_simp
      go_at_call 69; (with_reducible refine (HM0.out _).mono ?_); rintro e w6 ⟨rfl, b6⟩; have HV6 := HV5.drew.kept b6; have HA6 := HA5.drew.kept b6; have hA6 := hA5.drew.kept b6; have B6 := B5.drew.trans (b6.mono B5.drew.size); have hB6 := Nat.lt_of_lt_of_le (show B < w5.heap.size from hB5) b6.size
      refine hK.out _ _ ?_ (fun hHeld => ?_)
      · exact HV6
      clear hK K
      (try simp only [Act.put, List.getElem_toArray, List.getElem_cons_zero, List.getElem_cons_succ, List.setIfInBounds_toArray, List.set_cons_zero, List.set_cons_succ])
      refine wpAnyH_ready (rs := [6]) (by kernel_rfl) (by simp) ?_
      refine AllReadyH.cons rfl (fun K hK => ?_) AllReadyH.nil
      simp only [List.getElem_toArray, List.getElem_cons_zero, List.getElem_cons_succ]
      go_simp
      go_at_call 69; (with_reducible refine (HM1.out _).mono ?_); rintro e w7 ⟨rfl, b7⟩; have HV7 := HV6.kept b7; have HA7 := HA6.kept b7; have hA7 := hA6.kept b7; have B7 := B6.trans (b7.mono B6.size); have hB7 := Nat.lt_of_lt_of_le (show B < w6.heap.size from hB6) b7.size
      refine hK.out _ _ ?_ (fun hHeld => ?_)
      · exact HV7
      clear hK K
      (try simp only [Act.put, List.getElem_toArray, List.getElem_cons_zero, List.getElem_cons_succ, List.setIfInBounds_toArray, List.set_cons_zero, List.set_cons_succ])
      refine wpAnyH_take (i := 7) (v := .string ⟨z.toArray⟩) rfl (by kernel_rfl) (by kernel_rfl) (by kernel_rfl) (fun _ _ _ h => h) (Or.inl ⟨by rfl, fun w hSw => by go_simp⟩) (by assumption) ?_
      (try simp only [Act.put, List.getElem_toArray, List.getElem_cons_zero, List.getElem_cons_succ, List.setIfInBounds_toArray, List.set_cons_zero, List.set_cons_succ])
      refine wpAnyH_ready (rs := [8]) (by kernel_rfl) (by simp) ?_
      refine AllReadyH.cons rfl (fun K hK => ?_) AllReadyH.nil
      simp only [List.getElem_toArray, List.getElem_cons_zero, List.getElem_cons_succ]
      rw [if_pos (by rfl)]
      refine slice_st ⟨z.toArray⟩ rfl rfl (fun w8 HG8 b8 hlt8 => ?_)
      have HV8 := HV7.kept b8
      have HA8 := HA7.kept b8
      have hA8 := hA7.kept b8
      have B8 := B7.trans (b8.mono B7.size)
      have hB8 := Nat.lt_of_lt_of_le hB7 b8.size
      refine hK.out _ _ ?_ (fun hHeld => ?_)
      · exact HV8
      clear hK K
      (try simp only [Act.put, List.getElem_toArray, List.getElem_cons_zero, List.getElem_cons_succ, List.setIfInBounds_toArray, List.set_cons_zero, List.set_cons_succ])
      refine wpAnyH_ready (rs := [9]) (by kernel_rfl) (by simp) ?_
      refine AllReadyH.cons rfl (fun K hK => ?_) AllReadyH.nil
      simp only [List.getElem_toArray, List.getElem_cons_zero, List.getElem_cons_succ]
      go_simp
      refine (add_one B 7 ⟨z.toArray⟩ _ _ _ hA8 HG8 (by have := hln.out; omega)).mono ?_
      rintro e wz ⟨rfl, hAz, bz, Kz⟩
      have HAz := HA8.below bz hlt0
      have Bz := B8.trans (bz.mono hwB)
      have hBzz := Nat.lt_of_lt_of_le hB8 bz.size
      have HVz := Kz _ _ _ HV8 (by decide) (by decide)
      refine hK.out _ _ ?_ (fun hHeld => ?_)
      · exact HVz
      clear hK K
      (try simp only [Act.put, List.getElem_toArray, List.getElem_cons_zero, List.getElem_cons_succ, List.setIfInBounds_toArray, List.set_cons_zero, List.set_cons_succ])
      refine wpAnyH_done (by kernel_rfl) ?_ _
      refine NoPanic.normal ?_
      go_wp2
      go_roundw
      case rel => exact ⟨k + 1, by omega, by go_num, HAz, by rw [HT.out, ← List.append_assoc]; exact hAz, Bz, hBzz⟩
      case measure => simp [intOf]; omega
    · obtain rfl : k = ca.length := by omega
      have q2 : decide ((ca.length : Int) < (ca.length : Int)) = false := decide_eq_false (by omega)
      rw [List.take_length] at hAk
      generalize hL3 : L2 ++ ca.map cpTl = L3 at *
      have hL3n : L3.length ≤ 7 := by rw [← hL3, List.length_append, List.length_map]; omega
      have HL3 := Lib.hid hL3
      have HA14 := HAk
      have hA14 := hAk
      have B14 := Bk
      have hBz14 := hBk
      obtain ⟨w14, hw14⟩ : ∃ z, z = wr := ⟨_, rfl⟩
      subst hw14
      clear hL3 hL2n HAk hAk Bk hBk q2 hlt hk
      have c9 := HA14.cv 9 (.slice qm ma.length qmc) rfl
      go_wp2_with fail
      go_loopw [63] (fun i wr => ∃ k : Nat, k ≤ ma.length ∧ i = .int .i64 k ∧ Blk wr w.heap.size 29 (ldC ⟨x, p, tt, de, ho, sy, ca, ma, og⟩ ⟨(qd, qdc), (qh, qhc), (qs, qsc), (qc, qcc), (qm, qmc), (qo, qoc)⟩) ∧ AcTl wr B (L3 ++ (ma.take k).map mgTl) ∧ Below w.heap.size w wr ∧ B < wr.heap.size) (fun i _ => ma.length - (intOf i).toNat)
      case atStart => exact ⟨0, by omega, rfl, HA14, by rw [List.take_zero, List.map_nil, List.append_nil]; exact hA14, B14, hBz14⟩
      case round =>
        clear HA14 hA14 B14 c9 hBz14
        obtain ⟨k, hk, rfl, HAk, hAk, Bk, hBk⟩ := hrel
        by_cases hlt : k < ma.length
        · have hIk := i5.below Bk
          obtain ⟨b, lo, rfl, hbl, hat⟩ := hIk.at hlt
          have q1 : (k : Int) < (ma.length : Int) := by omega
          have q2 : decide ((k : Int) < (ma.length : Int)) = true := decide_eq_true q1
          have q3 : (0 : Int) ≤ (k : Int) := by omega
          have hsw := Bk.size
          have HK := hat k hlt
          have HT := Lib.hid (map_take1 mgTl ma k hlt)
          have hP := P8.out k hlt
          have hln : Hid ((L3 ++ (ma.take k).map mgTl).length ≤ 100) := by
            show _ ≤ _
            rw [List.length_append, List.length_map, List.length_take]
            omega
          have HV4 := Blk.new wr 94 (mgC zMg)
          have B4 : Below wr.heap.size wr (wr.alloc (.cells (mgC zMg) 94)) := (Below.refl _ _).alloc (Nat.le_refl _) _
          generalize ma[k] = y at *
          clear hat hIk
          go_upto_region 17 with (first
            | (refine load_cells (B := b) (k := lo + k * 5) 94 (mgC y) (by rfl) rfl rfl HK (by kernel_rfl) (by kernel_rfl) ?_)
            | (refine alloc_blk 94 (mgC zMg) (by rfl) rfl Tryz.mgZero ?_)
            | (refine store_blk (k := 0) 94 (.agg (mgC y)) (mgC y) (by rfl) rfl rfl rfl HV4 (by kernel_rfl) (show (5 : Nat) ≤ 5 from Nat.le_refl 5) (by rfl) (st_whole _ _ rfl) ?_; intro w5 HV5 b5 g5))
          have b5' := B4.trans b5
          have HA5 := HAk.kept b5'
          have hA5 := hAk.kept b5'
          have B5 := Bk.trans (b5'.mono hsw)
          have hB5 := Nat.lt_of_lt_of_le hBk b5'.size
          clear HV4 B4 b5 g5 b5' HK HAk hAk Bk
          generalize wr.heap.size = V at *
          have HM := Lib.hid (fun W => manageText_any y W (by omega) (by omega) (by omega) (by omega) (by omega) (by omega) (by omega) (by omega))
          have HY : Hid (mgTl y = ⟨8, ⟨(mgW y).toArray⟩⟩) := rfl
          rw [HY.out] at HT
          generalize mgW y = z at *
          clear HY hP
          go_wp2_with (refine load_blk (k := 0) 94 (mgC y) (by rfl) rfl rfl HV5 (by kernel_rfl) (by kernel_rfl) rfl ?_)
          refine (HM.out _).mono ?_
          rintro e w6 ⟨rfl, b6⟩
          have HA6 := HA5.kept b6
          have hA6 := hA5.kept b6
          have B6 := B5.trans (b6.mono B5.size)
          have hB6 := Nat.lt_of_lt_of_le hB5 b6.size
          go_wp2_with (refine sliceL_st ⟨z.toArray⟩ rfl rfl rfl (fun w7 HG7 b7 hlt7 => ?_); have HA7 := HA6.kept b7; have hA7 := hA6.kept b7; have B7 := B6.trans (b7.mono B6.size); have hB7 := Nat.lt_of_lt_of_le hB6 b7.size)
          refine (add_one B 8 ⟨z.toArray⟩ _ _ _ hA7 HG7 (by have := hln.out; omega)).mono ?_
          rintro e wz ⟨rfl, hAz, bz, Kz⟩
          have HAz := HA7.below bz hlt0
          have Bz := B7.trans (bz.mono hwB)
          have hBzz := Nat.lt_of_lt_of_le hB7 bz.size
          go_wp2
          go_roundw
          case rel => exact ⟨k + 1, by omega, by go_num, HAz, by rw [HT.out, ← List.append_assoc]; exact hAz, Bz, hBzz⟩
          case measure => simp [intOf]; omega
        · obtain rfl : k = ma.length := by omega
          have q2 : decide ((ma.length : Int) < (ma.length : Int)) = false := decide_eq_false (by omega)
          rw [List.take_length] at hAk
          generalize hL4 : L3 ++ ma.map mgTl = L4 at *
          have hL4n : L4.length ≤ 27 := by rw [← hL4, List.length_append, List.length_map]; omega
          have HL4 := Lib.hid hL4
          have HA15 := HAk
          have hA15 := hAk
          have B15 := Bk
          have hBz15 := hBk
          obtain ⟨w15, hw15⟩ : ∃ z, z = wr := ⟨_, rfl⟩
          subst hw15
          clear hL4 hL3n HAk hAk Bk hBk q2 hlt hk
          have c10 := HA15.cv 10 (.slice qo og.length qoc) rfl
          go_wp2_with fail
          go_loopw [76] (fun i wr => ∃ k : Nat, k ≤ og.length ∧ i = .int .i64 k ∧ Blk wr w.heap.size 29 (ldC ⟨x, p, tt, de, ho, sy, ca, ma, og⟩ ⟨(qd, qdc), (qh, qhc), (qs, qsc), (qc, qcc), (qm, qmc), (qo, qoc)⟩) ∧ AcTl wr B (L4 ++ (og.take k).map ogTl) ∧ Below w.heap.size w wr ∧ B < wr.heap.size) (fun i _ => og.length - (intOf i).toNat)
          case atStart => exact ⟨0, by omega, rfl, HA15, by rw [List.take_zero, List.map_nil, List.append_nil]; exact hA15, B15, hBz15⟩
          case round =>
            clear HA15 hA15 B15 c10 hBz15
            obtain ⟨k, hk, rfl, HAk, hAk, Bk, hBk⟩ := hrel
            by_cases hlt : k < og.length
            · have hIk := i6.below Bk
              obtain ⟨b, lo, rfl, hbl, hat⟩ := hIk.at hlt
              have q1 : (k : Int) < (og.length : Int) := by omega
              have q2 : decide ((k : Int) < (og.length : Int)) = true := decide_eq_true q1
              have q3 : (0 : Int) ≤ (k : Int) := by omega
              have hsw := Bk.size
              have HK := hat k hlt
              have HT := Lib.hid (map_take1 ogTl og k hlt)
              have hP := P9.out k hlt
              have hln : Hid ((L4 ++ (og.take k).map ogTl).length ≤ 100) := by
                show _ ≤ _
                rw [List.length_append, List.length_map, List.length_take]
                omega
              have HV4 := Blk.new wr 116 (ogC zOg)
              have B4 : Below wr.heap.size wr (wr.alloc (.cells (ogC zOg) 116)) := (Below.refl _ _).alloc (Nat.le_refl _) _
              generalize og[k] = y at *
              clear hat hIk
              go_upto_region 22 with (first
                | (refine load_cells (B := b) (k := lo + k * 3) 116 (ogC y) (by rfl) rfl rfl HK (by kernel_rfl) (by kernel_rfl) ?_)
                | (refine alloc_blk 116 (ogC zOg) (by rfl) rfl Tryz.ogZero ?_)
                | (refine store_blk (k := 0) 116 (.agg (ogC y)) (ogC y) (by rfl) rfl rfl rfl HV4 (by kernel_rfl) (show (3 : Nat) ≤ 3 from Nat.le_refl 3) (by rfl) (st_whole _ _ rfl) ?_; intro w5 HV5 b5 g5))
              have b5' := B4.trans b5
              have HA5 := HAk.kept b5'
              have hA5 := hAk.kept b5'
              have B5 := Bk.trans (b5'.mono hsw)
              have hB5 := Nat.lt_of_lt_of_le hBk b5'.size
              clear HV4 B4 b5 g5 b5' HK HAk hAk Bk
              generalize wr.heap.size = V at *
              have HM0 := Lib.hid (fun W => must_i3 y.ou W hP.1.1 hP.1.2)
              have HM1 := Lib.hid (fun W => must_i1 y.su W hP.2.1.1 hP.2.1.2)
              have HY : Hid (ogTl y = ⟨127, ⟨(ogW y).toArray⟩⟩) := rfl
              have hpz := hP.2.2
              have p1 : ∀ W, (Op.stringOp .add ⟨(putL y.ou.toNat 3).toArray⟩ ⟨(putL y.su.toNat 1).toArray⟩).run Tryz.prog W = .ok (.string ⟨(putL y.ou.toNat 3 ++ putL y.su.toNat 1).toArray⟩) W := fun W => run_string_add_lists W (putL y.ou.toNat 3) (putL y.su.toNat 1) (by rw [putL_length]; omega) (by rw [putL_length]; omega)
              have p2 : ∀ W, (Op.stringOp .add ⟨(putL y.ou.toNat 3 ++ putL y.su.toNat 1).toArray⟩ y.nf).run Tryz.prog W = .ok (.string ⟨(ogW y).toArray⟩) W := fun W => run_string_add_lists W (putL y.ou.toNat 3 ++ putL y.su.toNat 1) y.nf.data.toList (by rw [List.length_append, putL_length, putL_length]; omega) (by simp; omega)
              rw [HY.out] at HT
              generalize putL y.ou.toNat 3 ++ putL y.su.toNat 1 = y2 at *
              generalize putL y.ou.toNat 3 = y0 at *
              generalize putL y.su.toNat 1 = y1 at *
              generalize ogW y = z at *
              clear HY hP hpz
              refine wp_region_noPanic ?_
              refine wp_region_held_drew (S := (fun w' => Blk w' V 116 (ogC y))) (by kernel_rfl) ?_ (fun hHeld => ?_)
              · exact HV5.drew
              refine wpAnyH_take (i := 0) (v := ?_) rfl (by kernel_rfl) (by kernel_rfl) (by kernel_rfl) (fun _ _ _ h => h) (Or.inl ⟨by rfl, ?_⟩) (by assumption) ?_
              rotate_left
              · (intro w hSw; (try dsimp only at hSw); go_simp; (try with_reducible rfl))
              (try simp only [Act.put, List.getElem_toArray, List.getElem_cons_zero, List.getElem_cons_succ, List.setIfInBounds_toArray, List.set_cons_zero, List.set_cons_succ])
              refine wpAnyH_take (i := 1) (v := ?_) rfl (by kernel_rfl) (by kernel_rfl) (by kernel_rfl) (fun _ _ _ h => h) (Or.inl ⟨by rfl, ?_⟩) (by assumption) ?_
              rotate_left
              · (intro w hSw; (try dsimp only at hSw); go_simp; (try with_reducible rfl))
              (try simp only [Act.put, List.getElem_toArray, List.getElem_cons_zero, List.getElem_cons_succ, List.setIfInBounds_toArray, List.set_cons_zero, List.set_cons_succ])
              refine wpAnyH_take (i := 2) (v := .int .i64 y.ou) rfl (by kernel_rfl) (by kernel_rfl) (by kernel_rfl) (fun _ _ _ h => h) (Or.inl ⟨by rfl, fun w hSw => by have c := hSw.cv 0 (.int .i64 y.ou) rfl; go_simp⟩) (by assumption) ?_
              (try simp only [Act.put, List.getElem_toArray, List.getElem_cons_zero, List.getElem_cons_succ, List.setIfInBounds_toArray, List.set_cons_zero, List.set_cons_succ])
              refine wpAnyH_take (i := 4) (v := ?_) rfl (by kernel_rfl) (by kernel_rfl) (by kernel_rfl) (fun _ _ _ h => h) (Or.inl ⟨by rfl, ?_⟩) (by assumption) ?_
              rotate_left
              · (intro w hSw; (try dsimp only at hSw); go_simp; (try with_reducible rfl))
              (try simp only [Act.put, List.getElem_toArray, List.getElem_cons_zero, List.getElem_cons_succ, List.setIfInBounds_toArray, List.set_cons_zero, List.set_cons_succ])
              refine wpAnyH_take (i := 5) (v := .int .i64 y.su) rfl (by kernel_rfl) (by kernel_rfl) (by kernel_rfl) (fun _ _ _ h => h) (Or.inl ⟨by rfl, fun w hSw => by have c := hSw.cv 1 (.int .i64 y.su) rfl; go_simp⟩) (by assumption) ?_
              (try simp only [Act.put, List.getElem_toArray, List.getElem_cons_zero, List.getElem_cons_succ, List.setIfInBounds_toArray, List.set_cons_zero, List.set_cons_succ])
              refine wpAnyH_take (i := 8) (v := ?_) rfl (by kernel_rfl) (by kernel_rfl) (by kernel_rfl) (fun _ _ _ h => h) (Or.inl ⟨by rfl, ?_⟩) (by assumption) ?_
              rotate_left
              · (intro w hSw; (try dsimp only at hSw); go_simp; (try with_reducible rfl))
              (try simp only [Act.put, List.getElem_toArray, List.getElem_cons_zero, List.getElem_cons_succ, List.setIfInBounds_toArray, List.set_cons_zero, List.set_cons_succ])
              refine wpAnyH_take (i := 9) (v := .string y.nf) rfl (by kernel_rfl) (by kernel_rfl) (by kernel_rfl) (fun _ _ _ h => h) (Or.inl ⟨by rfl, fun w hSw => by have c := hSw.cv 2 (.string y.nf) rfl; go_simp⟩) (by assumption) ?_
              (try simp only [Act.put, List.getElem_toArray, List.getElem_cons_zero, List.getElem_cons_succ, List.setIfInBounds_toArray, List.set_cons_zero, List.set_cons_succ])
              refine wpAnyH_ready (rs := [3]) (by kernel_rfl) (by simp) ?_
              refine AllReadyH.cons rfl (fun K hK => ?_) AllReadyH.nil
              simp only [List.getElem_toArray, List.getElem_cons_zero, List.getElem_cons_succ]
              go_simp
              go_at_call 69; (with_reducible refine (HM0.out _).mono ?_); rintro e w6 ⟨rfl, b6⟩; have HV6 := HV5.drew.kept b6; have HA6 := HA5.drew.kept b6; have hA6 := hA5.drew.kept b6; have B6 := B5.drew.trans (b6.mono B5.drew.size); have hB6 := Nat.lt_of_lt_of_le (show B < w5.heap.size from hB5) b6.size
              refine hK.out _ _ ?_ (fun hHeld => ?_)
              · exact HV6
              clear hK K
              (try simp only [Act.put, List.getElem_toArray, List.getElem_cons_zero, List.getElem_cons_succ, List.setIfInBounds_toArray, List.set_cons_zero, List.set_cons_succ])
              refine wpAnyH_ready (rs := [6]) (by kernel_rfl) (by simp) ?_
              refine AllReadyH.cons rfl (fun K hK => ?_) AllReadyH.nil
              simp only [List.getElem_toArray, List.getElem_cons_zero, List.getElem_cons_succ]
              go_simp
              go_at_call 69; (with_reducible refine (HM1.out _).mono ?_); rintro e w7 ⟨rfl, b7⟩; have HV7 := HV6.kept b7; have HA7 := HA6.kept b7; have hA7 := hA6.kept b7; have B7 := B6.trans (b7.mono B6.size); have hB7 := Nat.lt_of_lt_of_le (show B < w6.heap.size from hB6) b7.size
              refine hK.out _ _ ?_ (fun hHeld => ?_)
              · exact HV7
              clear hK K
              (try simp only [Act.put, List.getElem_toArray, List.getElem_cons_zero, List.getElem_cons_succ, List.setIfInBounds_toArray, List.set_cons_zero, List.set_cons_succ])
              refine wpAnyH_take (i := 7) (v := .string ⟨y2.toArray⟩) rfl (by kernel_rfl) (by kernel_rfl) (by kernel_rfl) (fun _ _ _ h => h) (Or.inl ⟨by rfl, fun w hSw => by go_simp⟩) (by assumption) ?_
              (try simp only [Act.put, List.getElem_toArray, List.getElem_cons_zero, List.getElem_cons_succ, List.setIfInBounds_toArray, List.set_cons_zero, List.set_cons_succ])
              refine wpAnyH_take (i := 10) (v := .string ⟨z.toArray⟩) rfl (by kernel_rfl) (by kernel_rfl) (by kernel_rfl) (fun _ _ _ h => h) (Or.inl ⟨by rfl, fun w hSw => by go_simp⟩) (by assumption) ?_
              (try simp only [Act.put, List.getElem_toArray, List.getElem_cons_zero, List.getElem_cons_succ, List.setIfInBounds_toArray, List.set_cons_zero, List.set_cons_succ])
              refine wpAnyH_ready (rs := [11]) (by kernel_rfl) (by simp) ?_
              refine AllReadyH.cons rfl (fun K hK => ?_) AllReadyH.nil
              simp only [List.getElem_toArray, List.getElem_cons_zero, List.getElem_cons_succ]
              rw [if_pos (by rfl)]
              refine slice_st ⟨z.toArray⟩ rfl rfl (fun w8 HG8 b8 hlt8 => ?_)
              have HV8 := HV7.kept b8
              have HA8 := HA7.kept b8
              have hA8 := hA7.kept b8
              have B8 := B7.trans (b8.mono B7.size)
              have hB8 := Nat.lt_of_lt_of_le hB7 b8.size
              refine hK.out _ _ ?_ (fun hHeld => ?_)
              · exact HV8
              clear hK K
              (try simp only [Act.put, List.getElem_toArray, List.getElem_cons_zero, List.getElem_cons_succ, List.setIfInBounds_toArray, List.set_cons_zero, List.set_cons_succ])
              refine wpAnyH_ready (rs := [12]) (by kernel_rfl) (by simp) ?_
              refine AllReadyH.cons rfl (fun K hK => ?_) AllReadyH.nil
              simp only [List.getElem_toArray, List.getElem_cons_zero, List.getElem_cons_succ]
              go_simp
              refine (add_one B 127 ⟨z.toArray⟩ _ _ _ hA8 HG8 (by have := hln.out; omega)).mono ?_
              rintro e wz ⟨rfl, hAz, bz, Kz⟩
              have HAz := HA8.below bz hlt0
              have Bz := B8.trans (bz.mono hwB)
              have hBzz := Nat.lt_of_lt_of_le hB8 bz.size
              have HVz := Kz _ _ _ HV8 (by decide) (by decide)
              refine hK.out _ _ ?_ (fun hHeld => ?_)
              · exact HVz
              clear hK K
              (try simp only [Act.put, List.getElem_toArray, List.getElem_cons_zero, List.getElem_cons_succ, List.setIfInBounds_toArray, List.set_cons_zero, List.set_cons_succ])
              refine wpAnyH_done (by kernel_rfl) ?_ _
              refine NoPanic.normal ?_
              go_wp2
              go_roundw
              case rel => exact ⟨k + 1, by omega, by go_num, HAz, by rw [HT.out, ← List.append_assoc]; exact hAz, Bz, hBzz⟩
              case measure => simp [intOf]; omega
            · obtain rfl : k = og.length := by omega
              have q2 : decide ((og.length : Int) < (og.length : Int)) = false := decide_eq_false (by omega)
              rw [List.take_length] at hAk
              obtain ⟨a9, c9, HB9, HO9⟩ := hAk
              have HT9 : TlIn wr a9 (L4 ++ og.map ogTl) := by
                obtain ⟨a', c', e1, e2⟩ := HO9.inL
                injection e1 with e1 _ _
                rw [e1]
                exact e2
              have hfin : Hid (L4 ++ og.map ogTl = ldTls ⟨x, p, tt, de, ho, sy, ca, ma, og⟩) := by
                show _ = _
                rw [← HL4.out, ← HL3.out, ← HL2.out, HLL.out]
                rfl
              rw [hfin.out] at HT9 HB9
              have c0 := HB9.cv 0 _ rfl
              go_wp2
              go_ret
              exact ⟨_, _, rfl, HT9, Bk⟩

end Go.Proofs.YtcijhmbimbejfaaGreatDoor

namespace Go.Proofs.YtcijhmbimbejfaaGreatDoor
open Go.RowKit
attribute [local go_sem ↓] Go.wp_at_zero Go.wp_at_succ
set_option linter.unusedSimpArgs false
set_option linter.unusedVariables false
set_option maxRecDepth 100000

theorem withinL_any (x a b : Int) (w : World) : Calls Tryz.prog 75 #[.int .i64 x, .int .i64 a, .int .i64 b] w fun e w' => e = .returned (.bool (wthn x a b)) ∧ Below w.heap.size w w' := by
  unfold wthn
  by_cases h1 : a ≤ x
  · have d1 : decide (a ≤ x) = true := decide_eq_true h1
    obtain ⟨d2, hd⟩ : ∃ d2, decide (x ≤ b) = d2 := ⟨_, rfl⟩
    rw [d1, Bool.true_and]
    go_enter Tryz.func75, Tryz.ntmps75
    go_wp2
    go_ret
    exact ⟨by rw [hd]; rfl, Below.refl _ _⟩
  · have d1 : decide (a ≤ x) = false := decide_eq_false h1
    rw [d1, Bool.false_and]
    go_enter Tryz.func75, Tryz.ntmps75
    go_wp2
    go_ret
    exact ⟨rfl, Below.refl _ _⟩
theorem isText_any (x : ByteArray) (w : World) : Calls Tryz.prog 38 #[.string x] w fun e w' => e = .returned (.bool (okSt x)) ∧ Below w.heap.size w w' := by
  unfold okSt
  go_enter Tryz.func38, Tryz.ntmps38
  go_wp2
  go_ret
  exact ⟨rfl, Below.refl _ _⟩
theorem IRow.new2 (w : World) (a b : Int) (T : TypeId) : IRow (w.alloc (.cells #[.int .i64 a, .int .i64 b] T)) w.heap.size [a, b] :=
  IRow.new w _ T _ fun j v hv => by match j, hv with | 0, hv | 1, hv => cases hv; rfl
theorem fitsL2 (n : Nat) (hn1 : 1 ≤ n) (hn7 : n ≤ 7) (a b : Int) (ha : i64R a) (hb : i64R b) (g : Nat) (w : World) (h : IRow w g [a, b]) :
    Calls Tryz.prog 36 #[.int .i64 n, .slice (some ⟨g, 0, none⟩) 2 2] w fun e w' => e = .returned (.bool ([a, b].all (fitI n))) ∧ Below w.heap.size w w' :=
  fits_any n hn1 hn7 [a, b] (by simp) (fun v hv => by
    rcases List.mem_cons.1 hv with rfl | hv
    · exact ha
    · rcases List.mem_cons.1 hv with rfl | hv
      · exact hb
      · cases hv) g w h

theorem isName_any (x : Nm) (w : World) : Calls Tryz.prog 35 #[.agg (nmC x)] w fun e w' => e = .returned (.bool (okNm x)) ∧ Below w.heap.size w w' := by
  have HA0 := Blk.new w 23 (nmC x)
  have B0 : Below w.heap.size w (w.alloc (.cells (nmC x) 23)) := (Below.refl _ _).alloc (Nat.le_refl _) _
  have H1 := Lib.hid (fun W => withinL_any x.su 1 7 W)
  have H2 := Lib.hid (fun W => withinL_any x.id.size 1 255 W)
  unfold okNm
  generalize wthn x.id.size 1 255 = x2 at *
  generalize wthn x.su 1 7 = x1 at *
  cases x1 with
  | false =>
    simp only [Bool.true_and, Bool.false_and]
    go_enter Tryz.func35, Tryz.ntmps35
    go_upto_region 1 with (fail)
    generalize hw0 : (w.alloc (.cells (nmC x) 23)) = w0 at *
    clear hw0
    have c0_0 := HA0.cv 0 (.int .i64 x.su) rfl
    go_wp2_with fail
    refine (H1.out _).mono ?_
    rintro e w1 ⟨rfl, k1⟩
    have HA1 := HA0.kept k1
    have B1 := B0.trans (k1.mono B0.size)
    go_wp2
    go_ret
    exact ⟨rfl, B1⟩
  | true =>
    simp only [Bool.true_and]
    go_enter Tryz.func35, Tryz.ntmps35
    go_upto_region 1 with (fail)
    generalize hw0 : (w.alloc (.cells (nmC x) 23)) = w0 at *
    clear hw0
    have c0_0 := HA0.cv 0 (.int .i64 x.su) rfl
    go_wp2_with fail
    refine (H1.out _).mono ?_
    rintro e w1 ⟨rfl, k1⟩
    have HA1 := HA0.kept k1
    have B1 := B0.trans (k1.mono B0.size)
    have c1_1 := HA1.cv 1 (.string x.id) rfl
    go_wp2_with fail
    refine (H2.out _).mono ?_
    rintro e w2 ⟨rfl, k2⟩
    have HA2 := HA1.kept k2
    have B2 := B1.trans (k2.mono B1.size)
    go_wp2
    go_ret
    exact ⟨rfl, B2⟩

theorem isCaps_any (x : Cp) (hr : rgCp x) (w : World) : Calls Tryz.prog 40 #[.agg (cpC x)] w fun e w' => e = .returned (.bool (okCp x)) ∧ Below w.heap.size w w' := by
  have HA0 := Blk.new w 91 (cpC x)
  have B0 : Below w.heap.size w (w.alloc (.cells (cpC x) 91)) := (Below.refl _ _).alloc (Nat.le_refl _) _
  have H1 := Lib.hid (fun (g : Nat) (W : World) (h : IRow W g [x.h, x.o]) => fitsL2 2 (by decide) (by decide) x.h x.o hr.1 hr.2 g W h)
  unfold okCp
  generalize ([x.h, x.o].all (fitI 2)) = x1 at *
  obtain ⟨x2, hx2⟩ : ∃ x2, (bits .andNot .i64 x.o x.h == 0) = x2 := ⟨_, rfl⟩
  rw [hx2]
  clear hr
  cases x1 with
  | false =>
    simp only [Bool.true_and, Bool.false_and]
    go_enter Tryz.func40, Tryz.ntmps40
    go_upto_region 1 with (fail)
    generalize hw0 : (w.alloc (.cells (cpC x) 91)) = w0 at *
    clear hw0
    have c0_0 := HA0.cv 0 (.int .i64 x.h) rfl
    have c1_0 := HA0.cv 1 (.int .i64 x.o) rfl
    go_wp2_with fail
    refine (H1.out _ _ (IRow.new2 w0 x.h x.o _)).mono ?_
    rintro e w1 ⟨rfl, k1⟩
    replace k1 : Below w0.heap.size w0 w1 := ((Below.refl _ _).alloc (Nat.le_refl _) _).trans (k1.mono (by simp))
    have HA1 := HA0.kept k1
    have B1 := B0.trans (k1.mono B0.size)
    go_wp2
    go_ret
    exact ⟨rfl, B1⟩
  | true =>
    simp only [Bool.true_and]
    go_enter Tryz.func40, Tryz.ntmps40
    go_upto_region 1 with (fail)
    generalize hw0 : (w.alloc (.cells (cpC x) 91)) = w0 at *
    clear hw0
    have c0_0 := HA0.cv 0 (.int .i64 x.h) rfl
    have c1_0 := HA0.cv 1 (.int .i64 x.o) rfl
    go_wp2_with fail
    refine (H1.out _ _ (IRow.new2 w0 x.h x.o _)).mono ?_
    rintro e w1 ⟨rfl, k1⟩
    replace k1 : Below w0.heap.size w0 w1 := ((Below.refl _ _).alloc (Nat.le_refl _) _).trans (k1.mono (by simp))
    have HA1 := HA0.kept k1
    have B1 := B0.trans (k1.mono B0.size)
    have c0_1 := HA1.cv 0 (.int .i64 x.h) rfl
    have c1_1 := HA1.cv 1 (.int .i64 x.o) rfl
    go_wp2
    go_ret
    exact ⟨rfl, B1⟩

set_option maxHeartbeats 1600000 in
theorem isManage_any (x : Mg) (hr : rgMg x) (w : World) : Calls Tryz.prog 42 #[.agg (mgC x)] w fun e w' => e = .returned (.bool (okMg x)) ∧ Below w.heap.size w w' := by
  have HA0 := Blk.new w 94 (mgC x)
  have B0 : Below w.heap.size w (w.alloc (.cells (mgC x) 94)) := (Below.refl _ _).alloc (Nat.le_refl _) _
  have H1 := Lib.hid (fun (g : Nat) (W : World) (h : IRow W g [x.asb]) => fitsI1 1 (by decide) (by decide) x.asb hr.1 g W h)
  have H2 := Lib.hid (fun W => withinL_any x.ai.size 1 31 W)
  have H3 := Lib.hid (fun W => withinL_any x.fs 1 3 W)
  have H4 := Lib.hid (fun (g : Nat) (W : World) (h : IRow W g [x.fi]) => fitsI1 4 (by decide) (by decide) x.fi hr.2.2.1 g W h)
  unfold okMg
  obtain ⟨x5, hx5⟩ : ∃ x5, decide ((x.oid.size : Int) ≤ 128) = x5 := ⟨_, rfl⟩
  rw [hx5]
  generalize fitI 4 x.fi = x4 at *
  generalize wthn x.fs 1 3 = x3 at *
  generalize wthn x.ai.size 1 31 = x2 at *
  generalize fitI 1 x.asb = x1 at *
  clear hr
  cases x1 with
  | false =>
    simp only [Bool.true_and, Bool.false_and]
    go_enter Tryz.func42, Tryz.ntmps42
    go_upto_region 1 with (fail)
    generalize hw0 : (w.alloc (.cells (mgC x) 94)) = w0 at *
    clear hw0
    have c0_0 := HA0.cv 0 (.int .i64 x.asb) rfl
    go_wp2_with fail
    refine (H1.out _ _ (IRow.new1 w0 x.asb _)).mono ?_
    rintro e w1 ⟨rfl, k1⟩
    replace k1 : Below w0.heap.size w0 w1 := ((Below.refl _ _).alloc (Nat.le_refl _) _).trans (k1.mono (by simp))
    have HA1 := HA0.kept k1
    have B1 := B0.trans (k1.mono B0.size)
    go_wp2
    go_ret
    exact ⟨rfl, B1⟩
  | true =>
    cases x2 with
    | false =>
      simp only [Bool.true_and, Bool.false_and]
      go_enter Tryz.func42, Tryz.ntmps42
      go_upto_region 1 with (fail)
      generalize hw0 : (w.alloc (.cells (mgC x) 94)) = w0 at *
      clear hw0
      have c0_0 := HA0.cv 0 (.int .i64 x.asb) rfl
      go_wp2_with fail
      refine (H1.out _ _ (IRow.new1 w0 x.asb _)).mono ?_
      rintro e w1 ⟨rfl, k1⟩
      replace k1 : Below w0.heap.size w0 w1 := ((Below.refl _ _).alloc (Nat.le_refl _) _).trans (k1.mono (by simp))
      have HA1 := HA0.kept k1
      have B1 := B0.trans (k1.mono B0.size)
      have c1_1 := HA1.cv 1 (.string x.ai) rfl
      go_wp2_with fail
      refine (H2.out _).mono ?_
      rintro e w2 ⟨rfl, k2⟩
      have HA2 := HA1.kept k2
      have B2 := B1.trans (k2.mono B1.size)
      go_wp2
      go_ret
      exact ⟨rfl, B2⟩
    | true =>
      cases x3 with
      | false =>
        simp only [Bool.true_and, Bool.false_and]
        go_enter Tryz.func42, Tryz.ntmps42
        go_upto_region 1 with (fail)
        generalize hw0 : (w.alloc (.cells (mgC x) 94)) = w0 at *
        clear hw0
        have c0_0 := HA0.cv 0 (.int .i64 x.asb) rfl
        go_wp2_with fail
        refine (H1.out _ _ (IRow.new1 w0 x.asb _)).mono ?_
        rintro e w1 ⟨rfl, k1⟩
        replace k1 : Below w0.heap.size w0 w1 := ((Below.refl _ _).alloc (Nat.le_refl _) _).trans (k1.mono (by simp))
        have HA1 := HA0.kept k1
        have B1 := B0.trans (k1.mono B0.size)
        have c1_1 := HA1.cv 1 (.string x.ai) rfl
        go_wp2_with fail
        refine (H2.out _).mono ?_
        rintro e w2 ⟨rfl, k2⟩
        have HA2 := HA1.kept k2
        have B2 := B1.trans (k2.mono B1.size)
        have c2_2 := HA2.cv 2 (.int .i64 x.fs) rfl
        go_wp2_with fail
        refine (H3.out _).mono ?_
        rintro e w3 ⟨rfl, k3⟩
        have HA3 := HA2.kept k3
        have B3 := B2.trans (k3.mono B2.size)
        go_wp2
        go_ret
        exact ⟨rfl, B3⟩
      | true =>
        cases x4 with
        | false =>
          simp only [Bool.true_and, Bool.false_and]
          go_enter Tryz.func42, Tryz.ntmps42
          go_upto_region 1 with (fail)
          generalize hw0 : (w.alloc (.cells (mgC x) 94)) = w0 at *
          clear hw0
          have c0_0 := HA0.cv 0 (.int .i64 x.asb) rfl
          go_wp2_with fail
          refine (H1.out _ _ (IRow.new1 w0 x.asb _)).mono ?_
          rintro e w1 ⟨rfl, k1⟩
          replace k1 : Below w0.heap.size w0 w1 := ((Below.refl _ _).alloc (Nat.le_refl _) _).trans (k1.mono (by simp))
          have HA1 := HA0.kept k1
          have B1 := B0.trans (k1.mono B0.size)
          have c1_1 := HA1.cv 1 (.string x.ai) rfl
          go_wp2_with fail
          refine (H2.out _).mono ?_
          rintro e w2 ⟨rfl, k2⟩
          have HA2 := HA1.kept k2
          have B2 := B1.trans (k2.mono B1.size)
          have c2_2 := HA2.cv 2 (.int .i64 x.fs) rfl
          go_wp2_with fail
          refine (H3.out _).mono ?_
          rintro e w3 ⟨rfl, k3⟩
          have HA3 := HA2.kept k3
          have B3 := B2.trans (k3.mono B2.size)
          have c3_3 := HA3.cv 3 (.int .i64 x.fi) rfl
          go_wp2_with fail
          refine (H4.out _ _ (IRow.new1 w3 x.fi _)).mono ?_
          rintro e w4 ⟨rfl, k4⟩
          replace k4 : Below w3.heap.size w3 w4 := ((Below.refl _ _).alloc (Nat.le_refl _) _).trans (k4.mono (by simp))
          have HA4 := HA3.kept k4
          have B4 := B3.trans (k4.mono B3.size)
          go_wp2
          go_ret
          exact ⟨rfl, B4⟩
        | true =>
          simp only [Bool.true_and]
          go_enter Tryz.func42, Tryz.ntmps42
          go_upto_region 1 with (fail)
          generalize hw0 : (w.alloc (.cells (mgC x) 94)) = w0 at *
          clear hw0
          have c0_0 := HA0.cv 0 (.int .i64 x.asb) rfl
          go_wp2_with fail
          refine (H1.out _ _ (IRow.new1 w0 x.asb _)).mono ?_
          rintro e w1 ⟨rfl, k1⟩
          replace k1 : Below w0.heap.size w0 w1 := ((Below.refl _ _).alloc (Nat.le_refl _) _).trans (k1.mono (by simp))
          have HA1 := HA0.kept k1
          have B1 := B0.trans (k1.mono B0.size)
          have c1_1 := HA1.cv 1 (.string x.ai) rfl
          go_wp2_with fail
          refine (H2.out _).mono ?_
          rintro e w2 ⟨rfl, k2⟩
          have HA2 := HA1.kept k2
          have B2 := B1.trans (k2.mono B1.size)
          have c2_2 := HA2.cv 2 (.int .i64 x.fs) rfl
          go_wp2_with fail
          refine (H3.out _).mono ?_
          rintro e w3 ⟨rfl, k3⟩
          have HA3 := HA2.kept k3
          have B3 := B2.trans (k3.mono B2.size)
          have c3_3 := HA3.cv 3 (.int .i64 x.fi) rfl
          go_wp2_with fail
          refine (H4.out _ _ (IRow.new1 w3 x.fi _)).mono ?_
          rintro e w4 ⟨rfl, k4⟩
          replace k4 : Below w3.heap.size w3 w4 := ((Below.refl _ _).alloc (Nat.le_refl _) _).trans (k4.mono (by simp))
          have HA4 := HA3.kept k4
          have B4 := B3.trans (k4.mono B3.size)
          have c4_4 := HA4.cv 4 (.string x.oid) rfl
          go_wp2
          go_ret
          exact ⟨rfl, B4⟩

set_option maxHeartbeats 1600000 in
theorem isOrg_any (x : Og) (hr : rgOg x) (w : World) : Calls Tryz.prog 44 #[.agg (ogC x)] w fun e w' => e = .returned (.bool (okOg x)) ∧ Below w.heap.size w w' := by
  have HA0 := Blk.new w 116 (ogC x)
  have B0 : Below w.heap.size w (w.alloc (.cells (ogC x) 116)) := (Below.refl _ _).alloc (Nat.le_refl _) _
  have H1 := Lib.hid (fun (g : Nat) (W : World) (h : IRow W g [x.ou]) => fitsI1 3 (by decide) (by decide) x.ou hr.1 g W h)
  have H2 := Lib.hid (fun (g : Nat) (W : World) (h : IRow W g [x.su]) => fitsI1 1 (by decide) (by decide) x.su hr.2.1 g W h)
  unfold okOg
  obtain ⟨x3, hx3⟩ : ∃ x3, decide ((x.nf.size : Int) ≤ 507) = x3 := ⟨_, rfl⟩
  rw [hx3]
  generalize fitI 1 x.su = x2 at *
  generalize fitI 3 x.ou = x1 at *
  clear hr
  cases x1 with
  | false =>
    simp only [Bool.true_and, Bool.false_and]
    go_enter Tryz.func44, Tryz.ntmps44
    go_upto_region 1 with (fail)
    generalize hw0 : (w.alloc (.cells (ogC x) 116)) = w0 at *
    clear hw0
    have c0_0 := HA0.cv 0 (.int .i64 x.ou) rfl
    go_wp2_with fail
    refine (H1.out _ _ (IRow.new1 w0 x.ou _)).mono ?_
    rintro e w1 ⟨rfl, k1⟩
    replace k1 : Below w0.heap.size w0 w1 := ((Below.refl _ _).alloc (Nat.le_refl _) _).trans (k1.mono (by simp))
    have HA1 := HA0.kept k1
    have B1 := B0.trans (k1.mono B0.size)
    go_wp2
    go_ret
    exact ⟨rfl, B1⟩
  | true =>
    cases x2 with
    | false =>
      simp only [Bool.true_and, Bool.false_and]
      go_enter Tryz.func44, Tryz.ntmps44
      go_upto_region 1 with (fail)
      generalize hw0 : (w.alloc (.cells (ogC x) 116)) = w0 at *
      clear hw0
      have c0_0 := HA0.cv 0 (.int .i64 x.ou) rfl
      go_wp2_with fail
      refine (H1.out _ _ (IRow.new1 w0 x.ou _)).mono ?_
      rintro e w1 ⟨rfl, k1⟩
      replace k1 : Below w0.heap.size w0 w1 := ((Below.refl _ _).alloc (Nat.le_refl _) _).trans (k1.mono (by simp))
      have HA1 := HA0.kept k1
      have B1 := B0.trans (k1.mono B0.size)
      have c1_1 := HA1.cv 1 (.int .i64 x.su) rfl
      go_wp2_with fail
      refine (H2.out _ _ (IRow.new1 w1 x.su _)).mono ?_
      rintro e w2 ⟨rfl, k2⟩
      replace k2 : Below w1.heap.size w1 w2 := ((Below.refl _ _).alloc (Nat.le_refl _) _).trans (k2.mono (by simp))
      have HA2 := HA1.kept k2
      have B2 := B1.trans (k2.mono B1.size)
      go_wp2
      go_ret
      exact ⟨rfl, B2⟩
    | true =>
      simp only [Bool.true_and]
      go_enter Tryz.func44, Tryz.ntmps44
      go_upto_region 1 with (fail)
      generalize hw0 : (w.alloc (.cells (ogC x) 116)) = w0 at *
      clear hw0
      have c0_0 := HA0.cv 0 (.int .i64 x.ou) rfl
      go_wp2_with fail
      refine (H1.out _ _ (IRow.new1 w0 x.ou _)).mono ?_
      rintro e w1 ⟨rfl, k1⟩
      replace k1 : Below w0.heap.size w0 w1 := ((Below.refl _ _).alloc (Nat.le_refl _) _).trans (k1.mono (by simp))
      have HA1 := HA0.kept k1
      have B1 := B0.trans (k1.mono B0.size)
      have c1_1 := HA1.cv 1 (.int .i64 x.su) rfl
      go_wp2_with fail
      refine (H2.out _ _ (IRow.new1 w1 x.su _)).mono ?_
      rintro e w2 ⟨rfl, k2⟩
      replace k2 : Below w1.heap.size w1 w2 := ((Below.refl _ _).alloc (Nat.le_refl _) _).trans (k2.mono (by simp))
      have HA2 := HA1.kept k2
      have B2 := B1.trans (k2.mono B1.size)
      have c2_2 := HA2.cv 2 (.string x.nf) rfl
      go_wp2
      go_ret
      exact ⟨rfl, B2⟩

end Go.Proofs.YtcijhmbimbejfaaGreatDoor

namespace Go.Proofs.YtcijhmbimbejfaaGreatDoor
open Go.RowKit
attribute [local go_sem ↓] Go.wp_at_zero Go.wp_at_succ
set_option linter.unusedSimpArgs false
set_option linter.unusedVariables false
set_option maxRecDepth 100000

theorem st_no (x : ByteArray) (B : Nat) (w : World) (HB : Blk w B 72 #[.func (.func 38) #[] #[]]) : Calls Tryz.prog 103 #[.string x, .pointer (some ⟨B, 0, none⟩)] w fun e w' => e = .returned (.bool (!(okSt x))) ∧ Below w.heap.size w w' := by
  have HM := Lib.hid (fun W => isText_any x W)
  have c0 := HB.cv 0 (.func (.func 38) #[] #[]) rfl
  go_enter Tryz.func103, Tryz.ntmps103
  go_wp2_with fail
  refine (HM.out _).mono ?_
  rintro e w2 ⟨rfl, k2⟩
  go_wp2
  go_ret
  exact ⟨rfl, k2⟩

set_option maxHeartbeats 1600000 in
theorem st_index (a : Option Addr) (c : Nat) (l : List ByteArray) (B : Nat) (w : World) (h : StIn w a l) (hlen : l.length ≤ maxLen) (HB : Blk w B 72 #[.func (.func 38) #[] #[]]) :
    Calls Tryz.prog 117 #[.slice a l.length c, .func (.func 103) #[] #[.pointer (some ⟨B, 0, none⟩)]] w fun e w' => (∃ r : Int, e = .returned (.int .i64 r) ∧ decide ((0 : Int) ≤ r) = !(l.all okSt)) ∧ Below w.heap.size w w' := by
  have hll : l.length ≤ 9223372036854775807 := hlen
  have HNO := Lib.hid (fun (x : ByteArray) (W : World) (h : Blk W B 72 #[.func (.func 38) #[] #[]]) => st_no x B W h)
  skip
  clear hlen
  go_enter Tryz.func117, Tryz.ntmps117
  go_wp2_with fail
  go_loopw [8] (fun i wr => ∃ k : Nat, k ≤ l.length ∧ i = .int .i64 k ∧ (∀ x ∈ l.take k, okSt x = true) ∧ Below w.heap.size w wr) (fun i _ => l.length - (intOf i).toNat)
  case atStart => exact ⟨0, by omega, rfl, by simp, Below.refl _ _⟩
  case round =>
    obtain ⟨k, hk, rfl, hall, Bk⟩ := hrel
    by_cases hlt : k < l.length
    · have hIk := h.below Bk
      obtain ⟨b, lo, rfl, hbl, hat⟩ := hIk.at hlt
      have q1 : (k : Int) < (l.length : Int) := by omega
      have q2 : decide ((k : Int) < (l.length : Int)) = true := decide_eq_true q1
      have q3 : (0 : Int) ≤ (k : Int) := by omega
      have q4 : IntKind.i64.wrap ((k : Int) + 1) = (k : Int) + 1 := by rw [IntKind.wrap_i64] <;> omega
      have HK := hat k hlt
      have hmem := List.getElem_mem hlt
      have hsn : l.take (k + 1) = l.take k ++ [l[k]] := by rw [List.take_add_one, List.getElem?_eq_getElem hlt]; rfl
      have HBk := HB.kept Bk
      skip
      have HN2 := Lib.hid (HNO.out l[k] wr HBk)
      have hsw := Bk.size
      have HS := Lib.hid hsn
      have HME := Lib.hid hmem
      generalize l[k] = x at *
      clear hat hsn hmem hIk HNO
      have KX : wr.cell? ⟨b, lo + k, none⟩ = some (.string x) := by
        have q := HK 0 (.string x) rfl
        rw [Nat.mul_one, Nat.add_zero] at q
        exact q
      clear HK
      go_wp2_with fail
      refine HN2.out.mono ?_
      rintro e w2 ⟨rfl, k2⟩
      have B2 := Bk.trans (k2.mono hsw)
      clear HN2
      cases hx : okSt x with
      | true =>
        have hd : (!true) = false := rfl
        go_wp2
        go_roundw
        case rel => exact ⟨k + 1, by omega, by go_num, by
          rw [HS.out]
          intro y hy
          rcases List.mem_append.1 hy with q | q
          · exact hall y q
          · rw [List.mem_singleton.1 q]; exact hx, B2⟩
        case measure => simp [intOf]; omega
      | false =>
        have hd : (!false) = true := rfl
        have hno : Hid (l.all okSt = false) := by
          show _ = _
          rw [Bool.eq_false_iff]
          intro q
          have q2 := List.all_eq_true.1 q x HME.out
          rw [hx] at q2
          cases q2
        go_wp2
        go_ret
        refine ⟨⟨_, rfl, ?_⟩, B2⟩
        rw [hno.out]
        exact decide_eq_true q3
    · obtain rfl : k = l.length := by omega
      have q2 : decide ((l.length : Int) < (l.length : Int)) = false := decide_eq_false (by omega)
      have hyes : Hid (l.all okSt = true) := by
        show _ = _
        rw [List.take_length] at hall
        exact List.all_eq_true.2 hall
      clear hall
      go_wp2
      go_ret
      refine ⟨⟨_, rfl, ?_⟩, Bk⟩
      rw [hyes.out]
      rfl
theorem st_contains (a : Option Addr) (c : Nat) (l : List ByteArray) (B : Nat) (w : World) (h : StIn w a l) (hlen : l.length ≤ maxLen) (HB : Blk w B 72 #[.func (.func 38) #[] #[]]) :
    Calls Tryz.prog 102 #[.slice a l.length c, .func (.func 103) #[] #[.pointer (some ⟨B, 0, none⟩)]] w fun e w' => e = .returned (.bool (!(l.all okSt))) ∧ Below w.heap.size w w' := by
  have HX := Lib.hid (st_index a c l B w h hlen HB)
  go_enter Tryz.func102, Tryz.ntmps102
  go_wp2_with fail
  refine HX.out.mono ?_
  rintro e w2 ⟨⟨r, rfl, hd⟩, k2⟩
  go_wp2
  go_ret
  exact ⟨by rw [← hd]; rfl, k2⟩
theorem st_each (a : Option Addr) (c : Nat) (l : List ByteArray) (w : World) (h : StIn w a l) (hlen : l.length ≤ maxLen) :
    Calls Tryz.prog 77 #[.slice a l.length c, .func (.func 38) #[] #[]] w fun e w' => e = .returned (.bool (l.all okSt)) ∧ Below w.heap.size w w' := by
  have hmf : ∀ (fn : Fn) (first cap : Array Value) (w : World), (Instr.makeFunc fn first cap).run Tryz.prog w = .ok (.func fn first cap) w := fun _ _ _ _ => rfl
  have HA0 := Blk.new w 72 #[.func (.func 38) #[] #[]]
  have B0 : Below w.heap.size w (w.alloc (.cells #[.func (.func 38) #[] #[]] 72)) := (Below.refl _ _).alloc (Nat.le_refl _) _
  have HX := Lib.hid (st_contains a c l w.heap.size _ (h.below B0) hlen HA0)
  generalize l.all okSt = r at *
  go_enter Tryz.func77, Tryz.ntmps77
  go_wp2_with fail
  refine HX.out.mono ?_
  rintro e w2 ⟨rfl, k2⟩
  go_wp2
  go_ret
  exact ⟨by simp, B0.trans (k2.mono B0.size)⟩
theorem st_few (a : Option Addr) (c : Nat) (l : List ByteArray) (w : World) (h : StIn w a l) (hlen : l.length ≤ maxLen) :
    Calls Tryz.prog 37 #[.slice a l.length c, .func (.func 38) #[] #[]] w fun e w' => e = .returned (.bool (few okSt l)) ∧ Below w.heap.size w w' := by
  have HX := Lib.hid (st_each a c l w h hlen)
  unfold few
  generalize l.all okSt = r at *
  by_cases h1 : l.length ≤ 1
  · have d1 : decide ((l.length : Int) ≤ 1) = true := decide_eq_true (by omega)
    rw [d1, Bool.true_and]
    go_enter Tryz.func37, Tryz.ntmps37
    go_wp2_with fail
    refine HX.out.mono ?_
    rintro e w2 ⟨rfl, k2⟩
    go_wp2
    go_ret
    exact ⟨rfl, k2⟩
  · have d1 : decide ((l.length : Int) ≤ 1) = false := decide_eq_false (by omega)
    rw [d1, Bool.false_and]
    go_enter Tryz.func37, Tryz.ntmps37
    go_wp2
    go_ret
    exact ⟨rfl, Below.refl _ _⟩


end Go.Proofs.YtcijhmbimbejfaaGreatDoor

namespace Go.Proofs.YtcijhmbimbejfaaGreatDoor
open Go.RowKit
attribute [local go_sem ↓] Go.wp_at_zero Go.wp_at_succ
set_option linter.unusedSimpArgs false
set_option linter.unusedVariables false
set_option maxRecDepth 100000

theorem cp_no (x : Cp) (hr : rgCp x) (B : Nat) (w : World) (HB : Blk w B 89 #[.func (.func 40) #[] #[]]) : Calls Tryz.prog 105 #[.agg (cpC x), .pointer (some ⟨B, 0, none⟩)] w fun e w' => e = .returned (.bool (!(okCp x))) ∧ Below w.heap.size w w' := by
  have HM := Lib.hid (fun W => isCaps_any x hr W)
  have HA0 := Blk.new w 91 (cpC x)
  have B0 : Below w.heap.size w (w.alloc (.cells (cpC x) 91)) := (Below.refl _ _).alloc (Nat.le_refl _) _
  have HB1 := HB.kept B0
  have c0 := HB1.cv 0 (.func (.func 40) #[] #[]) rfl
  go_enter Tryz.func105, Tryz.ntmps105
  go_upto_region 1 with (fail)
  generalize (w.alloc (.cells (cpC x) 91)) = w1 at *
  go_wp2_with (refine load_blk (k := 0) 91 (cpC x) (by rfl) rfl rfl HA0 (by kernel_rfl) (by kernel_rfl) rfl ?_)
  refine (HM.out _).mono ?_
  rintro e w2 ⟨rfl, k2⟩
  go_wp2
  go_ret
  exact ⟨rfl, B0.trans (k2.mono B0.size)⟩

set_option maxHeartbeats 1600000 in
theorem cp_index (a : Option Addr) (c : Nat) (l : List Cp) (hr : ∀ x ∈ l, rgCp x) (B : Nat) (w : World) (h : CpIn w a l) (hlen : l.length ≤ maxLen) (HB : Blk w B 89 #[.func (.func 40) #[] #[]]) :
    Calls Tryz.prog 118 #[.slice a l.length c, .func (.func 105) #[] #[.pointer (some ⟨B, 0, none⟩)]] w fun e w' => (∃ r : Int, e = .returned (.int .i64 r) ∧ decide ((0 : Int) ≤ r) = !(l.all okCp)) ∧ Below w.heap.size w w' := by
  have hll : l.length ≤ 9223372036854775807 := hlen
  have HNO := Lib.hid (fun (x : Cp) (hr : rgCp x) (W : World) (h : Blk W B 89 #[.func (.func 40) #[] #[]]) => cp_no x hr B W h)
  have HRG := Lib.hid hr
  clear hr hlen
  go_enter Tryz.func118, Tryz.ntmps118
  go_wp2_with fail
  go_loopw [8] (fun i wr => ∃ k : Nat, k ≤ l.length ∧ i = .int .i64 k ∧ (∀ x ∈ l.take k, okCp x = true) ∧ Below w.heap.size w wr) (fun i _ => l.length - (intOf i).toNat)
  case atStart => exact ⟨0, by omega, rfl, by simp, Below.refl _ _⟩
  case round =>
    obtain ⟨k, hk, rfl, hall, Bk⟩ := hrel
    by_cases hlt : k < l.length
    · have hIk := h.below Bk
      obtain ⟨b, lo, rfl, hbl, hat⟩ := hIk.at hlt
      have q1 : (k : Int) < (l.length : Int) := by omega
      have q2 : decide ((k : Int) < (l.length : Int)) = true := decide_eq_true q1
      have q3 : (0 : Int) ≤ (k : Int) := by omega
      have q4 : IntKind.i64.wrap ((k : Int) + 1) = (k : Int) + 1 := by rw [IntKind.wrap_i64] <;> omega
      have HK := hat k hlt
      have hmem := List.getElem_mem hlt
      have hsn : l.take (k + 1) = l.take k ++ [l[k]] := by rw [List.take_add_one, List.getElem?_eq_getElem hlt]; rfl
      have HBk := HB.kept Bk
      have hrx := HRG.out _ hmem
      have HN2 := Lib.hid (HNO.out l[k] hrx wr HBk)
      have hsw := Bk.size
      have HS := Lib.hid hsn
      have HME := Lib.hid hmem
      generalize l[k] = x at *
      clear hat hsn hmem hIk HNO
      go_wp2_with (refine load_cells (B := b) (k := lo + k * 2) 91 (cpC x) (by rfl) rfl rfl HK (by kernel_rfl) (by kernel_rfl) ?_)
      refine HN2.out.mono ?_
      rintro e w2 ⟨rfl, k2⟩
      have B2 := Bk.trans (k2.mono hsw)
      clear HN2
      cases hx : okCp x with
      | true =>
        have hd : (!true) = false := rfl
        go_wp2
        go_roundw
        case rel => exact ⟨k + 1, by omega, by go_num, by
          rw [HS.out]
          intro y hy
          rcases List.mem_append.1 hy with q | q
          · exact hall y q
          · rw [List.mem_singleton.1 q]; exact hx, B2⟩
        case measure => simp [intOf]; omega
      | false =>
        have hd : (!false) = true := rfl
        have hno : Hid (l.all okCp = false) := by
          show _ = _
          rw [Bool.eq_false_iff]
          intro q
          have q2 := List.all_eq_true.1 q x HME.out
          rw [hx] at q2
          cases q2
        go_wp2
        go_ret
        refine ⟨⟨_, rfl, ?_⟩, B2⟩
        rw [hno.out]
        exact decide_eq_true q3
    · obtain rfl : k = l.length := by omega
      have q2 : decide ((l.length : Int) < (l.length : Int)) = false := decide_eq_false (by omega)
      have hyes : Hid (l.all okCp = true) := by
        show _ = _
        rw [List.take_length] at hall
        exact List.all_eq_true.2 hall
      clear hall
      go_wp2
      go_ret
      refine ⟨⟨_, rfl, ?_⟩, Bk⟩
      rw [hyes.out]
      rfl
theorem cp_contains (a : Option Addr) (c : Nat) (l : List Cp) (hr : ∀ x ∈ l, rgCp x) (B : Nat) (w : World) (h : CpIn w a l) (hlen : l.length ≤ maxLen) (HB : Blk w B 89 #[.func (.func 40) #[] #[]]) :
    Calls Tryz.prog 104 #[.slice a l.length c, .func (.func 105) #[] #[.pointer (some ⟨B, 0, none⟩)]] w fun e w' => e = .returned (.bool (!(l.all okCp))) ∧ Below w.heap.size w w' := by
  have HX := Lib.hid (cp_index a c l hr B w h hlen HB)
  go_enter Tryz.func104, Tryz.ntmps104
  go_wp2_with fail
  refine HX.out.mono ?_
  rintro e w2 ⟨⟨r, rfl, hd⟩, k2⟩
  go_wp2
  go_ret
  exact ⟨by rw [← hd]; rfl, k2⟩
theorem cp_each (a : Option Addr) (c : Nat) (l : List Cp) (hr : ∀ x ∈ l, rgCp x) (w : World) (h : CpIn w a l) (hlen : l.length ≤ maxLen) :
    Calls Tryz.prog 78 #[.slice a l.length c, .func (.func 40) #[] #[]] w fun e w' => e = .returned (.bool (l.all okCp)) ∧ Below w.heap.size w w' := by
  have hmf : ∀ (fn : Fn) (first cap : Array Value) (w : World), (Instr.makeFunc fn first cap).run Tryz.prog w = .ok (.func fn first cap) w := fun _ _ _ _ => rfl
  have HA0 := Blk.new w 89 #[.func (.func 40) #[] #[]]
  have B0 : Below w.heap.size w (w.alloc (.cells #[.func (.func 40) #[] #[]] 89)) := (Below.refl _ _).alloc (Nat.le_refl _) _
  have HX := Lib.hid (cp_contains a c l hr w.heap.size _ (h.below B0) hlen HA0)
  generalize l.all okCp = r at *
  go_enter Tryz.func78, Tryz.ntmps78
  go_wp2_with fail
  refine HX.out.mono ?_
  rintro e w2 ⟨rfl, k2⟩
  go_wp2
  go_ret
  exact ⟨by simp, B0.trans (k2.mono B0.size)⟩
theorem cp_few (a : Option Addr) (c : Nat) (l : List Cp) (hr : ∀ x ∈ l, rgCp x) (w : World) (h : CpIn w a l) (hlen : l.length ≤ maxLen) :
    Calls Tryz.prog 39 #[.slice a l.length c, .func (.func 40) #[] #[]] w fun e w' => e = .returned (.bool (few okCp l)) ∧ Below w.heap.size w w' := by
  have HX := Lib.hid (cp_each a c l hr w h hlen)
  unfold few
  generalize l.all okCp = r at *
  by_cases h1 : l.length ≤ 1
  · have d1 : decide ((l.length : Int) ≤ 1) = true := decide_eq_true (by omega)
    rw [d1, Bool.true_and]
    go_enter Tryz.func39, Tryz.ntmps39
    go_wp2_with fail
    refine HX.out.mono ?_
    rintro e w2 ⟨rfl, k2⟩
    go_wp2
    go_ret
    exact ⟨rfl, k2⟩
  · have d1 : decide ((l.length : Int) ≤ 1) = false := decide_eq_false (by omega)
    rw [d1, Bool.false_and]
    go_enter Tryz.func39, Tryz.ntmps39
    go_wp2
    go_ret
    exact ⟨rfl, Below.refl _ _⟩


end Go.Proofs.YtcijhmbimbejfaaGreatDoor

namespace Go.Proofs.YtcijhmbimbejfaaGreatDoor
open Go.RowKit
attribute [local go_sem ↓] Go.wp_at_zero Go.wp_at_succ
set_option linter.unusedSimpArgs false
set_option linter.unusedVariables false
set_option maxRecDepth 100000

theorem mg_no (x : Mg) (hr : rgMg x) (B : Nat) (w : World) (HB : Blk w B 92 #[.func (.func 42) #[] #[]]) : Calls Tryz.prog 80 #[.agg (mgC x), .pointer (some ⟨B, 0, none⟩)] w fun e w' => e = .returned (.bool (!(okMg x))) ∧ Below w.heap.size w w' := by
  have HM := Lib.hid (fun W => isManage_any x hr W)
  have HA0 := Blk.new w 94 (mgC x)
  have B0 : Below w.heap.size w (w.alloc (.cells (mgC x) 94)) := (Below.refl _ _).alloc (Nat.le_refl _) _
  have HB1 := HB.kept B0
  have c0 := HB1.cv 0 (.func (.func 42) #[] #[]) rfl
  go_enter Tryz.func80, Tryz.ntmps80
  go_upto_region 1 with (fail)
  generalize (w.alloc (.cells (mgC x) 94)) = w1 at *
  go_wp2_with (refine load_blk (k := 0) 94 (mgC x) (by rfl) rfl rfl HA0 (by kernel_rfl) (by kernel_rfl) rfl ?_)
  refine (HM.out _).mono ?_
  rintro e w2 ⟨rfl, k2⟩
  go_wp2
  go_ret
  exact ⟨rfl, B0.trans (k2.mono B0.size)⟩

set_option maxHeartbeats 1600000 in
theorem mg_index (a : Option Addr) (c : Nat) (l : List Mg) (hr : ∀ x ∈ l, rgMg x) (B : Nat) (w : World) (h : MgIn w a l) (hlen : l.length ≤ maxLen) (HB : Blk w B 92 #[.func (.func 42) #[] #[]]) :
    Calls Tryz.prog 106 #[.slice a l.length c, .func (.func 80) #[] #[.pointer (some ⟨B, 0, none⟩)]] w fun e w' => (∃ r : Int, e = .returned (.int .i64 r) ∧ decide ((0 : Int) ≤ r) = !(l.all okMg)) ∧ Below w.heap.size w w' := by
  have hll : l.length ≤ 9223372036854775807 := hlen
  have HNO := Lib.hid (fun (x : Mg) (hr : rgMg x) (W : World) (h : Blk W B 92 #[.func (.func 42) #[] #[]]) => mg_no x hr B W h)
  have HRG := Lib.hid hr
  clear hr hlen
  go_enter Tryz.func106, Tryz.ntmps106
  go_wp2_with fail
  go_loopw [8] (fun i wr => ∃ k : Nat, k ≤ l.length ∧ i = .int .i64 k ∧ (∀ x ∈ l.take k, okMg x = true) ∧ Below w.heap.size w wr) (fun i _ => l.length - (intOf i).toNat)
  case atStart => exact ⟨0, by omega, rfl, by simp, Below.refl _ _⟩
  case round =>
    obtain ⟨k, hk, rfl, hall, Bk⟩ := hrel
    by_cases hlt : k < l.length
    · have hIk := h.below Bk
      obtain ⟨b, lo, rfl, hbl, hat⟩ := hIk.at hlt
      have q1 : (k : Int) < (l.length : Int) := by omega
      have q2 : decide ((k : Int) < (l.length : Int)) = true := decide_eq_true q1
      have q3 : (0 : Int) ≤ (k : Int) := by omega
      have q4 : IntKind.i64.wrap ((k : Int) + 1) = (k : Int) + 1 := by rw [IntKind.wrap_i64] <;> omega
      have HK := hat k hlt
      have hmem := List.getElem_mem hlt
      have hsn : l.take (k + 1) = l.take k ++ [l[k]] := by rw [List.take_add_one, List.getElem?_eq_getElem hlt]; rfl
      have HBk := HB.kept Bk
      have hrx := HRG.out _ hmem
      have HN2 := Lib.hid (HNO.out l[k] hrx wr HBk)
      have hsw := Bk.size
      have HS := Lib.hid hsn
      have HME := Lib.hid hmem
      generalize l[k] = x at *
      clear hat hsn hmem hIk HNO
      go_wp2_with (refine load_cells (B := b) (k := lo + k * 5) 94 (mgC x) (by rfl) rfl rfl HK (by kernel_rfl) (by kernel_rfl) ?_)
      refine HN2.out.mono ?_
      rintro e w2 ⟨rfl, k2⟩
      have B2 := Bk.trans (k2.mono hsw)
      clear HN2
      cases hx : okMg x with
      | true =>
        have hd : (!true) = false := rfl
        go_wp2
        go_roundw
        case rel => exact ⟨k + 1, by omega, by go_num, by
          rw [HS.out]
          intro y hy
          rcases List.mem_append.1 hy with q | q
          · exact hall y q
          · rw [List.mem_singleton.1 q]; exact hx, B2⟩
        case measure => simp [intOf]; omega
      | false =>
        have hd : (!false) = true := rfl
        have hno : Hid (l.all okMg = false) := by
          show _ = _
          rw [Bool.eq_false_iff]
          intro q
          have q2 := List.all_eq_true.1 q x HME.out
          rw [hx] at q2
          cases q2
        go_wp2
        go_ret
        refine ⟨⟨_, rfl, ?_⟩, B2⟩
        rw [hno.out]
        exact decide_eq_true q3
    · obtain rfl : k = l.length := by omega
      have q2 : decide ((l.length : Int) < (l.length : Int)) = false := decide_eq_false (by omega)
      have hyes : Hid (l.all okMg = true) := by
        show _ = _
        rw [List.take_length] at hall
        exact List.all_eq_true.2 hall
      clear hall
      go_wp2
      go_ret
      refine ⟨⟨_, rfl, ?_⟩, Bk⟩
      rw [hyes.out]
      rfl
theorem mg_contains (a : Option Addr) (c : Nat) (l : List Mg) (hr : ∀ x ∈ l, rgMg x) (B : Nat) (w : World) (h : MgIn w a l) (hlen : l.length ≤ maxLen) (HB : Blk w B 92 #[.func (.func 42) #[] #[]]) :
    Calls Tryz.prog 79 #[.slice a l.length c, .func (.func 80) #[] #[.pointer (some ⟨B, 0, none⟩)]] w fun e w' => e = .returned (.bool (!(l.all okMg))) ∧ Below w.heap.size w w' := by
  have HX := Lib.hid (mg_index a c l hr B w h hlen HB)
  go_enter Tryz.func79, Tryz.ntmps79
  go_wp2_with fail
  refine HX.out.mono ?_
  rintro e w2 ⟨⟨r, rfl, hd⟩, k2⟩
  go_wp2
  go_ret
  exact ⟨by rw [← hd]; rfl, k2⟩
theorem mg_each (a : Option Addr) (c : Nat) (l : List Mg) (hr : ∀ x ∈ l, rgMg x) (w : World) (h : MgIn w a l) (hlen : l.length ≤ maxLen) :
    Calls Tryz.prog 41 #[.slice a l.length c, .func (.func 42) #[] #[]] w fun e w' => e = .returned (.bool (l.all okMg)) ∧ Below w.heap.size w w' := by
  have hmf : ∀ (fn : Fn) (first cap : Array Value) (w : World), (Instr.makeFunc fn first cap).run Tryz.prog w = .ok (.func fn first cap) w := fun _ _ _ _ => rfl
  have HA0 := Blk.new w 92 #[.func (.func 42) #[] #[]]
  have B0 : Below w.heap.size w (w.alloc (.cells #[.func (.func 42) #[] #[]] 92)) := (Below.refl _ _).alloc (Nat.le_refl _) _
  have HX := Lib.hid (mg_contains a c l hr w.heap.size _ (h.below B0) hlen HA0)
  generalize l.all okMg = r at *
  go_enter Tryz.func41, Tryz.ntmps41
  go_wp2_with fail
  refine HX.out.mono ?_
  rintro e w2 ⟨rfl, k2⟩
  go_wp2
  go_ret
  exact ⟨by simp, B0.trans (k2.mono B0.size)⟩


end Go.Proofs.YtcijhmbimbejfaaGreatDoor

namespace Go.Proofs.YtcijhmbimbejfaaGreatDoor
open Go.RowKit
attribute [local go_sem ↓] Go.wp_at_zero Go.wp_at_succ
set_option linter.unusedSimpArgs false
set_option linter.unusedVariables false
set_option maxRecDepth 100000

theorem og_no (x : Og) (hr : rgOg x) (B : Nat) (w : World) (HB : Blk w B 125 #[.func (.func 44) #[] #[]]) : Calls Tryz.prog 82 #[.agg (ogC x), .pointer (some ⟨B, 0, none⟩)] w fun e w' => e = .returned (.bool (!(okOg x))) ∧ Below w.heap.size w w' := by
  have HM := Lib.hid (fun W => isOrg_any x hr W)
  have HA0 := Blk.new w 116 (ogC x)
  have B0 : Below w.heap.size w (w.alloc (.cells (ogC x) 116)) := (Below.refl _ _).alloc (Nat.le_refl _) _
  have HB1 := HB.kept B0
  have c0 := HB1.cv 0 (.func (.func 44) #[] #[]) rfl
  go_enter Tryz.func82, Tryz.ntmps82
  go_upto_region 1 with (fail)
  generalize (w.alloc (.cells (ogC x) 116)) = w1 at *
  go_wp2_with (refine load_blk (k := 0) 116 (ogC x) (by rfl) rfl rfl HA0 (by kernel_rfl) (by kernel_rfl) rfl ?_)
  refine (HM.out _).mono ?_
  rintro e w2 ⟨rfl, k2⟩
  go_wp2
  go_ret
  exact ⟨rfl, B0.trans (k2.mono B0.size)⟩

set_option maxHeartbeats 1600000 in
theorem og_index (a : Option Addr) (c : Nat) (l : List Og) (hr : ∀ x ∈ l, rgOg x) (B : Nat) (w : World) (h : OgIn w a l) (hlen : l.length ≤ maxLen) (HB : Blk w B 125 #[.func (.func 44) #[] #[]]) :
    Calls Tryz.prog 107 #[.slice a l.length c, .func (.func 82) #[] #[.pointer (some ⟨B, 0, none⟩)]] w fun e w' => (∃ r : Int, e = .returned (.int .i64 r) ∧ decide ((0 : Int) ≤ r) = !(l.all okOg)) ∧ Below w.heap.size w w' := by
  have hll : l.length ≤ 9223372036854775807 := hlen
  have HNO := Lib.hid (fun (x : Og) (hr : rgOg x) (W : World) (h : Blk W B 125 #[.func (.func 44) #[] #[]]) => og_no x hr B W h)
  have HRG := Lib.hid hr
  clear hr hlen
  go_enter Tryz.func107, Tryz.ntmps107
  go_wp2_with fail
  go_loopw [8] (fun i wr => ∃ k : Nat, k ≤ l.length ∧ i = .int .i64 k ∧ (∀ x ∈ l.take k, okOg x = true) ∧ Below w.heap.size w wr) (fun i _ => l.length - (intOf i).toNat)
  case atStart => exact ⟨0, by omega, rfl, by simp, Below.refl _ _⟩
  case round =>
    obtain ⟨k, hk, rfl, hall, Bk⟩ := hrel
    by_cases hlt : k < l.length
    · have hIk := h.below Bk
      obtain ⟨b, lo, rfl, hbl, hat⟩ := hIk.at hlt
      have q1 : (k : Int) < (l.length : Int) := by omega
      have q2 : decide ((k : Int) < (l.length : Int)) = true := decide_eq_true q1
      have q3 : (0 : Int) ≤ (k : Int) := by omega
      have q4 : IntKind.i64.wrap ((k : Int) + 1) = (k : Int) + 1 := by rw [IntKind.wrap_i64] <;> omega
      have HK := hat k hlt
      have hmem := List.getElem_mem hlt
      have hsn : l.take (k + 1) = l.take k ++ [l[k]] := by rw [List.take_add_one, List.getElem?_eq_getElem hlt]; rfl
      have HBk := HB.kept Bk
      have hrx := HRG.out _ hmem
      have HN2 := Lib.hid (HNO.out l[k] hrx wr HBk)
      have hsw := Bk.size
      have HS := Lib.hid hsn
      have HME := Lib.hid hmem
      generalize l[k] = x at *
      clear hat hsn hmem hIk HNO
      go_wp2_with (refine load_cells (B := b) (k := lo + k * 3) 116 (ogC x) (by rfl) rfl rfl HK (by kernel_rfl) (by kernel_rfl) ?_)
      refine HN2.out.mono ?_
      rintro e w2 ⟨rfl, k2⟩
      have B2 := Bk.trans (k2.mono hsw)
      clear HN2
      cases hx : okOg x with
      | true =>
        have hd : (!true) = false := rfl
        go_wp2
        go_roundw
        case rel => exact ⟨k + 1, by omega, by go_num, by
          rw [HS.out]
          intro y hy
          rcases List.mem_append.1 hy with q | q
          · exact hall y q
          · rw [List.mem_singleton.1 q]; exact hx, B2⟩
        case measure => simp [intOf]; omega
      | false =>
        have hd : (!false) = true := rfl
        have hno : Hid (l.all okOg = false) := by
          show _ = _
          rw [Bool.eq_false_iff]
          intro q
          have q2 := List.all_eq_true.1 q x HME.out
          rw [hx] at q2
          cases q2
        go_wp2
        go_ret
        refine ⟨⟨_, rfl, ?_⟩, B2⟩
        rw [hno.out]
        exact decide_eq_true q3
    · obtain rfl : k = l.length := by omega
      have q2 : decide ((l.length : Int) < (l.length : Int)) = false := decide_eq_false (by omega)
      have hyes : Hid (l.all okOg = true) := by
        show _ = _
        rw [List.take_length] at hall
        exact List.all_eq_true.2 hall
      clear hall
      go_wp2
      go_ret
      refine ⟨⟨_, rfl, ?_⟩, Bk⟩
      rw [hyes.out]
      rfl
theorem og_contains (a : Option Addr) (c : Nat) (l : List Og) (hr : ∀ x ∈ l, rgOg x) (B : Nat) (w : World) (h : OgIn w a l) (hlen : l.length ≤ maxLen) (HB : Blk w B 125 #[.func (.func 44) #[] #[]]) :
    Calls Tryz.prog 81 #[.slice a l.length c, .func (.func 82) #[] #[.pointer (some ⟨B, 0, none⟩)]] w fun e w' => e = .returned (.bool (!(l.all okOg))) ∧ Below w.heap.size w w' := by
  have HX := Lib.hid (og_index a c l hr B w h hlen HB)
  go_enter Tryz.func81, Tryz.ntmps81
  go_wp2_with fail
  refine HX.out.mono ?_
  rintro e w2 ⟨⟨r, rfl, hd⟩, k2⟩
  go_wp2
  go_ret
  exact ⟨by rw [← hd]; rfl, k2⟩
theorem og_each (a : Option Addr) (c : Nat) (l : List Og) (hr : ∀ x ∈ l, rgOg x) (w : World) (h : OgIn w a l) (hlen : l.length ≤ maxLen) :
    Calls Tryz.prog 43 #[.slice a l.length c, .func (.func 44) #[] #[]] w fun e w' => e = .returned (.bool (l.all okOg)) ∧ Below w.heap.size w w' := by
  have hmf : ∀ (fn : Fn) (first cap : Array Value) (w : World), (Instr.makeFunc fn first cap).run Tryz.prog w = .ok (.func fn first cap) w := fun _ _ _ _ => rfl
  have HA0 := Blk.new w 125 #[.func (.func 44) #[] #[]]
  have B0 : Below w.heap.size w (w.alloc (.cells #[.func (.func 44) #[] #[]] 125)) := (Below.refl _ _).alloc (Nat.le_refl _) _
  have HX := Lib.hid (og_contains a c l hr w.heap.size _ (h.below B0) hlen HA0)
  generalize l.all okOg = r at *
  go_enter Tryz.func43, Tryz.ntmps43
  go_wp2_with fail
  refine HX.out.mono ?_
  rintro e w2 ⟨rfl, k2⟩
  go_wp2
  go_ret
  exact ⟨by simp, B0.trans (k2.mono B0.size)⟩


end Go.Proofs.YtcijhmbimbejfaaGreatDoor

namespace Go.Proofs.YtcijhmbimbejfaaGreatDoor
open Go.RowKit
attribute [local go_sem ↓] Go.wp_at_zero Go.wp_at_succ
set_option linter.unusedSimpArgs false
set_option linter.unusedVariables false
set_option maxRecDepth 100000

set_option maxHeartbeats 12800000 in
theorem ldRight_any (x : Ld) (q : LdA) (w : World) (h : LdIn w x q) (hr : rgLd x) : Calls Tryz.prog 12 #[.agg (ldC x q)] w fun e w' => e = .returned (.bool (okLd x)) ∧ Below w.heap.size w w' := by
  obtain ⟨r1, r2, r3, r4, r5, r6, n1, n2, n3, n4, n5, n6⟩ := hr
  obtain ⟨h1, h2, h3, h4, h5, h6⟩ := h
  have HA0 := Blk.new w 29 (ldC x q)
  have B0 : Below w.heap.size w (w.alloc (.cells (ldC x q) 29)) := (Below.refl _ _).alloc (Nat.le_refl _) _
  have H1 := Lib.hid (isName_any x.ch)
  have H2 := Lib.hid (isName_any x.po)
  have H3 := Lib.hid (fun (g : Nat) (W : World) (h : IRow W g [x.tt]) => fitsI1 2 (by decide) (by decide) x.tt r3 g W h)
  have H4 := Lib.hid (fun W (h : StIn W q.de.1 x.de) => st_few q.de.1 q.de.2 x.de W h n1)
  have H5 := Lib.hid (fun W (h : StIn W q.ho.1 x.ho) => st_few q.ho.1 q.ho.2 x.ho W h n2)
  have H6 := Lib.hid (fun W (h : StIn W q.sy.1 x.sy) => st_few q.sy.1 q.sy.2 x.sy W h n3)
  have H7 := Lib.hid (fun W (h : CpIn W q.ca.1 x.ca) => cp_few q.ca.1 q.ca.2 x.ca r4 W h n4)
  have H9 := Lib.hid (fun W (h : MgIn W q.ma.1 x.ma) => mg_each q.ma.1 q.ma.2 x.ma r5 W h n5)
  have H11 := Lib.hid (fun W (h : OgIn W q.og.1 x.og) => og_each q.og.1 q.og.2 x.og r6 W h n6)
  unfold okLd
  obtain ⟨x8, hx8⟩ : ∃ x8, decide ((x.ma.length : Int) ≤ 20) = x8 := ⟨_, rfl⟩
  obtain ⟨x10, hx10⟩ : ∃ x10, decide ((x.og.length : Int) ≤ 20) = x10 := ⟨_, rfl⟩
  rw [hx8, hx10]
  generalize x.og.all okOg = x11 at *
  generalize x.ma.all okMg = x9 at *
  generalize few okCp x.ca = x7 at *
  generalize few okSt x.sy = x6 at *
  generalize few okSt x.ho = x5 at *
  generalize few okSt x.de = x4 at *
  generalize fitI 2 x.tt = x3 at *
  generalize okNm x.po = x2 at *
  generalize okNm x.ch = x1 at *
  clear r1 r2 r3 r4 r5 r6 n1 n2 n3 n4 n5 n6
  cases x1 with
  | false =>
    simp only [Bool.true_and, Bool.false_and]
    go_enter Tryz.func12, Tryz.ntmps12
    go_upto_region 1 with (fail)
    generalize hw0 : (w.alloc (.cells (ldC x q) 29)) = w0 at *
    clear hw0
    go_wp2_with (refine load_blk (k := 0) 23 (nmC x.ch) (by rfl) rfl rfl HA0 (by kernel_rfl) (by kernel_rfl) rfl ?_)
    refine (H1.out _).mono ?_
    rintro e w1 ⟨rfl, k1⟩
    have HA1 := HA0.kept k1
    have B1 := B0.trans (k1.mono B0.size)
    go_wp2
    go_ret
    exact ⟨rfl, B1⟩
  | true =>
    cases x2 with
    | false =>
      simp only [Bool.true_and, Bool.false_and]
      go_enter Tryz.func12, Tryz.ntmps12
      go_upto_region 1 with (fail)
      generalize hw0 : (w.alloc (.cells (ldC x q) 29)) = w0 at *
      clear hw0
      go_wp2_with (refine load_blk (k := 0) 23 (nmC x.ch) (by rfl) rfl rfl HA0 (by kernel_rfl) (by kernel_rfl) rfl ?_)
      refine (H1.out _).mono ?_
      rintro e w1 ⟨rfl, k1⟩
      have HA1 := HA0.kept k1
      have B1 := B0.trans (k1.mono B0.size)
      go_wp2_with (refine load_blk (k := 2) 23 (nmC x.po) (by rfl) rfl rfl HA1 (by kernel_rfl) (by kernel_rfl) rfl ?_)
      refine (H2.out _).mono ?_
      rintro e w2 ⟨rfl, k2⟩
      have HA2 := HA1.kept k2
      have B2 := B1.trans (k2.mono B1.size)
      go_wp2
      go_ret
      exact ⟨rfl, B2⟩
    | true =>
      cases x3 with
      | false =>
        simp only [Bool.true_and, Bool.false_and]
        go_enter Tryz.func12, Tryz.ntmps12
        go_upto_region 1 with (fail)
        generalize hw0 : (w.alloc (.cells (ldC x q) 29)) = w0 at *
        clear hw0
        go_wp2_with (refine load_blk (k := 0) 23 (nmC x.ch) (by rfl) rfl rfl HA0 (by kernel_rfl) (by kernel_rfl) rfl ?_)
        refine (H1.out _).mono ?_
        rintro e w1 ⟨rfl, k1⟩
        have HA1 := HA0.kept k1
        have B1 := B0.trans (k1.mono B0.size)
        go_wp2_with (refine load_blk (k := 2) 23 (nmC x.po) (by rfl) rfl rfl HA1 (by kernel_rfl) (by kernel_rfl) rfl ?_)
        refine (H2.out _).mono ?_
        rintro e w2 ⟨rfl, k2⟩
        have HA2 := HA1.kept k2
        have B2 := B1.trans (k2.mono B1.size)
        have c4_2 := HA2.cv 4 (.int .i64 x.tt) rfl
        go_wp2_with fail
        refine (H3.out _ _ (IRow.new1 w2 x.tt _)).mono ?_
        rintro e w3 ⟨rfl, k3⟩
        replace k3 : Below w2.heap.size w2 w3 := ((Below.refl _ _).alloc (Nat.le_refl _) _).trans (k3.mono (by simp))
        have HA3 := HA2.kept k3
        have B3 := B2.trans (k3.mono B2.size)
        go_wp2
        go_ret
        exact ⟨rfl, B3⟩
      | true =>
        cases x4 with
        | false =>
          simp only [Bool.true_and, Bool.false_and]
          go_enter Tryz.func12, Tryz.ntmps12
          go_upto_region 1 with (fail)
          generalize hw0 : (w.alloc (.cells (ldC x q) 29)) = w0 at *
          clear hw0
          go_wp2_with (refine load_blk (k := 0) 23 (nmC x.ch) (by rfl) rfl rfl HA0 (by kernel_rfl) (by kernel_rfl) rfl ?_)
          refine (H1.out _).mono ?_
          rintro e w1 ⟨rfl, k1⟩
          have HA1 := HA0.kept k1
          have B1 := B0.trans (k1.mono B0.size)
          go_wp2_with (refine load_blk (k := 2) 23 (nmC x.po) (by rfl) rfl rfl HA1 (by kernel_rfl) (by kernel_rfl) rfl ?_)
          refine (H2.out _).mono ?_
          rintro e w2 ⟨rfl, k2⟩
          have HA2 := HA1.kept k2
          have B2 := B1.trans (k2.mono B1.size)
          have c4_2 := HA2.cv 4 (.int .i64 x.tt) rfl
          go_wp2_with fail
          refine (H3.out _ _ (IRow.new1 w2 x.tt _)).mono ?_
          rintro e w3 ⟨rfl, k3⟩
          replace k3 : Below w2.heap.size w2 w3 := ((Below.refl _ _).alloc (Nat.le_refl _) _).trans (k3.mono (by simp))
          have HA3 := HA2.kept k3
          have B3 := B2.trans (k3.mono B2.size)
          have c5_3 := HA3.cv 5 (.slice q.de.1 x.de.length q.de.2) rfl
          go_wp2_with fail
          refine (H4.out _ (h1.below B3)).mono ?_
          rintro e w4 ⟨rfl, k4⟩
          have HA4 := HA3.kept k4
          have B4 := B3.trans (k4.mono B3.size)
          go_wp2
          go_ret
          exact ⟨rfl, B4⟩
        | true =>
          cases x5 with
          | false =>
            simp only [Bool.true_and, Bool.false_and]
            go_enter Tryz.func12, Tryz.ntmps12
            go_upto_region 1 with (fail)
            generalize hw0 : (w.alloc (.cells (ldC x q) 29)) = w0 at *
            clear hw0
            go_wp2_with (refine load_blk (k := 0) 23 (nmC x.ch) (by rfl) rfl rfl HA0 (by kernel_rfl) (by kernel_rfl) rfl ?_)
            refine (H1.out _).mono ?_
            rintro e w1 ⟨rfl, k1⟩
            have HA1 := HA0.kept k1
            have B1 := B0.trans (k1.mono B0.size)
            go_wp2_with (refine load_blk (k := 2) 23 (nmC x.po) (by rfl) rfl rfl HA1 (by kernel_rfl) (by kernel_rfl) rfl ?_)
            refine (H2.out _).mono ?_
            rintro e w2 ⟨rfl, k2⟩
            have HA2 := HA1.kept k2
            have B2 := B1.trans (k2.mono B1.size)
            have c4_2 := HA2.cv 4 (.int .i64 x.tt) rfl
            go_wp2_with fail
            refine (H3.out _ _ (IRow.new1 w2 x.tt _)).mono ?_
            rintro e w3 ⟨rfl, k3⟩
            replace k3 : Below w2.heap.size w2 w3 := ((Below.refl _ _).alloc (Nat.le_refl _) _).trans (k3.mono (by simp))
            have HA3 := HA2.kept k3
            have B3 := B2.trans (k3.mono B2.size)
            have c5_3 := HA3.cv 5 (.slice q.de.1 x.de.length q.de.2) rfl
            go_wp2_with fail
            refine (H4.out _ (h1.below B3)).mono ?_
            rintro e w4 ⟨rfl, k4⟩
            have HA4 := HA3.kept k4
            have B4 := B3.trans (k4.mono B3.size)
            have c6_4 := HA4.cv 6 (.slice q.ho.1 x.ho.length q.ho.2) rfl
            go_wp2_with fail
            refine (H5.out _ (h2.below B4)).mono ?_
            rintro e w5 ⟨rfl, k5⟩
            have HA5 := HA4.kept k5
            have B5 := B4.trans (k5.mono B4.size)
            go_wp2
            go_ret
            exact ⟨rfl, B5⟩
          | true =>
            cases x6 with
            | false =>
              simp only [Bool.true_and, Bool.false_and]
              go_enter Tryz.func12, Tryz.ntmps12
              go_upto_region 1 with (fail)
              generalize hw0 : (w.alloc (.cells (ldC x q) 29)) = w0 at *
              clear hw0
              go_wp2_with (refine load_blk (k := 0) 23 (nmC x.ch) (by rfl) rfl rfl HA0 (by kernel_rfl) (by kernel_rfl) rfl ?_)
              refine (H1.out _).mono ?_
              rintro e w1 ⟨rfl, k1⟩
              have HA1 := HA0.kept k1
              have B1 := B0.trans (k1.mono B0.size)
              go_wp2_with (refine load_blk (k := 2) 23 (nmC x.po) (by rfl) rfl rfl HA1 (by kernel_rfl) (by kernel_rfl) rfl ?_)
              refine (H2.out _).mono ?_
              rintro e w2 ⟨rfl, k2⟩
              have HA2 := HA1.kept k2
              have B2 := B1.trans (k2.mono B1.size)
              have c4_2 := HA2.cv 4 (.int .i64 x.tt) rfl
              go_wp2_with fail
              refine (H3.out _ _ (IRow.new1 w2 x.tt _)).mono ?_
              rintro e w3 ⟨rfl, k3⟩
              replace k3 : Below w2.heap.size w2 w3 := ((Below.refl _ _).alloc (Nat.le_refl _) _).trans (k3.mono (by simp))
              have HA3 := HA2.kept k3
              have B3 := B2.trans (k3.mono B2.size)
              have c5_3 := HA3.cv 5 (.slice q.de.1 x.de.length q.de.2) rfl
              go_wp2_with fail
              refine (H4.out _ (h1.below B3)).mono ?_
              rintro e w4 ⟨rfl, k4⟩
              have HA4 := HA3.kept k4
              have B4 := B3.trans (k4.mono B3.size)
              have c6_4 := HA4.cv 6 (.slice q.ho.1 x.ho.length q.ho.2) rfl
              go_wp2_with fail
              refine (H5.out _ (h2.below B4)).mono ?_
              rintro e w5 ⟨rfl, k5⟩
              have HA5 := HA4.kept k5
              have B5 := B4.trans (k5.mono B4.size)
              have c7_5 := HA5.cv 7 (.slice q.sy.1 x.sy.length q.sy.2) rfl
              go_wp2_with fail
              refine (H6.out _ (h3.below B5)).mono ?_
              rintro e w6 ⟨rfl, k6⟩
              have HA6 := HA5.kept k6
              have B6 := B5.trans (k6.mono B5.size)
              go_wp2
              go_ret
              exact ⟨rfl, B6⟩
            | true =>
              cases x7 with
              | false =>
                simp only [Bool.true_and, Bool.false_and]
                go_enter Tryz.func12, Tryz.ntmps12
                go_upto_region 1 with (fail)
                generalize hw0 : (w.alloc (.cells (ldC x q) 29)) = w0 at *
                clear hw0
                go_wp2_with (refine load_blk (k := 0) 23 (nmC x.ch) (by rfl) rfl rfl HA0 (by kernel_rfl) (by kernel_rfl) rfl ?_)
                refine (H1.out _).mono ?_
                rintro e w1 ⟨rfl, k1⟩
                have HA1 := HA0.kept k1
                have B1 := B0.trans (k1.mono B0.size)
                go_wp2_with (refine load_blk (k := 2) 23 (nmC x.po) (by rfl) rfl rfl HA1 (by kernel_rfl) (by kernel_rfl) rfl ?_)
                refine (H2.out _).mono ?_
                rintro e w2 ⟨rfl, k2⟩
                have HA2 := HA1.kept k2
                have B2 := B1.trans (k2.mono B1.size)
                have c4_2 := HA2.cv 4 (.int .i64 x.tt) rfl
                go_wp2_with fail
                refine (H3.out _ _ (IRow.new1 w2 x.tt _)).mono ?_
                rintro e w3 ⟨rfl, k3⟩
                replace k3 : Below w2.heap.size w2 w3 := ((Below.refl _ _).alloc (Nat.le_refl _) _).trans (k3.mono (by simp))
                have HA3 := HA2.kept k3
                have B3 := B2.trans (k3.mono B2.size)
                have c5_3 := HA3.cv 5 (.slice q.de.1 x.de.length q.de.2) rfl
                go_wp2_with fail
                refine (H4.out _ (h1.below B3)).mono ?_
                rintro e w4 ⟨rfl, k4⟩
                have HA4 := HA3.kept k4
                have B4 := B3.trans (k4.mono B3.size)
                have c6_4 := HA4.cv 6 (.slice q.ho.1 x.ho.length q.ho.2) rfl
                go_wp2_with fail
                refine (H5.out _ (h2.below B4)).mono ?_
                rintro e w5 ⟨rfl, k5⟩
                have HA5 := HA4.kept k5
                have B5 := B4.trans (k5.mono B4.size)
                have c7_5 := HA5.cv 7 (.slice q.sy.1 x.sy.length q.sy.2) rfl
                go_wp2_with fail
                refine (H6.out _ (h3.below B5)).mono ?_
                rintro e w6 ⟨rfl, k6⟩
                have HA6 := HA5.kept k6
                have B6 := B5.trans (k6.mono B5.size)
                have c8_6 := HA6.cv 8 (.slice q.ca.1 x.ca.length q.ca.2) rfl
                go_wp2_with fail
                refine (H7.out _ (h4.below B6)).mono ?_
                rintro e w7 ⟨rfl, k7⟩
                have HA7 := HA6.kept k7
                have B7 := B6.trans (k7.mono B6.size)
                go_wp2
                go_ret
                exact ⟨rfl, B7⟩
              | true =>
                cases x8 with
                | false =>
                  simp only [Bool.true_and, Bool.false_and]
                  go_enter Tryz.func12, Tryz.ntmps12
                  go_upto_region 1 with (fail)
                  generalize hw0 : (w.alloc (.cells (ldC x q) 29)) = w0 at *
                  clear hw0
                  go_wp2_with (refine load_blk (k := 0) 23 (nmC x.ch) (by rfl) rfl rfl HA0 (by kernel_rfl) (by kernel_rfl) rfl ?_)
                  refine (H1.out _).mono ?_
                  rintro e w1 ⟨rfl, k1⟩
                  have HA1 := HA0.kept k1
                  have B1 := B0.trans (k1.mono B0.size)
                  go_wp2_with (refine load_blk (k := 2) 23 (nmC x.po) (by rfl) rfl rfl HA1 (by kernel_rfl) (by kernel_rfl) rfl ?_)
                  refine (H2.out _).mono ?_
                  rintro e w2 ⟨rfl, k2⟩
                  have HA2 := HA1.kept k2
                  have B2 := B1.trans (k2.mono B1.size)
                  have c4_2 := HA2.cv 4 (.int .i64 x.tt) rfl
                  go_wp2_with fail
                  refine (H3.out _ _ (IRow.new1 w2 x.tt _)).mono ?_
                  rintro e w3 ⟨rfl, k3⟩
                  replace k3 : Below w2.heap.size w2 w3 := ((Below.refl _ _).alloc (Nat.le_refl _) _).trans (k3.mono (by simp))
                  have HA3 := HA2.kept k3
                  have B3 := B2.trans (k3.mono B2.size)
                  have c5_3 := HA3.cv 5 (.slice q.de.1 x.de.length q.de.2) rfl
                  go_wp2_with fail
                  refine (H4.out _ (h1.below B3)).mono ?_
                  rintro e w4 ⟨rfl, k4⟩
                  have HA4 := HA3.kept k4
                  have B4 := B3.trans (k4.mono B3.size)
                  have c6_4 := HA4.cv 6 (.slice q.ho.1 x.ho.length q.ho.2) rfl
                  go_wp2_with fail
                  refine (H5.out _ (h2.below B4)).mono ?_
                  rintro e w5 ⟨rfl, k5⟩
                  have HA5 := HA4.kept k5
                  have B5 := B4.trans (k5.mono B4.size)
                  have c7_5 := HA5.cv 7 (.slice q.sy.1 x.sy.length q.sy.2) rfl
                  go_wp2_with fail
                  refine (H6.out _ (h3.below B5)).mono ?_
                  rintro e w6 ⟨rfl, k6⟩
                  have HA6 := HA5.kept k6
                  have B6 := B5.trans (k6.mono B5.size)
                  have c8_6 := HA6.cv 8 (.slice q.ca.1 x.ca.length q.ca.2) rfl
                  go_wp2_with fail
                  refine (H7.out _ (h4.below B6)).mono ?_
                  rintro e w7 ⟨rfl, k7⟩
                  have HA7 := HA6.kept k7
                  have B7 := B6.trans (k7.mono B6.size)
                  have c9_7 := HA7.cv 9 (.slice q.ma.1 x.ma.length q.ma.2) rfl
                  go_wp2
                  go_ret
                  exact ⟨rfl, B7⟩
                | true =>
                  cases x9 with
                  | false =>
                    simp only [Bool.true_and, Bool.false_and]
                    go_enter Tryz.func12, Tryz.ntmps12
                    go_upto_region 1 with (fail)
                    generalize hw0 : (w.alloc (.cells (ldC x q) 29)) = w0 at *
                    clear hw0
                    go_wp2_with (refine load_blk (k := 0) 23 (nmC x.ch) (by rfl) rfl rfl HA0 (by kernel_rfl) (by kernel_rfl) rfl ?_)
                    refine (H1.out _).mono ?_
                    rintro e w1 ⟨rfl, k1⟩
                    have HA1 := HA0.kept k1
                    have B1 := B0.trans (k1.mono B0.size)
                    go_wp2_with (refine load_blk (k := 2) 23 (nmC x.po) (by rfl) rfl rfl HA1 (by kernel_rfl) (by kernel_rfl) rfl ?_)
                    refine (H2.out _).mono ?_
                    rintro e w2 ⟨rfl, k2⟩
                    have HA2 := HA1.kept k2
                    have B2 := B1.trans (k2.mono B1.size)
                    have c4_2 := HA2.cv 4 (.int .i64 x.tt) rfl
                    go_wp2_with fail
                    refine (H3.out _ _ (IRow.new1 w2 x.tt _)).mono ?_
                    rintro e w3 ⟨rfl, k3⟩
                    replace k3 : Below w2.heap.size w2 w3 := ((Below.refl _ _).alloc (Nat.le_refl _) _).trans (k3.mono (by simp))
                    have HA3 := HA2.kept k3
                    have B3 := B2.trans (k3.mono B2.size)
                    have c5_3 := HA3.cv 5 (.slice q.de.1 x.de.length q.de.2) rfl
                    go_wp2_with fail
                    refine (H4.out _ (h1.below B3)).mono ?_
                    rintro e w4 ⟨rfl, k4⟩
                    have HA4 := HA3.kept k4
                    have B4 := B3.trans (k4.mono B3.size)
                    have c6_4 := HA4.cv 6 (.slice q.ho.1 x.ho.length q.ho.2) rfl
                    go_wp2_with fail
                    refine (H5.out _ (h2.below B4)).mono ?_
                    rintro e w5 ⟨rfl, k5⟩
                    have HA5 := HA4.kept k5
                    have B5 := B4.trans (k5.mono B4.size)
                    have c7_5 := HA5.cv 7 (.slice q.sy.1 x.sy.length q.sy.2) rfl
                    go_wp2_with fail
                    refine (H6.out _ (h3.below B5)).mono ?_
                    rintro e w6 ⟨rfl, k6⟩
                    have HA6 := HA5.kept k6
                    have B6 := B5.trans (k6.mono B5.size)
                    have c8_6 := HA6.cv 8 (.slice q.ca.1 x.ca.length q.ca.2) rfl
                    go_wp2_with fail
                    refine (H7.out _ (h4.below B6)).mono ?_
                    rintro e w7 ⟨rfl, k7⟩
                    have HA7 := HA6.kept k7
                    have B7 := B6.trans (k7.mono B6.size)
                    have c9_7 := HA7.cv 9 (.slice q.ma.1 x.ma.length q.ma.2) rfl
                    go_wp2_with fail
                    refine (H9.out _ (h5.below B7)).mono ?_
                    rintro e w8 ⟨rfl, k8⟩
                    have HA8 := HA7.kept k8
                    have B8 := B7.trans (k8.mono B7.size)
                    go_wp2
                    go_ret
                    exact ⟨rfl, B8⟩
                  | true =>
                    cases x10 with
                    | false =>
                      simp only [Bool.true_and, Bool.false_and]
                      go_enter Tryz.func12, Tryz.ntmps12
                      go_upto_region 1 with (fail)
                      generalize hw0 : (w.alloc (.cells (ldC x q) 29)) = w0 at *
                      clear hw0
                      go_wp2_with (refine load_blk (k := 0) 23 (nmC x.ch) (by rfl) rfl rfl HA0 (by kernel_rfl) (by kernel_rfl) rfl ?_)
                      refine (H1.out _).mono ?_
                      rintro e w1 ⟨rfl, k1⟩
                      have HA1 := HA0.kept k1
                      have B1 := B0.trans (k1.mono B0.size)
                      go_wp2_with (refine load_blk (k := 2) 23 (nmC x.po) (by rfl) rfl rfl HA1 (by kernel_rfl) (by kernel_rfl) rfl ?_)
                      refine (H2.out _).mono ?_
                      rintro e w2 ⟨rfl, k2⟩
                      have HA2 := HA1.kept k2
                      have B2 := B1.trans (k2.mono B1.size)
                      have c4_2 := HA2.cv 4 (.int .i64 x.tt) rfl
                      go_wp2_with fail
                      refine (H3.out _ _ (IRow.new1 w2 x.tt _)).mono ?_
                      rintro e w3 ⟨rfl, k3⟩
                      replace k3 : Below w2.heap.size w2 w3 := ((Below.refl _ _).alloc (Nat.le_refl _) _).trans (k3.mono (by simp))
                      have HA3 := HA2.kept k3
                      have B3 := B2.trans (k3.mono B2.size)
                      have c5_3 := HA3.cv 5 (.slice q.de.1 x.de.length q.de.2) rfl
                      go_wp2_with fail
                      refine (H4.out _ (h1.below B3)).mono ?_
                      rintro e w4 ⟨rfl, k4⟩
                      have HA4 := HA3.kept k4
                      have B4 := B3.trans (k4.mono B3.size)
                      have c6_4 := HA4.cv 6 (.slice q.ho.1 x.ho.length q.ho.2) rfl
                      go_wp2_with fail
                      refine (H5.out _ (h2.below B4)).mono ?_
                      rintro e w5 ⟨rfl, k5⟩
                      have HA5 := HA4.kept k5
                      have B5 := B4.trans (k5.mono B4.size)
                      have c7_5 := HA5.cv 7 (.slice q.sy.1 x.sy.length q.sy.2) rfl
                      go_wp2_with fail
                      refine (H6.out _ (h3.below B5)).mono ?_
                      rintro e w6 ⟨rfl, k6⟩
                      have HA6 := HA5.kept k6
                      have B6 := B5.trans (k6.mono B5.size)
                      have c8_6 := HA6.cv 8 (.slice q.ca.1 x.ca.length q.ca.2) rfl
                      go_wp2_with fail
                      refine (H7.out _ (h4.below B6)).mono ?_
                      rintro e w7 ⟨rfl, k7⟩
                      have HA7 := HA6.kept k7
                      have B7 := B6.trans (k7.mono B6.size)
                      have c9_7 := HA7.cv 9 (.slice q.ma.1 x.ma.length q.ma.2) rfl
                      go_wp2_with fail
                      refine (H9.out _ (h5.below B7)).mono ?_
                      rintro e w8 ⟨rfl, k8⟩
                      have HA8 := HA7.kept k8
                      have B8 := B7.trans (k8.mono B7.size)
                      have c10_8 := HA8.cv 10 (.slice q.og.1 x.og.length q.og.2) rfl
                      go_wp2
                      go_ret
                      exact ⟨rfl, B8⟩
                    | true =>
                      simp only [Bool.true_and]
                      go_enter Tryz.func12, Tryz.ntmps12
                      go_upto_region 1 with (fail)
                      generalize hw0 : (w.alloc (.cells (ldC x q) 29)) = w0 at *
                      clear hw0
                      go_wp2_with (refine load_blk (k := 0) 23 (nmC x.ch) (by rfl) rfl rfl HA0 (by kernel_rfl) (by kernel_rfl) rfl ?_)
                      refine (H1.out _).mono ?_
                      rintro e w1 ⟨rfl, k1⟩
                      have HA1 := HA0.kept k1
                      have B1 := B0.trans (k1.mono B0.size)
                      go_wp2_with (refine load_blk (k := 2) 23 (nmC x.po) (by rfl) rfl rfl HA1 (by kernel_rfl) (by kernel_rfl) rfl ?_)
                      refine (H2.out _).mono ?_
                      rintro e w2 ⟨rfl, k2⟩
                      have HA2 := HA1.kept k2
                      have B2 := B1.trans (k2.mono B1.size)
                      have c4_2 := HA2.cv 4 (.int .i64 x.tt) rfl
                      go_wp2_with fail
                      refine (H3.out _ _ (IRow.new1 w2 x.tt _)).mono ?_
                      rintro e w3 ⟨rfl, k3⟩
                      replace k3 : Below w2.heap.size w2 w3 := ((Below.refl _ _).alloc (Nat.le_refl _) _).trans (k3.mono (by simp))
                      have HA3 := HA2.kept k3
                      have B3 := B2.trans (k3.mono B2.size)
                      have c5_3 := HA3.cv 5 (.slice q.de.1 x.de.length q.de.2) rfl
                      go_wp2_with fail
                      refine (H4.out _ (h1.below B3)).mono ?_
                      rintro e w4 ⟨rfl, k4⟩
                      have HA4 := HA3.kept k4
                      have B4 := B3.trans (k4.mono B3.size)
                      have c6_4 := HA4.cv 6 (.slice q.ho.1 x.ho.length q.ho.2) rfl
                      go_wp2_with fail
                      refine (H5.out _ (h2.below B4)).mono ?_
                      rintro e w5 ⟨rfl, k5⟩
                      have HA5 := HA4.kept k5
                      have B5 := B4.trans (k5.mono B4.size)
                      have c7_5 := HA5.cv 7 (.slice q.sy.1 x.sy.length q.sy.2) rfl
                      go_wp2_with fail
                      refine (H6.out _ (h3.below B5)).mono ?_
                      rintro e w6 ⟨rfl, k6⟩
                      have HA6 := HA5.kept k6
                      have B6 := B5.trans (k6.mono B5.size)
                      have c8_6 := HA6.cv 8 (.slice q.ca.1 x.ca.length q.ca.2) rfl
                      go_wp2_with fail
                      refine (H7.out _ (h4.below B6)).mono ?_
                      rintro e w7 ⟨rfl, k7⟩
                      have HA7 := HA6.kept k7
                      have B7 := B6.trans (k7.mono B6.size)
                      have c9_7 := HA7.cv 9 (.slice q.ma.1 x.ma.length q.ma.2) rfl
                      go_wp2_with fail
                      refine (H9.out _ (h5.below B7)).mono ?_
                      rintro e w8 ⟨rfl, k8⟩
                      have HA8 := HA7.kept k8
                      have B8 := B7.trans (k8.mono B7.size)
                      have c10_8 := HA8.cv 10 (.slice q.og.1 x.og.length q.og.2) rfl
                      go_wp2_with fail
                      refine (H11.out _ (h6.below B8)).mono ?_
                      rintro e w9 ⟨rfl, k9⟩
                      have HA9 := HA8.kept k9
                      have B9 := B8.trans (k9.mono B8.size)
                      go_wp2
                      go_ret
                      exact ⟨rfl, B9⟩

end Go.Proofs.YtcijhmbimbejfaaGreatDoor

namespace Go.Proofs.YtcijhmbimbejfaaGreatDoor
open Go.RowKit
attribute [local go_sem ↓] Go.wp_at_zero Go.wp_at_succ
set_option linter.unusedSimpArgs false
set_option linter.unusedVariables false
set_option maxRecDepth 100000

theorem tlRight_any (x : Tl) (w : World) : Calls Tryz.prog 70 #[.agg (tlC x)] w fun e w' => e = .returned (.bool (okTl x)) ∧ Below w.heap.size w w' := by
  have hb0 : Below w.heap.size w (w.alloc (.cells (tlC x) 85)) := (Below.refl _ _).alloc (Nat.le_refl _) _
  unfold okTl
  unfold tlC at *
  obtain ⟨k, t⟩ := x
  simp only at *
  by_cases h1 : 0 < k
  · have d1 : decide (0 < k) = true := decide_eq_true h1
    by_cases h2 : k ≤ 127
    · have d2 : decide (k ≤ 127) = true := decide_eq_true h2
      generalize hd : decide ((t.size : Int) ≤ 511) = d3
      rw [d1, d2, Bool.true_and, Bool.true_and]
      go_enter Tryz.func70, Tryz.ntmps70
      go_wp2
      go_ret
      exact ⟨rfl, hb0⟩
    · have d2 : decide (k ≤ 127) = false := decide_eq_false h2
      rw [d1, d2, Bool.true_and, Bool.false_and]
      go_enter Tryz.func70, Tryz.ntmps70
      go_wp2
      go_ret
      exact ⟨rfl, hb0⟩
  · have d1 : decide (0 < k) = false := decide_eq_false h1
    rw [d1, Bool.false_and]
    go_enter Tryz.func70, Tryz.ntmps70
    go_wp2
    go_ret
    exact ⟨rfl, hb0⟩

theorem withinR_any (x a b : Int) (w : World) : Calls Tryz.prog 21 #[.int .i64 x, .int .i64 a, .int .i64 b] w fun e w' => e = .returned (.bool (decide (a ≤ x) && decide (x ≤ b))) ∧ Below w.heap.size w w' := by
  by_cases h1 : a ≤ x
  · have d1 : decide (a ≤ x) = true := decide_eq_true h1
    generalize hd : decide (x ≤ b) = d2
    rw [d1, Bool.true_and]
    go_enter Tryz.func21, Tryz.ntmps21
    go_wp2
    go_ret
    exact ⟨rfl, Below.refl _ _⟩
  · have d1 : decide (a ≤ x) = false := decide_eq_false h1
    rw [d1, Bool.false_and]
    go_enter Tryz.func21, Tryz.ntmps21
    go_wp2
    go_ret
    exact ⟨rfl, Below.refl _ _⟩



end Go.Proofs.YtcijhmbimbejfaaGreatDoor

namespace Go.Proofs.YtcijhmbimbejfaaGreatDoor
open Go.ChangeShapes Go.WideShapes Go.ChangeAt Go.RowKit Go.Deep Go.Joins
set_option linter.unusedVariables false

theorem list2s {α : Type} (l : List α) (h : l.length = 2) : ∃ c0 c1, l = [c0, c1] := by
  match l, h with
  | [c0, c1], _ => exact ⟨c0, c1, rfl⟩
set_option maxRecDepth 100000 in
theorem tl_trod {H : Type} {enc : TypeId × Value → H} {W : World} {base fuel : Nat} {sp : Nat → Bool} {held : Bool} {c0 c1 : Value} {y : DataW H × List MemPlace}
    (h : DataW.trod enc Tryz.prog W base sp held fuel 85 [c0, c1] = some y) : ∃ x : Tl, rgTl x ∧ [c0, c1] = (tlC x).toList := by
  have _h2 : Tryz.prog.cellsOf 3 = 1 := by kernel_rfl
  have _h3 : Tryz.prog.cellsOf 9 = 1 := by kernel_rfl
  obtain ⟨xs, n, _, hx, _, hlen, hg⟩ := DataW.trod_struct Tryz.underlying85 h
  obtain ⟨y0, y1, rfl⟩ := list2s xs hlen
  have g0 := hg 0 _ rfl
  have g1 := hg 1 _ rfl
  obtain ⟨x0, e0, _, wf0⟩ := DataW.trod_int Tryz.underlying3 g0
  obtain rfl : c0 = .int .i64 x0 := (List.cons.inj (show [c0] = [.int .i64 x0] from e0)).1
  obtain ⟨x1, e1, q1, sb1⟩ := DataW.trod_string Tryz.underlying9 g1
  obtain rfl : c1 = .string x1 := (List.cons.inj (show [c1] = [.string x1] from e1)).1
  exact ⟨⟨x0, x1⟩, ⟨bounds_i64 wf0, sb1⟩, rfl⟩

/- A cell that reads as a list of records. -/
set_option maxRecDepth 100000 in
theorem tls_cell {H : Type} {enc : TypeId × Value → H} {W : World} {fuel : Nat} {z0 : Value} {y : DataW H × List MemPlace}
    (hf : DataW.trod enc Tryz.prog W 0 (fun _ => true) true fuel 79 [z0] = some y) : ∃ (a : Option Addr) (c : Nat) (l : List Tl), z0 = .slice a l.length c ∧ l.length ≤ c ∧ c ≤ maxLen ∧ TlIn W a l ∧ ∀ x ∈ l, rgTl x := by
  have hs : Tryz.prog.underlying 79 = some (.slice 85) := by kernel_rfl
  have hc3 : Tryz.prog.cellsOf 85 = 2 := by kernel_rfl
  rcases open_slice hs hf with ⟨hc, hx⟩ | ⟨b, n, c, m, k, D, Pl, hc, hb, hl, hm, hmm, hx, hall⟩
  · simp at hc
    subst hc
    exact ⟨none, 0, [], rfl, Nat.le_refl _, by decide, Or.inl rfl, by simp⟩
  · simp at hc
    subst hc
    have hlm : n ≤ m := by rw [hmm]; split <;> omega
    have each : ∀ i, i < n → ∃ t : Tl, rgTl t ∧ ∀ (j : Nat) (x : Value), (tlC t)[j]? = some x → W.cell? (b.add (i * 2 + j)) = some x := by
      intro i hi
      obtain ⟨cs', h1, h2⟩ := hall i (by omega)
      rw [hc3] at h1
      obtain ⟨_, hlen, hcell⟩ := World.cells?_some h1
      obtain ⟨c0, c1, rfl⟩ := list2s cs' hlen
      obtain ⟨t, ht, he⟩ := tl_trod h2
      refine ⟨t, ht, fun j x hj => ?_⟩
      have hj2 : j < 2 := (Array.getElem?_eq_some_iff.1 hj).1
      have g := hcell j (by omega)
      rw [add_add] at g
      rw [g]
      have e2 : ([c0, c1] : List Value)[j]? = some x := by rw [he]; simpa using hj
      exact e2
    obtain ⟨z, hz⟩ := choose_lt each
    obtain ⟨bb, bo, bs⟩ := b
    rcases Nat.eq_zero_or_pos n with rfl | q0
    · exact ⟨some ⟨bb, bo, bs⟩, c, [], rfl, hl, hm, Or.inl rfl, by simp⟩
    have h0 := (hz 0 q0).2 0 _ rfl
    have hspot : bs = none := by simpa [Addr.add] using World.cell?_spot h0
    subst hspot
    refine ⟨some ⟨bb, bo, none⟩, c, (List.range n).map z, by simp, by simpa using hl, hm, Or.inr ⟨bb, bo, rfl, ?_, fun j hj k x hx => ?_⟩, ?_⟩
    · have := World.block_lt_of_cell? W _ h0
      simpa [Addr.add] using this
    · have hj' : j < n := by simpa using hj
      simp only [List.getElem_map, List.getElem_range] at hx
      have e0 := (hz j hj').2 k x hx
      rw [add_plain] at e0
      rw [Nat.add_assoc]
      exact e0
    · intro v hv
      obtain ⟨j, hj, rfl⟩ := List.mem_map.1 hv
      exact (hz j (List.mem_range.1 hj)).1


set_option maxRecDepth 100000 in
theorem open_tls {H : Type} {enc : TypeId × Value → H} {W : World} {base : Nat} {v : Value} {d : DataW H} {p : List MemPlace} (hval : Value.okWide Tryz.prog W .any base 79 v)
    (h : DataW.Trod enc Tryz.prog W 0 (fun _ => true) true 79 v d p) : ∃ (a : Option Addr) (c : Nat) (l : List Tl), v = .slice a l.length c ∧ l.length ≤ c ∧ c ≤ maxLen ∧ (TlIn W a l ∧ ∀ x ∈ l, rgTl x) := by
  have hs : Tryz.prog.underlying 79 = some (.slice 85) := by kernel_rfl
  obtain ⟨a, n, c, rfl⟩ := okWide_slice hs hval
  obtain ⟨fuel, hf⟩ := h
  obtain ⟨a', c', l, e, h1, h2, h3⟩ := tls_cell (show DataW.trod enc Tryz.prog W 0 (fun _ => true) true fuel 79 [.slice a n c] = some _ by simpa [Value.cells] using hf)
  exact ⟨a', c', l, e, h1, h2, h3⟩

end Go.Proofs.YtcijhmbimbejfaaGreatDoor

namespace Go.Proofs.YtcijhmbimbejfaaGreatDoor
open Go.RowKit
set_option linter.unusedVariables false

/-- What a reader's error says: nothing (0, -1), or an At. -/
def ErrAs (w : World) (er : Value) (e pl : Int) : Prop := (er = .nilIface ∧ e = 0 ∧ pl = -1) ∨ (e ≠ 0 ∧ ∃ q, er = .iface 102 (.pointer (some ⟨q, 0, none⟩)) ∧ Flt w q e pl)
theorem ErrAs.below {w w' : World} {er : Value} {e pl : Int} (h : ErrAs w er e pl) (hb : Below w.heap.size w w') : ErrAs w' er e pl := by
  rcases h with h | ⟨he, q, hq, hf⟩
  · exact Or.inl h
  · exact Or.inr ⟨he, q, hq, hf.below hb⟩
theorem ErrAs.nil {w : World} : ErrAs w .nilIface 0 (-1) := Or.inl ⟨rfl, rfl, rfl⟩
/-- A reader's answer: a value, and its error. -/
def ReadsAs (X : Array Value) (e pl : Int) (w : World) (r : Ending) (w' : World) : Prop := ∃ er, r = .returned (.tuple #[.agg X, er]) ∧ ErrAs w' er e pl ∧ Below w.heap.size w w'


end Go.Proofs.YtcijhmbimbejfaaGreatDoor

