/- Texts one behind the other. What a station tells, whole. lldp.records at what may be told. lldp.Right, part by part. lldp.isEach, isFew of string. lldp.isEach, isFew of api.Caps. lldp.isEach, isFew of api.Manage. lldp.isEach, isFew of api.Org. lldp.Right at every announcement. tlv.Right, and the reference's, at every record. A list of records that comes in. switchyardlaw.placed: an error that is this one, at this place. (apart: ErrAs, ErrAs.below, ErrAs.nil) -/
import Derived.Test.YtocgnbbnaamjjaaGreatDoorLrK1
import Derived.Test.YtocgnbbnaamjjaaGreatDoorLrK2
import Derived.Test.YtocgnbbnaamjjaaGreatDoorLrK4
import Derived.ProofKit
import Derived.OpenShut
import Derived.WideKeyArgs
import Derived.WideShapes
import Derived.SizedLaws
import Derived.Lib.SmallJoins
import Derived.Deep.SlicePairs
namespace Go.Proofs.YtocgnbbnaamjjaaGreatDoor
open Go.RowKit
attribute [local go_sem ↓] Go.wp_at_zero Go.wp_at_succ
set_option linter.unusedSimpArgs false
set_option linter.unusedVariables false
set_option maxRecDepth 100000

/-- Where the lists lie, and their room. -/
structure LdA where
  de : Option Addr × Nat
  ho : Option Addr × Nat
  sy : Option Addr × Nat
  ca : Option Addr × Nat
  ma : Option Addr × Nat
  og : Option Addr × Nat

def zLdA : LdA := ⟨(none, 0), (none, 0), (none, 0), (none, 0), (none, 0), (none, 0)⟩

def ldC (x : Ld) (q : LdA) : Array Value := #[.int .i64 x.ch.su, .string x.ch.id, .int .i64 x.po.su, .string x.po.id, .int .i64 x.tt, .slice q.de.1 x.de.length q.de.2, .slice q.ho.1 x.ho.length q.ho.2, .slice q.sy.1 x.sy.length q.sy.2, .slice q.ca.1 x.ca.length q.ca.2, .slice q.ma.1 x.ma.length q.ma.2, .slice q.og.1 x.og.length q.og.2]

def LdIn (w : World) (x : Ld) (q : LdA) : Prop := StIn w q.de.1 x.de ∧ StIn w q.ho.1 x.ho ∧ StIn w q.sy.1 x.sy ∧ CpIn w q.ca.1 x.ca ∧ MgIn w q.ma.1 x.ma ∧ OgIn w q.og.1 x.og

theorem LdIn.below {w w' : World} {x : Ld} {q : LdA} (h : LdIn w x q) (hb : Below w.heap.size w w') : LdIn w' x q :=
  ⟨h.1.below hb, h.2.1.below hb, h.2.2.1.below hb, h.2.2.2.1.below hb, h.2.2.2.2.1.below hb, h.2.2.2.2.2.below hb⟩

theorem LdIn.late {w0 w w' : World} {x : Ld} {q : LdA} (h : LdIn w x q) (h0 : LdIn w0 x q) (hb : Below w0.heap.size w w') : LdIn w' x q :=
  ⟨h.1.late h0.1 hb, h.2.1.late h0.2.1 hb, h.2.2.1.late h0.2.2.1 hb, h.2.2.2.1.late h0.2.2.2.1 hb, h.2.2.2.2.1.late h0.2.2.2.2.1 hb, h.2.2.2.2.2.late h0.2.2.2.2.2 hb⟩

/-- Numbers of 64 bits, lists that a machine holds. -/
def rgLd (x : Ld) : Prop := rgNm x.ch ∧ rgNm x.po ∧ i64R x.tt ∧ (∀ y ∈ x.ca, rgCp y) ∧ (∀ y ∈ x.ma, rgMg y) ∧ (∀ y ∈ x.og, rgOg y) ∧ x.de.length ≤ maxLen ∧ x.ho.length ≤ maxLen ∧ x.sy.length ≤ maxLen ∧ x.ca.length ≤ maxLen ∧ x.ma.length ≤ maxLen ∧ x.og.length ≤ maxLen

theorem Tryz.ldZero : (Tryz.prog.info? 29).map (·.zero) = some (some (.agg (ldC zLd zLdA))) := by kernel_rfl

theorem Tryz.ldSize : (Tryz.prog.info? 29).map (·.size) = some 11 := by kernel_rfl

end Go.Proofs.YtocgnbbnaamjjaaGreatDoor

namespace Go.Proofs.YtocgnbbnaamjjaaGreatDoor
open Go.RowKit
attribute [local go_sem ↓] Go.wp_at_zero Go.wp_at_succ
set_option linter.unusedSimpArgs false
set_option linter.unusedVariables false
set_option maxRecDepth 100000

def cpW (y : Cp) : List UInt8 := putL y.h.toNat 2 ++ putL y.o.toNat 2

def ogW (y : Og) : List UInt8 := (putL y.ou.toNat 3 ++ putL y.su.toNat 1) ++ y.nf.data.toList

def cpTl (y : Cp) : Tl := ⟨7, ⟨(cpW y).toArray⟩⟩

def mgTl (y : Mg) : Tl := ⟨8, ⟨(mgW y).toArray⟩⟩

def ogTl (y : Og) : Tl := ⟨127, ⟨(ogW y).toArray⟩⟩

def ldHead (x : Ld) : List Tl := [⟨1, ⟨(nmW x.ch).toArray⟩⟩, ⟨2, ⟨(nmW x.po).toArray⟩⟩, ⟨3, ⟨(putL x.tt.toNat 2).toArray⟩⟩]

/-- The records that tell it. -/
def ldTls (x : Ld) : List Tl := ldHead x ++ kTl 4 x.de ++ kTl 5 x.ho ++ kTl 6 x.sy ++ x.ca.map cpTl ++ x.ma.map mgTl ++ x.og.map ogTl

theorem map_take1 {α β : Type} (f : α → β) (l : List α) (k : Nat) (hk : k < l.length) : (l.take (k + 1)).map f = (l.take k).map f ++ [f l[k]] := by
  rw [List.take_add_one, List.getElem?_eq_getElem hk, List.map_append]
  rfl

theorem kTl_len (k : Int) (l : List ByteArray) : (kTl k l).length = l.length := by simp [kTl]

theorem wthn_all {x a b : Int} (h : wthn x a b = true) : a ≤ x ∧ x ≤ b := by simpa [wthn] using h

theorem okNm_all {x : Nm} (h : okNm x = true) : (1 ≤ x.su ∧ x.su ≤ 7) ∧ 1 ≤ x.id.size ∧ x.id.size ≤ 255 := by
  unfold okNm at h
  rw [Bool.and_eq_true] at h
  have h1 := wthn_all h.1
  have h2 := wthn_all h.2
  omega

theorem okCp_all {x : Cp} (h : okCp x = true) : (0 ≤ x.h ∧ x.h < 65536) ∧ (0 ≤ x.o ∧ x.o < 65536) := by
  unfold okCp at h
  rw [Bool.and_eq_true] at h
  have h1 : fitI 2 x.h = true ∧ fitI 2 x.o = true := by simpa using h.1
  exact ⟨fitI_all h1.1, fitI_all h1.2⟩

theorem okMg_all {x : Mg} (h : okMg x = true) : (0 ≤ x.asb ∧ x.asb < 256) ∧ (1 ≤ x.ai.size ∧ x.ai.size ≤ 31) ∧ (1 ≤ x.fs ∧ x.fs ≤ 3) ∧ (0 ≤ x.fi ∧ x.fi < 4294967296) ∧ x.oid.size ≤ 128 := by
  unfold okMg at h
  simp only [Bool.and_eq_true, decide_eq_true_eq] at h
  obtain ⟨h1, h2, h3, h4, h5⟩ := h
  have g1 := fitI_all h1
  have g2 := wthn_all h2
  have g3 := wthn_all h3
  have g4 := fitI_all h4
  have e1 : (256 : Int) ^ 1 = 256 := by decide
  have e4 : (256 : Int) ^ 4 = 4294967296 := by decide
  rw [e1] at g1
  rw [e4] at g4
  omega

theorem okOg_all {x : Og} (h : okOg x = true) : (0 ≤ x.ou ∧ x.ou < 16777216) ∧ (0 ≤ x.su ∧ x.su < 256) ∧ x.nf.size ≤ 507 := by
  unfold okOg at h
  simp only [Bool.and_eq_true, decide_eq_true_eq] at h
  obtain ⟨h1, h2, h3⟩ := h
  have g1 := fitI_all h1
  have g2 := fitI_all h2
  have e1 : (256 : Int) ^ 1 = 256 := by decide
  have e3 : (256 : Int) ^ 3 = 16777216 := by decide
  rw [e3] at g1
  rw [e1] at g2
  omega

theorem few_all {α : Type} {ok : α → Bool} {l : List α} (h : few ok l = true) : l.length ≤ 1 ∧ ∀ y ∈ l, ok y = true := by
  unfold few at h
  rw [Bool.and_eq_true, decide_eq_true_eq] at h
  exact ⟨by omega, List.all_eq_true.1 h.2⟩

theorem okLd_all {x : Ld} (h : okLd x = true) : okNm x.ch = true ∧ okNm x.po = true ∧ (0 ≤ x.tt ∧ x.tt < 65536) ∧ (x.de.length ≤ 1 ∧ ∀ y ∈ x.de, okSt y = true) ∧ (x.ho.length ≤ 1 ∧ ∀ y ∈ x.ho, okSt y = true) ∧ (x.sy.length ≤ 1 ∧ ∀ y ∈ x.sy, okSt y = true) ∧ (x.ca.length ≤ 1 ∧ ∀ y ∈ x.ca, okCp y = true) ∧ (x.ma.length ≤ 20 ∧ ∀ y ∈ x.ma, okMg y = true) ∧ (x.og.length ≤ 20 ∧ ∀ y ∈ x.og, okOg y = true) := by
  unfold okLd at h
  simp only [Bool.and_eq_true, decide_eq_true_eq] at h
  obtain ⟨h1, h2, h3, h4, h5, h6, h7, h8, h9, h10, h11⟩ := h
  exact ⟨h1, h2, fitI_all h3, few_all h4, few_all h5, few_all h6, few_all h7, ⟨by omega, List.all_eq_true.1 h9⟩, ⟨by omega, List.all_eq_true.1 h11⟩⟩

theorem cpW_len (y : Cp) : (cpW y).length = 4 := by simp [cpW, putL_length]

theorem ogW_len (y : Og) : (ogW y).length = 4 + y.nf.size := by
  simp [ogW, putL_length]
  omega



end Go.Proofs.YtocgnbbnaamjjaaGreatDoor

namespace Go.Proofs.YtocgnbbnaamjjaaGreatDoor
open Go.RowKit
attribute [local go_sem ↓] Go.wp_at_zero Go.wp_at_succ
set_option linter.unusedSimpArgs false
set_option linter.unusedVariables false
set_option maxRecDepth 100000

theorem withinL_any (x a b : Int) (w : World) : Calls Tryz.prog 71 #[.int .i64 x, .int .i64 a, .int .i64 b] w fun e w' => e = .returned (.bool (wthn x a b)) ∧ Below w.heap.size w w' := by
  unfold wthn
  by_cases h1 : a ≤ x
  · have d1 : decide (a ≤ x) = true := decide_eq_true h1
    obtain ⟨d2, hd⟩ : ∃ d2, decide (x ≤ b) = d2 := ⟨_, rfl⟩
    rw [d1, Bool.true_and]
    go_enter Tryz.func71, Tryz.ntmps71
    go_wp2
    go_ret
    exact ⟨by rw [hd]; rfl, Below.refl _ _⟩
  · have d1 : decide (a ≤ x) = false := decide_eq_false h1
    rw [d1, Bool.false_and]
    go_enter Tryz.func71, Tryz.ntmps71
    go_wp2
    go_ret
    exact ⟨rfl, Below.refl _ _⟩

theorem isText_any (x : ByteArray) (w : World) : Calls Tryz.prog 55 #[.string x] w fun e w' => e = .returned (.bool (okSt x)) ∧ Below w.heap.size w w' := by
  unfold okSt
  go_enter Tryz.func55, Tryz.ntmps55
  go_wp2
  go_ret
  exact ⟨rfl, Below.refl _ _⟩

theorem IRow.new2 (w : World) (a b : Int) (T : TypeId) : IRow (w.alloc (.cells #[.int .i64 a, .int .i64 b] T)) w.heap.size [a, b] :=
  IRow.new w _ T _ fun j v hv => by match j, hv with | 0, hv | 1, hv => cases hv; rfl

theorem fitsL2 (n : Nat) (hn1 : 1 ≤ n) (hn7 : n ≤ 7) (a b : Int) (ha : i64R a) (hb : i64R b) (g : Nat) (w : World) (h : IRow w g [a, b]) :
    Calls Tryz.prog 72 #[.int .i64 n, .slice (some ⟨g, 0, none⟩) 2 2] w fun e w' => e = .returned (.bool ([a, b].all (fitI n))) ∧ Below w.heap.size w w' :=
  fits_any n hn1 hn7 [a, b] (by simp) (fun v hv => by
    rcases List.mem_cons.1 hv with rfl | hv
    · exact ha
    · rcases List.mem_cons.1 hv with rfl | hv
      · exact hb
      · cases hv) g w h

theorem isName_any (x : Nm) (w : World) : Calls Tryz.prog 52 #[.agg (nmC x)] w fun e w' => e = .returned (.bool (okNm x)) ∧ Below w.heap.size w w' := by
  have HA0 := Blk.new w 23 (nmC x)
  have B0 : Below w.heap.size w (w.alloc (.cells (nmC x) 23)) := (Below.refl _ _).alloc (Nat.le_refl _) _
  have H1 := Lib.hid (fun W => withinL_any x.su 1 7 W)
  have H2 := Lib.hid (fun W => withinL_any x.id.size 1 255 W)
  unfold okNm
  generalize wthn x.id.size 1 255 = x2 at *
  generalize wthn x.su 1 7 = x1 at *
  cases x1 with
  | false =>
    simp only [Bool.true_and, Bool.false_and]
    go_enter Tryz.func52, Tryz.ntmps52
    go_upto_region 1 with (fail)
    generalize hw0 : (w.alloc (.cells (nmC x) 23)) = w0 at *
    clear hw0
    have c0_0 := HA0.cv 0 (.int .i64 x.su) rfl
    go_wp2_with fail
    refine (H1.out _).mono ?_
    rintro e w1 ⟨rfl, k1⟩
    have HA1 := HA0.kept k1
    have B1 := B0.trans (k1.mono B0.size)
    go_wp2
    go_ret
    exact ⟨rfl, B1⟩
  | true =>
    simp only [Bool.true_and]
    go_enter Tryz.func52, Tryz.ntmps52
    go_upto_region 1 with (fail)
    generalize hw0 : (w.alloc (.cells (nmC x) 23)) = w0 at *
    clear hw0
    have c0_0 := HA0.cv 0 (.int .i64 x.su) rfl
    go_wp2_with fail
    refine (H1.out _).mono ?_
    rintro e w1 ⟨rfl, k1⟩
    have HA1 := HA0.kept k1
    have B1 := B0.trans (k1.mono B0.size)
    have c1_1 := HA1.cv 1 (.string x.id) rfl
    go_wp2_with fail
    refine (H2.out _).mono ?_
    rintro e w2 ⟨rfl, k2⟩
    have HA2 := HA1.kept k2
    have B2 := B1.trans (k2.mono B1.size)
    go_wp2
    go_ret
    exact ⟨rfl, B2⟩

theorem isCaps_any (x : Cp) (hr : rgCp x) (w : World) : Calls Tryz.prog 58 #[.agg (cpC x)] w fun e w' => e = .returned (.bool (okCp x)) ∧ Below w.heap.size w w' := by
  have HA0 := Blk.new w 86 (cpC x)
  have B0 : Below w.heap.size w (w.alloc (.cells (cpC x) 86)) := (Below.refl _ _).alloc (Nat.le_refl _) _
  have H1 := Lib.hid (fun (g : Nat) (W : World) (h : IRow W g [x.h, x.o]) => fitsL2 2 (by decide) (by decide) x.h x.o hr.1 hr.2 g W h)
  unfold okCp
  generalize ([x.h, x.o].all (fitI 2)) = x1 at *
  obtain ⟨x2, hx2⟩ : ∃ x2, (bits .andNot .i64 x.o x.h == 0) = x2 := ⟨_, rfl⟩
  rw [hx2]
  clear hr
  cases x1 with
  | false =>
    simp only [Bool.true_and, Bool.false_and]
    go_enter Tryz.func58, Tryz.ntmps58
    go_upto_region 1 with (fail)
    generalize hw0 : (w.alloc (.cells (cpC x) 86)) = w0 at *
    clear hw0
    have c0_0 := HA0.cv 0 (.int .i64 x.h) rfl
    have c1_0 := HA0.cv 1 (.int .i64 x.o) rfl
    go_wp2_with fail
    refine (H1.out _ _ (IRow.new2 w0 x.h x.o _)).mono ?_
    rintro e w1 ⟨rfl, k1⟩
    replace k1 : Below w0.heap.size w0 w1 := ((Below.refl _ _).alloc (Nat.le_refl _) _).trans (k1.mono (by simp))
    have HA1 := HA0.kept k1
    have B1 := B0.trans (k1.mono B0.size)
    go_wp2
    go_ret
    exact ⟨rfl, B1⟩
  | true =>
    simp only [Bool.true_and]
    go_enter Tryz.func58, Tryz.ntmps58
    go_upto_region 1 with (fail)
    generalize hw0 : (w.alloc (.cells (cpC x) 86)) = w0 at *
    clear hw0
    have c0_0 := HA0.cv 0 (.int .i64 x.h) rfl
    have c1_0 := HA0.cv 1 (.int .i64 x.o) rfl
    go_wp2_with fail
    refine (H1.out _ _ (IRow.new2 w0 x.h x.o _)).mono ?_
    rintro e w1 ⟨rfl, k1⟩
    replace k1 : Below w0.heap.size w0 w1 := ((Below.refl _ _).alloc (Nat.le_refl _) _).trans (k1.mono (by simp))
    have HA1 := HA0.kept k1
    have B1 := B0.trans (k1.mono B0.size)
    have c0_1 := HA1.cv 0 (.int .i64 x.h) rfl
    have c1_1 := HA1.cv 1 (.int .i64 x.o) rfl
    go_wp2
    go_ret
    exact ⟨rfl, B1⟩

set_option maxHeartbeats 1600000 in
theorem isManage_any (x : Mg) (hr : rgMg x) (w : World) : Calls Tryz.prog 61 #[.agg (mgC x)] w fun e w' => e = .returned (.bool (okMg x)) ∧ Below w.heap.size w w' := by
  have HA0 := Blk.new w 89 (mgC x)
  have B0 : Below w.heap.size w (w.alloc (.cells (mgC x) 89)) := (Below.refl _ _).alloc (Nat.le_refl _) _
  have H1 := Lib.hid (fun (g : Nat) (W : World) (h : IRow W g [x.asb]) => fitsI1 1 (by decide) (by decide) x.asb hr.1 g W h)
  have H2 := Lib.hid (fun W => withinL_any x.ai.size 1 31 W)
  have H3 := Lib.hid (fun W => withinL_any x.fs 1 3 W)
  have H4 := Lib.hid (fun (g : Nat) (W : World) (h : IRow W g [x.fi]) => fitsI1 4 (by decide) (by decide) x.fi hr.2.2.1 g W h)
  unfold okMg
  obtain ⟨x5, hx5⟩ : ∃ x5, decide ((x.oid.size : Int) ≤ 128) = x5 := ⟨_, rfl⟩
  rw [hx5]
  generalize fitI 4 x.fi = x4 at *
  generalize wthn x.fs 1 3 = x3 at *
  generalize wthn x.ai.size 1 31 = x2 at *
  generalize fitI 1 x.asb = x1 at *
  clear hr
  cases x1 with
  | false =>
    simp only [Bool.true_and, Bool.false_and]
    go_enter Tryz.func61, Tryz.ntmps61
    go_upto_region 1 with (fail)
    generalize hw0 : (w.alloc (.cells (mgC x) 89)) = w0 at *
    clear hw0
    have c0_0 := HA0.cv 0 (.int .i64 x.asb) rfl
    go_wp2_with fail
    refine (H1.out _ _ (IRow.new1 w0 x.asb _)).mono ?_
    rintro e w1 ⟨rfl, k1⟩
    replace k1 : Below w0.heap.size w0 w1 := ((Below.refl _ _).alloc (Nat.le_refl _) _).trans (k1.mono (by simp))
    have HA1 := HA0.kept k1
    have B1 := B0.trans (k1.mono B0.size)
    go_wp2
    go_ret
    exact ⟨rfl, B1⟩
  | true =>
    cases x2 with
    | false =>
      simp only [Bool.true_and, Bool.false_and]
      go_enter Tryz.func61, Tryz.ntmps61
      go_upto_region 1 with (fail)
      generalize hw0 : (w.alloc (.cells (mgC x) 89)) = w0 at *
      clear hw0
      have c0_0 := HA0.cv 0 (.int .i64 x.asb) rfl
      go_wp2_with fail
      refine (H1.out _ _ (IRow.new1 w0 x.asb _)).mono ?_
      rintro e w1 ⟨rfl, k1⟩
      replace k1 : Below w0.heap.size w0 w1 := ((Below.refl _ _).alloc (Nat.le_refl _) _).trans (k1.mono (by simp))
      have HA1 := HA0.kept k1
      have B1 := B0.trans (k1.mono B0.size)
      have c1_1 := HA1.cv 1 (.string x.ai) rfl
      go_wp2_with fail
      refine (H2.out _).mono ?_
      rintro e w2 ⟨rfl, k2⟩
      have HA2 := HA1.kept k2
      have B2 := B1.trans (k2.mono B1.size)
      go_wp2
      go_ret
      exact ⟨rfl, B2⟩
    | true =>
      cases x3 with
      | false =>
        simp only [Bool.true_and, Bool.false_and]
        go_enter Tryz.func61, Tryz.ntmps61
        go_upto_region 1 with (fail)
        generalize hw0 : (w.alloc (.cells (mgC x) 89)) = w0 at *
        clear hw0
        have c0_0 := HA0.cv 0 (.int .i64 x.asb) rfl
        go_wp2_with fail
        refine (H1.out _ _ (IRow.new1 w0 x.asb _)).mono ?_
        rintro e w1 ⟨rfl, k1⟩
        replace k1 : Below w0.heap.size w0 w1 := ((Below.refl _ _).alloc (Nat.le_refl _) _).trans (k1.mono (by simp))
        have HA1 := HA0.kept k1
        have B1 := B0.trans (k1.mono B0.size)
        have c1_1 := HA1.cv 1 (.string x.ai) rfl
        go_wp2_with fail
        refine (H2.out _).mono ?_
        rintro e w2 ⟨rfl, k2⟩
        have HA2 := HA1.kept k2
        have B2 := B1.trans (k2.mono B1.size)
        have c2_2 := HA2.cv 2 (.int .i64 x.fs) rfl
        go_wp2_with fail
        refine (H3.out _).mono ?_
        rintro e w3 ⟨rfl, k3⟩
        have HA3 := HA2.kept k3
        have B3 := B2.trans (k3.mono B2.size)
        go_wp2
        go_ret
        exact ⟨rfl, B3⟩
      | true =>
        cases x4 with
        | false =>
          simp only [Bool.true_and, Bool.false_and]
          go_enter Tryz.func61, Tryz.ntmps61
          go_upto_region 1 with (fail)
          generalize hw0 : (w.alloc (.cells (mgC x) 89)) = w0 at *
          clear hw0
          have c0_0 := HA0.cv 0 (.int .i64 x.asb) rfl
          go_wp2_with fail
          refine (H1.out _ _ (IRow.new1 w0 x.asb _)).mono ?_
          rintro e w1 ⟨rfl, k1⟩
          replace k1 : Below w0.heap.size w0 w1 := ((Below.refl _ _).alloc (Nat.le_refl _) _).trans (k1.mono (by simp))
          have HA1 := HA0.kept k1
          have B1 := B0.trans (k1.mono B0.size)
          have c1_1 := HA1.cv 1 (.string x.ai) rfl
          go_wp2_with fail
          refine (H2.out _).mono ?_
          rintro e w2 ⟨rfl, k2⟩
          have HA2 := HA1.kept k2
          have B2 := B1.trans (k2.mono B1.size)
          have c2_2 := HA2.cv 2 (.int .i64 x.fs) rfl
          go_wp2_with fail
          refine (H3.out _).mono ?_
          rintro e w3 ⟨rfl, k3⟩
          have HA3 := HA2.kept k3
          have B3 := B2.trans (k3.mono B2.size)
          have c3_3 := HA3.cv 3 (.int .i64 x.fi) rfl
          go_wp2_with fail
          refine (H4.out _ _ (IRow.new1 w3 x.fi _)).mono ?_
          rintro e w4 ⟨rfl, k4⟩
          replace k4 : Below w3.heap.size w3 w4 := ((Below.refl _ _).alloc (Nat.le_refl _) _).trans (k4.mono (by simp))
          have HA4 := HA3.kept k4
          have B4 := B3.trans (k4.mono B3.size)
          go_wp2
          go_ret
          exact ⟨rfl, B4⟩
        | true =>
          simp only [Bool.true_and]
          go_enter Tryz.func61, Tryz.ntmps61
          go_upto_region 1 with (fail)
          generalize hw0 : (w.alloc (.cells (mgC x) 89)) = w0 at *
          clear hw0
          have c0_0 := HA0.cv 0 (.int .i64 x.asb) rfl
          go_wp2_with fail
          refine (H1.out _ _ (IRow.new1 w0 x.asb _)).mono ?_
          rintro e w1 ⟨rfl, k1⟩
          replace k1 : Below w0.heap.size w0 w1 := ((Below.refl _ _).alloc (Nat.le_refl _) _).trans (k1.mono (by simp))
          have HA1 := HA0.kept k1
          have B1 := B0.trans (k1.mono B0.size)
          have c1_1 := HA1.cv 1 (.string x.ai) rfl
          go_wp2_with fail
          refine (H2.out _).mono ?_
          rintro e w2 ⟨rfl, k2⟩
          have HA2 := HA1.kept k2
          have B2 := B1.trans (k2.mono B1.size)
          have c2_2 := HA2.cv 2 (.int .i64 x.fs) rfl
          go_wp2_with fail
          refine (H3.out _).mono ?_
          rintro e w3 ⟨rfl, k3⟩
          have HA3 := HA2.kept k3
          have B3 := B2.trans (k3.mono B2.size)
          have c3_3 := HA3.cv 3 (.int .i64 x.fi) rfl
          go_wp2_with fail
          refine (H4.out _ _ (IRow.new1 w3 x.fi _)).mono ?_
          rintro e w4 ⟨rfl, k4⟩
          replace k4 : Below w3.heap.size w3 w4 := ((Below.refl _ _).alloc (Nat.le_refl _) _).trans (k4.mono (by simp))
          have HA4 := HA3.kept k4
          have B4 := B3.trans (k4.mono B3.size)
          have c4_4 := HA4.cv 4 (.string x.oid) rfl
          go_wp2
          go_ret
          exact ⟨rfl, B4⟩

set_option maxHeartbeats 1600000 in
theorem isOrg_any (x : Og) (hr : rgOg x) (w : World) : Calls Tryz.prog 64 #[.agg (ogC x)] w fun e w' => e = .returned (.bool (okOg x)) ∧ Below w.heap.size w w' := by
  have HA0 := Blk.new w 111 (ogC x)
  have B0 : Below w.heap.size w (w.alloc (.cells (ogC x) 111)) := (Below.refl _ _).alloc (Nat.le_refl _) _
  have H1 := Lib.hid (fun (g : Nat) (W : World) (h : IRow W g [x.ou]) => fitsI1 3 (by decide) (by decide) x.ou hr.1 g W h)
  have H2 := Lib.hid (fun (g : Nat) (W : World) (h : IRow W g [x.su]) => fitsI1 1 (by decide) (by decide) x.su hr.2.1 g W h)
  unfold okOg
  obtain ⟨x3, hx3⟩ : ∃ x3, decide ((x.nf.size : Int) ≤ 507) = x3 := ⟨_, rfl⟩
  rw [hx3]
  generalize fitI 1 x.su = x2 at *
  generalize fitI 3 x.ou = x1 at *
  clear hr
  cases x1 with
  | false =>
    simp only [Bool.true_and, Bool.false_and]
    go_enter Tryz.func64, Tryz.ntmps64
    go_upto_region 1 with (fail)
    generalize hw0 : (w.alloc (.cells (ogC x) 111)) = w0 at *
    clear hw0
    have c0_0 := HA0.cv 0 (.int .i64 x.ou) rfl
    go_wp2_with fail
    refine (H1.out _ _ (IRow.new1 w0 x.ou _)).mono ?_
    rintro e w1 ⟨rfl, k1⟩
    replace k1 : Below w0.heap.size w0 w1 := ((Below.refl _ _).alloc (Nat.le_refl _) _).trans (k1.mono (by simp))
    have HA1 := HA0.kept k1
    have B1 := B0.trans (k1.mono B0.size)
    go_wp2
    go_ret
    exact ⟨rfl, B1⟩
  | true =>
    cases x2 with
    | false =>
      simp only [Bool.true_and, Bool.false_and]
      go_enter Tryz.func64, Tryz.ntmps64
      go_upto_region 1 with (fail)
      generalize hw0 : (w.alloc (.cells (ogC x) 111)) = w0 at *
      clear hw0
      have c0_0 := HA0.cv 0 (.int .i64 x.ou) rfl
      go_wp2_with fail
      refine (H1.out _ _ (IRow.new1 w0 x.ou _)).mono ?_
      rintro e w1 ⟨rfl, k1⟩
      replace k1 : Below w0.heap.size w0 w1 := ((Below.refl _ _).alloc (Nat.le_refl _) _).trans (k1.mono (by simp))
      have HA1 := HA0.kept k1
      have B1 := B0.trans (k1.mono B0.size)
      have c1_1 := HA1.cv 1 (.int .i64 x.su) rfl
      go_wp2_with fail
      refine (H2.out _ _ (IRow.new1 w1 x.su _)).mono ?_
      rintro e w2 ⟨rfl, k2⟩
      replace k2 : Below w1.heap.size w1 w2 := ((Below.refl _ _).alloc (Nat.le_refl _) _).trans (k2.mono (by simp))
      have HA2 := HA1.kept k2
      have B2 := B1.trans (k2.mono B1.size)
      go_wp2
      go_ret
      exact ⟨rfl, B2⟩
    | true =>
      simp only [Bool.true_and]
      go_enter Tryz.func64, Tryz.ntmps64
      go_upto_region 1 with (fail)
      generalize hw0 : (w.alloc (.cells (ogC x) 111)) = w0 at *
      clear hw0
      have c0_0 := HA0.cv 0 (.int .i64 x.ou) rfl
      go_wp2_with fail
      refine (H1.out _ _ (IRow.new1 w0 x.ou _)).mono ?_
      rintro e w1 ⟨rfl, k1⟩
      replace k1 : Below w0.heap.size w0 w1 := ((Below.refl _ _).alloc (Nat.le_refl _) _).trans (k1.mono (by simp))
      have HA1 := HA0.kept k1
      have B1 := B0.trans (k1.mono B0.size)
      have c1_1 := HA1.cv 1 (.int .i64 x.su) rfl
      go_wp2_with fail
      refine (H2.out _ _ (IRow.new1 w1 x.su _)).mono ?_
      rintro e w2 ⟨rfl, k2⟩
      replace k2 : Below w1.heap.size w1 w2 := ((Below.refl _ _).alloc (Nat.le_refl _) _).trans (k2.mono (by simp))
      have HA2 := HA1.kept k2
      have B2 := B1.trans (k2.mono B1.size)
      have c2_2 := HA2.cv 2 (.string x.nf) rfl
      go_wp2
      go_ret
      exact ⟨rfl, B2⟩

end Go.Proofs.YtocgnbbnaamjjaaGreatDoor

namespace Go.Proofs.YtocgnbbnaamjjaaGreatDoor
open Go.RowKit
attribute [local go_sem ↓] Go.wp_at_zero Go.wp_at_succ
set_option linter.unusedSimpArgs false
set_option linter.unusedVariables false
set_option maxRecDepth 100000












end Go.Proofs.YtocgnbbnaamjjaaGreatDoor

namespace Go.Proofs.YtocgnbbnaamjjaaGreatDoor
open Go.RowKit
attribute [local go_sem ↓] Go.wp_at_zero Go.wp_at_succ
set_option linter.unusedSimpArgs false
set_option linter.unusedVariables false
set_option maxRecDepth 100000












end Go.Proofs.YtocgnbbnaamjjaaGreatDoor

namespace Go.Proofs.YtocgnbbnaamjjaaGreatDoor
open Go.RowKit
attribute [local go_sem ↓] Go.wp_at_zero Go.wp_at_succ
set_option linter.unusedSimpArgs false
set_option linter.unusedVariables false
set_option maxRecDepth 100000










end Go.Proofs.YtocgnbbnaamjjaaGreatDoor

namespace Go.Proofs.YtocgnbbnaamjjaaGreatDoor
open Go.RowKit
attribute [local go_sem ↓] Go.wp_at_zero Go.wp_at_succ
set_option linter.unusedSimpArgs false
set_option linter.unusedVariables false
set_option maxRecDepth 100000










end Go.Proofs.YtocgnbbnaamjjaaGreatDoor

namespace Go.Proofs.YtocgnbbnaamjjaaGreatDoor
open Go.RowKit
attribute [local go_sem ↓] Go.wp_at_zero Go.wp_at_succ
set_option linter.unusedSimpArgs false
set_option linter.unusedVariables false
set_option maxRecDepth 100000



end Go.Proofs.YtocgnbbnaamjjaaGreatDoor

namespace Go.Proofs.YtocgnbbnaamjjaaGreatDoor
open Go.RowKit
attribute [local go_sem ↓] Go.wp_at_zero Go.wp_at_succ
set_option linter.unusedSimpArgs false
set_option linter.unusedVariables false
set_option maxRecDepth 100000



theorem withinR_any (x a b : Int) (w : World) : Calls Tryz.prog 14 #[.int .i64 x, .int .i64 a, .int .i64 b] w fun e w' => e = .returned (.bool (decide (a ≤ x) && decide (x ≤ b))) ∧ Below w.heap.size w w' := by
  by_cases h1 : a ≤ x
  · have d1 : decide (a ≤ x) = true := decide_eq_true h1
    generalize hd : decide (x ≤ b) = d2
    rw [d1, Bool.true_and]
    go_enter Tryz.func14, Tryz.ntmps14
    go_wp2
    go_ret
    exact ⟨rfl, Below.refl _ _⟩
  · have d1 : decide (a ≤ x) = false := decide_eq_false h1
    rw [d1, Bool.false_and]
    go_enter Tryz.func14, Tryz.ntmps14
    go_wp2
    go_ret
    exact ⟨rfl, Below.refl _ _⟩



end Go.Proofs.YtocgnbbnaamjjaaGreatDoor

namespace Go.Proofs.YtocgnbbnaamjjaaGreatDoor
open Go.ChangeShapes Go.WideShapes Go.ChangeAt Go.RowKit Go.Deep Go.Joins
set_option linter.unusedVariables false

theorem list2s {α : Type} (l : List α) (h : l.length = 2) : ∃ c0 c1, l = [c0, c1] := by
  match l, h with
  | [c0, c1], _ => exact ⟨c0, c1, rfl⟩

set_option maxRecDepth 100000 in
theorem tl_trod {H : Type} {enc : TypeId × Value → H} {W : World} {base fuel : Nat} {sp : Nat → Bool} {held : Bool} {c0 c1 : Value} {y : DataW H × List MemPlace}
    (h : DataW.trod enc Tryz.prog W base sp held fuel 80 [c0, c1] = some y) : ∃ x : Tl, rgTl x ∧ [c0, c1] = (tlC x).toList := by
  have _h2 : Tryz.prog.cellsOf 3 = 1 := by kernel_rfl
  have _h3 : Tryz.prog.cellsOf 9 = 1 := by kernel_rfl
  obtain ⟨xs, n, _, hx, _, hlen, hg⟩ := DataW.trod_struct Tryz.underlying80 h
  obtain ⟨y0, y1, rfl⟩ := list2s xs hlen
  have g0 := hg 0 _ rfl
  have g1 := hg 1 _ rfl
  obtain ⟨x0, e0, _, wf0⟩ := DataW.trod_int Tryz.underlying3 g0
  obtain rfl : c0 = .int .i64 x0 := (List.cons.inj (show [c0] = [.int .i64 x0] from e0)).1
  obtain ⟨x1, e1, q1, sb1⟩ := DataW.trod_string Tryz.underlying9 g1
  obtain rfl : c1 = .string x1 := (List.cons.inj (show [c1] = [.string x1] from e1)).1
  exact ⟨⟨x0, x1⟩, ⟨bounds_i64 wf0, sb1⟩, rfl⟩

/- A cell that reads as a list of records. -/

set_option maxRecDepth 100000 in
theorem tls_cell {H : Type} {enc : TypeId × Value → H} {W : World} {fuel : Nat} {z0 : Value} {y : DataW H × List MemPlace}
    (hf : DataW.trod enc Tryz.prog W 0 (fun _ => true) true fuel 73 [z0] = some y) : ∃ (a : Option Addr) (c : Nat) (l : List Tl), z0 = .slice a l.length c ∧ l.length ≤ c ∧ c ≤ maxLen ∧ TlIn W a l ∧ ∀ x ∈ l, rgTl x := by
  have hs : Tryz.prog.underlying 73 = some (.slice 80) := by kernel_rfl
  have hc3 : Tryz.prog.cellsOf 80 = 2 := by kernel_rfl
  rcases open_slice hs hf with ⟨hc, hx⟩ | ⟨b, n, c, m, k, D, Pl, hc, hb, hl, hm, hmm, hx, hall⟩
  · simp at hc
    subst hc
    exact ⟨none, 0, [], rfl, Nat.le_refl _, by decide, Or.inl rfl, by simp⟩
  · simp at hc
    subst hc
    have hlm : n ≤ m := by rw [hmm]; split <;> omega
    have each : ∀ i, i < n → ∃ t : Tl, rgTl t ∧ ∀ (j : Nat) (x : Value), (tlC t)[j]? = some x → W.cell? (b.add (i * 2 + j)) = some x := by
      intro i hi
      obtain ⟨cs', h1, h2⟩ := hall i (by omega)
      rw [hc3] at h1
      obtain ⟨_, hlen, hcell⟩ := World.cells?_some h1
      obtain ⟨c0, c1, rfl⟩ := list2s cs' hlen
      obtain ⟨t, ht, he⟩ := tl_trod h2
      refine ⟨t, ht, fun j x hj => ?_⟩
      have hj2 : j < 2 := (Array.getElem?_eq_some_iff.1 hj).1
      have g := hcell j (by omega)
      rw [add_add] at g
      rw [g]
      have e2 : ([c0, c1] : List Value)[j]? = some x := by rw [he]; simpa using hj
      exact e2
    obtain ⟨z, hz⟩ := choose_lt each
    obtain ⟨bb, bo, bs⟩ := b
    rcases Nat.eq_zero_or_pos n with rfl | q0
    · exact ⟨some ⟨bb, bo, bs⟩, c, [], rfl, hl, hm, Or.inl rfl, by simp⟩
    have h0 := (hz 0 q0).2 0 _ rfl
    have hspot : bs = none := by simpa [Addr.add] using World.cell?_spot h0
    subst hspot
    refine ⟨some ⟨bb, bo, none⟩, c, (List.range n).map z, by simp, by simpa using hl, hm, Or.inr ⟨bb, bo, rfl, ?_, fun j hj k x hx => ?_⟩, ?_⟩
    · have := World.block_lt_of_cell? W _ h0
      simpa [Addr.add] using this
    · have hj' : j < n := by simpa using hj
      simp only [List.getElem_map, List.getElem_range] at hx
      have e0 := (hz j hj').2 k x hx
      rw [add_plain] at e0
      rw [Nat.add_assoc]
      exact e0
    · intro v hv
      obtain ⟨j, hj, rfl⟩ := List.mem_map.1 hv
      exact (hz j (List.mem_range.1 hj)).1


set_option maxRecDepth 100000 in
theorem open_tls {H : Type} {enc : TypeId × Value → H} {W : World} {base : Nat} {v : Value} {d : DataW H} {p : List MemPlace} (hval : Value.okWide Tryz.prog W .any base 73 v)
    (h : DataW.Trod enc Tryz.prog W 0 (fun _ => true) true 73 v d p) : ∃ (a : Option Addr) (c : Nat) (l : List Tl), v = .slice a l.length c ∧ l.length ≤ c ∧ c ≤ maxLen ∧ (TlIn W a l ∧ ∀ x ∈ l, rgTl x) := by
  have hs : Tryz.prog.underlying 73 = some (.slice 80) := by kernel_rfl
  obtain ⟨a, n, c, rfl⟩ := okWide_slice hs hval
  obtain ⟨fuel, hf⟩ := h
  obtain ⟨a', c', l, e, h1, h2, h3⟩ := tls_cell (show DataW.trod enc Tryz.prog W 0 (fun _ => true) true fuel 73 [.slice a n c] = some _ by simpa [Value.cells] using hf)
  exact ⟨a', c', l, e, h1, h2, h3⟩

end Go.Proofs.YtocgnbbnaamjjaaGreatDoor

namespace Go.Proofs.YtocgnbbnaamjjaaGreatDoor
open Go.RowKit
set_option linter.unusedVariables false

/-- What a reader's error says: nothing (0, -1), or an At. -/
def ErrAs (w : World) (er : Value) (e pl : Int) : Prop := (er = .nilIface ∧ e = 0 ∧ pl = -1) ∨ (e ≠ 0 ∧ ∃ q, er = .iface 97 (.pointer (some ⟨q, 0, none⟩)) ∧ Flt w q e pl)

theorem ErrAs.below {w w' : World} {er : Value} {e pl : Int} (h : ErrAs w er e pl) (hb : Below w.heap.size w w') : ErrAs w' er e pl := by
  rcases h with h | ⟨he, q, hq, hf⟩
  · exact Or.inl h
  · exact Or.inr ⟨he, q, hq, hf.below hb⟩

theorem ErrAs.nil {w : World} : ErrAs w .nilIface 0 (-1) := Or.inl ⟨rfl, rfl, rfl⟩

/-- A reader's answer: a value, and its error. -/
def ReadsAs (X : Array Value) (e pl : Int) (w : World) (r : Ending) (w' : World) : Prop := ∃ er, r = .returned (.tuple #[.agg X, er]) ∧ ErrAs w' er e pl ∧ Below w.heap.size w w'


end Go.Proofs.YtocgnbbnaamjjaaGreatDoor

