/- What the reference's tlvs are. -/
import Derived.Test.YticjmjoiggnblaaDoorLdWrite
import Derived.Test.YticjmjoiggnblaaDoorLdCap
import Derived.Test.YticjmjoiggnblaaDoorBe2
namespace Go.Proofs.YticjmjoiggnblaaDoor
open Go.RowKit
attribute [local go_sem ↓] Go.wp_at_zero Go.wp_at_succ
set_option linter.unusedSimpArgs false
set_option linter.unusedVariables false
set_option maxRecDepth 100000

def uw (x : Int) : Nat := (x % 18446744073709551616).toNat
def beI (x : Int) (n : Nat) : List UInt8 := putL (uw x) n
theorem beI_len (x : Int) (n : Nat) : (beI x n).length = n := putL_length _ _
theorem uw_nn {x : Int} (h0 : 0 ≤ x) (h1 : x < 18446744073709551616) : uw x = x.toNat := by
  unfold uw
  rw [Int.emod_eq_of_lt h0 h1]
theorem be_all (x : Int) (n : Nat) (w : World) (h8 : n ≤ 8) :
    Calls Tryd.prog 35 #[.int .i64 x, .int .i64 n] w fun e w' => e = .returned (.string ⟨(beI x n).toArray⟩) ∧ Below w.heap.size w w' := by
  have h1 : 0 ≤ x % 18446744073709551616 := Int.emod_nonneg _ (by decide)
  have h2 : x % 18446744073709551616 < 18446744073709551616 := Int.emod_lt_of_pos _ (by decide)
  have hw : IntKind.u64.wrap x = ((uw x : Nat) : Int) := by
    rw [IntKind.wrap_u64]
    unfold uw
    omega
  have hu : uw x ≤ 18446744073709551615 := by unfold uw; omega
  have HB := bytesOf_any (uw x) n w h8 hu
  unfold beI
  generalize uw x = X at *
  clear h1 h2
  go_enter Tryd.func35, Tryd.ntmps35
  go_wp2_with (go_at_call 78; (with_reducible refine HB.mono ?_); rintro e w' ⟨rfl, hb⟩)
  go_ret
  exact ⟨rfl, hb⟩
theorem be_1 (x : Int) (w : World) : Calls Tryd.prog 35 #[.int .i64 x, .int .i64 1] w fun e w' => e = .returned (.string ⟨(beI x 1).toArray⟩) ∧ Below w.heap.size w w' := be_all x 1 w (by decide)
theorem be_2 (x : Int) (w : World) : Calls Tryd.prog 35 #[.int .i64 x, .int .i64 2] w fun e w' => e = .returned (.string ⟨(beI x 2).toArray⟩) ∧ Below w.heap.size w w' := be_all x 2 w (by decide)
theorem be_3 (x : Int) (w : World) : Calls Tryd.prog 35 #[.int .i64 x, .int .i64 3] w fun e w' => e = .returned (.string ⟨(beI x 3).toArray⟩) ∧ Below w.heap.size w w' := be_all x 3 w (by decide)
theorem be_4 (x : Int) (w : World) : Calls Tryd.prog 35 #[.int .i64 x, .int .i64 4] w fun e w' => e = .returned (.string ⟨(beI x 4).toArray⟩) ∧ Below w.heap.size w w' := be_all x 4 w (by decide)

def nmR (x : Nm) : List UInt8 := beI x.su 1 ++ x.id.data.toList
def cpR (y : Cp) : List UInt8 := beI y.h 2 ++ beI y.o 2
def mgR1 (y : Mg) : List UInt8 := beI ((y.ai.size : Int) + 1) 1 ++ beI y.as 1
def mgR2 (y : Mg) : List UInt8 := mgR1 y ++ y.ai.data.toList
def mgR3 (y : Mg) : List UInt8 := mgR2 y ++ beI y.fs 1
def mgR4 (y : Mg) : List UInt8 := mgR3 y ++ beI y.fi 4
def mgR5 (y : Mg) : List UInt8 := mgR4 y ++ beI (y.oid.size : Int) 1
def mgR (y : Mg) : List UInt8 := mgR5 y ++ y.oid.data.toList
def ogR1 (y : Og) : List UInt8 := beI y.ou 3 ++ beI y.su 1
def ogR (y : Og) : List UInt8 := ogR1 y ++ y.nf.data.toList
def cpT (y : Cp) : Tl := ⟨7, ⟨(cpR y).toArray⟩⟩
def mgT (y : Mg) : Tl := ⟨8, ⟨(mgR y).toArray⟩⟩
def ogT (y : Og) : Tl := ⟨127, ⟨(ogR y).toArray⟩⟩
def refHead (x : Ld) : List Tl := [⟨1, ⟨(nmR x.ch).toArray⟩⟩, ⟨2, ⟨(nmR x.po).toArray⟩⟩, ⟨3, ⟨(beI x.tt 2).toArray⟩⟩]
def refTls (x : Ld) : List Tl := refHead x ++ kTl 4 x.de ++ kTl 5 x.ho ++ kTl 6 x.sy ++ x.ca.map cpT ++ x.ma.map mgT ++ x.og.map ogT
theorem refTls_ok (x : Ld) (hok : okLd x = true) : refTls x = ldTls x := by
  obtain ⟨o1, o2, o3, o4, o5, o6, o7, o8, o9⟩ := okLd_all hok
  have m1 := okNm_all o1
  have m2 := okNm_all o2
  have b : ∀ (x : Int) n, 0 ≤ x → x < 18446744073709551616 → beI x n = putL x.toNat n := fun x n h0 h1 => by unfold beI; rw [uw_nn h0 h1]
  unfold refTls ldTls
  have e0 : refHead x = ldHead x := by
    unfold refHead ldHead nmR nmW
    rw [b _ 1 (by omega) (by omega), b _ 1 (by omega) (by omega), b _ 2 (by omega) (by omega)]
  have e1 : x.ca.map cpT = x.ca.map cpTl := List.map_congr_left fun y hy => by
    have q := okCp_all (o7.2 y hy)
    unfold cpT cpTl cpR cpW
    rw [b _ 2 (by omega) (by omega), b _ 2 (by omega) (by omega)]
  have e2 : x.ma.map mgT = x.ma.map mgTl := List.map_congr_left fun y hy => by
    have q := okMg_all (o8.2 y hy)
    unfold mgT mgTl
    have : mgR y = mgW y := by
      unfold mgR mgR5 mgR4 mgR3 mgR2 mgR1 mgW nmW mgN
      dsimp only
      rw [b _ 1 (by omega) (by omega), b _ 1 (by omega) (by omega), b _ 1 (by omega) (by omega), b _ 4 (by omega) (by omega), b _ 1 (by omega) (by omega)]
      have t1 : ((y.ai.size : Int) + 1).toNat = 1 + y.ai.size := by omega
      rw [t1]
      simp only [List.append_assoc, Int.toNat_natCast]
    rw [this]
  have e3 : x.og.map ogT = x.og.map ogTl := List.map_congr_left fun y hy => by
    have q := okOg_all (o9.2 y hy)
    unfold ogT ogTl ogR ogR1 ogW
    rw [b _ 3 (by omega) (by omega), b _ 1 (by omega) (by omega)]
  rw [e0, e1, e2, e3]
theorem nmR_len (x : Nm) : (nmR x).length = 1 + x.id.size := by simp [nmR, beI_len]
theorem mgR1_len (y : Mg) : (mgR1 y).length = 2 := by simp [mgR1, beI_len]
theorem mgR2_len (y : Mg) : (mgR2 y).length = 2 + y.ai.size := by simp [mgR2, mgR1_len]
theorem mgR3_len (y : Mg) : (mgR3 y).length = 3 + y.ai.size := by simp [mgR3, mgR2_len, beI_len]; omega
theorem mgR4_len (y : Mg) : (mgR4 y).length = 7 + y.ai.size := by simp [mgR4, mgR3_len, beI_len]; omega
theorem mgR5_len (y : Mg) : (mgR5 y).length = 8 + y.ai.size := by simp [mgR5, mgR4_len, beI_len]; omega
/-- Whether the reference takes it. -/
def ok0 (x : Ld) : Bool := okNm x.ch && (okNm x.po && (wthn x.tt 0 65535 && (decide ((x.ca.length : Int) ≤ 1) && (decide ((x.ma.length : Int) ≤ 20) && decide ((x.og.length : Int) ≤ 20)))))
def okRef (x : Ld) : Bool := (((((ok0 x && few okSt x.de) && few okSt x.ho) && few okSt x.sy) && x.ca.all okCpR) && x.ma.all okMgR) && x.og.all okOgR
theorem okRef_eq (x : Ld) : okRef x = okLd x := by
  have e1 : x.ca.all okCpR = x.ca.all okCp := by congr 1; funext y; exact okCpR_eq y
  have e2 : x.ma.all okMgR = x.ma.all okMg := by congr 1; funext y; exact okMgR_eq y
  have e3 : x.og.all okOgR = x.og.all okOg := by congr 1; funext y; exact okOgR_eq y
  unfold okRef ok0 okLd
  rw [e1, e2, e3, ← fit_wthn 2 65535 _ (by decide)]
  rw [show few okCp x.ca = (decide ((x.ca.length : Int) ≤ 1) && x.ca.all okCp) from rfl]
  generalize okNm x.ch = b1
  generalize okNm x.po = b2
  generalize fitI 2 x.tt = b3
  generalize few okSt x.de = b4
  generalize few okSt x.ho = b5
  generalize few okSt x.sy = b6
  generalize decide ((x.ca.length : Int) ≤ 1) = b7
  generalize x.ca.all okCp = b8
  generalize decide ((x.ma.length : Int) ≤ 20) = b9
  generalize x.ma.all okMg = b10
  generalize decide ((x.og.length : Int) ≤ 20) = b11
  generalize x.og.all okOg = b12
  cases b1 <;> cases b2 <;> cases b3 <;> cases b4 <;> simp <;> (cases b5 <;> cases b6 <;> cases b7 <;> cases b8 <;> simp) <;> (cases b9 <;> cases b10 <;> cases b11 <;> cases b12 <;> rfl)

end Go.Proofs.YticjmjoiggnblaaDoor
