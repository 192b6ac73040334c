/- Texts one behind the other. tlv.Write at every list. lldp.Write at every announcement. Rows of numbers of one's own. The small functions that the laws share: pick (some number below n) and wired (a fact on package wire). (*wire.Reader).Zeros at every argument. A wire.Reader beside the plain answer: what Bytes, Num, Fail, Zeros and Err do in any state. (apart: zrR, leadT_le, zrR_le) How many noughts stand ahead: each of them is one, and the next byte is none. 13.1: records plainly: how they are read. tlv.readHead, tlv.Read at every text. 13.1: one round of reading, plainly. 13.1: there and back, plainly. 14.3: what records tell of a station, plainly. 14.3: how a record's text is read, plainly: to its end, just so, or not. 14.2, 14.3: there and back, plainly. -/
import Derived.Test.YtcijhmbimbejfaaDoorLsK1
import Derived.Test.YtcijhmbimbejfaaDoorLsK2
import Derived.Test.YtcijhmbimbejfaaDoorLsK3
import Derived.Deep.AppendLies
import Derived.Deep.RegionHeld3
import Derived.Great.BuildSlice
import Derived.Lib.TrimByte
namespace Go.Proofs.YtcijhmbimbejfaaDoor
open Go.RowKit
attribute [local go_sem ↓] Go.wp_at_zero Go.wp_at_succ
set_option linter.unusedSimpArgs false
set_option linter.unusedVariables false
set_option maxRecDepth 100000

/-- put: a record comes behind what a Builder has. -/
theorem put_tl (b : Nat) (y : List UInt8) (x : Tl) (w : World) (h : BU b y w) (h0 : 0 ≤ x.k) (h1 : x.k ≤ 127) (h2 : x.t.size ≤ 511) (hlen : y.length ≤ 900000) (hBw : b ≤ w.heap.size) :
    Calls Tryd.prog 43 #[.agg (tlC x), .pointer (some ⟨b, 0, none⟩)] w fun e w' => e = .returned (.tuple #[]) ∧ BU b (y ++ tlW x) w' ∧ Below b w w' ∧ KeepB w w' := by
  have hd : hdT x < 65536 := by unfold hdT; omega
  have m1 : IntKind.i64.wrap (512 * x.k) = 512 * x.k := by rw [IntKind.wrap_i64] <;> omega
  have m2 : IntKind.i64.wrap (512 * x.k + (x.t.size : Int)) = (hdT x : Int) := by
    unfold hdT
    rw [IntKind.wrap_i64] <;> omega
  have HM := Lib.hid (fun W => must_fits (hdT x) 2 W (by decide) (by decide) (by omega))
  have hp2 := putL_length (hdT x) 2
  have HW : Hid (tlW x = putL (hdT x) 2 ++ x.t.data.toList) := rfl
  have htl : x.t.data.toList.length = x.t.size := by simp
  have HA := Blk.new w 51 (tlC x)
  have b0 : Below w.heap.size w (w.alloc (.cells (tlC x) 51)) := (Below.refl _ _).alloc (Nat.le_refl _) _
  generalize putL (hdT x) 2 = z at *
  generalize hdT x = hdn at *
  go_enter Tryd.func43, Tryd.ntmps43
  go_upto_region 1 with (fail)
  generalize (w.alloc (.cells (tlC x) 51)) = w0 at *
  have c0 := HA.cv 0 (.int .i64 x.k) rfl
  have c1 := HA.cv 1 (.string x.t) rfl
  go_wp2_with fail
  refine (HM.out _).mono ?_
  rintro e w1 ⟨rfl, k1⟩
  have b1 := b0.trans (k1.mono b0.size)
  have HA1 := HA.kept k1
  have hlt := HA.lt
  have IB1 : BU b y w1 := isB_below h b1
  have hB1 := Nat.le_trans hBw b1.size
  clear c0 c1 HA b0 k1
  go_wp2_with fail
  refine (write_bu b y z _ IB1 (by omega) hB1).mono ?_
  rintro e w2 ⟨rfl, IB2, b2, K2⟩
  have HA2 := K2 _ _ _ HA1 (by decide) (by decide)
  have c1 := HA2.cv 1 (.string x.t) rfl
  rw [show x.t = ⟨x.t.data.toList.toArray⟩ from rfl] at c1
  have hlz : (y ++ z).length = y.length + 2 := by rw [List.length_append, hp2]
  generalize x.t.data.toList = tl at *
  go_wp2_with fail
  refine (write_bu b (y ++ z) tl _ IB2 (by omega) (Nat.le_trans hB1 b2.size)).mono ?_
  rintro e w3 ⟨rfl, IB3, b3, K3⟩
  rw [List.append_assoc, ← HW.out] at IB3
  go_wp2
  go_end0
  exact ⟨rfl, IB3, ((b1.mono hBw).trans b2).trans b3, ((KeepB.of b1).trans K2).trans K3⟩

set_option maxHeartbeats 3200000 in
theorem tlWrite_any (a : Option Addr) (c : Nat) (l : List Tl) (m : Nat) (hm : m ≤ l.length) (hok : ∀ x ∈ l.take m, okTl x = true) (hlen : l.length ≤ 1700) (X : List UInt8) (e0 pl : Int) (hend : (m = l.length ∧ X = tlWrite l ∧ e0 = 0 ∧ pl = -1) ∨ (∃ hk : m < l.length, okTl l[m] = false ∧ X = [] ∧ e0 = 1 ∧ pl = m)) (w : World) (h : TlIn w a l) :
    Calls Tryd.prog 17 #[.slice a l.length c] w fun e w' => ∃ er, e = .returned (.tuple #[.string ⟨X.toArray⟩, er]) ∧ ErrAs w' er e0 pl ∧ Below w.heap.size w w' := by
  have HB0 := bu_new w
  have B0 : Below w.heap.size w (w.alloc (.cells #[.pointer none, .slice none 0 0] 92)) := (Below.refl _ _).alloc (Nat.le_refl _) _
  have HSL : Hid (∀ k, k ≤ m → (tlWs (l.take k)).length ≤ 513 * k) := fun k hk => by
    have q := tlWs_le (l.take k) (fun x hx => hok x (by
      rw [show k = min k m by omega, ← List.take_take] at hx
      exact List.mem_of_mem_take hx))
    have q2 := List.length_take_le k l
    omega
  have HOK : Hid (∀ (k : Nat) (hk : k < l.length), k < m → okTl l[k] = true) := fun k hk hkm => hok _ (by
    rw [List.mem_iff_getElem]
    exact ⟨k, by rw [List.length_take]; omega, by rw [List.getElem_take]⟩)
  have HT := Lib.hid (tlWs_take l)
  have hmf : ∀ (fn : Fn) (first cap : Array Value) (w : World), (Instr.makeFunc fn first cap).run Tryd.prog w = .ok (.func fn first cap) w := fun _ _ _ _ => rfl
  clear hok
  go_enter Tryd.func17, Tryd.ntmps17
  go_upto_region 2 with (fail)
  generalize w.alloc (.cells #[.pointer none, .slice none 0 0] 92) = w1 at *
  go_wp2_with fail
  go_loopw [11] (fun i wr => ∃ k : Nat, k ≤ m ∧ i = .int .i64 k ∧ BU w.heap.size (tlWs (l.take k)) wr ∧ Below w.heap.size w wr) (fun i _ => l.length - (intOf i).toNat)
  case atStart => exact ⟨0, by omega, rfl, by rw [List.take_zero]; exact HB0, B0⟩
  case round =>
    obtain ⟨k, hk, rfl, HBk, Bk⟩ := hrel
    have hsk := HSL.out k hk
    have hsw := Bk.size
    by_cases hlt : k < l.length
    · have hIk := h.below Bk
      obtain ⟨b, lo, rfl, hbl, hat⟩ := hIk.at hlt
      have q1 : (k : Int) < (l.length : Int) := by omega
      have q2 : decide ((k : Int) < (l.length : Int)) = true := decide_eq_true q1
      have q3 : (0 : Int) ≤ (k : Int) := by omega
      have HK := hat k hlt
      have HA4 := Blk.new wr 51 (tlC zTl)
      have B4 := Bk.alloc Bk.size (.cells (tlC zTl) 51)
      have hb4 : Below wr.heap.size wr (wr.alloc (.cells (tlC zTl) 51)) := (Below.refl _ _).alloc (Nat.le_refl _) _
      have HR := Lib.hid (tlRight_any l[k])
      have hHT := Lib.hid (HT.out k hlt)
      have hOK := Lib.hid (fun h => HOK.out k hlt h)
      have hbad : Hid (m = k → okTl l[k] = false ∧ X = [] ∧ e0 = 1 ∧ pl = k) := fun e1 => by
        rcases hend with ⟨r1, _⟩ | ⟨hk2, r2, r3, r4, r5⟩
        · omega
        · subst e1
          exact ⟨r2, r3, r4, r5⟩
      generalize l[k] = x at *
      clear hat Bk hend HT HOK hIk
      go_upto_region 6 with (first
        | (refine load_cells (B := b) (k := lo + k * 2) 51 (tlC x) (by rfl) rfl rfl HK (by kernel_rfl) (by kernel_rfl) ?_)
        | (refine alloc_blk 51 (tlC zTl) (by rfl) rfl Tryd.tlZero ?_)
        | (refine store_blk (k := 0) 51 (.agg (tlC x)) (tlC x) (by rfl) rfl rfl rfl HA4 (by kernel_rfl) (show (2 : Nat) ≤ 2 from Nat.le_refl 2) (by rfl) (st_whole _ _ rfl) ?_; intro w5 HA5 b5 g5))
      have HB5 : BU w.heap.size (tlWs (l.take k)) w5 := isB_below HBk ((hb4).trans b5)
      have B5 := B4.trans (b5.mono hsw)
      clear HA4 B4 b5 g5 HK hb4 HBk
      generalize wr.heap.size = g at *
      by_cases hkm : k < m
      · have hx := hOK.out hkm
        obtain ⟨o1, o2, o3⟩ := okTl_all hx
        replace HR : Hid (∀ W, Calls Tryd.prog 46 #[.agg (tlC x)] W fun e w' => e = .returned (.bool true) ∧ Below W.heap.size W w') := fun W => by rw [← hx]; exact HR.out W
        clear hbad hOK hx
        go_wp2_with (refine load_blk (k := 0) 51 (tlC x) (by rfl) rfl rfl HA5 (by kernel_rfl) (by kernel_rfl) rfl ?_)
        refine (HR.out _).mono ?_
        rintro e w6 ⟨rfl, b6⟩
        have HA6 := HA5.kept b6
        have HB6 : BU w.heap.size (tlWs (l.take k)) w6 := isB_below HB5 b6
        have B6 := B5.trans (b6.mono B5.size)
        clear HA5 HB5 B5 b6 HR
        go_wp2_with (refine load_blk (k := 0) 51 (tlC x) (by rfl) rfl rfl HA6 (by kernel_rfl) (by kernel_rfl) rfl ?_)
        refine (put_tl w.heap.size _ x _ HB6 (by omega) o2 o3 (by omega) B6.size).mono ?_
        rintro e w7 ⟨rfl, HB7, b7, K7⟩
        rw [← hHT.out] at HB7
        have B7 := B6.trans b7
        go_wp2
        go_roundw
        case rel => exact ⟨k + 1, by omega, by go_num, HB7, B7⟩
        case measure => simp [intOf]; omega
      · obtain rfl : k = m := by omega
        obtain ⟨hx, rfl, rfl, rfl⟩ := hbad.out rfl
        replace HR : Hid (∀ W, Calls Tryd.prog 46 #[.agg (tlC x)] W fun e w' => e = .returned (.bool false) ∧ Below W.heap.size W w') := fun W => by rw [← hx]; exact HR.out W
        clear hbad hOK hx
        go_wp2_with (refine load_blk (k := 0) 51 (tlC x) (by rfl) rfl rfl HA5 (by kernel_rfl) (by kernel_rfl) rfl ?_)
        refine (HR.out _).mono ?_
        rintro e w6 ⟨rfl, b6⟩
        have B6 := B5.trans (b6.mono B5.size)
        have F7 : Flt (w6.alloc (.cells #[.int .i64 1, .int .i64 k] 61)) w6.heap.size 1 k := heap_alloc_new w6 _
        have B7 := B6.alloc B6.size (.cells #[.int .i64 1, .int .i64 k] 61)
        go_wp2
        go_ret2
        exact ⟨_, rfl, Or.inr ⟨by decide, _, rfl, F7⟩, B7⟩
    · obtain rfl : k = l.length := by omega
      obtain rfl : m = l.length := by omega
      have q2 : decide ((l.length : Int) < (l.length : Int)) = false := decide_eq_false (by omega)
      obtain ⟨hX, rfl, rfl⟩ : X = tlWs l ++ [0, 0] ∧ e0 = 0 ∧ pl = -1 := by
        rcases hend with ⟨_, r1, r2, r3⟩ | ⟨hk2, _⟩
        · exact ⟨r1, r2, r3⟩
        · omega
      rw [List.take_length] at HBk hsk
      have HX : Hid (tlWs l ++ tlW zTl = X) := by
        show _ = _
        rw [hX]
        rfl
      clear hX hend
      go_wp2_with (refine build_blk (t := 51) (tlC zTl) (by rfl) rfl (by kernel_rfl) ?_)
      refine (put_tl w.heap.size _ zTl _ HBk (by decide) (by decide) (by decide) (by omega) hsw).mono ?_
      rintro e w7 ⟨rfl, HB7, b7, K7⟩
      rw [HX.out] at HB7
      have B7 := Bk.trans b7
      go_wp2_with fail
      refine (Tryd.Builder_String_any w.heap.size w.heap.size _ _ HB7 B7.size).mono ?_
      rintro e w8 ⟨rfl, k8⟩
      go_wp2
      go_ret2
      exact ⟨_, rfl, Or.inl ⟨rfl, rfl, rfl⟩, B7.trans k8⟩

end Go.Proofs.YtcijhmbimbejfaaDoor

namespace Go.Proofs.YtcijhmbimbejfaaDoor
open Go.RowKit
attribute [local go_sem ↓] Go.wp_at_zero Go.wp_at_succ
set_option linter.unusedSimpArgs false
set_option linter.unusedVariables false
set_option maxRecDepth 100000

/-- What a station tells, as bytes. -/
def ldW (x : Ld) : List UInt8 := tlWrite (ldTls x)
theorem ldTls_len (x : Ld) : (ldTls x).length = 3 + x.de.length + x.ho.length + x.sy.length + x.ca.length + x.ma.length + x.og.length := by
  simp only [ldTls, ldHead, List.length_append, kTl_len, List.length_map, List.length_cons, List.length_nil]
theorem okTl_of {k : Int} {t : ByteArray} (h1 : 0 < k) (h2 : k ≤ 127) (h3 : t.size ≤ 511) : okTl ⟨k, t⟩ = true := by
  simp only [okTl, Bool.and_eq_true, decide_eq_true_eq]
  refine ⟨h1, h2, ?_⟩
  omega
theorem kTl_ok {k : Int} {l : List ByteArray} (h1 : 0 < k) (h2 : k ≤ 127) (h : ∀ y ∈ l, okSt y = true) : ∀ y ∈ kTl k l, okTl y = true := by
  intro y hy
  unfold kTl at hy
  obtain ⟨s, hs, rfl⟩ := List.mem_map.1 hy
  have := h s hs
  simp only [okSt, decide_eq_true_eq] at this
  exact okTl_of h1 h2 (by omega)
theorem bysz (l : List UInt8) : (⟨l.toArray⟩ : ByteArray).size = l.length := by simp [ByteArray.size]
theorem ldTls_ok (x : Ld) (hok : okLd x = true) : ∀ y ∈ ldTls x, okTl y = true := by
  obtain ⟨o1, o2, o3, o4, o5, o6, o7, o8, o9⟩ := okLd_all hok
  have m1 := okNm_all o1
  have m2 := okNm_all o2
  intro y hy
  unfold ldTls at hy
  simp only [List.mem_append] at hy
  rcases hy with (((((hy | hy) | hy) | hy) | hy) | hy) | hy
  · simp only [ldHead, List.mem_cons, List.not_mem_nil, or_false] at hy
    rcases hy with rfl | rfl | rfl
    · exact okTl_of (by decide) (by decide) (by rw [bysz, nmW_len]; omega)
    · exact okTl_of (by decide) (by decide) (by rw [bysz, nmW_len]; omega)
    · exact okTl_of (by decide) (by decide) (by rw [bysz, putL_length]; omega)
  · exact kTl_ok (by decide) (by decide) o4.2 y hy
  · exact kTl_ok (by decide) (by decide) o5.2 y hy
  · exact kTl_ok (by decide) (by decide) o6.2 y hy
  · obtain ⟨s, hs, rfl⟩ := List.mem_map.1 hy
    exact okTl_of (by decide) (by decide) (by rw [bysz, cpW_len]; omega)
  · obtain ⟨s, hs, rfl⟩ := List.mem_map.1 hy
    have := okMg_all (o8.2 s hs)
    exact okTl_of (by decide) (by decide) (by rw [bysz, mgW_len]; omega)
  · obtain ⟨s, hs, rfl⟩ := List.mem_map.1 hy
    have := okOg_all (o9.2 s hs)
    exact okTl_of (by decide) (by decide) (by rw [bysz, ogW_len]; omega)
theorem ldTls_le (x : Ld) (hok : okLd x = true) : (ldTls x).length ≤ 47 := by
  obtain ⟨o1, o2, o3, o4, o5, o6, o7, o8, o9⟩ := okLd_all hok
  rw [ldTls_len]
  omega
theorem ldW_le (x : Ld) (hok : okLd x = true) : (ldW x).length ≤ 30000 := by
  have h1 := tlWs_le (ldTls x) (ldTls_ok x hok)
  have h2 := ldTls_le x hok
  unfold ldW tlWrite
  rw [List.length_append]
  show _ + 2 ≤ _
  omega
/-- The error of Write. -/
def ldE (ok : Bool) : Value := if ok then .nilIface else .iface 54 (.int .i64 1)
def ldX (x : Ld) : List UInt8 := if okLd x then ldW x else []

set_option maxHeartbeats 1600000 in
theorem ldWrite_any (x : Ld) (q : LdA) (w : World) (h : LdIn w x q) (hr : rgLd x) :
    Calls Tryd.prog 8 #[.agg (ldC x q)] w fun e w' => e = .returned (.tuple #[.string ⟨(ldX x).toArray⟩, ldE (okLd x)]) ∧ Below w.heap.size w w' := by
  have HA0 := Blk.new w 29 (ldC x q)
  have B0 : Below w.heap.size w (w.alloc (.cells (ldC x q) 29)) := (Below.refl _ _).alloc (Nat.le_refl _) _
  have HR := Lib.hid (fun W (h : LdIn W x q) => ldRight_any x q W h hr)
  cases hok : okLd x with
  | false =>
    rw [hok] at HR
    have hX : ldX x = [] := by unfold ldX; rw [hok]; rfl
    rw [hX]
    clear hX
    go_enter Tryd.func8, Tryd.ntmps8
    go_upto_region 1 with (fail)
    generalize (w.alloc (.cells (ldC x q) 29)) = w0 at *
    go_wp2_with (refine load_blk (k := 0) 29 (ldC x q) (by rfl) rfl rfl HA0 (by kernel_rfl) (by kernel_rfl) rfl ?_)
    refine (HR.out _ (h.below B0)).mono ?_
    rintro e w1 ⟨rfl, b1⟩
    go_wp2
    go_ret2
    exact ⟨rfl, B0.trans (b1.mono B0.size)⟩
  | true =>
    have HX : Hid (ldX x = tlWrite (ldTls x)) := by show _ = _; unfold ldX; rw [hok]; rfl
    rw [HX.out]
    have HRC := Lib.hid (fun W (h : LdIn W x q) => records_any x q hok W h)
    have hle := ldTls_le x hok
    have HTW := Lib.hid (fun a c W (h : TlIn W a (ldTls x)) => tlWrite_any a c (ldTls x) (ldTls x).length (Nat.le_refl _) (by rw [List.take_length]; exact ldTls_ok x hok) (by omega) (tlWrite (ldTls x)) 0 (-1) (Or.inl ⟨rfl, rfl, rfl, rfl⟩) W h)
    rw [hok] at HR
    generalize ldTls x = L at *
    clear HX hle
    go_enter Tryd.func8, Tryd.ntmps8
    go_upto_region 1 with (fail)
    generalize (w.alloc (.cells (ldC x q) 29)) = w0 at *
    go_wp2_with (refine load_blk (k := 0) 29 (ldC x q) (by rfl) rfl rfl HA0 (by kernel_rfl) (by kernel_rfl) rfl ?_)
    refine (HR.out _ (h.below B0)).mono ?_
    rintro e w1 ⟨rfl, b1⟩
    have HA1 := HA0.kept b1
    have B1 := B0.trans (b1.mono B0.size)
    clear HA0 B0 b1
    go_wp2_with (refine load_blk (k := 0) 29 (ldC x q) (by rfl) rfl rfl HA1 (by kernel_rfl) (by kernel_rfl) rfl ?_)
    refine (HRC.out _ (h.below B1)).mono ?_
    rintro e w2 ⟨a, c, rfl, hT, b2⟩
    have B2 := B1.trans (b2.mono B1.size)
    go_wp2_with fail
    refine (HTW.out a c _ hT).mono ?_
    rintro e w3 ⟨er, rfl, hE, b3⟩
    obtain rfl : er = .nilIface := by
      rcases hE with ⟨h1, _, _⟩ | ⟨h1, _⟩
      · exact h1
      · exact absurd rfl h1
    go_wp2
    go_ret2
    exact ⟨rfl, B2.trans (b3.mono B2.size)⟩

end Go.Proofs.YtcijhmbimbejfaaDoor

namespace Go.Proofs.YtcijhmbimbejfaaDoor
open Go.RowKit
attribute [local go_sem ↓] Go.wp_at_zero Go.wp_at_succ
set_option linter.unusedSimpArgs false
set_option linter.unusedVariables false
set_option maxRecDepth 100000

def niC (x : Nat) : Array Value := #[.int .i64 (x : Nat)]
def NiAt (w : World) (b o : Nat) (l : List Nat) : Prop := ∀ j (hj : j < l.length), CellsAt w b (o + j * 1) (niC l[j])
def NiIn (w : World) (a : Option Addr) (l : List Nat) : Prop := l = [] ∨ ∃ b o, a = some ⟨b, o, none⟩ ∧ b < w.heap.size ∧ NiAt w b o l
theorem NiAt.below {w w' : World} {b o D : Nat} {l : List Nat} (h : NiAt w b o l) (hb : Below D w w') (hB : b < D) : NiAt w' b o l := fun j hj => (h j hj).below hb hB
theorem NiIn.below {w w' : World} {a : Option Addr} {l : List Nat} (h : NiIn w a l) (hb : Below w.heap.size w w') : NiIn w' a l := by
  rcases h with h | ⟨b, o, h1, h2, h3⟩
  · exact Or.inl h
  · exact Or.inr ⟨b, o, h1, Nat.lt_of_lt_of_le h2 hb.size, fun j hj => (h3 j hj).below hb h2⟩
theorem NiIn.drew {w : World} {a : Option Addr} {l : List Nat} (h : NiIn w a l) : NiIn w.drew a l := h
theorem NiIn.at {w : World} {a : Option Addr} {l : List Nat} (h : NiIn w a l) {k : Nat} (hk : k < l.length) : ∃ b o, a = some ⟨b, o, none⟩ ∧ b < w.heap.size ∧ NiAt w b o l := by
  rcases h with rfl | h
  · simp at hk
  · exact h
/-- A list that lay somewhere ahead lies there still. -/
theorem NiIn.late {w0 w w' : World} {a : Option Addr} {l : List Nat} (h : NiIn w a l) (h0 : NiIn w0 a l) (hb : Below w0.heap.size w w') : NiIn w' a l := by
  rcases h with h | ⟨b, o, e1, e2, e3⟩
  · exact Or.inl h
  · rcases h0 with h0 | ⟨b0, o0, f1, f2, f3⟩
    · exact Or.inl h0
    · rw [e1] at f1
      cases f1
      exact Or.inr ⟨b, o, e1, Nat.lt_of_lt_of_le e2 hb.size, e3.below hb f2⟩
/-- The cells of numbers, one behind the other. -/
def niR (l : List Nat) : List Value := l.flatMap fun v => (niC v).toList
theorem niR_cons (v : Nat) (l : List Nat) : niR (v :: l) = (niC v).toList ++ niR l := by simp [niR]
theorem niR_append (l m : List Nat) : niR (l ++ m) = niR l ++ niR m := by simp [niR]
theorem niR_one (v : Nat) : niR [v] = (niC v).toList := by simp [niR]
theorem niC_len (v : Nat) : (niC v).toList.length = 1 := rfl
theorem niR_len (l : List Nat) : (niR l).length = l.length * 1 := by
  induction l with
  | nil => rfl
  | cons v l ih => rw [niR_cons, List.length_append, ih, niC_len, List.length_cons]; omega
theorem niR_get : ∀ (l : List Nat) (j : Nat) (hj : j < l.length) (k : Nat), k < 1 → (niR l)[j * 1 + k]? = (niC l[j])[k]?
  | [], j, hj, _, _ => by simp at hj
  | v :: l, 0, _, k, hk => by
    rw [niR_cons, List.getElem?_append_left (by rw [niC_len]; omega)]
    simp
  | v :: l, j + 1, hj, k, hk => by
    have ih := niR_get l j (by simpa using hj) k hk
    rw [niR_cons, List.getElem?_append_right (by rw [niC_len]; omega), niC_len, show (j + 1) * 1 + k - 1 = j * 1 + k by omega, ih]
    rfl
theorem niC_cells (v : Nat) : ∀ u ∈ (niC v).toList, u.oneCell' = true := by
  intro u hu
  simp only [niC, List.mem_cons, List.not_mem_nil, or_false] at hu
  rcases hu with rfl <;> rfl
theorem niR_cells (l : List Nat) : ∀ u ∈ niR l, u.oneCell' = true := by
  intro u hu
  unfold niR at hu
  obtain ⟨v, _, hv⟩ := List.mem_flatMap.1 hu
  exact niC_cells v u hv
theorem niAt_news {w : World} {b o : Nat} {l : List Nat} (h : NiAt w b o l) : ∀ (q : Nat) u, (niR l)[q]? = some u → w.cell? ((⟨b, o, none⟩ : Addr).add q) = some u := by
  intro q u hu
  have hq : q < l.length * 1 := by
    rw [← niR_len]
    exact (List.getElem?_eq_some_iff.1 hu).1
  have hj : q / 1 < l.length := by omega
  have e : q = q / 1 * 1 + q % 1 := by omega
  rw [e, niR_get l (q / 1) hj (q % 1) (by omega)] at hu
  have := h (q / 1) hj (q % 1) u hu
  rw [e, Addr.add_lit, ← Nat.add_assoc]
  exact this
theorem ni_own {w : World} {base g cap n : Nat} {T : TypeId} {l : List Nat} (hn : n = l.length) (h : w.ownsRow base T 1 (.slice (some ⟨g, 0, none⟩) n cap) n (niR l)) : NiAt w g 0 l := by
  subst hn
  intro j hj k c hc
  have hk : k < 1 := (Array.getElem?_eq_some_iff.1 hc).1
  have h2 := h.cellAt (j * 1 + k) (by omega)
  rw [niR_get l j hj k hk, hc] at h2
  rw [Nat.zero_add]
  exact h2
/-- A row of numbers of one's own: none, or a block from base on. -/
def OwnNat (w : World) (base : Nat) (v : Value) (l : List Nat) : Prop := (l = [] ∧ v = .slice none 0 0) ∨ (l ≠ [] ∧ ∃ g cap, v = .slice (some ⟨g, 0, none⟩) l.length cap ∧ w.ownsRow base 3 1 v l.length (niR l))
theorem OwnNat.nil (w : World) (base : Nat) : OwnNat w base (.slice none 0 0) [] := Or.inl ⟨rfl, rfl⟩
theorem OwnNat.kept {w w' : World} {base : Nat} {v : Value} {l : List Nat} (h : OwnNat w base v l) (hb : Below w.heap.size w w') : OwnNat w' base v l := by
  rcases h with h | ⟨h1, g, cap, rfl, h2⟩
  · exact Or.inl h
  · exact Or.inr ⟨h1, g, cap, rfl, h2.kept (show w.grownBy w' none from ⟨hb.os, hb.tape, hb.output, hb.size, fun k hk _ => hb.block k hk⟩) (Or.inr (by simp [Value.ownBlock]))⟩
theorem OwnNat.alloc {w : World} {base : Nat} {v : Value} {l : List Nat} (h : OwnNat w base v l) (o : Obj) : OwnNat (w.alloc o) base v l := h.kept ((Below.refl _ _).alloc (Nat.le_refl _) o)
theorem OwnNat.inL {w : World} {base : Nat} {v : Value} {l : List Nat} (h : OwnNat w base v l) : ∃ a c, v = .slice a l.length c ∧ NiIn w a l := by
  rcases h with ⟨rfl, rfl⟩ | ⟨h1, g, cap, rfl, h2⟩
  · exact ⟨none, 0, rfl, Or.inl rfl⟩
  · exact ⟨some ⟨g, 0, none⟩, cap, rfl, Or.inr ⟨g, 0, rfl, (h2.lt g rfl).2, ni_own rfl h2⟩⟩
theorem niR_snoc (l : List Nat) (x : Nat) : niR (l ++ [x]) = niR l ++ (niC x).toList := by rw [niR_append, niR_one]
/-- Another block is written. -/
theorem OwnNat.grown {w w' : World} {base : Nat} {v : Value} {l : List Nat} {row : Option Nat} (h : OwnNat w base v l) (hg : w.grownBy w' row) (hr : ∀ g, row = some g → g < base) : OwnNat w' base v l := by
  rcases h with h | ⟨h1, g, cap, rfl, h2⟩
  · exact Or.inl h
  · refine Or.inr ⟨h1, g, cap, rfl, h2.kept hg ?_⟩
    right
    intro e
    have h3 := (h2.lt g rfl).1
    have := hr g (by rw [← e]; simp [Value.ownBlock])
    omega
theorem OwnNat.mono {w : World} {base B : Nat} {v : Value} {l : List Nat} (h : OwnNat w base v l) (hB : B ≤ base) : OwnNat w B v l := by
  rcases h with h | ⟨h1, g, cap, rfl, h2, h3⟩
  · exact Or.inl h
  · refine Or.inr ⟨h1, g, cap, rfl, h2, ?_⟩
    rcases h3 with h3 | ⟨g', cap', cur, e1, e2, e3⟩
    · exact Or.inl h3
    · exact Or.inr ⟨g', cap', cur, e1, Nat.le_trans hB e2, e3⟩
/-- Its block. -/
theorem OwnNat.blk {w : World} {base : Nat} {v : Value} {l : List Nat} (h : OwnNat w base v l) : v.ownBlock = none ∨ ∃ g C, v.ownBlock = some g ∧ base ≤ g ∧ Blk w g 3 C := by
  rcases h with ⟨rfl, rfl⟩ | ⟨h1, g, cap, rfl, h2⟩
  · exact Or.inl rfl
  · rcases h2.2 with ⟨h3, -⟩ | ⟨g1, cap1, cur1, e1, e2, e3, -⟩
    · cases h3
    · cases e1
      exact Or.inr ⟨g, cur1, rfl, e2, e3⟩
/-- A block of another type is written. -/
theorem OwnNat.other {w w' : World} {base B : Nat} {v : Value} {l : List Nat} {T : TypeId} {C : Array Value} (h : OwnNat w base v l) (hB : Blk w B T C) (hT : T ≠ 3) (hg : w.grownBy w' (some B)) : OwnNat w' base v l := by
  have hb := h.blk
  rcases h with h | ⟨h1, g, cap, rfl, h2⟩
  · exact Or.inl h
  · refine Or.inr ⟨h1, g, cap, rfl, h2.kept hg ?_⟩
    right
    intro e
    rcases hb with hb | ⟨g1, C1, e1, e2, e3⟩
    · rw [hb] at e; cases e
    · rw [e1] at e
      cases e
      have h3 : w.heap[B]? = some (.cells C T (0, 0)) := hB
      have h4 : w.heap[B]? = some (.cells C1 3 (0, 0)) := e3
      rw [h3] at h4
      injection h4 with h4
      injection h4 with _ h5
      exact hT h5
theorem Tryd.niParts : (Tryd.prog.info? 3).map (fun i => (i.zero, i.size, i.bytes)) = some (some (.int .i64 0), 1, 8) := by kernel_rfl
theorem fill_ni (v : Nat) : Instr.fill (fun i => some (i * 1, 1)) ((Array.range (1 * 1)).map ((Value.int .i64 0).cells[· % (Value.int .i64 0).cells.size]!)) [(0, .int .i64 (v : Nat))] = some (niC v) := by kernel_rfl
/-- One comes behind. -/
theorem append_ni {o : Oper} {a : Act} {w : World} {K : Act → World → Prop} {Q : Exit → Act → World → Prop} {s x : Operand} {base G : Nat} {v : Value} {l : List Nat} (y : Nat)
    (ho : o.op = .call { callee := .builtin .append, args := #[s, x], argTypes := #[46, 46] }) (hs : a.eval s = v) (hx : a.eval x = .slice (some ⟨G, 0, none⟩) 1 1)
    (hO : OwnNat w base v l) (hG : Blk w G 3 (niC y)) (hlen : l.length ≤ 100000) (hbase : base ≤ w.heap.size)
    (h : ∀ v' w', OwnNat w' base v' (l ++ [y]) → Below base w w' → w.grownBy w' v.ownBlock → K (a.put o.dst v') w') : Oper.wp Tryd.prog o a w K Q := by
  obtain ⟨i0, hi, hz0, hz1, hz2⟩ := info_parts Tryd.niParts
  have hnews : ∀ (j : Nat) u, (niC y).toList[j]? = some u → w.cell? ((⟨G, 0, none⟩ : Addr).add j) = some u := fun j u hu => by
    rw [Addr.add_lit, Nat.zero_add]
    exact hG.cv j u (by simpa using hu)
  rcases hO with ⟨rfl, rfl⟩ | ⟨hne, g, cap, rfl, hown⟩
  · refine wp_append_lies w s x _ ho base 3 i0 (.int .i64 0) 1 8 Tryd.underlying46 hi hz0 hz1 hz2 rfl (by decide) (.slice none 0 0) 0 [] hs (World.ownsRow_nil w base _ 1) ⟨G, 0, none⟩ 1 1 (niC y).toList hx rfl hnews (niC_cells y) (by decide) (by unfold maxLen; omega) (by decide) hbase _ rfl ?_
    intro g cap w' hown hgrow hat hlt
    refine h _ _ (Or.inr ⟨by simp, g, cap, rfl, ?_⟩) ((Below.refl base w).grown hgrow hbase (fun q hq => by simp [Value.ownBlock] at hq)) hgrow
    rw [List.nil_append, niR_one]
    exact hown
  · have hown' := hown
    refine wp_append_lies w s x _ ho base 3 i0 (.int .i64 0) 1 8 Tryd.underlying46 hi hz0 hz1 hz2 rfl (by decide) (.slice (some ⟨g, 0, none⟩) l.length cap) l.length (niR l) hs hown ⟨G, 0, none⟩ 1 1 (niC y).toList hx rfl hnews (niC_cells y) (by decide) (by unfold maxLen; omega) (by omega) hbase _ rfl ?_
    intro g' cap' w' hown2 hgrow hat hlt
    obtain ⟨cur, hB, hge⟩ : ∃ cur, Blk w g 3 cur ∧ base ≤ g := by
      rcases hown'.2 with ⟨h1, -⟩ | ⟨g1, cap1, cur1, e1, e2, e3, -⟩
      · cases h1
      · cases e1
        exact ⟨cur1, e3, e2⟩
    refine h _ _ (Or.inr ⟨by simp, g', cap', by rw [List.length_append]; rfl, ?_⟩) ((Below.refl base w).grown hgrow hbase (fun q hq => by cases hq; exact hge)) hgrow
    rw [niR_snoc, List.length_append]
    exact hown2
/-- Of one alone. -/
theorem slice_ni {o : Oper} {a : Act} {w : World} {K : Act → World → Prop} {Q : Exit → Act → World → Prop} {x : Operand} (y : Nat) (ho : o.op = .buildSlice 46 1 #[(0, x)]) (hx : a.eval x = .int .i64 (y : Nat))
    (h : ∀ w1, Blk w1 w.heap.size 3 (niC y) → Below w.heap.size w w1 → w.heap.size < w1.heap.size → K (a.put o.dst (.slice (some ⟨w.heap.size, 0, none⟩) 1 1)) w1) : Oper.wp Tryd.prog o a w K Q := by
  obtain ⟨i0, hi, hz0, hz1, hz2⟩ := info_parts Tryd.niParts
  refine wp_buildSlice 46 3 1 _ ho (niC y) i0 (.int .i64 0) Tryd.underlying46 hi hz0 (by rw [hz1]; decide) (by rw [hz1]; decide) (by rw [hz1]; simp only [List.map_toArray, List.map_cons, List.map_nil, hx]; exact fill_ni y) (h _ (Blk.new w _ _) ((Below.refl _ _).alloc (Nat.le_refl _) _) (Blk.new w _ _).lt)
theorem sliceL_ni {ops : Array Oper} {rest : List Oper} {o : Oper} {a : Act} {w : World} {Q : Exit → Act → World → Prop} {x : Operand} (y : Nat) (hg : o.guard = none) (ho : o.op = .buildSlice 46 1 #[(0, x)]) (hx : a.eval x = .int .i64 (y : Nat))
    (h : ∀ w1, Blk w1 w.heap.size 3 (niC y) → Below w.heap.size w w1 → w.heap.size < w1.heap.size → wpList Tryd.prog ops Q rest (a.put o.dst (.slice (some ⟨w.heap.size, 0, none⟩) 1 1)) w1) : wpList Tryd.prog ops Q (o :: rest) a w :=
  wpList_plain hg fun _ hK => slice_ni y ho hx fun w1 hB hb hs => hK _ _ (h w1 hB hb hs)
theorem appendL_ni {ops : Array Oper} {rest : List Oper} {o : Oper} {a : Act} {w : World} {Q : Exit → Act → World → Prop} {s x : Operand} {base G : Nat} {v : Value} {l : List Nat} (y : Nat) (hg : o.guard = none)
    (ho : o.op = .call { callee := .builtin .append, args := #[s, x], argTypes := #[46, 46] }) (hs : a.eval s = v) (hx : a.eval x = .slice (some ⟨G, 0, none⟩) 1 1)
    (hO : OwnNat w base v l) (hG : Blk w G 3 (niC y)) (hlen : l.length ≤ 100000) (hbase : base ≤ w.heap.size)
    (h : ∀ v' w', OwnNat w' base v' (l ++ [y]) → Below base w w' → w.grownBy w' v.ownBlock → wpList Tryd.prog ops Q rest (a.put o.dst v') w') : wpList Tryd.prog ops Q (o :: rest) a w :=
  wpList_plain hg fun _ hK => append_ni y ho hs hx hO hG hlen hbase fun v' w' h1 h2 h3 => hK _ _ (h v' w' h1 h2 h3)

end Go.Proofs.YtcijhmbimbejfaaDoor

namespace Go.Proofs.YtcijhmbimbejfaaDoor
open Go.RowKit

/-- What 'pick' comes to. -/
theorem pick_val (a : Int) (n : Nat) (h1 : 1 ≤ n) (hn : n ≤ 281474976710656) : ∃ r : Nat, wrap64 ((IntKind.u64.wrap a).tmod (n : Int)) = (r : Int) ∧ r < n := by
  have hw := wrap_u64_nonneg a
  have e : (IntKind.u64.wrap a).tmod (n : Int) = IntKind.u64.wrap a % (n : Int) := Int.tmod_eq_emod_of_nonneg hw
  have h0 := Int.emod_nonneg (IntKind.u64.wrap a) (show (n : Int) ≠ 0 by omega)
  have h2 := Int.emod_lt_of_pos (IntKind.u64.wrap a) (show (0 : Int) < n by omega)
  rw [e]
  generalize IntKind.u64.wrap a % (n : Int) = z at h0 h2
  refine ⟨z.toNat, ?_, by omega⟩
  unfold wrap64
  omega

theorem pick_any (a : Int) (n : Nat) (w : World) (h1 : 1 ≤ n) (hn : n ≤ 281474976710656) :
    Calls Tryd.prog 16 #[.int .i64 a, .int .i64 n] w fun e w' => ∃ r : Nat, e = .returned (.int .i64 r) ∧ r < n ∧ w = w' := by
  obtain ⟨r, hr, hlt⟩ := pick_val a n h1 hn
  have HR := Lib.hid hr
  clear hr
  go_enter Tryd.func16, Tryd.ntmps16
  go_wp2
  go_ret
  exact ⟨r, by rw [← HR.out]; rfl, hlt, rfl⟩

theorem grown_below {B g : Nat} {a w w' : World} (h : Below B a w) (hg : w.grownBy w' (some g)) (hB : B ≤ w.heap.size) (hr : B ≤ g) : Below B a w' :=
  h.grown hg hB fun k e => by cases e; exact hr



end Go.Proofs.YtcijhmbimbejfaaDoor

namespace Go.Proofs.YtcijhmbimbejfaaDoor
open Go.RowKit

/-- How many noughts stand ahead. -/
def lead (l : List UInt8) : Nat := l.length - (Lib.trimLeftB l 0).length

theorem trim_le (l : List UInt8) : (Lib.trimLeftB l 0).length ≤ l.length := by
  induction l with
  | nil => exact Nat.le_refl _
  | cons b l ih =>
    show ((b :: l).dropWhile (· == 0)).length ≤ _
    have ih' : (l.dropWhile (· == 0)).length ≤ l.length := ih
    cases hb : (b == 0) with
    | true => simp only [List.dropWhile, hb, List.length_cons]; omega
    | false => simp only [List.dropWhile, hb, List.length_cons]; omega

theorem trim_drop (l : List UInt8) : Lib.trimLeftB l 0 = l.drop (lead l) := by
  induction l with
  | nil => rfl
  | cons b l ih =>
    have hl := trim_le l
    cases hb : (b == 0) with
    | true =>
      have e : Lib.trimLeftB (b :: l) 0 = Lib.trimLeftB l 0 := by
        show (b :: l).dropWhile (· == 0) = l.dropWhile (· == 0)
        simp only [List.dropWhile, hb]
      have e2 : lead (b :: l) = lead l + 1 := by unfold lead; rw [e, List.length_cons]; omega
      rw [e, e2, List.drop_succ_cons]
      exact ih
    | false =>
      have e : Lib.trimLeftB (b :: l) 0 = b :: l := by
        show (b :: l).dropWhile (· == 0) = b :: l
        simp only [List.dropWhile, hb]
      have e2 : lead (b :: l) = 0 := by unfold lead; rw [e]; omega
      rw [e, e2, List.drop_zero]

set_option maxHeartbeats 800000 in
/-- Zeros, nothing noted yet, only noughts are left. -/
theorem zeros_clean {g : Nat} {s : ByteArray} {a : Int} (w : World) (h : Rd w g s a none) (ha : 0 ≤ a) (hb : a + s.size ≤ 281474976710656) (hz : Lib.trimLeftB s.data.toList 0 = []) :
    Calls Tryd.prog 40 #[.pointer (some ⟨g, 0, none⟩)] w fun e w' => e = .returned (.bool true) ∧
      Rd w' g (s.extract s.size s.size) (a + s.size) none ∧ w.grownBy w' (some g) := by
  have h0 := h.c0
  go_enter Tryd.func40, Tryd.ntmps40
  go_wp2_with fail
  refine (Tryd.strings_TrimLeft_one s 0 (by decide) _).mono ?_
  rintro e w' ⟨rfl, rfl⟩
  rw [hz]
  go_wp2_with fail
  refine (bytes_read s.size _ h (Nat.le_refl _) ha hb).mono ?_
  rintro e w2 ⟨rfl, hr, hg⟩
  have h2 := hr.c2
  go_wp2
  go_ret
  exact ⟨rfl, hr, hg⟩

set_option maxHeartbeats 800000 in
/-- Zeros, nothing noted yet, something else is left, too. -/
theorem zeros_spoilt {g : Nat} {s : ByteArray} {a : Int} (w : World) (h : Rd w g s a none) (ha : 0 ≤ a) (hb : a + s.size ≤ 281474976710656) (hz : Lib.trimLeftB s.data.toList 0 ≠ []) :
    Calls Tryd.prog 40 #[.pointer (some ⟨g, 0, none⟩)] w fun e w' => e = .returned (.bool false) ∧
      ∃ p, w.heap.size ≤ p ∧ Rd w' g (s.extract (lead s.data.toList) s.size) (a + lead s.data.toList) (some ⟨p, 0, none⟩) ∧ Flt w' p 15 (a + lead s.data.toList) ∧ w.grownBy w' (some g) := by
  have h0 := h.c0
  have hle := trim_le s.data.toList
  have hsz : s.data.toList.length = s.size := by simp
  have hld : lead s.data.toList = s.size - (Lib.trimLeftB s.data.toList 0).length := by unfold lead; rw [hsz]
  have hne : (Lib.trimLeftB s.data.toList 0).isEmpty = false := by
    cases hq : Lib.trimLeftB s.data.toList 0 with
    | nil => exact absurd hq hz
    | cons b r => rfl
  rw [hsz] at hle
  have HD := Lib.hid hld
  have HE := Lib.hid hne
  clear hld hsz hne hz
  go_enter Tryd.func40, Tryd.ntmps40
  go_wp2_with fail
  refine (Tryd.strings_TrimLeft_one s 0 (by decide) _).mono ?_
  rintro e w' ⟨rfl, hw⟩
  subst hw
  generalize Lib.trimLeftB s.data.toList 0 = t at *
  obtain ⟨k, hk⟩ : ∃ k, k = lead s.data.toList := ⟨_, rfl⟩
  rw [← hk] at HD
  have HK := Lib.hid hk
  clear hk
  go_wp2_with fail
  rw [show (s.size : Int) - t.length = ((k : Nat) : Int) by rw [HD.out]; omega]
  refine (bytes_read k _ h (by rw [HD.out]; omega) ha hb).mono ?_
  rintro e w2 ⟨rfl, hr, hg⟩
  have h1 := hr.c1
  have h2 := HE.out
  go_wp2_with fail
  refine (fail_first _ _ _ hr).mono ?_
  rintro e w3 ⟨rfl, hr3, hf3, hg3⟩
  have h3 := hr3.c2
  have hg' := grownBy_trans hg hg3
  have hs := hg.size
  go_wp2
  go_ret
  rw [← HK.out]
  exact ⟨rfl, _, hs, hr3, hf3, hg'⟩

/-- Zeros, something noted already. -/
theorem zeros_noted {g : Nat} {s : ByteArray} {a : Int} {p : Addr} (w : World) (h : Rd w g s a (some p)) :
    Calls Tryd.prog 40 #[.pointer (some ⟨g, 0, none⟩)] w fun e w' => e = .returned (.bool false) ∧ w = w' := by
  have h0 := h.c0
  have h1 := h.c1
  have h2 := h.c2
  go_enter Tryd.func40, Tryd.ntmps40
  go_wp2_with fail
  refine (Tryd.strings_TrimLeft_one s 0 (by decide) _).mono ?_
  rintro e w' ⟨rfl, hw⟩
  subst hw
  go_wp2_with fail
  refine (bytes_noted _ _ h).mono ?_
  rintro e w2 ⟨rfl, rfl⟩
  cases hq : Lib.trimLeftB s.data.toList 0 with
  | nil =>
    go_wp2
    go_ret
    exact ⟨rfl, rfl⟩
  | cons b r =>
    go_wp2_with fail
    refine (fail_noted _ _ _ h).mono ?_
    rintro e w2 ⟨rfl, rfl⟩
    go_wp2
    go_ret
    exact ⟨rfl, rfl⟩

end Go.Proofs.YtcijhmbimbejfaaDoor

namespace Go.Proofs.YtcijhmbimbejfaaDoor
open Go.RowKit
set_option linter.unusedVariables false

/-- Only noughts are left. -/
def zrR (s : List UInt8) (off : Nat) (st : RSt) : Bool × RSt :=
  if st.2.1 ≠ 0 then (false, st)
  else if st.1 + lead (s.drop st.1) = s.length then (true, s.length, st.2)
  else (false, st.1 + lead (s.drop st.1), 15, (off : Int) + (st.1 + lead (s.drop st.1) : Nat))

theorem leadT_le (l : List UInt8) : lead l ≤ l.length := by unfold lead; omega
theorem zrR_le (s : List UInt8) (off : Nat) (st : RSt) (h : st.1 ≤ s.length) : (zrR s off st).2.1 ≤ s.length := by
  have h3 := leadT_le (s.drop st.1)
  rw [List.length_drop] at h3
  unfold zrR
  split
  · exact h
  · split
    · exact Nat.le_refl _
    · show st.1 + lead (s.drop st.1) ≤ s.length
      omega

theorem zrR_bad (s : List UInt8) (off : Nat) (st : RSt) (h : st.2.1 ≠ 0) : zrR s off st = (false, st) := by unfold zrR; rw [if_pos h]
theorem zrR_no (s : List UInt8) (off : Nat) (st : RSt) (h : (zrR s off st).1 = false) : (zrR s off st).2.2.1 ≠ 0 := by
  unfold zrR at h ⊢
  split
  · assumption
  · rename_i h1
    rw [if_neg h1] at h
    split
    · rename_i h2
      rw [if_pos h2] at h
      cases h
    · exact (show (15 : Int) ≠ 0 by decide)
theorem zrR_yes (s : List UInt8) (off : Nat) (st : RSt) (h : (zrR s off st).1 = true) : st.2.1 = 0 ∧ st.1 + lead (s.drop st.1) = s.length ∧ (zrR s off st).2 = (s.length, st.2) := by
  unfold zrR at h ⊢
  by_cases h1 : st.2.1 ≠ 0
  · rw [if_pos h1] at h; cases h
  · rw [if_neg h1] at h ⊢
    by_cases h2 : st.1 + lead (s.drop st.1) = s.length
    · rw [if_pos h2]
      exact ⟨by simpa using h1, h2, rfl⟩
    · rw [if_neg h2] at h; cases h
theorem zeros_t {g : Nat} {s : ByteArray} {off : Nat} (st : RSt) (w : World) (h : RdT w g s off st) (hp : st.1 ≤ s.size) (hb : off + s.size ≤ 281474976710656) :
    Calls Tryd.prog 40 #[.pointer (some ⟨g, 0, none⟩)] w fun e w' => e = .returned (.bool (zrR s.data.toList off st).1) ∧
      RdT w' g s off (zrR s.data.toList off st).2 ∧ w.grownBy w' (some g) := by
  obtain ⟨p, e0, pl⟩ := st
  obtain ⟨f, hr, hf⟩ := h
  have hz := restT_size s p hp
  have hLs : s.data.toList.length = s.size := by simp
  have hp' : p ≤ s.size := hp
  have hdl : (s.data.toList.drop p).length = s.size - p := by rw [List.length_drop, hLs]
  have htl : (s.extract p s.size).data.toList = s.data.toList.drop p := Lib.extract_to_end _ _
  rcases hf with ⟨h0, rfl⟩ | ⟨h0, q, rfl, hq⟩
  · have h0' : e0 = 0 := h0
    subst h0'
    by_cases hc : Lib.trimLeftB (s.data.toList.drop p) 0 = []
    · have hl : lead (s.data.toList.drop p) = s.size - p := by unfold lead; rw [hc, hdl]; simp
      have HS : zrR s.data.toList off (p, 0, pl) = (true, s.size, 0, pl) := by
        simp only [zrR, hl]
        rw [if_neg (by decide), if_pos (by rw [hLs]; omega), hLs]
      rw [HS]
      refine (zeros_clean w hr (by show (0 : Int) ≤ (off : Int) + (p : Int); omega) (by rw [hz]; show (off : Int) + (p : Int) + _ ≤ _; omega) (by rw [htl]; exact hc)).mono ?_
      rintro e w' ⟨rfl, hr', hg⟩
      refine ⟨rfl, ⟨none, ?_, Or.inl ⟨rfl, rfl⟩⟩, hg⟩
      have e1 := extract_extract s p (s.size - p)
      have e2 : (off : Int) + (s.size : Int) = (off : Int) + (p : Int) + ((s.extract p s.size).size : Int) := by rw [hz]; omega
      have e3 : (s.extract p s.size).extract (s.extract p s.size).size (s.extract p s.size).size = s.extract s.size s.size := by rw [show p + (s.size - p) = s.size by omega, ← hz] at e1; exact e1
      show Rd w' g (s.extract s.size s.size) ((off : Int) + (s.size : Int)) none
      rw [e2, ← e3]
      exact hr'
    · have hne : ¬ p + lead (s.data.toList.drop p) = s.data.toList.length := by
        intro q
        have hle := trim_le (s.data.toList.drop p)
        have : (Lib.trimLeftB (s.data.toList.drop p) 0).length = 0 := by unfold lead at q; rw [hdl] at q hle; rw [hLs] at q; omega
        exact hc (List.eq_nil_of_length_eq_zero this)
      have HS : zrR s.data.toList off (p, 0, pl) = (false, p + lead (s.data.toList.drop p), 15, (off : Int) + (p + lead (s.data.toList.drop p) : Nat)) := by
        simp only [zrR]
        rw [if_neg (by decide), if_neg hne]
      rw [HS]
      refine (zeros_spoilt w hr (by show (0 : Int) ≤ (off : Int) + (p : Int); omega) (by rw [hz]; show (off : Int) + (p : Int) + _ ≤ _; omega) (by rw [htl]; exact hc)).mono ?_
      rintro e w' ⟨rfl, q, hq, hr', hf', hg⟩
      rw [htl] at hr' hf'
      have e2 : (off : Int) + ((p + lead (s.data.toList.drop p) : Nat) : Int) = (off : Int) + (p : Int) + (lead (s.data.toList.drop p) : Int) := by omega
      refine ⟨rfl, ⟨some ⟨q, 0, none⟩, ?_, Or.inr ⟨(show (15 : Int) ≠ 0 by decide), q, rfl, ?_⟩⟩, hg⟩
      · have e1 := extract_extract s p (lead (s.data.toList.drop p))
        show Rd w' g (s.extract (p + lead (s.data.toList.drop p)) s.size) ((off : Int) + ((p + lead (s.data.toList.drop p) : Nat) : Int)) _
        rw [e2, ← e1]
        exact hr'
      · show Flt w' q 15 ((off : Int) + ((p + lead (s.data.toList.drop p) : Nat) : Int))
        rw [e2]
        exact hf'
  · have h0' : e0 ≠ 0 := h0
    have HS : zrR s.data.toList off (p, e0, pl) = (false, p, e0, pl) := by simp [zrR, h0']
    rw [HS]
    refine (zeros_noted w hr).mono ?_
    rintro e w' ⟨rfl, rfl⟩
    exact ⟨rfl, ⟨_, hr, Or.inr ⟨h0, q, rfl, hq⟩⟩, World.grownBy.refl _ _⟩


end Go.Proofs.YtcijhmbimbejfaaDoor

namespace Go.Proofs.YtcijhmbimbejfaaDoor
open Go.RowKit

theorem lead_cons0 (l : List UInt8) : lead (0 :: l) = lead l + 1 := by
  have hl := trim_le l
  have e : Lib.trimLeftB (0 :: l) 0 = Lib.trimLeftB l 0 := by
    show (0 :: l).dropWhile (· == 0) = l.dropWhile (· == 0)
    simp [List.dropWhile]
  unfold lead
  rw [e, List.length_cons]
  omega
theorem lead_cons1 (b : UInt8) (l : List UInt8) (h : b ≠ 0) : lead (b :: l) = 0 := by
  have hb : (b == 0) = false := by simp [h]
  have e : Lib.trimLeftB (b :: l) 0 = b :: l := by
    show (b :: l).dropWhile (· == 0) = b :: l
    simp only [List.dropWhile, hb]
  unfold lead
  rw [e]
  omega
theorem lead_spec (l : List UInt8) : (∀ (j : Nat) b, j < lead l → l[j]? = some b → b = 0) ∧ (∀ b, l[lead l]? = some b → b ≠ 0) := by
  induction l with
  | nil => exact ⟨fun j b hj => by simp [lead, Lib.trimLeftB] at hj, fun b hb => by simp at hb⟩
  | cons x l ih =>
    by_cases hx : x = 0
    · subst hx
      rw [lead_cons0]
      refine ⟨fun j b hj hb => ?_, fun b hb => ?_⟩
      · cases j with
        | zero => simpa using hb.symm
        | succ j => exact ih.1 j b (by omega) (by simpa using hb)
      · exact ih.2 b (by simpa using hb)
    · rw [lead_cons1 x l hx]
      exact ⟨fun j b hj => by omega, fun b hb => by simp at hb; rw [← hb]; exact hx⟩

/-- Behind p only noughts, or another byte at m. -/
theorem zrR_ways (s : ByteArray) (p : Nat) (pl : Int) (hp : p ≤ s.size) :
    ((∀ (j : Nat) b, p ≤ j → s.data.toList[j]? = some b → b = 0) ∧ zrR s.data.toList 0 (p, 0, pl) = (true, s.data.toList.length, 0, pl)) ∨
    (∃ m, ∃ hm : m < s.size, p ≤ m ∧ (∀ (j : Nat) b, p ≤ j → j < m → s.data.toList[j]? = some b → b = 0) ∧ s[m] ≠ 0 ∧ zrR s.data.toList 0 (p, 0, pl) = (false, m, 15, (m : Int))) := by
  obtain ⟨h1, h2⟩ := lead_spec (s.data.toList.drop p)
  have hL : s.data.toList.length = s.size := by simp
  have hle := leadT_le (s.data.toList.drop p)
  rw [List.length_drop, hL] at hle
  by_cases hc : p + lead (s.data.toList.drop p) = s.data.toList.length
  · refine Or.inl ⟨fun j b hj hb => ?_, ?_⟩
    · have hjl : j < s.data.toList.length := (List.getElem?_eq_some_iff.1 hb).1
      exact h1 (j - p) b (by omega) (by rw [List.getElem?_drop, show p + (j - p) = j by omega]; exact hb)
    · simp only [zrR]
      rw [if_neg (by decide), if_pos hc]
  · have hm : p + lead (s.data.toList.drop p) < s.size := by omega
    refine Or.inr ⟨p + lead (s.data.toList.drop p), hm, by omega, fun j b hj hj2 hb => ?_, ?_, ?_⟩
    · exact h1 (j - p) b (by omega) (by rw [List.getElem?_drop, show p + (j - p) = j by omega]; exact hb)
    · exact h2 _ (by rw [List.getElem?_drop, Array.getElem?_toList]; exact Array.getElem?_eq_getElem hm)
    · simp only [zrR]
      rw [if_neg (by decide), if_neg hc]
      simp

end Go.Proofs.YtcijhmbimbejfaaDoor

namespace Go.Proofs.YtcijhmbimbejfaaDoor
set_option linter.unusedVariables false

inductive TlR where
  | bad (e : Int) (p : Nat)
  | ok (l : List Tl) (a : List Nat) (e : Nat)
def hdN (s : List UInt8) (p : Nat) : Nat := beN ((s.drop p).take 2)
def tlAt (s : List UInt8) (p : Nat) : Tl := ⟨(hdN s p / 512 : Nat), ⟨((s.drop (p + 2)).take (hdN s p % 512)).toArray⟩⟩
def rdTl (s : List UInt8) : Nat → Nat → List Tl → List Nat → TlR
  | 0, p, _, _ => .bad 7 p
  | f + 1, p, l, a =>
    if s.length < p + 2 then .bad 7 p
    else if hdN s p < 512 then
      if hdN s p ≠ 0 then .bad 3 p
      else if p + 2 + lead (s.drop (p + 2)) = s.length then .ok l a p
      else .bad 15 (p + 2 + lead (s.drop (p + 2)))
    else if s.length < p + 2 + hdN s p % 512 then .bad 7 (p + 2)
    else rdTl s f (p + 2 + hdN s p % 512) (l ++ [tlAt s p]) (a ++ [p])
def rdAll (s : List UInt8) : TlR := rdTl s (s.length + 1) 0 [] []
theorem hdN_lt (s : List UInt8) (p : Nat) : hdN s p < 65536 := by
  unfold hdN
  have h := beN_lt ((s.drop p).take 2)
  have h2 : ((s.drop p).take 2).length ≤ 2 := by rw [List.length_take]; omega
  have h3 : 256 ^ ((s.drop p).take 2).length ≤ 256 ^ 2 := Nat.pow_le_pow_right (by decide) h2
  omega
section
variable {s : List UInt8} {f p : Nat} {l : List Tl} {a : List Nat}
theorem rd_miss (h : s.length < p + 2) : rdTl s (f + 1) p l a = .bad 7 p := by rw [rdTl, if_pos h]
theorem rd_form (h : ¬ s.length < p + 2) (h1 : hdN s p < 512) (h2 : hdN s p ≠ 0) : rdTl s (f + 1) p l a = .bad 3 p := by rw [rdTl, if_neg h, if_pos h1, if_pos h2]
theorem rd_end (h : ¬ s.length < p + 2) (h2 : hdN s p = 0) (h3 : p + 2 + lead (s.drop (p + 2)) = s.length) : rdTl s (f + 1) p l a = .ok l a p := by rw [rdTl, if_neg h, if_pos (by omega), if_neg (by omega), if_pos h3]
theorem rd_spoilt (h : ¬ s.length < p + 2) (h2 : hdN s p = 0) (h3 : ¬ p + 2 + lead (s.drop (p + 2)) = s.length) : rdTl s (f + 1) p l a = .bad 15 (p + 2 + lead (s.drop (p + 2))) := by rw [rdTl, if_neg h, if_pos (by omega), if_neg (by omega), if_neg h3]
theorem rd_cut (h : ¬ s.length < p + 2) (h1 : ¬ hdN s p < 512) (h2 : s.length < p + 2 + hdN s p % 512) : rdTl s (f + 1) p l a = .bad 7 (p + 2) := by rw [rdTl, if_neg h, if_neg h1, if_pos h2]
theorem rd_step (h : ¬ s.length < p + 2) (h1 : ¬ hdN s p < 512) (h2 : ¬ s.length < p + 2 + hdN s p % 512) : rdTl s (f + 1) p l a = rdTl s f (p + 2 + hdN s p % 512) (l ++ [tlAt s p]) (a ++ [p]) := by rw [rdTl, if_neg h, if_neg h1, if_neg h2]
end
theorem tlAt_size (s : List UInt8) (p : Nat) (h : ¬ s.length < p + 2 + hdN s p % 512) : (tlAt s p).t.size = hdN s p % 512 := by
  show (((s.drop (p + 2)).take (hdN s p % 512)).toArray).size = _
  simp
  omega
theorem tlAt_ok (s : List UInt8) (p : Nat) (h1 : ¬ hdN s p < 512) (h : ¬ s.length < p + 2 + hdN s p % 512) : okTl (tlAt s p) = true := by
  have h2 := tlAt_size s p h
  have h3 := hdN_lt s p
  have h4 : (tlAt s p).k = ((hdN s p / 512 : Nat) : Int) := rfl
  simp only [okTl, Bool.and_eq_true, decide_eq_true_eq, h2, h4]
  omega
theorem putL_addT (n : Nat) : ∀ m X : Nat, putL (m * 256 ^ n + X) n = putL X n := by
  induction n with
  | zero => intro m X; rfl
  | succ n ih =>
    intro m X
    have e1 : m * 256 ^ (n + 1) + X = X + 256 ^ n * (m * 256) := by rw [Nat.pow_succ, Nat.mul_comm m, Nat.mul_assoc, Nat.mul_comm 256 m, Nat.add_comm]
    have e2 : (m * 256 ^ (n + 1) + X) / 256 ^ n % 256 = X / 256 ^ n % 256 := by
      rw [e1, Nat.add_mul_div_left _ _ (Nat.pow_pos (by decide))]
      omega
    have e3 : putL (m * 256 ^ (n + 1) + X) n = putL X n := by
      rw [show m * 256 ^ (n + 1) + X = (m * 256) * 256 ^ n + X by rw [Nat.pow_succ, Nat.mul_comm (256 ^ n) 256, Nat.mul_assoc]]
      exact ih _ _
    show UInt8.ofNat ((m * 256 ^ (n + 1) + X) / 256 ^ n % 256) :: putL (m * 256 ^ (n + 1) + X) n = UInt8.ofNat (X / 256 ^ n % 256) :: putL X n
    rw [e2, e3]
theorem putL_beNT (l : List UInt8) : putL (beN l) l.length = l := by
  induction l with
  | nil => rfl
  | cons b l ih =>
    have hl := beN_lt l
    have hb := b.toNat_lt
    rw [beN_cons, List.length_cons]
    show UInt8.ofNat ((b.toNat * 256 ^ l.length + beN l) / 256 ^ l.length % 256) :: putL (b.toNat * 256 ^ l.length + beN l) l.length = b :: l
    rw [putL_addT, ih, Nat.mul_comm, Nat.mul_add_div (Nat.pow_pos (by decide)), Nat.div_eq_of_lt hl, Nat.add_zero, Nat.mod_eq_of_lt hb]
    simp
theorem take_take_drop (s : List UInt8) (p n m : Nat) : (s.drop p).take (n + m) = (s.drop p).take n ++ (s.drop (p + n)).take m := by
  rw [List.take_add, List.drop_drop]
/-- A record that is read is written so. -/
theorem tlW_at (s : List UInt8) (p : Nat) (h0 : ¬ s.length < p + 2) (h : ¬ s.length < p + 2 + hdN s p % 512) : tlW (tlAt s p) = (s.drop p).take (2 + hdN s p % 512) := by
  have h2 := tlAt_size s p h
  have e : hdT (tlAt s p) = hdN s p := by
    unfold hdT
    rw [h2]
    show 512 * (((hdN s p / 512 : Nat) : Int)).toNat + _ = _
    omega
  have hl : ((s.drop p).take 2).length = 2 := by rw [List.length_take, List.length_drop]; omega
  unfold tlW
  rw [e, take_take_drop]
  congr 1
  have q := putL_beNT ((s.drop p).take 2)
  rw [hl] at q
  exact q
theorem lead_zero (l : List UInt8) (h : lead l = l.length) : ∀ b ∈ l, b = 0 := by
  intro b hb
  obtain ⟨j, hj⟩ := List.getElem?_of_mem hb
  have hl := (List.getElem?_eq_some_iff.1 hj).1
  exact (lead_spec l).1 j b (by omega) hj
/-- What is read may be, is written so, and begins where it is told. -/
theorem rd_was (s : List UInt8) : ∀ (f p : Nat) (l : List Tl) (a : List Nat) (m : List Tl) (b : List Nat) (e : Nat), rdTl s f p l a = .ok m b e →
    ∃ n, m = l ++ n ∧ b = a ++ offs p n ∧ (∀ x ∈ n, okTl x = true) ∧ tlWs n = (s.drop p).take (e - p) ∧ p ≤ e ∧ e + 2 ≤ s.length ∧ hdN s e = 0 ∧ (∀ c ∈ s.drop (e + 2), c = 0)
  | 0, p, l, a, m, b, e, h => by cases h
  | f + 1, p, l, a, m, b, e, h => by
    by_cases h0 : s.length < p + 2
    · rw [rd_miss h0] at h; cases h
    by_cases h1 : hdN s p < 512
    · by_cases h2 : hdN s p ≠ 0
      · rw [rd_form h0 h1 h2] at h; cases h
      · have h2 : hdN s p = 0 := by omega
        by_cases h3 : p + 2 + lead (s.drop (p + 2)) = s.length
        · rw [rd_end h0 h2 h3] at h
          cases h
          exact ⟨[], by simp, by simp [offs], by simp, by simp [tlWs], by omega, by omega, h2, lead_zero _ (by rw [List.length_drop]; omega)⟩
        · rw [rd_spoilt h0 h2 h3] at h; cases h
    · by_cases h2 : s.length < p + 2 + hdN s p % 512
      · rw [rd_cut h0 h1 h2] at h; cases h
      · rw [rd_step h0 h1 h2] at h
        obtain ⟨n, rfl, rfl, q3, q4, q5, q6, q7, q8⟩ := rd_was s f _ _ _ _ _ _ h
        have hz := tlAt_size s p h2
        refine ⟨tlAt s p :: n, by simp, by simp [offs, hz], ?_, ?_, by omega, q6, q7, q8⟩
        · intro x hx
          rcases List.mem_cons.1 hx with rfl | hx
          · exact tlAt_ok s p h1 h2
          · exact q3 x hx
        · have e1 : e - p = (2 + hdN s p % 512) + (e - (p + 2 + hdN s p % 512)) := by omega
          rw [tlWs_cons, q4, tlW_at s p h0 h2, e1, take_take_drop s p (2 + hdN s p % 512) (e - (p + 2 + hdN s p % 512)), ← Nat.add_assoc p 2]
/-- What is written is read. -/
theorem rd_wrote (s : List UInt8) : ∀ (n : List Tl) (f p : Nat) (l : List Tl) (a : List Nat), (∀ x ∈ n, okTl x = true) → s.drop p = tlWs n ++ [0, 0] → n.length < f → p ≤ s.length →
    rdTl s f p l a = .ok (l ++ n) (a ++ offs p n) (p + (tlWs n).length)
  | [], f + 1, p, l, a, _, hs, _, hp => by
    have hl : s.length = p + 2 := by have := congrArg List.length hs; simp [tlWs] at this; omega
    have h2 : hdN s p = 0 := by unfold hdN; rw [hs]; rfl
    have h3 : s.drop (p + 2) = [] := List.drop_eq_nil_of_le (by omega)
    rw [rd_end (by omega) h2 (by rw [h3, hl]; rfl)]
    simp [tlWs, offs]
  | x :: n, f + 1, p, l, a, hok, hs, hf, hp => by
    have hx := hok x (by simp)
    have ho := okTl_all hx
    have hlt := hdT_lt hx
    rw [tlWs_cons, List.append_assoc] at hs
    have hlen := congrArg List.length hs
    simp only [List.length_drop, List.length_append, tlW_len] at hlen
    have hh : hdN s p = hdT x := by
      unfold hdN
      rw [hs]
      unfold tlW
      rw [List.append_assoc, List.take_append_of_le_length (by rw [putL_length]; omega), List.take_of_length_le (by rw [putL_length]; omega), beN_putL_fits _ _ (by omega)]
    have e1 : hdT x % 512 = x.t.size := by unfold hdT; omega
    have e2 : hdT x / 512 = x.k.toNat := by unfold hdT; omega
    have hd : s.drop (p + 2 + x.t.size) = tlWs n ++ [0, 0] := by
      rw [Nat.add_assoc, ← List.drop_drop, hs, ← tlW_len x, List.drop_append_of_le_length (Nat.le_refl _), List.drop_length, List.nil_append]
    have ht : tlAt s p = x := by
      unfold tlAt
      rw [hh, e1, e2]
      have hd2 : s.drop (p + 2) = x.t.data.toList ++ (tlWs n ++ [0, 0]) := by
        rw [← List.drop_drop, hs]
        unfold tlW
        rw [List.append_assoc, List.drop_append_of_le_length (by rw [putL_length]; omega), List.drop_eq_nil_of_le (by rw [putL_length]; omega), List.nil_append]
      rw [hd2, List.take_append_of_le_length (by simp), List.take_of_length_le (by simp)]
      obtain ⟨k, t⟩ := x
      have : ((k.toNat : Nat) : Int) = k := by have := ho.1; simp only at this; omega
      simp only [this]
    rw [rd_step (by omega) (by rw [hh]; unfold hdT; omega) (by rw [hh, e1]; omega), hh, e1, ht, rd_wrote s n f (p + 2 + x.t.size) _ _ (fun y hy => hok y (by simp [hy])) hd (by simpa using hf) (by omega)]
    rw [tlWs_cons, List.length_append, tlW_len]
    simp only [List.append_assoc, List.cons_append, List.nil_append, offs]
    rw [show p + (2 + x.t.size + (tlWs n).length) = p + 2 + x.t.size + (tlWs n).length by omega]

end Go.Proofs.YtcijhmbimbejfaaDoor

namespace Go.Proofs.YtcijhmbimbejfaaDoor
open Go.RowKit
attribute [local go_sem ↓] Go.wp_at_zero Go.wp_at_succ
set_option linter.unusedSimpArgs false
set_option linter.unusedVariables false
set_option maxRecDepth 100000

/-- Behind a head. -/
def hdS (l : List UInt8) (st : RSt) : RSt := if nmV l 0 st 2 / 512 = 0 ∧ nmV l 0 st 2 % 512 ≠ 0 then flR (nmS l 0 st 2) 3 st.1 else nmS l 0 st 2
theorem readHead_t {g : Nat} {s : ByteArray} (st : RSt) (w : World) (h : RdT w g s 0 st) (hp : st.1 ≤ s.size) (hb : s.size ≤ 281474976710656) :
    Calls Tryd.prog 39 #[.pointer (some ⟨g, 0, none⟩)] w fun e w' => e = .returned (.tuple #[.int .i64 (nmV s.data.toList 0 st 2 / 512 : Nat), .int .i64 (nmV s.data.toList 0 st 2 % 512 : Nat)]) ∧ RdT w' g s 0 (hdS s.data.toList st) ∧ w.grownBy w' (some g) := by
  have HA := Lib.hid (atT st w h)
  have HN := Lib.hid (numK_t st 2 (by decide) w h hp (by omega))
  have HF : Hid (∀ (W : World), RdT W g s 0 (nmS s.data.toList 0 st 2) → Calls Tryd.prog 63 #[.pointer (some ⟨g, 0, none⟩), .int .i64 3, .int .i64 (st.1 : Nat)] W fun e w' => e = .returned (.tuple #[]) ∧ RdT w' g s 0 (flR (nmS s.data.toList 0 st 2) 3 st.1) ∧ W.grownBy w' (some g)) := fun W h => fail_t _ 3 st.1 (by decide) W h
  have hlt : nmV s.data.toList 0 st 2 < 65536 := nmV_lt _ _ _ 2
  have e0 : ((0 : Nat) : Int) + (st.1 : Int) = ((st.1 : Nat) : Int) := by omega
  unfold hdS
  generalize nmS s.data.toList 0 st 2 = st1 at *
  generalize nmV s.data.toList 0 st 2 = n at *
  rw [e0] at HA
  generalize st.1 = p at *
  clear hp h e0
  obtain ⟨K, hK⟩ : ∃ K, n / 512 = K := ⟨_, rfl⟩
  obtain ⟨Z, hZ⟩ : ∃ Z, n % 512 = Z := ⟨_, rfl⟩
  have k1 : (n : Int) / 512 = (K : Int) := by omega
  have k2 : (n : Int).tdiv 512 = (K : Int) := by rw [Int.tdiv_eq_ediv_of_nonneg (by omega)]; omega
  have k3 : (n : Int).tmod 512 = (Z : Int) := by rw [Int.tmod_eq_emod_of_nonneg (by omega)]; omega
  have k4 : (n : Int) % 512 = (Z : Int) := by omega
  have k5 : (0 : Int) ≤ (K : Int) := by omega
  have k6 : (K : Int) < 128 := by omega
  rw [hK, hZ]
  clear hK hZ
  by_cases hk0 : K = 0
  · by_cases hz0 : Z = 0
    · rw [if_neg (fun q => q.2 hz0)]
      have d1 : ((K : Int) == 0) = true := by simp [hk0]
      have d2 : ((Z : Int) == 0) = true := by simp [hz0]
      have d3 : ((Z : Int) != 0) = false := by simp [hz0]
      clear HF hk0 hz0
      go_enter Tryd.func39, Tryd.ntmps39
      go_wp2_with fail
      refine HA.out.mono ?_
      rintro e w1 ⟨rfl, rfl⟩
      go_wp2_with fail
      refine HN.out.mono ?_
      rintro e w2 ⟨rfl, HR2, g2⟩
      go_wp2
      go_ret2
      exact ⟨rfl, HR2, g2⟩
    · rw [if_pos ⟨hk0, hz0⟩]
      have d1 : ((K : Int) == 0) = true := by simp [hk0]
      have d2 : ((Z : Int) == 0) = false := by simp [hz0]
      have d3 : ((Z : Int) != 0) = true := by simp [hz0]
      clear hk0 hz0
      go_enter Tryd.func39, Tryd.ntmps39
      go_wp2_with fail
      refine HA.out.mono ?_
      rintro e w1 ⟨rfl, rfl⟩
      go_wp2_with fail
      refine HN.out.mono ?_
      rintro e w2 ⟨rfl, HR2, g2⟩
      go_wp2_with fail
      refine (HF.out _ HR2).mono ?_
      rintro e w3 ⟨rfl, HR3, g3⟩
      go_wp2
      go_ret2
      exact ⟨rfl, HR3, grownBy_trans g2 g3⟩
  · rw [if_neg (fun q => hk0 q.1)]
    have d1 : ((K : Int) == 0) = false := by simp [hk0]
    clear HF hk0
    go_enter Tryd.func39, Tryd.ntmps39
    go_wp2_with fail
    refine HA.out.mono ?_
    rintro e w1 ⟨rfl, rfl⟩
    go_wp2_with fail
    refine HN.out.mono ?_
    rintro e w2 ⟨rfl, HR2, g2⟩
    go_wp2
    go_ret2
    exact ⟨rfl, HR2, g2⟩


end Go.Proofs.YtcijhmbimbejfaaDoor

namespace Go.Proofs.YtcijhmbimbejfaaDoor
set_option linter.unusedVariables false

def TlR.recs : TlR → List Tl
  | .bad _ _ => []
  | .ok l _ _ => l
def TlR.offs : TlR → List Nat
  | .bad _ _ => []
  | .ok _ a _ => a
def TlR.fin : TlR → Nat
  | .bad _ _ => 0
  | .ok _ _ e => e
def TlR.er : TlR → Int
  | .bad e _ => e
  | .ok _ _ _ => 0
def TlR.pl : TlR → Int
  | .bad _ p => p
  | .ok _ _ _ => -1
/-- What holds ahead of each round. -/
def RdInv (S : List UInt8) (R : TlR) (st : RSt) (l : List Tl) (a : List Nat) : Prop := st.1 ≤ S.length ∧ ((st.2 = (0, -1) ∧ (∃ f, rdTl S f st.1 l a = R ∧ S.length + 1 - st.1 ≤ f) ∧ 2 * l.length ≤ st.1) ∨ (∃ x : Nat, st.2.1 ≠ 0 ∧ st.2.2 = (x : Int) ∧ R = .bad st.2.1 x))
/-- The record that is read next. -/
def nxT (S : List UInt8) (st : RSt) : Tl := ⟨(nmV S 0 st 2 / 512 : Nat), ⟨(tkN S 0 (hdS S st) (nmV S 0 st 2 % 512 : Nat) false).1.toArray⟩⟩
def nxS (S : List UInt8) (st : RSt) : RSt := (tkN S 0 (hdS S st) (nmV S 0 st 2 % 512 : Nat) false).2
theorem hdS_le (S : List UInt8) (st : RSt) (h : st.1 ≤ S.length) : (hdS S st).1 ≤ S.length := by
  unfold hdS
  split
  · exact flR_le S _ _ _ (nmS_le S 0 st 2 h)
  · exact nmS_le S 0 st 2 h
theorem rd_round (S : List UInt8) (R : TlR) (st : RSt) (l : List Tl) (a : List Nat) (h : RdInv S R st l a) :
    (nmV S 0 st 2 / 512 = 0 ∧ (zrR S 0 (hdS S st)).1 = false ∧ (zrR S 0 (hdS S st)).2.2.1 ≠ 0 ∧ R.recs = [] ∧ R.offs = [] ∧ R.fin = 0 ∧ R.er = (zrR S 0 (hdS S st)).2.2.1 ∧ R.pl = (zrR S 0 (hdS S st)).2.2.2) ∨
    (nmV S 0 st 2 / 512 = 0 ∧ (zrR S 0 (hdS S st)).1 = true ∧ R = .ok l a st.1) ∨
    (nmV S 0 st 2 / 512 ≠ 0 ∧ 2 * l.length ≤ S.length ∧ st.2.1 = 0 ∧ RdInv S R (nxS S st) (l ++ [nxT S st]) (a ++ [st.1]) ∧ ((nxS S st).2.1 ≠ 0 ∨ st.1 < (nxS S st).1)) := by
  obtain ⟨p, e, x⟩ := st
  obtain ⟨hp, h⟩ := h
  have hp : p ≤ S.length := hp
  rcases h with ⟨hst, ⟨f, hR, hf⟩, hl⟩ | ⟨x', he, hx, hR⟩
  · simp only [Prod.mk.injEq] at hst
    obtain ⟨rfl, rfl⟩ := hst
    have hl : 2 * l.length ≤ p := hl
    obtain ⟨f, rfl⟩ : ∃ f', f = f' + 1 := ⟨f - 1, by have hf : S.length + 1 - p ≤ f := hf; omega⟩
    have hf : S.length + 1 - p ≤ f + 1 := hf
    have hR : rdTl S (f + 1) p l a = R := hR
    by_cases h0 : S.length < p + 2
    · left
      have e1 : nmS S 0 (p, 0, -1) 2 = (p, 7, (p : Int)) := nm_miss S (p, 0, -1) 2 (by decide) (by decide) rfl (by show ¬ p + 2 ≤ S.length; omega) hp
      have e2 : nmV S 0 (p, 0, -1) 2 = 0 := by
        unfold nmV
        rw [show (2 : Int) = ((2 : Nat) : Int) from rfl, tkN_miss S 0 (p, 0, -1) 2 true rfl (by show ¬ p + 2 ≤ S.length; omega) hp (by decide)]
        rfl
      have e3 : hdS S (p, 0, -1) = (p, 7, (p : Int)) := by unfold hdS; rw [e1, e2]; rfl
      rw [rd_miss h0] at hR
      subst hR
      rw [e2, e3, zrR_bad S 0 (p, 7, (p : Int)) (show (7 : Int) ≠ 0 by decide)]
      exact ⟨rfl, rfl, (by decide : (7 : Int) ≠ 0), rfl, rfl, rfl, rfl, rfl⟩
    · have g1 : nmS S 0 (p, 0, -1) 2 = (p + 2, 0, -1) ∧ nmV S 0 (p, 0, -1) 2 = beN ((S.drop p).take 2) := nm_go S (p, 0, -1) 2 (by decide) (by decide) rfl (by show p + 2 ≤ S.length; omega)
      obtain ⟨e1, e2⟩ := g1
      have e2 : nmV S 0 (p, 0, -1) 2 = hdN S p := e2
      have hn := hdN_lt S p
      by_cases h1 : hdN S p < 512
      · have e4 : hdN S p / 512 = 0 := by omega
        by_cases h2 : hdN S p ≠ 0
        · left
          have e3 : hdS S (p, 0, -1) = (p + 2, 3, (p : Int)) := by
            unfold hdS
            rw [e1, e2, if_pos ⟨e4, by omega⟩]
            rfl
          rw [rd_form h0 h1 h2] at hR
          subst hR
          rw [e2, e3, zrR_bad S 0 (p + 2, 3, (p : Int)) (show (3 : Int) ≠ 0 by decide)]
          exact ⟨e4, rfl, (by decide : (3 : Int) ≠ 0), rfl, rfl, rfl, rfl, rfl⟩
        · have h2 : hdN S p = 0 := by omega
          have e3 : hdS S (p, 0, -1) = (p + 2, 0, -1) := by
            unfold hdS
            rw [e1, e2, if_neg (fun q => q.2 (by omega))]
          by_cases h3 : p + 2 + lead (S.drop (p + 2)) = S.length
          · right; left
            rw [rd_end h0 h2 h3] at hR
            rw [e2, e3]
            have q : zrR S 0 (p + 2, 0, -1) = (true, S.length, (0, -1)) := by
              unfold zrR
              rw [if_neg (show ¬ (0 : Int) ≠ 0 by decide), if_pos h3]
            rw [q]
            exact ⟨e4, rfl, hR.symm⟩
          · left
            rw [rd_spoilt h0 h2 h3] at hR
            subst hR
            have q : zrR S 0 (p + 2, 0, -1) = (false, p + 2 + lead (S.drop (p + 2)), 15, ((0 : Nat) : Int) + (p + 2 + lead (S.drop (p + 2)) : Nat)) := by
              unfold zrR
              rw [if_neg (show ¬ (0 : Int) ≠ 0 by decide), if_neg h3]
            rw [e2, e3, q]
            refine ⟨e4, rfl, (by decide : (15 : Int) ≠ 0), rfl, rfl, rfl, rfl, ?_⟩
            show ((p + 2 + lead (S.drop (p + 2)) : Nat) : Int) = ((0 : Nat) : Int) + (p + 2 + lead (S.drop (p + 2)) : Nat)
            omega
      · right; right
        have e4 : hdN S p / 512 ≠ 0 := by omega
        have e3 : hdS S (p, 0, -1) = (p + 2, 0, -1) := by
          unfold hdS
          rw [e1, e2, if_neg (fun q => e4 q.1)]
        refine ⟨by rw [e2]; exact e4, by omega, rfl, ?_⟩
        by_cases h2 : S.length < p + 2 + hdN S p % 512
        · have q := tkN_miss S 0 (p + 2, 0, -1) (hdN S p % 512) false rfl (by show ¬ p + 2 + hdN S p % 512 ≤ S.length; omega) (by show p + 2 ≤ S.length; omega) (fun q => by cases q)
          rw [rd_cut h0 h1 h2] at hR
          have e5 : nxS S (p, 0, -1) = (p + 2, 7, ((0 : Nat) : Int) + (p + 2 : Nat)) := by
            unfold nxS
            rw [e2, e3, q]
          rw [e5]
          refine ⟨⟨by show p + 2 ≤ S.length; omega, Or.inr ⟨p + 2, (by decide : (7 : Int) ≠ 0), ?_, hR.symm⟩⟩, Or.inl (by decide : (7 : Int) ≠ 0)⟩
          show ((0 : Nat) : Int) + (p + 2 : Nat) = ((p + 2 : Nat) : Int)
          omega
        · have q := tkN_go S 0 (p + 2, 0, -1) (hdN S p % 512) false rfl (by show p + 2 + hdN S p % 512 ≤ S.length; omega) (fun q => by cases q)
          rw [rd_step h0 h1 h2] at hR
          have e5 : nxS S (p, 0, -1) = (p + 2 + hdN S p % 512, 0, -1) := by
            unfold nxS
            rw [e2, e3, q]
          have e6 : nxT S (p, 0, -1) = tlAt S p := by
            unfold nxT tlAt
            rw [e2, e3, q]
          rw [e5, e6]
          refine ⟨⟨by show p + 2 + hdN S p % 512 ≤ S.length; omega, Or.inl ⟨rfl, ⟨f, hR, by show S.length + 1 - (p + 2 + hdN S p % 512) ≤ f; omega⟩, ?_⟩⟩, Or.inr (by show p < p + 2 + hdN S p % 512; omega)⟩
          show 2 * (l ++ [tlAt S p]).length ≤ p + 2 + hdN S p % 512
          simp
          omega
  · left
    have he : e ≠ 0 := he
    have e1 : nmS S 0 (p, e, x) 2 = (p, e, x) := nm_bad S (p, e, x) 2 he
    have e2 : nmV S 0 (p, e, x) 2 = 0 := by
      unfold nmV
      rw [tkN_bad S 0 (p, e, x) 2 true he]
      rfl
    have e3 : hdS S (p, e, x) = (p, e, x) := by unfold hdS; rw [e1, e2]; rfl
    have hx : x = (x' : Int) := hx
    have hR : R = .bad e x' := hR
    subst hR
    rw [e2, e3, zrR_bad S 0 (p, e, x) he]
    exact ⟨rfl, rfl, he, rfl, rfl, rfl, rfl, hx.symm⟩
theorem inv_start (S : List UInt8) : RdInv S (rdAll S) (0, 0, -1) [] [] := ⟨Nat.zero_le _, Or.inl ⟨rfl, ⟨S.length + 1, rfl, by show S.length + 1 - 0 ≤ _; omega⟩, by simp⟩⟩

end Go.Proofs.YtcijhmbimbejfaaDoor

namespace Go.Proofs.YtcijhmbimbejfaaDoor
set_option linter.unusedVariables false

theorem offs_get : ∀ (l : List Tl) (p k : Nat) (hk : k < l.length), (offs p l)[k]'(by rw [offs_len]; exact hk) = p + (tlWs (l.take k)).length
  | x :: l, p, 0, _ => by simp [offs, tlWs]
  | x :: l, p, k + 1, hk => by
    have hk' : k < l.length := by simpa using hk
    have ih := offs_get l (p + 2 + x.t.size) k hk'
    have e : (offs p (x :: l))[k + 1]'(by rw [offs_len]; exact hk) = (offs (p + 2 + x.t.size) l)[k]'(by rw [offs_len]; exact hk') := rfl
    rw [e, ih, List.take_succ_cons, tlWs_cons, List.length_append, tlW_len]
    omega
/-- Where each ends, the next begins, or the end. -/
theorem offs_next (l : List Tl) (k : Nat) (hk : k < l.length) : (offs 0 l)[k]'(by rw [offs_len]; exact hk) + 2 + l[k].t.size = 0 + (tlWs (l.take (k + 1))).length := by
  rw [offs_get l 0 k hk, tlWs_take l k hk, List.length_append, tlW_len]
  omega
theorem rdAll_wrote (l : List Tl) (h : ∀ x ∈ l, okTl x = true) : rdAll (tlWrite l) = .ok l (offs 0 l) (tlWs l).length := by
  have hl : ∀ (l : List Tl), l.length ≤ (tlWs l).length := fun l => by
    induction l with
    | nil => simp [tlWs]
    | cons x l ih => rw [tlWs_cons, List.length_append, tlW_len, List.length_cons]; omega
  have h2 := hl l
  have q := rd_wrote (tlWrite l) l ((tlWrite l).length + 1) 0 [] [] h rfl (by unfold tlWrite; rw [List.length_append]; simp; omega) (Nat.zero_le _)
  rw [List.nil_append, List.nil_append, Nat.zero_add] at q
  exact q
theorem wrote_rdAll (s : List UInt8) (m : List Tl) (b : List Nat) (e : Nat) (h : rdAll s = .ok m b e) : (∀ x ∈ m, okTl x = true) ∧ tlWrite m = s.take (e + 2) ∧ (tlWrite m).length = e + 2 ∧ 2 * m.length ≤ s.length ∧ b = offs 0 m ∧ e + 2 ≤ s.length ∧ (∀ c ∈ s.drop (e + 2), c = 0) := by
  obtain ⟨n, q1, q2, q3, q4, q5, q6, q7, q8⟩ := rd_was s _ _ _ _ _ _ _ h
  rw [List.nil_append] at q1 q2
  subst q1
  rw [List.drop_zero, Nat.sub_zero] at q4
  have hl : ∀ (l : List Tl), 2 * l.length ≤ (tlWs l).length := fun l => by
    induction l with
    | nil => simp [tlWs]
    | cons x l ih => rw [tlWs_cons, List.length_append, tlW_len, List.length_cons]; omega
  have h1 := hl m
  have h2 := congrArg List.length q4
  rw [List.length_take] at h2
  have h3 : (s.drop e).take 2 = [0, 0] := by
    have l2 : ((s.drop e).take 2).length = 2 := by rw [List.length_take, List.length_drop]; omega
    have q := putL_beNT ((s.drop e).take 2)
    rw [l2] at q
    have q7' : beN ((s.drop e).take 2) = 0 := q7
    rw [q7'] at q
    exact q.symm
  have h4 : tlWrite m = s.take (e + 2) := by
    unfold tlWrite
    rw [q4, List.take_add, h3]
  refine ⟨q3, h4, by rw [h4, List.length_take]; omega, by omega, q2, q6, q8⟩
theorem rd_bad_ne (s : List UInt8) : ∀ (f p : Nat) (l : List Tl) (a : List Nat) (e : Int) (x : Nat), rdTl s f p l a = .bad e x → e ≠ 0
  | 0, p, l, a, e, x, h => by cases h; decide
  | f + 1, p, l, a, e, x, h => by
    by_cases h0 : s.length < p + 2
    · rw [rd_miss h0] at h; cases h; decide
    by_cases h1 : hdN s p < 512
    · by_cases h2 : hdN s p ≠ 0
      · rw [rd_form h0 h1 h2] at h; cases h; decide
      · have h2 : hdN s p = 0 := by omega
        by_cases h3 : p + 2 + lead (s.drop (p + 2)) = s.length
        · rw [rd_end h0 h2 h3] at h; cases h
        · rw [rd_spoilt h0 h2 h3] at h; cases h; decide
    · by_cases h2 : s.length < p + 2 + hdN s p % 512
      · rw [rd_cut h0 h1 h2] at h; cases h; decide
      · rw [rd_step h0 h1 h2] at h
        exact rd_bad_ne s f _ _ _ e x h
theorem bad_recs {s : List UInt8} {e : Int} {p : Nat} (h : rdAll s = .bad e p) : (rdAll s).recs = [] := by rw [h]; rfl

end Go.Proofs.YtcijhmbimbejfaaDoor

namespace Go.Proofs.YtcijhmbimbejfaaDoor
set_option linter.unusedVariables false
set_option linter.unusedSimpArgs false

abbrev txT (t : Tl) : List UInt8 := t.t.data.toList
def nmOf (S : List UInt8) : Nm := ⟨(beN (S.take 1) : Nat), ⟨(S.drop 1).toArray⟩⟩
def cpOf (S : List UInt8) : Cp := ⟨(beN (S.take 2) : Nat), (beN ((S.drop 2).take 2) : Nat)⟩
def mgM (S : List UInt8) : Nat := max (beN (S.take 1)) 1
def mgO (S : List UInt8) : Nat := beN ((S.drop (mgM S + 6)).take 1)
def mgOf (S : List UInt8) : Mg := ⟨(beN ((S.drop 1).take 1) : Nat), ⟨((S.drop 2).take (mgM S - 1)).toArray⟩, (beN ((S.drop (mgM S + 1)).take 1) : Nat), (beN ((S.drop (mgM S + 2)).take 4) : Nat), ⟨((S.drop (mgM S + 7)).take (mgO S)).toArray⟩⟩
def ogOf (S : List UInt8) : Og := ⟨(beN (S.take 3) : Nat), (beN ((S.drop 3).take 1) : Nat), ⟨(S.drop 4).toArray⟩⟩
/-- Whether a text has just the parts of its kind. -/
def formK (k : Int) (S : List UInt8) : Bool :=
  if k = 1 then decide (1 ≤ S.length) else if k = 2 then decide (1 ≤ S.length) else if k = 3 then decide (S.length = 2) else if k = 4 then true else if k = 5 then true else if k = 6 then true
  else if k = 7 then decide (S.length = 4) else if k = 8 then decide (mgM S + 7 ≤ S.length ∧ S.length = mgM S + 7 + mgO S) else decide (4 ≤ S.length)
/-- Whether they may be. -/
def goodK (k : Int) (S : List UInt8) : Bool :=
  if k = 1 then okNm (nmOf S) else if k = 2 then okNm (nmOf S) else if k = 3 then true else if k = 4 then okSt ⟨S.toArray⟩ else if k = 5 then okSt ⟨S.toArray⟩ else if k = 6 then okSt ⟨S.toArray⟩
  else if k = 7 then okCp (cpOf S) else if k = 8 then okMg (mgOf S) else okOg (ogOf S)
def addLd (x : Ld) (t : Tl) : Ld :=
  if t.k = 1 then { x with ch := nmOf (txT t) } else if t.k = 2 then { x with po := nmOf (txT t) } else if t.k = 3 then { x with tt := (beN (txT t) : Nat) }
  else if t.k = 4 then { x with de := x.de ++ [t.t] } else if t.k = 5 then { x with ho := x.ho ++ [t.t] } else if t.k = 6 then { x with sy := x.sy ++ [t.t] }
  else if t.k = 7 then { x with ca := x.ca ++ [cpOf (txT t)] } else if t.k = 8 then { x with ma := x.ma ++ [mgOf (txT t)] } else { x with og := x.og ++ [ogOf (txT t)] }
/-- What is wrong with a record: before it there were i, c of its kind. -/
def misK (k : Int) (i c : Nat) : Int := if i < 3 ∧ k ≠ i + 1 then 10 else if 8 < k ∧ k ≠ 127 then 5 else if k < 8 ∧ 0 < c then 9 else 0
def vrd (t : Tl) (i c : Nat) : Int :=
  if misK t.k i c ≠ 0 then misK t.k i c else if formK t.k (txT t) = false then 3 else if goodK t.k (txT t) = false then 2 else if 20 ≤ c then 4 else 0
def cntK (k : Int) (l : List Tl) : Nat := l.countP (fun t => t.k == k)
theorem cntK_app (k : Int) (l m : List Tl) : cntK k (l ++ m) = cntK k l + cntK k m := by simp [cntK]
theorem cntK_cons (k : Int) (t : Tl) (l : List Tl) : cntK k (t :: l) = (if t.k = k then 1 else 0) + cntK k l := by
  simp only [cntK, List.countP_cons, beq_iff_eq]
  omega
theorem cntK_nil (k : Int) : cntK k [] = 0 := rfl
inductive LdR where
  | bad (e : Int) (p : Nat)
  | ok (x : Ld)
def LdR.val : LdR → Ld
  | .bad _ _ => zLd
  | .ok x => x
def LdR.er : LdR → Int
  | .bad e _ => e
  | .ok _ => 0
def LdR.pl : LdR → Int
  | .bad _ p => p
  | .ok _ => -1
def ldGo (e : Nat) : List Tl → Ld → List Tl → List Nat → LdR
  | p, x, [], _ => if p.length < 3 then .bad 7 e else .ok x
  | p, x, t :: ts, ps => if vrd t p.length (cntK t.k p) = 0 then ldGo e (p ++ [t]) (addLd x t) ts ps.tail else .bad (vrd t p.length (cntK t.k p)) (ps.headD 0)
def ldOf : TlR → LdR
  | .bad e p => .bad e p
  | .ok l a e => ldGo e [] zLd l a
/-- What any bytes tell. -/
def rdLd (S : List UInt8) : LdR := ldOf (rdAll S)
theorem ldGo_ok (e : Nat) (y : Ld) : ∀ (ts p : List Tl) (x : Ld) (ps : List Nat), ldGo e p x ts ps = .ok y ↔ ((∀ a t b, ts = a ++ t :: b → vrd t (p.length + a.length) (cntK t.k (p ++ a)) = 0) ∧ 3 ≤ p.length + ts.length ∧ y = ts.foldl addLd x)
  | [], p, x, ps => by
    rw [ldGo]
    by_cases h : p.length < 3
    · rw [if_pos h]
      constructor
      · intro q; cases q
      · intro q; have := q.2.1; simp at this; omega
    · rw [if_neg h]
      constructor
      · intro q
        cases q
        exact ⟨fun a t b q => by simp at q, by simp; omega, rfl⟩
      · intro q
        rw [q.2.2]
        rfl
  | t :: ts, p, x, ps => by
    rw [ldGo]
    by_cases h : vrd t p.length (cntK t.k p) = 0
    · rw [if_pos h, ldGo_ok e y ts (p ++ [t]) (addLd x t) ps.tail]
      constructor
      · rintro ⟨q1, q2, q3⟩
        refine ⟨?_, by simp at q2 ⊢; omega, q3⟩
        intro a u b q
        cases a with
        | nil =>
          simp only [List.nil_append, List.cons.injEq] at q
          obtain ⟨rfl, rfl⟩ := q
          simpa using h
        | cons c a =>
          simp only [List.cons_append, List.cons.injEq] at q
          obtain ⟨rfl, rfl⟩ := q
          have := q1 a u b rfl
          rw [List.append_assoc, List.singleton_append, List.length_append, List.length_singleton] at this
          rw [List.length_cons, show p.length + (a.length + 1) = p.length + 1 + a.length by omega]
          exact this
      · rintro ⟨q1, q2, q3⟩
        refine ⟨?_, by simp at q2 ⊢; omega, q3⟩
        intro a u b q
        subst q
        have := q1 (t :: a) u b rfl
        rw [List.append_assoc, List.singleton_append, List.length_append, List.length_singleton]
        rw [List.length_cons, show p.length + (a.length + 1) = p.length + 1 + a.length by omega] at this
        exact this
    · rw [if_neg h]
      constructor
      · intro q; cases q
      · rintro ⟨q1, -, -⟩
        exact absurd (by simpa using q1 [] t ts rfl) h
theorem ldGo_bad (e : Nat) (y : Int) (z : Nat) : ∀ (ts p : List Tl) (x : Ld) (ps : List Nat), ldGo e p x ts ps = .bad y z → y ≠ 0
  | [], p, x, ps, h => by
    rw [ldGo] at h
    split at h
    · cases h; decide
    · cases h
  | t :: ts, p, x, ps, h => by
    rw [ldGo] at h
    split at h
    · exact ldGo_bad e y z ts _ _ _ h
    · cases h; assumption
theorem vrd_zero (t : Tl) (i c : Nat) : vrd t i c = 0 ↔ (i < 3 → t.k = i + 1) ∧ (t.k ≤ 8 ∨ t.k = 127) ∧ (t.k < 8 → c = 0) ∧ formK t.k (txT t) = true ∧ goodK t.k (txT t) = true ∧ c < 20 := by
  unfold vrd misK
  cases formK t.k (txT t) <;> cases goodK t.k (txT t) <;> (repeat' split) <;> simp_all <;> omega
/-- How often a kind is there: as often as it may be ahead of each one. -/
theorem cnt_lt (k : Int) (N : Nat) (ts : List Tl) : (∀ a t b, ts = a ++ t :: b → t.k = k → cntK k a < N) ↔ cntK k ts ≤ N := by
  constructor
  · suffices h : ∀ (n : Nat) (ts : List Tl), ts.length = n → (∀ a t b, ts = a ++ t :: b → t.k = k → cntK k a < N) → cntK k ts ≤ N from h _ ts rfl
    intro n
    induction n with
    | zero =>
      intro ts hn _
      have : ts = [] := List.length_eq_zero_iff.1 hn
      subst this
      simp [cntK]
    | succ n ih =>
      intro ts hn h
      have hne : ts ≠ [] := by intro q; subst q; simp at hn
      obtain ⟨ini, z, rfl⟩ : ∃ ini z, ts = ini ++ [z] := ⟨ts.dropLast, ts.getLast hne, (List.dropLast_concat_getLast hne).symm⟩
      rw [cntK_app, cntK_cons, cntK_nil]
      by_cases hz : z.k = k
      · have := h ini z [] rfl hz
        rw [if_pos hz]
        omega
      · rw [if_neg hz]
        have := ih ini (by simpa using hn) (fun a t b q => h a t (b ++ [z]) (by rw [q]; simp))
        omega
  · intro h a t b q hk
    rw [q, cntK_app, cntK_cons, if_pos hk] at h
    omega
def accept (ts : List Tl) : Prop := (∀ a t b, ts = a ++ t :: b → vrd t a.length (cntK t.k a) = 0) ∧ 3 ≤ ts.length
def ldVal (ts : List Tl) : Ld := ts.foldl addLd zLd
theorem ldGo_acc (e : Nat) (y : Ld) (ts : List Tl) (ps : List Nat) : ldGo e [] zLd ts ps = .ok y ↔ accept ts ∧ y = ldVal ts := by
  rw [ldGo_ok]
  simp [accept, ldVal, and_assoc]
/-- A record behind the first three, as it may be. -/
def okR (t : Tl) : Prop := 4 ≤ t.k ∧ (t.k ≤ 8 ∨ t.k = 127) ∧ formK t.k (txT t) = true ∧ goodK t.k (txT t) = true
structure OkTs (t1 t2 t3 : Tl) (r : List Tl) : Prop where
  k1 : t1.k = 1
  k2 : t2.k = 2
  k3 : t3.k = 3
  f1 : 1 ≤ (txT t1).length
  g1 : okNm (nmOf (txT t1)) = true
  f2 : 1 ≤ (txT t2).length
  g2 : okNm (nmOf (txT t2)) = true
  f3 : (txT t3).length = 2
  hr : ∀ t ∈ r, okR t
  hc : ∀ k, 4 ≤ k → cntK k r ≤ if k < 8 then 1 else 20
theorem formK1 (S : List UInt8) : formK 1 S = decide (1 ≤ S.length) := by simp [formK]
theorem formK2 (S : List UInt8) : formK 2 S = decide (1 ≤ S.length) := by simp [formK]
theorem formK3 (S : List UInt8) : formK 3 S = decide (S.length = 2) := by simp [formK]
theorem goodK1 (S : List UInt8) : goodK 1 S = okNm (nmOf S) := by simp [goodK]
theorem goodK2 (S : List UInt8) : goodK 2 S = okNm (nmOf S) := by simp [goodK]
theorem goodK3 (S : List UInt8) : goodK 3 S = true := by simp [goodK]
theorem accept_to (ts : List Tl) (h0 : ∀ t ∈ ts, 0 < t.k) (h : accept ts) : ∃ t1 t2 t3 r, ts = t1 :: t2 :: t3 :: r ∧ OkTs t1 t2 t3 r := by
  obtain ⟨h1, h2⟩ := h
  match ts, h2 with
  | t1 :: t2 :: t3 :: r, _ =>
    have q1 := (vrd_zero _ _ _).1 (h1 [] t1 (t2 :: t3 :: r) rfl)
    have q2 := (vrd_zero _ _ _).1 (h1 [t1] t2 (t3 :: r) rfl)
    have q3 := (vrd_zero _ _ _).1 (h1 [t1, t2] t3 r rfl)
    have k1 : t1.k = 1 := by have := q1.1 (by simp); simpa using this
    have k2 : t2.k = 2 := by have := q2.1 (by simp); simpa using this
    have k3 : t3.k = 3 := by have := q3.1 (by simp); simpa using this
    rw [k1, formK1, goodK1] at q1
    rw [k2, formK2, goodK2] at q2
    rw [k3, formK3, goodK3] at q3
    refine ⟨t1, t2, t3, r, rfl, k1, k2, k3, by simpa using q1.2.2.2.1, q1.2.2.2.2.1, by simpa using q2.2.2.2.1, q2.2.2.2.2.1, by simpa using q3.2.2.2.1, ?_, ?_⟩
    · intro t ht
      obtain ⟨a, b, rfl⟩ := List.append_of_mem ht
      have q := (vrd_zero _ _ _).1 (h1 (t1 :: t2 :: t3 :: a) t b rfl)
      have hp := h0 t (by simp)
      refine ⟨?_, q.2.1, q.2.2.2.1, q.2.2.2.2.1⟩
      have q4 := q.2.2.1
      rw [cntK_cons, cntK_cons, cntK_cons, k1, k2, k3] at q4
      by_cases h4 : t.k < 4
      · exfalso
        have q5 := q4 (by omega)
        have : t.k = 1 ∨ t.k = 2 ∨ t.k = 3 := by omega
        rcases this with e | e | e <;> rw [e] at q5 <;> simp at q5 <;> omega
      · omega
    · intro k hk
      refine (cnt_lt k _ r).1 ?_
      intro a t b q hkk
      subst q
      have q := (vrd_zero _ _ _).1 (h1 (t1 :: t2 :: t3 :: a) t b rfl)
      have q4 := q.2.2.1
      have q5 := q.2.2.2.2.2
      rw [cntK_cons, cntK_cons, cntK_cons, hkk] at q4 q5
      split
      · have := q4 (by assumption); omega
      · omega
theorem accept_of (t1 t2 t3 : Tl) (r : List Tl) (h : OkTs t1 t2 t3 r) : accept (t1 :: t2 :: t3 :: r) := by
  refine ⟨?_, by simp⟩
  intro a t b q
  match a, q with
  | [], q =>
    simp only [List.nil_append, List.cons.injEq] at q
    obtain ⟨rfl, -⟩ := q
    rw [vrd_zero, h.k1, formK1, goodK1]
    exact ⟨fun _ => rfl, Or.inl (by decide), fun _ => rfl, by simpa using h.f1, h.g1, by decide⟩
  | [c], q =>
    simp only [List.cons_append, List.nil_append, List.cons.injEq] at q
    obtain ⟨rfl, rfl, -⟩ := q
    rw [vrd_zero, h.k2, formK2, goodK2, cntK_cons, h.k1]
    exact ⟨fun _ => rfl, Or.inl (by decide), fun _ => rfl, by simpa using h.f2, h.g2, by decide⟩
  | [c, d], q =>
    simp only [List.cons_append, List.nil_append, List.cons.injEq] at q
    obtain ⟨rfl, rfl, rfl, -⟩ := q
    rw [vrd_zero, h.k3, formK3, goodK3, cntK_cons, cntK_cons, h.k1, h.k2]
    exact ⟨fun _ => rfl, Or.inl (by decide), fun _ => rfl, by simpa using h.f3, rfl, by decide⟩
  | c :: d :: e :: a, q =>
    simp only [List.cons_append, List.cons.injEq] at q
    obtain ⟨rfl, rfl, rfl, rfl⟩ := q
    have ht := h.hr t (by simp)
    have hc := h.hc t.k ht.1
    have hl := (cnt_lt t.k _ _).2 hc a t b rfl rfl
    rw [vrd_zero, cntK_cons, cntK_cons, cntK_cons, h.k1, h.k2, h.k3, if_neg (by have := ht.1; omega), if_neg (by have := ht.1; omega), if_neg (by have := ht.1; omega)]
    refine ⟨fun q => by simp at q; omega, ht.2.1, ?_, ht.2.2.1, ht.2.2.2, ?_⟩
    · intro q
      rw [if_pos q] at hl
      omega
    · split at hl <;> omega

end Go.Proofs.YtcijhmbimbejfaaDoor

namespace Go.Proofs.YtcijhmbimbejfaaDoor
set_option linter.unusedVariables false
set_option linter.unusedSimpArgs false

theorem nm_step (S : List UInt8) (p n : Nat) (h1 : 1 ≤ n) (h8 : n ≤ 8) (hp : p ≤ S.length) :
    (p + n ≤ S.length ∧ nmS S 0 (p, 0, -1) n = (p + n, 0, -1) ∧ nmV S 0 (p, 0, -1) n = beN ((S.drop p).take n)) ∨ (¬ p + n ≤ S.length ∧ nmS S 0 (p, 0, -1) n = (p, 7, (p : Int))) := by
  by_cases h : p + n ≤ S.length
  · obtain ⟨a, b⟩ := nm_go S (p, 0, -1) n h1 h8 rfl h
    exact Or.inl ⟨h, a, b⟩
  · exact Or.inr ⟨h, nm_miss S (p, 0, -1) n h1 h8 rfl h hp⟩
theorem tk_step (S : List UInt8) (p n : Nat) (hp : p ≤ S.length) :
    (p + n ≤ S.length ∧ tkN S 0 (p, 0, -1) (n : Nat) false = ((S.drop p).take n, p + n, 0, -1)) ∨ (¬ p + n ≤ S.length ∧ tkN S 0 (p, 0, -1) (n : Nat) false = ([], p, 7, ((0 : Nat) : Int) + (p : Int))) := by
  by_cases h : p + n ≤ S.length
  · exact Or.inl ⟨h, tkN_go S 0 (p, 0, -1) n false rfl h (by intro q; cases q)⟩
  · exact Or.inr ⟨h, tkN_miss S 0 (p, 0, -1) n false rfl h hp (by intro q; cases q)⟩
theorem rs_at (S : List UInt8) (p : Nat) (hp : p ≤ S.length) : rsV S (p, 0, -1) = S.drop p ∧ rsS S (p, 0, -1) = (S.length, 0, -1) := by
  rcases tk_step S p (S.length - p) hp with ⟨a, b⟩ | ⟨a, b⟩
  · unfold rsV rsS
    rw [b]
    refine ⟨?_, ?_⟩
    · show (S.drop p).take (S.length - p) = _
      rw [List.take_of_length_le (by rw [List.length_drop]; omega)]
    · show (p + (S.length - p), (0 : Int), (-1 : Int)) = _
      rw [show p + (S.length - p) = S.length by omega]
  · omega
theorem rs_bad (S : List UInt8) (st : RSt) (h : st.2.1 ≠ 0) : rsS S st = st := by unfold rsS; rw [tkN_bad _ _ _ _ _ h]
theorem tk_bad (S : List UInt8) (st : RSt) (n : Int) (h : st.2.1 ≠ 0) : (tkN S 0 st n false).2 = st := by rw [tkN_bad _ _ _ _ _ h]
/-- Read to the end, just so; or wrong, or not to the end. -/
def Rdn (S : List UInt8) (f : Bool) (st : RSt) : Prop := st.1 ≤ S.length ∧ (f = true → st = (S.length, 0, -1)) ∧ (f = false → st.2.1 ≠ 0 ∨ st.1 < S.length)
theorem Rdn.bad {S : List UInt8} {f : Bool} {p : Nat} {e x : Int} (hf : f = false) (h : p ≤ S.length) (he : e ≠ 0) : Rdn S f (p, e, x) := by
  subst hf
  exact ⟨h, (fun q => by cases q), fun _ => Or.inl he⟩
theorem rn_ways (S : List UInt8) : Rdn S (decide (1 ≤ S.length)) (rnS S (0, 0, -1)) ∧ (1 ≤ S.length → rnV S (0, 0, -1) = nmOf S) := by
  unfold rnS rnV
  rcases nm_step S 0 1 (by omega) (by omega) (Nat.zero_le _) with ⟨a, b, c⟩ | ⟨a, b⟩
  · have a : 1 ≤ S.length := by omega
    obtain ⟨r1, r2⟩ := rs_at S 1 a
    rw [show ((1 : Nat) : Int) = (1 : Int) from rfl] at b c
    rw [b, c, r1, r2]
    refine ⟨⟨Nat.le_refl _, fun _ => rfl, fun q => absurd (of_decide_eq_false q) (by omega)⟩, fun _ => ?_⟩
    unfold nmOf
    rw [List.drop_zero]
  · rw [show ((1 : Nat) : Int) = (1 : Int) from rfl] at b
    rw [b, rs_bad _ _ (by show (7 : Int) ≠ 0; decide)]
    refine ⟨Rdn.bad (decide_eq_false (by omega)) (Nat.zero_le _) (by decide), fun q => by omega⟩
theorem rt_ways (S : List UInt8) : Rdn S (decide (S.length = 2)) (nmS S 0 (0, 0, -1) 2) ∧ (S.length = 2 → nmV S 0 (0, 0, -1) 2 = beN S) := by
  rcases nm_step S 0 2 (by omega) (by omega) (Nat.zero_le _) with ⟨a, b, c⟩ | ⟨a, b⟩
  · rw [show ((2 : Nat) : Int) = (2 : Int) from rfl] at b c
    rw [b, c]
    refine ⟨⟨a, fun q => ?_, fun q => Or.inr ?_⟩, fun q => ?_⟩
    · have q : S.length = 2 := by simpa using q
      rw [q]
    · have q : ¬ S.length = 2 := by simpa using q
      show 0 + 2 < S.length
      omega
    · rw [List.drop_zero, List.take_of_length_le (by omega)]
  · rw [show ((2 : Nat) : Int) = (2 : Int) from rfl] at b
    rw [b]
    exact ⟨Rdn.bad (decide_eq_false (by omega)) (Nat.zero_le _) (by decide), fun q => by omega⟩
theorem rc_ways (S : List UInt8) : Rdn S (decide (S.length = 4)) (rcS S (0, 0, -1)) ∧ (S.length = 4 → rcV S (0, 0, -1) = cpOf S) := by
  unfold rcS rcV
  rcases nm_step S 0 2 (by omega) (by omega) (Nat.zero_le _) with ⟨a, b, c⟩ | ⟨a, b⟩
  · rw [show ((2 : Nat) : Int) = (2 : Int) from rfl] at b c
    rw [b, c]
    rcases nm_step S (0 + 2) 2 (by omega) (by omega) a with ⟨a2, b2, c2⟩ | ⟨a2, b2⟩
    · rw [show ((2 : Nat) : Int) = (2 : Int) from rfl] at b2 c2
      rw [b2, c2]
      refine ⟨⟨a2, fun q => ?_, fun q => Or.inr ?_⟩, fun q => ?_⟩
      · have q : S.length = 4 := by simpa using q
        rw [q]
      · have q : ¬ S.length = 4 := by simpa using q
        show 0 + 2 + 2 < S.length
        omega
      · unfold cpOf
        rw [List.drop_zero]
    · rw [show ((2 : Nat) : Int) = (2 : Int) from rfl] at b2
      rw [b2]
      exact ⟨Rdn.bad (decide_eq_false (by omega)) a (by decide), fun q => by omega⟩
  · rw [show ((2 : Nat) : Int) = (2 : Int) from rfl] at b
    rw [b, nm_bad _ _ _ (by show ¬ (7 : Int) = 0; decide)]
    exact ⟨Rdn.bad (decide_eq_false (by omega)) (Nat.zero_le _) (by decide), fun q => by omega⟩
theorem ro_ways (S : List UInt8) : Rdn S (decide (4 ≤ S.length)) (roS S (0, 0, -1)) ∧ (4 ≤ S.length → roV S (0, 0, -1) = ogOf S) := by
  unfold roS roV
  rcases nm_step S 0 3 (by omega) (by omega) (Nat.zero_le _) with ⟨a, b, c⟩ | ⟨a, b⟩
  · rw [show ((3 : Nat) : Int) = (3 : Int) from rfl] at b c
    rw [b, c]
    rcases nm_step S (0 + 3) 1 (by omega) (by omega) a with ⟨a2, b2, c2⟩ | ⟨a2, b2⟩
    · rw [show ((1 : Nat) : Int) = (1 : Int) from rfl] at b2 c2
      obtain ⟨r1, r2⟩ := rs_at S (0 + 3 + 1) a2
      rw [b2, c2, r1, r2]
      refine ⟨⟨Nat.le_refl _, fun _ => rfl, fun q => absurd (of_decide_eq_false q) (by omega)⟩, fun _ => ?_⟩
      unfold ogOf
      rw [List.drop_zero]
    · rw [show ((1 : Nat) : Int) = (1 : Int) from rfl] at b2
      rw [b2, rs_bad _ _ (by show (7 : Int) ≠ 0; decide)]
      exact ⟨Rdn.bad (decide_eq_false (by omega)) a (by decide), fun q => by omega⟩
  · rw [show ((3 : Nat) : Int) = (3 : Int) from rfl] at b
    rw [b, nm_bad _ _ _ (by show ¬ (7 : Int) = 0; decide), rs_bad _ _ (by show (7 : Int) ≠ 0; decide)]
    exact ⟨Rdn.bad (decide_eq_false (by omega)) (Nat.zero_le _) (by decide), fun q => by omega⟩
theorem rm_ways (S : List UInt8) : Rdn S (decide (mgM S + 7 ≤ S.length ∧ S.length = mgM S + 7 + mgO S)) (rmS S (0, 0, -1)) ∧ (mgM S + 7 ≤ S.length ∧ S.length = mgM S + 7 + mgO S → rmV S (0, 0, -1) = mgOf S) := by
  have hM1 : 1 ≤ mgM S := by unfold mgM; omega
  unfold rmS rmV rm5 rm4 rm3 rm2 rm1 rmM
  have n7 : ¬ (7 : Int) = 0 := by decide
  rcases nm_step S 0 1 (by omega) (by omega) (Nat.zero_le _) with ⟨a, b, c⟩ | ⟨a, b⟩
  · rw [show ((1 : Nat) : Int) = (1 : Int) from rfl] at b c
    rw [b, c, List.drop_zero, show max (beN (S.take 1)) 1 = mgM S from rfl]
    rcases nm_step S (0 + 1) 1 (by omega) (by omega) a with ⟨a2, b2, c2⟩ | ⟨a2, b2⟩
    · rw [show ((1 : Nat) : Int) = (1 : Int) from rfl] at b2 c2
      rw [b2, c2]
      rcases tk_step S (0 + 1 + 1) (mgM S - 1) a2 with ⟨a3, b3⟩ | ⟨a3, b3⟩
      · rw [b3]
        dsimp only
        rcases nm_step S (0 + 1 + 1 + (mgM S - 1)) 1 (by omega) (by omega) a3 with ⟨a4, b4, c4⟩ | ⟨a4, b4⟩
        · rw [show ((1 : Nat) : Int) = (1 : Int) from rfl] at b4 c4
          rw [b4, c4]
          rcases nm_step S (0 + 1 + 1 + (mgM S - 1) + 1) 4 (by omega) (by omega) a4 with ⟨a5, b5, c5⟩ | ⟨a5, b5⟩
          · rw [show ((4 : Nat) : Int) = (4 : Int) from rfl] at b5 c5
            rw [b5, c5]
            rcases nm_step S (0 + 1 + 1 + (mgM S - 1) + 1 + 4) 1 (by omega) (by omega) a5 with ⟨a6, b6, c6⟩ | ⟨a6, b6⟩
            · rw [show ((1 : Nat) : Int) = (1 : Int) from rfl] at b6 c6
              have e6 : 0 + 1 + 1 + (mgM S - 1) + 1 + 4 = mgM S + 6 := by omega
              have e5 : 0 + 1 + 1 + (mgM S - 1) + 1 = mgM S + 2 := by omega
              have e4 : 0 + 1 + 1 + (mgM S - 1) = mgM S + 1 := by omega
              rw [e6] at b6 c6 a6
              rw [e6, b6, c6, show beN ((S.drop (mgM S + 6)).take 1) = mgO S from rfl]
              rcases tk_step S (mgM S + 6 + 1) (mgO S) a6 with ⟨a7, b7⟩ | ⟨a7, b7⟩
              · rw [b7]
                dsimp only
                refine ⟨⟨a7, fun q => ?_, fun q => Or.inr ?_⟩, fun q => ?_⟩
                · simp only [decide_eq_true_eq] at q
                  rw [q.2]
                · simp only [decide_eq_false_iff_not] at q
                  show mgM S + 6 + 1 + mgO S < S.length
                  omega
                · unfold mgOf
                  rw [e5, e4]
              · rw [b7]
                exact ⟨Rdn.bad (decide_eq_false (by omega)) a6 n7, fun q => by omega⟩
            · rw [show ((1 : Nat) : Int) = (1 : Int) from rfl] at b6
              rw [b6, tk_bad _ _ _ n7]
              exact ⟨Rdn.bad (decide_eq_false (by omega)) a5 n7, fun q => by omega⟩
          · rw [show ((4 : Nat) : Int) = (4 : Int) from rfl] at b5
            rw [b5, nm_bad _ _ _ n7, tk_bad _ _ _ n7]
            exact ⟨Rdn.bad (decide_eq_false (by omega)) a4 n7, fun q => by omega⟩
        · rw [show ((1 : Nat) : Int) = (1 : Int) from rfl] at b4
          rw [b4, nm_bad _ _ _ n7, nm_bad _ _ _ n7, tk_bad _ _ _ n7]
          exact ⟨Rdn.bad (decide_eq_false (by omega)) a3 n7, fun q => by omega⟩
      · rw [b3]
        dsimp only
        rw [nm_bad _ _ _ n7, nm_bad _ _ _ n7, nm_bad _ _ _ n7, tk_bad _ _ _ n7]
        exact ⟨Rdn.bad (decide_eq_false (by omega)) a2 n7, fun q => by omega⟩
    · rw [show ((1 : Nat) : Int) = (1 : Int) from rfl] at b2
      rw [b2, tk_bad _ _ _ n7, nm_bad _ _ _ n7, nm_bad _ _ _ n7, nm_bad _ _ _ n7, tk_bad _ _ _ n7]
      exact ⟨Rdn.bad (decide_eq_false (by omega)) a n7, fun q => by omega⟩
  · rw [show ((1 : Nat) : Int) = (1 : Int) from rfl] at b
    rw [b, nm_bad _ _ _ n7, tk_bad _ _ _ n7, nm_bad _ _ _ n7, nm_bad _ _ _ n7, nm_bad _ _ _ n7, tk_bad _ _ _ n7]
    exact ⟨Rdn.bad (decide_eq_false (by omega)) (Nat.zero_le _) n7, fun q => by omega⟩
theorem rest_ways (S : List UInt8) : Rdn S true (rsS S (0, 0, -1)) ∧ rsV S (0, 0, -1) = S := by
  obtain ⟨r1, r2⟩ := rs_at S 0 (Nat.zero_le _)
  rw [r1, r2]
  exact ⟨⟨Nat.le_refl _, fun _ => rfl, fun q => by cases q⟩, rfl⟩

end Go.Proofs.YtcijhmbimbejfaaDoor

namespace Go.Proofs.YtcijhmbimbejfaaDoor
set_option linter.unusedVariables false
set_option linter.unusedSimpArgs false

theorem byT (b : ByteArray) : (⟨b.data.toList.toArray⟩ : ByteArray) = b := by cases b; simp
theorem take_l {α : Type} (l m : List α) (n : Nat) (h : n = l.length) : (l ++ m).take n = l := by subst h; simp
theorem drop_l {α : Type} (l m : List α) (n k : Nat) (h : n = l.length + k) : (l ++ m).drop n = m.drop k := by
  subst h
  rw [← List.drop_drop]
  simp
theorem nmOf_W (x : Nm) (h0 : 0 ≤ x.su) (h1 : x.su < 256) : nmOf (nmW x) = x := by
  obtain ⟨su, id⟩ := x
  unfold nmOf nmW
  simp only at h0 h1 ⊢
  rw [take_l _ _ _ (by rw [putL_length]), drop_l _ _ 1 0 (by rw [putL_length]), List.drop_zero, byT, beN_putL_fits _ _ (by omega)]
  congr 1
  omega
theorem cpOf_W (x : Cp) (h : (0 ≤ x.h ∧ x.h < 65536) ∧ (0 ≤ x.o ∧ x.o < 65536)) : cpOf (cpW x) = x := by
  obtain ⟨a, b⟩ := x
  unfold cpOf cpW
  simp only at h ⊢
  rw [take_l _ _ _ (by rw [putL_length]), drop_l _ _ 2 0 (by rw [putL_length]), List.drop_zero, List.take_of_length_le (by rw [putL_length]; omega), beN_putL_fits _ _ (by omega), beN_putL_fits _ _ (by omega)]
  congr 1 <;> omega
theorem ogOf_W (x : Og) (h : (0 ≤ x.ou ∧ x.ou < 16777216) ∧ (0 ≤ x.su ∧ x.su < 256)) : ogOf (ogW x) = x := by
  obtain ⟨a, b, c⟩ := x
  unfold ogOf ogW
  simp only at h ⊢
  rw [List.append_assoc, take_l _ _ _ (by rw [putL_length]), drop_l _ _ 3 0 (by rw [putL_length]), List.drop_zero, take_l _ _ _ (by rw [putL_length]), drop_l _ _ 4 1 (by rw [putL_length]), drop_l _ _ 1 0 (by rw [putL_length]), List.drop_zero, byT, beN_putL_fits _ _ (by omega), beN_putL_fits _ _ (by omega)]
  congr 1 <;> omega
theorem mgM_W (x : Mg) (h : 1 ≤ x.ai.size ∧ x.ai.size ≤ 31) : mgM (mgW x) = 1 + x.ai.size := by
  unfold mgM mgW
  rw [take_l _ _ _ (by rw [putL_length]), beN_putL_fits _ _ (by omega)]
  omega
theorem mgO_W (x : Mg) (h : 1 ≤ x.ai.size ∧ x.ai.size ≤ 31) (h2 : x.oid.size ≤ 128) : mgO (mgW x) = x.oid.size := by
  unfold mgO
  rw [mgM_W x h]
  unfold mgW nmW mgN
  simp only
  have hz : x.ai.data.toList.length = x.ai.size := by simp
  rw [drop_l _ _ _ (6 + x.ai.size) (by rw [putL_length]; omega), drop_l _ _ _ 5 (by rw [List.length_append, putL_length, hz]; omega), drop_l _ _ _ 4 (by rw [putL_length]), drop_l _ _ _ 0 (by rw [putL_length]), List.drop_zero, take_l _ _ _ (by rw [putL_length]), beN_putL_fits _ _ (by omega)]
theorem mgOf_W (x : Mg) (h : (0 ≤ x.as ∧ x.as < 256) ∧ (1 ≤ x.ai.size ∧ x.ai.size ≤ 31) ∧ (1 ≤ x.fs ∧ x.fs ≤ 3) ∧ (0 ≤ x.fi ∧ x.fi < 4294967296) ∧ x.oid.size ≤ 128) : mgOf (mgW x) = x := by
  obtain ⟨h1, h2, h3, h4, h5⟩ := h
  unfold mgOf
  rw [mgM_W x h2, mgO_W x h2 h5]
  unfold mgW nmW mgN
  obtain ⟨sb, ai, fs, fi, oid⟩ := x
  simp only at h1 h2 h3 h4 h5 ⊢
  have hz : ai.data.toList.length = ai.size := by simp
  have hy : oid.data.toList.length = oid.size := by simp
  have e1 : ∀ m : List UInt8, (putL (1 + ai.size) 1 ++ ((putL sb.toNat 1 ++ ai.data.toList) ++ m)).drop 1 = putL sb.toNat 1 ++ (ai.data.toList ++ m) := fun m => by
    rw [drop_l _ _ _ 0 (by rw [putL_length]), List.drop_zero, List.append_assoc]
  have e2 : ∀ m : List UInt8, (putL (1 + ai.size) 1 ++ ((putL sb.toNat 1 ++ ai.data.toList) ++ m)).drop 2 = ai.data.toList ++ m := fun m => by
    rw [drop_l _ _ _ 1 (by rw [putL_length]), List.append_assoc, drop_l _ _ _ 0 (by rw [putL_length]), List.drop_zero]
  have e3 : ∀ (m : List UInt8) (k : Nat), (putL (1 + ai.size) 1 ++ ((putL sb.toNat 1 ++ ai.data.toList) ++ m)).drop (1 + ai.size + (1 + k)) = m.drop k := fun m k => by
    rw [drop_l _ _ _ (1 + ai.size + k) (by rw [putL_length]; omega), drop_l _ _ _ k (by rw [List.length_append, putL_length, hz])]
  rw [e1, e2, e3 _ 0, show 1 + ai.size + 2 = 1 + ai.size + (1 + 1) from rfl, e3 _ 1, show 1 + ai.size + 7 = 1 + ai.size + (1 + 6) from rfl, e3 _ 6, List.drop_zero]
  rw [take_l _ _ _ (by rw [putL_length]), take_l _ _ _ (by rw [hz]; omega), take_l _ _ _ (by rw [putL_length])]
  rw [drop_l _ _ 1 0 (by rw [putL_length]), List.drop_zero, take_l _ _ _ (by rw [putL_length])]
  rw [drop_l _ _ 6 5 (by rw [putL_length]), drop_l _ _ 5 1 (by rw [putL_length]), drop_l _ _ 1 0 (by rw [putL_length]), List.drop_zero, List.take_of_length_le (by omega), byT, byT]
  rw [beN_putL_fits _ _ (by omega), beN_putL_fits _ _ (by omega), beN_putL_fits _ _ (by omega)]
  congr 1 <;> omega
section
variable (S : List UInt8)
theorem formK4 : formK 4 S = true := by simp [formK]
theorem formK5 : formK 5 S = true := by simp [formK]
theorem formK6 : formK 6 S = true := by simp [formK]
theorem formK7 : formK 7 S = decide (S.length = 4) := by simp [formK]
theorem formK8 : formK 8 S = decide (mgM S + 7 ≤ S.length ∧ S.length = mgM S + 7 + mgO S) := by simp [formK]
theorem formKo : formK 127 S = decide (4 ≤ S.length) := by simp [formK]
theorem goodK4 : goodK 4 S = okSt ⟨S.toArray⟩ := by simp [goodK]
theorem goodK5 : goodK 5 S = okSt ⟨S.toArray⟩ := by simp [goodK]
theorem goodK6 : goodK 6 S = okSt ⟨S.toArray⟩ := by simp [goodK]
theorem goodK7 : goodK 7 S = okCp (cpOf S) := by simp [goodK]
theorem goodK8 : goodK 8 S = okMg (mgOf S) := by simp [goodK]
theorem goodKo : goodK 127 S = okOg (ogOf S) := by simp [goodK]
end
section
variable (x : Ld) (s : ByteArray)
theorem addLd1 : addLd x ⟨1, s⟩ = { x with ch := nmOf s.data.toList } := by simp [addLd]
theorem addLd2 : addLd x ⟨2, s⟩ = { x with po := nmOf s.data.toList } := by simp [addLd]
theorem addLd3 : addLd x ⟨3, s⟩ = { x with tt := (beN s.data.toList : Nat) } := by simp [addLd]
theorem addLd4 : addLd x ⟨4, s⟩ = { x with de := x.de ++ [s] } := by simp [addLd]
theorem addLd5 : addLd x ⟨5, s⟩ = { x with ho := x.ho ++ [s] } := by simp [addLd]
theorem addLd6 : addLd x ⟨6, s⟩ = { x with sy := x.sy ++ [s] } := by simp [addLd]
theorem addLd7 : addLd x ⟨7, s⟩ = { x with ca := x.ca ++ [cpOf s.data.toList] } := by simp [addLd]
theorem addLd8 : addLd x ⟨8, s⟩ = { x with ma := x.ma ++ [mgOf s.data.toList] } := by simp [addLd]
theorem addLdo : addLd x ⟨127, s⟩ = { x with og := x.og ++ [ogOf s.data.toList] } := by simp [addLd]
end
/-- The records behind the first three. -/
def ldRest (x : Ld) : List Tl := kTl 4 x.de ++ (kTl 5 x.ho ++ (kTl 6 x.sy ++ (x.ca.map cpTl ++ (x.ma.map mgTl ++ x.og.map ogTl))))
def ldT1 (x : Ld) : Tl := ⟨1, ⟨(nmW x.ch).toArray⟩⟩
def ldT2 (x : Ld) : Tl := ⟨2, ⟨(nmW x.po).toArray⟩⟩
def ldT3 (x : Ld) : Tl := ⟨3, ⟨(putL x.tt.toNat 2).toArray⟩⟩
theorem ldTls_rest (x : Ld) : ldTls x = ldT1 x :: ldT2 x :: ldT3 x :: ldRest x := by
  simp [ldTls, ldHead, ldRest, ldT1, ldT2, ldT3, List.append_assoc]
theorem cntK_map {α : Type} (f : α → Tl) (j k : Int) (l : List α) (h : ∀ y, (f y).k = j) : cntK k (l.map f) = if j = k then l.length else 0 := by
  induction l with
  | nil => simp [cntK]
  | cons a l ih =>
    rw [List.map_cons, cntK_cons, ih, h]
    split <;> simp <;> omega
theorem cntK_rest (x : Ld) (k : Int) : cntK k (ldRest x) = (if (4 : Int) = k then x.de.length else 0) + ((if (5 : Int) = k then x.ho.length else 0) + ((if (6 : Int) = k then x.sy.length else 0) + ((if (7 : Int) = k then x.ca.length else 0) + ((if (8 : Int) = k then x.ma.length else 0) + (if (127 : Int) = k then x.og.length else 0))))) := by
  unfold ldRest kTl
  rw [cntK_app, cntK_app, cntK_app, cntK_app, cntK_app, cntK_map _ 4 _ _ (fun _ => rfl), cntK_map _ 5 _ _ (fun _ => rfl), cntK_map _ 6 _ _ (fun _ => rfl), cntK_map _ 7 _ _ (fun _ => rfl), cntK_map _ 8 _ _ (fun _ => rfl), cntK_map _ 127 _ _ (fun _ => rfl)]
theorem okSt_txt (s : ByteArray) : okSt ⟨s.data.toList.toArray⟩ = okSt s := by rw [byT]
theorem ok_rest (x : Ld) (hok : okLd x = true) : OkTs (ldT1 x) (ldT2 x) (ldT3 x) (ldRest x) := by
  obtain ⟨o1, o2, o3, o4, o5, o6, o7, o8, o9⟩ := okLd_all hok
  have n1 := okNm_all o1
  have n2 := okNm_all o2
  refine ⟨rfl, rfl, rfl, ?_, ?_, ?_, ?_, ?_, ?_, ?_⟩
  · show 1 ≤ (nmW x.ch).length; rw [nmW_len]; omega
  · show okNm (nmOf (nmW x.ch)) = true; rw [nmOf_W _ (by omega) (by omega)]; exact o1
  · show 1 ≤ (nmW x.po).length; rw [nmW_len]; omega
  · show okNm (nmOf (nmW x.po)) = true; rw [nmOf_W _ (by omega) (by omega)]; exact o2
  · show (putL x.tt.toNat 2).length = 2; rw [putL_length]
  · intro t ht
    unfold ldRest kTl at ht
    simp only [List.mem_append, List.mem_map] at ht
    rcases ht with ⟨y, hy, rfl⟩ | ⟨y, hy, rfl⟩ | ⟨y, hy, rfl⟩ | ⟨y, hy, rfl⟩ | ⟨y, hy, rfl⟩ | ⟨y, hy, rfl⟩
    · exact ⟨by show (4 : Int) ≤ 4; decide, Or.inl (by show (4 : Int) ≤ 8; decide), formK4 _, by show goodK 4 _ = true; rw [goodK4, okSt_txt]; exact o4.2 y hy⟩
    · exact ⟨by show (4 : Int) ≤ 5; decide, Or.inl (by show (5 : Int) ≤ 8; decide), formK5 _, by show goodK 5 _ = true; rw [goodK5, okSt_txt]; exact o5.2 y hy⟩
    · exact ⟨by show (4 : Int) ≤ 6; decide, Or.inl (by show (6 : Int) ≤ 8; decide), formK6 _, by show goodK 6 _ = true; rw [goodK6, okSt_txt]; exact o6.2 y hy⟩
    · have q := okCp_all (o7.2 y hy)
      exact ⟨by show (4 : Int) ≤ 7; decide, Or.inl (by show (7 : Int) ≤ 8; decide), by show formK 7 (cpW y) = true; rw [formK7, cpW_len]; rfl, by show goodK 7 (cpW y) = true; rw [goodK7, cpOf_W y q]; exact o7.2 y hy⟩
    · have q := okMg_all (o8.2 y hy)
      exact ⟨by show (4 : Int) ≤ 8; decide, Or.inl (by show (8 : Int) ≤ 8; decide), by show formK 8 (mgW y) = true; rw [formK8, mgM_W y q.2.1, mgO_W y q.2.1 q.2.2.2.2, mgW_len]; simp; omega, by show goodK 8 (mgW y) = true; rw [goodK8, mgOf_W y q]; exact o8.2 y hy⟩
    · have q := okOg_all (o9.2 y hy)
      exact ⟨by show (4 : Int) ≤ 127; decide, Or.inr rfl, by show formK 127 (ogW y) = true; rw [formKo, ogW_len]; simp, by show goodK 127 (ogW y) = true; rw [goodKo, ogOf_W y ⟨q.1, q.2.1⟩]; exact o9.2 y hy⟩
  · intro k hk
    rw [cntK_rest]
    have l4 := o4.1
    have l5 := o5.1
    have l6 := o6.1
    have l7 := o7.1
    have l8 := o8.1
    have l9 := o9.1
    clear o1 o2 o3 o4 o5 o6 o7 o8 o9 hok n1 n2
    (repeat' split) <;> omega
theorem fold_de (l : List ByteArray) : ∀ x : Ld, (kTl 4 l).foldl addLd x = { x with de := x.de ++ l } := by
  induction l with
  | nil => intro x; simp [kTl]
  | cons a l ih => intro x; show (kTl 4 l).foldl addLd (addLd x ⟨4, a⟩) = _; rw [ih, addLd4]; simp
theorem fold_ho (l : List ByteArray) : ∀ x : Ld, (kTl 5 l).foldl addLd x = { x with ho := x.ho ++ l } := by
  induction l with
  | nil => intro x; simp [kTl]
  | cons a l ih => intro x; show (kTl 5 l).foldl addLd (addLd x ⟨5, a⟩) = _; rw [ih, addLd5]; simp
theorem fold_sy (l : List ByteArray) : ∀ x : Ld, (kTl 6 l).foldl addLd x = { x with sy := x.sy ++ l } := by
  induction l with
  | nil => intro x; simp [kTl]
  | cons a l ih => intro x; show (kTl 6 l).foldl addLd (addLd x ⟨6, a⟩) = _; rw [ih, addLd6]; simp
theorem fold_ca (l : List Cp) (h : ∀ y ∈ l, okCp y = true) : ∀ x : Ld, (l.map cpTl).foldl addLd x = { x with ca := x.ca ++ l } := by
  induction l with
  | nil => intro x; simp
  | cons a l ih =>
    intro x
    show (l.map cpTl).foldl addLd (addLd x ⟨7, ⟨(cpW a).toArray⟩⟩) = _
    rw [ih (fun y hy => h y (by simp [hy])), addLd7]
    show ({ x with ca := (x.ca ++ [cpOf (cpW a)]) ++ l } : Ld) = _
    rw [cpOf_W a (okCp_all (h a (by simp)))]
    simp
theorem fold_ma (l : List Mg) (h : ∀ y ∈ l, okMg y = true) : ∀ x : Ld, (l.map mgTl).foldl addLd x = { x with ma := x.ma ++ l } := by
  induction l with
  | nil => intro x; simp
  | cons a l ih =>
    intro x
    show (l.map mgTl).foldl addLd (addLd x ⟨8, ⟨(mgW a).toArray⟩⟩) = _
    rw [ih (fun y hy => h y (by simp [hy])), addLd8]
    show ({ x with ma := (x.ma ++ [mgOf (mgW a)]) ++ l } : Ld) = _
    rw [mgOf_W a (okMg_all (h a (by simp)))]
    simp
theorem fold_og (l : List Og) (h : ∀ y ∈ l, okOg y = true) : ∀ x : Ld, (l.map ogTl).foldl addLd x = { x with og := x.og ++ l } := by
  induction l with
  | nil => intro x; simp
  | cons a l ih =>
    intro x
    have q := okOg_all (h a (by simp))
    show (l.map ogTl).foldl addLd (addLd x ⟨127, ⟨(ogW a).toArray⟩⟩) = _
    rw [ih (fun y hy => h y (by simp [hy])), addLdo]
    show ({ x with og := (x.og ++ [ogOf (ogW a)]) ++ l } : Ld) = _
    rw [ogOf_W a ⟨q.1, q.2.1⟩]
    simp
/-- What is told is heard. -/
theorem ldVal_tls (x : Ld) (hok : okLd x = true) : ldVal (ldTls x) = x := by
  obtain ⟨o1, o2, o3, o4, o5, o6, o7, o8, o9⟩ := okLd_all hok
  have n1 := okNm_all o1
  have n2 := okNm_all o2
  rw [ldTls_rest]
  unfold ldVal ldRest
  simp only [List.foldl_cons, List.foldl_append]
  have e1 : addLd (addLd (addLd zLd (ldT1 x)) (ldT2 x)) (ldT3 x) = ⟨x.ch, x.po, x.tt, [], [], [], [], [], []⟩ := by
    unfold ldT1 ldT2 ldT3
    rw [addLd1, addLd2, addLd3]
    show (⟨nmOf (nmW x.ch), nmOf (nmW x.po), (beN (putL x.tt.toNat 2) : Nat), [], [], [], [], [], []⟩ : Ld) = _
    rw [nmOf_W _ (by omega) (by omega), nmOf_W _ (by omega) (by omega), beN_putL_fits _ _ (by omega)]
    congr 1
    omega
  rw [e1, fold_de, fold_ho, fold_sy, fold_ca _ o7.2, fold_ma _ o8.2, fold_og _ o9.2]
  simp
theorem accept_tls (x : Ld) (hok : okLd x = true) : accept (ldTls x) := by
  rw [ldTls_rest]
  exact accept_of _ _ _ _ (ok_rest x hok)
theorem rdLd_W (x : Ld) (hok : okLd x = true) : rdLd (ldW x) = .ok x := by
  unfold rdLd ldW
  rw [rdAll_wrote _ (ldTls_ok x hok)]
  show ldGo _ [] zLd _ _ = _
  rw [ldGo_acc]
  exact ⟨accept_tls x hok, (ldVal_tls x hok).symm⟩
/-- What is told of it in lists may be. -/
def LdOk (x : Ld) : Prop := (∀ y ∈ x.de, okSt y = true) ∧ (∀ y ∈ x.ho, okSt y = true) ∧ (∀ y ∈ x.sy, okSt y = true) ∧ (∀ y ∈ x.ca, okCp y = true) ∧ (∀ y ∈ x.ma, okMg y = true) ∧ (∀ y ∈ x.og, okOg y = true)
def costL (x : Ld) : Nat := (tlWs (ldRest x)).length
theorem kTl_app (k : Int) (l m : List ByteArray) : kTl k (l ++ m) = kTl k l ++ kTl k m := by simp [kTl]
theorem tlWs_one (t : Tl) : (tlWs [t]).length = 2 + t.t.size := by rw [tlWs_cons, List.length_append, tlW_len]; simp [tlWs]
theorem txT_len (t : Tl) : (txT t).length = t.t.size := by simp
theorem add_step (x : Ld) (t : Tl) (h : okR t) : (addLd x t).ch = x.ch ∧ (addLd x t).po = x.po ∧ (addLd x t).tt = x.tt ∧
    (addLd x t).de.length = x.de.length + cntK 4 [t] ∧ (addLd x t).ho.length = x.ho.length + cntK 5 [t] ∧ (addLd x t).sy.length = x.sy.length + cntK 6 [t] ∧ (addLd x t).ca.length = x.ca.length + cntK 7 [t] ∧ (addLd x t).ma.length = x.ma.length + cntK 8 [t] ∧ (addLd x t).og.length = x.og.length + cntK 127 [t] ∧
    (LdOk x → LdOk (addLd x t)) ∧ costL (addLd x t) = costL x + (2 + t.t.size) := by
  obtain ⟨k, s⟩ := t
  obtain ⟨h1, h2, h3, h4⟩ := h
  simp only at h1 h2 h3 h4
  have hk : k = 4 ∨ k = 5 ∨ k = 6 ∨ k = 7 ∨ k = 8 ∨ k = 127 := by omega
  have hs : (txT ⟨k, s⟩).length = s.size := txT_len _
  simp only [txT] at hs h3 h4
  rcases hk with rfl | rfl | rfl | rfl | rfl | rfl
  · rw [goodK4, okSt_txt] at h4
    rw [addLd4]
    refine ⟨rfl, rfl, rfl, by simp [cntK], by simp [cntK], by simp [cntK], by simp [cntK], by simp [cntK], by simp [cntK], ?_, ?_⟩
    · rintro ⟨q1, q2, q3, q4, q5, q6⟩
      refine ⟨fun y hy => ?_, q2, q3, q4, q5, q6⟩
      rcases List.mem_append.1 hy with hy | hy
      · exact q1 y hy
      · rw [List.mem_singleton.1 hy]; exact h4
    · unfold costL ldRest
      simp only [kTl_app, tlWs_app, List.length_append]
      have := tlWs_one ⟨4, s⟩
      show _ + (tlWs [⟨4, s⟩]).length + _ = _
      simp only at this
      omega
  · rw [goodK5, okSt_txt] at h4
    rw [addLd5]
    refine ⟨rfl, rfl, rfl, by simp [cntK], by simp [cntK], by simp [cntK], by simp [cntK], by simp [cntK], by simp [cntK], ?_, ?_⟩
    · rintro ⟨q1, q2, q3, q4, q5, q6⟩
      refine ⟨q1, fun y hy => ?_, q3, q4, q5, q6⟩
      rcases List.mem_append.1 hy with hy | hy
      · exact q2 y hy
      · rw [List.mem_singleton.1 hy]; exact h4
    · unfold costL ldRest
      simp only [kTl_app, tlWs_app, List.length_append]
      have := tlWs_one ⟨5, s⟩
      show _ + (_ + (tlWs [⟨5, s⟩]).length + _) = _
      simp only at this
      omega
  · rw [goodK6, okSt_txt] at h4
    rw [addLd6]
    refine ⟨rfl, rfl, rfl, by simp [cntK], by simp [cntK], by simp [cntK], by simp [cntK], by simp [cntK], by simp [cntK], ?_, ?_⟩
    · rintro ⟨q1, q2, q3, q4, q5, q6⟩
      refine ⟨q1, q2, fun y hy => ?_, q4, q5, q6⟩
      rcases List.mem_append.1 hy with hy | hy
      · exact q3 y hy
      · rw [List.mem_singleton.1 hy]; exact h4
    · unfold costL ldRest
      simp only [kTl_app, tlWs_app, List.length_append]
      have := tlWs_one ⟨6, s⟩
      show _ + (_ + (_ + (tlWs [⟨6, s⟩]).length + _)) = _
      simp only at this
      omega
  · rw [goodK7] at h4
    rw [formK7, decide_eq_true_eq] at h3
    rw [addLd7]
    refine ⟨rfl, rfl, rfl, by simp [cntK], by simp [cntK], by simp [cntK], by simp [cntK], by simp [cntK], by simp [cntK], ?_, ?_⟩
    · rintro ⟨q1, q2, q3, q4, q5, q6⟩
      refine ⟨q1, q2, q3, fun y hy => ?_, q5, q6⟩
      rcases List.mem_append.1 hy with hy | hy
      · exact q4 y hy
      · rw [List.mem_singleton.1 hy]; exact h4
    · unfold costL ldRest
      simp only [List.map_append, List.map_cons, List.map_nil, tlWs_app, List.length_append]
      have := tlWs_one (cpTl (cpOf s.data.toList))
      have e : (cpTl (cpOf s.data.toList)).t.size = 4 := by show (⟨(cpW _).toArray⟩ : ByteArray).size = 4; rw [bysz, cpW_len]
      omega
  · rw [goodK8] at h4
    rw [formK8, decide_eq_true_eq] at h3
    rw [addLd8]
    refine ⟨rfl, rfl, rfl, by simp [cntK], by simp [cntK], by simp [cntK], by simp [cntK], by simp [cntK], by simp [cntK], ?_, ?_⟩
    · rintro ⟨q1, q2, q3, q4, q5, q6⟩
      refine ⟨q1, q2, q3, q4, fun y hy => ?_, q6⟩
      rcases List.mem_append.1 hy with hy | hy
      · exact q5 y hy
      · rw [List.mem_singleton.1 hy]; exact h4
    · unfold costL ldRest
      simp only [List.map_append, List.map_cons, List.map_nil, tlWs_app, List.length_append]
      have := tlWs_one (mgTl (mgOf s.data.toList))
      have hm : 1 ≤ mgM s.data.toList := by unfold mgM; omega
      have e : (mgTl (mgOf s.data.toList)).t.size = s.size := by
        show (⟨(mgW _).toArray⟩ : ByteArray).size = _
        rw [bysz, mgW_len]
        unfold mgOf
        simp only [bysz, List.length_take, List.length_drop]
        omega
      omega
  · rw [goodKo] at h4
    rw [formKo, decide_eq_true_eq] at h3
    rw [addLdo]
    refine ⟨rfl, rfl, rfl, by simp [cntK], by simp [cntK], by simp [cntK], by simp [cntK], by simp [cntK], by simp [cntK], ?_, ?_⟩
    · rintro ⟨q1, q2, q3, q4, q5, q6⟩
      refine ⟨q1, q2, q3, q4, q5, fun y hy => ?_⟩
      rcases List.mem_append.1 hy with hy | hy
      · exact q6 y hy
      · rw [List.mem_singleton.1 hy]; exact h4
    · unfold costL ldRest
      simp only [List.map_append, List.map_cons, List.map_nil, tlWs_app, List.length_append]
      have := tlWs_one (ogTl (ogOf s.data.toList))
      have e : (ogTl (ogOf s.data.toList)).t.size = s.size := by
        show (⟨(ogW _).toArray⟩ : ByteArray).size = _
        rw [bysz, ogW_len]
        unfold ogOf
        simp only [bysz, List.length_drop]
        omega
      omega
theorem add_all : ∀ (r : List Tl) (x : Ld), (∀ t ∈ r, okR t) → (r.foldl addLd x).ch = x.ch ∧ (r.foldl addLd x).po = x.po ∧ (r.foldl addLd x).tt = x.tt ∧
    (r.foldl addLd x).de.length = x.de.length + cntK 4 r ∧ (r.foldl addLd x).ho.length = x.ho.length + cntK 5 r ∧ (r.foldl addLd x).sy.length = x.sy.length + cntK 6 r ∧ (r.foldl addLd x).ca.length = x.ca.length + cntK 7 r ∧ (r.foldl addLd x).ma.length = x.ma.length + cntK 8 r ∧ (r.foldl addLd x).og.length = x.og.length + cntK 127 r ∧
    (LdOk x → LdOk (r.foldl addLd x)) ∧ costL (r.foldl addLd x) = costL x + (tlWs r).length
  | [], x, _ => by simp [cntK, tlWs]
  | t :: r, x, h => by
    obtain ⟨a1, a2, a3, a4, a5, a6, a7, a8, a9, a10, a11⟩ := add_step x t (h t (by simp))
    obtain ⟨b1, b2, b3, b4, b5, b6, b7, b8, b9, b10, b11⟩ := add_all r (addLd x t) (fun u hu => h u (by simp [hu]))
    have e : ∀ k, cntK k (t :: r) = cntK k [t] + cntK k r := fun k => by rw [show t :: r = [t] ++ r from rfl, cntK_app]
    rw [List.foldl_cons, e, e, e, e, e, e, tlWs_cons, List.length_append, tlW_len]
    exact ⟨b1.trans a1, b2.trans a2, b3.trans a3, by omega, by omega, by omega, by omega, by omega, by omega, fun q => b10 (a10 q), by omega⟩
/-- What is heard is right. -/
theorem ldVal_ok (ts : List Tl) (h0 : ∀ t ∈ ts, 0 < t.k) (h : accept ts) : okLd (ldVal ts) = true ∧ (tlWrite (ldTls (ldVal ts))).length = (tlWrite ts).length := by
  obtain ⟨t1, t2, t3, r, rfl, ho⟩ := accept_to ts h0 h
  obtain ⟨k1, s1⟩ := t1
  obtain ⟨k2, s2⟩ := t2
  obtain ⟨k3, s3⟩ := t3
  obtain ⟨rfl, rfl, rfl, f1, g1, f2, g2, f3, hr, hc⟩ := ho
  have e1 : ldVal (⟨1, s1⟩ :: ⟨2, s2⟩ :: ⟨3, s3⟩ :: r) = r.foldl addLd ⟨nmOf s1.data.toList, nmOf s2.data.toList, (beN s3.data.toList : Nat), [], [], [], [], [], []⟩ := by
    unfold ldVal
    rw [List.foldl_cons, List.foldl_cons, List.foldl_cons, addLd1, addLd2, addLd3]
    rfl
  obtain ⟨b1, b2, b3, b4, b5, b6, b7, b8, b9, b10, b11⟩ := add_all r ⟨nmOf s1.data.toList, nmOf s2.data.toList, (beN s3.data.toList : Nat), [], [], [], [], [], []⟩ hr
  rw [e1]
  generalize r.foldl addLd _ = y at *
  obtain ⟨c1, c2, c3, c4, c5, c6⟩ := b10 ⟨by simp, by simp, by simp, by simp, by simp, by simp⟩
  have l4 := hc 4 (by decide)
  have l5 := hc 5 (by decide)
  have l6 := hc 6 (by decide)
  have l7 := hc 7 (by decide)
  have l8 := hc 8 (by decide)
  have l9 := hc 127 (by decide)
  simp at l4 l5 l6 l7 l8 l9 b4 b5 b6 b7 b8 b9
  have ht : fitI 2 y.tt = true := by
    rw [b3]
    have q := beN_lt s3.data.toList
    have f3' : s3.data.toList.length = 2 := f3
    rw [f3'] at q
    unfold fitI
    have e : (256 : Int) ^ 2 = 65536 := by decide
    simp only [e, Bool.and_eq_true, decide_eq_true_eq]
    omega
  constructor
  · unfold okLd few
    simp only [Bool.and_eq_true, decide_eq_true_eq, List.all_eq_true]
    rw [b1, b2]
    exact ⟨g1, g2, ht, ⟨by omega, c1⟩, ⟨by omega, c2⟩, ⟨by omega, c3⟩, ⟨by omega, c4⟩, by omega, c5, by omega, c6⟩
  · unfold tlWrite
    rw [List.length_append, List.length_append, ldTls_rest]
    rw [tlWs_cons, tlWs_cons, tlWs_cons, tlWs_cons, tlWs_cons, tlWs_cons]
    simp only [List.length_append, tlW_len]
    have q1 : (ldT1 y).t.size = s1.size := by
      show (⟨(nmW y.ch).toArray⟩ : ByteArray).size = _
      have f1' : 1 ≤ s1.data.toList.length := f1
      have hs : s1.data.toList.length = s1.size := by simp
      rw [bysz, nmW_len, b1]
      simp only [nmOf, bysz, List.length_drop]
      omega
    have q2 : (ldT2 y).t.size = s2.size := by
      show (⟨(nmW y.po).toArray⟩ : ByteArray).size = _
      have f2' : 1 ≤ s2.data.toList.length := f2
      have hs : s2.data.toList.length = s2.size := by simp
      rw [bysz, nmW_len, b2]
      simp only [nmOf, bysz, List.length_drop]
      omega
    have q3 : (ldT3 y).t.size = s3.size := by
      show (⟨(putL y.tt.toNat 2).toArray⟩ : ByteArray).size = _
      have f3' : s3.data.toList.length = 2 := f3
      have hs : s3.data.toList.length = s3.size := by simp
      rw [bysz, putL_length]
      omega
    have q4 : (tlWs (ldRest y)).length = (tlWs r).length := by
      have := b11
      unfold costL at this
      rw [this]
      simp [ldRest, kTl, tlWs]
    omega
/-- Two neighbours of unlike kinds may change places. -/
theorem add_swap (x : Ld) (u v : Tl) (hu : okR u) (hv : okR v) (h : u.k ≠ v.k) : addLd (addLd x u) v = addLd (addLd x v) u := by
  obtain ⟨k, s⟩ := u
  obtain ⟨j, r⟩ := v
  obtain ⟨h1, h2, -⟩ := hu
  obtain ⟨h3, h4, -⟩ := hv
  simp only at h h1 h2 h3 h4
  have hk : k = 4 ∨ k = 5 ∨ k = 6 ∨ k = 7 ∨ k = 8 ∨ k = 127 := by omega
  have hj : j = 4 ∨ j = 5 ∨ j = 6 ∨ j = 7 ∨ j = 8 ∨ j = 127 := by omega
  clear h1 h2 h3 h4
  rcases hk with rfl | rfl | rfl | rfl | rfl | rfl <;> rcases hj with rfl | rfl | rfl | rfl | rfl | rfl <;> first | exact absurd rfl h | simp only [addLd4, addLd5, addLd6, addLd7, addLd8, addLdo]
theorem swap_ok (x : Ld) (hok : okLd x = true) (a b : List Tl) (u v : Tl) (hs : ldRest x = a ++ u :: v :: b) (h : u.k ≠ v.k) :
    accept (ldT1 x :: ldT2 x :: ldT3 x :: (a ++ v :: u :: b)) ∧ ldVal (ldT1 x :: ldT2 x :: ldT3 x :: (a ++ v :: u :: b)) = x := by
  have ho := ok_rest x hok
  rw [hs] at ho
  have hu := ho.hr u (by simp)
  have hv := ho.hr v (by simp)
  constructor
  · refine accept_of _ _ _ _ ⟨ho.k1, ho.k2, ho.k3, ho.f1, ho.g1, ho.f2, ho.g2, ho.f3, ?_, ?_⟩
    · intro t ht
      refine ho.hr t ?_
      simp only [List.mem_append, List.mem_cons] at ht ⊢
      rcases ht with q | q | q | q
      · exact Or.inl q
      · exact Or.inr (Or.inr (Or.inl q))
      · exact Or.inr (Or.inl q)
      · exact Or.inr (Or.inr (Or.inr q))
    · intro k hk
      have := ho.hc k hk
      rw [cntK_app, cntK_cons, cntK_cons] at this ⊢
      omega
  · have e := ldVal_tls x hok
    rw [ldTls_rest, hs] at e
    unfold ldVal at e ⊢
    rw [List.foldl_cons, List.foldl_cons, List.foldl_cons, List.foldl_append, List.foldl_cons, List.foldl_cons] at e ⊢
    rw [add_swap _ _ _ hv hu (Ne.symm h)]
    exact e

end Go.Proofs.YtcijhmbimbejfaaDoor

