/- Texts one behind the other. tlv.Write at every list. lldp.Write at every announcement. -/
import Derived.Test.YtcijhmbimbejfaaGreatDoorLbK3
import Derived.Test.YtcijhmbimbejfaaGreatDoorLbK4
namespace Go.Proofs.YtcijhmbimbejfaaGreatDoor
open Go.RowKit
attribute [local go_sem ↓] Go.wp_at_zero Go.wp_at_succ
set_option linter.unusedSimpArgs false
set_option linter.unusedVariables false
set_option maxRecDepth 100000

/-- put: a record comes behind what a Builder has. -/
theorem put_tl (b : Nat) (y : List UInt8) (x : Tl) (w : World) (h : BU b y w) (h0 : 0 ≤ x.k) (h1 : x.k ≤ 127) (h2 : x.t.size ≤ 511) (hlen : y.length ≤ 900000) (hBw : b ≤ w.heap.size) :
    Calls Tryz.prog 67 #[.agg (tlC x), .pointer (some ⟨b, 0, none⟩)] w fun e w' => e = .returned (.tuple #[]) ∧ BU b (y ++ tlW x) w' ∧ Below b w w' ∧ KeepB w w' := by
  have hd : hdT x < 65536 := by unfold hdT; omega
  have m1 : IntKind.i64.wrap (512 * x.k) = 512 * x.k := by rw [IntKind.wrap_i64] <;> omega
  have m2 : IntKind.i64.wrap (512 * x.k + (x.t.size : Int)) = (hdT x : Int) := by
    unfold hdT
    rw [IntKind.wrap_i64] <;> omega
  have HM := Lib.hid (fun W => must_fits (hdT x) 2 W (by decide) (by decide) (by omega))
  have hp2 := putL_length (hdT x) 2
  have HW : Hid (tlW x = putL (hdT x) 2 ++ x.t.data.toList) := rfl
  have htl : x.t.data.toList.length = x.t.size := by simp
  have HA := Blk.new w 85 (tlC x)
  have b0 : Below w.heap.size w (w.alloc (.cells (tlC x) 85)) := (Below.refl _ _).alloc (Nat.le_refl _) _
  generalize putL (hdT x) 2 = z at *
  generalize hdT x = hdn at *
  go_enter Tryz.func67, Tryz.ntmps67
  go_upto_region 1 with (fail)
  generalize (w.alloc (.cells (tlC x) 85)) = w0 at *
  have c0 := HA.cv 0 (.int .i64 x.k) rfl
  have c1 := HA.cv 1 (.string x.t) rfl
  go_wp2_with fail
  refine (HM.out _).mono ?_
  rintro e w1 ⟨rfl, k1⟩
  have b1 := b0.trans (k1.mono b0.size)
  have HA1 := HA.kept k1
  have hlt := HA.lt
  have IB1 : BU b y w1 := isB_below h b1
  have hB1 := Nat.le_trans hBw b1.size
  clear c0 c1 HA b0 k1
  go_wp2_with fail
  refine (write_bu b y z _ IB1 (by omega) hB1).mono ?_
  rintro e w2 ⟨rfl, IB2, b2, K2⟩
  have HA2 := K2 _ _ _ HA1 (by decide) (by decide)
  have c1 := HA2.cv 1 (.string x.t) rfl
  rw [show x.t = ⟨x.t.data.toList.toArray⟩ from rfl] at c1
  have hlz : (y ++ z).length = y.length + 2 := by rw [List.length_append, hp2]
  generalize x.t.data.toList = tl at *
  go_wp2_with fail
  refine (write_bu b (y ++ z) tl _ IB2 (by omega) (Nat.le_trans hB1 b2.size)).mono ?_
  rintro e w3 ⟨rfl, IB3, b3, K3⟩
  rw [List.append_assoc, ← HW.out] at IB3
  go_wp2
  go_end0
  exact ⟨rfl, IB3, ((b1.mono hBw).trans b2).trans b3, ((KeepB.of b1).trans K2).trans K3⟩

set_option maxHeartbeats 3200000 in
theorem tlWrite_any (a : Option Addr) (c : Nat) (l : List Tl) (m : Nat) (hm : m ≤ l.length) (hok : ∀ x ∈ l.take m, okTl x = true) (hlen : l.length ≤ 1700) (X : List UInt8) (e0 pl : Int) (hend : (m = l.length ∧ X = tlWrite l ∧ e0 = 0 ∧ pl = -1) ∨ (∃ hk : m < l.length, okTl l[m] = false ∧ X = [] ∧ e0 = 1 ∧ pl = m)) (w : World) (h : TlIn w a l) :
    Calls Tryz.prog 33 #[.slice a l.length c] w fun e w' => ∃ er, e = .returned (.tuple #[.string ⟨X.toArray⟩, er]) ∧ ErrAs w' er e0 pl ∧ Below w.heap.size w w' := by
  have HB0 := bu_new w
  have B0 : Below w.heap.size w (w.alloc (.cells #[.pointer none, .slice none 0 0] 159)) := (Below.refl _ _).alloc (Nat.le_refl _) _
  have HSL : Hid (∀ k, k ≤ m → (tlWs (l.take k)).length ≤ 513 * k) := fun k hk => by
    have q := tlWs_le (l.take k) (fun x hx => hok x (by
      rw [show k = min k m by omega, ← List.take_take] at hx
      exact List.mem_of_mem_take hx))
    have q2 := List.length_take_le k l
    omega
  have HOK : Hid (∀ (k : Nat) (hk : k < l.length), k < m → okTl l[k] = true) := fun k hk hkm => hok _ (by
    rw [List.mem_iff_getElem]
    exact ⟨k, by rw [List.length_take]; omega, by rw [List.getElem_take]⟩)
  have HT := Lib.hid (tlWs_take l)
  have hmf : ∀ (fn : Fn) (first cap : Array Value) (w : World), (Instr.makeFunc fn first cap).run Tryz.prog w = .ok (.func fn first cap) w := fun _ _ _ _ => rfl
  clear hok
  go_enter Tryz.func33, Tryz.ntmps33
  go_upto_region 2 with (fail)
  generalize w.alloc (.cells #[.pointer none, .slice none 0 0] 159) = w1 at *
  go_wp2_with fail
  go_loopw [11] (fun i wr => ∃ k : Nat, k ≤ m ∧ i = .int .i64 k ∧ BU w.heap.size (tlWs (l.take k)) wr ∧ Below w.heap.size w wr) (fun i _ => l.length - (intOf i).toNat)
  case atStart => exact ⟨0, by omega, rfl, by rw [List.take_zero]; exact HB0, B0⟩
  case round =>
    obtain ⟨k, hk, rfl, HBk, Bk⟩ := hrel
    have hsk := HSL.out k hk
    have hsw := Bk.size
    by_cases hlt : k < l.length
    · have hIk := h.below Bk
      obtain ⟨b, lo, rfl, hbl, hat⟩ := hIk.at hlt
      have q1 : (k : Int) < (l.length : Int) := by omega
      have q2 : decide ((k : Int) < (l.length : Int)) = true := decide_eq_true q1
      have q3 : (0 : Int) ≤ (k : Int) := by omega
      have HK := hat k hlt
      have HA4 := Blk.new wr 85 (tlC zTl)
      have B4 := Bk.alloc Bk.size (.cells (tlC zTl) 85)
      have hb4 : Below wr.heap.size wr (wr.alloc (.cells (tlC zTl) 85)) := (Below.refl _ _).alloc (Nat.le_refl _) _
      have HR := Lib.hid (tlRight_any l[k])
      have hHT := Lib.hid (HT.out k hlt)
      have hOK := Lib.hid (fun h => HOK.out k hlt h)
      have hbad : Hid (m = k → okTl l[k] = false ∧ X = [] ∧ e0 = 1 ∧ pl = k) := fun e1 => by
        rcases hend with ⟨r1, _⟩ | ⟨hk2, r2, r3, r4, r5⟩
        · omega
        · subst e1
          exact ⟨r2, r3, r4, r5⟩
      generalize l[k] = x at *
      clear hat Bk hend HT HOK hIk
      go_upto_region 6 with (first
        | (refine load_cells (B := b) (k := lo + k * 2) 85 (tlC x) (by rfl) rfl rfl HK (by kernel_rfl) (by kernel_rfl) ?_)
        | (refine alloc_blk 85 (tlC zTl) (by rfl) rfl Tryz.tlZero ?_)
        | (refine store_blk (k := 0) 85 (.agg (tlC x)) (tlC x) (by rfl) rfl rfl rfl HA4 (by kernel_rfl) (show (2 : Nat) ≤ 2 from Nat.le_refl 2) (by rfl) (st_whole _ _ rfl) ?_; intro w5 HA5 b5 g5))
      have HB5 : BU w.heap.size (tlWs (l.take k)) w5 := isB_below HBk ((hb4).trans b5)
      have B5 := B4.trans (b5.mono hsw)
      clear HA4 B4 b5 g5 HK hb4 HBk
      generalize wr.heap.size = g at *
      by_cases hkm : k < m
      · have hx := hOK.out hkm
        obtain ⟨o1, o2, o3⟩ := okTl_all hx
        replace HR : Hid (∀ W, Calls Tryz.prog 70 #[.agg (tlC x)] W fun e w' => e = .returned (.bool true) ∧ Below W.heap.size W w') := fun W => by rw [← hx]; exact HR.out W
        clear hbad hOK hx
        go_wp2_with (refine load_blk (k := 0) 85 (tlC x) (by rfl) rfl rfl HA5 (by kernel_rfl) (by kernel_rfl) rfl ?_)
        refine (HR.out _).mono ?_
        rintro e w6 ⟨rfl, b6⟩
        have HA6 := HA5.kept b6
        have HB6 : BU w.heap.size (tlWs (l.take k)) w6 := isB_below HB5 b6
        have B6 := B5.trans (b6.mono B5.size)
        clear HA5 HB5 B5 b6 HR
        go_wp2_with (refine load_blk (k := 0) 85 (tlC x) (by rfl) rfl rfl HA6 (by kernel_rfl) (by kernel_rfl) rfl ?_)
        refine (put_tl w.heap.size _ x _ HB6 (by omega) o2 o3 (by omega) B6.size).mono ?_
        rintro e w7 ⟨rfl, HB7, b7, K7⟩
        rw [← hHT.out] at HB7
        have B7 := B6.trans b7
        go_wp2
        go_roundw
        case rel => exact ⟨k + 1, by omega, by go_num, HB7, B7⟩
        case measure => simp [intOf]; omega
      · obtain rfl : k = m := by omega
        obtain ⟨hx, rfl, rfl, rfl⟩ := hbad.out rfl
        replace HR : Hid (∀ W, Calls Tryz.prog 70 #[.agg (tlC x)] W fun e w' => e = .returned (.bool false) ∧ Below W.heap.size W w') := fun W => by rw [← hx]; exact HR.out W
        clear hbad hOK hx
        go_wp2_with (refine load_blk (k := 0) 85 (tlC x) (by rfl) rfl rfl HA5 (by kernel_rfl) (by kernel_rfl) rfl ?_)
        refine (HR.out _).mono ?_
        rintro e w6 ⟨rfl, b6⟩
        have B6 := B5.trans (b6.mono B5.size)
        have F7 : Flt (w6.alloc (.cells #[.int .i64 1, .int .i64 k] 104)) w6.heap.size 1 k := heap_alloc_new w6 _
        have B7 := B6.alloc B6.size (.cells #[.int .i64 1, .int .i64 k] 104)
        go_wp2
        go_ret2
        exact ⟨_, rfl, Or.inr ⟨by decide, _, rfl, F7⟩, B7⟩
    · obtain rfl : k = l.length := by omega
      obtain rfl : m = l.length := by omega
      have q2 : decide ((l.length : Int) < (l.length : Int)) = false := decide_eq_false (by omega)
      obtain ⟨hX, rfl, rfl⟩ : X = tlWs l ++ [0, 0] ∧ e0 = 0 ∧ pl = -1 := by
        rcases hend with ⟨_, r1, r2, r3⟩ | ⟨hk2, _⟩
        · exact ⟨r1, r2, r3⟩
        · omega
      rw [List.take_length] at HBk hsk
      have HX : Hid (tlWs l ++ tlW zTl = X) := by
        show _ = _
        rw [hX]
        rfl
      clear hX hend
      go_wp2_with (refine build_blk (t := 85) (tlC zTl) (by rfl) rfl (by kernel_rfl) ?_)
      refine (put_tl w.heap.size _ zTl _ HBk (by decide) (by decide) (by decide) (by omega) hsw).mono ?_
      rintro e w7 ⟨rfl, HB7, b7, K7⟩
      rw [HX.out] at HB7
      have B7 := Bk.trans b7
      go_wp2_with fail
      refine (Tryz.Builder_String_any w.heap.size w.heap.size _ _ HB7 B7.size).mono ?_
      rintro e w8 ⟨rfl, k8⟩
      go_wp2
      go_ret2
      exact ⟨_, rfl, Or.inl ⟨rfl, rfl, rfl⟩, B7.trans k8⟩

end Go.Proofs.YtcijhmbimbejfaaGreatDoor

namespace Go.Proofs.YtcijhmbimbejfaaGreatDoor
open Go.RowKit
attribute [local go_sem ↓] Go.wp_at_zero Go.wp_at_succ
set_option linter.unusedSimpArgs false
set_option linter.unusedVariables false
set_option maxRecDepth 100000

/-- What a station tells, as bytes. -/
def ldW (x : Ld) : List UInt8 := tlWrite (ldTls x)
theorem ldTls_len (x : Ld) : (ldTls x).length = 3 + x.de.length + x.ho.length + x.sy.length + x.ca.length + x.ma.length + x.og.length := by
  simp only [ldTls, ldHead, List.length_append, kTl_len, List.length_map, List.length_cons, List.length_nil]
theorem okTl_of {k : Int} {t : ByteArray} (h1 : 0 < k) (h2 : k ≤ 127) (h3 : t.size ≤ 511) : okTl ⟨k, t⟩ = true := by
  simp only [okTl, Bool.and_eq_true, decide_eq_true_eq]
  refine ⟨h1, h2, ?_⟩
  omega
theorem kTl_ok {k : Int} {l : List ByteArray} (h1 : 0 < k) (h2 : k ≤ 127) (h : ∀ y ∈ l, okSt y = true) : ∀ y ∈ kTl k l, okTl y = true := by
  intro y hy
  unfold kTl at hy
  obtain ⟨s, hs, rfl⟩ := List.mem_map.1 hy
  have := h s hs
  simp only [okSt, decide_eq_true_eq] at this
  exact okTl_of h1 h2 (by omega)
theorem bysz (l : List UInt8) : (⟨l.toArray⟩ : ByteArray).size = l.length := by simp [ByteArray.size]
theorem ldTls_ok (x : Ld) (hok : okLd x = true) : ∀ y ∈ ldTls x, okTl y = true := by
  obtain ⟨o1, o2, o3, o4, o5, o6, o7, o8, o9⟩ := okLd_all hok
  have m1 := okNm_all o1
  have m2 := okNm_all o2
  intro y hy
  unfold ldTls at hy
  simp only [List.mem_append] at hy
  rcases hy with (((((hy | hy) | hy) | hy) | hy) | hy) | hy
  · simp only [ldHead, List.mem_cons, List.not_mem_nil, or_false] at hy
    rcases hy with rfl | rfl | rfl
    · exact okTl_of (by decide) (by decide) (by rw [bysz, nmW_len]; omega)
    · exact okTl_of (by decide) (by decide) (by rw [bysz, nmW_len]; omega)
    · exact okTl_of (by decide) (by decide) (by rw [bysz, putL_length]; omega)
  · exact kTl_ok (by decide) (by decide) o4.2 y hy
  · exact kTl_ok (by decide) (by decide) o5.2 y hy
  · exact kTl_ok (by decide) (by decide) o6.2 y hy
  · obtain ⟨s, hs, rfl⟩ := List.mem_map.1 hy
    exact okTl_of (by decide) (by decide) (by rw [bysz, cpW_len]; omega)
  · obtain ⟨s, hs, rfl⟩ := List.mem_map.1 hy
    have := okMg_all (o8.2 s hs)
    exact okTl_of (by decide) (by decide) (by rw [bysz, mgW_len]; omega)
  · obtain ⟨s, hs, rfl⟩ := List.mem_map.1 hy
    have := okOg_all (o9.2 s hs)
    exact okTl_of (by decide) (by decide) (by rw [bysz, ogW_len]; omega)
theorem ldTls_le (x : Ld) (hok : okLd x = true) : (ldTls x).length ≤ 47 := by
  obtain ⟨o1, o2, o3, o4, o5, o6, o7, o8, o9⟩ := okLd_all hok
  rw [ldTls_len]
  omega
theorem ldW_le (x : Ld) (hok : okLd x = true) : (ldW x).length ≤ 30000 := by
  have h1 := tlWs_le (ldTls x) (ldTls_ok x hok)
  have h2 := ldTls_le x hok
  unfold ldW tlWrite
  rw [List.length_append]
  show _ + 2 ≤ _
  omega
/-- The error of Write. -/
def ldE (ok : Bool) : Value := if ok then .nilIface else .iface 30 (.int .i64 1)
def ldX (x : Ld) : List UInt8 := if okLd x then ldW x else []

set_option maxHeartbeats 1600000 in
theorem ldWrite_any (x : Ld) (q : LdA) (w : World) (h : LdIn w x q) (hr : rgLd x) :
    Calls Tryz.prog 11 #[.agg (ldC x q)] w fun e w' => e = .returned (.tuple #[.string ⟨(ldX x).toArray⟩, ldE (okLd x)]) ∧ Below w.heap.size w w' := by
  have HA0 := Blk.new w 29 (ldC x q)
  have B0 : Below w.heap.size w (w.alloc (.cells (ldC x q) 29)) := (Below.refl _ _).alloc (Nat.le_refl _) _
  have HR := Lib.hid (fun W (h : LdIn W x q) => ldRight_any x q W h hr)
  cases hok : okLd x with
  | false =>
    rw [hok] at HR
    have hX : ldX x = [] := by unfold ldX; rw [hok]; rfl
    rw [hX]
    clear hX
    go_enter Tryz.func11, Tryz.ntmps11
    go_upto_region 1 with (fail)
    generalize (w.alloc (.cells (ldC x q) 29)) = w0 at *
    go_wp2_with (refine load_blk (k := 0) 29 (ldC x q) (by rfl) rfl rfl HA0 (by kernel_rfl) (by kernel_rfl) rfl ?_)
    refine (HR.out _ (h.below B0)).mono ?_
    rintro e w1 ⟨rfl, b1⟩
    go_wp2
    go_ret2
    exact ⟨rfl, B0.trans (b1.mono B0.size)⟩
  | true =>
    have HX : Hid (ldX x = tlWrite (ldTls x)) := by show _ = _; unfold ldX; rw [hok]; rfl
    rw [HX.out]
    have HRC := Lib.hid (fun W (h : LdIn W x q) => records_any x q hok W h)
    have hle := ldTls_le x hok
    have HTW := Lib.hid (fun a c W (h : TlIn W a (ldTls x)) => tlWrite_any a c (ldTls x) (ldTls x).length (Nat.le_refl _) (by rw [List.take_length]; exact ldTls_ok x hok) (by omega) (tlWrite (ldTls x)) 0 (-1) (Or.inl ⟨rfl, rfl, rfl, rfl⟩) W h)
    rw [hok] at HR
    generalize ldTls x = L at *
    clear HX hle
    go_enter Tryz.func11, Tryz.ntmps11
    go_upto_region 1 with (fail)
    generalize (w.alloc (.cells (ldC x q) 29)) = w0 at *
    go_wp2_with (refine load_blk (k := 0) 29 (ldC x q) (by rfl) rfl rfl HA0 (by kernel_rfl) (by kernel_rfl) rfl ?_)
    refine (HR.out _ (h.below B0)).mono ?_
    rintro e w1 ⟨rfl, b1⟩
    have HA1 := HA0.kept b1
    have B1 := B0.trans (b1.mono B0.size)
    clear HA0 B0 b1
    go_wp2_with (refine load_blk (k := 0) 29 (ldC x q) (by rfl) rfl rfl HA1 (by kernel_rfl) (by kernel_rfl) rfl ?_)
    refine (HRC.out _ (h.below B1)).mono ?_
    rintro e w2 ⟨a, c, rfl, hT, b2⟩
    have B2 := B1.trans (b2.mono B1.size)
    go_wp2_with fail
    refine (HTW.out a c _ hT).mono ?_
    rintro e w3 ⟨er, rfl, hE, b3⟩
    obtain rfl : er = .nilIface := by
      rcases hE with ⟨h1, _, _⟩ | ⟨h1, _⟩
      · exact h1
      · exact absurd rfl h1
    go_wp2
    go_ret2
    exact ⟨rfl, B2.trans (b3.mono B2.size)⟩

end Go.Proofs.YtcijhmbimbejfaaGreatDoor

