/- lldp.Write at every announcement. -/
import Derived.Test.YticjmjoiggnblaaDoorLdRecs
import Derived.Test.YticjmjoiggnblaaDoorLdRight
import Derived.Test.YticjmjoiggnblaaDoorTlWrite
namespace Go.Proofs.YticjmjoiggnblaaDoor
open Go.RowKit
attribute [local go_sem ↓] Go.wp_at_zero Go.wp_at_succ
set_option linter.unusedSimpArgs false
set_option linter.unusedVariables false
set_option maxRecDepth 100000

/-- What a station tells, as bytes. -/
def ldW (x : Ld) : List UInt8 := tlWrite (ldTls x)
theorem ldTls_len (x : Ld) : (ldTls x).length = 3 + x.de.length + x.ho.length + x.sy.length + x.ca.length + x.ma.length + x.og.length := by
  simp only [ldTls, ldHead, List.length_append, kTl_len, List.length_map, List.length_cons, List.length_nil]
theorem okTl_of {k : Int} {t : ByteArray} (h1 : 0 < k) (h2 : k ≤ 127) (h3 : t.size ≤ 511) : okTl ⟨k, t⟩ = true := by
  simp only [okTl, Bool.and_eq_true, decide_eq_true_eq]
  refine ⟨h1, h2, ?_⟩
  omega
theorem kTl_ok {k : Int} {l : List ByteArray} (h1 : 0 < k) (h2 : k ≤ 127) (h : ∀ y ∈ l, okSt y = true) : ∀ y ∈ kTl k l, okTl y = true := by
  intro y hy
  unfold kTl at hy
  obtain ⟨s, hs, rfl⟩ := List.mem_map.1 hy
  have := h s hs
  simp only [okSt, decide_eq_true_eq] at this
  exact okTl_of h1 h2 (by omega)
theorem bysz (l : List UInt8) : (⟨l.toArray⟩ : ByteArray).size = l.length := by simp [ByteArray.size]
theorem ldTls_ok (x : Ld) (hok : okLd x = true) : ∀ y ∈ ldTls x, okTl y = true := by
  obtain ⟨o1, o2, o3, o4, o5, o6, o7, o8, o9⟩ := okLd_all hok
  have m1 := okNm_all o1
  have m2 := okNm_all o2
  intro y hy
  unfold ldTls at hy
  simp only [List.mem_append] at hy
  rcases hy with (((((hy | hy) | hy) | hy) | hy) | hy) | hy
  · simp only [ldHead, List.mem_cons, List.not_mem_nil, or_false] at hy
    rcases hy with rfl | rfl | rfl
    · exact okTl_of (by decide) (by decide) (by rw [bysz, nmW_len]; omega)
    · exact okTl_of (by decide) (by decide) (by rw [bysz, nmW_len]; omega)
    · exact okTl_of (by decide) (by decide) (by rw [bysz, putL_length]; omega)
  · exact kTl_ok (by decide) (by decide) o4.2 y hy
  · exact kTl_ok (by decide) (by decide) o5.2 y hy
  · exact kTl_ok (by decide) (by decide) o6.2 y hy
  · obtain ⟨s, hs, rfl⟩ := List.mem_map.1 hy
    exact okTl_of (by decide) (by decide) (by rw [bysz, cpW_len]; omega)
  · obtain ⟨s, hs, rfl⟩ := List.mem_map.1 hy
    have := okMg_all (o8.2 s hs)
    exact okTl_of (by decide) (by decide) (by rw [bysz, mgW_len]; omega)
  · obtain ⟨s, hs, rfl⟩ := List.mem_map.1 hy
    have := okOg_all (o9.2 s hs)
    exact okTl_of (by decide) (by decide) (by rw [bysz, ogW_len]; omega)
theorem ldTls_le (x : Ld) (hok : okLd x = true) : (ldTls x).length ≤ 47 := by
  obtain ⟨o1, o2, o3, o4, o5, o6, o7, o8, o9⟩ := okLd_all hok
  rw [ldTls_len]
  omega
theorem ldW_le (x : Ld) (hok : okLd x = true) : (ldW x).length ≤ 30000 := by
  have h1 := tlWs_le (ldTls x) (ldTls_ok x hok)
  have h2 := ldTls_le x hok
  unfold ldW tlWrite
  rw [List.length_append]
  show _ + 2 ≤ _
  omega
/-- The error of Write. -/
def ldE (ok : Bool) : Value := if ok then .nilIface else .iface 25 (.int .i64 1)
def ldX (x : Ld) : List UInt8 := if okLd x then ldW x else []

set_option maxHeartbeats 1600000 in
theorem ldWrite_any (x : Ld) (q : LdA) (w : World) (h : LdIn w x q) (hr : rgLd x) :
    Calls Tryd.prog 23 #[.agg (ldC x q)] w fun e w' => e = .returned (.tuple #[.string ⟨(ldX x).toArray⟩, ldE (okLd x)]) ∧ Below w.heap.size w w' := by
  have HA0 := Blk.new w 54 (ldC x q)
  have B0 : Below w.heap.size w (w.alloc (.cells (ldC x q) 54)) := (Below.refl _ _).alloc (Nat.le_refl _) _
  have HR := Lib.hid (fun W (h : LdIn W x q) => ldRight_any x q W h hr)
  cases hok : okLd x with
  | false =>
    rw [hok] at HR
    have hX : ldX x = [] := by unfold ldX; rw [hok]; rfl
    rw [hX]
    clear hX
    go_enter Tryd.func23, Tryd.ntmps23
    go_upto_region 1 with (fail)
    generalize (w.alloc (.cells (ldC x q) 54)) = w0 at *
    go_wp2_with (refine load_blk (k := 0) 54 (ldC x q) (by rfl) rfl rfl HA0 (by kernel_rfl) (by kernel_rfl) rfl ?_)
    refine (HR.out _ (h.below B0)).mono ?_
    rintro e w1 ⟨rfl, b1⟩
    go_wp2
    go_ret2
    exact ⟨rfl, B0.trans (b1.mono B0.size)⟩
  | true =>
    have HX : Hid (ldX x = tlWrite (ldTls x)) := by show _ = _; unfold ldX; rw [hok]; rfl
    rw [HX.out]
    have HRC := Lib.hid (fun W (h : LdIn W x q) => records_any x q hok W h)
    have hle := ldTls_le x hok
    have HTW := Lib.hid (fun a c W (h : TlIn W a (ldTls x)) => tlWrite_any a c (ldTls x) (ldTls x).length (Nat.le_refl _) (by rw [List.take_length]; exact ldTls_ok x hok) (by omega) (tlWrite (ldTls x)) 0 (-1) (Or.inl ⟨rfl, rfl, rfl, rfl⟩) W h)
    rw [hok] at HR
    generalize ldTls x = L at *
    clear HX hle
    go_enter Tryd.func23, Tryd.ntmps23
    go_upto_region 1 with (fail)
    generalize (w.alloc (.cells (ldC x q) 54)) = w0 at *
    go_wp2_with (refine load_blk (k := 0) 54 (ldC x q) (by rfl) rfl rfl HA0 (by kernel_rfl) (by kernel_rfl) rfl ?_)
    refine (HR.out _ (h.below B0)).mono ?_
    rintro e w1 ⟨rfl, b1⟩
    have HA1 := HA0.kept b1
    have B1 := B0.trans (b1.mono B0.size)
    clear HA0 B0 b1
    go_wp2_with (refine load_blk (k := 0) 54 (ldC x q) (by rfl) rfl rfl HA1 (by kernel_rfl) (by kernel_rfl) rfl ?_)
    refine (HRC.out _ (h.below B1)).mono ?_
    rintro e w2 ⟨a, c, rfl, hT, b2⟩
    have B2 := B1.trans (b2.mono B1.size)
    go_wp2_with fail
    refine (HTW.out a c _ hT).mono ?_
    rintro e w3 ⟨er, rfl, hE, b3⟩
    obtain rfl : er = .nilIface := by
      rcases hE with ⟨h1, _, _⟩ | ⟨h1, _⟩
      · exact h1
      · exact absurd rfl h1
    go_wp2
    go_ret2
    exact ⟨rfl, B2.trans (b3.mono B2.size)⟩

end Go.Proofs.YticjmjoiggnblaaDoor
