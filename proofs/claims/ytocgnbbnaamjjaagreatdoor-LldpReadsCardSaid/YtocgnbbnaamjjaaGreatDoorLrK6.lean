/- Texts one behind the other. tlv.Write at every list. lldp.Write at every announcement. -/
import Derived.Test.YtocgnbbnaamjjaaGreatDoorLrK4
import Derived.Test.YtocgnbbnaamjjaaGreatDoorLrK5
namespace Go.Proofs.YtocgnbbnaamjjaaGreatDoor
open Go.RowKit
attribute [local go_sem ↓] Go.wp_at_zero Go.wp_at_succ
set_option linter.unusedSimpArgs false
set_option linter.unusedVariables false
set_option maxRecDepth 100000





end Go.Proofs.YtocgnbbnaamjjaaGreatDoor

namespace Go.Proofs.YtocgnbbnaamjjaaGreatDoor
open Go.RowKit
attribute [local go_sem ↓] Go.wp_at_zero Go.wp_at_succ
set_option linter.unusedSimpArgs false
set_option linter.unusedVariables false
set_option maxRecDepth 100000

/-- What a station tells, as bytes. -/
def ldW (x : Ld) : List UInt8 := tlWrite (ldTls x)

theorem ldTls_len (x : Ld) : (ldTls x).length = 3 + x.de.length + x.ho.length + x.sy.length + x.ca.length + x.ma.length + x.og.length := by
  simp only [ldTls, ldHead, List.length_append, kTl_len, List.length_map, List.length_cons, List.length_nil]

theorem okTl_of {k : Int} {t : ByteArray} (h1 : 0 < k) (h2 : k ≤ 127) (h3 : t.size ≤ 511) : okTl ⟨k, t⟩ = true := by
  simp only [okTl, Bool.and_eq_true, decide_eq_true_eq]
  refine ⟨h1, h2, ?_⟩
  omega

theorem kTl_ok {k : Int} {l : List ByteArray} (h1 : 0 < k) (h2 : k ≤ 127) (h : ∀ y ∈ l, okSt y = true) : ∀ y ∈ kTl k l, okTl y = true := by
  intro y hy
  unfold kTl at hy
  obtain ⟨s, hs, rfl⟩ := List.mem_map.1 hy
  have := h s hs
  simp only [okSt, decide_eq_true_eq] at this
  exact okTl_of h1 h2 (by omega)

theorem bysz (l : List UInt8) : (⟨l.toArray⟩ : ByteArray).size = l.length := by simp [ByteArray.size]

theorem ldTls_ok (x : Ld) (hok : okLd x = true) : ∀ y ∈ ldTls x, okTl y = true := by
  obtain ⟨o1, o2, o3, o4, o5, o6, o7, o8, o9⟩ := okLd_all hok
  have m1 := okNm_all o1
  have m2 := okNm_all o2
  intro y hy
  unfold ldTls at hy
  simp only [List.mem_append] at hy
  rcases hy with (((((hy | hy) | hy) | hy) | hy) | hy) | hy
  · simp only [ldHead, List.mem_cons, List.not_mem_nil, or_false] at hy
    rcases hy with rfl | rfl | rfl
    · exact okTl_of (by decide) (by decide) (by rw [bysz, nmW_len]; omega)
    · exact okTl_of (by decide) (by decide) (by rw [bysz, nmW_len]; omega)
    · exact okTl_of (by decide) (by decide) (by rw [bysz, putL_length]; omega)
  · exact kTl_ok (by decide) (by decide) o4.2 y hy
  · exact kTl_ok (by decide) (by decide) o5.2 y hy
  · exact kTl_ok (by decide) (by decide) o6.2 y hy
  · obtain ⟨s, hs, rfl⟩ := List.mem_map.1 hy
    exact okTl_of (by decide) (by decide) (by rw [bysz, cpW_len]; omega)
  · obtain ⟨s, hs, rfl⟩ := List.mem_map.1 hy
    have := okMg_all (o8.2 s hs)
    exact okTl_of (by decide) (by decide) (by rw [bysz, mgW_len]; omega)
  · obtain ⟨s, hs, rfl⟩ := List.mem_map.1 hy
    have := okOg_all (o9.2 s hs)
    exact okTl_of (by decide) (by decide) (by rw [bysz, ogW_len]; omega)

theorem ldTls_le (x : Ld) (hok : okLd x = true) : (ldTls x).length ≤ 47 := by
  obtain ⟨o1, o2, o3, o4, o5, o6, o7, o8, o9⟩ := okLd_all hok
  rw [ldTls_len]
  omega

theorem ldW_le (x : Ld) (hok : okLd x = true) : (ldW x).length ≤ 30000 := by
  have h1 := tlWs_le (ldTls x) (ldTls_ok x hok)
  have h2 := ldTls_le x hok
  unfold ldW tlWrite
  rw [List.length_append]
  show _ + 2 ≤ _
  omega

/-- The error of Write. -/
def ldE (ok : Bool) : Value := if ok then .nilIface else .iface 30 (.int .i64 1)

def ldX (x : Ld) : List UInt8 := if okLd x then ldW x else []



end Go.Proofs.YtocgnbbnaamjjaaGreatDoor

