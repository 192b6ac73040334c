/- An address that comes in: six bytes. -/
import Derived.Test.YtafmkgdpfjimkaaDoorMacText
import Derived.ProofKit
import Derived.OpenShut
import Derived.WideKeyArgs
namespace Go.Proofs.YtafmkgdpfjimkaaDoor
open Go.ChangeShapes Go.WideShapes Go.ChangeAt Go.RowKit
set_option linter.unusedVariables false

theorem list6 {α : Type} (l : List α) (h : (⟨l⟩ : Array α).size = 6) : ∃ a b c d e f, l = [a, b, c, d, e, f] := by
  match l, h with
  | [a, b, c, d, e, f], _ => exact ⟨a, b, c, d, e, f, rfl⟩

theorem nat_u8 {z : Int} (h : (Lit.int .u8 z).wf = true) : ∃ n : Nat, z = n ∧ n < 256 := by
  have := bounds_u8 h
  exact ⟨z.toNat, by omega, by omega⟩

set_option maxRecDepth 100000 in
theorem open_addr {H : Type} {enc : TypeId × Value → H} {W : World} {base : Nat} {v : Value} {d : DataW H} {p : List MemPlace} (hval : Value.okWide Tryd.prog W .any base 23 v)
    (h : DataW.Trod enc Tryd.prog W 0 (fun _ => true) true 23 v d p) : ∃ x : Nat → Nat, (∀ i, x i < 256) ∧ v = addrV x := by
  have hc1 : Tryd.prog.cellsOf 5 = 1 := by kernel_rfl
  have hc6 : Tryd.prog.cellsOf 23 = 6 := by kernel_rfl
  obtain ⟨cs, rfl, hsz, _⟩ : ∃ cs, v = .agg cs ∧ cs.size = Tryd.prog.cellsOf 23 ∧ Row.okWide Tryd.prog W .any base 23 cs := by
    simpa [Value.okWide, Tryd.underlying23] using hval
  rw [hc6] at hsz
  obtain ⟨l⟩ := cs
  obtain ⟨c0, c1, c2, c3, c4, c5, rfl⟩ := list6 l hsz
  obtain ⟨fuel, hf⟩ := h
  obtain ⟨xs, m, _, _, _, hl, hx⟩ := DataW.trod_array Tryd.underlying23 hf
  rw [hc1] at hx
  have each : ∀ (i : Nat) (c : Value), i < 6 → ((([c0, c1, c2, c3, c4, c5] : List Value).drop (i * 1)).take 1) = [c] → ∃ n : Nat, c = .int .u8 n ∧ n < 256 := by
    intro i c hi hc
    have h1 := hx i hi
    rw [show (Value.cells (.agg ⟨[c0, c1, c2, c3, c4, c5]⟩)).toList = [c0, c1, c2, c3, c4, c5] by simp [Value.cells], hc] at h1
    obtain ⟨y, hy⟩ : ∃ y, xs[i]? = some y := ⟨xs[i]'(by omega), List.getElem?_eq_getElem _⟩
    rw [hy] at h1
    obtain ⟨z, e0, _, hw⟩ := DataW.trod_int Tryd.underlying5 h1
    simp only [List.cons.injEq, and_true] at e0
    obtain ⟨n, rfl, hn⟩ := nat_u8 hw
    exact ⟨n, e0, hn⟩
  obtain ⟨n0, rfl, h0⟩ := each 0 c0 (by omega) rfl
  obtain ⟨n1, rfl, h1⟩ := each 1 c1 (by omega) rfl
  obtain ⟨n2, rfl, h2⟩ := each 2 c2 (by omega) rfl
  obtain ⟨n3, rfl, h3⟩ := each 3 c3 (by omega) rfl
  obtain ⟨n4, rfl, h4⟩ := each 4 c4 (by omega) rfl
  obtain ⟨n5, rfl, h5⟩ := each 5 c5 (by omega) rfl
  refine ⟨fun i => if i = 0 then n0 else if i = 1 then n1 else if i = 2 then n2 else if i = 3 then n3 else if i = 4 then n4 else n5, fun i => ?_, rfl⟩
  dsimp only
  split
  · exact h0
  split
  · exact h1
  split
  · exact h2
  split
  · exact h3
  split
  · exact h4
  · exact h5
end Go.Proofs.YtafmkgdpfjimkaaDoor
