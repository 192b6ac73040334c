/- strings.Builder: Write of bytes in memory; what the frame's writer puts. -/
import Derived.Test.YtageodliabdhmaaDoorBuildF
import Derived.Test.YtageodliabdhmaaDoorMust
import Derived.Deep.AppendLies
namespace Go.Proofs.YtageodliabdhmaaDoor
open Go.RowKit
set_option linter.unusedVariables false
set_option maxRecDepth 100000

theorem isB_below {T e : TypeId} {B b : Nat} {bs : List Value} {w w' : World} (h : Lib.IsBuilder T e B b bs w) (hb : Below w.heap.size w w') : Lib.IsBuilder T e B b bs w' := by
  have hg : w.grownBy w' none := ⟨hb.os, hb.tape, hb.output, hb.size, fun k hk _ => hb.block k hk⟩
  have key : ∀ p, Lib.BuilderAt T e B b p bs w → Lib.BuilderAt T e B b p bs w' := fun p h => by
    have hlt := h.lt
    obtain ⟨hB, v, hbk, hown, hne⟩ := h
    exact ⟨hB, v, (hb.block b hlt).trans hbk, hown.kept hg (by cases hv : v.ownBlock <;> simp), hne⟩
  rcases h with h | h
  · exact Or.inl (key _ h)
  · exact Or.inr (key _ h)

set_option maxHeartbeats 1000000 in
/-- Write: the bytes come behind. -/
theorem build_bytes (B b P o : Nat) (bs : List Value) (l : List UInt8) (w : World) (h : Lib.IsBuilder 46 5 B b bs w) (hl0 : 0 < l.length) (hlen : bs.length + l.length ≤ 1000000) (hBw : B ≤ w.heap.size) (hP : P < B)
    (hc : ∀ (j : Nat) u, l[j]? = some u → w.cell? ⟨P, o + j, none⟩ = some (.int .u8 (u.toNat : Int))) :
    Calls Tryd.prog 16 #[.pointer (some ⟨b, 0, none⟩), .slice (some ⟨P, o, none⟩) l.length l.length] w fun e w' => e = .returned (.tuple #[.int .i64 l.length, .nilIface]) ∧ (Lib.IsBuilder 46 5 B b (bs ++ Lib.byteCells l) w' ∧ Below B w w') := by
  obtain ⟨i0, hi, hz0, hz1, hz2⟩ := info_parts Tryd.byteInfo
  go_enter Tryd.func16, Tryd.ntmps16
  go_wp2_with fail
  refine (build_check B b bs _ h).mono ?_
  rintro e w1 ⟨rfl, h1, hb1⟩
  obtain ⟨hB, v, hbk, hown, hne⟩ := h1
  have c0 : w1.cell? ⟨b, 0, none⟩ = some (.pointer (some ⟨b, 0, none⟩)) := by rw [Lib.cell_of_heap hbk]; rfl
  have c1 : w1.cell? ⟨b, 1, none⟩ = some v := by rw [Lib.cell_of_heap hbk]; rfl
  have hlt : b < w1.heap.size := (Array.getElem?_eq_some_iff.1 hbk).1
  have hs1 := hb1.size
  have hnl : (Lib.byteCells l).length = l.length * 1 := by simp [Lib.byteCells]
  have hnews : ∀ (j : Nat) u, (Lib.byteCells l)[j]? = some u → w1.cell? ((⟨P, o, none⟩ : Addr).add j) = some u := fun j u hu => by
    have hu2 : (l[j]?).map (fun b : UInt8 => Value.int .u8 b.toNat) = some u := by simpa [Lib.byteCells] using hu
    cases hj : l[j]? with
    | none => rw [hj] at hu2; cases hu2
    | some x =>
      rw [hj] at hu2
      cases hu2
      rw [Addr.add_lit]
      exact (hb1.cell (p := ⟨P, o + j, none⟩) hP).trans (hc j x hj)
  have h1c : ∀ u ∈ Lib.byteCells l, u.oneCell' = true := fun u hu => by
    simp [Lib.byteCells] at hu
    obtain ⟨x, _, rfl⟩ := hu
    rfl
  go_wp2_with (at_builtin; refine wpList_append_lies _ rfl _ _ _ rfl B 5 i0 (.int .u8 0) 1 1 Tryd.underlying37 hi hz0 hz1 hz2 rfl (by decide) _ _ _ rfl hown ⟨P, o, none⟩ l.length l.length (Lib.byteCells l) rfl hnl hnews h1c hl0 ?c3 ?c4 ?c5 _ rfl ?_)
  case c3 => unfold maxLen; omega
  case c4 => omega
  case c5 => omega
  intro g cap w2 hown' hgrow hat hg2
  have hb2 : w2.heap[b]? = some (.cells #[.pointer (some ⟨b, 0, none⟩), v] 46 (0, 0)) := (hgrow.block b hlt (fun e => hne e.symm)).trans hbk
  have d0 : w2.cell? ⟨b, 0, none⟩ = some (.pointer (some ⟨b, 0, none⟩)) := by rw [Lib.cell_of_heap hb2]; rfl
  have d1 : w2.cell? ⟨b, 1, none⟩ = some v := by rw [Lib.cell_of_heap hb2]; rfl
  have f1 : w2.frozen? ⟨b, 1, none⟩ = false := Lib.frozen_of_heap hb2 1
  have hbl : (bs ++ Lib.byteCells l).length = bs.length + l.length := by simp [Lib.byteCells]
  go_wp2
  go_ret2
  refine ⟨rfl, Or.inr (Lib.BuilderAt.put hB hb2 (bs' := bs ++ Lib.byteCells l) (by rw [hbl]; exact hown') (by decide)), ?_⟩
  exact (hb1.grown hgrow (by omega) (fun k hk => (hown.lt k hk).1)).setCell (p := ⟨b, 1, none⟩) hB _

/-- What frame.Write puts: a number's bytes. -/
theorem put_any (B b : Nat) (bs : List Value) (X n : Nat) (w : World) (h : Lib.IsBuilder 46 5 B b bs w) (h1 : 1 ≤ n) (h7 : n ≤ 7) (hf : X < 256 ^ n) (hlen : bs.length ≤ 900000) (hBw : B ≤ w.heap.size) :
    Calls Tryd.prog 13 #[.int .i64 X, .int .i64 n, .pointer (some ⟨b, 0, none⟩)] w fun e w' => e = .returned (.tuple #[]) ∧ (Lib.IsBuilder 46 5 B b (bs ++ Lib.byteCells (putL X n)) w' ∧ Below B w w') := by
  have hp2 := putL_length X n
  have HM : Hid (∀ W, Calls Tryd.prog 15 #[.int .i64 X, .int .i64 n] W fun e w' => e = .returned (.string ⟨(putL X n).toArray⟩) ∧ Below W.heap.size W w') := fun W => must_fits X n W h1 h7 hf
  clear hf
  generalize putL X n = z at *
  have hz : (⟨z.toArray⟩ : ByteArray).size = z.length := rfl
  go_enter Tryd.func13, Tryd.ntmps13
  go_wp2_with fail
  refine (HM.out _).mono ?_
  rintro e w1 ⟨rfl, b1⟩
  have IB1 := isB_below h b1
  have hB1 := Nat.le_trans hBw b1.size
  go_wp2_with fail
  refine (build_write B b bs ⟨z.toArray⟩ _ IB1 (by omega) hB1).mono ?_
  rintro e w2 ⟨rfl, IB2, b2⟩
  go_wp2
  go_end0
  exact ⟨rfl, IB2, (b1.mono hBw).trans b2⟩

end Go.Proofs.YtageodliabdhmaaDoor
