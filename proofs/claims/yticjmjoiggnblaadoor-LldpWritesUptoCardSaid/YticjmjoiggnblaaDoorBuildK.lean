/- strings.Builder: what a text written leaves as it was. -/
import Derived.Test.YticjmjoiggnblaaDoorBuildF
import Derived.Test.YticjmjoiggnblaaDoorBy
namespace Go.Proofs.YticjmjoiggnblaaDoor
open Go.RowKit
attribute [local go_sem ↓] Go.wp_at_zero Go.wp_at_succ
set_option linter.unusedSimpArgs false
set_option linter.unusedVariables false
set_option maxRecDepth 100000

/-- Blocks of other types are as they were. -/
def KeepB (w w' : World) : Prop := ∀ X T C, Blk w X T C → T ≠ 5 → T ≠ 75 → Blk w' X T C
theorem KeepB.of {w w' : World} (h : Below w.heap.size w w') : KeepB w w' := fun _ _ _ hB _ _ => hB.kept h
theorem KeepB.trans {w w' w'' : World} (h : KeepB w w') (h' : KeepB w' w'') : KeepB w w'' := fun X T C hB h1 h2 => h' X T C (h X T C hB h1 h2) h1 h2
theorem KeepB.cell (w : World) (b j : Nat) (v : Value) {C : Array Value} {F : Nat × Nat} (h : w.heap[b]? = some (.cells C 75 F)) : KeepB w (w.setCell ⟨b, j, none⟩ v) := fun X T D hB h1 h2 => by
  have hne : X ≠ b := by
    intro e
    subst e
    have h3 : w.heap[X]? = some (.cells D T (0, 0)) := hB
    rw [h3] at h
    injection h with h
    injection h with _ h4
    exact h2 h4
  exact (Below.heap_setCell w ⟨b, j, none⟩ v X hne).trans hB
theorem KeepB.grow {w w' : World} {v : Value} {B n : Nat} {bs : List Value} (hown : w.ownsRowF B 5 1 v n bs) (hg : w.grownBy w' v.ownBlock) : KeepB w w' := fun X T D hB h1 h2 => by
  refine hB.grown hg ?_
  intro e
  rcases hown.2 with ⟨hv, _⟩ | ⟨g, cap, cur, fz, hv, _, h3, _⟩
  · rw [hv] at e
    cases e
  · rw [hv] at e
    have e2 : X = g := by simpa [Value.ownBlock] using e
    subst e2
    have h4 : w.heap[X]? = some (.cells D T (0, 0)) := hB
    rw [h4] at h3
    injection h3 with h3
    injection h3 with _ h5
    exact h1 h5
theorem KeepB.grow0 {w w' : World} {v : Value} {B n : Nat} {bs : List Value} (hown : w.ownsRow B 5 1 v n bs) (hg : w.grownBy w' v.ownBlock) : KeepB w w' := KeepB.grow (World.ownsRowF_of hown) hg

theorem check_k (B b : Nat) (bs : List Value) (w : World) (h : Lib.IsBuilder 75 5 B b bs w) :
    Calls Tryd.prog 79 #[.pointer (some ⟨b, 0, none⟩)] w fun e w' => e = .returned (.tuple #[]) ∧ (Lib.BuilderAt 75 5 B b (.pointer (some ⟨b, 0, none⟩)) bs w' ∧ Below B w w') ∧ KeepB w w' := by
  rcases h with h | h
  · refine (build_fresh b w h.cell0 h.shape h.frozen0).mono ?_
    rintro e w' ⟨rfl, rfl⟩
    obtain ⟨_, v, hb, _⟩ := id h
    exact ⟨rfl, ⟨h.used _, (Below.refl B w).setCell (p := ⟨b, 0, none⟩) h.1 _⟩, KeepB.cell w b 0 _ hb⟩
  · refine (build_used b w h.cell0).mono ?_
    rintro e w' ⟨rfl, rfl⟩
    exact ⟨rfl, ⟨h, Below.refl B _⟩, KeepB.of (Below.refl _ _)⟩

set_option maxHeartbeats 1000000 in
/-- WriteString: the text's bytes come behind. -/
theorem write_k (B b : Nat) (bs : List Value) (s : ByteArray) (w : World) (h : Lib.IsBuilder 75 5 B b bs w) (hlen : bs.length + s.size ≤ 1000000) (hBw : B ≤ w.heap.size) :
    Calls Tryd.prog 38 #[.pointer (some ⟨b, 0, none⟩), .string s] w fun e w' => e = .returned (.tuple #[.int .i64 s.size, .nilIface]) ∧ (Lib.IsBuilder 75 5 B b (bs ++ Lib.strCells s) w' ∧ Below B w w') ∧ KeepB w w' := by
  obtain ⟨i0, hi, hz0, hz1, hz2⟩ := info_parts Tryd.byteInfo
  go_enter Tryd.func38, Tryd.ntmps38
  go_wp2_with fail
  refine (check_k B b bs _ h).mono ?_
  rintro e w1 ⟨rfl, ⟨h1, hb1⟩, K1⟩
  obtain ⟨hB, v, hbk, hown, hne⟩ := h1
  have c0 : w1.cell? ⟨b, 0, none⟩ = some (.pointer (some ⟨b, 0, none⟩)) := by rw [Lib.cell_of_heap hbk]; rfl
  have c1 : w1.cell? ⟨b, 1, none⟩ = some v := by rw [Lib.cell_of_heap hbk]; rfl
  have hlt : b < w1.heap.size := (Array.getElem?_eq_some_iff.1 hbk).1
  go_wp2_with (at_builtin; refine Lib.wpList_append_own_string _ rfl _ _ 73 9 rfl B 5 i0 Tryd.underlying73 Tryd.underlying9 hi hz0 hz1 hz2 _ _ _ rfl hown s rfl ?c3 ?c4 ?c5 ?_)
  case c3 => unfold maxLen; omega
  case c4 => omega
  case c5 => have := hb1.size; omega
  intro v' w2 hown' hgrow _
  have K2 : KeepB w1 w2 := KeepB.grow0 hown hgrow
  have hb2 : w2.heap[b]? = some (.cells #[.pointer (some ⟨b, 0, none⟩), v] 75 (0, 0)) := (hgrow.block b hlt (fun e => hne e.symm)).trans hbk
  have d0 : w2.cell? ⟨b, 0, none⟩ = some (.pointer (some ⟨b, 0, none⟩)) := by rw [Lib.cell_of_heap hb2]; rfl
  have d1 : w2.cell? ⟨b, 1, none⟩ = some v := by rw [Lib.cell_of_heap hb2]; rfl
  have f1 : w2.frozen? ⟨b, 1, none⟩ = false := Lib.frozen_of_heap hb2 1
  obtain ⟨ao, n', cap, rfl⟩ : ∃ ao n' cap, v' = .slice ao n' cap := by
    rcases hown'.2 with ⟨hv, _⟩ | ⟨g, cap, cur, hv, _⟩
    · exact ⟨_, _, _, hv⟩
    · exact ⟨_, _, _, hv⟩
  go_wp2
  go_ret2
  refine ⟨rfl, ⟨Or.inr (Lib.BuilderAt.put hB hb2 (bs' := bs ++ Lib.strCells s) (by simpa [Lib.strCells_length] using hown') (by decide)), ?_⟩, (K1.trans K2).trans (KeepB.cell w2 b 1 _ hb2)⟩
  exact (hb1.grown hgrow (by have := hb1.size; omega) (fun k hk => (hown.lt k hk).1)).setCell (p := ⟨b, 1, none⟩) hB _

theorem cells_app (a b : List UInt8) : Lib.byteCells (a ++ b) = Lib.byteCells a ++ Lib.byteCells b := by simp [Lib.byteCells]
theorem cells_len (a : List UInt8) : (Lib.byteCells a).length = a.length := by simp [Lib.byteCells]
/-- A builder of these bytes; of its own from b on. -/
def BU (b : Nat) (y : List UInt8) (w : World) : Prop := Lib.IsBuilder 75 5 b b (Lib.byteCells y) w
theorem bu_new (w : World) : BU w.heap.size [] (w.alloc (.cells #[.pointer none, .slice none 0 0] 75)) := build_new w
theorem write_bu (b : Nat) (y z : List UInt8) (w : World) (h : BU b y w) (hlen : y.length + z.length ≤ 1000000) (hBw : b ≤ w.heap.size) :
    Calls Tryd.prog 38 #[.pointer (some ⟨b, 0, none⟩), .string ⟨z.toArray⟩] w fun e w' => e = .returned (.tuple #[.int .i64 z.length, .nilIface]) ∧ BU b (y ++ z) w' ∧ Below b w w' ∧ KeepB w w' := by
  refine (write_k b b (Lib.byteCells y) ⟨z.toArray⟩ w h (by rw [cells_len]; exact hlen) hBw).mono ?_
  rintro e w' ⟨rfl, ⟨h1, h2⟩, h3⟩
  refine ⟨rfl, ?_, h2, h3⟩
  unfold BU
  rw [cells_app]
  exact h1

end Go.Proofs.YticjmjoiggnblaaDoor
