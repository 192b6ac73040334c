/- What the library's functions ask of the memory; strings.Cut, strconv.Atoi at every text. -/
import Derived.Test.YtceiiolpggolbaaDoorDec
import Derived.Test.YtceiiolpggolbaaDoorTab
import Derived.Lib.SmallJoins
import Derived.Laws.IdiomStrings
namespace Go.Proofs.YtceiiolpggolbaaDoor
open Go.RowKit

theorem Tryd.gMax : Tryd.prog.globalNamed "internal/bytealg.MaxLen" = some 1 := by kernel_rfl
theorem Tryd.gSyn : Tryd.prog.globalNamed "strconv.ErrSyntax" = some 2 := by kernel_rfl
theorem Tryd.gRng : Tryd.prog.globalNamed "strconv.ErrRange" = some 3 := by kernel_rfl

/-- What the library's functions that Parse calls ask of the memory. -/
structure HasLib (w : World) : Prop where
  tab : HasTab w
  syn : ∃ tp p, w.var? Tryd.prog "strconv.ErrSyntax" = some #[.iface tp p]
  rng : ∃ tp p, w.var? Tryd.prog "strconv.ErrRange" = some #[.iface tp p]
  max : ∃ m, w.cell? ⟨1, 0, none⟩ = some (.int .i64 m)

theorem HasLib.below {w w' : World} (h : HasLib w) (hb : Below w.heap.size w w') : HasLib w' := by
  obtain ⟨t, ⟨tp, p, hs⟩, ⟨tq, q, hr⟩, m, hm⟩ := h
  have ls : 2 < w.heap.size := World.block_lt_of_cell? w _ (World.var?_cell Tryd.gSyn hs 0)
  have lr : 3 < w.heap.size := World.block_lt_of_cell? w _ (World.var?_cell Tryd.gRng hr 0)
  have lm : 1 < w.heap.size := World.block_lt_of_cell? w _ hm
  exact ⟨t.below hb, ⟨tp, p, var?_below hb Tryd.gSyn ls hs⟩, ⟨tq, q, var?_below hb Tryd.gRng lr hr⟩, m, (hb.cell (p := ⟨1, 0, none⟩) lm).trans hm⟩

theorem HasLib.drew {w : World} (h : HasLib w) : HasLib w.drew := ⟨h.tab, h.syn, h.rng, h.max⟩

theorem cut_any (s sep : ByteArray) (w : World) (h : HasLib w) (hs : s.size < 4294967281) :
    Calls Tryd.prog 55 #[.string s, .string sep] w fun e w' => ∃ hb tb fl, e = .returned (.tuple #[.string hb, .string tb, .bool fl]) ∧ hb.data.toList = (Lib.cut s.data.toList sep.data.toList).1 ∧ tb.data.toList = (Lib.cut s.data.toList sep.data.toList).2.1 ∧ Below w.heap.size w w' := by
  obtain ⟨m, hm⟩ := h.max
  refine (Tryd.strings_Cut s sep m w hs hm).mono ?_
  rintro e w' ⟨rfl, n, rfl⟩
  exact ⟨_, _, _, rfl, rfl, rfl, Joins.below_draws _ _ _⟩

theorem atoi_any (s : ByteArray) (w : World) (h : HasLib w) (hs : s.size < 4294967281) :
    Calls Tryd.prog 56 #[.string s] w fun e w' => ∃ er, e = .returned (.tuple #[.int .i64 (atoiV s.data.toList), er]) ∧ Below w.heap.size w w' := by
  obtain ⟨tp, p, hsy⟩ := h.syn
  obtain ⟨tq, q, hrg⟩ := h.rng
  cases ha : Lib.atoiAll s.data.toList
  · rename_i v
    refine (Tryd.strconv_Atoi_ok s (by omega) v ha w).mono ?_
    rintro e w' ⟨rfl, rfl | ⟨t, rfl⟩⟩
    · exact ⟨_, by rw [atoiV, ha], Below.refl _ _⟩
    · exact ⟨_, by rw [atoiV, ha], Joins.below_bytesWorld _ _ _ _ (Nat.le_refl _)⟩
  · have hc := Any.strconv_Atoi_syntax_var Tryd.laysC172 s (by omega) ha tp p w hsy
    refine Calls.mono hc ?_
    rintro e w' ⟨N, rfl, _, _, hb⟩
    exact ⟨_, by rw [atoiV, ha], hb⟩
  · refine (Tryd.strconv_Atoi_range_var s (by omega) ha tq q w hrg).mono ?_
    rintro e w' ⟨N, rfl, _, _, hb⟩
    exact ⟨_, by rw [atoiV, ha], hb⟩

end Go.Proofs.YtceiiolpggolbaaDoor
