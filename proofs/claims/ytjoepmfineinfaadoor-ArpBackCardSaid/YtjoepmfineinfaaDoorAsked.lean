/- A fact on package arp: a message is written and read. -/
import Derived.Test.YtjoepmfineinfaaDoorBlk
import Derived.Test.YtjoepmfineinfaaDoorArMath
import Derived.Test.YtjoepmfineinfaaDoorBare
import Derived.Test.YtjoepmfineinfaaDoorArReply
namespace Go.Proofs.YtjoepmfineinfaaDoor
open Go.RowKit
attribute [local go_sem ↓] Go.wp_at_zero Go.wp_at_succ
set_option linter.unusedSimpArgs false
set_option linter.unusedVariables false
set_option maxRecDepth 100000

def aq : Ar := ⟨1, fun i => if i = 0 then 2 else 0, z6, fun i => if i = 0 then 10 else 0, fun i => if i = 0 then 11 else 0⟩

theorem aqB : ArB aq := ⟨fun i => by show (if i = 0 then 2 else 0) < 256; split <;> decide, fun i => by show 0 < 256; decide, fun i => by show (if i = 0 then 10 else 0) < 256; split <;> decide, fun i => by show (if i = 0 then 11 else 0) < 256; split <;> decide⟩

theorem reads_ok {X : Array Value} {pl : Int} {w : World} {r : Ending} {w' : World} (h : ReadsAs X 0 pl w r w') : r = .returned (.tuple #[.agg X, .nilIface]) ∧ Below w.heap.size w w' := by
  obtain ⟨er, h1, h2, h3⟩ := h
  rcases h2 with ⟨rfl, _, _⟩ | ⟨h2, _⟩
  · exact ⟨h1, h3⟩
  · exact absurd rfl h2

theorem reads_bad {X : Array Value} {x pl : Int} {w : World} {r : Ending} {w' : World} (hx : x ≠ 0) (h : ReadsAs X x pl w r w') : ∃ q, r = .returned (.tuple #[.agg X, .iface 102 (.pointer (some ⟨q, 0, none⟩))]) ∧ Flt w' q x pl ∧ Below w.heap.size w w' := by
  obtain ⟨er, h1, h2, h3⟩ := h
  rcases h2 with ⟨_, h2, _⟩ | ⟨_, q, rfl, hf⟩
  · exact absurd h2 hx
  · exact ⟨q, h1, hf, h3⟩

theorem aq_back : arC (arRes (arL 1 aq ++ [0])) = arC aq ∧ arE (arL 1 aq ++ [0]) = 0 := ⟨by kernel_rfl, by kernel_rfl⟩

set_option maxHeartbeats 1600000 in
theorem asked_any (w : World) : Calls Tryd.prog 11 #[] w fun e w' => e = .returned (.bool true) ∧ Below w.heap.size w w' := by
  obtain ⟨u, hu⟩ : ∃ u : ByteArray, u = ⟨(arL 1 aq).toArray⟩ := ⟨_, rfl⟩
  obtain ⟨v, hv⟩ : ∃ v : ByteArray, v = ⟨(arL 1 aq ++ [0]).toArray⟩ := ⟨_, rfl⟩
  have HW : Hid (∀ W, Calls Tryd.prog 13 #[.agg (arC aq)] W fun e w' => e = .returned (.tuple #[.string u, .nilIface]) ∧ Below W.heap.size W w') := fun W => by
    rw [hu]; exact arWrite_yes 1 aq W (Or.inl rfl) rfl aqB
  have HRd : Hid (∀ W, Calls Tryd.prog 9 #[.string v] W fun e w' => e = .returned (.tuple #[.agg (arC aq), .nilIface]) ∧ Below W.heap.size W w') := fun W => by
    have hvs : v.size ≤ 300 := by rw [hv]; decide
    have hvl : v.data.toList = arL 1 aq ++ [0] := by rw [hv]
    refine (arRead_any v W hvs).mono fun e w' h => ?_
    rw [hvl, aq_back.1, aq_back.2] at h
    exact reads_ok h
  have hadd : ∀ W, (Op.stringOp .add u ⟨#[0]⟩).run Tryd.prog W = .ok (.string v) W := fun W => by
    rw [hu, hv]; exact run_string_add_lists (P := Tryd.prog) W (arL 1 aq) [0] (by decide) (by decide)
  have h28 : ((u.size : Int) == 28) = true := by rw [hu]; decide
  clear hu hv
  have HZ := Blk.new w 26 (arC zAr)
  have B0 : Below w.heap.size w (w.alloc (.cells (arC zAr) 26)) := (Below.refl _ _).alloc (Nat.le_refl _) _
  go_enter Tryd.func11, Tryd.ntmps11
  go_upto_region 2 with (first | (refine build_blk (t := 23) (c6 aq.sha) (by rfl) rfl (by kernel_rfl) ?_) | (refine build_blk (o := ⟨some 7, _, _, _, _, _⟩) (t := 24) (c4 aq.spa) (by rfl) rfl (by kernel_rfl) ?_) | (refine build_blk (o := ⟨some 8, _, _, _, _, _⟩) (t := 24) (c4 aq.tpa) (by rfl) rfl (by kernel_rfl) ?_) | (refine build_blk (t := 26) (arC aq) (by rfl) rfl (by kernel_rfl) ?_) | (refine alloc_blk 26 (arC zAr) (by rfl) rfl Tryd.arZero ?_) | (refine store_blk (k := 0) 26 (.agg (arC aq)) (arC aq) (by rfl) rfl rfl rfl HZ (by kernel_rfl) (by exact Nat.le_refl 21) rfl rfl (fun w1 HA1 b1 g1 => ?_)))
  have B1 := B0.trans b1
  clear HZ B0 b1 g1
  go_wp2_with (refine load_blk (k := 0) 26 (arC aq) (by rfl) rfl rfl HA1 (by kernel_rfl) (by kernel_rfl) rfl ?_)
  refine (HW.out _).mono ?_
  rintro e w2 ⟨rfl, b2⟩
  have HA2 := HA1.kept b2
  have B2 := B1.trans (b2.mono B1.size)
  clear HA1 B1 b2 HW
  go_wp2_with fail
  refine (HRd.out _).mono ?_
  rintro e w3 ⟨rfl, b3⟩
  have HA3 := (HA2.kept b3).alloc (.cells (arC zAr) 26)
  have B3a := B2.trans (b3.mono B2.size)
  have B3 := B3a.alloc B3a.size (.cells (arC zAr) 26)
  have HZ3 := Blk.new w3 26 (arC zAr)
  have hlt : w.heap.size < w3.heap.size := (HA2.kept b3).lt
  clear HA2 B2 b3 HRd B3a
  go_upto_region 4 with (first | (refine alloc_blk 26 (arC zAr) (by rfl) rfl Tryd.arZero ?_) | (refine store_blk (k := 0) 26 (.agg (arC aq)) (arC aq) (by rfl) rfl rfl rfl HZ3 (by kernel_rfl) (by exact Nat.le_refl 21) rfl rfl (fun w4 HB4 b4 g4 => ?_)))
  have HA4 := HA3.grown g4 (by simp; omega)
  have B4 := B3.trans (b4.mono (Nat.le_of_lt hlt))
  clear HA3 HZ3 B3 b4 g4
  go_wp2_with (first | (refine load_blk (k := 0) 26 (arC aq) (by rfl) rfl rfl HA4 (by kernel_rfl) (by kernel_rfl) rfl ?_) | (refine load_blk (k := 0) 26 (arC aq) (by rfl) rfl rfl HB4 (by kernel_rfl) (by kernel_rfl) rfl ?_) | (refine eq_blk .eql 26 (arC aq) (arC aq) true (by rfl) rfl (by first | exact Or.inl rfl | exact Or.inr rfl) rfl rfl Tryd.arGuard ((by have h := run_eql_ar aq aq; rw [eqAr_refl] at h; exact h _)) ?_))
  go_ret
  exact ⟨rfl, B4⟩

end Go.Proofs.YtjoepmfineinfaaDoor
