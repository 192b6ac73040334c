/- switchyardkeep.MstpBack returns true at every message and text, and changes nothing that was there. switchyardkeep.treed: a fact: true. switchyardkeep.sameMst: of two that are the same. slices.Equal of lists of instances that are the same. A great value is put into a block of its own: what follows sees the block alone. -/
import Derived.Test.YtajbkoggmhgjfaaGreatDoorBlk
import Derived.Great.Ranges
import Derived.Test.YtajbkoggmhgjfaaGreatDoorMs
import Derived.Deep.RegionHeld3
import Derived.Test.YtajbkoggmhgjfaaGreatDoorMsBack
import Derived.Test.YtajbkoggmhgjfaaGreatDoorMsWrite
import Derived.Test.YtajbkoggmhgjfaaGreatDoorPlace
import Derived.Test.YtajbkoggmhgjfaaGreatDoorOpenMs
namespace Go.Proofs.YtajbkoggmhgjfaaGreatDoor
open Go.RowKit
set_option linter.unusedVariables false

theorem box_blk {P : Program} {ops : Array Oper} {rest : List Oper} {o : Oper} {a : Act} {w : World} {Q : Exit → Act → World → Prop} {x : Operand} (t : TypeId) (X : Array Value) (hg : o.guard = none) (ho : o.op = .box t x) (hx : a.eval x = .agg X)
    (h : ∀ w', Blk w' w.heap.size t X → Below w.heap.size w w' → wpList P ops Q rest (a.put o.dst (.pointer (some ⟨w.heap.size, 0, none⟩))) w') : wpList P ops Q (o :: rest) a w :=
  Go.Great.wpList_boxTo hg t x ho _ rfl _ rfl X (by rw [hx]; rfl) (h _ (Blk.new w t X) ((Below.refl _ _).alloc (Nat.le_refl _) _))

end Go.Proofs.YtajbkoggmhgjfaaGreatDoor

namespace Go.Proofs.YtajbkoggmhgjfaaGreatDoor
open Go.RowKit
attribute [local go_sem ↓] Go.wp_at_zero Go.wp_at_succ
set_option linter.unusedSimpArgs false
set_option linter.unusedVariables false
set_option maxRecDepth 100000

theorem in_same (x : Ins) (W : World) : (Op.equalIn 10000 49 (.agg (inC x)) (.agg (inC x))).run Tryz.prog W = .ok true W := by
  have h := run_eql_in 9996 x x W
  rw [eqIn_self] at h
  exact h
theorem CellsAt.drewC {w : World} {B o : Nat} {X : Array Value} (h : CellsAt w B o X) : CellsAt w.drew B o X := h

set_option maxHeartbeats 6400000 in
theorem eqIns_any (a1 : Option Addr) (c1 : Nat) (a2 : Option Addr) (c2 : Nat) (l : List Ins) (w : World) (h1 : InIn w a1 l) (h2 : InIn w a2 l) (hlen : l.length ≤ 1000000) :
    Calls Tryz.prog 37 #[.slice a1 l.length c1, .slice a2 l.length c2] w fun e w' => e = .returned (.bool true) ∧ Below w.heap.size w w' := by
  go_enter Tryz.func37, Tryz.ntmps37
  go_wp2_with fail
  go_loopw [13] (fun i wr => ∃ k : Nat, k ≤ l.length ∧ i = .int .i64 k ∧ Below w.heap.size w wr) (fun i _ => l.length - (intOf i).toNat)
  case atStart => exact ⟨0, by omega, rfl, Below.refl _ _⟩
  case round =>
    obtain ⟨k, hk, rfl, hb⟩ := hrel
    by_cases hlt : k < l.length
    · obtain ⟨b1, o1, rfl, hb1, hat1⟩ := h1.at hlt
      obtain ⟨b2, o2, rfl, hb2, hat2⟩ := h2.at hlt
      have q1 : (k : Int) < (l.length : Int) := by omega
      have q2 : decide ((k : Int) < (l.length : Int)) = true := decide_eq_true q1
      have q3 : (0 : Int) ≤ (k : Int) := by omega
      have HK1 := (hat1 k hlt).below hb hb1
      have HK2 := (hat2 k hlt).below hb hb2
      have HEQ := fun W => in_same l[k] W
      generalize l[k] = x at *
      go_upto_region 6 with (fail)
      refine wp_region_noPanic ?_
      refine wp_region_held_drew (S := (fun w' => CellsAt w' b1 (o1 + k * 19) (inC x) ∧ CellsAt w' b2 (o2 + k * 19) (inC x))) (by kernel_rfl) ?_ (fun hHeld => ?_)
      · exact ⟨HK1.drewC, HK2.drewC⟩
      refine wpAnyH_take (i := 0) (v := ?_) rfl (by kernel_rfl) (by kernel_rfl) (by kernel_rfl) (fun _ _ _ h => h) (Or.inl ⟨by rfl, ?_⟩) (by assumption) ?_
      rotate_left
      · (intro w hSw; (try dsimp only at hSw); go_simp; (try with_reducible rfl))
      (try simp only [Act.put, List.getElem_toArray, List.getElem_cons_zero, List.getElem_cons_succ, List.setIfInBounds_toArray, List.set_cons_zero, List.set_cons_succ])
      refine wpAnyH_take (i := 1) (v := ?_) rfl (by kernel_rfl) (by kernel_rfl) (by kernel_rfl) (fun _ _ _ h => h) (Or.inl ⟨by rfl, ?_⟩) (by assumption) ?_
      rotate_left
      · (intro w hSw; (try dsimp only at hSw); go_simp; (try with_reducible rfl))
      (try simp only [Act.put, List.getElem_toArray, List.getElem_cons_zero, List.getElem_cons_succ, List.setIfInBounds_toArray, List.set_cons_zero, List.set_cons_succ])
      refine wpAnyH_take (i := 2) (v := ?_) rfl (by kernel_rfl) (by kernel_rfl) (by kernel_rfl) (fun _ _ _ h => h) (Or.inl ⟨by rfl, ?_⟩) (by assumption) ?_
      rotate_left
      · (intro w hSw; (try dsimp only at hSw); go_simp; (try with_reducible rfl))
      (try simp only [Act.put, List.getElem_toArray, List.getElem_cons_zero, List.getElem_cons_succ, List.setIfInBounds_toArray, List.set_cons_zero, List.set_cons_succ])
      refine wpAnyH_take (i := 3) (v := .agg (inC x)) rfl (by kernel_rfl) (by kernel_rfl) (by kernel_rfl) (fun _ _ _ h => h) (Or.inl ⟨by rfl, fun w hSw => exec_load_cells 49 (inC x) rfl rfl hSw.1 (by kernel_rfl) (by kernel_rfl)⟩) (by assumption) ?_
      (try simp only [Act.put, List.getElem_toArray, List.getElem_cons_zero, List.getElem_cons_succ, List.setIfInBounds_toArray, List.set_cons_zero, List.set_cons_succ])
      refine wpAnyH_take (i := 4) (v := ?_) rfl (by kernel_rfl) (by kernel_rfl) (by kernel_rfl) (fun _ _ _ h => h) (Or.inl ⟨by rfl, ?_⟩) (by assumption) ?_
      rotate_left
      · (intro w hSw; (try dsimp only at hSw); go_simp; (try with_reducible rfl))
      (try simp only [Act.put, List.getElem_toArray, List.getElem_cons_zero, List.getElem_cons_succ, List.setIfInBounds_toArray, List.set_cons_zero, List.set_cons_succ])
      refine wpAnyH_take (i := 5) (v := ?_) rfl (by kernel_rfl) (by kernel_rfl) (by kernel_rfl) (fun _ _ _ h => h) (Or.inl ⟨by rfl, ?_⟩) (by assumption) ?_
      rotate_left
      · (intro w hSw; (try dsimp only at hSw); go_simp; (try with_reducible rfl))
      (try simp only [Act.put, List.getElem_toArray, List.getElem_cons_zero, List.getElem_cons_succ, List.setIfInBounds_toArray, List.set_cons_zero, List.set_cons_succ])
      refine wpAnyH_take (i := 6) (v := ?_) rfl (by kernel_rfl) (by kernel_rfl) (by kernel_rfl) (fun _ _ _ h => h) (Or.inl ⟨by rfl, ?_⟩) (by assumption) ?_
      rotate_left
      · (intro w hSw; (try dsimp only at hSw); go_simp; (try with_reducible rfl))
      (try simp only [Act.put, List.getElem_toArray, List.getElem_cons_zero, List.getElem_cons_succ, List.setIfInBounds_toArray, List.set_cons_zero, List.set_cons_succ])
      refine wpAnyH_take (i := 7) (v := .agg (inC x)) rfl (by kernel_rfl) (by kernel_rfl) (by kernel_rfl) (fun _ _ _ h => h) (Or.inl ⟨by rfl, fun w hSw => exec_load_cells 49 (inC x) rfl rfl hSw.2 (by kernel_rfl) (by kernel_rfl)⟩) (by assumption) ?_
      (try simp only [Act.put, List.getElem_toArray, List.getElem_cons_zero, List.getElem_cons_succ, List.setIfInBounds_toArray, List.set_cons_zero, List.set_cons_succ])
      refine wpAnyH_take (i := 8) (v := .bool false) rfl (by kernel_rfl) (by kernel_rfl) (by kernel_rfl) (fun _ _ _ h => h) (Or.inl ⟨by rfl, fun w hSw => exec_eq_agg .neq 49 (inC x) (inC x) true rfl (Or.inr rfl) rfl rfl (by kernel_rfl) (HEQ w)⟩) (by assumption) ?_
      (try simp only [Act.put, List.getElem_toArray, List.getElem_cons_zero, List.getElem_cons_succ, List.setIfInBounds_toArray, List.set_cons_zero, List.set_cons_succ])
      refine wpAnyH_done (by kernel_rfl) ?_ _
      refine NoPanic.normal ?_
      have hbd := hb.drew
      go_wp2
      go_roundw
      case rel => exact ⟨k + 1, by omega, by go_num, hbd⟩
      case measure => simp [intOf]; omega
    · obtain rfl : k = l.length := by omega
      have q2 : decide ((l.length : Int) < (l.length : Int)) = false := decide_eq_false (by omega)
      go_wp2
      go_ret
      exact ⟨rfl, hb⟩

end Go.Proofs.YtajbkoggmhgjfaaGreatDoor

namespace Go.Proofs.YtajbkoggmhgjfaaGreatDoor
open Go.RowKit
attribute [local go_sem ↓] Go.wp_at_zero Go.wp_at_succ
set_option linter.unusedSimpArgs false
set_option linter.unusedVariables false
set_option maxRecDepth 100000

set_option maxHeartbeats 6400000 in
theorem sameMs_any (m : Ms) (l : List Ins) (a1 a2 : Option Addr) (c1 c2 : Nat) (w : World) (h1 : InIn w a1 l) (h2 : InIn w a2 l) (hlen : l.length ≤ 1000000) :
    Calls Tryz.prog 9 #[.agg (msC m (.slice a1 l.length c1)), .agg (msC m (.slice a2 l.length c2))] w fun e w' => e = .returned (.bool true) ∧ Below w.heap.size w w' := by
  have HQ : ∀ W, (Op.equalIn 10000 31 (.agg (bpC m.base)) (.agg (bpC m.base))).run Tryz.prog W = .ok true W := fun W => by
    have h := run_eql_bp 9996 m.base m.base W
    rw [eqBp_self] at h
    exact h
  have HB : ∀ W, (Op.equalIn 10000 27 (.agg (brC m.br)) (.agg (brC m.br))).run Tryz.prog W = .ok true W := fun W => by
    have h := run_eql_br 9997 m.br m.br W
    rw [eqB_self] at h
    exact h
  have HE := Lib.hid (fun (W : World) (h1 : InIn W a1 l) (h2 : InIn W a2 l) => eqIns_any a1 c1 a2 c2 l W h1 h2 hlen)
  have hn : (m.name.toList == m.name.toList) = true := by simp
  have hd : (m.dig.toList == m.dig.toList) = true := by simp
  go_enter Tryz.func9, Tryz.ntmps9
  go_upto_region 1 with (first
    | (refine box_blk 34 (msC m (.slice a1 l.length c1)) (by rfl) (by rfl) rfl ?_; intro w1 HA1 B1)
    | (refine box_blk 34 (msC m (.slice a2 l.length c2)) (by rfl) (by rfl) rfl ?_; intro w2 HA2 B2))
  have HA1b := HA1.kept B2
  have BB := B1.trans (B2.mono B1.size)
  have hI1 := h1.below BB
  have hI2 := h2.below BB
  generalize w1.heap.size = g at *
  have c31a := HA1b.cv 31 (.string m.name) rfl
  have c31b := HA2.cv 31 (.string m.name) rfl
  have c32a := HA1b.cv 32 (.int .i64 m.rev) rfl
  have c32b := HA2.cv 32 (.int .i64 m.rev) rfl
  have c33a := HA1b.cv 33 (.string m.dig) rfl
  have c33b := HA2.cv 33 (.string m.dig) rfl
  have c34a := HA1b.cv 34 (.int .i64 m.cost) rfl
  have c34b := HA2.cv 34 (.int .i64 m.cost) rfl
  have c43a := HA1b.cv 43 (.int .i64 m.hop) rfl
  have c43b := HA2.cv 43 (.int .i64 m.hop) rfl
  have c44a := HA1b.cv 44 (.slice a1 l.length c1) rfl
  have c44b := HA2.cv 44 (.slice a2 l.length c2) rfl
  go_wp2_with (first
    | (refine load_blk (k := 0) 31 (bpC m.base) (by rfl) rfl rfl HA1b (by kernel_rfl) (by kernel_rfl) rfl ?_)
    | (refine load_blk (k := 0) 31 (bpC m.base) (by rfl) rfl rfl HA2 (by kernel_rfl) (by kernel_rfl) rfl ?_)
    | (refine load_blk (k := 35) 27 (brC m.br) (by rfl) rfl rfl HA1b (by kernel_rfl) (by kernel_rfl) rfl ?_)
    | (refine load_blk (k := 35) 27 (brC m.br) (by rfl) rfl rfl HA2 (by kernel_rfl) (by kernel_rfl) rfl ?_)
    | (refine eq_blk .eql 31 (bpC m.base) (bpC m.base) true (by rfl) rfl (Or.inl rfl) rfl rfl (by kernel_rfl) (HQ _) ?_)
    | (refine eq_blk .eql 27 (brC m.br) (brC m.br) true (by rfl) rfl (Or.inl rfl) rfl rfl (by kernel_rfl) (HB _) ?_))
  refine (HE.out _ hI1 hI2).mono ?_
  rintro e w3 ⟨rfl, k3⟩
  go_wp2
  go_ret
  exact ⟨rfl, BB.trans (k3.mono BB.size)⟩

end Go.Proofs.YtajbkoggmhgjfaaGreatDoor

namespace Go.Proofs.YtajbkoggmhgjfaaGreatDoor
open Go.RowKit
attribute [local go_sem ↓] Go.wp_at_zero Go.wp_at_succ
set_option linter.unusedSimpArgs false
set_option linter.unusedVariables false
set_option maxRecDepth 100000

def fBt : Bp := ⟨3, zFl, ⟨0, 0, z6b⟩, 0, ⟨0, 0, z6b⟩, 0, 1, 0, 0, 0, 0⟩
def fDg : ByteArray := ⟨#[100, 100, 100, 100, 100, 100, 100, 100, 100, 100, 100, 100, 100, 100, 100, 100]⟩
def fMs : Ms := ⟨fBt, ⟨#[110]⟩, 0, fDg, 0, ⟨0, 0, z6b⟩, 20⟩
def fIn : Ins := ⟨zFl, ⟨0, 0, z6b⟩, 0, 8, 8, 20⟩
theorem fMs_ok : okMs fMs [fIn] = true := by kernel_rfl
theorem fMs_by : byBp fMs.base ∧ byB fMs.br ∧ ∀ x ∈ [fIn], byIns x := by
  refine ⟨⟨fun _ => (by decide : (0 : Nat) < 256), fun _ => (by decide : (0 : Nat) < 256)⟩, fun _ => (by decide : (0 : Nat) < 256), fun x hx => ?_⟩
  obtain rfl := List.mem_singleton.1 hx
  exact fun _ => (by decide : (0 : Nat) < 256)

set_option maxHeartbeats 6400000 in
theorem treed_any (w : World) : Calls Tryz.prog 4 #[] w fun e w' => e = .returned (.bool true) ∧ Below w.heap.size w w' := by
  have hnn : ∀ w : World, (binOp BinOp.eql 37 .nilIface .nilIface).run Tryz.prog w = .ok (.bool true) w := fun _ => by kernel_rfl
  obtain ⟨i0, hi, hz0, hz1, hz2⟩ := info_parts Tryz.inParts
  have hl : (writeM fMs [fIn]).length = 118 := (okMs_len fMs_ok).1
  have HRP : Hid (∀ W, Calls Tryz.prog 10 #[.string ⟨#[100]⟩, .int .i64 16] W fun e w' => e = .returned (.string fDg) ∧ Below W.heap.size W w') := fun W => Tryz.strings_Repeat ⟨#[100]⟩ 16 W (by decide) (by decide)
  have HWr := Lib.hid (fun (a : Option Addr) (c : Nat) (W : World) (h : InIn W a [fIn]) => msWrite_yes fMs a c [fIn] W h fMs_ok fMs_by)
  have HRd := Lib.hid (fun W => msRead_back fMs [fIn] [120] fMs_ok fMs_by (by rw [List.length_append, hl]; decide) W)
  have HRi := Lib.hid (fun (a : Option Addr) (c : Nat) (W : World) (h : InIn W a [fIn]) => by have q := msRight_any fMs a c [fIn] W h (by decide) (okMs_rg fMs_ok) (by decide) (by decide); rw [fMs_ok] at q; exact q)
  have HSm := Lib.hid (fun (a1 a2 : Option Addr) (c1 c2 : Nat) (W : World) (h1 : InIn W a1 [fIn]) (h2 : InIn W a2 [fIn]) => sameMs_any fMs [fIn] a1 a2 c1 c2 W h1 h2 (by decide))
  generalize writeM fMs [fIn] = y at *
  have p1 : ∀ W, (Op.stringOp .add ⟨y.toArray⟩ ⟨#[120]⟩).run Tryz.prog W = .ok (.string ⟨(y ++ [120]).toArray⟩) W := fun W => run_string_add_lists W _ [120] (by omega) (by decide)
  generalize y ++ [120] = z at *
  go_enter Tryz.func4, Tryz.ntmps4
  go_wp2_with (first
    | (refine build_blk (t := 29) (ptC 0 1) (by rfl) rfl (by kernel_rfl) ?_)
    | (refine build_blk (t := 31) (bpC fBt) (by rfl) rfl (by kernel_rfl) ?_))
  refine (HRP.out _).mono ?_
  rintro e w1 ⟨rfl, B1⟩
  have HG2 := Blk.new w1 49 (inC fIn)
  have B2 := B1.alloc B1.size (.cells (inC fIn) 49)
  have e2 : (w1.alloc (.cells (inC fIn) 49)).heap.size = w1.heap.size + 1 := by simp
  go_upto_region 2 with (first
    | (refine build_blk (t := 49) (inC fIn) (by rfl) rfl (by kernel_rfl) ?_)
    | (refine wpList_buildSlice rfl 32 49 1 _ rfl (inC fIn) i0 (.agg (inC zIns)) Tryz.underlying32 hi hz0 (by rw [hz1]; decide) (by rw [hz1]; decide) (by rw [hz1]; simp only [List.map_toArray, List.map_cons, List.map_nil]; exact fill_in fIn) ?_)
    | (refine build_blk (t := 34) (msC fMs (.slice (some ⟨w1.heap.size, 0, none⟩) 1 1)) (by rfl) rfl (by kernel_rfl) ?_)
    | (refine alloc_blk 34 (msC zMs (.slice none 0 0)) (by rfl) rfl Tryz.msZero ?_)
    | (refine store_blk (k := 0) 34 (.agg (msC fMs (.slice (some ⟨w1.heap.size, 0, none⟩) 1 1))) (msC fMs (.slice (some ⟨w1.heap.size, 0, none⟩) 1 1)) (by rfl) rfl rfl rfl (Blk.new _ _ _) (by kernel_rfl) (show (45 : Nat) ≤ 45 from Nat.le_refl 45) (by rfl) (st_whole _ _ rfl) ?_; intro w3 HV3 b3 g3))
  (try simp only [Act.put, List.setIfInBounds_toArray, List.set_cons_zero, List.set_cons_succ])
  have HG3 : Blk w3 w1.heap.size 49 (inC fIn) := (HG2.alloc _).below b3 (by omega)
  have B3 : Below w.heap.size w w3 := (B2.alloc B2.size _).trans (b3.mono B2.size)
  have I3 : InIn w3 (some ⟨w1.heap.size, 0, none⟩) [fIn] := Or.inr ⟨_, _, rfl, HG3.lt, fun j hj => by
    have hj0 : j = 0 := by simpa using hj
    subst hj0
    intro k c hc
    simp only [Nat.zero_mul, Nat.zero_add]
    exact HG3.cv k c hc⟩
  clear HG2 HG3 B1 B2 b3 g3
  generalize (w1.alloc (.cells (inC fIn) 49)).heap.size = V at *
  generalize w1.heap.size = G at *
  clear e2
  go_wp2_with (refine load_blk (k := 0) 34 (msC fMs (.slice (some ⟨G, 0, none⟩) 1 1)) (by rfl) rfl rfl HV3 (by kernel_rfl) (by kernel_rfl) rfl ?_)
  refine (HWr.out _ _ _ I3).mono ?_
  rintro e w4 ⟨rfl, k4⟩
  have HV4 := HV3.kept k4
  have I4 := I3.below k4
  have B4 := B3.trans (k4.mono B3.size)
  clear HV3 I3 B3 k4
  go_wp2_with fail
  refine (HRd.out _).mono ?_
  rintro e w5 ⟨⟨a5, c5, rfl, J5⟩, k5⟩
  have HV5 := HV4.kept k5
  have I5 := I4.below k5
  have B5 := B4.trans (k5.mono B4.size)
  have hV5 := HV5.lt
  clear HV4 I4 B4 k5
  go_upto_region 4 with (first
    | (refine alloc_blk 34 (msC zMs (.slice none 0 0)) (by rfl) rfl Tryz.msZero ?_)
    | (refine store_blk (k := 0) 34 (.agg (msC fMs (.slice a5 [fIn].length c5))) (msC fMs (.slice a5 [fIn].length c5)) (by rfl) rfl rfl rfl (Blk.new w5 _ _) (by kernel_rfl) (show (45 : Nat) ≤ 45 from Nat.le_refl 45) (by rfl) (st_whole _ _ rfl) ?_; intro w6 HN6 b6 g6))
  (try simp only [Act.put, List.setIfInBounds_toArray, List.set_cons_zero, List.set_cons_succ])
  have b56 : Below w5.heap.size w5 w6 := ((Below.refl _ _).alloc (Nat.le_refl _) _).trans b6
  have HV6 := HV5.kept b56
  have I6 := I5.below b56
  have J6 := J5.below b56
  have B6 := B5.trans (b56.mono B5.size)
  clear HV5 I5 J5 B5 b6 g6 b56 hV5
  generalize w5.heap.size = U at *
  go_wp2_with (first
    | (refine load_blk (k := 0) 34 (msC fMs (.slice (some ⟨G, 0, none⟩) 1 1)) (by rfl) rfl rfl HV6 (by kernel_rfl) (by kernel_rfl) rfl ?_)
    | (refine load_blk (k := 0) 34 (msC fMs (.slice a5 [fIn].length c5)) (by rfl) rfl rfl HN6 (by kernel_rfl) (by kernel_rfl) rfl ?_))
  refine (HSm.out _ _ _ _ _ I6 J6).mono ?_
  rintro e w7 ⟨rfl, k7⟩
  have HV7 := HV6.kept k7
  have I7 := I6.below k7
  have B7 := B6.trans (k7.mono B6.size)
  go_wp2_with (refine load_blk (k := 0) 34 (msC fMs (.slice (some ⟨G, 0, none⟩) 1 1)) (by rfl) rfl rfl HV7 (by kernel_rfl) (by kernel_rfl) rfl ?_)
  refine (HRi.out _ _ _ I7).mono ?_
  rintro e w8 ⟨rfl, k8⟩
  go_wp2
  go_ret
  exact ⟨rfl, B7.trans (k8.mono B7.size)⟩

end Go.Proofs.YtajbkoggmhgjfaaGreatDoor

namespace Go.Proofs.YtajbkoggmhgjfaaGreatDoor.mstpBack
open Go.RowKit
attribute [local go_sem ↓] Go.wp_at_zero Go.wp_at_succ
set_option linter.unusedSimpArgs false
set_option linter.unusedVariables false
set_option maxRecDepth 100000

set_option maxHeartbeats 6400000 in
theorem walk (m : Ms) (a : Option Addr) (c : Nat) (l : List Ins) (hA : ArgMs m l) (t : ByteArray) (w : World) (h : InIn w a l) (hn : m.name.size ≤ 140737488355328) (hd : m.dig.size ≤ 140737488355328) (ht : t.size ≤ 140737488355328) (hE : HasErr w) :
    Calls Tryz.prog 3 #[.agg (msC m (.slice a l.length c)), .string t] w fun e w' => e = .returned (.bool true) ∧ Below w.heap.size w w' := by
  have hne : ∀ w : World, (binOp BinOp.eql 37 .nilIface .nilIface).run Tryz.prog w = .ok (.bool true) w := fun _ => by kernel_rfl
  obtain ⟨X, hX⟩ : ∃ X : Int, (m.name.size : Int) + (m.dig.size : Int) = X := ⟨_, rfl⟩
  have hX1 : IntKind.i64.wrap ((m.name.size : Int) + (m.dig.size : Int)) = X := by rw [IntKind.wrap_i64] <;> omega
  obtain ⟨Y, hY⟩ : ∃ Y : Int, X + (t.size : Int) = Y := ⟨_, rfl⟩
  have hY1 : IntKind.i64.wrap (X + (t.size : Int)) = Y := by rw [IntKind.wrap_i64] <;> omega
  by_cases hl : 80 < l.length
  · have hgt : decide ((80 : Int) < (l.length : Int)) = true := decide_eq_true (by omega)
    clear hX hY
    go_enter Tryz.func3, Tryz.ntmps3
    go_upto_region 1 with (refine box_blk 34 (msC m (.slice a l.length c)) (by rfl) (by rfl) rfl ?_; intro w1 HA1 B1)
    go_wp2_with fail
    refine (treed_any _).mono ?_
    rintro e w2 ⟨rfl, k2⟩
    have HA2 := HA1.kept k2
    have B2 := B1.trans (k2.mono B1.size)
    clear HA1 B1 k2
    have c44 := HA2.cv 44 (.slice a l.length c) rfl
    have c31 := HA2.cv 31 (.string m.name) rfl
    have c33 := HA2.cv 33 (.string m.dig) rfl
    go_wp2
    go_ret
    exact ⟨rfl, B2⟩
  have hgt : decide ((80 : Int) < (l.length : Int)) = false := decide_eq_false (by omega)
  by_cases hy : 300 < Y
  · have hg2 : decide ((300 : Int) < Y) = true := decide_eq_true hy
    clear hX hY
    go_enter Tryz.func3, Tryz.ntmps3
    go_upto_region 1 with (refine box_blk 34 (msC m (.slice a l.length c)) (by rfl) (by rfl) rfl ?_; intro w1 HA1 B1)
    go_wp2_with fail
    refine (treed_any _).mono ?_
    rintro e w2 ⟨rfl, k2⟩
    have HA2 := HA1.kept k2
    have B2 := B1.trans (k2.mono B1.size)
    clear HA1 B1 k2
    have c44 := HA2.cv 44 (.slice a l.length c) rfl
    have c31 := HA2.cv 31 (.string m.name) rfl
    have c33 := HA2.cv 33 (.string m.dig) rfl
    go_wp2
    go_ret
    exact ⟨rfl, B2⟩
  have hg2 : decide ((300 : Int) < Y) = false := decide_eq_false hy
  have hsn : m.name.size ≤ 300 := by omega
  have hsd : m.dig.size ≤ 300 := by omega
  have hst : t.size ≤ 300 := by omega
  have hll : l.length ≤ 80 := by omega
  clear hX hY hn hd ht hy hl
  cases hok : okMs m l with
  | false =>
    have HW := Lib.hid (fun (W : World) (h : InIn W a l) => msWrite_no m a c l W h (by omega) hA.2 (by omega) (by omega) hok)
    have HR := Lib.hid (fun (W : World) (h : InIn W a l) => by have q := msRight_any m a c l W h (by omega) hA.2 (by omega) (by omega); rw [hok] at q; exact q)
    go_enter Tryz.func3, Tryz.ntmps3
    go_upto_region 1 with (refine box_blk 34 (msC m (.slice a l.length c)) (by rfl) (by rfl) rfl ?_; intro w1 HA1 B1)
    go_wp2_with fail
    refine (treed_any _).mono ?_
    rintro e w2 ⟨rfl, k2⟩
    have HA2 := HA1.kept k2
    have B2 := B1.trans (k2.mono B1.size)
    clear HA1 B1 k2
    have c44 := HA2.cv 44 (.slice a l.length c) rfl
    have c31 := HA2.cv 31 (.string m.name) rfl
    have c33 := HA2.cv 33 (.string m.dig) rfl
    have I2 := h.below B2
    go_wp2_with (refine load_blk (k := 0) 34 (msC m (.slice a l.length c)) (by rfl) rfl rfl HA2 (by kernel_rfl) (by kernel_rfl) rfl ?_)
    refine (HW.out _ I2).mono ?_
    rintro e w3 ⟨rfl, k3⟩
    have HA3 := HA2.kept k3
    have I3 := I2.below k3
    have B3 := B2.trans (k3.mono B2.size)
    clear HA2 I2 B2 k3 c44 c31 c33
    go_wp2_with (refine load_blk (k := 0) 34 (msC m (.slice a l.length c)) (by rfl) rfl rfl HA3 (by kernel_rfl) (by kernel_rfl) rfl ?_)
    refine (HR.out _ I3).mono ?_
    rintro e w4 ⟨rfl, k4⟩
    have B4 := B3.trans (k4.mono B3.size)
    go_wp2_with fail
    refine (tell_errno 1 _ (hE.below B4)).mono ?_
    rintro e w5 ⟨rfl, k5⟩
    go_wp2
    go_ret
    exact ⟨rfl, B4.trans (k5.mono B4.size)⟩
  | true =>
    obtain ⟨hwl, h64⟩ := okMs_len hok
    have hx := hA.1
    obtain ⟨u, rfl⟩ : ∃ u : List UInt8, t = ⟨u.toArray⟩ := ⟨t.data.toList, rfl⟩
    have hu : u.length ≤ 300 := by simpa [ByteArray.size] using hst
    have hY2 : IntKind.i64.wrap (X + (u.length : Int)) = Y := hY1
    have HW := Lib.hid (fun (W : World) (h : InIn W a l) => msWrite_yes m a c l W h hok hx)
    have HR := Lib.hid (fun (W : World) (h : InIn W a l) => by have q := msRight_any m a c l W h (by omega) hA.2 (by omega) (by omega); rw [hok] at q; exact q)
    have HB := Lib.hid (fun W => msRead_back m l u hok hx (by rw [List.length_append]; omega) W)
    have HSm := Lib.hid (fun (a1 a2 : Option Addr) (c1 c2 : Nat) (W : World) (h1 : InIn W a1 l) (h2 : InIn W a2 l) => sameMs_any m l a1 a2 c1 c2 W h1 h2 (by omega))
    have m1 : IntKind.i64.wrap (16 * (l.length : Int)) = 16 * (l.length : Int) := by rw [IntKind.wrap_i64] <;> omega
    have m2 : IntKind.i64.wrap (102 + 16 * (l.length : Int)) = 102 + 16 * (l.length : Int) := by rw [IntKind.wrap_i64] <;> omega
    generalize writeM m l = y at *
    have p1 : ∀ W, (Op.stringOp .add ⟨y.toArray⟩ ⟨u.toArray⟩).run Tryz.prog W = .ok (.string ⟨(y ++ u).toArray⟩) W := fun W => run_string_add_lists W y u (by omega) (by omega)
    have hq1 : ((y.length : Int) == 102 + 16 * (l.length : Int)) = true := by rw [beq_iff_eq]; omega
    generalize y ++ u = z at *
    clear hok hx
    go_enter Tryz.func3, Tryz.ntmps3
    go_upto_region 1 with (refine box_blk 34 (msC m (.slice a l.length c)) (by rfl) (by rfl) rfl ?_; intro w1 HA1 B1)
    go_wp2_with fail
    refine (treed_any _).mono ?_
    rintro e w2 ⟨rfl, k2⟩
    have HA2 := HA1.kept k2
    have B2 := B1.trans (k2.mono B1.size)
    clear HA1 B1 k2
    have c44 := HA2.cv 44 (.slice a l.length c) rfl
    have c31 := HA2.cv 31 (.string m.name) rfl
    have c33 := HA2.cv 33 (.string m.dig) rfl
    have I2 := h.below B2
    go_wp2_with (refine load_blk (k := 0) 34 (msC m (.slice a l.length c)) (by rfl) rfl rfl HA2 (by kernel_rfl) (by kernel_rfl) rfl ?_)
    refine (HW.out _ I2).mono ?_
    rintro e w3 ⟨rfl, k3⟩
    have HA3 := HA2.kept k3
    have I3 := I2.below k3
    have B3 := B2.trans (k3.mono B2.size)
    clear HA2 I2 B2 k3 c44 c31 c33
    go_wp2_with (refine load_blk (k := 0) 34 (msC m (.slice a l.length c)) (by rfl) rfl rfl HA3 (by kernel_rfl) (by kernel_rfl) rfl ?_)
    refine (HR.out _ I3).mono ?_
    rintro e w4 ⟨rfl, k4⟩
    have HA4 := HA3.kept k4
    have I4 := I3.below k4
    have B4 := B3.trans (k4.mono B3.size)
    clear HA3 I3 B3 k4
    go_wp2_with fail
    refine (HB.out _).mono ?_
    rintro e w6 ⟨⟨a6, c6, rfl, J6⟩, k6⟩
    have HA6 := HA4.kept k6
    have I6 := I4.below k6
    have B6 := B4.trans (k6.mono B4.size)
    clear HA4 I4 B4 k6
    go_upto_region 9 with (first
      | (refine alloc_blk 34 (msC zMs (.slice none 0 0)) (by rfl) rfl Tryz.msZero ?_)
      | (refine store_blk (k := 0) 34 (.agg (msC m (.slice a6 l.length c6))) (msC m (.slice a6 l.length c6)) (by rfl) rfl rfl rfl (Blk.new w6 _ _) (by kernel_rfl) (show (45 : Nat) ≤ 45 from Nat.le_refl 45) (by rfl) (st_whole _ _ rfl) ?_; intro w7 HN7 b7 g7))
    (try simp only [Act.put, List.setIfInBounds_toArray, List.set_cons_zero, List.set_cons_succ])
    have b67 : Below w6.heap.size w6 w7 := ((Below.refl _ _).alloc (Nat.le_refl _) _).trans b7
    have HA7 := HA6.kept b67
    have I7 := I6.below b67
    have J7 := J6.below b67
    have B7 := B6.trans (b67.mono B6.size)
    clear HA6 I6 J6 B6 b7 g7 b67
    generalize w6.heap.size = U at *
    go_wp2_with (first | (refine load_blk (k := 0) 34 (msC m (.slice a l.length c)) (by rfl) rfl rfl HA7 (by kernel_rfl) (by kernel_rfl) rfl ?_) | (refine load_blk (k := 0) 34 (msC m (.slice a6 l.length c6)) (by rfl) rfl rfl HN7 (by kernel_rfl) (by kernel_rfl) rfl ?_))
    refine (HSm.out _ _ _ _ _ I7 J7).mono ?_
    rintro e w8 ⟨rfl, k8⟩
    have HA8 := HA7.kept k8
    have B8 := B7.trans (k8.mono B7.size)
    have c44 := HA8.cv 44 (.slice a l.length c) rfl
    go_wp2
    go_ret
    exact ⟨rfl, B8⟩

end Go.Proofs.YtajbkoggmhgjfaaGreatDoor.mstpBack
