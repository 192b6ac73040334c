/- Texts one behind the other. The reference's bytesOf and be at every number. prio.Pack, PackPort, the reference's BridgePack, PortPack. bpdu.Body of what may be. bpdu.Write at every BPDU. switchyardkeep.bridged: a fact: true. errors.As at a target of type *api.Errno, and api.Tell: the Errno of nil, of an Errno, and of an *api.At. errors.As at a target of type *api.Errno: an Errno is found; an *api.At by its Unwrap. api.Tell, plain.Place, and what the laws make of them, at nil, at an Errno, and at an *api.At. switchyardkeep.BpduBack returns true at every BPDU and text, and changes nothing that was there. The end of a row's proof where of the world behind the call only this is known: below the old heap's size nothing is changed. What a row's list of variables gives a walk, and a world in which all that is listed lies. Arguments opened: names, vectors, lists of vectors. -/
import Derived.Test.YtjoepmfineinfaaDoorNum
import Derived.Test.YtjoepmfineinfaaDoorBlk
import Derived.Test.YtjoepmfineinfaaDoorBy
import Derived.Test.YtjoepmfineinfaaDoorPrRight
import Derived.Test.YtjoepmfineinfaaDoorVecPack
import Derived.Test.YtjoepmfineinfaaDoorMust
import Derived.Laws.Concat
import Derived.Test.YtjoepmfineinfaaDoorBpRight
import Derived.Test.YtjoepmfineinfaaDoorBpOk
import Derived.Test.YtjoepmfineinfaaDoorBpNums
import Derived.Test.YtjoepmfineinfaaDoorBpByte
import Derived.Test.YtjoepmfineinfaaDoorBpBack
import Derived.Test.YtjoepmfineinfaaDoorFlt
import Derived.LaidEql
import Derived.Stop.Asserts
import Derived.RowKitTokens
import Derived.Lib.Hide
import Derived.Below
import Derived.ChangeSame
import Derived.Test.YtjoepmfineinfaaDoorRows
import Derived.Test.YtjoepmfineinfaaDoorCards
import Derived.Test.YtjoepmfineinfaaDoorTie
import Derived.ProofKit
import Derived.OpenShut
import Derived.LaidHandle
import Derived.LaidMore
import Derived.LaidSub
import Derived.Deep.DeepHandedRow
import Derived.Lib.LaidTab
import Derived.Test.YtjoepmfineinfaaDoorVecs
import Derived.WideKeyArgs
import Derived.WideShapes
import Derived.Lib.SmallJoins
import Derived.Deep.SlicePairs
namespace Go.Proofs.YtjoepmfineinfaaDoor
open Go.RowKit
attribute [local go_sem ↓] Go.wp_at_zero Go.wp_at_succ

theorem one_byte (W : World) (b : UInt8) :
    (convert 74 9 (.slice (some ⟨W.heap.size, 0, none⟩) 1 1)).run Tryd.prog (W.alloc (.cells #[.int .u8 (b.toNat : Int)] 5)) = .ok (.string ⟨#[b]⟩) (W.alloc (.cells #[.int .u8 (b.toNat : Int)] 5)) := by
  have h := run_convert_bytes_back (P := Tryd.prog) (W.alloc (.cells #[.int .u8 (b.toNat : Int)] 5)) 74 9 5 ⟨W.heap.size, 0, none⟩ 1 [b] Tryd.underlying74 Tryd.underlying5 Tryd.underlying9 (fun j hj => by
    have hj0 : j = 0 := by simp at hj; exact hj
    subst hj0
    rw [Addr.add_lit, World.cell?_alloc_at _ _ _ _ rfl]
    rfl)
  exact h

theorem one_digit (W : World) (y : Nat) :
    (convert 74 9 (.slice (some ⟨W.heap.size, 0, none⟩) 1 1)).run Tryd.prog (W.alloc (.cells #[.int .u8 ((y : Int) % 256)] 5)) = .ok (.string ⟨#[UInt8.ofNat (y % 256)]⟩) (W.alloc (.cells #[.int .u8 ((y : Int) % 256)] 5)) := by
  have e : ((y : Int) % 256) = ((UInt8.ofNat (y % 256)).toNat : Int) := by rw [UInt8.toNat_ofNat', Nat.mod_mod]; omega
  rw [e]
  exact one_byte W _






end Go.Proofs.YtjoepmfineinfaaDoor

namespace Go.Proofs.YtjoepmfineinfaaDoor
open Go.RowKit
attribute [local go_sem ↓] Go.wp_at_zero Go.wp_at_succ
set_option linter.unusedSimpArgs false
set_option linter.unusedVariables false
set_option maxRecDepth 100000

theorem packL_nb (b : Br) : packL b = putL (b.p + b.e).toNat 2 ++ nb 6 b.a := rfl

/-- The two bytes of a port's name. -/
def ppL (p n : Int) : List UInt8 := putL (256 * p + n).toNat 2

theorem pack_no (b : Br) (h : okB b = false) (w : World) :
    Calls Tryd.prog 73 #[.agg (brC b)] w fun e w' => e = .returned (.tuple #[.string ⟨#[]⟩, .iface 27 (.int .i64 1)]) ∧ Below w.heap.size w w' := by
  have HA := Blk.new w 48 (brC b)
  have B0 : Below w.heap.size w (w.alloc (.cells (brC b) 48)) := (Below.refl _ _).alloc (Nat.le_refl _) _
  have HR := Lib.hid (fun W => right_any b W)
  rw [h] at HR
  go_enter Tryd.func73, Tryd.ntmps73
  go_upto_region 1 with (fail)
  generalize (w.alloc (.cells (brC b) 48)) = w1 at *
  go_wp2_with (refine load_blk (k := 0) 48 (brC b) (by rfl) rfl rfl HA (by kernel_rfl) (by kernel_rfl) rfl ?_)
  refine (HR.out _).mono ?_
  rintro e w2 ⟨rfl, k2⟩
  go_wp2
  go_ret2
  exact ⟨rfl, B0.trans (k2.mono B0.size)⟩



theorem packPort_no (p n : Int) (h : okPt p n = false) (w : World) :
    Calls Tryd.prog 74 #[.agg (ptC p n)] w fun e w' => e = .returned (.tuple #[.string ⟨#[]⟩, .iface 27 (.int .i64 1)]) ∧ Below w.heap.size w w' := by
  have HA := Blk.new w 50 (ptC p n)
  have B0 : Below w.heap.size w (w.alloc (.cells (ptC p n) 50)) := (Below.refl _ _).alloc (Nat.le_refl _) _
  have HR := Lib.hid (fun W => port_any p n W)
  rw [h] at HR
  go_enter Tryd.func74, Tryd.ntmps74
  go_upto_region 1 with (fail)
  generalize (w.alloc (.cells (ptC p n) 50)) = w1 at *
  go_wp2_with (refine load_blk (k := 0) 50 (ptC p n) (by rfl) rfl rfl HA (by kernel_rfl) (by kernel_rfl) rfl ?_)
  refine (HR.out _).mono ?_
  rintro e w2 ⟨rfl, k2⟩
  go_wp2
  go_ret2
  exact ⟨rfl, B0.trans (k2.mono B0.size)⟩



set_option maxHeartbeats 3200000 in
theorem pack_yes (b : Br) (h : okB b = true) (hb : byB b) (w : World) :
    Calls Tryd.prog 73 #[.agg (brC b)] w fun e w' => e = .returned (.tuple #[.string ⟨(packL b).toArray⟩, .nilIface]) ∧ Below w.heap.size w w' := by
  have HA := Blk.new w 48 (brC b)
  have B0 : Below w.heap.size w (w.alloc (.cells (brC b) 48)) := (Below.refl _ _).alloc (Nat.le_refl _) _
  have HR := Lib.hid (fun W => right_any b W)
  rw [h] at HR
  obtain ⟨p0, p1, _, e0, e1⟩ := okB_all h
  obtain ⟨X, hX⟩ := Int.eq_ofNat_of_zero_le (show 0 ≤ b.p + b.e by omega)
  have HP : Hid (packL b = putL X 2 ++ nb 6 b.a) := by show _ = _; rw [packL_nb, hX, Int.toNat_natCast]
  have hX2 : X < 65536 := by omega
  rw [HP.out]
  have HM : Hid (∀ W, Calls Tryd.prog 41 #[.int .i64 X, .int .i64 2] W fun e w' => e = .returned (.string ⟨(putL X 2).toArray⟩) ∧ Below W.heap.size W w') := by
    intro W
    exact must_fits X 2 W (by decide) (by decide) (by omega)
  have hW : IntKind.i64.wrap (X : Int) = (X : Int) := by rw [IntKind.wrap_i64]; omega
  have hl1 := putL_length X 2
  have hl2 := nb_len 6 b.a
  generalize putL X 2 = y at *
  have hadd : ∀ W, (Op.stringOp .add ⟨y.toArray⟩ ⟨(nb 6 b.a).toArray⟩).run Tryd.prog W = .ok (.string ⟨(y ++ nb 6 b.a).toArray⟩) W := fun W => run_string_add_lists W _ _ (by omega) (by omega)
  go_enter Tryd.func73, Tryd.ntmps73
  go_upto_region 1 with (fail)
  generalize (w.alloc (.cells (brC b) 48)) = w1 at *
  go_wp2_with (refine load_blk (k := 0) 48 (brC b) (by rfl) rfl rfl HA (by kernel_rfl) (by kernel_rfl) rfl ?_)
  refine (HR.out _).mono ?_
  rintro e w2 ⟨rfl, k2⟩
  have HA2 := HA.kept k2
  have B2 := B0.trans (k2.mono B0.size)
  obtain ⟨c0, c1, c2, c3, c4, c5, c6', c7⟩ := br_cells HA2
  go_upto_region 3 with (fail)
  refine wp_region_noPanic ?_
  refine wp_region_held_drew (S := (fun w' => (w'.cell? ⟨w.heap.size, 0, none⟩ = some (.int .i64 b.p) ∧ w'.cell? ⟨w.heap.size, 1, none⟩ = some (.int .i64 b.e)) ∧ Blk w' w.heap.size 48 (brC b))) (by kernel_rfl) ?_ (fun hHeld => ?_)
  · exact ⟨⟨c0, c1⟩, HA2⟩
  refine wpAnyH_take (i := 0) (v := ?_) rfl (by kernel_rfl) (by kernel_rfl) (by kernel_rfl) (fun _ _ _ h => h) (Or.inl ⟨by rfl, ?_⟩) (by assumption) ?_
  rotate_left
  · (intro w hSw; (try dsimp only at hSw); go_simp; (try with_reducible rfl))
  (try simp only [Act.put, List.getElem_toArray, List.getElem_cons_zero, List.getElem_cons_succ, List.setIfInBounds_toArray, List.set_cons_zero, List.set_cons_succ])
  refine wpAnyH_take (i := 1) (v := ?_) rfl (by kernel_rfl) (by kernel_rfl) (by kernel_rfl) (fun _ _ _ h => h) (Or.inl ⟨by rfl, ?_⟩) (by assumption) ?_
  rotate_left
  · (intro w hSw; (try dsimp only at hSw); go_simp; (try with_reducible rfl))
  (try simp only [Act.put, List.getElem_toArray, List.getElem_cons_zero, List.getElem_cons_succ, List.setIfInBounds_toArray, List.set_cons_zero, List.set_cons_succ])
  refine wpAnyH_take (i := 2) (v := ?_) rfl (by kernel_rfl) (by kernel_rfl) (by kernel_rfl) (fun _ _ _ h => h) (Or.inl ⟨by rfl, ?_⟩) (by assumption) ?_
  rotate_left
  · (intro w hSw; (try dsimp only at hSw); go_simp; (try with_reducible rfl))
  (try simp only [Act.put, List.getElem_toArray, List.getElem_cons_zero, List.getElem_cons_succ, List.setIfInBounds_toArray, List.set_cons_zero, List.set_cons_succ])
  refine wpAnyH_take (i := 3) (v := ?_) rfl (by kernel_rfl) (by kernel_rfl) (by kernel_rfl) (fun _ _ _ h => h) (Or.inl ⟨by rfl, ?_⟩) (by assumption) ?_
  rotate_left
  · (intro w hSw; (try dsimp only at hSw); go_simp; (try with_reducible rfl))
  (try simp only [Act.put, List.getElem_toArray, List.getElem_cons_zero, List.getElem_cons_succ, List.setIfInBounds_toArray, List.set_cons_zero, List.set_cons_succ])
  refine wpAnyH_take (i := 4) (v := ?_) rfl (by kernel_rfl) (by kernel_rfl) (by kernel_rfl) (fun _ _ _ h => h) (Or.inl ⟨by rfl, ?_⟩) (by assumption) ?_
  rotate_left
  · (intro w hSw; (try dsimp only at hSw); go_simp; (try with_reducible rfl))
  (try simp only [Act.put, List.getElem_toArray, List.getElem_cons_zero, List.getElem_cons_succ, List.setIfInBounds_toArray, List.set_cons_zero, List.set_cons_succ])
  refine wpAnyH_take (i := 6) (v := ?_) rfl (by kernel_rfl) (by kernel_rfl) (by kernel_rfl) (fun _ _ _ h => h) (Or.inl ⟨by rfl, ?_⟩) (by assumption) ?_
  rotate_left
  · (intro w hSw; (try dsimp only at hSw); go_simp; (try with_reducible rfl))
  (try simp only [Act.put, List.getElem_toArray, List.getElem_cons_zero, List.getElem_cons_succ, List.setIfInBounds_toArray, List.set_cons_zero, List.set_cons_succ])
  refine wpAnyH_take (i := 7) (v := ?_) rfl (by kernel_rfl) (by kernel_rfl) (by kernel_rfl) (fun _ _ _ h => h) (Or.inl ⟨by rfl, ?_⟩) (by assumption) ?_
  rotate_left
  · (intro w hSw; (try dsimp only at hSw); go_simp; (try with_reducible rfl))
  (try simp only [Act.put, List.getElem_toArray, List.getElem_cons_zero, List.getElem_cons_succ, List.setIfInBounds_toArray, List.set_cons_zero, List.set_cons_succ])
  refine wpAnyH_take (i := 8) (v := .string ⟨(nb 6 b.a).toArray⟩) rfl (by kernel_rfl) (by kernel_rfl) (by kernel_rfl) (fun _ _ _ h => h) (Or.inl ⟨by rfl, fun w hSw => exec_text (k := 2) (n := 6) b.a rfl rfl hb (fun j hj => six_of (k := 2) hSw.2 rfl j hj)⟩) (by assumption) ?_
  (try simp only [Act.put, List.getElem_toArray, List.getElem_cons_zero, List.getElem_cons_succ, List.setIfInBounds_toArray, List.set_cons_zero, List.set_cons_succ])
  refine wpAnyH_ready (rs := [5]) (by kernel_rfl) (by simp) ?_
  refine AllReadyH.cons rfl (fun K hK => ?_) AllReadyH.nil
  simp only [List.getElem_toArray, List.getElem_cons_zero, List.getElem_cons_succ]
  go_simp
  with_reducible refine (HM.out _).mono ?_
  rintro e w3 ⟨rfl, k3⟩
  have HA3 := HA2.drew.kept k3
  have B3 := B2.drew.trans (k3.mono B2.size)
  obtain ⟨d0, d1, _⟩ := br_cells HA3
  refine hK.out _ _ ?_ (fun hHeld => ?_)
  · exact ⟨⟨d0, d1⟩, HA3⟩
  clear hK K
  (try simp only [Act.put, List.getElem_toArray, List.getElem_cons_zero, List.getElem_cons_succ, List.setIfInBounds_toArray, List.set_cons_zero, List.set_cons_succ])
  refine wpAnyH_take (i := 9) (v := ?_) rfl (by kernel_rfl) (by kernel_rfl) (by kernel_rfl) (fun _ _ _ h => h) (Or.inl ⟨by rfl, ?_⟩) (by assumption) ?_
  rotate_left
  · (intro w hSw; (try dsimp only at hSw); go_simp; (try with_reducible rfl))
  (try simp only [Act.put, List.getElem_toArray, List.getElem_cons_zero, List.getElem_cons_succ, List.setIfInBounds_toArray, List.set_cons_zero, List.set_cons_succ])
  refine wpAnyH_take (i := 10) (v := ?_) rfl (by kernel_rfl) (by kernel_rfl) (by kernel_rfl) (fun _ _ _ h => h) (Or.inl ⟨by rfl, ?_⟩) (by assumption) ?_
  rotate_left
  · (intro w hSw; (try dsimp only at hSw); go_simp; (try with_reducible rfl))
  (try simp only [Act.put, List.getElem_toArray, List.getElem_cons_zero, List.getElem_cons_succ, List.setIfInBounds_toArray, List.set_cons_zero, List.set_cons_succ])
  refine wpAnyH_take (i := 11) (v := ?_) rfl (by kernel_rfl) (by kernel_rfl) (by kernel_rfl) (fun _ _ _ h => h) (Or.inl ⟨by rfl, ?_⟩) (by assumption) ?_
  rotate_left
  · (intro w hSw; (try dsimp only at hSw); go_simp; (try with_reducible rfl))
  (try simp only [Act.put, List.getElem_toArray, List.getElem_cons_zero, List.getElem_cons_succ, List.setIfInBounds_toArray, List.set_cons_zero, List.set_cons_succ])
  refine wpAnyH_done (by kernel_rfl) ?_ _
  refine NoPanic.normal ?_
  go_wp2
  go_ret2
  exact ⟨rfl, B3⟩



set_option maxHeartbeats 3200000 in
theorem packPort_yes (p n : Int) (h : okPt p n = true) (w : World) :
    Calls Tryd.prog 74 #[.agg (ptC p n)] w fun e w' => e = .returned (.tuple #[.string ⟨(ppL p n).toArray⟩, .nilIface]) ∧ Below w.heap.size w w' := by
  have HA := Blk.new w 50 (ptC p n)
  have B0 : Below w.heap.size w (w.alloc (.cells (ptC p n) 50)) := (Below.refl _ _).alloc (Nat.le_refl _) _
  have HR := Lib.hid (fun W => port_any p n W)
  rw [h] at HR
  obtain ⟨p0, p1, _, e0, e1⟩ := okPt_all h
  obtain ⟨X, hX⟩ := Int.eq_ofNat_of_zero_le (show 0 ≤ 256 * p + n by omega)
  have HP : Hid (ppL p n = putL X 2) := by show _ = _; unfold ppL; rw [hX, Int.toNat_natCast]
  have hX2 : X < 65536 := by omega
  rw [HP.out]
  have HM : Hid (∀ W, Calls Tryd.prog 41 #[.int .i64 X, .int .i64 2] W fun e w' => e = .returned (.string ⟨(putL X 2).toArray⟩) ∧ Below W.heap.size W w') := by
    intro W
    exact must_fits X 2 W (by decide) (by decide) (by omega)
  have hW0 : IntKind.i64.wrap (256 * p) = 256 * p := by rw [IntKind.wrap_i64]; omega
  have hW : IntKind.i64.wrap (X : Int) = (X : Int) := by rw [IntKind.wrap_i64]; omega
  generalize putL X 2 = y at *
  go_enter Tryd.func74, Tryd.ntmps74
  go_upto_region 1 with (fail)
  generalize (w.alloc (.cells (ptC p n) 50)) = w1 at *
  go_wp2_with (refine load_blk (k := 0) 50 (ptC p n) (by rfl) rfl rfl HA (by kernel_rfl) (by kernel_rfl) rfl ?_)
  refine (HR.out _).mono ?_
  rintro e w2 ⟨rfl, k2⟩
  have HA2 := HA.kept k2
  have B2 := B0.trans (k2.mono B0.size)
  have c0 := HA2.cv 0 (.int .i64 p) rfl
  have c1 := HA2.cv 1 (.int .i64 n) rfl
  go_wp2_with fail
  with_reducible refine (HM.out _).mono ?_
  rintro e w3 ⟨rfl, k3⟩
  go_wp2
  go_ret2
  exact ⟨rfl, B2.trans (k3.mono B2.size)⟩



end Go.Proofs.YtjoepmfineinfaaDoor

namespace Go.Proofs.YtjoepmfineinfaaDoor
open Go.RowKit
attribute [local go_sem ↓] Go.wp_at_zero Go.wp_at_succ
set_option linter.unusedSimpArgs false
set_option linter.unusedVariables false
set_option maxRecDepth 100000

set_option maxHeartbeats 6400000 in
theorem body_any (b : Bp) (hk : b.k = 1 ∨ b.k = 3) (hok : okBp b = true) (hx : byBp b) (hr : rgBp b) (w : World) :
    Calls Tryd.prog 54 #[.agg (bpC b)] w fun e w' => e = .returned (.string ⟨(bodyL b).toArray⟩) ∧ Below w.heap.size w w' := by
  obtain ⟨hf, hb⟩ := okBp_body hok hk
  obtain ⟨hroot, hsnd, hport, hcost, hage, hmx, hhel, hwai⟩ := okBd_all hb
  have d2 : (b.k == 2) = false := by rcases hk with hk | hk <;> rw [hk] <;> rfl
  have HR := Lib.hid (fun W => bpRight_any b hr W)
  rw [hok] at HR
  have HP1 := Lib.hid (fun W => pack_yes b.root hroot hx.1 W)
  have HP2 := Lib.hid (fun W => pack_yes b.snd hsnd hx.2 W)
  have HP3 := Lib.hid (fun W => packPort_yes b.pp b.pn hport W)
  have HA := Blk.new w 52 (bpC b)
  have B0 : Below w.heap.size w (w.alloc (.cells (bpC b) 52)) := (Below.refl _ _).alloc (Nat.le_refl _) _
  have c0 := HA.cv 0 (.int .i64 b.k) rfl
  go_enter Tryd.func54, Tryd.ntmps54
  go_upto_region 1 with (fail)
  generalize (w.alloc (.cells (bpC b) 52)) = w1 at *
  go_wp2_with (refine load_blk (k := 0) 52 (bpC b) (by rfl) rfl rfl HA (by kernel_rfl) (by kernel_rfl) rfl ?_)
  refine (HR.out _).mono ?_
  rintro e w2 ⟨rfl, k2⟩
  have HA2 := HA.kept k2
  have B2 := B0.trans (k2.mono B0.size)
  go_wp2_with (refine load_blk (k := 8) 48 (brC b.root) (by rfl) rfl rfl HA2 (by kernel_rfl) (by kernel_rfl) rfl ?_)
  refine (HP1.out _).mono ?_
  rintro e w3 ⟨rfl, k3⟩
  have HA3 := HA2.kept k3
  have B3 := B2.trans (k3.mono B2.size)
  go_wp2_with (refine load_blk (k := 17) 48 (brC b.snd) (by rfl) rfl rfl HA3 (by kernel_rfl) (by kernel_rfl) rfl ?_)
  refine (HP2.out _).mono ?_
  rintro e w4 ⟨rfl, k4⟩
  have HA4 := HA3.kept k4
  have B4 := B3.trans (k4.mono B3.size)
  go_wp2_with (refine load_blk (k := 25) 50 (ptC b.pp b.pn) (by rfl) rfl rfl HA4 (by kernel_rfl) (by kernel_rfl) rfl ?_)
  refine (HP3.out _).mono ?_
  rintro e w5 ⟨rfl, k5⟩
  have HA5 := HA4.kept k5
  have B5 := B4.trans (k5.mono B4.size)
  go_upto_region 6 with (fail)
  -- region 6
  have hl0 : (putL (byF b.f) 1).length = 1 := putL_length _ _
  have hl1 := packL_len b.root
  have hl2 : (putL b.cost.toNat 4).length = 4 := putL_length _ _
  have hl3 := packL_len b.snd
  have hl4 : (ppL b.pp b.pn).length = 2 := putL_length _ _
  have hl5 : (tmL b).length = 8 := by simp [tmL, putL_length]
  have HBL : Hid (bodyL b = putL (byF b.f) 1 ++ packL b.root ++ putL b.cost.toNat 4 ++ packL b.snd ++ ppL b.pp b.pn ++ tmL b) := by show _ = _; simp [bodyL, ppL, pprL]
  have hby := byF_lt b.f hf
  have HN1 : Hid (∀ (g : Nat) (W : World), IRow W g [(byF b.f : Int)] → Calls Tryd.prog 75 #[.int .i64 1, .slice (some ⟨g, 0, none⟩) 1 1] W fun e w' => e = .returned (.string ⟨(putL (byF b.f) 1).toArray⟩) ∧ Below W.heap.size W w') := fun g W h => by
    have q := numbers_any 1 (by decide) (by decide) [(byF b.f : Int)] (by simp) (by intro v hv; simp only [List.mem_singleton] at hv; subst hv; simp [fitI]; omega) g W h
    rw [show bwN 1 [(byF b.f : Int)] = putL (byF b.f) 1 by simp [bwN]] at q
    exact q
  have HN4 : Hid (∀ (g : Nat) (W : World), IRow W g [b.cost] → Calls Tryd.prog 75 #[.int .i64 4, .slice (some ⟨g, 0, none⟩) 1 1] W fun e w' => e = .returned (.string ⟨(putL b.cost.toNat 4).toArray⟩) ∧ Below W.heap.size W w') := fun g W h => by
    have q := numbers_any 4 (by decide) (by decide) [b.cost] (by simp) (by intro v hv; simp only [List.mem_singleton] at hv; subst hv; exact hcost) g W h
    rw [show bwN 4 [b.cost] = putL b.cost.toNat 4 by simp [bwN]] at q
    exact q
  have HN2 : Hid (∀ (g : Nat) (W : World), IRow W g [b.age, b.mx, b.hel, b.wai] → Calls Tryd.prog 75 #[.int .i64 2, .slice (some ⟨g, 0, none⟩) 4 4] W fun e w' => e = .returned (.string ⟨(tmL b).toArray⟩) ∧ Below W.heap.size W w') := fun g W h => by
    have q := numbers_any 2 (by decide) (by decide) [b.age, b.mx, b.hel, b.wai] (by simp) (by intro v hv; simp only [List.mem_cons, List.not_mem_nil, or_false] at hv; rcases hv with rfl | rfl | rfl | rfl <;> assumption) g W h
    rw [show bwN 2 [b.age, b.mx, b.hel, b.wai] = tmL b by simp [bwN, tmL]] at q
    exact q
  have HBy := Lib.hid (fun W => byte_any b.f hf W)
  generalize putL (byF b.f) 1 = y0 at *
  generalize packL b.root = y1 at *
  generalize putL b.cost.toNat 4 = y2 at *
  generalize packL b.snd = y3 at *
  generalize ppL b.pp b.pn = y4 at *
  generalize tmL b = y5 at *
  obtain ⟨z1, hz1⟩ : ∃ z, z = y0 ++ y1 := ⟨_, rfl⟩
  have zl1 : z1.length = 9 := by rw [hz1, List.length_append]; omega
  have p1 : ∀ W, (Op.stringOp .add ⟨y0.toArray⟩ ⟨y1.toArray⟩).run Tryd.prog W = .ok (.string ⟨z1.toArray⟩) W := fun W => by rw [hz1]; exact run_string_add_lists W _ _ (by omega) (by omega)
  obtain ⟨z2, hz2⟩ : ∃ z, z = z1 ++ y2 := ⟨_, rfl⟩
  have zl2 : z2.length = 13 := by rw [hz2, List.length_append]; omega
  have p2 : ∀ W, (Op.stringOp .add ⟨z1.toArray⟩ ⟨y2.toArray⟩).run Tryd.prog W = .ok (.string ⟨z2.toArray⟩) W := fun W => by rw [hz2]; exact run_string_add_lists W _ _ (by omega) (by omega)
  obtain ⟨z3, hz3⟩ : ∃ z, z = z2 ++ y3 := ⟨_, rfl⟩
  have zl3 : z3.length = 21 := by rw [hz3, List.length_append]; omega
  have p3 : ∀ W, (Op.stringOp .add ⟨z2.toArray⟩ ⟨y3.toArray⟩).run Tryd.prog W = .ok (.string ⟨z3.toArray⟩) W := fun W => by rw [hz3]; exact run_string_add_lists W _ _ (by omega) (by omega)
  obtain ⟨z4, hz4⟩ : ∃ z, z = z3 ++ y4 := ⟨_, rfl⟩
  have zl4 : z4.length = 23 := by rw [hz4, List.length_append]; omega
  have p4 : ∀ W, (Op.stringOp .add ⟨z3.toArray⟩ ⟨y4.toArray⟩).run Tryd.prog W = .ok (.string ⟨z4.toArray⟩) W := fun W => by rw [hz4]; exact run_string_add_lists W _ _ (by omega) (by omega)
  obtain ⟨z5, hz5⟩ : ∃ z, z = z4 ++ y5 := ⟨_, rfl⟩
  have zl5 : z5.length = 31 := by rw [hz5, List.length_append]; omega
  have p5 : ∀ W, (Op.stringOp .add ⟨z4.toArray⟩ ⟨y5.toArray⟩).run Tryd.prog W = .ok (.string ⟨z5.toArray⟩) W := fun W => by rw [hz5]; exact run_string_add_lists W _ _ (by omega) (by omega)
  replace HBL : Hid (bodyL b = z5) := by show _ = _; rw [HBL.out, hz5, hz4, hz3, hz2, hz1]
  clear hz1 hz2 hz3 hz4 hz5 zl1 zl2 zl3 zl4 zl5
  have D5 := B5.drew
  clear HR HP1 HP2 HP3 B0 B2 B3 B4 HA HA2 HA3 HA4 k2 k3 k4 k5 hroot hsnd hport hcost hage hmx hhel hwai c0 d2 hl0 hl1 hl2 hl3 hl4 hl5 hby hf hb hr hx hok hk
  refine wp_region_noPanic ?_
  refine wp_region_held_drew (S := (fun w' => Blk w' w.heap.size 52 (bpC b))) (by kernel_rfl) ?_ (fun hHeld => ?_)
  · exact HA5
  have A5 := HA5.drew
  refine wpAnyH_take (i := 0) (v := ?_) rfl (by kernel_rfl) (by kernel_rfl) (by kernel_rfl) (fun _ _ _ h => h) (Or.inl ⟨by rfl, ?_⟩) (by assumption) ?_
  rotate_left
  · (intro w hSw; (try dsimp only at hSw); go_simp; (try with_reducible rfl))
  (try simp only [Act.put, List.getElem_toArray, List.getElem_cons_zero, List.getElem_cons_succ, List.setIfInBounds_toArray, List.set_cons_zero, List.set_cons_succ])
  refine wpAnyH_take (i := 1) (v := .agg (flC b.f)) rfl (by kernel_rfl) (by kernel_rfl) (by kernel_rfl) (fun _ _ _ h => h) (Or.inl ⟨by rfl, fun w hSw => exec_load_blk (k := 1) 46 (flC b.f) rfl rfl hSw (by kernel_rfl) (by kernel_rfl) rfl⟩) (by assumption) ?_
  (try simp only [Act.put, List.getElem_toArray, List.getElem_cons_zero, List.getElem_cons_succ, List.setIfInBounds_toArray, List.set_cons_zero, List.set_cons_succ])
  refine wpAnyH_take (i := 5) (v := ?_) rfl (by kernel_rfl) (by kernel_rfl) (by kernel_rfl) (fun _ _ _ h => h) (Or.inl ⟨by rfl, ?_⟩) (by assumption) ?_
  rotate_left
  · (intro w hSw; (try dsimp only at hSw); go_simp; (try with_reducible rfl))
  (try simp only [Act.put, List.getElem_toArray, List.getElem_cons_zero, List.getElem_cons_succ, List.setIfInBounds_toArray, List.set_cons_zero, List.set_cons_succ])
  refine wpAnyH_take (i := 7) (v := ?_) rfl (by kernel_rfl) (by kernel_rfl) (by kernel_rfl) (fun _ _ _ h => h) (Or.inl ⟨by rfl, ?_⟩) (by assumption) ?_
  rotate_left
  · (intro w hSw; (try dsimp only at hSw); go_simp; (try with_reducible rfl))
  (try simp only [Act.put, List.getElem_toArray, List.getElem_cons_zero, List.getElem_cons_succ, List.setIfInBounds_toArray, List.set_cons_zero, List.set_cons_succ])
  refine wpAnyH_take (i := 8) (v := .int .i64 b.cost) rfl (by kernel_rfl) (by kernel_rfl) (by kernel_rfl) (fun _ _ _ h => h) (Or.inl ⟨by rfl, fun w hSw => by have c := hSw.cv 16 (.int .i64 b.cost) rfl; go_simp⟩) (by assumption) ?_
  (try simp only [Act.put, List.getElem_toArray, List.getElem_cons_zero, List.getElem_cons_succ, List.setIfInBounds_toArray, List.set_cons_zero, List.set_cons_succ])
  refine wpAnyH_take (i := 12) (v := ?_) rfl (by kernel_rfl) (by kernel_rfl) (by kernel_rfl) (fun _ _ _ h => h) (Or.inl ⟨by rfl, ?_⟩) (by assumption) ?_
  rotate_left
  · (intro w hSw; (try dsimp only at hSw); go_simp; (try with_reducible rfl))
  (try simp only [Act.put, List.getElem_toArray, List.getElem_cons_zero, List.getElem_cons_succ, List.setIfInBounds_toArray, List.set_cons_zero, List.set_cons_succ])
  refine wpAnyH_take (i := 14) (v := ?_) rfl (by kernel_rfl) (by kernel_rfl) (by kernel_rfl) (fun _ _ _ h => h) (Or.inl ⟨by rfl, ?_⟩) (by assumption) ?_
  rotate_left
  · (intro w hSw; (try dsimp only at hSw); go_simp; (try with_reducible rfl))
  (try simp only [Act.put, List.getElem_toArray, List.getElem_cons_zero, List.getElem_cons_succ, List.setIfInBounds_toArray, List.set_cons_zero, List.set_cons_succ])
  refine wpAnyH_take (i := 16) (v := ?_) rfl (by kernel_rfl) (by kernel_rfl) (by kernel_rfl) (fun _ _ _ h => h) (Or.inl ⟨by rfl, ?_⟩) (by assumption) ?_
  rotate_left
  · (intro w hSw; (try dsimp only at hSw); go_simp; (try with_reducible rfl))
  (try simp only [Act.put, List.getElem_toArray, List.getElem_cons_zero, List.getElem_cons_succ, List.setIfInBounds_toArray, List.set_cons_zero, List.set_cons_succ])
  refine wpAnyH_take (i := 17) (v := .int .i64 b.age) rfl (by kernel_rfl) (by kernel_rfl) (by kernel_rfl) (fun _ _ _ h => h) (Or.inl ⟨by rfl, fun w hSw => by have c := hSw.cv 27 (.int .i64 b.age) rfl; go_simp⟩) (by assumption) ?_
  (try simp only [Act.put, List.getElem_toArray, List.getElem_cons_zero, List.getElem_cons_succ, List.setIfInBounds_toArray, List.set_cons_zero, List.set_cons_succ])
  refine wpAnyH_take (i := 18) (v := ?_) rfl (by kernel_rfl) (by kernel_rfl) (by kernel_rfl) (fun _ _ _ h => h) (Or.inl ⟨by rfl, ?_⟩) (by assumption) ?_
  rotate_left
  · (intro w hSw; (try dsimp only at hSw); go_simp; (try with_reducible rfl))
  (try simp only [Act.put, List.getElem_toArray, List.getElem_cons_zero, List.getElem_cons_succ, List.setIfInBounds_toArray, List.set_cons_zero, List.set_cons_succ])
  refine wpAnyH_take (i := 19) (v := .int .i64 b.mx) rfl (by kernel_rfl) (by kernel_rfl) (by kernel_rfl) (fun _ _ _ h => h) (Or.inl ⟨by rfl, fun w hSw => by have c := hSw.cv 28 (.int .i64 b.mx) rfl; go_simp⟩) (by assumption) ?_
  (try simp only [Act.put, List.getElem_toArray, List.getElem_cons_zero, List.getElem_cons_succ, List.setIfInBounds_toArray, List.set_cons_zero, List.set_cons_succ])
  refine wpAnyH_take (i := 20) (v := ?_) rfl (by kernel_rfl) (by kernel_rfl) (by kernel_rfl) (fun _ _ _ h => h) (Or.inl ⟨by rfl, ?_⟩) (by assumption) ?_
  rotate_left
  · (intro w hSw; (try dsimp only at hSw); go_simp; (try with_reducible rfl))
  (try simp only [Act.put, List.getElem_toArray, List.getElem_cons_zero, List.getElem_cons_succ, List.setIfInBounds_toArray, List.set_cons_zero, List.set_cons_succ])
  refine wpAnyH_take (i := 21) (v := .int .i64 b.hel) rfl (by kernel_rfl) (by kernel_rfl) (by kernel_rfl) (fun _ _ _ h => h) (Or.inl ⟨by rfl, fun w hSw => by have c := hSw.cv 29 (.int .i64 b.hel) rfl; go_simp⟩) (by assumption) ?_
  (try simp only [Act.put, List.getElem_toArray, List.getElem_cons_zero, List.getElem_cons_succ, List.setIfInBounds_toArray, List.set_cons_zero, List.set_cons_succ])
  refine wpAnyH_take (i := 22) (v := ?_) rfl (by kernel_rfl) (by kernel_rfl) (by kernel_rfl) (fun _ _ _ h => h) (Or.inl ⟨by rfl, ?_⟩) (by assumption) ?_
  rotate_left
  · (intro w hSw; (try dsimp only at hSw); go_simp; (try with_reducible rfl))
  (try simp only [Act.put, List.getElem_toArray, List.getElem_cons_zero, List.getElem_cons_succ, List.setIfInBounds_toArray, List.set_cons_zero, List.set_cons_succ])
  refine wpAnyH_take (i := 23) (v := .int .i64 b.wai) rfl (by kernel_rfl) (by kernel_rfl) (by kernel_rfl) (fun _ _ _ h => h) (Or.inl ⟨by rfl, fun w hSw => by have c := hSw.cv 30 (.int .i64 b.wai) rfl; go_simp⟩) (by assumption) ?_
  (try simp only [Act.put, List.getElem_toArray, List.getElem_cons_zero, List.getElem_cons_succ, List.setIfInBounds_toArray, List.set_cons_zero, List.set_cons_succ])
  generalize w5.drew = wd at *
  refine wpAnyH_ready (rs := [2, 9, 24]) (by kernel_rfl) (by simp) ?_
  refine (AllReadyH.cons rfl (fun K hK => ?_) (AllReadyH.cons rfl (fun K hK => ?_) (AllReadyH.cons rfl (fun K hK => ?_) AllReadyH.nil)))
  · simp only [List.getElem_toArray, List.getElem_cons_zero, List.getElem_cons_succ]
    go_simp
    with_reducible refine (HBy.out _).mono ?_
    rintro e v11 ⟨rfl, k11⟩
    have B11 := D5.trans (k11.mono D5.size)
    have A11 := A5.kept k11
    refine hK.out _ _ A11 (fun hHeld => ?_)
    clear hK K
    (try simp only [Act.put, List.getElem_toArray, List.getElem_cons_zero, List.getElem_cons_succ, List.setIfInBounds_toArray, List.set_cons_zero, List.set_cons_succ])
    refine wpAnyH_ready (rs := [3, 9, 24]) (by kernel_rfl) (by simp) ?_
    refine (AllReadyH.cons rfl (fun K hK => ?_) (AllReadyH.cons rfl (fun K hK => ?_) (AllReadyH.cons rfl (fun K hK => ?_) AllReadyH.nil)))
    · simp only [List.getElem_toArray, List.getElem_cons_zero, List.getElem_cons_succ]
      go_simp
      have I12 := IRow.new1 (v11) (byF b.f : Int) 3
      have B12 := B11.alloc B11.size (.cells #[.int .i64 (byF b.f : Int)] 3)
      have A12 := A11.alloc (.cells #[.int .i64 (byF b.f : Int)] 3)
      generalize (v11).heap.size = g12 at *
      generalize (v11).alloc (.cells #[.int .i64 (byF b.f : Int)] 3) = v12 at *
      refine hK.out _ _ A12 (fun hHeld => ?_)
      clear hK K
      (try simp only [Act.put, List.getElem_toArray, List.getElem_cons_zero, List.getElem_cons_succ, List.setIfInBounds_toArray, List.set_cons_zero, List.set_cons_succ])
      refine wpAnyH_ready (rs := [4, 9, 24]) (by kernel_rfl) (by simp) ?_
      refine (AllReadyH.cons rfl (fun K hK => ?_) (AllReadyH.cons rfl (fun K hK => ?_) (AllReadyH.cons rfl (fun K hK => ?_) AllReadyH.nil)))
      · simp only [List.getElem_toArray, List.getElem_cons_zero, List.getElem_cons_succ]
        go_simp
        with_reducible refine (HN1.out _ _ I12).mono ?_
        rintro e v13 ⟨rfl, k13⟩
        have B13 := B12.trans (k13.mono B12.size)
        have A13 := A12.kept k13
        refine hK.out _ _ A13 (fun hHeld => ?_)
        clear hK K
        (try simp only [Act.put, List.getElem_toArray, List.getElem_cons_zero, List.getElem_cons_succ, List.setIfInBounds_toArray, List.set_cons_zero, List.set_cons_succ])
        refine wpAnyH_take (i := 6) (v := .string ⟨z1.toArray⟩) rfl (by kernel_rfl) (by kernel_rfl) (by kernel_rfl) (fun _ _ _ h => h) (Or.inl ⟨by rfl, fun w hSw => by go_simp⟩) (by assumption) ?_
        (try simp only [Act.put, List.getElem_toArray, List.getElem_cons_zero, List.getElem_cons_succ, List.setIfInBounds_toArray, List.set_cons_zero, List.set_cons_succ])
        refine wpAnyH_ready (rs := [9, 24]) (by kernel_rfl) (by simp) ?_
        refine (AllReadyH.cons rfl (fun K hK => ?_) (AllReadyH.cons rfl (fun K hK => ?_) AllReadyH.nil))
        · simp only [List.getElem_toArray, List.getElem_cons_zero, List.getElem_cons_succ]
          go_simp
          have I14 := IRow.new1 (v13) b.cost 3
          have B14 := B13.alloc B13.size (.cells #[.int .i64 b.cost] 3)
          have A14 := A13.alloc (.cells #[.int .i64 b.cost] 3)
          generalize (v13).heap.size = g14 at *
          generalize (v13).alloc (.cells #[.int .i64 b.cost] 3) = v14 at *
          refine hK.out _ _ A14 (fun hHeld => ?_)
          clear hK K
          (try simp only [Act.put, List.getElem_toArray, List.getElem_cons_zero, List.getElem_cons_succ, List.setIfInBounds_toArray, List.set_cons_zero, List.set_cons_succ])
          refine wpAnyH_ready (rs := [10, 24]) (by kernel_rfl) (by simp) ?_
          refine (AllReadyH.cons rfl (fun K hK => ?_) (AllReadyH.cons rfl (fun K hK => ?_) AllReadyH.nil))
          · simp only [List.getElem_toArray, List.getElem_cons_zero, List.getElem_cons_succ]
            go_simp
            with_reducible refine (HN4.out _ _ I14).mono ?_
            rintro e v15 ⟨rfl, k15⟩
            have B15 := B14.trans (k15.mono B14.size)
            have A15 := A14.kept k15
            refine hK.out _ _ A15 (fun hHeld => ?_)
            clear hK K
            (try simp only [Act.put, List.getElem_toArray, List.getElem_cons_zero, List.getElem_cons_succ, List.setIfInBounds_toArray, List.set_cons_zero, List.set_cons_succ])
            refine wpAnyH_take (i := 11) (v := .string ⟨z2.toArray⟩) rfl (by kernel_rfl) (by kernel_rfl) (by kernel_rfl) (fun _ _ _ h => h) (Or.inl ⟨by rfl, fun w hSw => by go_simp⟩) (by assumption) ?_
            (try simp only [Act.put, List.getElem_toArray, List.getElem_cons_zero, List.getElem_cons_succ, List.setIfInBounds_toArray, List.set_cons_zero, List.set_cons_succ])
            refine wpAnyH_take (i := 13) (v := .string ⟨z3.toArray⟩) rfl (by kernel_rfl) (by kernel_rfl) (by kernel_rfl) (fun _ _ _ h => h) (Or.inl ⟨by rfl, fun w hSw => by go_simp⟩) (by assumption) ?_
            (try simp only [Act.put, List.getElem_toArray, List.getElem_cons_zero, List.getElem_cons_succ, List.setIfInBounds_toArray, List.set_cons_zero, List.set_cons_succ])
            refine wpAnyH_take (i := 15) (v := .string ⟨z4.toArray⟩) rfl (by kernel_rfl) (by kernel_rfl) (by kernel_rfl) (fun _ _ _ h => h) (Or.inl ⟨by rfl, fun w hSw => by go_simp⟩) (by assumption) ?_
            (try simp only [Act.put, List.getElem_toArray, List.getElem_cons_zero, List.getElem_cons_succ, List.setIfInBounds_toArray, List.set_cons_zero, List.set_cons_succ])
            refine wpAnyH_ready (rs := [24]) (by kernel_rfl) (by simp) ?_
            refine (AllReadyH.cons rfl (fun K hK => ?_) AllReadyH.nil)
            simp only [List.getElem_toArray, List.getElem_cons_zero, List.getElem_cons_succ]
            go_simp
            have I16 := IRow.new4 (v15) b.age b.mx b.hel b.wai 3
            have B16 := B15.alloc B15.size (.cells #[.int .i64 b.age, .int .i64 b.mx, .int .i64 b.hel, .int .i64 b.wai] 3)
            have A16 := A15.alloc (.cells #[.int .i64 b.age, .int .i64 b.mx, .int .i64 b.hel, .int .i64 b.wai] 3)
            generalize (v15).heap.size = g16 at *
            generalize (v15).alloc (.cells #[.int .i64 b.age, .int .i64 b.mx, .int .i64 b.hel, .int .i64 b.wai] 3) = v16 at *
            refine hK.out _ _ A16 (fun hHeld => ?_)
            clear hK K
            (try simp only [Act.put, List.getElem_toArray, List.getElem_cons_zero, List.getElem_cons_succ, List.setIfInBounds_toArray, List.set_cons_zero, List.set_cons_succ])
            refine wpAnyH_ready (rs := [25]) (by kernel_rfl) (by simp) ?_
            refine (AllReadyH.cons rfl (fun K hK => ?_) AllReadyH.nil)
            simp only [List.getElem_toArray, List.getElem_cons_zero, List.getElem_cons_succ]
            go_simp
            with_reducible refine (HN2.out _ _ I16).mono ?_
            rintro e v17 ⟨rfl, k17⟩
            have B17 := B16.trans (k17.mono B16.size)
            have A17 := A16.kept k17
            refine hK.out _ _ A17 (fun hHeld => ?_)
            clear hK K
            (try simp only [Act.put, List.getElem_toArray, List.getElem_cons_zero, List.getElem_cons_succ, List.setIfInBounds_toArray, List.set_cons_zero, List.set_cons_succ])
            refine wpAnyH_take (i := 26) (v := ?_) rfl (by kernel_rfl) (by kernel_rfl) (by kernel_rfl) (fun _ _ _ h => h) (Or.inl ⟨by rfl, ?_⟩) (by assumption) ?_
            rotate_left
            · (intro w hSw; (try dsimp only at hSw); go_simp; (try with_reducible rfl))
            (try simp only [Act.put, List.getElem_toArray, List.getElem_cons_zero, List.getElem_cons_succ, List.setIfInBounds_toArray, List.set_cons_zero, List.set_cons_succ])
            refine wpAnyH_take (i := 27) (v := ?_) rfl (by kernel_rfl) (by kernel_rfl) (by kernel_rfl) (fun _ _ _ h => h) (Or.inl ⟨by rfl, ?_⟩) (by assumption) ?_
            rotate_left
            · (intro w hSw; (try dsimp only at hSw); go_simp; (try with_reducible rfl))
            (try simp only [Act.put, List.getElem_toArray, List.getElem_cons_zero, List.getElem_cons_succ, List.setIfInBounds_toArray, List.set_cons_zero, List.set_cons_succ])
            refine wpAnyH_done (by kernel_rfl) ?_ _
            refine NoPanic.normal ?_
            go_wp2
            go_ret
            exact ⟨by rw [HBL.out]; rfl, B17⟩
          · simp only [List.getElem_toArray, List.getElem_cons_zero, List.getElem_cons_succ]
            go_simp
            have I18 := IRow.new4 (v14) b.age b.mx b.hel b.wai 3
            have J18_9 : IRow ((v14).alloc (.cells #[.int .i64 b.age, .int .i64 b.mx, .int .i64 b.hel, .int .i64 b.wai] 3)) g14 [b.cost] := I14.below ((Below.refl _ _).alloc (Nat.le_refl _) (.cells #[.int .i64 b.age, .int .i64 b.mx, .int .i64 b.hel, .int .i64 b.wai] 3))
            have B18 := B14.alloc B14.size (.cells #[.int .i64 b.age, .int .i64 b.mx, .int .i64 b.hel, .int .i64 b.wai] 3)
            have A18 := A14.alloc (.cells #[.int .i64 b.age, .int .i64 b.mx, .int .i64 b.hel, .int .i64 b.wai] 3)
            generalize (v14).heap.size = g18 at *
            generalize (v14).alloc (.cells #[.int .i64 b.age, .int .i64 b.mx, .int .i64 b.hel, .int .i64 b.wai] 3) = v18 at *
            refine hK.out _ _ A18 (fun hHeld => ?_)
            clear hK K
            (try simp only [Act.put, List.getElem_toArray, List.getElem_cons_zero, List.getElem_cons_succ, List.setIfInBounds_toArray, List.set_cons_zero, List.set_cons_succ])
            refine wpAnyH_ready (rs := [10]) (by kernel_rfl) (by simp) ?_
            refine (AllReadyH.cons rfl (fun K hK => ?_) AllReadyH.nil)
            simp only [List.getElem_toArray, List.getElem_cons_zero, List.getElem_cons_succ]
            go_simp
            with_reducible refine (HN4.out _ _ J18_9).mono ?_
            rintro e v19 ⟨rfl, k19⟩
            have J19_24 := I18.below k19
            have B19 := B18.trans (k19.mono B18.size)
            have A19 := A18.kept k19
            refine hK.out _ _ A19 (fun hHeld => ?_)
            clear hK K
            (try simp only [Act.put, List.getElem_toArray, List.getElem_cons_zero, List.getElem_cons_succ, List.setIfInBounds_toArray, List.set_cons_zero, List.set_cons_succ])
            refine wpAnyH_take (i := 11) (v := .string ⟨z2.toArray⟩) rfl (by kernel_rfl) (by kernel_rfl) (by kernel_rfl) (fun _ _ _ h => h) (Or.inl ⟨by rfl, fun w hSw => by go_simp⟩) (by assumption) ?_
            (try simp only [Act.put, List.getElem_toArray, List.getElem_cons_zero, List.getElem_cons_succ, List.setIfInBounds_toArray, List.set_cons_zero, List.set_cons_succ])
            refine wpAnyH_take (i := 13) (v := .string ⟨z3.toArray⟩) rfl (by kernel_rfl) (by kernel_rfl) (by kernel_rfl) (fun _ _ _ h => h) (Or.inl ⟨by rfl, fun w hSw => by go_simp⟩) (by assumption) ?_
            (try simp only [Act.put, List.getElem_toArray, List.getElem_cons_zero, List.getElem_cons_succ, List.setIfInBounds_toArray, List.set_cons_zero, List.set_cons_succ])
            refine wpAnyH_take (i := 15) (v := .string ⟨z4.toArray⟩) rfl (by kernel_rfl) (by kernel_rfl) (by kernel_rfl) (fun _ _ _ h => h) (Or.inl ⟨by rfl, fun w hSw => by go_simp⟩) (by assumption) ?_
            (try simp only [Act.put, List.getElem_toArray, List.getElem_cons_zero, List.getElem_cons_succ, List.setIfInBounds_toArray, List.set_cons_zero, List.set_cons_succ])
            refine wpAnyH_ready (rs := [25]) (by kernel_rfl) (by simp) ?_
            refine (AllReadyH.cons rfl (fun K hK => ?_) AllReadyH.nil)
            simp only [List.getElem_toArray, List.getElem_cons_zero, List.getElem_cons_succ]
            go_simp
            with_reducible refine (HN2.out _ _ J19_24).mono ?_
            rintro e v20 ⟨rfl, k20⟩
            have B20 := B19.trans (k20.mono B19.size)
            have A20 := A19.kept k20
            refine hK.out _ _ A20 (fun hHeld => ?_)
            clear hK K
            (try simp only [Act.put, List.getElem_toArray, List.getElem_cons_zero, List.getElem_cons_succ, List.setIfInBounds_toArray, List.set_cons_zero, List.set_cons_succ])
            refine wpAnyH_take (i := 26) (v := ?_) rfl (by kernel_rfl) (by kernel_rfl) (by kernel_rfl) (fun _ _ _ h => h) (Or.inl ⟨by rfl, ?_⟩) (by assumption) ?_
            rotate_left
            · (intro w hSw; (try dsimp only at hSw); go_simp; (try with_reducible rfl))
            (try simp only [Act.put, List.getElem_toArray, List.getElem_cons_zero, List.getElem_cons_succ, List.setIfInBounds_toArray, List.set_cons_zero, List.set_cons_succ])
            refine wpAnyH_take (i := 27) (v := ?_) rfl (by kernel_rfl) (by kernel_rfl) (by kernel_rfl) (fun _ _ _ h => h) (Or.inl ⟨by rfl, ?_⟩) (by assumption) ?_
            rotate_left
            · (intro w hSw; (try dsimp only at hSw); go_simp; (try with_reducible rfl))
            (try simp only [Act.put, List.getElem_toArray, List.getElem_cons_zero, List.getElem_cons_succ, List.setIfInBounds_toArray, List.set_cons_zero, List.set_cons_succ])
            refine wpAnyH_done (by kernel_rfl) ?_ _
            refine NoPanic.normal ?_
            go_wp2
            go_ret
            exact ⟨by rw [HBL.out]; rfl, B20⟩
        · simp only [List.getElem_toArray, List.getElem_cons_zero, List.getElem_cons_succ]
          go_simp
          have I21 := IRow.new4 (v13) b.age b.mx b.hel b.wai 3
          have B21 := B13.alloc B13.size (.cells #[.int .i64 b.age, .int .i64 b.mx, .int .i64 b.hel, .int .i64 b.wai] 3)
          have A21 := A13.alloc (.cells #[.int .i64 b.age, .int .i64 b.mx, .int .i64 b.hel, .int .i64 b.wai] 3)
          generalize (v13).heap.size = g21 at *
          generalize (v13).alloc (.cells #[.int .i64 b.age, .int .i64 b.mx, .int .i64 b.hel, .int .i64 b.wai] 3) = v21 at *
          refine hK.out _ _ A21 (fun hHeld => ?_)
          clear hK K
          (try simp only [Act.put, List.getElem_toArray, List.getElem_cons_zero, List.getElem_cons_succ, List.setIfInBounds_toArray, List.set_cons_zero, List.set_cons_succ])
          refine wpAnyH_ready (rs := [9]) (by kernel_rfl) (by simp) ?_
          refine (AllReadyH.cons rfl (fun K hK => ?_) AllReadyH.nil)
          simp only [List.getElem_toArray, List.getElem_cons_zero, List.getElem_cons_succ]
          go_simp
          have I22 := IRow.new1 (v21) b.cost 3
          have J22_24 : IRow ((v21).alloc (.cells #[.int .i64 b.cost] 3)) g21 [b.age, b.mx, b.hel, b.wai] := I21.below ((Below.refl _ _).alloc (Nat.le_refl _) (.cells #[.int .i64 b.cost] 3))
          have B22 := B21.alloc B21.size (.cells #[.int .i64 b.cost] 3)
          have A22 := A21.alloc (.cells #[.int .i64 b.cost] 3)
          generalize (v21).heap.size = g22 at *
          generalize (v21).alloc (.cells #[.int .i64 b.cost] 3) = v22 at *
          refine hK.out _ _ A22 (fun hHeld => ?_)
          clear hK K
          (try simp only [Act.put, List.getElem_toArray, List.getElem_cons_zero, List.getElem_cons_succ, List.setIfInBounds_toArray, List.set_cons_zero, List.set_cons_succ])
          refine wpAnyH_ready (rs := [10]) (by kernel_rfl) (by simp) ?_
          refine (AllReadyH.cons rfl (fun K hK => ?_) AllReadyH.nil)
          simp only [List.getElem_toArray, List.getElem_cons_zero, List.getElem_cons_succ]
          go_simp
          with_reducible refine (HN4.out _ _ I22).mono ?_
          rintro e v23 ⟨rfl, k23⟩
          have J23_24 := J22_24.below k23
          have B23 := B22.trans (k23.mono B22.size)
          have A23 := A22.kept k23
          refine hK.out _ _ A23 (fun hHeld => ?_)
          clear hK K
          (try simp only [Act.put, List.getElem_toArray, List.getElem_cons_zero, List.getElem_cons_succ, List.setIfInBounds_toArray, List.set_cons_zero, List.set_cons_succ])
          refine wpAnyH_take (i := 11) (v := .string ⟨z2.toArray⟩) rfl (by kernel_rfl) (by kernel_rfl) (by kernel_rfl) (fun _ _ _ h => h) (Or.inl ⟨by rfl, fun w hSw => by go_simp⟩) (by assumption) ?_
          (try simp only [Act.put, List.getElem_toArray, List.getElem_cons_zero, List.getElem_cons_succ, List.setIfInBounds_toArray, List.set_cons_zero, List.set_cons_succ])
          refine wpAnyH_take (i := 13) (v := .string ⟨z3.toArray⟩) rfl (by kernel_rfl) (by kernel_rfl) (by kernel_rfl) (fun _ _ _ h => h) (Or.inl ⟨by rfl, fun w hSw => by go_simp⟩) (by assumption) ?_
          (try simp only [Act.put, List.getElem_toArray, List.getElem_cons_zero, List.getElem_cons_succ, List.setIfInBounds_toArray, List.set_cons_zero, List.set_cons_succ])
          refine wpAnyH_take (i := 15) (v := .string ⟨z4.toArray⟩) rfl (by kernel_rfl) (by kernel_rfl) (by kernel_rfl) (fun _ _ _ h => h) (Or.inl ⟨by rfl, fun w hSw => by go_simp⟩) (by assumption) ?_
          (try simp only [Act.put, List.getElem_toArray, List.getElem_cons_zero, List.getElem_cons_succ, List.setIfInBounds_toArray, List.set_cons_zero, List.set_cons_succ])
          refine wpAnyH_ready (rs := [25]) (by kernel_rfl) (by simp) ?_
          refine (AllReadyH.cons rfl (fun K hK => ?_) AllReadyH.nil)
          simp only [List.getElem_toArray, List.getElem_cons_zero, List.getElem_cons_succ]
          go_simp
          with_reducible refine (HN2.out _ _ J23_24).mono ?_
          rintro e v24 ⟨rfl, k24⟩
          have B24 := B23.trans (k24.mono B23.size)
          have A24 := A23.kept k24
          refine hK.out _ _ A24 (fun hHeld => ?_)
          clear hK K
          (try simp only [Act.put, List.getElem_toArray, List.getElem_cons_zero, List.getElem_cons_succ, List.setIfInBounds_toArray, List.set_cons_zero, List.set_cons_succ])
          refine wpAnyH_take (i := 26) (v := ?_) rfl (by kernel_rfl) (by kernel_rfl) (by kernel_rfl) (fun _ _ _ h => h) (Or.inl ⟨by rfl, ?_⟩) (by assumption) ?_
          rotate_left
          · (intro w hSw; (try dsimp only at hSw); go_simp; (try with_reducible rfl))
          (try simp only [Act.put, List.getElem_toArray, List.getElem_cons_zero, List.getElem_cons_succ, List.setIfInBounds_toArray, List.set_cons_zero, List.set_cons_succ])
          refine wpAnyH_take (i := 27) (v := ?_) rfl (by kernel_rfl) (by kernel_rfl) (by kernel_rfl) (fun _ _ _ h => h) (Or.inl ⟨by rfl, ?_⟩) (by assumption) ?_
          rotate_left
          · (intro w hSw; (try dsimp only at hSw); go_simp; (try with_reducible rfl))
          (try simp only [Act.put, List.getElem_toArray, List.getElem_cons_zero, List.getElem_cons_succ, List.setIfInBounds_toArray, List.set_cons_zero, List.set_cons_succ])
          refine wpAnyH_done (by kernel_rfl) ?_ _
          refine NoPanic.normal ?_
          go_wp2
          go_ret
          exact ⟨by rw [HBL.out]; rfl, B24⟩
      · simp only [List.getElem_toArray, List.getElem_cons_zero, List.getElem_cons_succ]
        go_simp
        have I25 := IRow.new1 (v12) b.cost 3
        have J25_3 : IRow ((v12).alloc (.cells #[.int .i64 b.cost] 3)) g12 [(byF b.f : Int)] := I12.below ((Below.refl _ _).alloc (Nat.le_refl _) (.cells #[.int .i64 b.cost] 3))
        have B25 := B12.alloc B12.size (.cells #[.int .i64 b.cost] 3)
        have A25 := A12.alloc (.cells #[.int .i64 b.cost] 3)
        generalize (v12).heap.size = g25 at *
        generalize (v12).alloc (.cells #[.int .i64 b.cost] 3) = v25 at *
        refine hK.out _ _ A25 (fun hHeld => ?_)
        clear hK K
        (try simp only [Act.put, List.getElem_toArray, List.getElem_cons_zero, List.getElem_cons_succ, List.setIfInBounds_toArray, List.set_cons_zero, List.set_cons_succ])
        refine wpAnyH_ready (rs := [4, 24]) (by kernel_rfl) (by simp) ?_
        refine (AllReadyH.cons rfl (fun K hK => ?_) (AllReadyH.cons rfl (fun K hK => ?_) AllReadyH.nil))
        · simp only [List.getElem_toArray, List.getElem_cons_zero, List.getElem_cons_succ]
          go_simp
          with_reducible refine (HN1.out _ _ J25_3).mono ?_
          rintro e v26 ⟨rfl, k26⟩
          have J26_9 := I25.below k26
          have B26 := B25.trans (k26.mono B25.size)
          have A26 := A25.kept k26
          refine hK.out _ _ A26 (fun hHeld => ?_)
          clear hK K
          (try simp only [Act.put, List.getElem_toArray, List.getElem_cons_zero, List.getElem_cons_succ, List.setIfInBounds_toArray, List.set_cons_zero, List.set_cons_succ])
          refine wpAnyH_take (i := 6) (v := .string ⟨z1.toArray⟩) rfl (by kernel_rfl) (by kernel_rfl) (by kernel_rfl) (fun _ _ _ h => h) (Or.inl ⟨by rfl, fun w hSw => by go_simp⟩) (by assumption) ?_
          (try simp only [Act.put, List.getElem_toArray, List.getElem_cons_zero, List.getElem_cons_succ, List.setIfInBounds_toArray, List.set_cons_zero, List.set_cons_succ])
          refine wpAnyH_ready (rs := [10, 24]) (by kernel_rfl) (by simp) ?_
          refine (AllReadyH.cons rfl (fun K hK => ?_) (AllReadyH.cons rfl (fun K hK => ?_) AllReadyH.nil))
          · simp only [List.getElem_toArray, List.getElem_cons_zero, List.getElem_cons_succ]
            go_simp
            with_reducible refine (HN4.out _ _ J26_9).mono ?_
            rintro e v27 ⟨rfl, k27⟩
            have B27 := B26.trans (k27.mono B26.size)
            have A27 := A26.kept k27
            refine hK.out _ _ A27 (fun hHeld => ?_)
            clear hK K
            (try simp only [Act.put, List.getElem_toArray, List.getElem_cons_zero, List.getElem_cons_succ, List.setIfInBounds_toArray, List.set_cons_zero, List.set_cons_succ])
            refine wpAnyH_take (i := 11) (v := .string ⟨z2.toArray⟩) rfl (by kernel_rfl) (by kernel_rfl) (by kernel_rfl) (fun _ _ _ h => h) (Or.inl ⟨by rfl, fun w hSw => by go_simp⟩) (by assumption) ?_
            (try simp only [Act.put, List.getElem_toArray, List.getElem_cons_zero, List.getElem_cons_succ, List.setIfInBounds_toArray, List.set_cons_zero, List.set_cons_succ])
            refine wpAnyH_take (i := 13) (v := .string ⟨z3.toArray⟩) rfl (by kernel_rfl) (by kernel_rfl) (by kernel_rfl) (fun _ _ _ h => h) (Or.inl ⟨by rfl, fun w hSw => by go_simp⟩) (by assumption) ?_
            (try simp only [Act.put, List.getElem_toArray, List.getElem_cons_zero, List.getElem_cons_succ, List.setIfInBounds_toArray, List.set_cons_zero, List.set_cons_succ])
            refine wpAnyH_take (i := 15) (v := .string ⟨z4.toArray⟩) rfl (by kernel_rfl) (by kernel_rfl) (by kernel_rfl) (fun _ _ _ h => h) (Or.inl ⟨by rfl, fun w hSw => by go_simp⟩) (by assumption) ?_
            (try simp only [Act.put, List.getElem_toArray, List.getElem_cons_zero, List.getElem_cons_succ, List.setIfInBounds_toArray, List.set_cons_zero, List.set_cons_succ])
            refine wpAnyH_ready (rs := [24]) (by kernel_rfl) (by simp) ?_
            refine (AllReadyH.cons rfl (fun K hK => ?_) AllReadyH.nil)
            simp only [List.getElem_toArray, List.getElem_cons_zero, List.getElem_cons_succ]
            go_simp
            have I28 := IRow.new4 (v27) b.age b.mx b.hel b.wai 3
            have B28 := B27.alloc B27.size (.cells #[.int .i64 b.age, .int .i64 b.mx, .int .i64 b.hel, .int .i64 b.wai] 3)
            have A28 := A27.alloc (.cells #[.int .i64 b.age, .int .i64 b.mx, .int .i64 b.hel, .int .i64 b.wai] 3)
            generalize (v27).heap.size = g28 at *
            generalize (v27).alloc (.cells #[.int .i64 b.age, .int .i64 b.mx, .int .i64 b.hel, .int .i64 b.wai] 3) = v28 at *
            refine hK.out _ _ A28 (fun hHeld => ?_)
            clear hK K
            (try simp only [Act.put, List.getElem_toArray, List.getElem_cons_zero, List.getElem_cons_succ, List.setIfInBounds_toArray, List.set_cons_zero, List.set_cons_succ])
            refine wpAnyH_ready (rs := [25]) (by kernel_rfl) (by simp) ?_
            refine (AllReadyH.cons rfl (fun K hK => ?_) AllReadyH.nil)
            simp only [List.getElem_toArray, List.getElem_cons_zero, List.getElem_cons_succ]
            go_simp
            with_reducible refine (HN2.out _ _ I28).mono ?_
            rintro e v29 ⟨rfl, k29⟩
            have B29 := B28.trans (k29.mono B28.size)
            have A29 := A28.kept k29
            refine hK.out _ _ A29 (fun hHeld => ?_)
            clear hK K
            (try simp only [Act.put, List.getElem_toArray, List.getElem_cons_zero, List.getElem_cons_succ, List.setIfInBounds_toArray, List.set_cons_zero, List.set_cons_succ])
            refine wpAnyH_take (i := 26) (v := ?_) rfl (by kernel_rfl) (by kernel_rfl) (by kernel_rfl) (fun _ _ _ h => h) (Or.inl ⟨by rfl, ?_⟩) (by assumption) ?_
            rotate_left
            · (intro w hSw; (try dsimp only at hSw); go_simp; (try with_reducible rfl))
            (try simp only [Act.put, List.getElem_toArray, List.getElem_cons_zero, List.getElem_cons_succ, List.setIfInBounds_toArray, List.set_cons_zero, List.set_cons_succ])
            refine wpAnyH_take (i := 27) (v := ?_) rfl (by kernel_rfl) (by kernel_rfl) (by kernel_rfl) (fun _ _ _ h => h) (Or.inl ⟨by rfl, ?_⟩) (by assumption) ?_
            rotate_left
            · (intro w hSw; (try dsimp only at hSw); go_simp; (try with_reducible rfl))
            (try simp only [Act.put, List.getElem_toArray, List.getElem_cons_zero, List.getElem_cons_succ, List.setIfInBounds_toArray, List.set_cons_zero, List.set_cons_succ])
            refine wpAnyH_done (by kernel_rfl) ?_ _
            refine NoPanic.normal ?_
            go_wp2
            go_ret
            exact ⟨by rw [HBL.out]; rfl, B29⟩
          · simp only [List.getElem_toArray, List.getElem_cons_zero, List.getElem_cons_succ]
            go_simp
            have I30 := IRow.new4 (v26) b.age b.mx b.hel b.wai 3
            have J30_9 : IRow ((v26).alloc (.cells #[.int .i64 b.age, .int .i64 b.mx, .int .i64 b.hel, .int .i64 b.wai] 3)) g25 [b.cost] := J26_9.below ((Below.refl _ _).alloc (Nat.le_refl _) (.cells #[.int .i64 b.age, .int .i64 b.mx, .int .i64 b.hel, .int .i64 b.wai] 3))
            have B30 := B26.alloc B26.size (.cells #[.int .i64 b.age, .int .i64 b.mx, .int .i64 b.hel, .int .i64 b.wai] 3)
            have A30 := A26.alloc (.cells #[.int .i64 b.age, .int .i64 b.mx, .int .i64 b.hel, .int .i64 b.wai] 3)
            generalize (v26).heap.size = g30 at *
            generalize (v26).alloc (.cells #[.int .i64 b.age, .int .i64 b.mx, .int .i64 b.hel, .int .i64 b.wai] 3) = v30 at *
            refine hK.out _ _ A30 (fun hHeld => ?_)
            clear hK K
            (try simp only [Act.put, List.getElem_toArray, List.getElem_cons_zero, List.getElem_cons_succ, List.setIfInBounds_toArray, List.set_cons_zero, List.set_cons_succ])
            refine wpAnyH_ready (rs := [10]) (by kernel_rfl) (by simp) ?_
            refine (AllReadyH.cons rfl (fun K hK => ?_) AllReadyH.nil)
            simp only [List.getElem_toArray, List.getElem_cons_zero, List.getElem_cons_succ]
            go_simp
            with_reducible refine (HN4.out _ _ J30_9).mono ?_
            rintro e v31 ⟨rfl, k31⟩
            have J31_24 := I30.below k31
            have B31 := B30.trans (k31.mono B30.size)
            have A31 := A30.kept k31
            refine hK.out _ _ A31 (fun hHeld => ?_)
            clear hK K
            (try simp only [Act.put, List.getElem_toArray, List.getElem_cons_zero, List.getElem_cons_succ, List.setIfInBounds_toArray, List.set_cons_zero, List.set_cons_succ])
            refine wpAnyH_take (i := 11) (v := .string ⟨z2.toArray⟩) rfl (by kernel_rfl) (by kernel_rfl) (by kernel_rfl) (fun _ _ _ h => h) (Or.inl ⟨by rfl, fun w hSw => by go_simp⟩) (by assumption) ?_
            (try simp only [Act.put, List.getElem_toArray, List.getElem_cons_zero, List.getElem_cons_succ, List.setIfInBounds_toArray, List.set_cons_zero, List.set_cons_succ])
            refine wpAnyH_take (i := 13) (v := .string ⟨z3.toArray⟩) rfl (by kernel_rfl) (by kernel_rfl) (by kernel_rfl) (fun _ _ _ h => h) (Or.inl ⟨by rfl, fun w hSw => by go_simp⟩) (by assumption) ?_
            (try simp only [Act.put, List.getElem_toArray, List.getElem_cons_zero, List.getElem_cons_succ, List.setIfInBounds_toArray, List.set_cons_zero, List.set_cons_succ])
            refine wpAnyH_take (i := 15) (v := .string ⟨z4.toArray⟩) rfl (by kernel_rfl) (by kernel_rfl) (by kernel_rfl) (fun _ _ _ h => h) (Or.inl ⟨by rfl, fun w hSw => by go_simp⟩) (by assumption) ?_
            (try simp only [Act.put, List.getElem_toArray, List.getElem_cons_zero, List.getElem_cons_succ, List.setIfInBounds_toArray, List.set_cons_zero, List.set_cons_succ])
            refine wpAnyH_ready (rs := [25]) (by kernel_rfl) (by simp) ?_
            refine (AllReadyH.cons rfl (fun K hK => ?_) AllReadyH.nil)
            simp only [List.getElem_toArray, List.getElem_cons_zero, List.getElem_cons_succ]
            go_simp
            with_reducible refine (HN2.out _ _ J31_24).mono ?_
            rintro e v32 ⟨rfl, k32⟩
            have B32 := B31.trans (k32.mono B31.size)
            have A32 := A31.kept k32
            refine hK.out _ _ A32 (fun hHeld => ?_)
            clear hK K
            (try simp only [Act.put, List.getElem_toArray, List.getElem_cons_zero, List.getElem_cons_succ, List.setIfInBounds_toArray, List.set_cons_zero, List.set_cons_succ])
            refine wpAnyH_take (i := 26) (v := ?_) rfl (by kernel_rfl) (by kernel_rfl) (by kernel_rfl) (fun _ _ _ h => h) (Or.inl ⟨by rfl, ?_⟩) (by assumption) ?_
            rotate_left
            · (intro w hSw; (try dsimp only at hSw); go_simp; (try with_reducible rfl))
            (try simp only [Act.put, List.getElem_toArray, List.getElem_cons_zero, List.getElem_cons_succ, List.setIfInBounds_toArray, List.set_cons_zero, List.set_cons_succ])
            refine wpAnyH_take (i := 27) (v := ?_) rfl (by kernel_rfl) (by kernel_rfl) (by kernel_rfl) (fun _ _ _ h => h) (Or.inl ⟨by rfl, ?_⟩) (by assumption) ?_
            rotate_left
            · (intro w hSw; (try dsimp only at hSw); go_simp; (try with_reducible rfl))
            (try simp only [Act.put, List.getElem_toArray, List.getElem_cons_zero, List.getElem_cons_succ, List.setIfInBounds_toArray, List.set_cons_zero, List.set_cons_succ])
            refine wpAnyH_done (by kernel_rfl) ?_ _
            refine NoPanic.normal ?_
            go_wp2
            go_ret
            exact ⟨by rw [HBL.out]; rfl, B32⟩
        · simp only [List.getElem_toArray, List.getElem_cons_zero, List.getElem_cons_succ]
          go_simp
          have I33 := IRow.new4 (v25) b.age b.mx b.hel b.wai 3
          have J33_3 : IRow ((v25).alloc (.cells #[.int .i64 b.age, .int .i64 b.mx, .int .i64 b.hel, .int .i64 b.wai] 3)) g12 [(byF b.f : Int)] := J25_3.below ((Below.refl _ _).alloc (Nat.le_refl _) (.cells #[.int .i64 b.age, .int .i64 b.mx, .int .i64 b.hel, .int .i64 b.wai] 3))
          have J33_9 : IRow ((v25).alloc (.cells #[.int .i64 b.age, .int .i64 b.mx, .int .i64 b.hel, .int .i64 b.wai] 3)) g25 [b.cost] := I25.below ((Below.refl _ _).alloc (Nat.le_refl _) (.cells #[.int .i64 b.age, .int .i64 b.mx, .int .i64 b.hel, .int .i64 b.wai] 3))
          have B33 := B25.alloc B25.size (.cells #[.int .i64 b.age, .int .i64 b.mx, .int .i64 b.hel, .int .i64 b.wai] 3)
          have A33 := A25.alloc (.cells #[.int .i64 b.age, .int .i64 b.mx, .int .i64 b.hel, .int .i64 b.wai] 3)
          generalize (v25).heap.size = g33 at *
          generalize (v25).alloc (.cells #[.int .i64 b.age, .int .i64 b.mx, .int .i64 b.hel, .int .i64 b.wai] 3) = v33 at *
          refine hK.out _ _ A33 (fun hHeld => ?_)
          clear hK K
          (try simp only [Act.put, List.getElem_toArray, List.getElem_cons_zero, List.getElem_cons_succ, List.setIfInBounds_toArray, List.set_cons_zero, List.set_cons_succ])
          refine wpAnyH_ready (rs := [4]) (by kernel_rfl) (by simp) ?_
          refine (AllReadyH.cons rfl (fun K hK => ?_) AllReadyH.nil)
          simp only [List.getElem_toArray, List.getElem_cons_zero, List.getElem_cons_succ]
          go_simp
          with_reducible refine (HN1.out _ _ J33_3).mono ?_
          rintro e v34 ⟨rfl, k34⟩
          have J34_9 := J33_9.below k34
          have J34_24 := I33.below k34
          have B34 := B33.trans (k34.mono B33.size)
          have A34 := A33.kept k34
          refine hK.out _ _ A34 (fun hHeld => ?_)
          clear hK K
          (try simp only [Act.put, List.getElem_toArray, List.getElem_cons_zero, List.getElem_cons_succ, List.setIfInBounds_toArray, List.set_cons_zero, List.set_cons_succ])
          refine wpAnyH_take (i := 6) (v := .string ⟨z1.toArray⟩) rfl (by kernel_rfl) (by kernel_rfl) (by kernel_rfl) (fun _ _ _ h => h) (Or.inl ⟨by rfl, fun w hSw => by go_simp⟩) (by assumption) ?_
          (try simp only [Act.put, List.getElem_toArray, List.getElem_cons_zero, List.getElem_cons_succ, List.setIfInBounds_toArray, List.set_cons_zero, List.set_cons_succ])
          refine wpAnyH_ready (rs := [10]) (by kernel_rfl) (by simp) ?_
          refine (AllReadyH.cons rfl (fun K hK => ?_) AllReadyH.nil)
          simp only [List.getElem_toArray, List.getElem_cons_zero, List.getElem_cons_succ]
          go_simp
          with_reducible refine (HN4.out _ _ J34_9).mono ?_
          rintro e v35 ⟨rfl, k35⟩
          have J35_24 := J34_24.below k35
          have B35 := B34.trans (k35.mono B34.size)
          have A35 := A34.kept k35
          refine hK.out _ _ A35 (fun hHeld => ?_)
          clear hK K
          (try simp only [Act.put, List.getElem_toArray, List.getElem_cons_zero, List.getElem_cons_succ, List.setIfInBounds_toArray, List.set_cons_zero, List.set_cons_succ])
          refine wpAnyH_take (i := 11) (v := .string ⟨z2.toArray⟩) rfl (by kernel_rfl) (by kernel_rfl) (by kernel_rfl) (fun _ _ _ h => h) (Or.inl ⟨by rfl, fun w hSw => by go_simp⟩) (by assumption) ?_
          (try simp only [Act.put, List.getElem_toArray, List.getElem_cons_zero, List.getElem_cons_succ, List.setIfInBounds_toArray, List.set_cons_zero, List.set_cons_succ])
          refine wpAnyH_take (i := 13) (v := .string ⟨z3.toArray⟩) rfl (by kernel_rfl) (by kernel_rfl) (by kernel_rfl) (fun _ _ _ h => h) (Or.inl ⟨by rfl, fun w hSw => by go_simp⟩) (by assumption) ?_
          (try simp only [Act.put, List.getElem_toArray, List.getElem_cons_zero, List.getElem_cons_succ, List.setIfInBounds_toArray, List.set_cons_zero, List.set_cons_succ])
          refine wpAnyH_take (i := 15) (v := .string ⟨z4.toArray⟩) rfl (by kernel_rfl) (by kernel_rfl) (by kernel_rfl) (fun _ _ _ h => h) (Or.inl ⟨by rfl, fun w hSw => by go_simp⟩) (by assumption) ?_
          (try simp only [Act.put, List.getElem_toArray, List.getElem_cons_zero, List.getElem_cons_succ, List.setIfInBounds_toArray, List.set_cons_zero, List.set_cons_succ])
          refine wpAnyH_ready (rs := [25]) (by kernel_rfl) (by simp) ?_
          refine (AllReadyH.cons rfl (fun K hK => ?_) AllReadyH.nil)
          simp only [List.getElem_toArray, List.getElem_cons_zero, List.getElem_cons_succ]
          go_simp
          with_reducible refine (HN2.out _ _ J35_24).mono ?_
          rintro e v36 ⟨rfl, k36⟩
          have B36 := B35.trans (k36.mono B35.size)
          have A36 := A35.kept k36
          refine hK.out _ _ A36 (fun hHeld => ?_)
          clear hK K
          (try simp only [Act.put, List.getElem_toArray, List.getElem_cons_zero, List.getElem_cons_succ, List.setIfInBounds_toArray, List.set_cons_zero, List.set_cons_succ])
          refine wpAnyH_take (i := 26) (v := ?_) rfl (by kernel_rfl) (by kernel_rfl) (by kernel_rfl) (fun _ _ _ h => h) (Or.inl ⟨by rfl, ?_⟩) (by assumption) ?_
          rotate_left
          · (intro w hSw; (try dsimp only at hSw); go_simp; (try with_reducible rfl))
          (try simp only [Act.put, List.getElem_toArray, List.getElem_cons_zero, List.getElem_cons_succ, List.setIfInBounds_toArray, List.set_cons_zero, List.set_cons_succ])
          refine wpAnyH_take (i := 27) (v := ?_) rfl (by kernel_rfl) (by kernel_rfl) (by kernel_rfl) (fun _ _ _ h => h) (Or.inl ⟨by rfl, ?_⟩) (by assumption) ?_
          rotate_left
          · (intro w hSw; (try dsimp only at hSw); go_simp; (try with_reducible rfl))
          (try simp only [Act.put, List.getElem_toArray, List.getElem_cons_zero, List.getElem_cons_succ, List.setIfInBounds_toArray, List.set_cons_zero, List.set_cons_succ])
          refine wpAnyH_done (by kernel_rfl) ?_ _
          refine NoPanic.normal ?_
          go_wp2
          go_ret
          exact ⟨by rw [HBL.out]; rfl, B36⟩
      · simp only [List.getElem_toArray, List.getElem_cons_zero, List.getElem_cons_succ]
        go_simp
        have I37 := IRow.new4 (v12) b.age b.mx b.hel b.wai 3
        have J37_3 : IRow ((v12).alloc (.cells #[.int .i64 b.age, .int .i64 b.mx, .int .i64 b.hel, .int .i64 b.wai] 3)) g12 [(byF b.f : Int)] := I12.below ((Below.refl _ _).alloc (Nat.le_refl _) (.cells #[.int .i64 b.age, .int .i64 b.mx, .int .i64 b.hel, .int .i64 b.wai] 3))
        have B37 := B12.alloc B12.size (.cells #[.int .i64 b.age, .int .i64 b.mx, .int .i64 b.hel, .int .i64 b.wai] 3)
        have A37 := A12.alloc (.cells #[.int .i64 b.age, .int .i64 b.mx, .int .i64 b.hel, .int .i64 b.wai] 3)
        generalize (v12).heap.size = g37 at *
        generalize (v12).alloc (.cells #[.int .i64 b.age, .int .i64 b.mx, .int .i64 b.hel, .int .i64 b.wai] 3) = v37 at *
        refine hK.out _ _ A37 (fun hHeld => ?_)
        clear hK K
        (try simp only [Act.put, List.getElem_toArray, List.getElem_cons_zero, List.getElem_cons_succ, List.setIfInBounds_toArray, List.set_cons_zero, List.set_cons_succ])
        refine wpAnyH_ready (rs := [4, 9]) (by kernel_rfl) (by simp) ?_
        refine (AllReadyH.cons rfl (fun K hK => ?_) (AllReadyH.cons rfl (fun K hK => ?_) AllReadyH.nil))
        · simp only [List.getElem_toArray, List.getElem_cons_zero, List.getElem_cons_succ]
          go_simp
          with_reducible refine (HN1.out _ _ J37_3).mono ?_
          rintro e v38 ⟨rfl, k38⟩
          have J38_24 := I37.below k38
          have B38 := B37.trans (k38.mono B37.size)
          have A38 := A37.kept k38
          refine hK.out _ _ A38 (fun hHeld => ?_)
          clear hK K
          (try simp only [Act.put, List.getElem_toArray, List.getElem_cons_zero, List.getElem_cons_succ, List.setIfInBounds_toArray, List.set_cons_zero, List.set_cons_succ])
          refine wpAnyH_take (i := 6) (v := .string ⟨z1.toArray⟩) rfl (by kernel_rfl) (by kernel_rfl) (by kernel_rfl) (fun _ _ _ h => h) (Or.inl ⟨by rfl, fun w hSw => by go_simp⟩) (by assumption) ?_
          (try simp only [Act.put, List.getElem_toArray, List.getElem_cons_zero, List.getElem_cons_succ, List.setIfInBounds_toArray, List.set_cons_zero, List.set_cons_succ])
          refine wpAnyH_ready (rs := [9]) (by kernel_rfl) (by simp) ?_
          refine (AllReadyH.cons rfl (fun K hK => ?_) AllReadyH.nil)
          simp only [List.getElem_toArray, List.getElem_cons_zero, List.getElem_cons_succ]
          go_simp
          have I39 := IRow.new1 (v38) b.cost 3
          have J39_24 : IRow ((v38).alloc (.cells #[.int .i64 b.cost] 3)) g37 [b.age, b.mx, b.hel, b.wai] := J38_24.below ((Below.refl _ _).alloc (Nat.le_refl _) (.cells #[.int .i64 b.cost] 3))
          have B39 := B38.alloc B38.size (.cells #[.int .i64 b.cost] 3)
          have A39 := A38.alloc (.cells #[.int .i64 b.cost] 3)
          generalize (v38).heap.size = g39 at *
          generalize (v38).alloc (.cells #[.int .i64 b.cost] 3) = v39 at *
          refine hK.out _ _ A39 (fun hHeld => ?_)
          clear hK K
          (try simp only [Act.put, List.getElem_toArray, List.getElem_cons_zero, List.getElem_cons_succ, List.setIfInBounds_toArray, List.set_cons_zero, List.set_cons_succ])
          refine wpAnyH_ready (rs := [10]) (by kernel_rfl) (by simp) ?_
          refine (AllReadyH.cons rfl (fun K hK => ?_) AllReadyH.nil)
          simp only [List.getElem_toArray, List.getElem_cons_zero, List.getElem_cons_succ]
          go_simp
          with_reducible refine (HN4.out _ _ I39).mono ?_
          rintro e v40 ⟨rfl, k40⟩
          have J40_24 := J39_24.below k40
          have B40 := B39.trans (k40.mono B39.size)
          have A40 := A39.kept k40
          refine hK.out _ _ A40 (fun hHeld => ?_)
          clear hK K
          (try simp only [Act.put, List.getElem_toArray, List.getElem_cons_zero, List.getElem_cons_succ, List.setIfInBounds_toArray, List.set_cons_zero, List.set_cons_succ])
          refine wpAnyH_take (i := 11) (v := .string ⟨z2.toArray⟩) rfl (by kernel_rfl) (by kernel_rfl) (by kernel_rfl) (fun _ _ _ h => h) (Or.inl ⟨by rfl, fun w hSw => by go_simp⟩) (by assumption) ?_
          (try simp only [Act.put, List.getElem_toArray, List.getElem_cons_zero, List.getElem_cons_succ, List.setIfInBounds_toArray, List.set_cons_zero, List.set_cons_succ])
          refine wpAnyH_take (i := 13) (v := .string ⟨z3.toArray⟩) rfl (by kernel_rfl) (by kernel_rfl) (by kernel_rfl) (fun _ _ _ h => h) (Or.inl ⟨by rfl, fun w hSw => by go_simp⟩) (by assumption) ?_
          (try simp only [Act.put, List.getElem_toArray, List.getElem_cons_zero, List.getElem_cons_succ, List.setIfInBounds_toArray, List.set_cons_zero, List.set_cons_succ])
          refine wpAnyH_take (i := 15) (v := .string ⟨z4.toArray⟩) rfl (by kernel_rfl) (by kernel_rfl) (by kernel_rfl) (fun _ _ _ h => h) (Or.inl ⟨by rfl, fun w hSw => by go_simp⟩) (by assumption) ?_
          (try simp only [Act.put, List.getElem_toArray, List.getElem_cons_zero, List.getElem_cons_succ, List.setIfInBounds_toArray, List.set_cons_zero, List.set_cons_succ])
          refine wpAnyH_ready (rs := [25]) (by kernel_rfl) (by simp) ?_
          refine (AllReadyH.cons rfl (fun K hK => ?_) AllReadyH.nil)
          simp only [List.getElem_toArray, List.getElem_cons_zero, List.getElem_cons_succ]
          go_simp
          with_reducible refine (HN2.out _ _ J40_24).mono ?_
          rintro e v41 ⟨rfl, k41⟩
          have B41 := B40.trans (k41.mono B40.size)
          have A41 := A40.kept k41
          refine hK.out _ _ A41 (fun hHeld => ?_)
          clear hK K
          (try simp only [Act.put, List.getElem_toArray, List.getElem_cons_zero, List.getElem_cons_succ, List.setIfInBounds_toArray, List.set_cons_zero, List.set_cons_succ])
          refine wpAnyH_take (i := 26) (v := ?_) rfl (by kernel_rfl) (by kernel_rfl) (by kernel_rfl) (fun _ _ _ h => h) (Or.inl ⟨by rfl, ?_⟩) (by assumption) ?_
          rotate_left
          · (intro w hSw; (try dsimp only at hSw); go_simp; (try with_reducible rfl))
          (try simp only [Act.put, List.getElem_toArray, List.getElem_cons_zero, List.getElem_cons_succ, List.setIfInBounds_toArray, List.set_cons_zero, List.set_cons_succ])
          refine wpAnyH_take (i := 27) (v := ?_) rfl (by kernel_rfl) (by kernel_rfl) (by kernel_rfl) (fun _ _ _ h => h) (Or.inl ⟨by rfl, ?_⟩) (by assumption) ?_
          rotate_left
          · (intro w hSw; (try dsimp only at hSw); go_simp; (try with_reducible rfl))
          (try simp only [Act.put, List.getElem_toArray, List.getElem_cons_zero, List.getElem_cons_succ, List.setIfInBounds_toArray, List.set_cons_zero, List.set_cons_succ])
          refine wpAnyH_done (by kernel_rfl) ?_ _
          refine NoPanic.normal ?_
          go_wp2
          go_ret
          exact ⟨by rw [HBL.out]; rfl, B41⟩
        · simp only [List.getElem_toArray, List.getElem_cons_zero, List.getElem_cons_succ]
          go_simp
          have I42 := IRow.new1 (v37) b.cost 3
          have J42_3 : IRow ((v37).alloc (.cells #[.int .i64 b.cost] 3)) g12 [(byF b.f : Int)] := J37_3.below ((Below.refl _ _).alloc (Nat.le_refl _) (.cells #[.int .i64 b.cost] 3))
          have J42_24 : IRow ((v37).alloc (.cells #[.int .i64 b.cost] 3)) g37 [b.age, b.mx, b.hel, b.wai] := I37.below ((Below.refl _ _).alloc (Nat.le_refl _) (.cells #[.int .i64 b.cost] 3))
          have B42 := B37.alloc B37.size (.cells #[.int .i64 b.cost] 3)
          have A42 := A37.alloc (.cells #[.int .i64 b.cost] 3)
          generalize (v37).heap.size = g42 at *
          generalize (v37).alloc (.cells #[.int .i64 b.cost] 3) = v42 at *
          refine hK.out _ _ A42 (fun hHeld => ?_)
          clear hK K
          (try simp only [Act.put, List.getElem_toArray, List.getElem_cons_zero, List.getElem_cons_succ, List.setIfInBounds_toArray, List.set_cons_zero, List.set_cons_succ])
          refine wpAnyH_ready (rs := [4]) (by kernel_rfl) (by simp) ?_
          refine (AllReadyH.cons rfl (fun K hK => ?_) AllReadyH.nil)
          simp only [List.getElem_toArray, List.getElem_cons_zero, List.getElem_cons_succ]
          go_simp
          with_reducible refine (HN1.out _ _ J42_3).mono ?_
          rintro e v43 ⟨rfl, k43⟩
          have J43_24 := J42_24.below k43
          have J43_9 := I42.below k43
          have B43 := B42.trans (k43.mono B42.size)
          have A43 := A42.kept k43
          refine hK.out _ _ A43 (fun hHeld => ?_)
          clear hK K
          (try simp only [Act.put, List.getElem_toArray, List.getElem_cons_zero, List.getElem_cons_succ, List.setIfInBounds_toArray, List.set_cons_zero, List.set_cons_succ])
          refine wpAnyH_take (i := 6) (v := .string ⟨z1.toArray⟩) rfl (by kernel_rfl) (by kernel_rfl) (by kernel_rfl) (fun _ _ _ h => h) (Or.inl ⟨by rfl, fun w hSw => by go_simp⟩) (by assumption) ?_
          (try simp only [Act.put, List.getElem_toArray, List.getElem_cons_zero, List.getElem_cons_succ, List.setIfInBounds_toArray, List.set_cons_zero, List.set_cons_succ])
          refine wpAnyH_ready (rs := [10]) (by kernel_rfl) (by simp) ?_
          refine (AllReadyH.cons rfl (fun K hK => ?_) AllReadyH.nil)
          simp only [List.getElem_toArray, List.getElem_cons_zero, List.getElem_cons_succ]
          go_simp
          with_reducible refine (HN4.out _ _ J43_9).mono ?_
          rintro e v44 ⟨rfl, k44⟩
          have J44_24 := J43_24.below k44
          have B44 := B43.trans (k44.mono B43.size)
          have A44 := A43.kept k44
          refine hK.out _ _ A44 (fun hHeld => ?_)
          clear hK K
          (try simp only [Act.put, List.getElem_toArray, List.getElem_cons_zero, List.getElem_cons_succ, List.setIfInBounds_toArray, List.set_cons_zero, List.set_cons_succ])
          refine wpAnyH_take (i := 11) (v := .string ⟨z2.toArray⟩) rfl (by kernel_rfl) (by kernel_rfl) (by kernel_rfl) (fun _ _ _ h => h) (Or.inl ⟨by rfl, fun w hSw => by go_simp⟩) (by assumption) ?_
          (try simp only [Act.put, List.getElem_toArray, List.getElem_cons_zero, List.getElem_cons_succ, List.setIfInBounds_toArray, List.set_cons_zero, List.set_cons_succ])
          refine wpAnyH_take (i := 13) (v := .string ⟨z3.toArray⟩) rfl (by kernel_rfl) (by kernel_rfl) (by kernel_rfl) (fun _ _ _ h => h) (Or.inl ⟨by rfl, fun w hSw => by go_simp⟩) (by assumption) ?_
          (try simp only [Act.put, List.getElem_toArray, List.getElem_cons_zero, List.getElem_cons_succ, List.setIfInBounds_toArray, List.set_cons_zero, List.set_cons_succ])
          refine wpAnyH_take (i := 15) (v := .string ⟨z4.toArray⟩) rfl (by kernel_rfl) (by kernel_rfl) (by kernel_rfl) (fun _ _ _ h => h) (Or.inl ⟨by rfl, fun w hSw => by go_simp⟩) (by assumption) ?_
          (try simp only [Act.put, List.getElem_toArray, List.getElem_cons_zero, List.getElem_cons_succ, List.setIfInBounds_toArray, List.set_cons_zero, List.set_cons_succ])
          refine wpAnyH_ready (rs := [25]) (by kernel_rfl) (by simp) ?_
          refine (AllReadyH.cons rfl (fun K hK => ?_) AllReadyH.nil)
          simp only [List.getElem_toArray, List.getElem_cons_zero, List.getElem_cons_succ]
          go_simp
          with_reducible refine (HN2.out _ _ J44_24).mono ?_
          rintro e v45 ⟨rfl, k45⟩
          have B45 := B44.trans (k45.mono B44.size)
          have A45 := A44.kept k45
          refine hK.out _ _ A45 (fun hHeld => ?_)
          clear hK K
          (try simp only [Act.put, List.getElem_toArray, List.getElem_cons_zero, List.getElem_cons_succ, List.setIfInBounds_toArray, List.set_cons_zero, List.set_cons_succ])
          refine wpAnyH_take (i := 26) (v := ?_) rfl (by kernel_rfl) (by kernel_rfl) (by kernel_rfl) (fun _ _ _ h => h) (Or.inl ⟨by rfl, ?_⟩) (by assumption) ?_
          rotate_left
          · (intro w hSw; (try dsimp only at hSw); go_simp; (try with_reducible rfl))
          (try simp only [Act.put, List.getElem_toArray, List.getElem_cons_zero, List.getElem_cons_succ, List.setIfInBounds_toArray, List.set_cons_zero, List.set_cons_succ])
          refine wpAnyH_take (i := 27) (v := ?_) rfl (by kernel_rfl) (by kernel_rfl) (by kernel_rfl) (fun _ _ _ h => h) (Or.inl ⟨by rfl, ?_⟩) (by assumption) ?_
          rotate_left
          · (intro w hSw; (try dsimp only at hSw); go_simp; (try with_reducible rfl))
          (try simp only [Act.put, List.getElem_toArray, List.getElem_cons_zero, List.getElem_cons_succ, List.setIfInBounds_toArray, List.set_cons_zero, List.set_cons_succ])
          refine wpAnyH_done (by kernel_rfl) ?_ _
          refine NoPanic.normal ?_
          go_wp2
          go_ret
          exact ⟨by rw [HBL.out]; rfl, B45⟩
    · simp only [List.getElem_toArray, List.getElem_cons_zero, List.getElem_cons_succ]
      go_simp
      have I46 := IRow.new1 (v11) b.cost 3
      have B46 := B11.alloc B11.size (.cells #[.int .i64 b.cost] 3)
      have A46 := A11.alloc (.cells #[.int .i64 b.cost] 3)
      generalize (v11).heap.size = g46 at *
      generalize (v11).alloc (.cells #[.int .i64 b.cost] 3) = v46 at *
      refine hK.out _ _ A46 (fun hHeld => ?_)
      clear hK K
      (try simp only [Act.put, List.getElem_toArray, List.getElem_cons_zero, List.getElem_cons_succ, List.setIfInBounds_toArray, List.set_cons_zero, List.set_cons_succ])
      refine wpAnyH_ready (rs := [3, 24]) (by kernel_rfl) (by simp) ?_
      refine (AllReadyH.cons rfl (fun K hK => ?_) (AllReadyH.cons rfl (fun K hK => ?_) AllReadyH.nil))
      · simp only [List.getElem_toArray, List.getElem_cons_zero, List.getElem_cons_succ]
        go_simp
        have I47 := IRow.new1 (v46) (byF b.f : Int) 3
        have J47_9 : IRow ((v46).alloc (.cells #[.int .i64 (byF b.f : Int)] 3)) g46 [b.cost] := I46.below ((Below.refl _ _).alloc (Nat.le_refl _) (.cells #[.int .i64 (byF b.f : Int)] 3))
        have B47 := B46.alloc B46.size (.cells #[.int .i64 (byF b.f : Int)] 3)
        have A47 := A46.alloc (.cells #[.int .i64 (byF b.f : Int)] 3)
        generalize (v46).heap.size = g47 at *
        generalize (v46).alloc (.cells #[.int .i64 (byF b.f : Int)] 3) = v47 at *
        refine hK.out _ _ A47 (fun hHeld => ?_)
        clear hK K
        (try simp only [Act.put, List.getElem_toArray, List.getElem_cons_zero, List.getElem_cons_succ, List.setIfInBounds_toArray, List.set_cons_zero, List.set_cons_succ])
        refine wpAnyH_ready (rs := [4, 24]) (by kernel_rfl) (by simp) ?_
        refine (AllReadyH.cons rfl (fun K hK => ?_) (AllReadyH.cons rfl (fun K hK => ?_) AllReadyH.nil))
        · simp only [List.getElem_toArray, List.getElem_cons_zero, List.getElem_cons_succ]
          go_simp
          with_reducible refine (HN1.out _ _ I47).mono ?_
          rintro e v48 ⟨rfl, k48⟩
          have J48_9 := J47_9.below k48
          have B48 := B47.trans (k48.mono B47.size)
          have A48 := A47.kept k48
          refine hK.out _ _ A48 (fun hHeld => ?_)
          clear hK K
          (try simp only [Act.put, List.getElem_toArray, List.getElem_cons_zero, List.getElem_cons_succ, List.setIfInBounds_toArray, List.set_cons_zero, List.set_cons_succ])
          refine wpAnyH_take (i := 6) (v := .string ⟨z1.toArray⟩) rfl (by kernel_rfl) (by kernel_rfl) (by kernel_rfl) (fun _ _ _ h => h) (Or.inl ⟨by rfl, fun w hSw => by go_simp⟩) (by assumption) ?_
          (try simp only [Act.put, List.getElem_toArray, List.getElem_cons_zero, List.getElem_cons_succ, List.setIfInBounds_toArray, List.set_cons_zero, List.set_cons_succ])
          refine wpAnyH_ready (rs := [10, 24]) (by kernel_rfl) (by simp) ?_
          refine (AllReadyH.cons rfl (fun K hK => ?_) (AllReadyH.cons rfl (fun K hK => ?_) AllReadyH.nil))
          · simp only [List.getElem_toArray, List.getElem_cons_zero, List.getElem_cons_succ]
            go_simp
            with_reducible refine (HN4.out _ _ J48_9).mono ?_
            rintro e v49 ⟨rfl, k49⟩
            have B49 := B48.trans (k49.mono B48.size)
            have A49 := A48.kept k49
            refine hK.out _ _ A49 (fun hHeld => ?_)
            clear hK K
            (try simp only [Act.put, List.getElem_toArray, List.getElem_cons_zero, List.getElem_cons_succ, List.setIfInBounds_toArray, List.set_cons_zero, List.set_cons_succ])
            refine wpAnyH_take (i := 11) (v := .string ⟨z2.toArray⟩) rfl (by kernel_rfl) (by kernel_rfl) (by kernel_rfl) (fun _ _ _ h => h) (Or.inl ⟨by rfl, fun w hSw => by go_simp⟩) (by assumption) ?_
            (try simp only [Act.put, List.getElem_toArray, List.getElem_cons_zero, List.getElem_cons_succ, List.setIfInBounds_toArray, List.set_cons_zero, List.set_cons_succ])
            refine wpAnyH_take (i := 13) (v := .string ⟨z3.toArray⟩) rfl (by kernel_rfl) (by kernel_rfl) (by kernel_rfl) (fun _ _ _ h => h) (Or.inl ⟨by rfl, fun w hSw => by go_simp⟩) (by assumption) ?_
            (try simp only [Act.put, List.getElem_toArray, List.getElem_cons_zero, List.getElem_cons_succ, List.setIfInBounds_toArray, List.set_cons_zero, List.set_cons_succ])
            refine wpAnyH_take (i := 15) (v := .string ⟨z4.toArray⟩) rfl (by kernel_rfl) (by kernel_rfl) (by kernel_rfl) (fun _ _ _ h => h) (Or.inl ⟨by rfl, fun w hSw => by go_simp⟩) (by assumption) ?_
            (try simp only [Act.put, List.getElem_toArray, List.getElem_cons_zero, List.getElem_cons_succ, List.setIfInBounds_toArray, List.set_cons_zero, List.set_cons_succ])
            refine wpAnyH_ready (rs := [24]) (by kernel_rfl) (by simp) ?_
            refine (AllReadyH.cons rfl (fun K hK => ?_) AllReadyH.nil)
            simp only [List.getElem_toArray, List.getElem_cons_zero, List.getElem_cons_succ]
            go_simp
            have I50 := IRow.new4 (v49) b.age b.mx b.hel b.wai 3
            have B50 := B49.alloc B49.size (.cells #[.int .i64 b.age, .int .i64 b.mx, .int .i64 b.hel, .int .i64 b.wai] 3)
            have A50 := A49.alloc (.cells #[.int .i64 b.age, .int .i64 b.mx, .int .i64 b.hel, .int .i64 b.wai] 3)
            generalize (v49).heap.size = g50 at *
            generalize (v49).alloc (.cells #[.int .i64 b.age, .int .i64 b.mx, .int .i64 b.hel, .int .i64 b.wai] 3) = v50 at *
            refine hK.out _ _ A50 (fun hHeld => ?_)
            clear hK K
            (try simp only [Act.put, List.getElem_toArray, List.getElem_cons_zero, List.getElem_cons_succ, List.setIfInBounds_toArray, List.set_cons_zero, List.set_cons_succ])
            refine wpAnyH_ready (rs := [25]) (by kernel_rfl) (by simp) ?_
            refine (AllReadyH.cons rfl (fun K hK => ?_) AllReadyH.nil)
            simp only [List.getElem_toArray, List.getElem_cons_zero, List.getElem_cons_succ]
            go_simp
            with_reducible refine (HN2.out _ _ I50).mono ?_
            rintro e v51 ⟨rfl, k51⟩
            have B51 := B50.trans (k51.mono B50.size)
            have A51 := A50.kept k51
            refine hK.out _ _ A51 (fun hHeld => ?_)
            clear hK K
            (try simp only [Act.put, List.getElem_toArray, List.getElem_cons_zero, List.getElem_cons_succ, List.setIfInBounds_toArray, List.set_cons_zero, List.set_cons_succ])
            refine wpAnyH_take (i := 26) (v := ?_) rfl (by kernel_rfl) (by kernel_rfl) (by kernel_rfl) (fun _ _ _ h => h) (Or.inl ⟨by rfl, ?_⟩) (by assumption) ?_
            rotate_left
            · (intro w hSw; (try dsimp only at hSw); go_simp; (try with_reducible rfl))
            (try simp only [Act.put, List.getElem_toArray, List.getElem_cons_zero, List.getElem_cons_succ, List.setIfInBounds_toArray, List.set_cons_zero, List.set_cons_succ])
            refine wpAnyH_take (i := 27) (v := ?_) rfl (by kernel_rfl) (by kernel_rfl) (by kernel_rfl) (fun _ _ _ h => h) (Or.inl ⟨by rfl, ?_⟩) (by assumption) ?_
            rotate_left
            · (intro w hSw; (try dsimp only at hSw); go_simp; (try with_reducible rfl))
            (try simp only [Act.put, List.getElem_toArray, List.getElem_cons_zero, List.getElem_cons_succ, List.setIfInBounds_toArray, List.set_cons_zero, List.set_cons_succ])
            refine wpAnyH_done (by kernel_rfl) ?_ _
            refine NoPanic.normal ?_
            go_wp2
            go_ret
            exact ⟨by rw [HBL.out]; rfl, B51⟩
          · simp only [List.getElem_toArray, List.getElem_cons_zero, List.getElem_cons_succ]
            go_simp
            have I52 := IRow.new4 (v48) b.age b.mx b.hel b.wai 3
            have J52_9 : IRow ((v48).alloc (.cells #[.int .i64 b.age, .int .i64 b.mx, .int .i64 b.hel, .int .i64 b.wai] 3)) g46 [b.cost] := J48_9.below ((Below.refl _ _).alloc (Nat.le_refl _) (.cells #[.int .i64 b.age, .int .i64 b.mx, .int .i64 b.hel, .int .i64 b.wai] 3))
            have B52 := B48.alloc B48.size (.cells #[.int .i64 b.age, .int .i64 b.mx, .int .i64 b.hel, .int .i64 b.wai] 3)
            have A52 := A48.alloc (.cells #[.int .i64 b.age, .int .i64 b.mx, .int .i64 b.hel, .int .i64 b.wai] 3)
            generalize (v48).heap.size = g52 at *
            generalize (v48).alloc (.cells #[.int .i64 b.age, .int .i64 b.mx, .int .i64 b.hel, .int .i64 b.wai] 3) = v52 at *
            refine hK.out _ _ A52 (fun hHeld => ?_)
            clear hK K
            (try simp only [Act.put, List.getElem_toArray, List.getElem_cons_zero, List.getElem_cons_succ, List.setIfInBounds_toArray, List.set_cons_zero, List.set_cons_succ])
            refine wpAnyH_ready (rs := [10]) (by kernel_rfl) (by simp) ?_
            refine (AllReadyH.cons rfl (fun K hK => ?_) AllReadyH.nil)
            simp only [List.getElem_toArray, List.getElem_cons_zero, List.getElem_cons_succ]
            go_simp
            with_reducible refine (HN4.out _ _ J52_9).mono ?_
            rintro e v53 ⟨rfl, k53⟩
            have J53_24 := I52.below k53
            have B53 := B52.trans (k53.mono B52.size)
            have A53 := A52.kept k53
            refine hK.out _ _ A53 (fun hHeld => ?_)
            clear hK K
            (try simp only [Act.put, List.getElem_toArray, List.getElem_cons_zero, List.getElem_cons_succ, List.setIfInBounds_toArray, List.set_cons_zero, List.set_cons_succ])
            refine wpAnyH_take (i := 11) (v := .string ⟨z2.toArray⟩) rfl (by kernel_rfl) (by kernel_rfl) (by kernel_rfl) (fun _ _ _ h => h) (Or.inl ⟨by rfl, fun w hSw => by go_simp⟩) (by assumption) ?_
            (try simp only [Act.put, List.getElem_toArray, List.getElem_cons_zero, List.getElem_cons_succ, List.setIfInBounds_toArray, List.set_cons_zero, List.set_cons_succ])
            refine wpAnyH_take (i := 13) (v := .string ⟨z3.toArray⟩) rfl (by kernel_rfl) (by kernel_rfl) (by kernel_rfl) (fun _ _ _ h => h) (Or.inl ⟨by rfl, fun w hSw => by go_simp⟩) (by assumption) ?_
            (try simp only [Act.put, List.getElem_toArray, List.getElem_cons_zero, List.getElem_cons_succ, List.setIfInBounds_toArray, List.set_cons_zero, List.set_cons_succ])
            refine wpAnyH_take (i := 15) (v := .string ⟨z4.toArray⟩) rfl (by kernel_rfl) (by kernel_rfl) (by kernel_rfl) (fun _ _ _ h => h) (Or.inl ⟨by rfl, fun w hSw => by go_simp⟩) (by assumption) ?_
            (try simp only [Act.put, List.getElem_toArray, List.getElem_cons_zero, List.getElem_cons_succ, List.setIfInBounds_toArray, List.set_cons_zero, List.set_cons_succ])
            refine wpAnyH_ready (rs := [25]) (by kernel_rfl) (by simp) ?_
            refine (AllReadyH.cons rfl (fun K hK => ?_) AllReadyH.nil)
            simp only [List.getElem_toArray, List.getElem_cons_zero, List.getElem_cons_succ]
            go_simp
            with_reducible refine (HN2.out _ _ J53_24).mono ?_
            rintro e v54 ⟨rfl, k54⟩
            have B54 := B53.trans (k54.mono B53.size)
            have A54 := A53.kept k54
            refine hK.out _ _ A54 (fun hHeld => ?_)
            clear hK K
            (try simp only [Act.put, List.getElem_toArray, List.getElem_cons_zero, List.getElem_cons_succ, List.setIfInBounds_toArray, List.set_cons_zero, List.set_cons_succ])
            refine wpAnyH_take (i := 26) (v := ?_) rfl (by kernel_rfl) (by kernel_rfl) (by kernel_rfl) (fun _ _ _ h => h) (Or.inl ⟨by rfl, ?_⟩) (by assumption) ?_
            rotate_left
            · (intro w hSw; (try dsimp only at hSw); go_simp; (try with_reducible rfl))
            (try simp only [Act.put, List.getElem_toArray, List.getElem_cons_zero, List.getElem_cons_succ, List.setIfInBounds_toArray, List.set_cons_zero, List.set_cons_succ])
            refine wpAnyH_take (i := 27) (v := ?_) rfl (by kernel_rfl) (by kernel_rfl) (by kernel_rfl) (fun _ _ _ h => h) (Or.inl ⟨by rfl, ?_⟩) (by assumption) ?_
            rotate_left
            · (intro w hSw; (try dsimp only at hSw); go_simp; (try with_reducible rfl))
            (try simp only [Act.put, List.getElem_toArray, List.getElem_cons_zero, List.getElem_cons_succ, List.setIfInBounds_toArray, List.set_cons_zero, List.set_cons_succ])
            refine wpAnyH_done (by kernel_rfl) ?_ _
            refine NoPanic.normal ?_
            go_wp2
            go_ret
            exact ⟨by rw [HBL.out]; rfl, B54⟩
        · simp only [List.getElem_toArray, List.getElem_cons_zero, List.getElem_cons_succ]
          go_simp
          have I55 := IRow.new4 (v47) b.age b.mx b.hel b.wai 3
          have J55_9 : IRow ((v47).alloc (.cells #[.int .i64 b.age, .int .i64 b.mx, .int .i64 b.hel, .int .i64 b.wai] 3)) g46 [b.cost] := J47_9.below ((Below.refl _ _).alloc (Nat.le_refl _) (.cells #[.int .i64 b.age, .int .i64 b.mx, .int .i64 b.hel, .int .i64 b.wai] 3))
          have J55_3 : IRow ((v47).alloc (.cells #[.int .i64 b.age, .int .i64 b.mx, .int .i64 b.hel, .int .i64 b.wai] 3)) g47 [(byF b.f : Int)] := I47.below ((Below.refl _ _).alloc (Nat.le_refl _) (.cells #[.int .i64 b.age, .int .i64 b.mx, .int .i64 b.hel, .int .i64 b.wai] 3))
          have B55 := B47.alloc B47.size (.cells #[.int .i64 b.age, .int .i64 b.mx, .int .i64 b.hel, .int .i64 b.wai] 3)
          have A55 := A47.alloc (.cells #[.int .i64 b.age, .int .i64 b.mx, .int .i64 b.hel, .int .i64 b.wai] 3)
          generalize (v47).heap.size = g55 at *
          generalize (v47).alloc (.cells #[.int .i64 b.age, .int .i64 b.mx, .int .i64 b.hel, .int .i64 b.wai] 3) = v55 at *
          refine hK.out _ _ A55 (fun hHeld => ?_)
          clear hK K
          (try simp only [Act.put, List.getElem_toArray, List.getElem_cons_zero, List.getElem_cons_succ, List.setIfInBounds_toArray, List.set_cons_zero, List.set_cons_succ])
          refine wpAnyH_ready (rs := [4]) (by kernel_rfl) (by simp) ?_
          refine (AllReadyH.cons rfl (fun K hK => ?_) AllReadyH.nil)
          simp only [List.getElem_toArray, List.getElem_cons_zero, List.getElem_cons_succ]
          go_simp
          with_reducible refine (HN1.out _ _ J55_3).mono ?_
          rintro e v56 ⟨rfl, k56⟩
          have J56_9 := J55_9.below k56
          have J56_24 := I55.below k56
          have B56 := B55.trans (k56.mono B55.size)
          have A56 := A55.kept k56
          refine hK.out _ _ A56 (fun hHeld => ?_)
          clear hK K
          (try simp only [Act.put, List.getElem_toArray, List.getElem_cons_zero, List.getElem_cons_succ, List.setIfInBounds_toArray, List.set_cons_zero, List.set_cons_succ])
          refine wpAnyH_take (i := 6) (v := .string ⟨z1.toArray⟩) rfl (by kernel_rfl) (by kernel_rfl) (by kernel_rfl) (fun _ _ _ h => h) (Or.inl ⟨by rfl, fun w hSw => by go_simp⟩) (by assumption) ?_
          (try simp only [Act.put, List.getElem_toArray, List.getElem_cons_zero, List.getElem_cons_succ, List.setIfInBounds_toArray, List.set_cons_zero, List.set_cons_succ])
          refine wpAnyH_ready (rs := [10]) (by kernel_rfl) (by simp) ?_
          refine (AllReadyH.cons rfl (fun K hK => ?_) AllReadyH.nil)
          simp only [List.getElem_toArray, List.getElem_cons_zero, List.getElem_cons_succ]
          go_simp
          with_reducible refine (HN4.out _ _ J56_9).mono ?_
          rintro e v57 ⟨rfl, k57⟩
          have J57_24 := J56_24.below k57
          have B57 := B56.trans (k57.mono B56.size)
          have A57 := A56.kept k57
          refine hK.out _ _ A57 (fun hHeld => ?_)
          clear hK K
          (try simp only [Act.put, List.getElem_toArray, List.getElem_cons_zero, List.getElem_cons_succ, List.setIfInBounds_toArray, List.set_cons_zero, List.set_cons_succ])
          refine wpAnyH_take (i := 11) (v := .string ⟨z2.toArray⟩) rfl (by kernel_rfl) (by kernel_rfl) (by kernel_rfl) (fun _ _ _ h => h) (Or.inl ⟨by rfl, fun w hSw => by go_simp⟩) (by assumption) ?_
          (try simp only [Act.put, List.getElem_toArray, List.getElem_cons_zero, List.getElem_cons_succ, List.setIfInBounds_toArray, List.set_cons_zero, List.set_cons_succ])
          refine wpAnyH_take (i := 13) (v := .string ⟨z3.toArray⟩) rfl (by kernel_rfl) (by kernel_rfl) (by kernel_rfl) (fun _ _ _ h => h) (Or.inl ⟨by rfl, fun w hSw => by go_simp⟩) (by assumption) ?_
          (try simp only [Act.put, List.getElem_toArray, List.getElem_cons_zero, List.getElem_cons_succ, List.setIfInBounds_toArray, List.set_cons_zero, List.set_cons_succ])
          refine wpAnyH_take (i := 15) (v := .string ⟨z4.toArray⟩) rfl (by kernel_rfl) (by kernel_rfl) (by kernel_rfl) (fun _ _ _ h => h) (Or.inl ⟨by rfl, fun w hSw => by go_simp⟩) (by assumption) ?_
          (try simp only [Act.put, List.getElem_toArray, List.getElem_cons_zero, List.getElem_cons_succ, List.setIfInBounds_toArray, List.set_cons_zero, List.set_cons_succ])
          refine wpAnyH_ready (rs := [25]) (by kernel_rfl) (by simp) ?_
          refine (AllReadyH.cons rfl (fun K hK => ?_) AllReadyH.nil)
          simp only [List.getElem_toArray, List.getElem_cons_zero, List.getElem_cons_succ]
          go_simp
          with_reducible refine (HN2.out _ _ J57_24).mono ?_
          rintro e v58 ⟨rfl, k58⟩
          have B58 := B57.trans (k58.mono B57.size)
          have A58 := A57.kept k58
          refine hK.out _ _ A58 (fun hHeld => ?_)
          clear hK K
          (try simp only [Act.put, List.getElem_toArray, List.getElem_cons_zero, List.getElem_cons_succ, List.setIfInBounds_toArray, List.set_cons_zero, List.set_cons_succ])
          refine wpAnyH_take (i := 26) (v := ?_) rfl (by kernel_rfl) (by kernel_rfl) (by kernel_rfl) (fun _ _ _ h => h) (Or.inl ⟨by rfl, ?_⟩) (by assumption) ?_
          rotate_left
          · (intro w hSw; (try dsimp only at hSw); go_simp; (try with_reducible rfl))
          (try simp only [Act.put, List.getElem_toArray, List.getElem_cons_zero, List.getElem_cons_succ, List.setIfInBounds_toArray, List.set_cons_zero, List.set_cons_succ])
          refine wpAnyH_take (i := 27) (v := ?_) rfl (by kernel_rfl) (by kernel_rfl) (by kernel_rfl) (fun _ _ _ h => h) (Or.inl ⟨by rfl, ?_⟩) (by assumption) ?_
          rotate_left
          · (intro w hSw; (try dsimp only at hSw); go_simp; (try with_reducible rfl))
          (try simp only [Act.put, List.getElem_toArray, List.getElem_cons_zero, List.getElem_cons_succ, List.setIfInBounds_toArray, List.set_cons_zero, List.set_cons_succ])
          refine wpAnyH_done (by kernel_rfl) ?_ _
          refine NoPanic.normal ?_
          go_wp2
          go_ret
          exact ⟨by rw [HBL.out]; rfl, B58⟩
      · simp only [List.getElem_toArray, List.getElem_cons_zero, List.getElem_cons_succ]
        go_simp
        have I59 := IRow.new4 (v46) b.age b.mx b.hel b.wai 3
        have J59_9 : IRow ((v46).alloc (.cells #[.int .i64 b.age, .int .i64 b.mx, .int .i64 b.hel, .int .i64 b.wai] 3)) g46 [b.cost] := I46.below ((Below.refl _ _).alloc (Nat.le_refl _) (.cells #[.int .i64 b.age, .int .i64 b.mx, .int .i64 b.hel, .int .i64 b.wai] 3))
        have B59 := B46.alloc B46.size (.cells #[.int .i64 b.age, .int .i64 b.mx, .int .i64 b.hel, .int .i64 b.wai] 3)
        have A59 := A46.alloc (.cells #[.int .i64 b.age, .int .i64 b.mx, .int .i64 b.hel, .int .i64 b.wai] 3)
        generalize (v46).heap.size = g59 at *
        generalize (v46).alloc (.cells #[.int .i64 b.age, .int .i64 b.mx, .int .i64 b.hel, .int .i64 b.wai] 3) = v59 at *
        refine hK.out _ _ A59 (fun hHeld => ?_)
        clear hK K
        (try simp only [Act.put, List.getElem_toArray, List.getElem_cons_zero, List.getElem_cons_succ, List.setIfInBounds_toArray, List.set_cons_zero, List.set_cons_succ])
        refine wpAnyH_ready (rs := [3]) (by kernel_rfl) (by simp) ?_
        refine (AllReadyH.cons rfl (fun K hK => ?_) AllReadyH.nil)
        simp only [List.getElem_toArray, List.getElem_cons_zero, List.getElem_cons_succ]
        go_simp
        have I60 := IRow.new1 (v59) (byF b.f : Int) 3
        have J60_9 : IRow ((v59).alloc (.cells #[.int .i64 (byF b.f : Int)] 3)) g46 [b.cost] := J59_9.below ((Below.refl _ _).alloc (Nat.le_refl _) (.cells #[.int .i64 (byF b.f : Int)] 3))
        have J60_24 : IRow ((v59).alloc (.cells #[.int .i64 (byF b.f : Int)] 3)) g59 [b.age, b.mx, b.hel, b.wai] := I59.below ((Below.refl _ _).alloc (Nat.le_refl _) (.cells #[.int .i64 (byF b.f : Int)] 3))
        have B60 := B59.alloc B59.size (.cells #[.int .i64 (byF b.f : Int)] 3)
        have A60 := A59.alloc (.cells #[.int .i64 (byF b.f : Int)] 3)
        generalize (v59).heap.size = g60 at *
        generalize (v59).alloc (.cells #[.int .i64 (byF b.f : Int)] 3) = v60 at *
        refine hK.out _ _ A60 (fun hHeld => ?_)
        clear hK K
        (try simp only [Act.put, List.getElem_toArray, List.getElem_cons_zero, List.getElem_cons_succ, List.setIfInBounds_toArray, List.set_cons_zero, List.set_cons_succ])
        refine wpAnyH_ready (rs := [4]) (by kernel_rfl) (by simp) ?_
        refine (AllReadyH.cons rfl (fun K hK => ?_) AllReadyH.nil)
        simp only [List.getElem_toArray, List.getElem_cons_zero, List.getElem_cons_succ]
        go_simp
        with_reducible refine (HN1.out _ _ I60).mono ?_
        rintro e v61 ⟨rfl, k61⟩
        have J61_9 := J60_9.below k61
        have J61_24 := J60_24.below k61
        have B61 := B60.trans (k61.mono B60.size)
        have A61 := A60.kept k61
        refine hK.out _ _ A61 (fun hHeld => ?_)
        clear hK K
        (try simp only [Act.put, List.getElem_toArray, List.getElem_cons_zero, List.getElem_cons_succ, List.setIfInBounds_toArray, List.set_cons_zero, List.set_cons_succ])
        refine wpAnyH_take (i := 6) (v := .string ⟨z1.toArray⟩) rfl (by kernel_rfl) (by kernel_rfl) (by kernel_rfl) (fun _ _ _ h => h) (Or.inl ⟨by rfl, fun w hSw => by go_simp⟩) (by assumption) ?_
        (try simp only [Act.put, List.getElem_toArray, List.getElem_cons_zero, List.getElem_cons_succ, List.setIfInBounds_toArray, List.set_cons_zero, List.set_cons_succ])
        refine wpAnyH_ready (rs := [10]) (by kernel_rfl) (by simp) ?_
        refine (AllReadyH.cons rfl (fun K hK => ?_) AllReadyH.nil)
        simp only [List.getElem_toArray, List.getElem_cons_zero, List.getElem_cons_succ]
        go_simp
        with_reducible refine (HN4.out _ _ J61_9).mono ?_
        rintro e v62 ⟨rfl, k62⟩
        have J62_24 := J61_24.below k62
        have B62 := B61.trans (k62.mono B61.size)
        have A62 := A61.kept k62
        refine hK.out _ _ A62 (fun hHeld => ?_)
        clear hK K
        (try simp only [Act.put, List.getElem_toArray, List.getElem_cons_zero, List.getElem_cons_succ, List.setIfInBounds_toArray, List.set_cons_zero, List.set_cons_succ])
        refine wpAnyH_take (i := 11) (v := .string ⟨z2.toArray⟩) rfl (by kernel_rfl) (by kernel_rfl) (by kernel_rfl) (fun _ _ _ h => h) (Or.inl ⟨by rfl, fun w hSw => by go_simp⟩) (by assumption) ?_
        (try simp only [Act.put, List.getElem_toArray, List.getElem_cons_zero, List.getElem_cons_succ, List.setIfInBounds_toArray, List.set_cons_zero, List.set_cons_succ])
        refine wpAnyH_take (i := 13) (v := .string ⟨z3.toArray⟩) rfl (by kernel_rfl) (by kernel_rfl) (by kernel_rfl) (fun _ _ _ h => h) (Or.inl ⟨by rfl, fun w hSw => by go_simp⟩) (by assumption) ?_
        (try simp only [Act.put, List.getElem_toArray, List.getElem_cons_zero, List.getElem_cons_succ, List.setIfInBounds_toArray, List.set_cons_zero, List.set_cons_succ])
        refine wpAnyH_take (i := 15) (v := .string ⟨z4.toArray⟩) rfl (by kernel_rfl) (by kernel_rfl) (by kernel_rfl) (fun _ _ _ h => h) (Or.inl ⟨by rfl, fun w hSw => by go_simp⟩) (by assumption) ?_
        (try simp only [Act.put, List.getElem_toArray, List.getElem_cons_zero, List.getElem_cons_succ, List.setIfInBounds_toArray, List.set_cons_zero, List.set_cons_succ])
        refine wpAnyH_ready (rs := [25]) (by kernel_rfl) (by simp) ?_
        refine (AllReadyH.cons rfl (fun K hK => ?_) AllReadyH.nil)
        simp only [List.getElem_toArray, List.getElem_cons_zero, List.getElem_cons_succ]
        go_simp
        with_reducible refine (HN2.out _ _ J62_24).mono ?_
        rintro e v63 ⟨rfl, k63⟩
        have B63 := B62.trans (k63.mono B62.size)
        have A63 := A62.kept k63
        refine hK.out _ _ A63 (fun hHeld => ?_)
        clear hK K
        (try simp only [Act.put, List.getElem_toArray, List.getElem_cons_zero, List.getElem_cons_succ, List.setIfInBounds_toArray, List.set_cons_zero, List.set_cons_succ])
        refine wpAnyH_take (i := 26) (v := ?_) rfl (by kernel_rfl) (by kernel_rfl) (by kernel_rfl) (fun _ _ _ h => h) (Or.inl ⟨by rfl, ?_⟩) (by assumption) ?_
        rotate_left
        · (intro w hSw; (try dsimp only at hSw); go_simp; (try with_reducible rfl))
        (try simp only [Act.put, List.getElem_toArray, List.getElem_cons_zero, List.getElem_cons_succ, List.setIfInBounds_toArray, List.set_cons_zero, List.set_cons_succ])
        refine wpAnyH_take (i := 27) (v := ?_) rfl (by kernel_rfl) (by kernel_rfl) (by kernel_rfl) (fun _ _ _ h => h) (Or.inl ⟨by rfl, ?_⟩) (by assumption) ?_
        rotate_left
        · (intro w hSw; (try dsimp only at hSw); go_simp; (try with_reducible rfl))
        (try simp only [Act.put, List.getElem_toArray, List.getElem_cons_zero, List.getElem_cons_succ, List.setIfInBounds_toArray, List.set_cons_zero, List.set_cons_succ])
        refine wpAnyH_done (by kernel_rfl) ?_ _
        refine NoPanic.normal ?_
        go_wp2
        go_ret
        exact ⟨by rw [HBL.out]; rfl, B63⟩
    · simp only [List.getElem_toArray, List.getElem_cons_zero, List.getElem_cons_succ]
      go_simp
      have I64 := IRow.new4 (v11) b.age b.mx b.hel b.wai 3
      have B64 := B11.alloc B11.size (.cells #[.int .i64 b.age, .int .i64 b.mx, .int .i64 b.hel, .int .i64 b.wai] 3)
      have A64 := A11.alloc (.cells #[.int .i64 b.age, .int .i64 b.mx, .int .i64 b.hel, .int .i64 b.wai] 3)
      generalize (v11).heap.size = g64 at *
      generalize (v11).alloc (.cells #[.int .i64 b.age, .int .i64 b.mx, .int .i64 b.hel, .int .i64 b.wai] 3) = v64 at *
      refine hK.out _ _ A64 (fun hHeld => ?_)
      clear hK K
      (try simp only [Act.put, List.getElem_toArray, List.getElem_cons_zero, List.getElem_cons_succ, List.setIfInBounds_toArray, List.set_cons_zero, List.set_cons_succ])
      refine wpAnyH_ready (rs := [3, 9]) (by kernel_rfl) (by simp) ?_
      refine (AllReadyH.cons rfl (fun K hK => ?_) (AllReadyH.cons rfl (fun K hK => ?_) AllReadyH.nil))
      · simp only [List.getElem_toArray, List.getElem_cons_zero, List.getElem_cons_succ]
        go_simp
        have I65 := IRow.new1 (v64) (byF b.f : Int) 3
        have J65_24 : IRow ((v64).alloc (.cells #[.int .i64 (byF b.f : Int)] 3)) g64 [b.age, b.mx, b.hel, b.wai] := I64.below ((Below.refl _ _).alloc (Nat.le_refl _) (.cells #[.int .i64 (byF b.f : Int)] 3))
        have B65 := B64.alloc B64.size (.cells #[.int .i64 (byF b.f : Int)] 3)
        have A65 := A64.alloc (.cells #[.int .i64 (byF b.f : Int)] 3)
        generalize (v64).heap.size = g65 at *
        generalize (v64).alloc (.cells #[.int .i64 (byF b.f : Int)] 3) = v65 at *
        refine hK.out _ _ A65 (fun hHeld => ?_)
        clear hK K
        (try simp only [Act.put, List.getElem_toArray, List.getElem_cons_zero, List.getElem_cons_succ, List.setIfInBounds_toArray, List.set_cons_zero, List.set_cons_succ])
        refine wpAnyH_ready (rs := [4, 9]) (by kernel_rfl) (by simp) ?_
        refine (AllReadyH.cons rfl (fun K hK => ?_) (AllReadyH.cons rfl (fun K hK => ?_) AllReadyH.nil))
        · simp only [List.getElem_toArray, List.getElem_cons_zero, List.getElem_cons_succ]
          go_simp
          with_reducible refine (HN1.out _ _ I65).mono ?_
          rintro e v66 ⟨rfl, k66⟩
          have J66_24 := J65_24.below k66
          have B66 := B65.trans (k66.mono B65.size)
          have A66 := A65.kept k66
          refine hK.out _ _ A66 (fun hHeld => ?_)
          clear hK K
          (try simp only [Act.put, List.getElem_toArray, List.getElem_cons_zero, List.getElem_cons_succ, List.setIfInBounds_toArray, List.set_cons_zero, List.set_cons_succ])
          refine wpAnyH_take (i := 6) (v := .string ⟨z1.toArray⟩) rfl (by kernel_rfl) (by kernel_rfl) (by kernel_rfl) (fun _ _ _ h => h) (Or.inl ⟨by rfl, fun w hSw => by go_simp⟩) (by assumption) ?_
          (try simp only [Act.put, List.getElem_toArray, List.getElem_cons_zero, List.getElem_cons_succ, List.setIfInBounds_toArray, List.set_cons_zero, List.set_cons_succ])
          refine wpAnyH_ready (rs := [9]) (by kernel_rfl) (by simp) ?_
          refine (AllReadyH.cons rfl (fun K hK => ?_) AllReadyH.nil)
          simp only [List.getElem_toArray, List.getElem_cons_zero, List.getElem_cons_succ]
          go_simp
          have I67 := IRow.new1 (v66) b.cost 3
          have J67_24 : IRow ((v66).alloc (.cells #[.int .i64 b.cost] 3)) g64 [b.age, b.mx, b.hel, b.wai] := J66_24.below ((Below.refl _ _).alloc (Nat.le_refl _) (.cells #[.int .i64 b.cost] 3))
          have B67 := B66.alloc B66.size (.cells #[.int .i64 b.cost] 3)
          have A67 := A66.alloc (.cells #[.int .i64 b.cost] 3)
          generalize (v66).heap.size = g67 at *
          generalize (v66).alloc (.cells #[.int .i64 b.cost] 3) = v67 at *
          refine hK.out _ _ A67 (fun hHeld => ?_)
          clear hK K
          (try simp only [Act.put, List.getElem_toArray, List.getElem_cons_zero, List.getElem_cons_succ, List.setIfInBounds_toArray, List.set_cons_zero, List.set_cons_succ])
          refine wpAnyH_ready (rs := [10]) (by kernel_rfl) (by simp) ?_
          refine (AllReadyH.cons rfl (fun K hK => ?_) AllReadyH.nil)
          simp only [List.getElem_toArray, List.getElem_cons_zero, List.getElem_cons_succ]
          go_simp
          with_reducible refine (HN4.out _ _ I67).mono ?_
          rintro e v68 ⟨rfl, k68⟩
          have J68_24 := J67_24.below k68
          have B68 := B67.trans (k68.mono B67.size)
          have A68 := A67.kept k68
          refine hK.out _ _ A68 (fun hHeld => ?_)
          clear hK K
          (try simp only [Act.put, List.getElem_toArray, List.getElem_cons_zero, List.getElem_cons_succ, List.setIfInBounds_toArray, List.set_cons_zero, List.set_cons_succ])
          refine wpAnyH_take (i := 11) (v := .string ⟨z2.toArray⟩) rfl (by kernel_rfl) (by kernel_rfl) (by kernel_rfl) (fun _ _ _ h => h) (Or.inl ⟨by rfl, fun w hSw => by go_simp⟩) (by assumption) ?_
          (try simp only [Act.put, List.getElem_toArray, List.getElem_cons_zero, List.getElem_cons_succ, List.setIfInBounds_toArray, List.set_cons_zero, List.set_cons_succ])
          refine wpAnyH_take (i := 13) (v := .string ⟨z3.toArray⟩) rfl (by kernel_rfl) (by kernel_rfl) (by kernel_rfl) (fun _ _ _ h => h) (Or.inl ⟨by rfl, fun w hSw => by go_simp⟩) (by assumption) ?_
          (try simp only [Act.put, List.getElem_toArray, List.getElem_cons_zero, List.getElem_cons_succ, List.setIfInBounds_toArray, List.set_cons_zero, List.set_cons_succ])
          refine wpAnyH_take (i := 15) (v := .string ⟨z4.toArray⟩) rfl (by kernel_rfl) (by kernel_rfl) (by kernel_rfl) (fun _ _ _ h => h) (Or.inl ⟨by rfl, fun w hSw => by go_simp⟩) (by assumption) ?_
          (try simp only [Act.put, List.getElem_toArray, List.getElem_cons_zero, List.getElem_cons_succ, List.setIfInBounds_toArray, List.set_cons_zero, List.set_cons_succ])
          refine wpAnyH_ready (rs := [25]) (by kernel_rfl) (by simp) ?_
          refine (AllReadyH.cons rfl (fun K hK => ?_) AllReadyH.nil)
          simp only [List.getElem_toArray, List.getElem_cons_zero, List.getElem_cons_succ]
          go_simp
          with_reducible refine (HN2.out _ _ J68_24).mono ?_
          rintro e v69 ⟨rfl, k69⟩
          have B69 := B68.trans (k69.mono B68.size)
          have A69 := A68.kept k69
          refine hK.out _ _ A69 (fun hHeld => ?_)
          clear hK K
          (try simp only [Act.put, List.getElem_toArray, List.getElem_cons_zero, List.getElem_cons_succ, List.setIfInBounds_toArray, List.set_cons_zero, List.set_cons_succ])
          refine wpAnyH_take (i := 26) (v := ?_) rfl (by kernel_rfl) (by kernel_rfl) (by kernel_rfl) (fun _ _ _ h => h) (Or.inl ⟨by rfl, ?_⟩) (by assumption) ?_
          rotate_left
          · (intro w hSw; (try dsimp only at hSw); go_simp; (try with_reducible rfl))
          (try simp only [Act.put, List.getElem_toArray, List.getElem_cons_zero, List.getElem_cons_succ, List.setIfInBounds_toArray, List.set_cons_zero, List.set_cons_succ])
          refine wpAnyH_take (i := 27) (v := ?_) rfl (by kernel_rfl) (by kernel_rfl) (by kernel_rfl) (fun _ _ _ h => h) (Or.inl ⟨by rfl, ?_⟩) (by assumption) ?_
          rotate_left
          · (intro w hSw; (try dsimp only at hSw); go_simp; (try with_reducible rfl))
          (try simp only [Act.put, List.getElem_toArray, List.getElem_cons_zero, List.getElem_cons_succ, List.setIfInBounds_toArray, List.set_cons_zero, List.set_cons_succ])
          refine wpAnyH_done (by kernel_rfl) ?_ _
          refine NoPanic.normal ?_
          go_wp2
          go_ret
          exact ⟨by rw [HBL.out]; rfl, B69⟩
        · simp only [List.getElem_toArray, List.getElem_cons_zero, List.getElem_cons_succ]
          go_simp
          have I70 := IRow.new1 (v65) b.cost 3
          have J70_24 : IRow ((v65).alloc (.cells #[.int .i64 b.cost] 3)) g64 [b.age, b.mx, b.hel, b.wai] := J65_24.below ((Below.refl _ _).alloc (Nat.le_refl _) (.cells #[.int .i64 b.cost] 3))
          have J70_3 : IRow ((v65).alloc (.cells #[.int .i64 b.cost] 3)) g65 [(byF b.f : Int)] := I65.below ((Below.refl _ _).alloc (Nat.le_refl _) (.cells #[.int .i64 b.cost] 3))
          have B70 := B65.alloc B65.size (.cells #[.int .i64 b.cost] 3)
          have A70 := A65.alloc (.cells #[.int .i64 b.cost] 3)
          generalize (v65).heap.size = g70 at *
          generalize (v65).alloc (.cells #[.int .i64 b.cost] 3) = v70 at *
          refine hK.out _ _ A70 (fun hHeld => ?_)
          clear hK K
          (try simp only [Act.put, List.getElem_toArray, List.getElem_cons_zero, List.getElem_cons_succ, List.setIfInBounds_toArray, List.set_cons_zero, List.set_cons_succ])
          refine wpAnyH_ready (rs := [4]) (by kernel_rfl) (by simp) ?_
          refine (AllReadyH.cons rfl (fun K hK => ?_) AllReadyH.nil)
          simp only [List.getElem_toArray, List.getElem_cons_zero, List.getElem_cons_succ]
          go_simp
          with_reducible refine (HN1.out _ _ J70_3).mono ?_
          rintro e v71 ⟨rfl, k71⟩
          have J71_24 := J70_24.below k71
          have J71_9 := I70.below k71
          have B71 := B70.trans (k71.mono B70.size)
          have A71 := A70.kept k71
          refine hK.out _ _ A71 (fun hHeld => ?_)
          clear hK K
          (try simp only [Act.put, List.getElem_toArray, List.getElem_cons_zero, List.getElem_cons_succ, List.setIfInBounds_toArray, List.set_cons_zero, List.set_cons_succ])
          refine wpAnyH_take (i := 6) (v := .string ⟨z1.toArray⟩) rfl (by kernel_rfl) (by kernel_rfl) (by kernel_rfl) (fun _ _ _ h => h) (Or.inl ⟨by rfl, fun w hSw => by go_simp⟩) (by assumption) ?_
          (try simp only [Act.put, List.getElem_toArray, List.getElem_cons_zero, List.getElem_cons_succ, List.setIfInBounds_toArray, List.set_cons_zero, List.set_cons_succ])
          refine wpAnyH_ready (rs := [10]) (by kernel_rfl) (by simp) ?_
          refine (AllReadyH.cons rfl (fun K hK => ?_) AllReadyH.nil)
          simp only [List.getElem_toArray, List.getElem_cons_zero, List.getElem_cons_succ]
          go_simp
          with_reducible refine (HN4.out _ _ J71_9).mono ?_
          rintro e v72 ⟨rfl, k72⟩
          have J72_24 := J71_24.below k72
          have B72 := B71.trans (k72.mono B71.size)
          have A72 := A71.kept k72
          refine hK.out _ _ A72 (fun hHeld => ?_)
          clear hK K
          (try simp only [Act.put, List.getElem_toArray, List.getElem_cons_zero, List.getElem_cons_succ, List.setIfInBounds_toArray, List.set_cons_zero, List.set_cons_succ])
          refine wpAnyH_take (i := 11) (v := .string ⟨z2.toArray⟩) rfl (by kernel_rfl) (by kernel_rfl) (by kernel_rfl) (fun _ _ _ h => h) (Or.inl ⟨by rfl, fun w hSw => by go_simp⟩) (by assumption) ?_
          (try simp only [Act.put, List.getElem_toArray, List.getElem_cons_zero, List.getElem_cons_succ, List.setIfInBounds_toArray, List.set_cons_zero, List.set_cons_succ])
          refine wpAnyH_take (i := 13) (v := .string ⟨z3.toArray⟩) rfl (by kernel_rfl) (by kernel_rfl) (by kernel_rfl) (fun _ _ _ h => h) (Or.inl ⟨by rfl, fun w hSw => by go_simp⟩) (by assumption) ?_
          (try simp only [Act.put, List.getElem_toArray, List.getElem_cons_zero, List.getElem_cons_succ, List.setIfInBounds_toArray, List.set_cons_zero, List.set_cons_succ])
          refine wpAnyH_take (i := 15) (v := .string ⟨z4.toArray⟩) rfl (by kernel_rfl) (by kernel_rfl) (by kernel_rfl) (fun _ _ _ h => h) (Or.inl ⟨by rfl, fun w hSw => by go_simp⟩) (by assumption) ?_
          (try simp only [Act.put, List.getElem_toArray, List.getElem_cons_zero, List.getElem_cons_succ, List.setIfInBounds_toArray, List.set_cons_zero, List.set_cons_succ])
          refine wpAnyH_ready (rs := [25]) (by kernel_rfl) (by simp) ?_
          refine (AllReadyH.cons rfl (fun K hK => ?_) AllReadyH.nil)
          simp only [List.getElem_toArray, List.getElem_cons_zero, List.getElem_cons_succ]
          go_simp
          with_reducible refine (HN2.out _ _ J72_24).mono ?_
          rintro e v73 ⟨rfl, k73⟩
          have B73 := B72.trans (k73.mono B72.size)
          have A73 := A72.kept k73
          refine hK.out _ _ A73 (fun hHeld => ?_)
          clear hK K
          (try simp only [Act.put, List.getElem_toArray, List.getElem_cons_zero, List.getElem_cons_succ, List.setIfInBounds_toArray, List.set_cons_zero, List.set_cons_succ])
          refine wpAnyH_take (i := 26) (v := ?_) rfl (by kernel_rfl) (by kernel_rfl) (by kernel_rfl) (fun _ _ _ h => h) (Or.inl ⟨by rfl, ?_⟩) (by assumption) ?_
          rotate_left
          · (intro w hSw; (try dsimp only at hSw); go_simp; (try with_reducible rfl))
          (try simp only [Act.put, List.getElem_toArray, List.getElem_cons_zero, List.getElem_cons_succ, List.setIfInBounds_toArray, List.set_cons_zero, List.set_cons_succ])
          refine wpAnyH_take (i := 27) (v := ?_) rfl (by kernel_rfl) (by kernel_rfl) (by kernel_rfl) (fun _ _ _ h => h) (Or.inl ⟨by rfl, ?_⟩) (by assumption) ?_
          rotate_left
          · (intro w hSw; (try dsimp only at hSw); go_simp; (try with_reducible rfl))
          (try simp only [Act.put, List.getElem_toArray, List.getElem_cons_zero, List.getElem_cons_succ, List.setIfInBounds_toArray, List.set_cons_zero, List.set_cons_succ])
          refine wpAnyH_done (by kernel_rfl) ?_ _
          refine NoPanic.normal ?_
          go_wp2
          go_ret
          exact ⟨by rw [HBL.out]; rfl, B73⟩
      · simp only [List.getElem_toArray, List.getElem_cons_zero, List.getElem_cons_succ]
        go_simp
        have I74 := IRow.new1 (v64) b.cost 3
        have J74_24 : IRow ((v64).alloc (.cells #[.int .i64 b.cost] 3)) g64 [b.age, b.mx, b.hel, b.wai] := I64.below ((Below.refl _ _).alloc (Nat.le_refl _) (.cells #[.int .i64 b.cost] 3))
        have B74 := B64.alloc B64.size (.cells #[.int .i64 b.cost] 3)
        have A74 := A64.alloc (.cells #[.int .i64 b.cost] 3)
        generalize (v64).heap.size = g74 at *
        generalize (v64).alloc (.cells #[.int .i64 b.cost] 3) = v74 at *
        refine hK.out _ _ A74 (fun hHeld => ?_)
        clear hK K
        (try simp only [Act.put, List.getElem_toArray, List.getElem_cons_zero, List.getElem_cons_succ, List.setIfInBounds_toArray, List.set_cons_zero, List.set_cons_succ])
        refine wpAnyH_ready (rs := [3]) (by kernel_rfl) (by simp) ?_
        refine (AllReadyH.cons rfl (fun K hK => ?_) AllReadyH.nil)
        simp only [List.getElem_toArray, List.getElem_cons_zero, List.getElem_cons_succ]
        go_simp
        have I75 := IRow.new1 (v74) (byF b.f : Int) 3
        have J75_24 : IRow ((v74).alloc (.cells #[.int .i64 (byF b.f : Int)] 3)) g64 [b.age, b.mx, b.hel, b.wai] := J74_24.below ((Below.refl _ _).alloc (Nat.le_refl _) (.cells #[.int .i64 (byF b.f : Int)] 3))
        have J75_9 : IRow ((v74).alloc (.cells #[.int .i64 (byF b.f : Int)] 3)) g74 [b.cost] := I74.below ((Below.refl _ _).alloc (Nat.le_refl _) (.cells #[.int .i64 (byF b.f : Int)] 3))
        have B75 := B74.alloc B74.size (.cells #[.int .i64 (byF b.f : Int)] 3)
        have A75 := A74.alloc (.cells #[.int .i64 (byF b.f : Int)] 3)
        generalize (v74).heap.size = g75 at *
        generalize (v74).alloc (.cells #[.int .i64 (byF b.f : Int)] 3) = v75 at *
        refine hK.out _ _ A75 (fun hHeld => ?_)
        clear hK K
        (try simp only [Act.put, List.getElem_toArray, List.getElem_cons_zero, List.getElem_cons_succ, List.setIfInBounds_toArray, List.set_cons_zero, List.set_cons_succ])
        refine wpAnyH_ready (rs := [4]) (by kernel_rfl) (by simp) ?_
        refine (AllReadyH.cons rfl (fun K hK => ?_) AllReadyH.nil)
        simp only [List.getElem_toArray, List.getElem_cons_zero, List.getElem_cons_succ]
        go_simp
        with_reducible refine (HN1.out _ _ I75).mono ?_
        rintro e v76 ⟨rfl, k76⟩
        have J76_24 := J75_24.below k76
        have J76_9 := J75_9.below k76
        have B76 := B75.trans (k76.mono B75.size)
        have A76 := A75.kept k76
        refine hK.out _ _ A76 (fun hHeld => ?_)
        clear hK K
        (try simp only [Act.put, List.getElem_toArray, List.getElem_cons_zero, List.getElem_cons_succ, List.setIfInBounds_toArray, List.set_cons_zero, List.set_cons_succ])
        refine wpAnyH_take (i := 6) (v := .string ⟨z1.toArray⟩) rfl (by kernel_rfl) (by kernel_rfl) (by kernel_rfl) (fun _ _ _ h => h) (Or.inl ⟨by rfl, fun w hSw => by go_simp⟩) (by assumption) ?_
        (try simp only [Act.put, List.getElem_toArray, List.getElem_cons_zero, List.getElem_cons_succ, List.setIfInBounds_toArray, List.set_cons_zero, List.set_cons_succ])
        refine wpAnyH_ready (rs := [10]) (by kernel_rfl) (by simp) ?_
        refine (AllReadyH.cons rfl (fun K hK => ?_) AllReadyH.nil)
        simp only [List.getElem_toArray, List.getElem_cons_zero, List.getElem_cons_succ]
        go_simp
        with_reducible refine (HN4.out _ _ J76_9).mono ?_
        rintro e v77 ⟨rfl, k77⟩
        have J77_24 := J76_24.below k77
        have B77 := B76.trans (k77.mono B76.size)
        have A77 := A76.kept k77
        refine hK.out _ _ A77 (fun hHeld => ?_)
        clear hK K
        (try simp only [Act.put, List.getElem_toArray, List.getElem_cons_zero, List.getElem_cons_succ, List.setIfInBounds_toArray, List.set_cons_zero, List.set_cons_succ])
        refine wpAnyH_take (i := 11) (v := .string ⟨z2.toArray⟩) rfl (by kernel_rfl) (by kernel_rfl) (by kernel_rfl) (fun _ _ _ h => h) (Or.inl ⟨by rfl, fun w hSw => by go_simp⟩) (by assumption) ?_
        (try simp only [Act.put, List.getElem_toArray, List.getElem_cons_zero, List.getElem_cons_succ, List.setIfInBounds_toArray, List.set_cons_zero, List.set_cons_succ])
        refine wpAnyH_take (i := 13) (v := .string ⟨z3.toArray⟩) rfl (by kernel_rfl) (by kernel_rfl) (by kernel_rfl) (fun _ _ _ h => h) (Or.inl ⟨by rfl, fun w hSw => by go_simp⟩) (by assumption) ?_
        (try simp only [Act.put, List.getElem_toArray, List.getElem_cons_zero, List.getElem_cons_succ, List.setIfInBounds_toArray, List.set_cons_zero, List.set_cons_succ])
        refine wpAnyH_take (i := 15) (v := .string ⟨z4.toArray⟩) rfl (by kernel_rfl) (by kernel_rfl) (by kernel_rfl) (fun _ _ _ h => h) (Or.inl ⟨by rfl, fun w hSw => by go_simp⟩) (by assumption) ?_
        (try simp only [Act.put, List.getElem_toArray, List.getElem_cons_zero, List.getElem_cons_succ, List.setIfInBounds_toArray, List.set_cons_zero, List.set_cons_succ])
        refine wpAnyH_ready (rs := [25]) (by kernel_rfl) (by simp) ?_
        refine (AllReadyH.cons rfl (fun K hK => ?_) AllReadyH.nil)
        simp only [List.getElem_toArray, List.getElem_cons_zero, List.getElem_cons_succ]
        go_simp
        with_reducible refine (HN2.out _ _ J77_24).mono ?_
        rintro e v78 ⟨rfl, k78⟩
        have B78 := B77.trans (k78.mono B77.size)
        have A78 := A77.kept k78
        refine hK.out _ _ A78 (fun hHeld => ?_)
        clear hK K
        (try simp only [Act.put, List.getElem_toArray, List.getElem_cons_zero, List.getElem_cons_succ, List.setIfInBounds_toArray, List.set_cons_zero, List.set_cons_succ])
        refine wpAnyH_take (i := 26) (v := ?_) rfl (by kernel_rfl) (by kernel_rfl) (by kernel_rfl) (fun _ _ _ h => h) (Or.inl ⟨by rfl, ?_⟩) (by assumption) ?_
        rotate_left
        · (intro w hSw; (try dsimp only at hSw); go_simp; (try with_reducible rfl))
        (try simp only [Act.put, List.getElem_toArray, List.getElem_cons_zero, List.getElem_cons_succ, List.setIfInBounds_toArray, List.set_cons_zero, List.set_cons_succ])
        refine wpAnyH_take (i := 27) (v := ?_) rfl (by kernel_rfl) (by kernel_rfl) (by kernel_rfl) (fun _ _ _ h => h) (Or.inl ⟨by rfl, ?_⟩) (by assumption) ?_
        rotate_left
        · (intro w hSw; (try dsimp only at hSw); go_simp; (try with_reducible rfl))
        (try simp only [Act.put, List.getElem_toArray, List.getElem_cons_zero, List.getElem_cons_succ, List.setIfInBounds_toArray, List.set_cons_zero, List.set_cons_succ])
        refine wpAnyH_done (by kernel_rfl) ?_ _
        refine NoPanic.normal ?_
        go_wp2
        go_ret
        exact ⟨by rw [HBL.out]; rfl, B78⟩
  · simp only [List.getElem_toArray, List.getElem_cons_zero, List.getElem_cons_succ]
    go_simp
    have I79 := IRow.new1 (wd) b.cost 3
    have B79 := D5.alloc D5.size (.cells #[.int .i64 b.cost] 3)
    have A79 := A5.alloc (.cells #[.int .i64 b.cost] 3)
    generalize (wd).heap.size = g79 at *
    generalize (wd).alloc (.cells #[.int .i64 b.cost] 3) = v79 at *
    refine hK.out _ _ A79 (fun hHeld => ?_)
    clear hK K
    (try simp only [Act.put, List.getElem_toArray, List.getElem_cons_zero, List.getElem_cons_succ, List.setIfInBounds_toArray, List.set_cons_zero, List.set_cons_succ])
    refine wpAnyH_ready (rs := [2, 24]) (by kernel_rfl) (by simp) ?_
    refine (AllReadyH.cons rfl (fun K hK => ?_) (AllReadyH.cons rfl (fun K hK => ?_) AllReadyH.nil))
    · simp only [List.getElem_toArray, List.getElem_cons_zero, List.getElem_cons_succ]
      go_simp
      with_reducible refine (HBy.out _).mono ?_
      rintro e v80 ⟨rfl, k80⟩
      have J80_9 := I79.below k80
      have B80 := B79.trans (k80.mono B79.size)
      have A80 := A79.kept k80
      refine hK.out _ _ A80 (fun hHeld => ?_)
      clear hK K
      (try simp only [Act.put, List.getElem_toArray, List.getElem_cons_zero, List.getElem_cons_succ, List.setIfInBounds_toArray, List.set_cons_zero, List.set_cons_succ])
      refine wpAnyH_ready (rs := [3, 24]) (by kernel_rfl) (by simp) ?_
      refine (AllReadyH.cons rfl (fun K hK => ?_) (AllReadyH.cons rfl (fun K hK => ?_) AllReadyH.nil))
      · simp only [List.getElem_toArray, List.getElem_cons_zero, List.getElem_cons_succ]
        go_simp
        have I81 := IRow.new1 (v80) (byF b.f : Int) 3
        have J81_9 : IRow ((v80).alloc (.cells #[.int .i64 (byF b.f : Int)] 3)) g79 [b.cost] := J80_9.below ((Below.refl _ _).alloc (Nat.le_refl _) (.cells #[.int .i64 (byF b.f : Int)] 3))
        have B81 := B80.alloc B80.size (.cells #[.int .i64 (byF b.f : Int)] 3)
        have A81 := A80.alloc (.cells #[.int .i64 (byF b.f : Int)] 3)
        generalize (v80).heap.size = g81 at *
        generalize (v80).alloc (.cells #[.int .i64 (byF b.f : Int)] 3) = v81 at *
        refine hK.out _ _ A81 (fun hHeld => ?_)
        clear hK K
        (try simp only [Act.put, List.getElem_toArray, List.getElem_cons_zero, List.getElem_cons_succ, List.setIfInBounds_toArray, List.set_cons_zero, List.set_cons_succ])
        refine wpAnyH_ready (rs := [4, 24]) (by kernel_rfl) (by simp) ?_
        refine (AllReadyH.cons rfl (fun K hK => ?_) (AllReadyH.cons rfl (fun K hK => ?_) AllReadyH.nil))
        · simp only [List.getElem_toArray, List.getElem_cons_zero, List.getElem_cons_succ]
          go_simp
          with_reducible refine (HN1.out _ _ I81).mono ?_
          rintro e v82 ⟨rfl, k82⟩
          have J82_9 := J81_9.below k82
          have B82 := B81.trans (k82.mono B81.size)
          have A82 := A81.kept k82
          refine hK.out _ _ A82 (fun hHeld => ?_)
          clear hK K
          (try simp only [Act.put, List.getElem_toArray, List.getElem_cons_zero, List.getElem_cons_succ, List.setIfInBounds_toArray, List.set_cons_zero, List.set_cons_succ])
          refine wpAnyH_take (i := 6) (v := .string ⟨z1.toArray⟩) rfl (by kernel_rfl) (by kernel_rfl) (by kernel_rfl) (fun _ _ _ h => h) (Or.inl ⟨by rfl, fun w hSw => by go_simp⟩) (by assumption) ?_
          (try simp only [Act.put, List.getElem_toArray, List.getElem_cons_zero, List.getElem_cons_succ, List.setIfInBounds_toArray, List.set_cons_zero, List.set_cons_succ])
          refine wpAnyH_ready (rs := [10, 24]) (by kernel_rfl) (by simp) ?_
          refine (AllReadyH.cons rfl (fun K hK => ?_) (AllReadyH.cons rfl (fun K hK => ?_) AllReadyH.nil))
          · simp only [List.getElem_toArray, List.getElem_cons_zero, List.getElem_cons_succ]
            go_simp
            with_reducible refine (HN4.out _ _ J82_9).mono ?_
            rintro e v83 ⟨rfl, k83⟩
            have B83 := B82.trans (k83.mono B82.size)
            have A83 := A82.kept k83
            refine hK.out _ _ A83 (fun hHeld => ?_)
            clear hK K
            (try simp only [Act.put, List.getElem_toArray, List.getElem_cons_zero, List.getElem_cons_succ, List.setIfInBounds_toArray, List.set_cons_zero, List.set_cons_succ])
            refine wpAnyH_take (i := 11) (v := .string ⟨z2.toArray⟩) rfl (by kernel_rfl) (by kernel_rfl) (by kernel_rfl) (fun _ _ _ h => h) (Or.inl ⟨by rfl, fun w hSw => by go_simp⟩) (by assumption) ?_
            (try simp only [Act.put, List.getElem_toArray, List.getElem_cons_zero, List.getElem_cons_succ, List.setIfInBounds_toArray, List.set_cons_zero, List.set_cons_succ])
            refine wpAnyH_take (i := 13) (v := .string ⟨z3.toArray⟩) rfl (by kernel_rfl) (by kernel_rfl) (by kernel_rfl) (fun _ _ _ h => h) (Or.inl ⟨by rfl, fun w hSw => by go_simp⟩) (by assumption) ?_
            (try simp only [Act.put, List.getElem_toArray, List.getElem_cons_zero, List.getElem_cons_succ, List.setIfInBounds_toArray, List.set_cons_zero, List.set_cons_succ])
            refine wpAnyH_take (i := 15) (v := .string ⟨z4.toArray⟩) rfl (by kernel_rfl) (by kernel_rfl) (by kernel_rfl) (fun _ _ _ h => h) (Or.inl ⟨by rfl, fun w hSw => by go_simp⟩) (by assumption) ?_
            (try simp only [Act.put, List.getElem_toArray, List.getElem_cons_zero, List.getElem_cons_succ, List.setIfInBounds_toArray, List.set_cons_zero, List.set_cons_succ])
            refine wpAnyH_ready (rs := [24]) (by kernel_rfl) (by simp) ?_
            refine (AllReadyH.cons rfl (fun K hK => ?_) AllReadyH.nil)
            simp only [List.getElem_toArray, List.getElem_cons_zero, List.getElem_cons_succ]
            go_simp
            have I84 := IRow.new4 (v83) b.age b.mx b.hel b.wai 3
            have B84 := B83.alloc B83.size (.cells #[.int .i64 b.age, .int .i64 b.mx, .int .i64 b.hel, .int .i64 b.wai] 3)
            have A84 := A83.alloc (.cells #[.int .i64 b.age, .int .i64 b.mx, .int .i64 b.hel, .int .i64 b.wai] 3)
            generalize (v83).heap.size = g84 at *
            generalize (v83).alloc (.cells #[.int .i64 b.age, .int .i64 b.mx, .int .i64 b.hel, .int .i64 b.wai] 3) = v84 at *
            refine hK.out _ _ A84 (fun hHeld => ?_)
            clear hK K
            (try simp only [Act.put, List.getElem_toArray, List.getElem_cons_zero, List.getElem_cons_succ, List.setIfInBounds_toArray, List.set_cons_zero, List.set_cons_succ])
            refine wpAnyH_ready (rs := [25]) (by kernel_rfl) (by simp) ?_
            refine (AllReadyH.cons rfl (fun K hK => ?_) AllReadyH.nil)
            simp only [List.getElem_toArray, List.getElem_cons_zero, List.getElem_cons_succ]
            go_simp
            with_reducible refine (HN2.out _ _ I84).mono ?_
            rintro e v85 ⟨rfl, k85⟩
            have B85 := B84.trans (k85.mono B84.size)
            have A85 := A84.kept k85
            refine hK.out _ _ A85 (fun hHeld => ?_)
            clear hK K
            (try simp only [Act.put, List.getElem_toArray, List.getElem_cons_zero, List.getElem_cons_succ, List.setIfInBounds_toArray, List.set_cons_zero, List.set_cons_succ])
            refine wpAnyH_take (i := 26) (v := ?_) rfl (by kernel_rfl) (by kernel_rfl) (by kernel_rfl) (fun _ _ _ h => h) (Or.inl ⟨by rfl, ?_⟩) (by assumption) ?_
            rotate_left
            · (intro w hSw; (try dsimp only at hSw); go_simp; (try with_reducible rfl))
            (try simp only [Act.put, List.getElem_toArray, List.getElem_cons_zero, List.getElem_cons_succ, List.setIfInBounds_toArray, List.set_cons_zero, List.set_cons_succ])
            refine wpAnyH_take (i := 27) (v := ?_) rfl (by kernel_rfl) (by kernel_rfl) (by kernel_rfl) (fun _ _ _ h => h) (Or.inl ⟨by rfl, ?_⟩) (by assumption) ?_
            rotate_left
            · (intro w hSw; (try dsimp only at hSw); go_simp; (try with_reducible rfl))
            (try simp only [Act.put, List.getElem_toArray, List.getElem_cons_zero, List.getElem_cons_succ, List.setIfInBounds_toArray, List.set_cons_zero, List.set_cons_succ])
            refine wpAnyH_done (by kernel_rfl) ?_ _
            refine NoPanic.normal ?_
            go_wp2
            go_ret
            exact ⟨by rw [HBL.out]; rfl, B85⟩
          · simp only [List.getElem_toArray, List.getElem_cons_zero, List.getElem_cons_succ]
            go_simp
            have I86 := IRow.new4 (v82) b.age b.mx b.hel b.wai 3
            have J86_9 : IRow ((v82).alloc (.cells #[.int .i64 b.age, .int .i64 b.mx, .int .i64 b.hel, .int .i64 b.wai] 3)) g79 [b.cost] := J82_9.below ((Below.refl _ _).alloc (Nat.le_refl _) (.cells #[.int .i64 b.age, .int .i64 b.mx, .int .i64 b.hel, .int .i64 b.wai] 3))
            have B86 := B82.alloc B82.size (.cells #[.int .i64 b.age, .int .i64 b.mx, .int .i64 b.hel, .int .i64 b.wai] 3)
            have A86 := A82.alloc (.cells #[.int .i64 b.age, .int .i64 b.mx, .int .i64 b.hel, .int .i64 b.wai] 3)
            generalize (v82).heap.size = g86 at *
            generalize (v82).alloc (.cells #[.int .i64 b.age, .int .i64 b.mx, .int .i64 b.hel, .int .i64 b.wai] 3) = v86 at *
            refine hK.out _ _ A86 (fun hHeld => ?_)
            clear hK K
            (try simp only [Act.put, List.getElem_toArray, List.getElem_cons_zero, List.getElem_cons_succ, List.setIfInBounds_toArray, List.set_cons_zero, List.set_cons_succ])
            refine wpAnyH_ready (rs := [10]) (by kernel_rfl) (by simp) ?_
            refine (AllReadyH.cons rfl (fun K hK => ?_) AllReadyH.nil)
            simp only [List.getElem_toArray, List.getElem_cons_zero, List.getElem_cons_succ]
            go_simp
            with_reducible refine (HN4.out _ _ J86_9).mono ?_
            rintro e v87 ⟨rfl, k87⟩
            have J87_24 := I86.below k87
            have B87 := B86.trans (k87.mono B86.size)
            have A87 := A86.kept k87
            refine hK.out _ _ A87 (fun hHeld => ?_)
            clear hK K
            (try simp only [Act.put, List.getElem_toArray, List.getElem_cons_zero, List.getElem_cons_succ, List.setIfInBounds_toArray, List.set_cons_zero, List.set_cons_succ])
            refine wpAnyH_take (i := 11) (v := .string ⟨z2.toArray⟩) rfl (by kernel_rfl) (by kernel_rfl) (by kernel_rfl) (fun _ _ _ h => h) (Or.inl ⟨by rfl, fun w hSw => by go_simp⟩) (by assumption) ?_
            (try simp only [Act.put, List.getElem_toArray, List.getElem_cons_zero, List.getElem_cons_succ, List.setIfInBounds_toArray, List.set_cons_zero, List.set_cons_succ])
            refine wpAnyH_take (i := 13) (v := .string ⟨z3.toArray⟩) rfl (by kernel_rfl) (by kernel_rfl) (by kernel_rfl) (fun _ _ _ h => h) (Or.inl ⟨by rfl, fun w hSw => by go_simp⟩) (by assumption) ?_
            (try simp only [Act.put, List.getElem_toArray, List.getElem_cons_zero, List.getElem_cons_succ, List.setIfInBounds_toArray, List.set_cons_zero, List.set_cons_succ])
            refine wpAnyH_take (i := 15) (v := .string ⟨z4.toArray⟩) rfl (by kernel_rfl) (by kernel_rfl) (by kernel_rfl) (fun _ _ _ h => h) (Or.inl ⟨by rfl, fun w hSw => by go_simp⟩) (by assumption) ?_
            (try simp only [Act.put, List.getElem_toArray, List.getElem_cons_zero, List.getElem_cons_succ, List.setIfInBounds_toArray, List.set_cons_zero, List.set_cons_succ])
            refine wpAnyH_ready (rs := [25]) (by kernel_rfl) (by simp) ?_
            refine (AllReadyH.cons rfl (fun K hK => ?_) AllReadyH.nil)
            simp only [List.getElem_toArray, List.getElem_cons_zero, List.getElem_cons_succ]
            go_simp
            with_reducible refine (HN2.out _ _ J87_24).mono ?_
            rintro e v88 ⟨rfl, k88⟩
            have B88 := B87.trans (k88.mono B87.size)
            have A88 := A87.kept k88
            refine hK.out _ _ A88 (fun hHeld => ?_)
            clear hK K
            (try simp only [Act.put, List.getElem_toArray, List.getElem_cons_zero, List.getElem_cons_succ, List.setIfInBounds_toArray, List.set_cons_zero, List.set_cons_succ])
            refine wpAnyH_take (i := 26) (v := ?_) rfl (by kernel_rfl) (by kernel_rfl) (by kernel_rfl) (fun _ _ _ h => h) (Or.inl ⟨by rfl, ?_⟩) (by assumption) ?_
            rotate_left
            · (intro w hSw; (try dsimp only at hSw); go_simp; (try with_reducible rfl))
            (try simp only [Act.put, List.getElem_toArray, List.getElem_cons_zero, List.getElem_cons_succ, List.setIfInBounds_toArray, List.set_cons_zero, List.set_cons_succ])
            refine wpAnyH_take (i := 27) (v := ?_) rfl (by kernel_rfl) (by kernel_rfl) (by kernel_rfl) (fun _ _ _ h => h) (Or.inl ⟨by rfl, ?_⟩) (by assumption) ?_
            rotate_left
            · (intro w hSw; (try dsimp only at hSw); go_simp; (try with_reducible rfl))
            (try simp only [Act.put, List.getElem_toArray, List.getElem_cons_zero, List.getElem_cons_succ, List.setIfInBounds_toArray, List.set_cons_zero, List.set_cons_succ])
            refine wpAnyH_done (by kernel_rfl) ?_ _
            refine NoPanic.normal ?_
            go_wp2
            go_ret
            exact ⟨by rw [HBL.out]; rfl, B88⟩
        · simp only [List.getElem_toArray, List.getElem_cons_zero, List.getElem_cons_succ]
          go_simp
          have I89 := IRow.new4 (v81) b.age b.mx b.hel b.wai 3
          have J89_9 : IRow ((v81).alloc (.cells #[.int .i64 b.age, .int .i64 b.mx, .int .i64 b.hel, .int .i64 b.wai] 3)) g79 [b.cost] := J81_9.below ((Below.refl _ _).alloc (Nat.le_refl _) (.cells #[.int .i64 b.age, .int .i64 b.mx, .int .i64 b.hel, .int .i64 b.wai] 3))
          have J89_3 : IRow ((v81).alloc (.cells #[.int .i64 b.age, .int .i64 b.mx, .int .i64 b.hel, .int .i64 b.wai] 3)) g81 [(byF b.f : Int)] := I81.below ((Below.refl _ _).alloc (Nat.le_refl _) (.cells #[.int .i64 b.age, .int .i64 b.mx, .int .i64 b.hel, .int .i64 b.wai] 3))
          have B89 := B81.alloc B81.size (.cells #[.int .i64 b.age, .int .i64 b.mx, .int .i64 b.hel, .int .i64 b.wai] 3)
          have A89 := A81.alloc (.cells #[.int .i64 b.age, .int .i64 b.mx, .int .i64 b.hel, .int .i64 b.wai] 3)
          generalize (v81).heap.size = g89 at *
          generalize (v81).alloc (.cells #[.int .i64 b.age, .int .i64 b.mx, .int .i64 b.hel, .int .i64 b.wai] 3) = v89 at *
          refine hK.out _ _ A89 (fun hHeld => ?_)
          clear hK K
          (try simp only [Act.put, List.getElem_toArray, List.getElem_cons_zero, List.getElem_cons_succ, List.setIfInBounds_toArray, List.set_cons_zero, List.set_cons_succ])
          refine wpAnyH_ready (rs := [4]) (by kernel_rfl) (by simp) ?_
          refine (AllReadyH.cons rfl (fun K hK => ?_) AllReadyH.nil)
          simp only [List.getElem_toArray, List.getElem_cons_zero, List.getElem_cons_succ]
          go_simp
          with_reducible refine (HN1.out _ _ J89_3).mono ?_
          rintro e v90 ⟨rfl, k90⟩
          have J90_9 := J89_9.below k90
          have J90_24 := I89.below k90
          have B90 := B89.trans (k90.mono B89.size)
          have A90 := A89.kept k90
          refine hK.out _ _ A90 (fun hHeld => ?_)
          clear hK K
          (try simp only [Act.put, List.getElem_toArray, List.getElem_cons_zero, List.getElem_cons_succ, List.setIfInBounds_toArray, List.set_cons_zero, List.set_cons_succ])
          refine wpAnyH_take (i := 6) (v := .string ⟨z1.toArray⟩) rfl (by kernel_rfl) (by kernel_rfl) (by kernel_rfl) (fun _ _ _ h => h) (Or.inl ⟨by rfl, fun w hSw => by go_simp⟩) (by assumption) ?_
          (try simp only [Act.put, List.getElem_toArray, List.getElem_cons_zero, List.getElem_cons_succ, List.setIfInBounds_toArray, List.set_cons_zero, List.set_cons_succ])
          refine wpAnyH_ready (rs := [10]) (by kernel_rfl) (by simp) ?_
          refine (AllReadyH.cons rfl (fun K hK => ?_) AllReadyH.nil)
          simp only [List.getElem_toArray, List.getElem_cons_zero, List.getElem_cons_succ]
          go_simp
          with_reducible refine (HN4.out _ _ J90_9).mono ?_
          rintro e v91 ⟨rfl, k91⟩
          have J91_24 := J90_24.below k91
          have B91 := B90.trans (k91.mono B90.size)
          have A91 := A90.kept k91
          refine hK.out _ _ A91 (fun hHeld => ?_)
          clear hK K
          (try simp only [Act.put, List.getElem_toArray, List.getElem_cons_zero, List.getElem_cons_succ, List.setIfInBounds_toArray, List.set_cons_zero, List.set_cons_succ])
          refine wpAnyH_take (i := 11) (v := .string ⟨z2.toArray⟩) rfl (by kernel_rfl) (by kernel_rfl) (by kernel_rfl) (fun _ _ _ h => h) (Or.inl ⟨by rfl, fun w hSw => by go_simp⟩) (by assumption) ?_
          (try simp only [Act.put, List.getElem_toArray, List.getElem_cons_zero, List.getElem_cons_succ, List.setIfInBounds_toArray, List.set_cons_zero, List.set_cons_succ])
          refine wpAnyH_take (i := 13) (v := .string ⟨z3.toArray⟩) rfl (by kernel_rfl) (by kernel_rfl) (by kernel_rfl) (fun _ _ _ h => h) (Or.inl ⟨by rfl, fun w hSw => by go_simp⟩) (by assumption) ?_
          (try simp only [Act.put, List.getElem_toArray, List.getElem_cons_zero, List.getElem_cons_succ, List.setIfInBounds_toArray, List.set_cons_zero, List.set_cons_succ])
          refine wpAnyH_take (i := 15) (v := .string ⟨z4.toArray⟩) rfl (by kernel_rfl) (by kernel_rfl) (by kernel_rfl) (fun _ _ _ h => h) (Or.inl ⟨by rfl, fun w hSw => by go_simp⟩) (by assumption) ?_
          (try simp only [Act.put, List.getElem_toArray, List.getElem_cons_zero, List.getElem_cons_succ, List.setIfInBounds_toArray, List.set_cons_zero, List.set_cons_succ])
          refine wpAnyH_ready (rs := [25]) (by kernel_rfl) (by simp) ?_
          refine (AllReadyH.cons rfl (fun K hK => ?_) AllReadyH.nil)
          simp only [List.getElem_toArray, List.getElem_cons_zero, List.getElem_cons_succ]
          go_simp
          with_reducible refine (HN2.out _ _ J91_24).mono ?_
          rintro e v92 ⟨rfl, k92⟩
          have B92 := B91.trans (k92.mono B91.size)
          have A92 := A91.kept k92
          refine hK.out _ _ A92 (fun hHeld => ?_)
          clear hK K
          (try simp only [Act.put, List.getElem_toArray, List.getElem_cons_zero, List.getElem_cons_succ, List.setIfInBounds_toArray, List.set_cons_zero, List.set_cons_succ])
          refine wpAnyH_take (i := 26) (v := ?_) rfl (by kernel_rfl) (by kernel_rfl) (by kernel_rfl) (fun _ _ _ h => h) (Or.inl ⟨by rfl, ?_⟩) (by assumption) ?_
          rotate_left
          · (intro w hSw; (try dsimp only at hSw); go_simp; (try with_reducible rfl))
          (try simp only [Act.put, List.getElem_toArray, List.getElem_cons_zero, List.getElem_cons_succ, List.setIfInBounds_toArray, List.set_cons_zero, List.set_cons_succ])
          refine wpAnyH_take (i := 27) (v := ?_) rfl (by kernel_rfl) (by kernel_rfl) (by kernel_rfl) (fun _ _ _ h => h) (Or.inl ⟨by rfl, ?_⟩) (by assumption) ?_
          rotate_left
          · (intro w hSw; (try dsimp only at hSw); go_simp; (try with_reducible rfl))
          (try simp only [Act.put, List.getElem_toArray, List.getElem_cons_zero, List.getElem_cons_succ, List.setIfInBounds_toArray, List.set_cons_zero, List.set_cons_succ])
          refine wpAnyH_done (by kernel_rfl) ?_ _
          refine NoPanic.normal ?_
          go_wp2
          go_ret
          exact ⟨by rw [HBL.out]; rfl, B92⟩
      · simp only [List.getElem_toArray, List.getElem_cons_zero, List.getElem_cons_succ]
        go_simp
        have I93 := IRow.new4 (v80) b.age b.mx b.hel b.wai 3
        have J93_9 : IRow ((v80).alloc (.cells #[.int .i64 b.age, .int .i64 b.mx, .int .i64 b.hel, .int .i64 b.wai] 3)) g79 [b.cost] := J80_9.below ((Below.refl _ _).alloc (Nat.le_refl _) (.cells #[.int .i64 b.age, .int .i64 b.mx, .int .i64 b.hel, .int .i64 b.wai] 3))
        have B93 := B80.alloc B80.size (.cells #[.int .i64 b.age, .int .i64 b.mx, .int .i64 b.hel, .int .i64 b.wai] 3)
        have A93 := A80.alloc (.cells #[.int .i64 b.age, .int .i64 b.mx, .int .i64 b.hel, .int .i64 b.wai] 3)
        generalize (v80).heap.size = g93 at *
        generalize (v80).alloc (.cells #[.int .i64 b.age, .int .i64 b.mx, .int .i64 b.hel, .int .i64 b.wai] 3) = v93 at *
        refine hK.out _ _ A93 (fun hHeld => ?_)
        clear hK K
        (try simp only [Act.put, List.getElem_toArray, List.getElem_cons_zero, List.getElem_cons_succ, List.setIfInBounds_toArray, List.set_cons_zero, List.set_cons_succ])
        refine wpAnyH_ready (rs := [3]) (by kernel_rfl) (by simp) ?_
        refine (AllReadyH.cons rfl (fun K hK => ?_) AllReadyH.nil)
        simp only [List.getElem_toArray, List.getElem_cons_zero, List.getElem_cons_succ]
        go_simp
        have I94 := IRow.new1 (v93) (byF b.f : Int) 3
        have J94_9 : IRow ((v93).alloc (.cells #[.int .i64 (byF b.f : Int)] 3)) g79 [b.cost] := J93_9.below ((Below.refl _ _).alloc (Nat.le_refl _) (.cells #[.int .i64 (byF b.f : Int)] 3))
        have J94_24 : IRow ((v93).alloc (.cells #[.int .i64 (byF b.f : Int)] 3)) g93 [b.age, b.mx, b.hel, b.wai] := I93.below ((Below.refl _ _).alloc (Nat.le_refl _) (.cells #[.int .i64 (byF b.f : Int)] 3))
        have B94 := B93.alloc B93.size (.cells #[.int .i64 (byF b.f : Int)] 3)
        have A94 := A93.alloc (.cells #[.int .i64 (byF b.f : Int)] 3)
        generalize (v93).heap.size = g94 at *
        generalize (v93).alloc (.cells #[.int .i64 (byF b.f : Int)] 3) = v94 at *
        refine hK.out _ _ A94 (fun hHeld => ?_)
        clear hK K
        (try simp only [Act.put, List.getElem_toArray, List.getElem_cons_zero, List.getElem_cons_succ, List.setIfInBounds_toArray, List.set_cons_zero, List.set_cons_succ])
        refine wpAnyH_ready (rs := [4]) (by kernel_rfl) (by simp) ?_
        refine (AllReadyH.cons rfl (fun K hK => ?_) AllReadyH.nil)
        simp only [List.getElem_toArray, List.getElem_cons_zero, List.getElem_cons_succ]
        go_simp
        with_reducible refine (HN1.out _ _ I94).mono ?_
        rintro e v95 ⟨rfl, k95⟩
        have J95_9 := J94_9.below k95
        have J95_24 := J94_24.below k95
        have B95 := B94.trans (k95.mono B94.size)
        have A95 := A94.kept k95
        refine hK.out _ _ A95 (fun hHeld => ?_)
        clear hK K
        (try simp only [Act.put, List.getElem_toArray, List.getElem_cons_zero, List.getElem_cons_succ, List.setIfInBounds_toArray, List.set_cons_zero, List.set_cons_succ])
        refine wpAnyH_take (i := 6) (v := .string ⟨z1.toArray⟩) rfl (by kernel_rfl) (by kernel_rfl) (by kernel_rfl) (fun _ _ _ h => h) (Or.inl ⟨by rfl, fun w hSw => by go_simp⟩) (by assumption) ?_
        (try simp only [Act.put, List.getElem_toArray, List.getElem_cons_zero, List.getElem_cons_succ, List.setIfInBounds_toArray, List.set_cons_zero, List.set_cons_succ])
        refine wpAnyH_ready (rs := [10]) (by kernel_rfl) (by simp) ?_
        refine (AllReadyH.cons rfl (fun K hK => ?_) AllReadyH.nil)
        simp only [List.getElem_toArray, List.getElem_cons_zero, List.getElem_cons_succ]
        go_simp
        with_reducible refine (HN4.out _ _ J95_9).mono ?_
        rintro e v96 ⟨rfl, k96⟩
        have J96_24 := J95_24.below k96
        have B96 := B95.trans (k96.mono B95.size)
        have A96 := A95.kept k96
        refine hK.out _ _ A96 (fun hHeld => ?_)
        clear hK K
        (try simp only [Act.put, List.getElem_toArray, List.getElem_cons_zero, List.getElem_cons_succ, List.setIfInBounds_toArray, List.set_cons_zero, List.set_cons_succ])
        refine wpAnyH_take (i := 11) (v := .string ⟨z2.toArray⟩) rfl (by kernel_rfl) (by kernel_rfl) (by kernel_rfl) (fun _ _ _ h => h) (Or.inl ⟨by rfl, fun w hSw => by go_simp⟩) (by assumption) ?_
        (try simp only [Act.put, List.getElem_toArray, List.getElem_cons_zero, List.getElem_cons_succ, List.setIfInBounds_toArray, List.set_cons_zero, List.set_cons_succ])
        refine wpAnyH_take (i := 13) (v := .string ⟨z3.toArray⟩) rfl (by kernel_rfl) (by kernel_rfl) (by kernel_rfl) (fun _ _ _ h => h) (Or.inl ⟨by rfl, fun w hSw => by go_simp⟩) (by assumption) ?_
        (try simp only [Act.put, List.getElem_toArray, List.getElem_cons_zero, List.getElem_cons_succ, List.setIfInBounds_toArray, List.set_cons_zero, List.set_cons_succ])
        refine wpAnyH_take (i := 15) (v := .string ⟨z4.toArray⟩) rfl (by kernel_rfl) (by kernel_rfl) (by kernel_rfl) (fun _ _ _ h => h) (Or.inl ⟨by rfl, fun w hSw => by go_simp⟩) (by assumption) ?_
        (try simp only [Act.put, List.getElem_toArray, List.getElem_cons_zero, List.getElem_cons_succ, List.setIfInBounds_toArray, List.set_cons_zero, List.set_cons_succ])
        refine wpAnyH_ready (rs := [25]) (by kernel_rfl) (by simp) ?_
        refine (AllReadyH.cons rfl (fun K hK => ?_) AllReadyH.nil)
        simp only [List.getElem_toArray, List.getElem_cons_zero, List.getElem_cons_succ]
        go_simp
        with_reducible refine (HN2.out _ _ J96_24).mono ?_
        rintro e v97 ⟨rfl, k97⟩
        have B97 := B96.trans (k97.mono B96.size)
        have A97 := A96.kept k97
        refine hK.out _ _ A97 (fun hHeld => ?_)
        clear hK K
        (try simp only [Act.put, List.getElem_toArray, List.getElem_cons_zero, List.getElem_cons_succ, List.setIfInBounds_toArray, List.set_cons_zero, List.set_cons_succ])
        refine wpAnyH_take (i := 26) (v := ?_) rfl (by kernel_rfl) (by kernel_rfl) (by kernel_rfl) (fun _ _ _ h => h) (Or.inl ⟨by rfl, ?_⟩) (by assumption) ?_
        rotate_left
        · (intro w hSw; (try dsimp only at hSw); go_simp; (try with_reducible rfl))
        (try simp only [Act.put, List.getElem_toArray, List.getElem_cons_zero, List.getElem_cons_succ, List.setIfInBounds_toArray, List.set_cons_zero, List.set_cons_succ])
        refine wpAnyH_take (i := 27) (v := ?_) rfl (by kernel_rfl) (by kernel_rfl) (by kernel_rfl) (fun _ _ _ h => h) (Or.inl ⟨by rfl, ?_⟩) (by assumption) ?_
        rotate_left
        · (intro w hSw; (try dsimp only at hSw); go_simp; (try with_reducible rfl))
        (try simp only [Act.put, List.getElem_toArray, List.getElem_cons_zero, List.getElem_cons_succ, List.setIfInBounds_toArray, List.set_cons_zero, List.set_cons_succ])
        refine wpAnyH_done (by kernel_rfl) ?_ _
        refine NoPanic.normal ?_
        go_wp2
        go_ret
        exact ⟨by rw [HBL.out]; rfl, B97⟩
    · simp only [List.getElem_toArray, List.getElem_cons_zero, List.getElem_cons_succ]
      go_simp
      have I98 := IRow.new4 (v79) b.age b.mx b.hel b.wai 3
      have J98_9 : IRow ((v79).alloc (.cells #[.int .i64 b.age, .int .i64 b.mx, .int .i64 b.hel, .int .i64 b.wai] 3)) g79 [b.cost] := I79.below ((Below.refl _ _).alloc (Nat.le_refl _) (.cells #[.int .i64 b.age, .int .i64 b.mx, .int .i64 b.hel, .int .i64 b.wai] 3))
      have B98 := B79.alloc B79.size (.cells #[.int .i64 b.age, .int .i64 b.mx, .int .i64 b.hel, .int .i64 b.wai] 3)
      have A98 := A79.alloc (.cells #[.int .i64 b.age, .int .i64 b.mx, .int .i64 b.hel, .int .i64 b.wai] 3)
      generalize (v79).heap.size = g98 at *
      generalize (v79).alloc (.cells #[.int .i64 b.age, .int .i64 b.mx, .int .i64 b.hel, .int .i64 b.wai] 3) = v98 at *
      refine hK.out _ _ A98 (fun hHeld => ?_)
      clear hK K
      (try simp only [Act.put, List.getElem_toArray, List.getElem_cons_zero, List.getElem_cons_succ, List.setIfInBounds_toArray, List.set_cons_zero, List.set_cons_succ])
      refine wpAnyH_ready (rs := [2]) (by kernel_rfl) (by simp) ?_
      refine (AllReadyH.cons rfl (fun K hK => ?_) AllReadyH.nil)
      simp only [List.getElem_toArray, List.getElem_cons_zero, List.getElem_cons_succ]
      go_simp
      with_reducible refine (HBy.out _).mono ?_
      rintro e v99 ⟨rfl, k99⟩
      have J99_9 := J98_9.below k99
      have J99_24 := I98.below k99
      have B99 := B98.trans (k99.mono B98.size)
      have A99 := A98.kept k99
      refine hK.out _ _ A99 (fun hHeld => ?_)
      clear hK K
      (try simp only [Act.put, List.getElem_toArray, List.getElem_cons_zero, List.getElem_cons_succ, List.setIfInBounds_toArray, List.set_cons_zero, List.set_cons_succ])
      refine wpAnyH_ready (rs := [3]) (by kernel_rfl) (by simp) ?_
      refine (AllReadyH.cons rfl (fun K hK => ?_) AllReadyH.nil)
      simp only [List.getElem_toArray, List.getElem_cons_zero, List.getElem_cons_succ]
      go_simp
      have I100 := IRow.new1 (v99) (byF b.f : Int) 3
      have J100_9 : IRow ((v99).alloc (.cells #[.int .i64 (byF b.f : Int)] 3)) g79 [b.cost] := J99_9.below ((Below.refl _ _).alloc (Nat.le_refl _) (.cells #[.int .i64 (byF b.f : Int)] 3))
      have J100_24 : IRow ((v99).alloc (.cells #[.int .i64 (byF b.f : Int)] 3)) g98 [b.age, b.mx, b.hel, b.wai] := J99_24.below ((Below.refl _ _).alloc (Nat.le_refl _) (.cells #[.int .i64 (byF b.f : Int)] 3))
      have B100 := B99.alloc B99.size (.cells #[.int .i64 (byF b.f : Int)] 3)
      have A100 := A99.alloc (.cells #[.int .i64 (byF b.f : Int)] 3)
      generalize (v99).heap.size = g100 at *
      generalize (v99).alloc (.cells #[.int .i64 (byF b.f : Int)] 3) = v100 at *
      refine hK.out _ _ A100 (fun hHeld => ?_)
      clear hK K
      (try simp only [Act.put, List.getElem_toArray, List.getElem_cons_zero, List.getElem_cons_succ, List.setIfInBounds_toArray, List.set_cons_zero, List.set_cons_succ])
      refine wpAnyH_ready (rs := [4]) (by kernel_rfl) (by simp) ?_
      refine (AllReadyH.cons rfl (fun K hK => ?_) AllReadyH.nil)
      simp only [List.getElem_toArray, List.getElem_cons_zero, List.getElem_cons_succ]
      go_simp
      with_reducible refine (HN1.out _ _ I100).mono ?_
      rintro e v101 ⟨rfl, k101⟩
      have J101_9 := J100_9.below k101
      have J101_24 := J100_24.below k101
      have B101 := B100.trans (k101.mono B100.size)
      have A101 := A100.kept k101
      refine hK.out _ _ A101 (fun hHeld => ?_)
      clear hK K
      (try simp only [Act.put, List.getElem_toArray, List.getElem_cons_zero, List.getElem_cons_succ, List.setIfInBounds_toArray, List.set_cons_zero, List.set_cons_succ])
      refine wpAnyH_take (i := 6) (v := .string ⟨z1.toArray⟩) rfl (by kernel_rfl) (by kernel_rfl) (by kernel_rfl) (fun _ _ _ h => h) (Or.inl ⟨by rfl, fun w hSw => by go_simp⟩) (by assumption) ?_
      (try simp only [Act.put, List.getElem_toArray, List.getElem_cons_zero, List.getElem_cons_succ, List.setIfInBounds_toArray, List.set_cons_zero, List.set_cons_succ])
      refine wpAnyH_ready (rs := [10]) (by kernel_rfl) (by simp) ?_
      refine (AllReadyH.cons rfl (fun K hK => ?_) AllReadyH.nil)
      simp only [List.getElem_toArray, List.getElem_cons_zero, List.getElem_cons_succ]
      go_simp
      with_reducible refine (HN4.out _ _ J101_9).mono ?_
      rintro e v102 ⟨rfl, k102⟩
      have J102_24 := J101_24.below k102
      have B102 := B101.trans (k102.mono B101.size)
      have A102 := A101.kept k102
      refine hK.out _ _ A102 (fun hHeld => ?_)
      clear hK K
      (try simp only [Act.put, List.getElem_toArray, List.getElem_cons_zero, List.getElem_cons_succ, List.setIfInBounds_toArray, List.set_cons_zero, List.set_cons_succ])
      refine wpAnyH_take (i := 11) (v := .string ⟨z2.toArray⟩) rfl (by kernel_rfl) (by kernel_rfl) (by kernel_rfl) (fun _ _ _ h => h) (Or.inl ⟨by rfl, fun w hSw => by go_simp⟩) (by assumption) ?_
      (try simp only [Act.put, List.getElem_toArray, List.getElem_cons_zero, List.getElem_cons_succ, List.setIfInBounds_toArray, List.set_cons_zero, List.set_cons_succ])
      refine wpAnyH_take (i := 13) (v := .string ⟨z3.toArray⟩) rfl (by kernel_rfl) (by kernel_rfl) (by kernel_rfl) (fun _ _ _ h => h) (Or.inl ⟨by rfl, fun w hSw => by go_simp⟩) (by assumption) ?_
      (try simp only [Act.put, List.getElem_toArray, List.getElem_cons_zero, List.getElem_cons_succ, List.setIfInBounds_toArray, List.set_cons_zero, List.set_cons_succ])
      refine wpAnyH_take (i := 15) (v := .string ⟨z4.toArray⟩) rfl (by kernel_rfl) (by kernel_rfl) (by kernel_rfl) (fun _ _ _ h => h) (Or.inl ⟨by rfl, fun w hSw => by go_simp⟩) (by assumption) ?_
      (try simp only [Act.put, List.getElem_toArray, List.getElem_cons_zero, List.getElem_cons_succ, List.setIfInBounds_toArray, List.set_cons_zero, List.set_cons_succ])
      refine wpAnyH_ready (rs := [25]) (by kernel_rfl) (by simp) ?_
      refine (AllReadyH.cons rfl (fun K hK => ?_) AllReadyH.nil)
      simp only [List.getElem_toArray, List.getElem_cons_zero, List.getElem_cons_succ]
      go_simp
      with_reducible refine (HN2.out _ _ J102_24).mono ?_
      rintro e v103 ⟨rfl, k103⟩
      have B103 := B102.trans (k103.mono B102.size)
      have A103 := A102.kept k103
      refine hK.out _ _ A103 (fun hHeld => ?_)
      clear hK K
      (try simp only [Act.put, List.getElem_toArray, List.getElem_cons_zero, List.getElem_cons_succ, List.setIfInBounds_toArray, List.set_cons_zero, List.set_cons_succ])
      refine wpAnyH_take (i := 26) (v := ?_) rfl (by kernel_rfl) (by kernel_rfl) (by kernel_rfl) (fun _ _ _ h => h) (Or.inl ⟨by rfl, ?_⟩) (by assumption) ?_
      rotate_left
      · (intro w hSw; (try dsimp only at hSw); go_simp; (try with_reducible rfl))
      (try simp only [Act.put, List.getElem_toArray, List.getElem_cons_zero, List.getElem_cons_succ, List.setIfInBounds_toArray, List.set_cons_zero, List.set_cons_succ])
      refine wpAnyH_take (i := 27) (v := ?_) rfl (by kernel_rfl) (by kernel_rfl) (by kernel_rfl) (fun _ _ _ h => h) (Or.inl ⟨by rfl, ?_⟩) (by assumption) ?_
      rotate_left
      · (intro w hSw; (try dsimp only at hSw); go_simp; (try with_reducible rfl))
      (try simp only [Act.put, List.getElem_toArray, List.getElem_cons_zero, List.getElem_cons_succ, List.setIfInBounds_toArray, List.set_cons_zero, List.set_cons_succ])
      refine wpAnyH_done (by kernel_rfl) ?_ _
      refine NoPanic.normal ?_
      go_wp2
      go_ret
      exact ⟨by rw [HBL.out]; rfl, B103⟩
  · simp only [List.getElem_toArray, List.getElem_cons_zero, List.getElem_cons_succ]
    go_simp
    have I104 := IRow.new4 (wd) b.age b.mx b.hel b.wai 3
    have B104 := D5.alloc D5.size (.cells #[.int .i64 b.age, .int .i64 b.mx, .int .i64 b.hel, .int .i64 b.wai] 3)
    have A104 := A5.alloc (.cells #[.int .i64 b.age, .int .i64 b.mx, .int .i64 b.hel, .int .i64 b.wai] 3)
    generalize (wd).heap.size = g104 at *
    generalize (wd).alloc (.cells #[.int .i64 b.age, .int .i64 b.mx, .int .i64 b.hel, .int .i64 b.wai] 3) = v104 at *
    refine hK.out _ _ A104 (fun hHeld => ?_)
    clear hK K
    (try simp only [Act.put, List.getElem_toArray, List.getElem_cons_zero, List.getElem_cons_succ, List.setIfInBounds_toArray, List.set_cons_zero, List.set_cons_succ])
    refine wpAnyH_ready (rs := [2, 9]) (by kernel_rfl) (by simp) ?_
    refine (AllReadyH.cons rfl (fun K hK => ?_) (AllReadyH.cons rfl (fun K hK => ?_) AllReadyH.nil))
    · simp only [List.getElem_toArray, List.getElem_cons_zero, List.getElem_cons_succ]
      go_simp
      with_reducible refine (HBy.out _).mono ?_
      rintro e v105 ⟨rfl, k105⟩
      have J105_24 := I104.below k105
      have B105 := B104.trans (k105.mono B104.size)
      have A105 := A104.kept k105
      refine hK.out _ _ A105 (fun hHeld => ?_)
      clear hK K
      (try simp only [Act.put, List.getElem_toArray, List.getElem_cons_zero, List.getElem_cons_succ, List.setIfInBounds_toArray, List.set_cons_zero, List.set_cons_succ])
      refine wpAnyH_ready (rs := [3, 9]) (by kernel_rfl) (by simp) ?_
      refine (AllReadyH.cons rfl (fun K hK => ?_) (AllReadyH.cons rfl (fun K hK => ?_) AllReadyH.nil))
      · simp only [List.getElem_toArray, List.getElem_cons_zero, List.getElem_cons_succ]
        go_simp
        have I106 := IRow.new1 (v105) (byF b.f : Int) 3
        have J106_24 : IRow ((v105).alloc (.cells #[.int .i64 (byF b.f : Int)] 3)) g104 [b.age, b.mx, b.hel, b.wai] := J105_24.below ((Below.refl _ _).alloc (Nat.le_refl _) (.cells #[.int .i64 (byF b.f : Int)] 3))
        have B106 := B105.alloc B105.size (.cells #[.int .i64 (byF b.f : Int)] 3)
        have A106 := A105.alloc (.cells #[.int .i64 (byF b.f : Int)] 3)
        generalize (v105).heap.size = g106 at *
        generalize (v105).alloc (.cells #[.int .i64 (byF b.f : Int)] 3) = v106 at *
        refine hK.out _ _ A106 (fun hHeld => ?_)
        clear hK K
        (try simp only [Act.put, List.getElem_toArray, List.getElem_cons_zero, List.getElem_cons_succ, List.setIfInBounds_toArray, List.set_cons_zero, List.set_cons_succ])
        refine wpAnyH_ready (rs := [4, 9]) (by kernel_rfl) (by simp) ?_
        refine (AllReadyH.cons rfl (fun K hK => ?_) (AllReadyH.cons rfl (fun K hK => ?_) AllReadyH.nil))
        · simp only [List.getElem_toArray, List.getElem_cons_zero, List.getElem_cons_succ]
          go_simp
          with_reducible refine (HN1.out _ _ I106).mono ?_
          rintro e v107 ⟨rfl, k107⟩
          have J107_24 := J106_24.below k107
          have B107 := B106.trans (k107.mono B106.size)
          have A107 := A106.kept k107
          refine hK.out _ _ A107 (fun hHeld => ?_)
          clear hK K
          (try simp only [Act.put, List.getElem_toArray, List.getElem_cons_zero, List.getElem_cons_succ, List.setIfInBounds_toArray, List.set_cons_zero, List.set_cons_succ])
          refine wpAnyH_take (i := 6) (v := .string ⟨z1.toArray⟩) rfl (by kernel_rfl) (by kernel_rfl) (by kernel_rfl) (fun _ _ _ h => h) (Or.inl ⟨by rfl, fun w hSw => by go_simp⟩) (by assumption) ?_
          (try simp only [Act.put, List.getElem_toArray, List.getElem_cons_zero, List.getElem_cons_succ, List.setIfInBounds_toArray, List.set_cons_zero, List.set_cons_succ])
          refine wpAnyH_ready (rs := [9]) (by kernel_rfl) (by simp) ?_
          refine (AllReadyH.cons rfl (fun K hK => ?_) AllReadyH.nil)
          simp only [List.getElem_toArray, List.getElem_cons_zero, List.getElem_cons_succ]
          go_simp
          have I108 := IRow.new1 (v107) b.cost 3
          have J108_24 : IRow ((v107).alloc (.cells #[.int .i64 b.cost] 3)) g104 [b.age, b.mx, b.hel, b.wai] := J107_24.below ((Below.refl _ _).alloc (Nat.le_refl _) (.cells #[.int .i64 b.cost] 3))
          have B108 := B107.alloc B107.size (.cells #[.int .i64 b.cost] 3)
          have A108 := A107.alloc (.cells #[.int .i64 b.cost] 3)
          generalize (v107).heap.size = g108 at *
          generalize (v107).alloc (.cells #[.int .i64 b.cost] 3) = v108 at *
          refine hK.out _ _ A108 (fun hHeld => ?_)
          clear hK K
          (try simp only [Act.put, List.getElem_toArray, List.getElem_cons_zero, List.getElem_cons_succ, List.setIfInBounds_toArray, List.set_cons_zero, List.set_cons_succ])
          refine wpAnyH_ready (rs := [10]) (by kernel_rfl) (by simp) ?_
          refine (AllReadyH.cons rfl (fun K hK => ?_) AllReadyH.nil)
          simp only [List.getElem_toArray, List.getElem_cons_zero, List.getElem_cons_succ]
          go_simp
          with_reducible refine (HN4.out _ _ I108).mono ?_
          rintro e v109 ⟨rfl, k109⟩
          have J109_24 := J108_24.below k109
          have B109 := B108.trans (k109.mono B108.size)
          have A109 := A108.kept k109
          refine hK.out _ _ A109 (fun hHeld => ?_)
          clear hK K
          (try simp only [Act.put, List.getElem_toArray, List.getElem_cons_zero, List.getElem_cons_succ, List.setIfInBounds_toArray, List.set_cons_zero, List.set_cons_succ])
          refine wpAnyH_take (i := 11) (v := .string ⟨z2.toArray⟩) rfl (by kernel_rfl) (by kernel_rfl) (by kernel_rfl) (fun _ _ _ h => h) (Or.inl ⟨by rfl, fun w hSw => by go_simp⟩) (by assumption) ?_
          (try simp only [Act.put, List.getElem_toArray, List.getElem_cons_zero, List.getElem_cons_succ, List.setIfInBounds_toArray, List.set_cons_zero, List.set_cons_succ])
          refine wpAnyH_take (i := 13) (v := .string ⟨z3.toArray⟩) rfl (by kernel_rfl) (by kernel_rfl) (by kernel_rfl) (fun _ _ _ h => h) (Or.inl ⟨by rfl, fun w hSw => by go_simp⟩) (by assumption) ?_
          (try simp only [Act.put, List.getElem_toArray, List.getElem_cons_zero, List.getElem_cons_succ, List.setIfInBounds_toArray, List.set_cons_zero, List.set_cons_succ])
          refine wpAnyH_take (i := 15) (v := .string ⟨z4.toArray⟩) rfl (by kernel_rfl) (by kernel_rfl) (by kernel_rfl) (fun _ _ _ h => h) (Or.inl ⟨by rfl, fun w hSw => by go_simp⟩) (by assumption) ?_
          (try simp only [Act.put, List.getElem_toArray, List.getElem_cons_zero, List.getElem_cons_succ, List.setIfInBounds_toArray, List.set_cons_zero, List.set_cons_succ])
          refine wpAnyH_ready (rs := [25]) (by kernel_rfl) (by simp) ?_
          refine (AllReadyH.cons rfl (fun K hK => ?_) AllReadyH.nil)
          simp only [List.getElem_toArray, List.getElem_cons_zero, List.getElem_cons_succ]
          go_simp
          with_reducible refine (HN2.out _ _ J109_24).mono ?_
          rintro e v110 ⟨rfl, k110⟩
          have B110 := B109.trans (k110.mono B109.size)
          have A110 := A109.kept k110
          refine hK.out _ _ A110 (fun hHeld => ?_)
          clear hK K
          (try simp only [Act.put, List.getElem_toArray, List.getElem_cons_zero, List.getElem_cons_succ, List.setIfInBounds_toArray, List.set_cons_zero, List.set_cons_succ])
          refine wpAnyH_take (i := 26) (v := ?_) rfl (by kernel_rfl) (by kernel_rfl) (by kernel_rfl) (fun _ _ _ h => h) (Or.inl ⟨by rfl, ?_⟩) (by assumption) ?_
          rotate_left
          · (intro w hSw; (try dsimp only at hSw); go_simp; (try with_reducible rfl))
          (try simp only [Act.put, List.getElem_toArray, List.getElem_cons_zero, List.getElem_cons_succ, List.setIfInBounds_toArray, List.set_cons_zero, List.set_cons_succ])
          refine wpAnyH_take (i := 27) (v := ?_) rfl (by kernel_rfl) (by kernel_rfl) (by kernel_rfl) (fun _ _ _ h => h) (Or.inl ⟨by rfl, ?_⟩) (by assumption) ?_
          rotate_left
          · (intro w hSw; (try dsimp only at hSw); go_simp; (try with_reducible rfl))
          (try simp only [Act.put, List.getElem_toArray, List.getElem_cons_zero, List.getElem_cons_succ, List.setIfInBounds_toArray, List.set_cons_zero, List.set_cons_succ])
          refine wpAnyH_done (by kernel_rfl) ?_ _
          refine NoPanic.normal ?_
          go_wp2
          go_ret
          exact ⟨by rw [HBL.out]; rfl, B110⟩
        · simp only [List.getElem_toArray, List.getElem_cons_zero, List.getElem_cons_succ]
          go_simp
          have I111 := IRow.new1 (v106) b.cost 3
          have J111_24 : IRow ((v106).alloc (.cells #[.int .i64 b.cost] 3)) g104 [b.age, b.mx, b.hel, b.wai] := J106_24.below ((Below.refl _ _).alloc (Nat.le_refl _) (.cells #[.int .i64 b.cost] 3))
          have J111_3 : IRow ((v106).alloc (.cells #[.int .i64 b.cost] 3)) g106 [(byF b.f : Int)] := I106.below ((Below.refl _ _).alloc (Nat.le_refl _) (.cells #[.int .i64 b.cost] 3))
          have B111 := B106.alloc B106.size (.cells #[.int .i64 b.cost] 3)
          have A111 := A106.alloc (.cells #[.int .i64 b.cost] 3)
          generalize (v106).heap.size = g111 at *
          generalize (v106).alloc (.cells #[.int .i64 b.cost] 3) = v111 at *
          refine hK.out _ _ A111 (fun hHeld => ?_)
          clear hK K
          (try simp only [Act.put, List.getElem_toArray, List.getElem_cons_zero, List.getElem_cons_succ, List.setIfInBounds_toArray, List.set_cons_zero, List.set_cons_succ])
          refine wpAnyH_ready (rs := [4]) (by kernel_rfl) (by simp) ?_
          refine (AllReadyH.cons rfl (fun K hK => ?_) AllReadyH.nil)
          simp only [List.getElem_toArray, List.getElem_cons_zero, List.getElem_cons_succ]
          go_simp
          with_reducible refine (HN1.out _ _ J111_3).mono ?_
          rintro e v112 ⟨rfl, k112⟩
          have J112_24 := J111_24.below k112
          have J112_9 := I111.below k112
          have B112 := B111.trans (k112.mono B111.size)
          have A112 := A111.kept k112
          refine hK.out _ _ A112 (fun hHeld => ?_)
          clear hK K
          (try simp only [Act.put, List.getElem_toArray, List.getElem_cons_zero, List.getElem_cons_succ, List.setIfInBounds_toArray, List.set_cons_zero, List.set_cons_succ])
          refine wpAnyH_take (i := 6) (v := .string ⟨z1.toArray⟩) rfl (by kernel_rfl) (by kernel_rfl) (by kernel_rfl) (fun _ _ _ h => h) (Or.inl ⟨by rfl, fun w hSw => by go_simp⟩) (by assumption) ?_
          (try simp only [Act.put, List.getElem_toArray, List.getElem_cons_zero, List.getElem_cons_succ, List.setIfInBounds_toArray, List.set_cons_zero, List.set_cons_succ])
          refine wpAnyH_ready (rs := [10]) (by kernel_rfl) (by simp) ?_
          refine (AllReadyH.cons rfl (fun K hK => ?_) AllReadyH.nil)
          simp only [List.getElem_toArray, List.getElem_cons_zero, List.getElem_cons_succ]
          go_simp
          with_reducible refine (HN4.out _ _ J112_9).mono ?_
          rintro e v113 ⟨rfl, k113⟩
          have J113_24 := J112_24.below k113
          have B113 := B112.trans (k113.mono B112.size)
          have A113 := A112.kept k113
          refine hK.out _ _ A113 (fun hHeld => ?_)
          clear hK K
          (try simp only [Act.put, List.getElem_toArray, List.getElem_cons_zero, List.getElem_cons_succ, List.setIfInBounds_toArray, List.set_cons_zero, List.set_cons_succ])
          refine wpAnyH_take (i := 11) (v := .string ⟨z2.toArray⟩) rfl (by kernel_rfl) (by kernel_rfl) (by kernel_rfl) (fun _ _ _ h => h) (Or.inl ⟨by rfl, fun w hSw => by go_simp⟩) (by assumption) ?_
          (try simp only [Act.put, List.getElem_toArray, List.getElem_cons_zero, List.getElem_cons_succ, List.setIfInBounds_toArray, List.set_cons_zero, List.set_cons_succ])
          refine wpAnyH_take (i := 13) (v := .string ⟨z3.toArray⟩) rfl (by kernel_rfl) (by kernel_rfl) (by kernel_rfl) (fun _ _ _ h => h) (Or.inl ⟨by rfl, fun w hSw => by go_simp⟩) (by assumption) ?_
          (try simp only [Act.put, List.getElem_toArray, List.getElem_cons_zero, List.getElem_cons_succ, List.setIfInBounds_toArray, List.set_cons_zero, List.set_cons_succ])
          refine wpAnyH_take (i := 15) (v := .string ⟨z4.toArray⟩) rfl (by kernel_rfl) (by kernel_rfl) (by kernel_rfl) (fun _ _ _ h => h) (Or.inl ⟨by rfl, fun w hSw => by go_simp⟩) (by assumption) ?_
          (try simp only [Act.put, List.getElem_toArray, List.getElem_cons_zero, List.getElem_cons_succ, List.setIfInBounds_toArray, List.set_cons_zero, List.set_cons_succ])
          refine wpAnyH_ready (rs := [25]) (by kernel_rfl) (by simp) ?_
          refine (AllReadyH.cons rfl (fun K hK => ?_) AllReadyH.nil)
          simp only [List.getElem_toArray, List.getElem_cons_zero, List.getElem_cons_succ]
          go_simp
          with_reducible refine (HN2.out _ _ J113_24).mono ?_
          rintro e v114 ⟨rfl, k114⟩
          have B114 := B113.trans (k114.mono B113.size)
          have A114 := A113.kept k114
          refine hK.out _ _ A114 (fun hHeld => ?_)
          clear hK K
          (try simp only [Act.put, List.getElem_toArray, List.getElem_cons_zero, List.getElem_cons_succ, List.setIfInBounds_toArray, List.set_cons_zero, List.set_cons_succ])
          refine wpAnyH_take (i := 26) (v := ?_) rfl (by kernel_rfl) (by kernel_rfl) (by kernel_rfl) (fun _ _ _ h => h) (Or.inl ⟨by rfl, ?_⟩) (by assumption) ?_
          rotate_left
          · (intro w hSw; (try dsimp only at hSw); go_simp; (try with_reducible rfl))
          (try simp only [Act.put, List.getElem_toArray, List.getElem_cons_zero, List.getElem_cons_succ, List.setIfInBounds_toArray, List.set_cons_zero, List.set_cons_succ])
          refine wpAnyH_take (i := 27) (v := ?_) rfl (by kernel_rfl) (by kernel_rfl) (by kernel_rfl) (fun _ _ _ h => h) (Or.inl ⟨by rfl, ?_⟩) (by assumption) ?_
          rotate_left
          · (intro w hSw; (try dsimp only at hSw); go_simp; (try with_reducible rfl))
          (try simp only [Act.put, List.getElem_toArray, List.getElem_cons_zero, List.getElem_cons_succ, List.setIfInBounds_toArray, List.set_cons_zero, List.set_cons_succ])
          refine wpAnyH_done (by kernel_rfl) ?_ _
          refine NoPanic.normal ?_
          go_wp2
          go_ret
          exact ⟨by rw [HBL.out]; rfl, B114⟩
      · simp only [List.getElem_toArray, List.getElem_cons_zero, List.getElem_cons_succ]
        go_simp
        have I115 := IRow.new1 (v105) b.cost 3
        have J115_24 : IRow ((v105).alloc (.cells #[.int .i64 b.cost] 3)) g104 [b.age, b.mx, b.hel, b.wai] := J105_24.below ((Below.refl _ _).alloc (Nat.le_refl _) (.cells #[.int .i64 b.cost] 3))
        have B115 := B105.alloc B105.size (.cells #[.int .i64 b.cost] 3)
        have A115 := A105.alloc (.cells #[.int .i64 b.cost] 3)
        generalize (v105).heap.size = g115 at *
        generalize (v105).alloc (.cells #[.int .i64 b.cost] 3) = v115 at *
        refine hK.out _ _ A115 (fun hHeld => ?_)
        clear hK K
        (try simp only [Act.put, List.getElem_toArray, List.getElem_cons_zero, List.getElem_cons_succ, List.setIfInBounds_toArray, List.set_cons_zero, List.set_cons_succ])
        refine wpAnyH_ready (rs := [3]) (by kernel_rfl) (by simp) ?_
        refine (AllReadyH.cons rfl (fun K hK => ?_) AllReadyH.nil)
        simp only [List.getElem_toArray, List.getElem_cons_zero, List.getElem_cons_succ]
        go_simp
        have I116 := IRow.new1 (v115) (byF b.f : Int) 3
        have J116_24 : IRow ((v115).alloc (.cells #[.int .i64 (byF b.f : Int)] 3)) g104 [b.age, b.mx, b.hel, b.wai] := J115_24.below ((Below.refl _ _).alloc (Nat.le_refl _) (.cells #[.int .i64 (byF b.f : Int)] 3))
        have J116_9 : IRow ((v115).alloc (.cells #[.int .i64 (byF b.f : Int)] 3)) g115 [b.cost] := I115.below ((Below.refl _ _).alloc (Nat.le_refl _) (.cells #[.int .i64 (byF b.f : Int)] 3))
        have B116 := B115.alloc B115.size (.cells #[.int .i64 (byF b.f : Int)] 3)
        have A116 := A115.alloc (.cells #[.int .i64 (byF b.f : Int)] 3)
        generalize (v115).heap.size = g116 at *
        generalize (v115).alloc (.cells #[.int .i64 (byF b.f : Int)] 3) = v116 at *
        refine hK.out _ _ A116 (fun hHeld => ?_)
        clear hK K
        (try simp only [Act.put, List.getElem_toArray, List.getElem_cons_zero, List.getElem_cons_succ, List.setIfInBounds_toArray, List.set_cons_zero, List.set_cons_succ])
        refine wpAnyH_ready (rs := [4]) (by kernel_rfl) (by simp) ?_
        refine (AllReadyH.cons rfl (fun K hK => ?_) AllReadyH.nil)
        simp only [List.getElem_toArray, List.getElem_cons_zero, List.getElem_cons_succ]
        go_simp
        with_reducible refine (HN1.out _ _ I116).mono ?_
        rintro e v117 ⟨rfl, k117⟩
        have J117_24 := J116_24.below k117
        have J117_9 := J116_9.below k117
        have B117 := B116.trans (k117.mono B116.size)
        have A117 := A116.kept k117
        refine hK.out _ _ A117 (fun hHeld => ?_)
        clear hK K
        (try simp only [Act.put, List.getElem_toArray, List.getElem_cons_zero, List.getElem_cons_succ, List.setIfInBounds_toArray, List.set_cons_zero, List.set_cons_succ])
        refine wpAnyH_take (i := 6) (v := .string ⟨z1.toArray⟩) rfl (by kernel_rfl) (by kernel_rfl) (by kernel_rfl) (fun _ _ _ h => h) (Or.inl ⟨by rfl, fun w hSw => by go_simp⟩) (by assumption) ?_
        (try simp only [Act.put, List.getElem_toArray, List.getElem_cons_zero, List.getElem_cons_succ, List.setIfInBounds_toArray, List.set_cons_zero, List.set_cons_succ])
        refine wpAnyH_ready (rs := [10]) (by kernel_rfl) (by simp) ?_
        refine (AllReadyH.cons rfl (fun K hK => ?_) AllReadyH.nil)
        simp only [List.getElem_toArray, List.getElem_cons_zero, List.getElem_cons_succ]
        go_simp
        with_reducible refine (HN4.out _ _ J117_9).mono ?_
        rintro e v118 ⟨rfl, k118⟩
        have J118_24 := J117_24.below k118
        have B118 := B117.trans (k118.mono B117.size)
        have A118 := A117.kept k118
        refine hK.out _ _ A118 (fun hHeld => ?_)
        clear hK K
        (try simp only [Act.put, List.getElem_toArray, List.getElem_cons_zero, List.getElem_cons_succ, List.setIfInBounds_toArray, List.set_cons_zero, List.set_cons_succ])
        refine wpAnyH_take (i := 11) (v := .string ⟨z2.toArray⟩) rfl (by kernel_rfl) (by kernel_rfl) (by kernel_rfl) (fun _ _ _ h => h) (Or.inl ⟨by rfl, fun w hSw => by go_simp⟩) (by assumption) ?_
        (try simp only [Act.put, List.getElem_toArray, List.getElem_cons_zero, List.getElem_cons_succ, List.setIfInBounds_toArray, List.set_cons_zero, List.set_cons_succ])
        refine wpAnyH_take (i := 13) (v := .string ⟨z3.toArray⟩) rfl (by kernel_rfl) (by kernel_rfl) (by kernel_rfl) (fun _ _ _ h => h) (Or.inl ⟨by rfl, fun w hSw => by go_simp⟩) (by assumption) ?_
        (try simp only [Act.put, List.getElem_toArray, List.getElem_cons_zero, List.getElem_cons_succ, List.setIfInBounds_toArray, List.set_cons_zero, List.set_cons_succ])
        refine wpAnyH_take (i := 15) (v := .string ⟨z4.toArray⟩) rfl (by kernel_rfl) (by kernel_rfl) (by kernel_rfl) (fun _ _ _ h => h) (Or.inl ⟨by rfl, fun w hSw => by go_simp⟩) (by assumption) ?_
        (try simp only [Act.put, List.getElem_toArray, List.getElem_cons_zero, List.getElem_cons_succ, List.setIfInBounds_toArray, List.set_cons_zero, List.set_cons_succ])
        refine wpAnyH_ready (rs := [25]) (by kernel_rfl) (by simp) ?_
        refine (AllReadyH.cons rfl (fun K hK => ?_) AllReadyH.nil)
        simp only [List.getElem_toArray, List.getElem_cons_zero, List.getElem_cons_succ]
        go_simp
        with_reducible refine (HN2.out _ _ J118_24).mono ?_
        rintro e v119 ⟨rfl, k119⟩
        have B119 := B118.trans (k119.mono B118.size)
        have A119 := A118.kept k119
        refine hK.out _ _ A119 (fun hHeld => ?_)
        clear hK K
        (try simp only [Act.put, List.getElem_toArray, List.getElem_cons_zero, List.getElem_cons_succ, List.setIfInBounds_toArray, List.set_cons_zero, List.set_cons_succ])
        refine wpAnyH_take (i := 26) (v := ?_) rfl (by kernel_rfl) (by kernel_rfl) (by kernel_rfl) (fun _ _ _ h => h) (Or.inl ⟨by rfl, ?_⟩) (by assumption) ?_
        rotate_left
        · (intro w hSw; (try dsimp only at hSw); go_simp; (try with_reducible rfl))
        (try simp only [Act.put, List.getElem_toArray, List.getElem_cons_zero, List.getElem_cons_succ, List.setIfInBounds_toArray, List.set_cons_zero, List.set_cons_succ])
        refine wpAnyH_take (i := 27) (v := ?_) rfl (by kernel_rfl) (by kernel_rfl) (by kernel_rfl) (fun _ _ _ h => h) (Or.inl ⟨by rfl, ?_⟩) (by assumption) ?_
        rotate_left
        · (intro w hSw; (try dsimp only at hSw); go_simp; (try with_reducible rfl))
        (try simp only [Act.put, List.getElem_toArray, List.getElem_cons_zero, List.getElem_cons_succ, List.setIfInBounds_toArray, List.set_cons_zero, List.set_cons_succ])
        refine wpAnyH_done (by kernel_rfl) ?_ _
        refine NoPanic.normal ?_
        go_wp2
        go_ret
        exact ⟨by rw [HBL.out]; rfl, B119⟩
    · simp only [List.getElem_toArray, List.getElem_cons_zero, List.getElem_cons_succ]
      go_simp
      have I120 := IRow.new1 (v104) b.cost 3
      have J120_24 : IRow ((v104).alloc (.cells #[.int .i64 b.cost] 3)) g104 [b.age, b.mx, b.hel, b.wai] := I104.below ((Below.refl _ _).alloc (Nat.le_refl _) (.cells #[.int .i64 b.cost] 3))
      have B120 := B104.alloc B104.size (.cells #[.int .i64 b.cost] 3)
      have A120 := A104.alloc (.cells #[.int .i64 b.cost] 3)
      generalize (v104).heap.size = g120 at *
      generalize (v104).alloc (.cells #[.int .i64 b.cost] 3) = v120 at *
      refine hK.out _ _ A120 (fun hHeld => ?_)
      clear hK K
      (try simp only [Act.put, List.getElem_toArray, List.getElem_cons_zero, List.getElem_cons_succ, List.setIfInBounds_toArray, List.set_cons_zero, List.set_cons_succ])
      refine wpAnyH_ready (rs := [2]) (by kernel_rfl) (by simp) ?_
      refine (AllReadyH.cons rfl (fun K hK => ?_) AllReadyH.nil)
      simp only [List.getElem_toArray, List.getElem_cons_zero, List.getElem_cons_succ]
      go_simp
      with_reducible refine (HBy.out _).mono ?_
      rintro e v121 ⟨rfl, k121⟩
      have J121_24 := J120_24.below k121
      have J121_9 := I120.below k121
      have B121 := B120.trans (k121.mono B120.size)
      have A121 := A120.kept k121
      refine hK.out _ _ A121 (fun hHeld => ?_)
      clear hK K
      (try simp only [Act.put, List.getElem_toArray, List.getElem_cons_zero, List.getElem_cons_succ, List.setIfInBounds_toArray, List.set_cons_zero, List.set_cons_succ])
      refine wpAnyH_ready (rs := [3]) (by kernel_rfl) (by simp) ?_
      refine (AllReadyH.cons rfl (fun K hK => ?_) AllReadyH.nil)
      simp only [List.getElem_toArray, List.getElem_cons_zero, List.getElem_cons_succ]
      go_simp
      have I122 := IRow.new1 (v121) (byF b.f : Int) 3
      have J122_24 : IRow ((v121).alloc (.cells #[.int .i64 (byF b.f : Int)] 3)) g104 [b.age, b.mx, b.hel, b.wai] := J121_24.below ((Below.refl _ _).alloc (Nat.le_refl _) (.cells #[.int .i64 (byF b.f : Int)] 3))
      have J122_9 : IRow ((v121).alloc (.cells #[.int .i64 (byF b.f : Int)] 3)) g120 [b.cost] := J121_9.below ((Below.refl _ _).alloc (Nat.le_refl _) (.cells #[.int .i64 (byF b.f : Int)] 3))
      have B122 := B121.alloc B121.size (.cells #[.int .i64 (byF b.f : Int)] 3)
      have A122 := A121.alloc (.cells #[.int .i64 (byF b.f : Int)] 3)
      generalize (v121).heap.size = g122 at *
      generalize (v121).alloc (.cells #[.int .i64 (byF b.f : Int)] 3) = v122 at *
      refine hK.out _ _ A122 (fun hHeld => ?_)
      clear hK K
      (try simp only [Act.put, List.getElem_toArray, List.getElem_cons_zero, List.getElem_cons_succ, List.setIfInBounds_toArray, List.set_cons_zero, List.set_cons_succ])
      refine wpAnyH_ready (rs := [4]) (by kernel_rfl) (by simp) ?_
      refine (AllReadyH.cons rfl (fun K hK => ?_) AllReadyH.nil)
      simp only [List.getElem_toArray, List.getElem_cons_zero, List.getElem_cons_succ]
      go_simp
      with_reducible refine (HN1.out _ _ I122).mono ?_
      rintro e v123 ⟨rfl, k123⟩
      have J123_24 := J122_24.below k123
      have J123_9 := J122_9.below k123
      have B123 := B122.trans (k123.mono B122.size)
      have A123 := A122.kept k123
      refine hK.out _ _ A123 (fun hHeld => ?_)
      clear hK K
      (try simp only [Act.put, List.getElem_toArray, List.getElem_cons_zero, List.getElem_cons_succ, List.setIfInBounds_toArray, List.set_cons_zero, List.set_cons_succ])
      refine wpAnyH_take (i := 6) (v := .string ⟨z1.toArray⟩) rfl (by kernel_rfl) (by kernel_rfl) (by kernel_rfl) (fun _ _ _ h => h) (Or.inl ⟨by rfl, fun w hSw => by go_simp⟩) (by assumption) ?_
      (try simp only [Act.put, List.getElem_toArray, List.getElem_cons_zero, List.getElem_cons_succ, List.setIfInBounds_toArray, List.set_cons_zero, List.set_cons_succ])
      refine wpAnyH_ready (rs := [10]) (by kernel_rfl) (by simp) ?_
      refine (AllReadyH.cons rfl (fun K hK => ?_) AllReadyH.nil)
      simp only [List.getElem_toArray, List.getElem_cons_zero, List.getElem_cons_succ]
      go_simp
      with_reducible refine (HN4.out _ _ J123_9).mono ?_
      rintro e v124 ⟨rfl, k124⟩
      have J124_24 := J123_24.below k124
      have B124 := B123.trans (k124.mono B123.size)
      have A124 := A123.kept k124
      refine hK.out _ _ A124 (fun hHeld => ?_)
      clear hK K
      (try simp only [Act.put, List.getElem_toArray, List.getElem_cons_zero, List.getElem_cons_succ, List.setIfInBounds_toArray, List.set_cons_zero, List.set_cons_succ])
      refine wpAnyH_take (i := 11) (v := .string ⟨z2.toArray⟩) rfl (by kernel_rfl) (by kernel_rfl) (by kernel_rfl) (fun _ _ _ h => h) (Or.inl ⟨by rfl, fun w hSw => by go_simp⟩) (by assumption) ?_
      (try simp only [Act.put, List.getElem_toArray, List.getElem_cons_zero, List.getElem_cons_succ, List.setIfInBounds_toArray, List.set_cons_zero, List.set_cons_succ])
      refine wpAnyH_take (i := 13) (v := .string ⟨z3.toArray⟩) rfl (by kernel_rfl) (by kernel_rfl) (by kernel_rfl) (fun _ _ _ h => h) (Or.inl ⟨by rfl, fun w hSw => by go_simp⟩) (by assumption) ?_
      (try simp only [Act.put, List.getElem_toArray, List.getElem_cons_zero, List.getElem_cons_succ, List.setIfInBounds_toArray, List.set_cons_zero, List.set_cons_succ])
      refine wpAnyH_take (i := 15) (v := .string ⟨z4.toArray⟩) rfl (by kernel_rfl) (by kernel_rfl) (by kernel_rfl) (fun _ _ _ h => h) (Or.inl ⟨by rfl, fun w hSw => by go_simp⟩) (by assumption) ?_
      (try simp only [Act.put, List.getElem_toArray, List.getElem_cons_zero, List.getElem_cons_succ, List.setIfInBounds_toArray, List.set_cons_zero, List.set_cons_succ])
      refine wpAnyH_ready (rs := [25]) (by kernel_rfl) (by simp) ?_
      refine (AllReadyH.cons rfl (fun K hK => ?_) AllReadyH.nil)
      simp only [List.getElem_toArray, List.getElem_cons_zero, List.getElem_cons_succ]
      go_simp
      with_reducible refine (HN2.out _ _ J124_24).mono ?_
      rintro e v125 ⟨rfl, k125⟩
      have B125 := B124.trans (k125.mono B124.size)
      have A125 := A124.kept k125
      refine hK.out _ _ A125 (fun hHeld => ?_)
      clear hK K
      (try simp only [Act.put, List.getElem_toArray, List.getElem_cons_zero, List.getElem_cons_succ, List.setIfInBounds_toArray, List.set_cons_zero, List.set_cons_succ])
      refine wpAnyH_take (i := 26) (v := ?_) rfl (by kernel_rfl) (by kernel_rfl) (by kernel_rfl) (fun _ _ _ h => h) (Or.inl ⟨by rfl, ?_⟩) (by assumption) ?_
      rotate_left
      · (intro w hSw; (try dsimp only at hSw); go_simp; (try with_reducible rfl))
      (try simp only [Act.put, List.getElem_toArray, List.getElem_cons_zero, List.getElem_cons_succ, List.setIfInBounds_toArray, List.set_cons_zero, List.set_cons_succ])
      refine wpAnyH_take (i := 27) (v := ?_) rfl (by kernel_rfl) (by kernel_rfl) (by kernel_rfl) (fun _ _ _ h => h) (Or.inl ⟨by rfl, ?_⟩) (by assumption) ?_
      rotate_left
      · (intro w hSw; (try dsimp only at hSw); go_simp; (try with_reducible rfl))
      (try simp only [Act.put, List.getElem_toArray, List.getElem_cons_zero, List.getElem_cons_succ, List.setIfInBounds_toArray, List.set_cons_zero, List.set_cons_succ])
      refine wpAnyH_done (by kernel_rfl) ?_ _
      refine NoPanic.normal ?_
      go_wp2
      go_ret
      exact ⟨by rw [HBL.out]; rfl, B125⟩

end Go.Proofs.YtjoepmfineinfaaDoor

namespace Go.Proofs.YtjoepmfineinfaaDoor
open Go.RowKit
attribute [local go_sem ↓] Go.wp_at_zero Go.wp_at_succ
set_option linter.unusedSimpArgs false
set_option linter.unusedVariables false
set_option maxRecDepth 100000

theorem bpWrite_no (b : Bp) (h : okBp b = false) (hr : rgBp b) (w : World) :
    Calls Tryd.prog 19 #[.agg (bpC b)] w fun e w' => e = .returned (.tuple #[.string ⟨#[]⟩, .iface 27 (.int .i64 1)]) ∧ Below w.heap.size w w' := by
  have HA := Blk.new w 52 (bpC b)
  have B0 : Below w.heap.size w (w.alloc (.cells (bpC b) 52)) := (Below.refl _ _).alloc (Nat.le_refl _) _
  have HR := Lib.hid (fun W => bpRight_any b hr W)
  rw [h] at HR
  go_enter Tryd.func19, Tryd.ntmps19
  go_upto_region 1 with (fail)
  generalize (w.alloc (.cells (bpC b) 52)) = w1 at *
  go_wp2_with (refine load_blk (k := 0) 52 (bpC b) (by rfl) rfl rfl HA (by kernel_rfl) (by kernel_rfl) rfl ?_)
  refine (HR.out _).mono ?_
  rintro e w2 ⟨rfl, k2⟩
  go_wp2
  go_ret2
  exact ⟨rfl, B0.trans (k2.mono B0.size)⟩

set_option maxHeartbeats 3200000 in
theorem bpWrite_yes (b : Bp) (h : okBp b = true) (hx : byBp b) (hr : rgBp b) (w : World) :
    Calls Tryd.prog 19 #[.agg (bpC b)] w fun e w' => e = .returned (.tuple #[.string ⟨(writeL b).toArray⟩, .nilIface]) ∧ Below w.heap.size w w' := by
  have HA := Blk.new w 52 (bpC b)
  have B0 : Below w.heap.size w (w.alloc (.cells (bpC b) 52)) := (Below.refl _ _).alloc (Nat.le_refl _) _
  have HR := Lib.hid (fun W => bpRight_any b hr W)
  rw [h] at HR
  have hk : b.k = 1 ∨ b.k = 2 ∨ b.k = 3 := by
    unfold okBp at h
    by_cases k1 : b.k = 1
    · exact Or.inl k1
    · by_cases k2 : b.k = 2
      · exact Or.inr (Or.inl k2)
      · by_cases k3 : b.k = 3
        · exact Or.inr (Or.inr k3)
        · rw [if_neg k1, if_neg k2, if_neg k3] at h
          cases h
  rcases hk with hk | hk | hk
  · have HB := Lib.hid (fun W => body_any b (Or.inl hk) h hx hr W)
    have HL := Lib.hid (bodyL_len b)
    have HW : Hid (writeL b = [0, 0, 0, 0] ++ bodyL b) := by show _ = _; unfold writeL; rw [if_pos hk]
    generalize bodyL b = y at *
    have hl := HL.out
    obtain ⟨z1, hz1⟩ : ∃ z, z = [0, 0, 0, 0] ++ y := ⟨_, rfl⟩
    have zl1 : z1.length = 35 := by rw [hz1, List.length_append, hl]; rfl
    have p1 : ∀ W, (Op.stringOp .add ⟨#[0, 0, 0, 0]⟩ ⟨y.toArray⟩).run Tryd.prog W = .ok (.string ⟨z1.toArray⟩) W := fun W => by rw [hz1]; exact run_string_add_lists W [0, 0, 0, 0] _ (by decide) (by omega)
    replace HW : Hid (writeL b = z1) := by show _ = _; rw [HW.out, hz1]
    clear hz1 zl1 hl HL
    have d1 : (b.k == 1) = true := by rw [hk]; rfl
    have d2 : (b.k == 2) = false := by rw [hk]; rfl
    have d3 : (b.k == 3) = false := by rw [hk]; rfl
    clear h hk
    go_enter Tryd.func19, Tryd.ntmps19
    go_upto_region 1 with (fail)
    generalize (w.alloc (.cells (bpC b) 52)) = w1 at *
    go_wp2_with (refine load_blk (k := 0) 52 (bpC b) (by rfl) rfl rfl HA (by kernel_rfl) (by kernel_rfl) rfl ?_)
    refine (HR.out _).mono ?_
    rintro e w2 ⟨rfl, k2⟩
    have HA2 := HA.kept k2
    have B2 := B0.trans (k2.mono B0.size)
    have c0 := HA2.cv 0 (.int .i64 b.k) rfl
    go_wp2_with (refine load_blk (k := 0) 52 (bpC b) (by rfl) rfl rfl HA2 (by kernel_rfl) (by kernel_rfl) rfl ?_)
    refine (HB.out _).mono ?_
    rintro e w3 ⟨rfl, k3⟩
    have B3 := B2.trans (k3.mono B2.size)
    go_wp2
    go_ret2
    exact ⟨by rw [HW.out]; rfl, B3⟩
  · have HW : Hid (writeL b = [0, 0, 0, 128]) := by show _ = _; unfold writeL; rw [if_neg (by omega), if_neg (by omega)]
    have d1 : (b.k == 1) = false := by rw [hk]; rfl
    have d2 : (b.k == 2) = true := by rw [hk]; rfl
    have d3 : (b.k == 3) = false := by rw [hk]; rfl
    clear h hk
    go_enter Tryd.func19, Tryd.ntmps19
    go_upto_region 1 with (fail)
    generalize (w.alloc (.cells (bpC b) 52)) = w1 at *
    go_wp2_with (refine load_blk (k := 0) 52 (bpC b) (by rfl) rfl rfl HA (by kernel_rfl) (by kernel_rfl) rfl ?_)
    refine (HR.out _).mono ?_
    rintro e w2 ⟨rfl, k2⟩
    have HA2 := HA.kept k2
    have B2 := B0.trans (k2.mono B0.size)
    have c0 := HA2.cv 0 (.int .i64 b.k) rfl
    go_wp2
    go_ret2
    exact ⟨by rw [HW.out]; rfl, B2⟩
  · have HB := Lib.hid (fun W => body_any b (Or.inr hk) h hx hr W)
    have HL := Lib.hid (bodyL_len b)
    have HW : Hid (writeL b = ([0, 0, 2, 2] ++ bodyL b) ++ [0]) := by show _ = _; unfold writeL; rw [if_neg (by omega), if_pos hk]; simp
    generalize bodyL b = y at *
    have hl := HL.out
    obtain ⟨z1, hz1⟩ : ∃ z, z = [0, 0, 2, 2] ++ y := ⟨_, rfl⟩
    have zl1 : z1.length = 35 := by rw [hz1, List.length_append, hl]; rfl
    have p1 : ∀ W, (Op.stringOp .add ⟨#[0, 0, 2, 2]⟩ ⟨y.toArray⟩).run Tryd.prog W = .ok (.string ⟨z1.toArray⟩) W := fun W => by rw [hz1]; exact run_string_add_lists W [0, 0, 2, 2] _ (by decide) (by omega)
    obtain ⟨z2, hz2⟩ : ∃ z, z = z1 ++ [0] := ⟨_, rfl⟩
    have p2 : ∀ W, (Op.stringOp .add ⟨z1.toArray⟩ ⟨#[0]⟩).run Tryd.prog W = .ok (.string ⟨z2.toArray⟩) W := fun W => by rw [hz2]; exact run_string_add_lists W _ [0] (by omega) (by decide)
    replace HW : Hid (writeL b = z2) := by show _ = _; rw [HW.out, hz2, hz1]
    clear hz1 hz2 zl1 hl HL
    have d1 : (b.k == 1) = false := by rw [hk]; rfl
    have d2 : (b.k == 2) = false := by rw [hk]; rfl
    have d3 : (b.k == 3) = true := by rw [hk]; rfl
    clear h hk
    go_enter Tryd.func19, Tryd.ntmps19
    go_upto_region 1 with (fail)
    generalize (w.alloc (.cells (bpC b) 52)) = w1 at *
    go_wp2_with (refine load_blk (k := 0) 52 (bpC b) (by rfl) rfl rfl HA (by kernel_rfl) (by kernel_rfl) rfl ?_)
    refine (HR.out _).mono ?_
    rintro e w2 ⟨rfl, k2⟩
    have HA2 := HA.kept k2
    have B2 := B0.trans (k2.mono B0.size)
    have c0 := HA2.cv 0 (.int .i64 b.k) rfl
    go_wp2_with (refine load_blk (k := 0) 52 (bpC b) (by rfl) rfl rfl HA2 (by kernel_rfl) (by kernel_rfl) rfl ?_)
    refine (HB.out _).mono ?_
    rintro e w3 ⟨rfl, k3⟩
    have B3 := B2.trans (k3.mono B2.size)
    go_wp2
    go_ret2
    exact ⟨by rw [HW.out]; rfl, B3⟩

end Go.Proofs.YtjoepmfineinfaaDoor

namespace Go.Proofs.YtjoepmfineinfaaDoor
open Go.RowKit
attribute [local go_sem ↓] Go.wp_at_zero Go.wp_at_succ
set_option linter.unusedSimpArgs false
set_option linter.unusedVariables false
set_option maxRecDepth 100000

/-- Its BPDU. -/
def fB : Bp := ⟨3, ⟨false, false, 2, false, true, false, false⟩, zBr, 0, zBr, 128, 1, 0, 5120, 0, 0⟩

theorem fB_ok : okBp fB = true := by rfl

theorem fB_by : byBp fB := ⟨fun _ => (by decide : (0 : Nat) < 256), fun _ => (by decide : (0 : Nat) < 256)⟩

theorem fB_rg : rgBp fB := rg_of (b := fB) rfl

theorem ReadsAs.nil {X : Array Value} {w w' : World} {r : Ending} (h : ReadsAs X 0 (-1) w r w') : r = .returned (.tuple #[.agg X, .nilIface]) ∧ Below w.heap.size w w' := by
  obtain ⟨er, rfl, he, b⟩ := h
  rcases he with ⟨rfl, _, _⟩ | ⟨q, _⟩
  · exact ⟨rfl, b⟩
  · exact absurd rfl q

/-- Read of a text as a list. -/
theorem read_list (b : Bp) (hok : okBp b = true) (hx : byBp b) (m : List UInt8) (hm : (writeL b ++ m).length ≤ 300) (W : World) :
    Calls Tryd.prog 17 #[.string ⟨(writeL b ++ m).toArray⟩] W fun r w' => r = .returned (.tuple #[.agg (bpC b), .nilIface]) ∧ Below W.heap.size W w' :=
  (read_back b hok hx ⟨(writeL b ++ m).toArray⟩ m rfl (by simpa [ByteArray.size] using hm) W).mono fun _ _ h => h.nil

set_option maxHeartbeats 3200000 in
theorem bridged_any (w : World) : Calls Tryd.prog 18 #[] w fun e w' => e = .returned (.bool true) ∧ Below w.heap.size w w' := by
  have hnn : ∀ w : World, (binOp BinOp.eql 33 .nilIface .nilIface).run Tryd.prog w = .ok (.bool true) w := fun _ => by kernel_rfl
  have hl : (writeL fB).length = 36 := by rw [writeL_len]; rfl
  have HW := Lib.hid (fun W => bpWrite_yes fB fB_ok fB_by fB_rg W)
  have HR := Lib.hid (fun W => read_list fB fB_ok fB_by [109, 111, 114, 101] (by rw [List.length_append, hl]; decide) W)
  have HY := Lib.hid (fun W => byte_any fB.f rfl W)
  rw [show (byF fB.f : Int) = 40 from rfl] at HY
  have HQ : ∀ W, (Op.equalIn 10000 52 (.agg (bpC fB)) (.agg (bpC fB))).run Tryd.prog W = .ok true W := fun W => by
    have h := run_eql_bp 9996 fB fB W
    rw [eqBp_self] at h
    exact h
  generalize writeL fB = y at *
  have p1 : ∀ W, (Op.stringOp .add ⟨y.toArray⟩ ⟨#[109, 111, 114, 101]⟩).run Tryd.prog W = .ok (.string ⟨(y ++ [109, 111, 114, 101]).toArray⟩) W := fun W => run_string_add_lists W _ [109, 111, 114, 101] (by omega) (by decide)
  generalize y ++ [109, 111, 114, 101] = z at *
  go_enter Tryd.func18, Tryd.ntmps18
  go_upto_region 2 with (first
    | (refine build_blk (t := 46) (flC fB.f) (by rfl) rfl (by kernel_rfl) ?_)
    | (refine build_blk (t := 50) (ptC 128 1) (by rfl) rfl (by kernel_rfl) ?_)
    | (refine build_blk (t := 52) (bpC fB) (by rfl) rfl (by kernel_rfl) ?_)
    | (refine alloc_blk 52 (bpC zBp) (by rfl) rfl Tryd.bpZero ?_)
    | (refine store_blk (k := 0) 52 (.agg (bpC fB)) (bpC fB) (by rfl) rfl rfl rfl (Blk.new w _ _) (by kernel_rfl) (show (31 : Nat) ≤ 31 from Nat.le_refl 31) (by rfl) (st_whole _ _ rfl) ?_; intro w1 HA1 b1 g1))
  (try simp only [Act.put, List.setIfInBounds_toArray, List.set_cons_zero, List.set_cons_succ])
  have B1 : Below w.heap.size w w1 := ((Below.refl _ _).alloc (Nat.le_refl _) _).trans b1
  clear b1 g1
  go_wp2_with (refine load_blk (k := 0) 52 (bpC fB) (by rfl) rfl rfl HA1 (by kernel_rfl) (by kernel_rfl) rfl ?_)
  refine (HW.out _).mono ?_
  rintro e w2 ⟨rfl, k2⟩
  have HA2 := HA1.kept k2
  have B2 := B1.trans (k2.mono B1.size)
  clear HA1 B1 k2
  go_wp2_with fail
  refine (HR.out _).mono ?_
  rintro e w3 ⟨rfl, k3⟩
  have HA3 := HA2.kept k3
  have B3 := B2.trans (k3.mono B2.size)
  have lt3 : w.heap.size < w3.heap.size := HA3.lt
  clear HA2 B2 k3
  go_upto_region 4 with (first
    | (refine alloc_blk 52 (bpC zBp) (by rfl) rfl Tryd.bpZero ?_)
    | (refine store_blk (k := 0) 52 (.agg (bpC fB)) (bpC fB) (by rfl) rfl rfl rfl (Blk.new w3 _ _) (by kernel_rfl) (show (31 : Nat) ≤ 31 from Nat.le_refl 31) (by rfl) (st_whole _ _ rfl) ?_; intro w4 HV4 b4 g4; have HA4 := (HA3.alloc (.cells (bpC zBp) 52)).below b4 lt3; have B4 : Below w.heap.size w w4 := (B3.alloc B3.size _).trans (b4.mono (by omega))))
  (try simp only [Act.put, List.setIfInBounds_toArray, List.set_cons_zero, List.set_cons_succ])
  clear HA3 B3 b4 g4
  generalize w3.heap.size = v at *
  go_wp2_with (first
    | (refine load_blk (k := 0) 52 (bpC fB) (by rfl) rfl rfl HV4 (by kernel_rfl) (by kernel_rfl) rfl ?_)
    | (refine load_blk (k := 0) 52 (bpC fB) (by rfl) rfl rfl HA4 (by kernel_rfl) (by kernel_rfl) rfl ?_)
    | (refine load_blk (k := 1) 46 (flC fB.f) (by rfl) rfl rfl HA4 (by kernel_rfl) (by kernel_rfl) rfl ?_)
    | (refine eq_blk .eql 52 (bpC fB) (bpC fB) true (by rfl) rfl (Or.inl rfl) rfl rfl (by kernel_rfl) (HQ _) ?_))
  refine (HY.out _).mono ?_
  rintro e w5 ⟨rfl, k5⟩
  go_wp2
  go_ret
  exact ⟨rfl, B4.trans (k5.mono B4.size)⟩

end Go.Proofs.YtjoepmfineinfaaDoor

namespace Go.Proofs.YtjoepmfineinfaaDoor
open Go.RowKit Go.Extern.Stop Go.Stop Go.Extern

/-! Closed facts on the entries for internal/reflectlite at this program's types. -/

theorem Tryd.rlValueOfPE (t : Addr) (w : World) : (ReflectliteValue.unpack (.iface 97 (.pointer (some t)))).run Tryd.prog w
    = .ok (.agg #[.pointer (some ⟨4, 97, none⟩), .pointer (some ⟨w.heap.size, 0, none⟩), .int .u64 150]) (w.alloc (.cells #[.pointer (some t)] 97)) := by kernel_rfl

theorem Tryd.rlTypePE (a : Addr) (w : World) : (ReflectliteValue.methodAny (ReflectliteValue.valueError "reflectlite.Value.Type" 0) (fun t _ _ _ => ReflectliteType.toType t) #[.agg #[.pointer (some ⟨4, 97, none⟩), .pointer (some a), .int .u64 150]]).run Tryd.prog w
    = .ok (.iface 155 (.agg #[.pointer (some ⟨4, 97, none⟩)])) w := by kernel_rfl

theorem Tryd.rlMethodKind (h : Value) (w : World) : (Go.method 302 155 (.agg #[h]) "Kind").run Tryd.prog w = .ok (118, h) w := by kernel_rfl

theorem Tryd.rlKindPE (w : World) : ((ReflectliteType.abiMethod fun t => (fun a : Nat => Value.int IntKind.u8 (a : Int)) <$> Rtype.kind t) #[.pointer (some ⟨4, 97, none⟩)]).run Tryd.prog w = .ok (.int .u8 22) w := by kernel_rfl

theorem Tryd.rlKindE (w : World) : ((ReflectliteType.abiMethod fun t => (fun a : Nat => Value.int IntKind.u8 (a : Int)) <$> Rtype.kind t) #[.pointer (some ⟨4, 27, none⟩)]).run Tryd.prog w = .ok (.int .u8 2) w := by kernel_rfl

theorem Tryd.rlPartsPE (a : Addr) (w : World) : (ReflectliteValue.parts (.agg #[.pointer (some ⟨4, 97, none⟩), .pointer (some a), .int .u64 150])).run Tryd.prog w = .ok (some (97, a, 150)) w := by kernel_rfl

theorem Tryd.rlIsNilPE (a p : Addr) (W : World) (ha : W.cell? a = some (.pointer (some p))) :
    (ReflectliteValue.method (ReflectliteValue.valueError "reflectlite.Value.IsNil" 0) ReflectliteValue.isNil #[.agg #[.pointer (some ⟨4, 97, none⟩), .pointer (some a), .int .u64 150]]).run Tryd.prog W = .ok (.bool false) W := by
  change Sem.run _ (ReflectliteValue.parts (.agg #[.pointer (some ⟨4, 97, none⟩), .pointer (some a), .int .u64 150]) >>= _) _ = _
  simp only [Sem.run_bind, Tryd.rlPartsPE, Result.andThen]
  simp [ReflectliteValue.isNil, loadVar, isAgg, underlying, Tryd.underlying97, ha, Result.andThen]

theorem Tryd.rlMethodElem (h : Value) (w : World) : (Go.method 302 155 (.agg #[h]) "Elem").run Tryd.prog w = .ok (131, .agg #[h]) w := by kernel_rfl

theorem Tryd.rlMethodImplements (h : Value) (w : World) : (Go.method 302 155 (.agg #[h]) "Implements").run Tryd.prog w = .ok (132, .agg #[h]) w := by kernel_rfl

theorem Tryd.rlMethodAssignableTo (h : Value) (w : World) : (Go.method 302 155 (.agg #[h]) "AssignableTo").run Tryd.prog w = .ok (129, .agg #[h]) w := by kernel_rfl

theorem Tryd.rlElemPE (w : World) : (ReflectliteType.method ReflectliteType.elem #[.agg #[.pointer (some ⟨4, 97, none⟩)]]).run Tryd.prog w = .ok (.iface 155 (.agg #[.pointer (some ⟨4, 27, none⟩)])) w := by kernel_rfl

theorem Tryd.rlImplementsE (w : World) : (ReflectliteType.relation "Implements" ReflectliteType.implements_ #[.agg #[.pointer (some ⟨4, 27, none⟩)], .iface 155 (.agg #[.pointer (some ⟨4, 33, none⟩)])]).run Tryd.prog w = .ok (.bool true) w := by kernel_rfl

theorem Tryd.rlTypeOfE (v : Value) (w : World) : (ReflectliteType.typeOf #[.iface 27 v]).run Tryd.prog w = .ok (.iface 155 (.agg #[.pointer (some ⟨4, 27, none⟩)])) w := by kernel_rfl

theorem Tryd.rlTypeOfA (v : Value) (w : World) : (ReflectliteType.typeOf #[.iface 102 v]).run Tryd.prog w = .ok (.iface 155 (.agg #[.pointer (some ⟨4, 102, none⟩)])) w := by kernel_rfl

theorem Tryd.rlAssignableEE (w : World) : (ReflectliteType.relation "AssignableTo" ReflectliteType.assignableTo #[.agg #[.pointer (some ⟨4, 27, none⟩)], .iface 155 (.agg #[.pointer (some ⟨4, 27, none⟩)])]).run Tryd.prog w = .ok (.bool true) w := by kernel_rfl

theorem Tryd.rlAssignableAE (w : World) : (ReflectliteType.relation "AssignableTo" ReflectliteType.assignableTo #[.agg #[.pointer (some ⟨4, 102, none⟩)], .iface 155 (.agg #[.pointer (some ⟨4, 27, none⟩)])]).run Tryd.prog w = .ok (.bool false) w := by kernel_rfl

theorem Tryd.rlValueOfE (x : Int) (w : World) : (ReflectliteValue.unpack (.iface 27 (.int .i64 x))).run Tryd.prog w
    = .ok (.agg #[.pointer (some ⟨4, 27, none⟩), .pointer (some ⟨w.heap.size, 0, none⟩), .int .u64 130]) (w.alloc (.cells #[.int .i64 x] 27)) := by kernel_rfl

theorem Tryd.rlElemOfPE (w : World) : (Rtype.elem? 97).run Tryd.prog w = .ok (some 27) w := by kernel_rfl

theorem Tryd.rlMkE (p : Addr) (w : World) : (ReflectliteValue.mk 27 p ReflectliteValue.flagAddr).run Tryd.prog w = .ok (.agg #[.pointer (some ⟨4, 27, none⟩), .pointer (some p), .int .u64 386]) w := by kernel_rfl

theorem Tryd.rlElemVPE (a p : Addr) (W : World) (ha : W.cell? a = some (.pointer (some p))) :
    (ReflectliteValue.method (ReflectliteValue.valueError "reflectlite.Value.Elem" 0) ReflectliteValue.elem #[.agg #[.pointer (some ⟨4, 97, none⟩), .pointer (some a), .int .u64 150]]).run Tryd.prog W
      = .ok (.agg #[.pointer (some ⟨4, 27, none⟩), .pointer (some p), .int .u64 386]) W := by
  change Sem.run _ (ReflectliteValue.parts (.agg #[.pointer (some ⟨4, 97, none⟩), .pointer (some a), .int .u64 150]) >>= _) _ = _
  simp only [Sem.run_bind, Tryd.rlPartsPE, Result.andThen]
  simp [ReflectliteValue.elem, loadVar, isAgg, underlying, Tryd.underlying97, ha, Result.andThen, Tryd.rlElemOfPE, Tryd.rlMkE]

theorem Tryd.rlPartsEa (a : Addr) (w : World) : (ReflectliteValue.parts (.agg #[.pointer (some ⟨4, 27, none⟩), .pointer (some a), .int .u64 386])).run Tryd.prog w = .ok (some (27, a, 386)) w := by kernel_rfl

theorem Tryd.rlPartsE (a : Addr) (w : World) : (ReflectliteValue.parts (.agg #[.pointer (some ⟨4, 27, none⟩), .pointer (some a), .int .u64 130])).run Tryd.prog w = .ok (some (27, a, 130)) w := by kernel_rfl

theorem Tryd.rlDirectE (w : World) : (Rtype.directlyAssignable 27 27).run Tryd.prog w = .ok true w := by kernel_rfl

theorem Tryd.rlSizeE (w : World) : (sizeOf 27).run Tryd.prog w = .ok 1 w := by kernel_rfl

theorem Tryd.rlSetE (ta b : Addr) (x : Int) (old : Value) (W : World) (hb : W.cell? b = some (.int .i64 x)) (ht : W.cell? ta = some old) (hf : W.frozen? ta = false) :
    (ReflectliteValue.set #[.agg #[.pointer (some ⟨4, 27, none⟩), .pointer (some ta), .int .u64 386], .agg #[.pointer (some ⟨4, 27, none⟩), .pointer (some b), .int .u64 130]]).run Tryd.prog W
      = .ok (.tuple #[]) (W.setCell ta (.int .i64 x)) := by
  change Sem.run _ (ReflectliteValue.parts (.agg #[.pointer (some ⟨4, 27, none⟩), .pointer (some ta), .int .u64 386]) >>= fun _ => ReflectliteValue.parts (.agg #[.pointer (some ⟨4, 27, none⟩), .pointer (some b), .int .u64 130]) >>= _) _ = _
  simp only [Sem.run_bind, Tryd.rlPartsEa, Tryd.rlPartsE, Result.andThen]
  simp [ReflectliteValue.flagAddr, loadVar, isAgg, underlying, Tryd.underlying27, hb, Result.andThen, Tryd.rlDirectE, storeVar, Value.cells, storeCells, Addr.add]
  rw [run_store Tryd.prog W ta _ _ (by rfl)]
  simp [ht, hf]

end Go.Proofs.YtjoepmfineinfaaDoor

namespace Go.Proofs.YtjoepmfineinfaaDoor
open Go.RowKit Go.Extern.Stop Go.Stop Go.Extern

/-- The variable errors.errorType holds the type error's handle. -/
def HasErr (w : World) : Prop := w.cell? ⟨0, 0, none⟩ = some (.iface 155 (.agg #[.pointer (some ⟨4, 33, none⟩)]))

theorem HasErr.lt {w : World} (h : HasErr w) : 0 < w.heap.size := by
  rcases Nat.lt_or_ge 0 w.heap.size with h' | h'
  · exact h'
  · have : w.cell? ⟨0, 0, none⟩ = none := by simp [World.cell?, Array.getElem?_eq_none h']
    unfold HasErr at h
    rw [this] at h
    cases h

theorem HasErr.alloc {w : World} (h : HasErr w) (o : Obj) : HasErr (w.alloc o) := (World.cell?_alloc_lt _ _ _ h.lt).trans h

theorem HasErr.below {w w' : World} (h : HasErr w) (hb : Below w.heap.size w w') : HasErr w' := (hb.cell (p := ⟨0, 0, none⟩) h.lt).trans h

theorem as_nil (t : Value) (w : World) :
    Calls Tryd.prog 58 #[.nilIface, t] w fun e w' => e = .returned (.bool false) ∧ w' = w := by
  go_enter Tryd.func58, Tryd.ntmps58
  go_wp2
  go_ret
  exact ⟨rfl, rfl⟩

set_option maxHeartbeats 4000000 in
/-- errors.As, the error is an Errno: it is found. -/
theorem as_errno (x : Int) (t : Addr) (old : Value) (w : World) (hg : HasErr w) (ht0 : w.cell? t = some old) (hf0 : w.frozen? t = false) :
    Calls Tryd.prog 58 #[.iface 27 (.int .i64 x), .iface 97 (.pointer (some t))] w fun ev w' => ev = .returned (.bool true) ∧ ∃ w1, Below w.heap.size w w1 ∧ w' = w1.setCell t (.int .i64 x) := by
  have hVO := @run_callFunc_extern Tryd.prog 79 _ (fun args => ReflectliteValue.unpack (args.getD 0 (.tuple #[]))) Tryd.func79 (by kernel_rfl) (by kernel_rfl) (by kernel_rfl) (by kernel_rfl)
  have hTy := @run_callFunc_extern Tryd.prog 80 _ (ReflectliteValue.methodAny (ReflectliteValue.valueError "reflectlite.Value.Type" 0) (fun t _ _ _ => ReflectliteType.toType t)) Tryd.func80 (by kernel_rfl) (by kernel_rfl) (by kernel_rfl) (by kernel_rfl)
  have hIN := @run_callFunc_extern Tryd.prog 81 _ (ReflectliteValue.method (ReflectliteValue.valueError "reflectlite.Value.IsNil" 0) ReflectliteValue.isNil) Tryd.func81 (by kernel_rfl) (by kernel_rfl) (by kernel_rfl) (by kernel_rfl)
  have hKi := @run_callFunc_extern Tryd.prog 118 _ (ReflectliteType.abiMethod fun t => do pure (.int .u8 (← Rtype.kind t))) Tryd.func118 (by kernel_rfl) (by kernel_rfl) (by kernel_rfl) (by kernel_rfl)
  have hEl := @run_callFunc_extern Tryd.prog 131 _ (ReflectliteType.method ReflectliteType.elem) Tryd.func131 (by kernel_rfl) (by kernel_rfl) (by kernel_rfl) (by kernel_rfl)
  have hIm := @run_callFunc_extern Tryd.prog 132 _ (ReflectliteType.relation "Implements" ReflectliteType.implements_) Tryd.func132 (by kernel_rfl) (by kernel_rfl) (by kernel_rfl) (by kernel_rfl)
  have hTO := @run_callFunc_extern Tryd.prog 93 _ ReflectliteType.typeOf Tryd.func93 (by kernel_rfl) (by kernel_rfl) (by kernel_rfl) (by kernel_rfl)
  have hAT := @run_callFunc_extern Tryd.prog 129 _ (ReflectliteType.relation "AssignableTo" ReflectliteType.assignableTo) Tryd.func129 (by kernel_rfl) (by kernel_rfl) (by kernel_rfl) (by kernel_rfl)
  have hEV := @run_callFunc_extern Tryd.prog 94 _ (ReflectliteValue.method (ReflectliteValue.valueError "reflectlite.Value.Elem" 0) ReflectliteValue.elem) Tryd.func94 (by kernel_rfl) (by kernel_rfl) (by kernel_rfl) (by kernel_rfl)
  have hSe := @run_callFunc_extern Tryd.prog 95 _ ReflectliteValue.set Tryd.func95 (by kernel_rfl) (by kernel_rfl) (by kernel_rfl) (by kernel_rfl)
  have q1 := Tryd.rlValueOfPE
  have q2 := Tryd.rlTypePE
  have q3 := Tryd.rlMethodKind
  have q4 := Tryd.rlKindPE
  have q5 := Tryd.rlKindE
  have q6 := Tryd.rlMethodElem
  have q7 := Tryd.rlMethodImplements
  have q8 := Tryd.rlMethodAssignableTo
  have q9 := Tryd.rlElemPE
  have q10 := Tryd.rlImplementsE
  have q11 := Tryd.rlTypeOfE
  have q12 := Tryd.rlAssignableEE
  have q13 := Tryd.rlValueOfE
  have n8 := Tryd.rlIsNilPE ⟨w.heap.size, 0, none⟩ t ((w.alloc (.cells #[.pointer (some t)] 97)).alloc (.cells #[.pointer (some ⟨4, 97, none⟩), .pointer (some ⟨w.heap.size, 0, none⟩), .int .u64 150] 134)) (by simp)
  have hg2 : ((w.alloc (.cells #[.pointer (some t)] 97)).alloc (.cells #[.pointer (some ⟨4, 97, none⟩), .pointer (some ⟨w.heap.size, 0, none⟩), .int .u64 150] 134)).cell? ⟨0, 0, none⟩ = some (.iface 155 (.agg #[.pointer (some ⟨4, 33, none⟩)])) := (hg.alloc _).alloc _
  have htl : t.block < w.heap.size := by
    rcases Nat.lt_or_ge t.block w.heap.size with h | h
    · exact h
    · simp [World.cell?, Array.getElem?_eq_none h] at ht0
  have el := Tryd.rlElemVPE ⟨w.heap.size, 0, none⟩ t (((w.alloc (.cells #[.pointer (some t)] 97)).alloc (.cells #[.pointer (some ⟨4, 97, none⟩), .pointer (some ⟨w.heap.size, 0, none⟩), .int .u64 150] 134)).alloc (.cells #[.pointer (some ⟨4, 97, none⟩), .pointer (some ⟨w.heap.size, 0, none⟩), .int .u64 150] 134)) (by rw [World.cell?_alloc_lt _ _ ⟨w.heap.size, 0, none⟩ (by simp; omega)]; simp)
  have st := Tryd.rlSetE t ⟨w.heap.size + 1 + 1 + 1, 0, none⟩ x old ((((w.alloc (.cells #[.pointer (some t)] 97)).alloc (.cells #[.pointer (some ⟨4, 97, none⟩), .pointer (some ⟨w.heap.size, 0, none⟩), .int .u64 150] 134)).alloc (.cells #[.pointer (some ⟨4, 97, none⟩), .pointer (some ⟨w.heap.size, 0, none⟩), .int .u64 150] 134)).alloc (.cells #[.int .i64 x] 27))
    (by rw [World.cell?_alloc_at _ _ _ _ (by simp)]; rfl)
    (by rw [World.cell?_alloc_lt _ _ t (by simp; omega), World.cell?_alloc_lt _ _ t (by simp; omega), World.cell?_alloc_lt _ _ t (by simp; omega), World.cell?_alloc_lt _ _ t htl]; exact ht0)
    (by rw [World.frozen?_alloc_old _ _ t (by simp; omega), World.frozen?_alloc_old _ _ t (by simp; omega), World.frozen?_alloc_old _ _ t (by simp; omega), World.frozen?_alloc_old _ _ t (Nat.ne_of_lt htl)]; exact hf0)
  have hB : Below w.heap.size w ((((w.alloc (.cells #[.pointer (some t)] 97)).alloc (.cells #[.pointer (some ⟨4, 97, none⟩), .pointer (some ⟨w.heap.size, 0, none⟩), .int .u64 150] 134)).alloc (.cells #[.pointer (some ⟨4, 97, none⟩), .pointer (some ⟨w.heap.size, 0, none⟩), .int .u64 150] 134)).alloc (.cells #[.int .i64 x] 27)) := ((((Below.refl _ _).alloc (Nat.le_refl _) _).alloc (by simp) _).alloc (by simp; omega) _).alloc (by simp; omega) _
  have HB := Lib.hid hB
  clear hB
  go_enter Tryd.func58, Tryd.ntmps58
  go_wp2
  refine wp_loop_rounds 1 ?_
  rw [rounds_succ]
  go_wp2
  go_ret
  exact ⟨rfl, _, HB.out, rfl⟩
/-! What is asked of an *api.At: it has no As, it has an Unwrap. -/

theorem Tryd.noAsA (v : Value) (xT : TypeId) (w : World) : (Instr.typeAssert (.iface 102 v) xT 160 true).run Tryd.prog w = .ok (.tuple #[.nilIface, .bool false]) w :=
  run_typeAssert_lacksB Tryd.underlying160 (by kernel_rfl) (by kernel_rfl) v xT w

theorem Tryd.hasUnwrapA (v : Value) (xT : TypeId) (w : World) : (Instr.typeAssert (.iface 102 v) xT 112 true).run Tryd.prog w = .ok (.tuple #[.iface 102 v, .bool true]) w :=
  run_typeAssert_hasB Tryd.underlying112 (by kernel_rfl) v xT w

theorem Tryd.methodUnwrapA (a : Addr) (w : World) : (Go.method 302 102 (.pointer (some a)) "Unwrap").run Tryd.prog w = .ok (123, .pointer (some a)) w := by kernel_rfl

theorem Tryd.nilAheadA (a : Addr) (w : World) : (Go.nilAhead 302 102 (.pointer (some a)) "Unwrap").run Tryd.prog w = .ok (some false) w := by kernel_rfl

set_option maxHeartbeats 4000000 in
/-- errors.As, the error is an *api.At: its Unwrap is asked, and is an Errno. -/
theorem as_at (p : Nat) (x y : Int) (t : Addr) (old : Value) (w : World) (hp : Flt w p x y) (hg : HasErr w) (ht0 : w.cell? t = some old) (hf0 : w.frozen? t = false) :
    Calls Tryd.prog 58 #[.iface 102 (.pointer (some ⟨p, 0, none⟩)), .iface 97 (.pointer (some t))] w fun ev w' => ev = .returned (.bool true) ∧ ∃ w1, Below w.heap.size w w1 ∧ w' = w1.setCell t (.int .i64 x) := by
  have hVO := @run_callFunc_extern Tryd.prog 79 _ (fun args => ReflectliteValue.unpack (args.getD 0 (.tuple #[]))) Tryd.func79 (by kernel_rfl) (by kernel_rfl) (by kernel_rfl) (by kernel_rfl)
  have hTy := @run_callFunc_extern Tryd.prog 80 _ (ReflectliteValue.methodAny (ReflectliteValue.valueError "reflectlite.Value.Type" 0) (fun t _ _ _ => ReflectliteType.toType t)) Tryd.func80 (by kernel_rfl) (by kernel_rfl) (by kernel_rfl) (by kernel_rfl)
  have hIN := @run_callFunc_extern Tryd.prog 81 _ (ReflectliteValue.method (ReflectliteValue.valueError "reflectlite.Value.IsNil" 0) ReflectliteValue.isNil) Tryd.func81 (by kernel_rfl) (by kernel_rfl) (by kernel_rfl) (by kernel_rfl)
  have hKi := @run_callFunc_extern Tryd.prog 118 _ (ReflectliteType.abiMethod fun t => do pure (.int .u8 (← Rtype.kind t))) Tryd.func118 (by kernel_rfl) (by kernel_rfl) (by kernel_rfl) (by kernel_rfl)
  have hEl := @run_callFunc_extern Tryd.prog 131 _ (ReflectliteType.method ReflectliteType.elem) Tryd.func131 (by kernel_rfl) (by kernel_rfl) (by kernel_rfl) (by kernel_rfl)
  have hIm := @run_callFunc_extern Tryd.prog 132 _ (ReflectliteType.relation "Implements" ReflectliteType.implements_) Tryd.func132 (by kernel_rfl) (by kernel_rfl) (by kernel_rfl) (by kernel_rfl)
  have hTO := @run_callFunc_extern Tryd.prog 93 _ ReflectliteType.typeOf Tryd.func93 (by kernel_rfl) (by kernel_rfl) (by kernel_rfl) (by kernel_rfl)
  have hAT := @run_callFunc_extern Tryd.prog 129 _ (ReflectliteType.relation "AssignableTo" ReflectliteType.assignableTo) Tryd.func129 (by kernel_rfl) (by kernel_rfl) (by kernel_rfl) (by kernel_rfl)
  have hEV := @run_callFunc_extern Tryd.prog 94 _ (ReflectliteValue.method (ReflectliteValue.valueError "reflectlite.Value.Elem" 0) ReflectliteValue.elem) Tryd.func94 (by kernel_rfl) (by kernel_rfl) (by kernel_rfl) (by kernel_rfl)
  have hSe := @run_callFunc_extern Tryd.prog 95 _ ReflectliteValue.set Tryd.func95 (by kernel_rfl) (by kernel_rfl) (by kernel_rfl) (by kernel_rfl)
  have q1 := Tryd.rlValueOfPE
  have q2 := Tryd.rlTypePE
  have q3 := Tryd.rlMethodKind
  have q4 := Tryd.rlKindPE
  have q5 := Tryd.rlKindE
  have q6 := Tryd.rlMethodElem
  have q7 := Tryd.rlMethodImplements
  have q8 := Tryd.rlMethodAssignableTo
  have q9 := Tryd.rlElemPE
  have q10 := Tryd.rlImplementsE
  have q11 := Tryd.rlTypeOfE
  have q12 := Tryd.rlAssignableEE
  have q13 := Tryd.rlValueOfE
  have q14 := Tryd.rlTypeOfA
  have q15 := Tryd.rlAssignableAE
  have q16 := Tryd.noAsA
  have q17 := Tryd.hasUnwrapA
  have q18 := Tryd.methodUnwrapA
  have q19 := Tryd.nilAheadA
  have n8 := Tryd.rlIsNilPE ⟨w.heap.size, 0, none⟩ t ((w.alloc (.cells #[.pointer (some t)] 97)).alloc (.cells #[.pointer (some ⟨4, 97, none⟩), .pointer (some ⟨w.heap.size, 0, none⟩), .int .u64 150] 134)) (by simp)
  have hg2 : ((w.alloc (.cells #[.pointer (some t)] 97)).alloc (.cells #[.pointer (some ⟨4, 97, none⟩), .pointer (some ⟨w.heap.size, 0, none⟩), .int .u64 150] 134)).cell? ⟨0, 0, none⟩ = some (.iface 155 (.agg #[.pointer (some ⟨4, 33, none⟩)])) := (hg.alloc _).alloc _
  have htl : t.block < w.heap.size := by
    rcases Nat.lt_or_ge t.block w.heap.size with h | h
    · exact h
    · simp [World.cell?, Array.getElem?_eq_none h] at ht0
  have el := Tryd.rlElemVPE ⟨w.heap.size, 0, none⟩ t (((w.alloc (.cells #[.pointer (some t)] 97)).alloc (.cells #[.pointer (some ⟨4, 97, none⟩), .pointer (some ⟨w.heap.size, 0, none⟩), .int .u64 150] 134)).alloc (.cells #[.pointer (some ⟨4, 97, none⟩), .pointer (some ⟨w.heap.size, 0, none⟩), .int .u64 150] 134)) (by rw [World.cell?_alloc_lt _ _ ⟨w.heap.size, 0, none⟩ (by simp; omega)]; simp)
  have st := Tryd.rlSetE t ⟨w.heap.size + 1 + 1 + 1, 0, none⟩ x old ((((w.alloc (.cells #[.pointer (some t)] 97)).alloc (.cells #[.pointer (some ⟨4, 97, none⟩), .pointer (some ⟨w.heap.size, 0, none⟩), .int .u64 150] 134)).alloc (.cells #[.pointer (some ⟨4, 97, none⟩), .pointer (some ⟨w.heap.size, 0, none⟩), .int .u64 150] 134)).alloc (.cells #[.int .i64 x] 27))
    (by rw [World.cell?_alloc_at _ _ _ _ (by simp)]; rfl)
    (by rw [World.cell?_alloc_lt _ _ t (by simp; omega), World.cell?_alloc_lt _ _ t (by simp; omega), World.cell?_alloc_lt _ _ t (by simp; omega), World.cell?_alloc_lt _ _ t htl]; exact ht0)
    (by rw [World.frozen?_alloc_old _ _ t (by simp; omega), World.frozen?_alloc_old _ _ t (by simp; omega), World.frozen?_alloc_old _ _ t (by simp; omega), World.frozen?_alloc_old _ _ t (Nat.ne_of_lt htl)]; exact hf0)
  have hB : Below w.heap.size w ((((w.alloc (.cells #[.pointer (some t)] 97)).alloc (.cells #[.pointer (some ⟨4, 97, none⟩), .pointer (some ⟨w.heap.size, 0, none⟩), .int .u64 150] 134)).alloc (.cells #[.pointer (some ⟨4, 97, none⟩), .pointer (some ⟨w.heap.size, 0, none⟩), .int .u64 150] 134)).alloc (.cells #[.int .i64 x] 27)) := ((((Below.refl _ _).alloc (Nat.le_refl _) _).alloc (by simp) _).alloc (by simp; omega) _).alloc (by simp; omega) _
  have hc0 : (((w.alloc (.cells #[.pointer (some t)] 97)).alloc (.cells #[.pointer (some ⟨4, 97, none⟩), .pointer (some ⟨w.heap.size, 0, none⟩), .int .u64 150] 134)).alloc (.cells #[.pointer (some ⟨4, 97, none⟩), .pointer (some ⟨w.heap.size, 0, none⟩), .int .u64 150] 134)).cell? ⟨p, 0, none⟩ = some (.int .i64 x) := (((hp.alloc _).alloc _).alloc _).c0
  have HB := Lib.hid hB
  clear hB
  go_enter Tryd.func58, Tryd.ntmps58
  go_wp2
  refine wp_loop_rounds 2 ?_
  rw [rounds_succ]
  go_wp2
  rw [rounds_succ]
  go_wp2
  go_ret
  exact ⟨rfl, _, HB.out, rfl⟩

end Go.Proofs.YtjoepmfineinfaaDoor

namespace Go.Proofs.YtjoepmfineinfaaDoor
open Go.RowKit Go.Extern.Stop Go.Stop Go.Extern

/-- What errors.As leaves: the target holds the Errno; nothing else that was there is changed. -/
theorem as_left {t : Addr} {x : Int} {old : Value} {w w1 : World} (hb : Below w.heap.size w w1) (ht : w.cell? t = some old) :
    (w1.setCell t (.int .i64 x)).cell? t = some (.int .i64 x) ∧ w.grownBy (w1.setCell t (.int .i64 x)) (some t.block) := by
  have hlt : t.block < w.heap.size := World.block_lt_of_cell? w t ht
  have hc : w1.cell? t = some old := (hb.cell hlt).trans ht
  refine ⟨World.cell?_setCell_same' w1 t _ (by rw [hc]; rfl), hb.os, hb.tape, hb.output, by simpa [World.setCell] using hb.size, fun k hk hne => ?_⟩
  exact (Below.heap_setCell _ _ _ _ (by intro e; exact hne (by rw [e]))).trans (hb.block k hk)

theorem tell_nil (w : World) : Calls Tryd.prog 21 #[.nilIface] w fun e w' => e = .returned (.int .i64 0) ∧ w = w' := by
  go_enter Tryd.func21, Tryd.ntmps21
  go_wp2
  go_ret
  exact ⟨rfl, rfl⟩

theorem tell_errno (x : Int) (w : World) (hg : HasErr w) : Calls Tryd.prog 21 #[.iface 27 (.int .i64 x)] w fun e w' => e = .returned (.int .i64 x) ∧ Below w.heap.size w w' := by
  go_enter Tryd.func21, Tryd.ntmps21
  go_wp2_with fail
  have hc : (w.alloc (.cells #[.int .i64 0] 27)).cell? ⟨w.heap.size, 0, none⟩ = some (.int .i64 0) := by simp
  refine (as_errno x ⟨w.heap.size, 0, none⟩ (.int .i64 0) _ (hg.alloc _) hc (by simp)).mono ?_
  rintro e w' ⟨rfl, w1, hb1, rfl⟩
  obtain ⟨h1, h2⟩ := as_left (x := x) hb1 hc
  have hB : Below w.heap.size w (w1.setCell ⟨w.heap.size, 0, none⟩ (.int .i64 x)) := ((Below.refl _ _).alloc (Nat.le_refl _) _).grown h2 (by simp) (fun k e => by cases e; exact Nat.le_refl _)
  clear hb1 h2 hc
  generalize w1.setCell ⟨w.heap.size, 0, none⟩ (.int .i64 x) = w2 at *
  go_wp2
  go_ret
  exact ⟨rfl, hB⟩

theorem tell_at (p : Nat) (x y : Int) (w : World) (hg : HasErr w) (hp : Flt w p x y) : Calls Tryd.prog 21 #[.iface 102 (.pointer (some ⟨p, 0, none⟩))] w fun e w' => e = .returned (.int .i64 x) ∧ Below w.heap.size w w' := by
  go_enter Tryd.func21, Tryd.ntmps21
  go_wp2_with fail
  have hc : (w.alloc (.cells #[.int .i64 0] 27)).cell? ⟨w.heap.size, 0, none⟩ = some (.int .i64 0) := by simp
  refine (as_at p x y ⟨w.heap.size, 0, none⟩ (.int .i64 0) _ (hp.alloc _) (hg.alloc _) hc (by simp)).mono ?_
  rintro e w' ⟨rfl, w1, hb1, rfl⟩
  obtain ⟨h1, h2⟩ := as_left (x := x) hb1 hc
  have hB : Below w.heap.size w (w1.setCell ⟨w.heap.size, 0, none⟩ (.int .i64 x)) := ((Below.refl _ _).alloc (Nat.le_refl _) _).grown h2 (by simp) (fun k e => by cases e; exact Nat.le_refl _)
  clear hb1 h2 hc
  generalize w1.setCell ⟨w.heap.size, 0, none⟩ (.int .i64 x) = w2 at *
  go_wp2
  go_ret
  exact ⟨rfl, hB⟩

theorem Tryd.noUnwrapE (v : Value) (xT : TypeId) (w : World) : (Instr.typeAssert (.iface 27 v) xT 112 true).run Tryd.prog w = .ok (.tuple #[.nilIface, .bool false]) w :=
  run_typeAssert_lacksB Tryd.underlying112 (by kernel_rfl) (by kernel_rfl) v xT w

theorem Tryd.noAtE (v : Value) (w : World) : (Instr.typeAssert (.iface 27 v) 33 102 true).run Tryd.prog w = .ok (.tuple #[.pointer none, .bool false]) w := by kernel_rfl

theorem Tryd.isAtA (v : Value) (w : World) : (Instr.typeAssert (.iface 102 v) 33 102 true).run Tryd.prog w = .ok (.tuple #[v, .bool true]) w := by kernel_rfl

theorem place_nil (w : World) : Calls Tryd.prog 40 #[.nilIface] w fun e w' => e = .returned (.tuple #[.int .i64 0, .int .i64 (-1)]) ∧ w = w' := by
  go_enter Tryd.func40, Tryd.ntmps40
  go_wp2_with fail
  refine (tell_nil _).mono ?_
  rintro e w' ⟨rfl, rfl⟩
  go_wp2
  refine wp_loop_rounds 1 ?_
  rw [rounds_succ]
  go_wp2
  go_ret2
  exact ⟨rfl, rfl⟩

set_option maxRecDepth 100000 in
theorem place_errno (x : Int) (w : World) (hg : HasErr w) : Calls Tryd.prog 40 #[.iface 27 (.int .i64 x)] w fun e w' => e = .returned (.tuple #[.int .i64 x, .int .i64 (-1)]) ∧ Below w.heap.size w w' := by
  have q := Tryd.noUnwrapE
  have q2 := Tryd.noAtE
  go_enter Tryd.func40, Tryd.ntmps40
  go_wp2_with fail
  refine (tell_errno x _ hg).mono ?_
  rintro e w' ⟨rfl, hB⟩
  go_wp2
  refine wp_loop_rounds 1 ?_
  rw [rounds_succ]
  go_wp2
  go_ret2
  exact ⟨rfl, hB⟩

set_option maxRecDepth 100000 in
theorem place_at (p : Nat) (x y : Int) (w : World) (hg : HasErr w) (hp : Flt w p x y) : Calls Tryd.prog 40 #[.iface 102 (.pointer (some ⟨p, 0, none⟩))] w fun e w' => e = .returned (.tuple #[.int .i64 x, .int .i64 y]) ∧ Below w.heap.size w w' := by
  have q2 := Tryd.isAtA
  go_enter Tryd.func40, Tryd.ntmps40
  go_wp2_with fail
  refine (tell_at p x y _ hg hp).mono ?_
  rintro e w' ⟨rfl, hB⟩
  have hc : w'.cell? ⟨p, 1, none⟩ = some (.int .i64 y) := (hB.cell (p := ⟨p, 1, none⟩) hp.lt).trans hp.c1
  go_wp2
  refine wp_loop_rounds 1 ?_
  rw [rounds_succ]
  go_wp2
  go_region
  all_goals go_wp2
  all_goals go_ret2
  all_goals exact ⟨rfl, hB.drew⟩

end Go.Proofs.YtjoepmfineinfaaDoor

namespace Go.Proofs.YtjoepmfineinfaaDoor.bpduBack
open Go.RowKit
attribute [local go_sem ↓] Go.wp_at_zero Go.wp_at_succ
set_option linter.unusedSimpArgs false
set_option linter.unusedVariables false
set_option maxRecDepth 100000

set_option maxHeartbeats 6400000 in
theorem walk (b : Bp) (hx : byBp b) (hr : rgBp b) (t : ByteArray) (w : World) (hE : HasErr w) :
    Calls Tryd.prog 6 #[.agg (bpC b), .string t] w fun e w' => e = .returned (.bool true) ∧ Below w.heap.size w w' := by
  have hnn : ∀ w : World, (binOp BinOp.eql 33 .nilIface .nilIface).run Tryd.prog w = .ok (.bool true) w := fun _ => by kernel_rfl
  have HA := Blk.new w 52 (bpC b)
  have B0 : Below w.heap.size w (w.alloc (.cells (bpC b) 52)) := (Below.refl _ _).alloc (Nat.le_refl _) _
  by_cases hs : t.size ≤ 200
  · have hgt : decide ((200 : Int) < (t.size : Int)) = false := decide_eq_false (by omega)
    have HR := Lib.hid (fun W => bpRight_any b hr W)
    cases hok : okBp b with
    | false =>
      have HW := Lib.hid (fun W => bpWrite_no b hok hr W)
      rw [hok] at HR
      go_enter Tryd.func6, Tryd.ntmps6
      go_upto_region 1 with (fail)
      generalize (w.alloc (.cells (bpC b) 52)) = w1 at *
      go_wp2_with fail
      refine (bridged_any _).mono ?_
      rintro e w2 ⟨rfl, k2⟩
      have HA2 := HA.kept k2
      have B2 := B0.trans (k2.mono B0.size)
      clear HA B0 k2
      go_wp2_with (refine load_blk (k := 0) 52 (bpC b) (by rfl) rfl rfl HA2 (by kernel_rfl) (by kernel_rfl) rfl ?_)
      refine (HW.out _).mono ?_
      rintro e w3 ⟨rfl, k3⟩
      have HA3 := HA2.kept k3
      have B3 := B2.trans (k3.mono B2.size)
      clear HA2 B2 k3
      go_wp2_with (refine load_blk (k := 0) 52 (bpC b) (by rfl) rfl rfl HA3 (by kernel_rfl) (by kernel_rfl) rfl ?_)
      refine (HR.out _).mono ?_
      rintro e w4 ⟨rfl, k4⟩
      have HA4 := HA3.kept k4
      have B4 := B3.trans (k4.mono B3.size)
      clear HA3 B3 k4
      go_wp2_with fail
      refine (tell_errno 1 _ (hE.below B4)).mono ?_
      rintro e w5 ⟨rfl, k5⟩
      go_wp2
      go_ret
      exact ⟨rfl, B4.trans (k5.mono B4.size)⟩
    | true =>
      have HW := Lib.hid (fun W => bpWrite_yes b hok hx hr W)
      rw [hok] at HR
      have HQ : ∀ W, (Op.equalIn 10000 52 (.agg (bpC b)) (.agg (bpC b))).run Tryd.prog W = .ok true W := fun W => by
        have h := run_eql_bp 9996 b b W
        rw [eqBp_self] at h
        exact h
      obtain ⟨m, rfl⟩ : ∃ m : List UInt8, t = ⟨m.toArray⟩ := ⟨t.data.toList, rfl⟩
      have hm : m.length ≤ 200 := by simpa [ByteArray.size] using hs
      have hwl := writeL_len b
      have hw36 : (writeL b).length ≤ 36 := by rw [hwl]; split <;> (try split) <;> omega
      have HRd := Lib.hid (fun W => read_list b hok hx m (by rw [List.length_append]; omega) W)
      have hk : b.k = 1 ∨ b.k = 2 ∨ b.k = 3 := by
        unfold okBp at hok
        by_cases k1 : b.k = 1
        · exact Or.inl k1
        · by_cases k2 : b.k = 2
          · exact Or.inr (Or.inl k2)
          · by_cases k3 : b.k = 3
            · exact Or.inr (Or.inr k3)
            · rw [if_neg k1, if_neg k2, if_neg k3] at hok
              cases hok
      generalize writeL b = y at *
      have p1 : ∀ W, (Op.stringOp .add ⟨y.toArray⟩ ⟨m.toArray⟩).run Tryd.prog W = .ok (.string ⟨(y ++ m).toArray⟩) W := fun W => run_string_add_lists W y m (by omega) (by omega)
      generalize y ++ m = z at *
      rcases hk with hk | hk | hk
      · have hl : y.length = 35 := by rw [hwl, hk]; rfl
        have HK : Hid (b.k = 1) := hk
        have hix : ∀ W, (Instr.index 60 (.agg #[.int .i64 0, .int .i64 35, .int .i64 4, .int .i64 36]) (.int .i64 1)).run Tryd.prog W = .ok (.int .i64 35) W := fun W => run_index_arr (P := Tryd.prog) W 60 3 4 1 #[.int .i64 0, .int .i64 35, .int .i64 4, .int .i64 36] (.int .i64 35) Tryd.underlying60 (by kernel_rfl) (by decide) (by kernel_rfl) rfl
        clear hwl hw36 hk hok hx hr
        go_enter Tryd.func6, Tryd.ntmps6
        go_upto_region 1 with (fail)
        generalize (w.alloc (.cells (bpC b) 52)) = w1 at *
        go_wp2_with fail
        refine (bridged_any _).mono ?_
        rintro e w2 ⟨rfl, k2⟩
        have HA2 := HA.kept k2
        have B2 := B0.trans (k2.mono B0.size)
        clear HA B0 k2
        go_wp2_with (refine load_blk (k := 0) 52 (bpC b) (by rfl) rfl rfl HA2 (by kernel_rfl) (by kernel_rfl) rfl ?_)
        refine (HW.out _).mono ?_
        rintro e w3 ⟨rfl, k3⟩
        have HA3 := HA2.kept k3
        have B3 := B2.trans (k3.mono B2.size)
        clear HA2 B2 k3
        go_wp2_with (refine load_blk (k := 0) 52 (bpC b) (by rfl) rfl rfl HA3 (by kernel_rfl) (by kernel_rfl) rfl ?_)
        refine (HR.out _).mono ?_
        rintro e w4 ⟨rfl, k4⟩
        have HA4 := HA3.kept k4
        have B4 := B3.trans (k4.mono B3.size)
        clear HA3 B3 k4
        have c0 : w4.cell? ⟨w.heap.size, 0, none⟩ = some (.int .i64 1) := (HA4.cv 0 (.int .i64 b.k) rfl).trans (by rw [HK.out])
        go_wp2_with fail
        refine (HRd.out _).mono ?_
        rintro e w5 ⟨rfl, k5⟩
        have HA5 := HA4.kept k5
        have B5 := B4.trans (k5.mono B4.size)
        have lt5 : w.heap.size < w5.heap.size := HA5.lt
        clear HA4 B4 k5 c0
        go_upto_region 11 with (first
          | (refine alloc_blk 52 (bpC zBp) (by rfl) rfl Tryd.bpZero ?_)
          | (refine store_blk (k := 0) 52 (.agg (bpC b)) (bpC b) (by rfl) rfl rfl rfl (Blk.new w5 _ _) (by kernel_rfl) (show (31 : Nat) ≤ 31 from Nat.le_refl 31) (by rfl) (st_whole _ _ rfl) ?_; intro w6 HV6 b6 g6; have HA6 := (HA5.alloc (.cells (bpC zBp) 52)).below b6 lt5; have B6 : Below w.heap.size w w6 := (B5.alloc B5.size _).trans (b6.mono (by omega))))
        (try simp only [Act.put, List.setIfInBounds_toArray, List.set_cons_zero, List.set_cons_succ])
        clear HA5 B5 b6 g6
        generalize w5.heap.size = v at *
        have c0 : w6.cell? ⟨w.heap.size, 0, none⟩ = some (.int .i64 1) := (HA6.cv 0 (.int .i64 b.k) rfl).trans (by rw [HK.out])
        go_wp2_with (first
          | (refine load_blk (k := 0) 52 (bpC b) (by rfl) rfl rfl HV6 (by kernel_rfl) (by kernel_rfl) rfl ?_)
          | (refine load_blk (k := 0) 52 (bpC b) (by rfl) rfl rfl HA6 (by kernel_rfl) (by kernel_rfl) rfl ?_)
          | (refine eq_blk .eql 52 (bpC b) (bpC b) true (by rfl) rfl (Or.inl rfl) rfl rfl (by kernel_rfl) (HQ _) ?_)
          | (refine build_blk (t := 60) #[.int .i64 0, .int .i64 35, .int .i64 4, .int .i64 36] (by rfl) rfl (by kernel_rfl) ?_)
          | (refine index_blk (k := 1) #[.int .i64 0, .int .i64 35, .int .i64 4, .int .i64 36] _ (by rfl) rfl rfl rfl (hix _) ?_))
        go_ret
        exact ⟨rfl, B6⟩
      · have hl : y.length = 4 := by rw [hwl, hk]; rfl
        have HK : Hid (b.k = 2) := hk
        have hix : ∀ W, (Instr.index 60 (.agg #[.int .i64 0, .int .i64 35, .int .i64 4, .int .i64 36]) (.int .i64 2)).run Tryd.prog W = .ok (.int .i64 4) W := fun W => run_index_arr (P := Tryd.prog) W 60 3 4 2 #[.int .i64 0, .int .i64 35, .int .i64 4, .int .i64 36] (.int .i64 4) Tryd.underlying60 (by kernel_rfl) (by decide) (by kernel_rfl) rfl
        clear hwl hw36 hk hok hx hr
        go_enter Tryd.func6, Tryd.ntmps6
        go_upto_region 1 with (fail)
        generalize (w.alloc (.cells (bpC b) 52)) = w1 at *
        go_wp2_with fail
        refine (bridged_any _).mono ?_
        rintro e w2 ⟨rfl, k2⟩
        have HA2 := HA.kept k2
        have B2 := B0.trans (k2.mono B0.size)
        clear HA B0 k2
        go_wp2_with (refine load_blk (k := 0) 52 (bpC b) (by rfl) rfl rfl HA2 (by kernel_rfl) (by kernel_rfl) rfl ?_)
        refine (HW.out _).mono ?_
        rintro e w3 ⟨rfl, k3⟩
        have HA3 := HA2.kept k3
        have B3 := B2.trans (k3.mono B2.size)
        clear HA2 B2 k3
        go_wp2_with (refine load_blk (k := 0) 52 (bpC b) (by rfl) rfl rfl HA3 (by kernel_rfl) (by kernel_rfl) rfl ?_)
        refine (HR.out _).mono ?_
        rintro e w4 ⟨rfl, k4⟩
        have HA4 := HA3.kept k4
        have B4 := B3.trans (k4.mono B3.size)
        clear HA3 B3 k4
        have c0 : w4.cell? ⟨w.heap.size, 0, none⟩ = some (.int .i64 2) := (HA4.cv 0 (.int .i64 b.k) rfl).trans (by rw [HK.out])
        go_wp2_with fail
        refine (HRd.out _).mono ?_
        rintro e w5 ⟨rfl, k5⟩
        have HA5 := HA4.kept k5
        have B5 := B4.trans (k5.mono B4.size)
        have lt5 : w.heap.size < w5.heap.size := HA5.lt
        clear HA4 B4 k5 c0
        go_upto_region 11 with (first
          | (refine alloc_blk 52 (bpC zBp) (by rfl) rfl Tryd.bpZero ?_)
          | (refine store_blk (k := 0) 52 (.agg (bpC b)) (bpC b) (by rfl) rfl rfl rfl (Blk.new w5 _ _) (by kernel_rfl) (show (31 : Nat) ≤ 31 from Nat.le_refl 31) (by rfl) (st_whole _ _ rfl) ?_; intro w6 HV6 b6 g6; have HA6 := (HA5.alloc (.cells (bpC zBp) 52)).below b6 lt5; have B6 : Below w.heap.size w w6 := (B5.alloc B5.size _).trans (b6.mono (by omega))))
        (try simp only [Act.put, List.setIfInBounds_toArray, List.set_cons_zero, List.set_cons_succ])
        clear HA5 B5 b6 g6
        generalize w5.heap.size = v at *
        have c0 : w6.cell? ⟨w.heap.size, 0, none⟩ = some (.int .i64 2) := (HA6.cv 0 (.int .i64 b.k) rfl).trans (by rw [HK.out])
        go_wp2_with (first
          | (refine load_blk (k := 0) 52 (bpC b) (by rfl) rfl rfl HV6 (by kernel_rfl) (by kernel_rfl) rfl ?_)
          | (refine load_blk (k := 0) 52 (bpC b) (by rfl) rfl rfl HA6 (by kernel_rfl) (by kernel_rfl) rfl ?_)
          | (refine eq_blk .eql 52 (bpC b) (bpC b) true (by rfl) rfl (Or.inl rfl) rfl rfl (by kernel_rfl) (HQ _) ?_)
          | (refine build_blk (t := 60) #[.int .i64 0, .int .i64 35, .int .i64 4, .int .i64 36] (by rfl) rfl (by kernel_rfl) ?_)
          | (refine index_blk (k := 2) #[.int .i64 0, .int .i64 35, .int .i64 4, .int .i64 36] _ (by rfl) rfl rfl rfl (hix _) ?_))
        go_ret
        exact ⟨rfl, B6⟩
      · have hl : y.length = 36 := by rw [hwl, hk]; rfl
        have HK : Hid (b.k = 3) := hk
        have hix : ∀ W, (Instr.index 60 (.agg #[.int .i64 0, .int .i64 35, .int .i64 4, .int .i64 36]) (.int .i64 3)).run Tryd.prog W = .ok (.int .i64 36) W := fun W => run_index_arr (P := Tryd.prog) W 60 3 4 3 #[.int .i64 0, .int .i64 35, .int .i64 4, .int .i64 36] (.int .i64 36) Tryd.underlying60 (by kernel_rfl) (by decide) (by kernel_rfl) rfl
        clear hwl hw36 hk hok hx hr
        go_enter Tryd.func6, Tryd.ntmps6
        go_upto_region 1 with (fail)
        generalize (w.alloc (.cells (bpC b) 52)) = w1 at *
        go_wp2_with fail
        refine (bridged_any _).mono ?_
        rintro e w2 ⟨rfl, k2⟩
        have HA2 := HA.kept k2
        have B2 := B0.trans (k2.mono B0.size)
        clear HA B0 k2
        go_wp2_with (refine load_blk (k := 0) 52 (bpC b) (by rfl) rfl rfl HA2 (by kernel_rfl) (by kernel_rfl) rfl ?_)
        refine (HW.out _).mono ?_
        rintro e w3 ⟨rfl, k3⟩
        have HA3 := HA2.kept k3
        have B3 := B2.trans (k3.mono B2.size)
        clear HA2 B2 k3
        go_wp2_with (refine load_blk (k := 0) 52 (bpC b) (by rfl) rfl rfl HA3 (by kernel_rfl) (by kernel_rfl) rfl ?_)
        refine (HR.out _).mono ?_
        rintro e w4 ⟨rfl, k4⟩
        have HA4 := HA3.kept k4
        have B4 := B3.trans (k4.mono B3.size)
        clear HA3 B3 k4
        have c0 : w4.cell? ⟨w.heap.size, 0, none⟩ = some (.int .i64 3) := (HA4.cv 0 (.int .i64 b.k) rfl).trans (by rw [HK.out])
        go_wp2_with fail
        refine (HRd.out _).mono ?_
        rintro e w5 ⟨rfl, k5⟩
        have HA5 := HA4.kept k5
        have B5 := B4.trans (k5.mono B4.size)
        have lt5 : w.heap.size < w5.heap.size := HA5.lt
        clear HA4 B4 k5 c0
        go_upto_region 11 with (first
          | (refine alloc_blk 52 (bpC zBp) (by rfl) rfl Tryd.bpZero ?_)
          | (refine store_blk (k := 0) 52 (.agg (bpC b)) (bpC b) (by rfl) rfl rfl rfl (Blk.new w5 _ _) (by kernel_rfl) (show (31 : Nat) ≤ 31 from Nat.le_refl 31) (by rfl) (st_whole _ _ rfl) ?_; intro w6 HV6 b6 g6; have HA6 := (HA5.alloc (.cells (bpC zBp) 52)).below b6 lt5; have B6 : Below w.heap.size w w6 := (B5.alloc B5.size _).trans (b6.mono (by omega))))
        (try simp only [Act.put, List.setIfInBounds_toArray, List.set_cons_zero, List.set_cons_succ])
        clear HA5 B5 b6 g6
        generalize w5.heap.size = v at *
        have c0 : w6.cell? ⟨w.heap.size, 0, none⟩ = some (.int .i64 3) := (HA6.cv 0 (.int .i64 b.k) rfl).trans (by rw [HK.out])
        go_wp2_with (first
          | (refine load_blk (k := 0) 52 (bpC b) (by rfl) rfl rfl HV6 (by kernel_rfl) (by kernel_rfl) rfl ?_)
          | (refine load_blk (k := 0) 52 (bpC b) (by rfl) rfl rfl HA6 (by kernel_rfl) (by kernel_rfl) rfl ?_)
          | (refine eq_blk .eql 52 (bpC b) (bpC b) true (by rfl) rfl (Or.inl rfl) rfl rfl (by kernel_rfl) (HQ _) ?_)
          | (refine build_blk (t := 60) #[.int .i64 0, .int .i64 35, .int .i64 4, .int .i64 36] (by rfl) rfl (by kernel_rfl) ?_)
          | (refine index_blk (k := 3) #[.int .i64 0, .int .i64 35, .int .i64 4, .int .i64 36] _ (by rfl) rfl rfl rfl (hix _) ?_))
        go_ret
        exact ⟨rfl, B6⟩
  · have hgt : decide ((200 : Int) < (t.size : Int)) = true := decide_eq_true (by omega)
    go_enter Tryd.func6, Tryd.ntmps6
    go_upto_region 1 with (fail)
    generalize (w.alloc (.cells (bpC b) 52)) = w1 at *
    go_wp2_with fail
    refine (bridged_any _).mono ?_
    rintro e w2 ⟨rfl, k2⟩
    have HA2 := HA.kept k2
    have B2 := B0.trans (k2.mono B0.size)
    clear HA B0 k2
    go_wp2
    go_ret
    exact ⟨rfl, B2⟩

end Go.Proofs.YtjoepmfineinfaaDoor.bpduBack

namespace Go.Proofs.YtjoepmfineinfaaDoor
open Go.RowKit Go.WideShapes Go.ChangeShapes

/-- The specification is met: one result, which reads as told; the arguments and the named variables read as they did; old memory is as it was. -/
theorem met_below {P : Program} {H : Type} {enc : TypeId × Value → H} {f : Func} {s : ChangeSpec} {apart fresh handsOn again : Bool} {W W' : World} {args : Array Value} {v : Value} {ds gs : List (DataW H)} {places : List MemPlace}
    (whole : DataW.Whole enc P f.params.toList s.vars apart W args.toList ds gs places)
    (results : ∀ (b : Nat) (sp : Nat → Bool) (hd : Bool), DataW.TrodAll enc P W' b sp hd f.resultTypes.toList (v.resultList f.resultTypes.size) (s.fn H (ds ++ gs)).results [])
    (arguments : ∀ sp : Nat → Bool, (∀ p ∈ places, sp p.block = true) → DataW.TrodAll enc P W' 0 sp true f.params.toList args.toList (s.fn H (ds ++ gs)).args places)
    (variables : ∀ sp : Nat → Bool, DataW.TrodVars enc P W' sp s.vars (s.fn H (ds ++ gs)).vars [])
    (below : Below W.heap.size W W')
    (formed : ∀ (j : Nat) (t : TypeId) (r : Value), f.resultTypes[j]? = some t → (v.resultList f.resultTypes.size)[j]? = some r → Value.okWide P W' .any 0 t r) :
    s.post enc P f apart fresh handsOn again W args v W' := by
  have old : ∀ p ∈ places, p.block < W.heap.size := fun p hp => whole.lt p hp
  have oldB : ∀ p ∈ places, (fun b => decide (b < W.heap.size)) p.block = true := fun p hp => decide_eq_true (old p hp)
  obtain ⟨_, _, _, _, _, unfrozen, once⟩ := id whole
  refine ⟨ds, gs, places, [], places, [], whole, results _ _ _, arguments _ oldB, variables _, below.frame _, fun _ => ⟨formed, _, _, ([] ++ places) ++ [], ⟨[] ++ places, [], trodAll_append (arguments _ fun _ _ => rfl) (results _ _ _), variables _, rfl, fun b off hp => ?_, fun ha => by simpa using once ha⟩, fun p hp _ => by simpa using hp⟩⟩
  have hin : MemPlace.cell b off ∈ places := by simpa using hp
  exact (below.frozen (p := ⟨b, off, none⟩) (old _ hin)).trans (unfrozen b off hin)

end Go.Proofs.YtjoepmfineinfaaDoor

namespace Go.Proofs.YtjoepmfineinfaaDoor
open Go.ChangeShapes Go.WideShapes Go.ChangeAt Go.RowKit

theorem own : ownKnob Tryd.prog.godebug = none := by kernel_rfl

theorem Tryd.gErr : Tryd.prog.globalNamed "errors.errorType" = some 0 := by kernel_rfl

theorem Tryd.rtRow : (Tryd.prog.cutTypes.find? (·.1 == "internal/reflectlite.rtype")).map (·.2) = some 155 := by kernel_rfl

theorem Tryd.errRow : ((List.range 202).filter fun t => Tryd.prog.rowNamed t [101, 114, 114, 111, 114]) = [33] := by kernel_rfl

theorem Tryd.typesSize : Tryd.prog.types.size = 202 := by kernel_rfl

/-- A list that holds errors.errorType with the handle of the type error says what errors.As asks. -/
theorem hasErr_of_laid {W : World} {l : List (String × DataW Unit)} (h : laidMetH Tryd.prog l W) (hm : ("errors.errorType", Rows.laid_errors_errorType) ∈ l) : HasErr W := by
  obtain ⟨_, h2⟩ := laidMetH_iff.1 h
  obtain ⟨name, u, ty, e1, e2, e3, e4, e5⟩ := h2 _ (List.mem_filter.2 ⟨hm, by kernel_rfl⟩)
  have en : name = [101, 114, 114, 111, 114] := (Option.some.inj e1).symm
  subst en
  obtain rfl := Option.some.inj (Tryd.rtRow.symm.trans e2)
  have hin : ty ∈ (List.range 202).filter fun t => Tryd.prog.rowNamed t [101, 114, 114, 111, 114] := List.mem_filter.2 ⟨List.mem_range.2 (by rw [← Tryd.typesSize]; exact e3), e4⟩
  rw [Tryd.errRow] at hin
  obtain rfl := List.mem_singleton.1 hin
  have hh : typeHandle Tryd.prog 33 = .pointer (some ⟨4, 33, none⟩) := by kernel_rfl
  rw [hh] at e5
  have hc := World.var?_cell Tryd.gErr e5 0
  unfold HasErr
  simpa using hc

/-- The cells that a flat datum of integers lays. -/
def cellsOfDatum : DataW Unit → Array Value
  | .agg l => (l.map fun d => match d with | .lit (.int k n) => Value.int k n | _ => .int .u8 0).toArray
  | _ => #[]

/-- The door's own heap, and Go's own table beside it. -/
noncomputable def laidWorld (os : Os) : World :=
  let w0 := World.doorLaid Tryd.prog 400 os
  { w0 with heap := w0.heap.modify 1 fun | .cells _ t fr => .cells (cellsOfDatum Go.Pinned.utf8First) t fr | o => o }

end Go.Proofs.YtjoepmfineinfaaDoor

namespace Go.Proofs.YtjoepmfineinfaaDoor
open Go.ChangeShapes Go.WideShapes Go.ChangeAt Go.RowKit Go.Deep Go.Joins
set_option linter.unusedVariables false

theorem nat_u8f {z : Int} (h : (Lit.int .u8 z).wf = true) : ∃ n : Nat, z = n ∧ n < 256 := by
  have := bounds_u8 h
  exact ⟨z.toNat, by omega, by omega⟩

set_option maxRecDepth 100000 in
theorem six_trod {H : Type} {enc : TypeId × Value → H} {W : World} {base fuel : Nat} {sp : Nat → Bool} {held : Bool} {c0 c1 c2 c3 c4 c5 : Value} {y : DataW H × List MemPlace}
    (h : DataW.trod enc Tryd.prog W base sp held fuel 23 [c0, c1, c2, c3, c4, c5] = some y) :
    ∃ x : Nat → Nat, (∀ i, x i < 256) ∧ c0 = .int .u8 (x 0) ∧ c1 = .int .u8 (x 1) ∧ c2 = .int .u8 (x 2) ∧ c3 = .int .u8 (x 3) ∧ c4 = .int .u8 (x 4) ∧ c5 = .int .u8 (x 5) := by
  have hc1 : Tryd.prog.cellsOf 5 = 1 := by kernel_rfl
  obtain ⟨xs, m, _, _, _, hl, hx⟩ := DataW.trod_array Tryd.underlying23 h
  rw [hc1] at hx
  have each : ∀ (i : Nat) (c : Value), i < 6 → ((([c0, c1, c2, c3, c4, c5] : List Value).drop (i * 1)).take 1) = [c] → ∃ n : Nat, c = .int .u8 n ∧ n < 256 := by
    intro i c hi hc
    have h1 := hx i hi
    rw [hc] at h1
    obtain ⟨y, hy⟩ : ∃ y, xs[i]? = some y := ⟨xs[i]'(by omega), List.getElem?_eq_getElem _⟩
    rw [hy] at h1
    obtain ⟨z, e0, _, hw⟩ := DataW.trod_int Tryd.underlying5 h1
    simp only [List.cons.injEq, and_true] at e0
    obtain ⟨n, rfl, hn⟩ := nat_u8f hw
    exact ⟨n, e0, hn⟩
  obtain ⟨n0, rfl, h0⟩ := each 0 c0 (by omega) rfl
  obtain ⟨n1, rfl, h1⟩ := each 1 c1 (by omega) rfl
  obtain ⟨n2, rfl, h2⟩ := each 2 c2 (by omega) rfl
  obtain ⟨n3, rfl, h3⟩ := each 3 c3 (by omega) rfl
  obtain ⟨n4, rfl, h4⟩ := each 4 c4 (by omega) rfl
  obtain ⟨n5, rfl, h5⟩ := each 5 c5 (by omega) rfl
  refine ⟨fun i => if i = 0 then n0 else if i = 1 then n1 else if i = 2 then n2 else if i = 3 then n3 else if i = 4 then n4 else n5, fun i => ?_, rfl, rfl, rfl, rfl, rfl, rfl⟩
  dsimp only
  split
  · exact h0
  split
  · exact h1
  split
  · exact h2
  split
  · exact h3
  split
  · exact h4
  exact h5

theorem list2 {α : Type} (l : List α) (h : l.length = 2) : ∃ c0 c1, l = [c0, c1] := by
  match l, h with
  | [c0, c1], _ => exact ⟨c0, c1, rfl⟩

theorem list3 {α : Type} (l : List α) (h : l.length = 3) : ∃ c0 c1 c2, l = [c0, c1, c2] := by
  match l, h with
  | [c0, c1, c2], _ => exact ⟨c0, c1, c2, rfl⟩

theorem list5 {α : Type} (l : List α) (h : l.length = 5) : ∃ c0 c1 c2 c3 c4, l = [c0, c1, c2, c3, c4] := by
  match l, h with
  | [c0, c1, c2, c3, c4], _ => exact ⟨c0, c1, c2, c3, c4, rfl⟩

theorem list8 {α : Type} (l : List α) (h : l.length = 8) : ∃ c0 c1 c2 c3 c4 c5 c6 c7, l = [c0, c1, c2, c3, c4, c5, c6, c7] := by
  match l, h with
  | [c0, c1, c2, c3, c4, c5, c6, c7], _ => exact ⟨c0, c1, c2, c3, c4, c5, c6, c7, rfl⟩

theorem list21 {α : Type} (l : List α) (h : l.length = 21) : ∃ c0 c1 c2 c3 c4 c5 c6 c7 c8 c9 c10 c11 c12 c13 c14 c15 c16 c17 c18 c19 c20, l = [c0, c1, c2, c3, c4, c5, c6, c7, c8, c9, c10, c11, c12, c13, c14, c15, c16, c17, c18, c19, c20] := by
  match l, h with
  | [c0, c1, c2, c3, c4, c5, c6, c7, c8, c9, c10, c11, c12, c13, c14, c15, c16, c17, c18, c19, c20], _ => exact ⟨c0, c1, c2, c3, c4, c5, c6, c7, c8, c9, c10, c11, c12, c13, c14, c15, c16, c17, c18, c19, c20, rfl⟩

set_option maxRecDepth 100000 in
theorem br_trod {H : Type} {enc : TypeId × Value → H} {W : World} {base fuel : Nat} {sp : Nat → Bool} {held : Bool} {c0 c1 c2 c3 c4 c5 c6 c7 : Value} {y : DataW H × List MemPlace}
    (h : DataW.trod enc Tryd.prog W base sp held fuel 48 [c0, c1, c2, c3, c4, c5, c6, c7] = some y) :
    ∃ b : Br, (∀ i, b.a i < 256) ∧ c0 = .int .i64 b.p ∧ c1 = .int .i64 b.e ∧ c2 = .int .u8 (b.a 0) ∧ c3 = .int .u8 (b.a 1) ∧ c4 = .int .u8 (b.a 2) ∧ c5 = .int .u8 (b.a 3) ∧ c6 = .int .u8 (b.a 4) ∧ c7 = .int .u8 (b.a 5) := by
  have _h1 : Tryd.prog.cellsOf 23 = 6 := by kernel_rfl
  have _h2 : Tryd.prog.cellsOf 3 = 1 := by kernel_rfl
  obtain ⟨xs, n, _, hx, _, hlen, hg⟩ := DataW.trod_struct Tryd.underlying48 h
  obtain ⟨y0, y1, y2, rfl⟩ := list3 xs hlen
  have g0 := hg 0 _ rfl
  have g1 := hg 1 _ rfl
  have g2 := hg 2 _ rfl
  obtain ⟨x0, e0, _, wf0⟩ := DataW.trod_int Tryd.underlying3 g0
  obtain rfl : c0 = .int .i64 x0 := (List.cons.inj (show [c0] = [.int .i64 x0] from e0)).1
  obtain ⟨x1, e1, _, wf1⟩ := DataW.trod_int Tryd.underlying3 g1
  obtain rfl : c1 = .int .i64 x1 := (List.cons.inj (show [c1] = [.int .i64 x1] from e1)).1
  obtain ⟨x2, hx2, rfl, rfl, rfl, rfl, rfl, rfl⟩ := six_trod g2
  exact ⟨⟨x0, x1, x2⟩, hx2, rfl, rfl, rfl, rfl, rfl, rfl, rfl, rfl⟩

set_option maxRecDepth 100000 in
theorem pt_trod {H : Type} {enc : TypeId × Value → H} {W : World} {base fuel : Nat} {sp : Nat → Bool} {held : Bool} {c0 c1 : Value} {y : DataW H × List MemPlace}
    (h : DataW.trod enc Tryd.prog W base sp held fuel 50 [c0, c1] = some y) : ∃ p n : Int, c0 = .int .i64 p ∧ c1 = .int .i64 n := by
  have _h2 : Tryd.prog.cellsOf 3 = 1 := by kernel_rfl
  obtain ⟨xs, n, _, hx, _, hlen, hg⟩ := DataW.trod_struct Tryd.underlying50 h
  obtain ⟨y0, y1, rfl⟩ := list2 xs hlen
  have g0 := hg 0 _ rfl
  have g1 := hg 1 _ rfl
  obtain ⟨x0, e0, _, wf0⟩ := DataW.trod_int Tryd.underlying3 g0
  obtain rfl : c0 = .int .i64 x0 := (List.cons.inj (show [c0] = [.int .i64 x0] from e0)).1
  obtain ⟨x1, e1, _, wf1⟩ := DataW.trod_int Tryd.underlying3 g1
  obtain rfl : c1 = .int .i64 x1 := (List.cons.inj (show [c1] = [.int .i64 x1] from e1)).1
  exact ⟨x0, x1, rfl, rfl⟩



set_option maxRecDepth 100000 in
theorem open_br {H : Type} {enc : TypeId × Value → H} {W : World} {base : Nat} {v : Value} {d : DataW H} {p : List MemPlace} (hval : Value.okWide Tryd.prog W .any base 48 v)
    (h : DataW.Trod enc Tryd.prog W 0 (fun _ => true) true 48 v d p) : ∃ b : Br, (∀ i, b.a i < 256) ∧ v = .agg (brC b) := by
  have hcn : Tryd.prog.cellsOf 48 = 8 := by kernel_rfl
  obtain ⟨cs, rfl, hsz⟩ := okWide_struct Tryd.underlying48 hval
  rw [hcn] at hsz
  obtain ⟨l⟩ := cs
  obtain ⟨c0, c1, c2, c3, c4, c5, c6, c7, rfl⟩ := list8 l hsz
  obtain ⟨fuel, hf⟩ := h
  obtain ⟨b, hb, rfl, rfl, rfl, rfl, rfl, rfl, rfl, rfl⟩ := br_trod (show DataW.trod enc Tryd.prog W 0 (fun _ => true) true fuel 48 [c0, c1, c2, c3, c4, c5, c6, c7] = some _ by simpa [Value.cells] using hf)
  exact ⟨b, hb, rfl⟩

set_option maxRecDepth 100000 in
theorem open_pt {H : Type} {enc : TypeId × Value → H} {W : World} {base : Nat} {v : Value} {d : DataW H} {p : List MemPlace} (hval : Value.okWide Tryd.prog W .any base 50 v)
    (h : DataW.Trod enc Tryd.prog W 0 (fun _ => true) true 50 v d p) : ∃ m n : Int, v = .agg (ptC m n) := by
  have hcn : Tryd.prog.cellsOf 50 = 2 := by kernel_rfl
  obtain ⟨cs, rfl, hsz⟩ := okWide_struct Tryd.underlying50 hval
  rw [hcn] at hsz
  obtain ⟨l⟩ := cs
  obtain ⟨c0, c1, rfl⟩ := list2 l hsz
  obtain ⟨fuel, hf⟩ := h
  obtain ⟨m, n, rfl, rfl⟩ := pt_trod (show DataW.trod enc Tryd.prog W 0 (fun _ => true) true fuel 50 [c0, c1] = some _ by simpa [Value.cells] using hf)
  exact ⟨m, n, rfl⟩




end Go.Proofs.YtjoepmfineinfaaDoor

