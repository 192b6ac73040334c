/- The reference's MstWrite at every message. -/
import Derived.Test.YtajbkoggmhgjfaaDoorRefMsRight
import Derived.Test.YtajbkoggmhgjfaaDoorRefBpBody
import Derived.Test.YtajbkoggmhgjfaaDoorMsWrite
namespace Go.Proofs.YtajbkoggmhgjfaaDoor
open Go.RowKit
attribute [local go_sem ↓] Go.wp_at_zero Go.wp_at_succ
set_option linter.unusedSimpArgs false
set_option linter.unusedVariables false
set_option maxRecDepth 100000

theorem refMsWrite_no (m : Ms) (a : Option Addr) (c : Nat) (l : List Ins) (w : World) (h : InIn w a l) (hlen : l.length ≤ 1000000) (hn : m.name.size ≤ 1000000) (hd : m.dig.size ≤ 1000000) (hok : okMs m l = false) :
    Calls Tryd.prog 6 #[.agg (msC m (.slice a l.length c))] w fun e w' => e = .returned (.tuple #[.string ⟨#[]⟩, .int .i64 1]) ∧ Below w.heap.size w w' := by
  have HR := Lib.hid (fun (W : World) (h : InIn W a l) => by have q := refMsRight_any m a c l W h hlen hn hd; rw [hok] at q; exact q)
  go_enter Tryd.func6, Tryd.ntmps6
  go_upto_region 1 with (refine box_blk 34 (msC m (.slice a l.length c)) (by rfl) (by rfl) rfl ?_; intro w1 HA1 B1)
  have hI1 := h.below B1
  go_wp2_with (refine load_blk (k := 0) 34 (msC m (.slice a l.length c)) (by rfl) rfl rfl HA1 (by kernel_rfl) (by kernel_rfl) rfl ?_)
  refine (HR.out _ hI1).mono ?_
  rintro e w2 ⟨rfl, k2⟩
  go_wp2
  go_ret2
  exact ⟨rfl, B1.trans (k2.mono B1.size)⟩

def strLen : Value → Nat
  | .string s => s.size
  | _ => 0

set_option maxHeartbeats 25600000 in
theorem refMsWrite_yes (m : Ms) (a : Option Addr) (c : Nat) (l : List Ins) (w : World) (h : InIn w a l) (hok : okMs m l = true) (hx : byBp m.base ∧ byB m.br ∧ ∀ x ∈ l, byIns x) :
    Calls Tryd.prog 6 #[.agg (msC m (.slice a l.length c))] w fun e w' => e = .returned (.tuple #[.string ⟨(writeM m l).toArray⟩, .int .i64 0]) ∧ Below w.heap.size w w' := by
  obtain ⟨hk, hrp, hname, htz, hrev, hdig, hcost, hbr, hhop, hlen, hall⟩ := okMs_all hok
  obtain ⟨hxb, hxr, hxl⟩ := hx
  have hrp' := hrp
  unfold okRp at hrp'
  rw [Bool.and_eq_true] at hrp'
  have HR := Lib.hid (fun (W : World) (h : InIn W a l) => by have q := refMsRight_any m a c l W h (by omega) (by omega) (by omega); rw [hok] at q; exact q)
  have HB := Lib.hid (fun W => refBody_any m.base hrp'.1 hrp'.2 hxb W)
  have HP := Lib.hid (fun W => refPack_yes m.br hbr hxr W)
  have hbl := bodyL_len m.base
  have HF : Hid (headM m l.length = ((((((((([0, 0, 3, 2] ++ bodyL m.base) ++ [0]) ++ putL (64 + 16 * (l.length : Int)).toNat 2) ++ [0]) ++ padL m.name) ++ putL m.rev.toNat 2) ++ m.dig.data.toList) ++ putL m.cost.toNat 4) ++ packL m.br) ++ putL m.hop.toNat 1) := by
    show _ = _
    unfold headM
    rw [show (64 + 16 * (l.length : Int)).toNat = 64 + 16 * l.length by omega]
    simp only [List.append_assoc]
  have HFL := headM_len m l.length hname hdig
  have HWL : Hid (∀ k, k ≤ l.length → (headM m l.length ++ inssL (l.take k)).length ≤ 2000) := fun k hk => by
    rw [List.length_append, HFL, inssL_len, List.length_take]
    omega
  have HOK : Hid (∀ x ∈ l, okIns x = true) := List.all_eq_true.1 hall
  have HXL := Lib.hid hxl
  have HSN := Lib.hid (inssL_snoc l)
  have HWM : Hid (writeM m l = headM m l.length ++ inssL l) := rfl
  have hf2 : fitI 2 (64 + 16 * (l.length : Int)) = true := by
    unfold fitI
    rw [decide_eq_true (show 0 ≤ 64 + 16 * (l.length : Int) by omega), decide_eq_true (show 64 + 16 * (l.length : Int) < 256 ^ 2 by omega)]
    rfl
  have m1 : IntKind.i64.wrap (16 * (l.length : Int)) = 16 * (l.length : Int) := by rw [IntKind.wrap_i64] <;> omega
  have m2 : IntKind.i64.wrap (64 + 16 * (l.length : Int)) = 64 + 16 * (l.length : Int) := by rw [IntKind.wrap_i64] <;> omega
  have E0 : Hid (∀ W, Calls Tryd.prog 19 #[.int .i64 (64 + 16 * (l.length : Int)), .int .i64 2] W fun e w' => e = .returned (.string ⟨(putL (64 + 16 * (l.length : Int)).toNat 2).toArray⟩) ∧ Below W.heap.size W w') := fun W => beN2 2 (by decide) (by decide) (64 + 16 * (l.length : Int)) hf2 W
  have E1 : Hid (∀ W, Calls Tryd.prog 19 #[.int .i64 m.rev, .int .i64 2] W fun e w' => e = .returned (.string ⟨(putL m.rev.toNat 2).toArray⟩) ∧ Below W.heap.size W w') := fun W => beN2 2 (by decide) (by decide) m.rev hrev W
  have E2 : Hid (∀ W, Calls Tryd.prog 19 #[.int .i64 m.cost, .int .i64 4] W fun e w' => e = .returned (.string ⟨(putL m.cost.toNat 4).toArray⟩) ∧ Below W.heap.size W w') := fun W => beN2 4 (by decide) (by decide) m.cost hcost W
  have E3 : Hid (∀ W, Calls Tryd.prog 19 #[.int .i64 m.hop, .int .i64 1] W fun e w' => e = .returned (.string ⟨(putL m.hop.toNat 1).toArray⟩) ∧ Below W.heap.size W w') := fun W => beN2 1 (by decide) (by decide) m.hop hhop W
  have hpl := padL_len m.name hname
  have hdl : m.dig.data.toList.length = 16 := by rw [← hdig]; simp
  have hl0 : (putL (64 + 16 * (l.length : Int)).toNat 2).length = 2 := putL_length _ _
  have hl1 : (putL m.rev.toNat 2).length = 2 := putL_length _ _
  have hl2 : (putL m.cost.toNat 4).length = 4 := putL_length _ _
  have hl3 := packL_len m.br
  have hl4 : (putL m.hop.toNat 1).length = 1 := putL_length _ _
  have HPD : Hid (padL m.name = m.name.data.toList ++ List.replicate (32 - m.name.size) 0) := rfl
  generalize putL (64 + 16 * (l.length : Int)).toNat 2 = y0 at *
  generalize putL m.rev.toNat 2 = y1 at *
  generalize putL m.cost.toNat 4 = y2 at *
  generalize packL m.br = y3 at *
  generalize putL m.hop.toNat 1 = y4 at *
  generalize padL m.name = pd at *
  generalize bodyL m.base = bd at *
  obtain ⟨z1, hz1⟩ : ∃ z, z = [0, 0, 3, 2] ++ bd := ⟨_, rfl⟩
  have zl1 : z1.length = 35 := by rw [hz1, List.length_append]; (try simp only [List.length_cons, List.length_nil]); omega
  have p1 : ∀ W, (Op.stringOp .add ⟨#[0, 0, 3, 2]⟩ ⟨bd.toArray⟩).run Tryd.prog W = .ok (.string ⟨z1.toArray⟩) W := fun W => by rw [hz1]; exact run_string_add_lists W [0, 0, 3, 2] bd (by decide) (by omega)
  obtain ⟨z2, hz2⟩ : ∃ z, z = z1 ++ [0] := ⟨_, rfl⟩
  have zl2 : z2.length = 36 := by rw [hz2, List.length_append]; (try simp only [List.length_cons, List.length_nil]); omega
  have p2 : ∀ W, (Op.stringOp .add ⟨z1.toArray⟩ ⟨#[0]⟩).run Tryd.prog W = .ok (.string ⟨z2.toArray⟩) W := fun W => by rw [hz2]; exact run_string_add_lists W z1 [0] (by omega) (by decide)
  obtain ⟨z3, hz3⟩ : ∃ z, z = z2 ++ y0 := ⟨_, rfl⟩
  have zl3 : z3.length = 38 := by rw [hz3, List.length_append]; (try simp only [List.length_cons, List.length_nil]); omega
  have p3 : ∀ W, (Op.stringOp .add ⟨z2.toArray⟩ ⟨y0.toArray⟩).run Tryd.prog W = .ok (.string ⟨z3.toArray⟩) W := fun W => by rw [hz3]; exact run_string_add_lists W z2 y0 (by omega) (by omega)
  obtain ⟨z4, hz4⟩ : ∃ z, z = z3 ++ [0] := ⟨_, rfl⟩
  have zl4 : z4.length = 39 := by rw [hz4, List.length_append]; (try simp only [List.length_cons, List.length_nil]); omega
  have p4 : ∀ W, (Op.stringOp .add ⟨z3.toArray⟩ ⟨#[0]⟩).run Tryd.prog W = .ok (.string ⟨z4.toArray⟩) W := fun W => by rw [hz4]; exact run_string_add_lists W z3 [0] (by omega) (by decide)
  obtain ⟨z5, hz5⟩ : ∃ z, z = z4 ++ pd := ⟨_, rfl⟩
  have zl5 : z5.length = 71 := by rw [hz5, List.length_append]; (try simp only [List.length_cons, List.length_nil]); omega
  have p5 : ∀ W, (Op.stringOp .add ⟨z4.toArray⟩ ⟨pd.toArray⟩).run Tryd.prog W = .ok (.string ⟨z5.toArray⟩) W := fun W => by rw [hz5]; exact run_string_add_lists W z4 pd (by omega) (by omega)
  obtain ⟨z6, hz6⟩ : ∃ z, z = z5 ++ y1 := ⟨_, rfl⟩
  have zl6 : z6.length = 73 := by rw [hz6, List.length_append]; (try simp only [List.length_cons, List.length_nil]); omega
  have p6 : ∀ W, (Op.stringOp .add ⟨z5.toArray⟩ ⟨y1.toArray⟩).run Tryd.prog W = .ok (.string ⟨z6.toArray⟩) W := fun W => by rw [hz6]; exact run_string_add_lists W z5 y1 (by omega) (by omega)
  obtain ⟨z7, hz7⟩ : ∃ z, z = z6 ++ m.dig.data.toList := ⟨_, rfl⟩
  have zl7 : z7.length = 89 := by rw [hz7, List.length_append]; (try simp only [List.length_cons, List.length_nil]); omega
  have p7 : ∀ W, (Op.stringOp .add ⟨z6.toArray⟩ m.dig).run Tryd.prog W = .ok (.string ⟨z7.toArray⟩) W := fun W => by rw [hz7]; exact run_string_add_lists W z6 m.dig.data.toList (by omega) (by omega)
  obtain ⟨z8, hz8⟩ : ∃ z, z = z7 ++ y2 := ⟨_, rfl⟩
  have zl8 : z8.length = 93 := by rw [hz8, List.length_append]; (try simp only [List.length_cons, List.length_nil]); omega
  have p8 : ∀ W, (Op.stringOp .add ⟨z7.toArray⟩ ⟨y2.toArray⟩).run Tryd.prog W = .ok (.string ⟨z8.toArray⟩) W := fun W => by rw [hz8]; exact run_string_add_lists W z7 y2 (by omega) (by omega)
  obtain ⟨z9, hz9⟩ : ∃ z, z = z8 ++ y3 := ⟨_, rfl⟩
  have zl9 : z9.length = 101 := by rw [hz9, List.length_append]; (try simp only [List.length_cons, List.length_nil]); omega
  have p9 : ∀ W, (Op.stringOp .add ⟨z8.toArray⟩ ⟨y3.toArray⟩).run Tryd.prog W = .ok (.string ⟨z9.toArray⟩) W := fun W => by rw [hz9]; exact run_string_add_lists W z8 y3 (by omega) (by omega)
  obtain ⟨z10, hz10⟩ : ∃ z, z = z9 ++ y4 := ⟨_, rfl⟩
  have zl10 : z10.length = 102 := by rw [hz10, List.length_append]; (try simp only [List.length_cons, List.length_nil]); omega
  have p10 : ∀ W, (Op.stringOp .add ⟨z9.toArray⟩ ⟨y4.toArray⟩).run Tryd.prog W = .ok (.string ⟨z10.toArray⟩) W := fun W => by rw [hz10]; exact run_string_add_lists W z9 y4 (by omega) (by omega)
  replace HF : Hid (headM m l.length = z10) := by show _ = _; rw [HF.out, hz10, hz9, hz8, hz7, hz6, hz5, hz4, hz3, hz2, hz1]
  have hnl : m.name.data.toList.length = m.name.size := by simp
  obtain ⟨nl, hnle⟩ : ∃ nl, nl = m.name.data.toList := ⟨_, rfl⟩
  have hnmE : m.name = ⟨nl.toArray⟩ := by rw [hnle]
  rw [← hnle] at hnl HPD
  obtain ⟨r, hr⟩ : ∃ r, r = 32 - m.name.size := ⟨_, rfl⟩
  rw [← hr] at HPD
  have hr32 : nl.length + r = 32 := by omega
  clear hz1 hz2 hz3 hz4 hz5 hz6 hz7 hz8 hz9 hz10 hnle hrp hrp' hk htz hok hxb hxr hxl hname hdig hall hr
  go_enter Tryd.func6, Tryd.ntmps6
  go_upto_region 1 with (refine box_blk 34 (msC m (.slice a l.length c)) (by rfl) (by rfl) rfl ?_; intro w1 HA1 B1)
  have hI1 := h.below B1
  go_wp2_with (refine load_blk (k := 0) 34 (msC m (.slice a l.length c)) (by rfl) rfl rfl HA1 (by kernel_rfl) (by kernel_rfl) rfl ?_)
  refine (HR.out _ hI1).mono ?_
  rintro e w2 ⟨rfl, k2⟩
  have HA2 := HA1.kept k2
  have B2 := B1.trans (k2.mono B1.size)
  have c31 := HA2.cv 31 (.string m.name) rfl
  rw [hnmE] at c31
  clear HA1 B1 k2 hI1 HR hnmE hnl
  go_wp2_with fail
  go_loopw [4] (fun v wr => ∃ k : Nat, k ≤ r ∧ v = .string ⟨(nl ++ List.replicate k 0).toArray⟩ ∧ wr = w2) (fun v _ => 32 - strLen v)
  case atStart => exact ⟨0, by omega, by rw [List.replicate_zero, List.append_nil], rfl⟩
  case round =>
    obtain ⟨k, hk, rfl, rfl⟩ := hrel
    have hkl : (nl ++ List.replicate k (0 : UInt8)).length = nl.length + k := by rw [List.length_append, List.length_replicate]
    by_cases hlt : k < r
    · have pk : ∀ W, (Op.stringOp .add ⟨(nl ++ List.replicate k 0).toArray⟩ ⟨#[0]⟩).run Tryd.prog W = .ok (.string ⟨(nl ++ List.replicate (k + 1) 0).toArray⟩) W := fun W => by
        have q := run_string_add_lists (P := Tryd.prog) W (nl ++ List.replicate k 0) [0] (by omega) (by decide)
        rw [List.append_assoc, ← List.replicate_succ'] at q
        exact q
      have hkl2 : (nl ++ List.replicate (k + 1) (0 : UInt8)).length = nl.length + k + 1 := by rw [List.length_append, List.length_replicate]; omega
      have hsz : ((⟨(nl ++ List.replicate k (0 : UInt8)).toArray⟩ : ByteArray).size : Int) = (nl.length : Int) + k := by show (((nl ++ List.replicate k (0 : UInt8)).toArray.size : Nat) : Int) = _; rw [List.size_toArray, hkl]; omega
      have d1 : decide ((nl.length : Int) + k < 32) = true := decide_eq_true (by omega)
      have hkl2 : (nl ++ List.replicate (k + 1) (0 : UInt8)).length = nl.length + k + 1 := by rw [List.length_append, List.length_replicate]; omega
      go_wp2
      go_roundw
      case rel => exact ⟨k + 1, by omega, by first | rfl | trivial, by first | rfl | trivial⟩
      case measure =>
        show 32 - (nl ++ List.replicate (k + 1) (0 : UInt8)).toArray.size < 32 - (nl ++ List.replicate k (0 : UInt8)).toArray.size
        simp only [List.size_toArray, hkl, hkl2]
        omega
    · obtain rfl : k = r := by omega
      have hu : nl ++ List.replicate k (0 : UInt8) = pd := HPD.out.symm
      have hsz : ((⟨(nl ++ List.replicate k (0 : UInt8)).toArray⟩ : ByteArray).size : Int) = (nl.length : Int) + k := by show (((nl ++ List.replicate k (0 : UInt8)).toArray.size : Nat) : Int) = _; rw [List.size_toArray, hkl]; omega
      have d1 : decide ((nl.length : Int) + k < 32) = false := decide_eq_false (by omega)
      clear c31 hkl
      go_wp2_with (refine load_blk (k := 35) 27 (brC m.br) (by rfl) rfl rfl HA2 (by kernel_rfl) (by kernel_rfl) rfl ?_)
      refine (HP.out _).mono ?_
      rintro e w3 ⟨rfl, k3⟩
      have HA3 := HA2.kept k3
      have B3 := B2.trans (k3.mono B2.size)
      clear HA2 B2 k3 d1 hsz hu
      go_upto_region 7 with (fail)
      refine wp_region_noPanic ?_
      refine wp_region_held_drew (S := (fun w' => Blk w' w.heap.size 34 (msC m (.slice a l.length c)))) (by kernel_rfl) ?_ (fun hHeld => ?_)
      · exact HA3
      refine wpAnyH_take (i := 0) (v := ?_) rfl (by kernel_rfl) (by kernel_rfl) (by kernel_rfl) (fun _ _ _ h => h) (Or.inl ⟨by rfl, ?_⟩) (by assumption) ?_
      rotate_left
      · (intro w hSw; (try dsimp only at hSw); go_simp; (try with_reducible rfl))
      (try simp only [Act.put, List.getElem_toArray, List.getElem_cons_zero, List.getElem_cons_succ, List.setIfInBounds_toArray, List.set_cons_zero, List.set_cons_succ])
      refine wpAnyH_take (i := 1) (v := .agg (bpC m.base)) rfl (by kernel_rfl) (by kernel_rfl) (by kernel_rfl) (fun _ _ _ h => h) (Or.inl ⟨by rfl, fun w hSw => exec_load_blk (k := 0) 31 (bpC m.base) rfl rfl hSw (by kernel_rfl) (by kernel_rfl) rfl⟩) (by assumption) ?_
      (try simp only [Act.put, List.getElem_toArray, List.getElem_cons_zero, List.getElem_cons_succ, List.setIfInBounds_toArray, List.set_cons_zero, List.set_cons_succ])
      refine wpAnyH_take (i := 5) (v := ?_) rfl (by kernel_rfl) (by kernel_rfl) (by kernel_rfl) (fun _ _ _ h => h) (Or.inl ⟨by rfl, ?_⟩) (by assumption) ?_
      rotate_left
      · (intro w hSw; (try dsimp only at hSw); go_simp; (try with_reducible rfl))
      (try simp only [Act.put, List.getElem_toArray, List.getElem_cons_zero, List.getElem_cons_succ, List.setIfInBounds_toArray, List.set_cons_zero, List.set_cons_succ])
      refine wpAnyH_take (i := 6) (v := .slice a l.length c) rfl (by kernel_rfl) (by kernel_rfl) (by kernel_rfl) (fun _ _ _ h => h) (Or.inl ⟨by rfl, fun w hSw => by have c := hSw.cv 44 (.slice a l.length c) rfl; go_simp⟩) (by assumption) ?_
      (try simp only [Act.put, List.getElem_toArray, List.getElem_cons_zero, List.getElem_cons_succ, List.setIfInBounds_toArray, List.set_cons_zero, List.set_cons_succ])
      refine wpAnyH_take (i := 7) (v := ?_) rfl (by kernel_rfl) (by kernel_rfl) (by kernel_rfl) (fun _ _ _ h => h) (Or.inl ⟨by rfl, ?_⟩) (by assumption) ?_
      rotate_left
      · (intro w hSw; (try dsimp only at hSw); go_simp; (try with_reducible rfl))
      (try simp only [Act.put, List.getElem_toArray, List.getElem_cons_zero, List.getElem_cons_succ, List.setIfInBounds_toArray, List.set_cons_zero, List.set_cons_succ])
      refine wpAnyH_take (i := 8) (v := ?_) rfl (by kernel_rfl) (by kernel_rfl) (by kernel_rfl) (fun _ _ _ h => h) (Or.inl ⟨by rfl, ?_⟩) (by assumption) ?_
      rotate_left
      · (intro w hSw; (try dsimp only at hSw); go_simp; (try with_reducible rfl))
      (try simp only [Act.put, List.getElem_toArray, List.getElem_cons_zero, List.getElem_cons_succ, List.setIfInBounds_toArray, List.set_cons_zero, List.set_cons_succ])
      refine wpAnyH_take (i := 9) (v := ?_) rfl (by kernel_rfl) (by kernel_rfl) (by kernel_rfl) (fun _ _ _ h => h) (Or.inl ⟨by rfl, ?_⟩) (by assumption) ?_
      rotate_left
      · (intro w hSw; (try dsimp only at hSw); go_simp; (try with_reducible rfl))
      (try simp only [Act.put, List.getElem_toArray, List.getElem_cons_zero, List.getElem_cons_succ, List.setIfInBounds_toArray, List.set_cons_zero, List.set_cons_succ])
      refine wpAnyH_take (i := 13) (v := ?_) rfl (by kernel_rfl) (by kernel_rfl) (by kernel_rfl) (fun _ _ _ h => h) (Or.inl ⟨by rfl, ?_⟩) (by assumption) ?_
      rotate_left
      · (intro w hSw; (try dsimp only at hSw); go_simp; (try with_reducible rfl))
      (try simp only [Act.put, List.getElem_toArray, List.getElem_cons_zero, List.getElem_cons_succ, List.setIfInBounds_toArray, List.set_cons_zero, List.set_cons_succ])
      refine wpAnyH_take (i := 15) (v := ?_) rfl (by kernel_rfl) (by kernel_rfl) (by kernel_rfl) (fun _ _ _ h => h) (Or.inl ⟨by rfl, ?_⟩) (by assumption) ?_
      rotate_left
      · (intro w hSw; (try dsimp only at hSw); go_simp; (try with_reducible rfl))
      (try simp only [Act.put, List.getElem_toArray, List.getElem_cons_zero, List.getElem_cons_succ, List.setIfInBounds_toArray, List.set_cons_zero, List.set_cons_succ])
      refine wpAnyH_take (i := 16) (v := .int .i64 m.rev) rfl (by kernel_rfl) (by kernel_rfl) (by kernel_rfl) (fun _ _ _ h => h) (Or.inl ⟨by rfl, fun w hSw => by have c := hSw.cv 32 (.int .i64 m.rev) rfl; go_simp⟩) (by assumption) ?_
      (try simp only [Act.put, List.getElem_toArray, List.getElem_cons_zero, List.getElem_cons_succ, List.setIfInBounds_toArray, List.set_cons_zero, List.set_cons_succ])
      refine wpAnyH_take (i := 19) (v := ?_) rfl (by kernel_rfl) (by kernel_rfl) (by kernel_rfl) (fun _ _ _ h => h) (Or.inl ⟨by rfl, ?_⟩) (by assumption) ?_
      rotate_left
      · (intro w hSw; (try dsimp only at hSw); go_simp; (try with_reducible rfl))
      (try simp only [Act.put, List.getElem_toArray, List.getElem_cons_zero, List.getElem_cons_succ, List.setIfInBounds_toArray, List.set_cons_zero, List.set_cons_succ])
      refine wpAnyH_take (i := 20) (v := .string m.dig) rfl (by kernel_rfl) (by kernel_rfl) (by kernel_rfl) (fun _ _ _ h => h) (Or.inl ⟨by rfl, fun w hSw => by have c := hSw.cv 33 (.string m.dig) rfl; go_simp⟩) (by assumption) ?_
      (try simp only [Act.put, List.getElem_toArray, List.getElem_cons_zero, List.getElem_cons_succ, List.setIfInBounds_toArray, List.set_cons_zero, List.set_cons_succ])
      refine wpAnyH_take (i := 22) (v := ?_) rfl (by kernel_rfl) (by kernel_rfl) (by kernel_rfl) (fun _ _ _ h => h) (Or.inl ⟨by rfl, ?_⟩) (by assumption) ?_
      rotate_left
      · (intro w hSw; (try dsimp only at hSw); go_simp; (try with_reducible rfl))
      (try simp only [Act.put, List.getElem_toArray, List.getElem_cons_zero, List.getElem_cons_succ, List.setIfInBounds_toArray, List.set_cons_zero, List.set_cons_succ])
      refine wpAnyH_take (i := 23) (v := .int .i64 m.cost) rfl (by kernel_rfl) (by kernel_rfl) (by kernel_rfl) (fun _ _ _ h => h) (Or.inl ⟨by rfl, fun w hSw => by have c := hSw.cv 34 (.int .i64 m.cost) rfl; go_simp⟩) (by assumption) ?_
      (try simp only [Act.put, List.getElem_toArray, List.getElem_cons_zero, List.getElem_cons_succ, List.setIfInBounds_toArray, List.set_cons_zero, List.set_cons_succ])
      refine wpAnyH_take (i := 26) (v := ?_) rfl (by kernel_rfl) (by kernel_rfl) (by kernel_rfl) (fun _ _ _ h => h) (Or.inl ⟨by rfl, ?_⟩) (by assumption) ?_
      rotate_left
      · (intro w hSw; (try dsimp only at hSw); go_simp; (try with_reducible rfl))
      (try simp only [Act.put, List.getElem_toArray, List.getElem_cons_zero, List.getElem_cons_succ, List.setIfInBounds_toArray, List.set_cons_zero, List.set_cons_succ])
      refine wpAnyH_take (i := 28) (v := ?_) rfl (by kernel_rfl) (by kernel_rfl) (by kernel_rfl) (fun _ _ _ h => h) (Or.inl ⟨by rfl, ?_⟩) (by assumption) ?_
      rotate_left
      · (intro w hSw; (try dsimp only at hSw); go_simp; (try with_reducible rfl))
      (try simp only [Act.put, List.getElem_toArray, List.getElem_cons_zero, List.getElem_cons_succ, List.setIfInBounds_toArray, List.set_cons_zero, List.set_cons_succ])
      refine wpAnyH_take (i := 29) (v := .int .i64 m.hop) rfl (by kernel_rfl) (by kernel_rfl) (by kernel_rfl) (fun _ _ _ h => h) (Or.inl ⟨by rfl, fun w hSw => by have c := hSw.cv 43 (.int .i64 m.hop) rfl; go_simp⟩) (by assumption) ?_
      (try simp only [Act.put, List.getElem_toArray, List.getElem_cons_zero, List.getElem_cons_succ, List.setIfInBounds_toArray, List.set_cons_zero, List.set_cons_succ])
      refine wpAnyH_ready (rs := [2]) (by kernel_rfl) (by simp) ?_
      refine AllReadyH.cons rfl (fun K hK => ?_) AllReadyH.nil
      simp only [List.getElem_toArray, List.getElem_cons_zero, List.getElem_cons_succ]
      go_simp
      with_reducible refine (HB.out _).mono ?_
      rintro e w4 ⟨rfl, k4⟩
      have HA4 := HA3.drew.kept k4
      have B4 := B3.drew.trans (k4.mono B3.drew.size)
      refine hK.out _ _ ?_ (fun hHeld => ?_)
      · exact HA4
      clear hK K
      (try simp only [Act.put, List.getElem_toArray, List.getElem_cons_zero, List.getElem_cons_succ, List.setIfInBounds_toArray, List.set_cons_zero, List.set_cons_succ])
      refine wpAnyH_take (i := 3) (v := .string ⟨z1.toArray⟩) rfl (by kernel_rfl) (by kernel_rfl) (by kernel_rfl) (fun _ _ _ h => h) (Or.inl ⟨by rfl, fun w hSw => by go_simp⟩) (by assumption) ?_
      (try simp only [Act.put, List.getElem_toArray, List.getElem_cons_zero, List.getElem_cons_succ, List.setIfInBounds_toArray, List.set_cons_zero, List.set_cons_succ])
      refine wpAnyH_take (i := 4) (v := .string ⟨z2.toArray⟩) rfl (by kernel_rfl) (by kernel_rfl) (by kernel_rfl) (fun _ _ _ h => h) (Or.inl ⟨by rfl, fun w hSw => by go_simp⟩) (by assumption) ?_
      (try simp only [Act.put, List.getElem_toArray, List.getElem_cons_zero, List.getElem_cons_succ, List.setIfInBounds_toArray, List.set_cons_zero, List.set_cons_succ])
      refine wpAnyH_ready (rs := [10]) (by kernel_rfl) (by simp) ?_
      refine AllReadyH.cons rfl (fun K hK => ?_) AllReadyH.nil
      simp only [List.getElem_toArray, List.getElem_cons_zero, List.getElem_cons_succ]
      go_simp
      with_reducible refine (E0.out _).mono ?_
      rintro e w5 ⟨rfl, k5⟩
      have HA5 := HA4.kept k5
      have B5 := B4.trans (k5.mono B4.size)
      refine hK.out _ _ ?_ (fun hHeld => ?_)
      · exact HA5
      clear hK K
      (try simp only [Act.put, List.getElem_toArray, List.getElem_cons_zero, List.getElem_cons_succ, List.setIfInBounds_toArray, List.set_cons_zero, List.set_cons_succ])
      refine wpAnyH_take (i := 11) (v := .string ⟨z3.toArray⟩) rfl (by kernel_rfl) (by kernel_rfl) (by kernel_rfl) (fun _ _ _ h => h) (Or.inl ⟨by rfl, fun w hSw => by go_simp⟩) (by assumption) ?_
      (try simp only [Act.put, List.getElem_toArray, List.getElem_cons_zero, List.getElem_cons_succ, List.setIfInBounds_toArray, List.set_cons_zero, List.set_cons_succ])
      refine wpAnyH_take (i := 12) (v := .string ⟨z4.toArray⟩) rfl (by kernel_rfl) (by kernel_rfl) (by kernel_rfl) (fun _ _ _ h => h) (Or.inl ⟨by rfl, fun w hSw => by go_simp⟩) (by assumption) ?_
      (try simp only [Act.put, List.getElem_toArray, List.getElem_cons_zero, List.getElem_cons_succ, List.setIfInBounds_toArray, List.set_cons_zero, List.set_cons_succ])
      refine wpAnyH_take (i := 14) (v := .string ⟨z5.toArray⟩) rfl (by kernel_rfl) (by kernel_rfl) (by kernel_rfl) (fun _ _ _ h => h) (Or.inl ⟨by rfl, fun w hSw => by go_simp⟩) (by assumption) ?_
      (try simp only [Act.put, List.getElem_toArray, List.getElem_cons_zero, List.getElem_cons_succ, List.setIfInBounds_toArray, List.set_cons_zero, List.set_cons_succ])
      refine wpAnyH_ready (rs := [17]) (by kernel_rfl) (by simp) ?_
      refine AllReadyH.cons rfl (fun K hK => ?_) AllReadyH.nil
      simp only [List.getElem_toArray, List.getElem_cons_zero, List.getElem_cons_succ]
      go_simp
      with_reducible refine (E1.out _).mono ?_
      rintro e w6 ⟨rfl, k6⟩
      have HA6 := HA5.kept k6
      have B6 := B5.trans (k6.mono B5.size)
      refine hK.out _ _ ?_ (fun hHeld => ?_)
      · exact HA6
      clear hK K
      (try simp only [Act.put, List.getElem_toArray, List.getElem_cons_zero, List.getElem_cons_succ, List.setIfInBounds_toArray, List.set_cons_zero, List.set_cons_succ])
      refine wpAnyH_take (i := 18) (v := .string ⟨z6.toArray⟩) rfl (by kernel_rfl) (by kernel_rfl) (by kernel_rfl) (fun _ _ _ h => h) (Or.inl ⟨by rfl, fun w hSw => by go_simp⟩) (by assumption) ?_
      (try simp only [Act.put, List.getElem_toArray, List.getElem_cons_zero, List.getElem_cons_succ, List.setIfInBounds_toArray, List.set_cons_zero, List.set_cons_succ])
      refine wpAnyH_take (i := 21) (v := .string ⟨z7.toArray⟩) rfl (by kernel_rfl) (by kernel_rfl) (by kernel_rfl) (fun _ _ _ h => h) (Or.inl ⟨by rfl, fun w hSw => by go_simp⟩) (by assumption) ?_
      (try simp only [Act.put, List.getElem_toArray, List.getElem_cons_zero, List.getElem_cons_succ, List.setIfInBounds_toArray, List.set_cons_zero, List.set_cons_succ])
      refine wpAnyH_ready (rs := [24]) (by kernel_rfl) (by simp) ?_
      refine AllReadyH.cons rfl (fun K hK => ?_) AllReadyH.nil
      simp only [List.getElem_toArray, List.getElem_cons_zero, List.getElem_cons_succ]
      go_simp
      with_reducible refine (E2.out _).mono ?_
      rintro e w7 ⟨rfl, k7⟩
      have HA7 := HA6.kept k7
      have B7 := B6.trans (k7.mono B6.size)
      refine hK.out _ _ ?_ (fun hHeld => ?_)
      · exact HA7
      clear hK K
      (try simp only [Act.put, List.getElem_toArray, List.getElem_cons_zero, List.getElem_cons_succ, List.setIfInBounds_toArray, List.set_cons_zero, List.set_cons_succ])
      refine wpAnyH_take (i := 25) (v := .string ⟨z8.toArray⟩) rfl (by kernel_rfl) (by kernel_rfl) (by kernel_rfl) (fun _ _ _ h => h) (Or.inl ⟨by rfl, fun w hSw => by go_simp⟩) (by assumption) ?_
      (try simp only [Act.put, List.getElem_toArray, List.getElem_cons_zero, List.getElem_cons_succ, List.setIfInBounds_toArray, List.set_cons_zero, List.set_cons_succ])
      refine wpAnyH_take (i := 27) (v := .string ⟨z9.toArray⟩) rfl (by kernel_rfl) (by kernel_rfl) (by kernel_rfl) (fun _ _ _ h => h) (Or.inl ⟨by rfl, fun w hSw => by go_simp⟩) (by assumption) ?_
      (try simp only [Act.put, List.getElem_toArray, List.getElem_cons_zero, List.getElem_cons_succ, List.setIfInBounds_toArray, List.set_cons_zero, List.set_cons_succ])
      refine wpAnyH_ready (rs := [30]) (by kernel_rfl) (by simp) ?_
      refine AllReadyH.cons rfl (fun K hK => ?_) AllReadyH.nil
      simp only [List.getElem_toArray, List.getElem_cons_zero, List.getElem_cons_succ]
      go_simp
      with_reducible refine (E3.out _).mono ?_
      rintro e w8 ⟨rfl, k8⟩
      have HA8 := HA7.kept k8
      have B8 := B7.trans (k8.mono B7.size)
      refine hK.out _ _ ?_ (fun hHeld => ?_)
      · exact HA8
      clear hK K
      (try simp only [Act.put, List.getElem_toArray, List.getElem_cons_zero, List.getElem_cons_succ, List.setIfInBounds_toArray, List.set_cons_zero, List.set_cons_succ])
      refine wpAnyH_take (i := 31) (v := .string ⟨z10.toArray⟩) rfl (by kernel_rfl) (by kernel_rfl) (by kernel_rfl) (fun _ _ _ h => h) (Or.inl ⟨by rfl, fun w hSw => by go_simp⟩) (by assumption) ?_
      (try simp only [Act.put, List.getElem_toArray, List.getElem_cons_zero, List.getElem_cons_succ, List.setIfInBounds_toArray, List.set_cons_zero, List.set_cons_succ])
      refine wpAnyH_take (i := 32) (v := ?_) rfl (by kernel_rfl) (by kernel_rfl) (by kernel_rfl) (fun _ _ _ h => h) (Or.inl ⟨by rfl, ?_⟩) (by assumption) ?_
      rotate_left
      · (intro w hSw; (try dsimp only at hSw); go_simp; (try with_reducible rfl))
      (try simp only [Act.put, List.getElem_toArray, List.getElem_cons_zero, List.getElem_cons_succ, List.setIfInBounds_toArray, List.set_cons_zero, List.set_cons_succ])
      refine wpAnyH_done (by kernel_rfl) ?_ _
      refine NoPanic.normal ?_
      rw [← HF.out]
      clear HF HB HP E0 E1 E2 E3 p1 p2 p3 p4 p5 p6 p7 p8 p9 p10 zl1 zl2 zl3 zl4 zl5 zl6 zl7 zl8 zl9 zl10 HA3 HA4 HA5 HA6 HA7 B3 B4 B5 B6 B7 k4 k5 k6 k7 k8 HFL hf2 m1 m2 hpl hdl hl0 hl1 hl2 hl3 hl4 hrev hcost hbr hhop hbl
      generalize headM m l.length = hd at *
      have c44 := HA8.cv 44 (.slice a l.length c) rfl
      go_wp2_with fail
      go_loopw [7, 9, 10, 11, 63] (fun v _ _ _ i wr => ∃ k : Nat, k ≤ l.length ∧ i = .int .i64 k ∧ v = .string ⟨(hd ++ inssL (l.take k)).toArray⟩ ∧ Below w.heap.size w wr) (fun _ _ _ _ i _ => l.length - (intOf i).toNat)
      case atStart => exact ⟨0, by omega, rfl, by rw [List.take_zero, show inssL [] = [] from rfl, List.append_nil], B8⟩
      case round =>
        clear B8 c44 HA8
        obtain ⟨k, hk, rfl, rfl, Bk⟩ := hrel
        by_cases hlt : k < l.length
        · skip
          obtain ⟨bk, o, rfl, hbl, hat⟩ := h.at hlt
          have b1 : (k : Int) < (l.length : Int) := by omega
          have b2 : decide ((k : Int) < (l.length : Int)) = true := decide_eq_true b1
          have b3 : (0 : Int) ≤ (k : Int) := by omega
          have HK := (hat k hlt).below Bk hbl
          have B0 := Bk.alloc Bk.size (.cells (inC zIns) 85)
          have HN := Blk.new wr 85 (inC zIns)
          have hgl : w.heap.size ≤ wr.heap.size := Bk.size
          obtain ⟨hf, hroot, hcost, hbri, hpti, hhop⟩ := okIns_parts (HOK.out _ (List.getElem_mem hlt))
          have hxi := HXL.out _ (List.getElem_mem hlt)
          have HT : Hid (hd ++ inssL (l.take (k + 1)) = (hd ++ inssL (l.take k)) ++ (((((putL ((byF l[k].f : Nat) : Int).toNat 1 ++ packL l[k].root) ++ putL l[k].cost.toNat 4) ++ putL (16 * l[k].br).toNat 1) ++ putL (16 * l[k].pt).toNat 1) ++ putL l[k].hop.toNat 1)) := by
            show _ = _
            rw [HSN.out k hlt]
            unfold insL
            rw [Int.toNat_natCast]
            simp only [List.append_assoc]
          have hyl := HWL.out k hk
          generalize hd ++ inssL (l.take k) = y at *
          have HY := Lib.hid (fun W => flagsByte_any l[k].f hf W)
          have HPx := Lib.hid (fun W => refPack_yes l[k].root hroot hxi W)
          have hbf := byF_lt l[k].f hf
          have hfb : fitI 1 ((byF l[k].f : Nat) : Int) = true := by
            unfold fitI
            rw [decide_eq_true (show (0 : Int) ≤ ((byF l[k].f : Nat) : Int) by omega), decide_eq_true (show ((byF l[k].f : Nat) : Int) < 256 ^ 1 by omega)]
            rfl
          generalize byF l[k].f = fb at *
          have n1 : IntKind.i64.wrap (16 * l[k].br) = 16 * l[k].br := by rw [IntKind.wrap_i64] <;> omega
          have n2 : IntKind.i64.wrap (16 * l[k].pt) = 16 * l[k].pt := by rw [IntKind.wrap_i64] <;> omega
          have f1 := fit_sixteen hbri
          have f2 := fit_sixteen hpti
          generalize l[k] = x at *
          have G0 : Hid (∀ W, Calls Tryd.prog 19 #[.int .i64 ((fb : Nat) : Int), .int .i64 1] W fun e w' => e = .returned (.string ⟨(putL ((fb : Nat) : Int).toNat 1).toArray⟩) ∧ Below W.heap.size W w') := fun W => beN2 1 (by decide) (by decide) ((fb : Nat) : Int) hfb W
          have G1 : Hid (∀ W, Calls Tryd.prog 19 #[.int .i64 x.cost, .int .i64 4] W fun e w' => e = .returned (.string ⟨(putL x.cost.toNat 4).toArray⟩) ∧ Below W.heap.size W w') := fun W => beN2 4 (by decide) (by decide) x.cost hcost W
          have G2 : Hid (∀ W, Calls Tryd.prog 19 #[.int .i64 (16 * x.br), .int .i64 1] W fun e w' => e = .returned (.string ⟨(putL (16 * x.br).toNat 1).toArray⟩) ∧ Below W.heap.size W w') := fun W => beN2 1 (by decide) (by decide) (16 * x.br) f1 W
          have G3 : Hid (∀ W, Calls Tryd.prog 19 #[.int .i64 (16 * x.pt), .int .i64 1] W fun e w' => e = .returned (.string ⟨(putL (16 * x.pt).toNat 1).toArray⟩) ∧ Below W.heap.size W w') := fun W => beN2 1 (by decide) (by decide) (16 * x.pt) f2 W
          have G4 : Hid (∀ W, Calls Tryd.prog 19 #[.int .i64 x.hop, .int .i64 1] W fun e w' => e = .returned (.string ⟨(putL x.hop.toNat 1).toArray⟩) ∧ Below W.heap.size W w') := fun W => beN2 1 (by decide) (by decide) x.hop hhop W
          have ql0 : (putL ((fb : Nat) : Int).toNat 1).length = 1 := putL_length _ _
          generalize putL ((fb : Nat) : Int).toNat 1 = t0 at *
          have ql1 : (putL x.cost.toNat 4).length = 4 := putL_length _ _
          generalize putL x.cost.toNat 4 = t1 at *
          have ql2 : (putL (16 * x.br).toNat 1).length = 1 := putL_length _ _
          generalize putL (16 * x.br).toNat 1 = t2 at *
          have ql3 : (putL (16 * x.pt).toNat 1).length = 1 := putL_length _ _
          generalize putL (16 * x.pt).toNat 1 = t3 at *
          have ql4 : (putL x.hop.toNat 1).length = 1 := putL_length _ _
          generalize putL x.hop.toNat 1 = t4 at *
          have qlr := packL_len x.root
          generalize packL x.root = tr at *
          obtain ⟨x1, hx1⟩ : ∃ z, z = t0 ++ tr := ⟨_, rfl⟩
          have xl1 : x1.length = 9 := by rw [hx1, List.length_append]; omega
          have r1 : ∀ W, (Op.stringOp .add ⟨t0.toArray⟩ ⟨tr.toArray⟩).run Tryd.prog W = .ok (.string ⟨x1.toArray⟩) W := fun W => by rw [hx1]; exact run_string_add_lists W t0 tr (by omega) (by omega)
          obtain ⟨x2, hx2⟩ : ∃ z, z = x1 ++ t1 := ⟨_, rfl⟩
          have xl2 : x2.length = 13 := by rw [hx2, List.length_append]; omega
          have r2 : ∀ W, (Op.stringOp .add ⟨x1.toArray⟩ ⟨t1.toArray⟩).run Tryd.prog W = .ok (.string ⟨x2.toArray⟩) W := fun W => by rw [hx2]; exact run_string_add_lists W x1 t1 (by omega) (by omega)
          obtain ⟨x3, hx3⟩ : ∃ z, z = x2 ++ t2 := ⟨_, rfl⟩
          have xl3 : x3.length = 14 := by rw [hx3, List.length_append]; omega
          have r3 : ∀ W, (Op.stringOp .add ⟨x2.toArray⟩ ⟨t2.toArray⟩).run Tryd.prog W = .ok (.string ⟨x3.toArray⟩) W := fun W => by rw [hx3]; exact run_string_add_lists W x2 t2 (by omega) (by omega)
          obtain ⟨x4, hx4⟩ : ∃ z, z = x3 ++ t3 := ⟨_, rfl⟩
          have xl4 : x4.length = 15 := by rw [hx4, List.length_append]; omega
          have r4 : ∀ W, (Op.stringOp .add ⟨x3.toArray⟩ ⟨t3.toArray⟩).run Tryd.prog W = .ok (.string ⟨x4.toArray⟩) W := fun W => by rw [hx4]; exact run_string_add_lists W x3 t3 (by omega) (by omega)
          obtain ⟨x5, hx5⟩ : ∃ z, z = x4 ++ t4 := ⟨_, rfl⟩
          have xl5 : x5.length = 16 := by rw [hx5, List.length_append]; omega
          have r5 : ∀ W, (Op.stringOp .add ⟨x4.toArray⟩ ⟨t4.toArray⟩).run Tryd.prog W = .ok (.string ⟨x5.toArray⟩) W := fun W => by rw [hx5]; exact run_string_add_lists W x4 t4 (by omega) (by omega)
          obtain ⟨x6, hx6⟩ : ∃ z, z = y ++ x5 := ⟨_, rfl⟩
          have xl6 : x6.length ≤ 2016 := by rw [hx6, List.length_append]; omega
          have r6 : ∀ W, (Op.stringOp .add ⟨y.toArray⟩ ⟨x5.toArray⟩).run Tryd.prog W = .ok (.string ⟨x6.toArray⟩) W := fun W => by rw [hx6]; exact run_string_add_lists W y x5 (by omega) (by omega)
          replace HT : Hid (hd ++ inssL (l.take (k + 1)) = x6) := by show _ = _; rw [HT.out, hx6, hx5, hx4, hx3, hx2, hx1]
          clear hx1 hx2 hx3 hx4 hx5 hx6 hbf hat hbl
          go_upto_region 11 with (first
            | (refine load_cells 85 (inC x) (by rfl) rfl rfl HK (by kernel_rfl) (by kernel_rfl) ?_)
            | (refine alloc_blk 85 (inC zIns) (by rfl) rfl Tryd.inZero ?_)
            | (refine store_blk (k := 0) 85 (.agg (inC x)) (inC x) (by rfl) rfl rfl rfl HN (by kernel_rfl) (show (19 : Nat) ≤ 19 from Nat.le_refl 19) (by rfl) (st_whole _ _ rfl) ?_; intro v1 V1 q1 g1))
          (try simp only [Act.put, List.setIfInBounds_toArray, List.set_cons_zero, List.set_cons_succ])
          have C1 : Below w.heap.size w v1 := B0.trans (q1.mono hgl)
          clear HK HN B0 q1 g1 Bk
          generalize wr.heap.size = G at *
          go_wp2_with (refine load_blk (k := 7) 27 (brC x.root) (by rfl) rfl rfl V1 (by kernel_rfl) (by kernel_rfl) rfl ?_)
          refine (HPx.out _).mono ?_
          rintro e v2 ⟨rfl, q2⟩
          have V2 := V1.kept q2
          have C2 := C1.trans (q2.mono C1.size)
          clear V1 C1 q2
          go_upto_region 12 with (fail)
          refine wp_region_noPanic ?_
          refine wp_region_held_drew (S := (fun w' => Blk w' G 85 (inC x))) (by kernel_rfl) ?_ (fun hHeld => ?_)
          · exact V2
          refine wpAnyH_take (i := 0) (v := ?_) rfl (by kernel_rfl) (by kernel_rfl) (by kernel_rfl) (fun _ _ _ h => h) (Or.inl ⟨by rfl, ?_⟩) (by assumption) ?_
          rotate_left
          · (intro w hSw; (try dsimp only at hSw); go_simp; (try with_reducible rfl))
          (try simp only [Act.put, List.getElem_toArray, List.getElem_cons_zero, List.getElem_cons_succ, List.setIfInBounds_toArray, List.set_cons_zero, List.set_cons_succ])
          refine wpAnyH_take (i := 1) (v := ?_) rfl (by kernel_rfl) (by kernel_rfl) (by kernel_rfl) (fun _ _ _ h => h) (Or.inl ⟨by rfl, ?_⟩) (by assumption) ?_
          rotate_left
          · (intro w hSw; (try dsimp only at hSw); go_simp; (try with_reducible rfl))
          (try simp only [Act.put, List.getElem_toArray, List.getElem_cons_zero, List.getElem_cons_succ, List.setIfInBounds_toArray, List.set_cons_zero, List.set_cons_succ])
          refine wpAnyH_take (i := 2) (v := .agg (flC x.f)) rfl (by kernel_rfl) (by kernel_rfl) (by kernel_rfl) (fun _ _ _ h => h) (Or.inl ⟨by rfl, fun w hSw => exec_load_blk (k := 0) 23 (flC x.f) rfl rfl hSw (by kernel_rfl) (by kernel_rfl) rfl⟩) (by assumption) ?_
          (try simp only [Act.put, List.getElem_toArray, List.getElem_cons_zero, List.getElem_cons_succ, List.setIfInBounds_toArray, List.set_cons_zero, List.set_cons_succ])
          refine wpAnyH_take (i := 5) (v := ?_) rfl (by kernel_rfl) (by kernel_rfl) (by kernel_rfl) (fun _ _ _ h => h) (Or.inl ⟨by rfl, ?_⟩) (by assumption) ?_
          rotate_left
          · (intro w hSw; (try dsimp only at hSw); go_simp; (try with_reducible rfl))
          (try simp only [Act.put, List.getElem_toArray, List.getElem_cons_zero, List.getElem_cons_succ, List.setIfInBounds_toArray, List.set_cons_zero, List.set_cons_succ])
          refine wpAnyH_take (i := 7) (v := ?_) rfl (by kernel_rfl) (by kernel_rfl) (by kernel_rfl) (fun _ _ _ h => h) (Or.inl ⟨by rfl, ?_⟩) (by assumption) ?_
          rotate_left
          · (intro w hSw; (try dsimp only at hSw); go_simp; (try with_reducible rfl))
          (try simp only [Act.put, List.getElem_toArray, List.getElem_cons_zero, List.getElem_cons_succ, List.setIfInBounds_toArray, List.set_cons_zero, List.set_cons_succ])
          refine wpAnyH_take (i := 8) (v := .int .i64 x.cost) rfl (by kernel_rfl) (by kernel_rfl) (by kernel_rfl) (fun _ _ _ h => h) (Or.inl ⟨by rfl, fun w hSw => by have c := hSw.cv 15 (.int .i64 x.cost) rfl; go_simp⟩) (by assumption) ?_
          (try simp only [Act.put, List.getElem_toArray, List.getElem_cons_zero, List.getElem_cons_succ, List.setIfInBounds_toArray, List.set_cons_zero, List.set_cons_succ])
          refine wpAnyH_take (i := 11) (v := ?_) rfl (by kernel_rfl) (by kernel_rfl) (by kernel_rfl) (fun _ _ _ h => h) (Or.inl ⟨by rfl, ?_⟩) (by assumption) ?_
          rotate_left
          · (intro w hSw; (try dsimp only at hSw); go_simp; (try with_reducible rfl))
          (try simp only [Act.put, List.getElem_toArray, List.getElem_cons_zero, List.getElem_cons_succ, List.setIfInBounds_toArray, List.set_cons_zero, List.set_cons_succ])
          refine wpAnyH_take (i := 12) (v := .int .i64 x.br) rfl (by kernel_rfl) (by kernel_rfl) (by kernel_rfl) (fun _ _ _ h => h) (Or.inl ⟨by rfl, fun w hSw => by have c := hSw.cv 16 (.int .i64 x.br) rfl; go_simp⟩) (by assumption) ?_
          (try simp only [Act.put, List.getElem_toArray, List.getElem_cons_zero, List.getElem_cons_succ, List.setIfInBounds_toArray, List.set_cons_zero, List.set_cons_succ])
          refine wpAnyH_take (i := 13) (v := ?_) rfl (by kernel_rfl) (by kernel_rfl) (by kernel_rfl) (fun _ _ _ h => h) (Or.inl ⟨by rfl, ?_⟩) (by assumption) ?_
          rotate_left
          · (intro w hSw; (try dsimp only at hSw); go_simp; (try with_reducible rfl))
          (try simp only [Act.put, List.getElem_toArray, List.getElem_cons_zero, List.getElem_cons_succ, List.setIfInBounds_toArray, List.set_cons_zero, List.set_cons_succ])
          refine wpAnyH_take (i := 16) (v := ?_) rfl (by kernel_rfl) (by kernel_rfl) (by kernel_rfl) (fun _ _ _ h => h) (Or.inl ⟨by rfl, ?_⟩) (by assumption) ?_
          rotate_left
          · (intro w hSw; (try dsimp only at hSw); go_simp; (try with_reducible rfl))
          (try simp only [Act.put, List.getElem_toArray, List.getElem_cons_zero, List.getElem_cons_succ, List.setIfInBounds_toArray, List.set_cons_zero, List.set_cons_succ])
          refine wpAnyH_take (i := 17) (v := .int .i64 x.pt) rfl (by kernel_rfl) (by kernel_rfl) (by kernel_rfl) (fun _ _ _ h => h) (Or.inl ⟨by rfl, fun w hSw => by have c := hSw.cv 17 (.int .i64 x.pt) rfl; go_simp⟩) (by assumption) ?_
          (try simp only [Act.put, List.getElem_toArray, List.getElem_cons_zero, List.getElem_cons_succ, List.setIfInBounds_toArray, List.set_cons_zero, List.set_cons_succ])
          refine wpAnyH_take (i := 18) (v := ?_) rfl (by kernel_rfl) (by kernel_rfl) (by kernel_rfl) (fun _ _ _ h => h) (Or.inl ⟨by rfl, ?_⟩) (by assumption) ?_
          rotate_left
          · (intro w hSw; (try dsimp only at hSw); go_simp; (try with_reducible rfl))
          (try simp only [Act.put, List.getElem_toArray, List.getElem_cons_zero, List.getElem_cons_succ, List.setIfInBounds_toArray, List.set_cons_zero, List.set_cons_succ])
          refine wpAnyH_take (i := 21) (v := ?_) rfl (by kernel_rfl) (by kernel_rfl) (by kernel_rfl) (fun _ _ _ h => h) (Or.inl ⟨by rfl, ?_⟩) (by assumption) ?_
          rotate_left
          · (intro w hSw; (try dsimp only at hSw); go_simp; (try with_reducible rfl))
          (try simp only [Act.put, List.getElem_toArray, List.getElem_cons_zero, List.getElem_cons_succ, List.setIfInBounds_toArray, List.set_cons_zero, List.set_cons_succ])
          refine wpAnyH_take (i := 22) (v := .int .i64 x.hop) rfl (by kernel_rfl) (by kernel_rfl) (by kernel_rfl) (fun _ _ _ h => h) (Or.inl ⟨by rfl, fun w hSw => by have c := hSw.cv 18 (.int .i64 x.hop) rfl; go_simp⟩) (by assumption) ?_
          (try simp only [Act.put, List.getElem_toArray, List.getElem_cons_zero, List.getElem_cons_succ, List.setIfInBounds_toArray, List.set_cons_zero, List.set_cons_succ])
          refine wpAnyH_ready (rs := [3]) (by kernel_rfl) (by simp) ?_
          refine AllReadyH.cons rfl (fun K hK => ?_) AllReadyH.nil
          simp only [List.getElem_toArray, List.getElem_cons_zero, List.getElem_cons_succ]
          go_simp
          with_reducible refine (HY.out _).mono ?_
          rintro e v3 ⟨rfl, q3⟩
          have V3 := V2.drew.kept q3
          have C3 := C2.drew.trans (q3.mono C2.drew.size)
          refine hK.out _ _ ?_ (fun hHeld => ?_)
          · exact V3
          clear hK K
          (try simp only [Act.put, List.getElem_toArray, List.getElem_cons_zero, List.getElem_cons_succ, List.setIfInBounds_toArray, List.set_cons_zero, List.set_cons_succ])
          refine wpAnyH_ready (rs := [4]) (by kernel_rfl) (by simp) ?_
          refine AllReadyH.cons rfl (fun K hK => ?_) AllReadyH.nil
          simp only [List.getElem_toArray, List.getElem_cons_zero, List.getElem_cons_succ]
          go_simp
          with_reducible refine (G0.out _).mono ?_
          rintro e v4 ⟨rfl, q4⟩
          have V4 := V3.kept q4
          have C4 := C3.trans (q4.mono C3.size)
          refine hK.out _ _ ?_ (fun hHeld => ?_)
          · exact V4
          clear hK K
          (try simp only [Act.put, List.getElem_toArray, List.getElem_cons_zero, List.getElem_cons_succ, List.setIfInBounds_toArray, List.set_cons_zero, List.set_cons_succ])
          refine wpAnyH_take (i := 6) (v := .string ⟨x1.toArray⟩) rfl (by kernel_rfl) (by kernel_rfl) (by kernel_rfl) (fun _ _ _ h => h) (Or.inl ⟨by rfl, fun w hSw => by go_simp⟩) (by assumption) ?_
          (try simp only [Act.put, List.getElem_toArray, List.getElem_cons_zero, List.getElem_cons_succ, List.setIfInBounds_toArray, List.set_cons_zero, List.set_cons_succ])
          refine wpAnyH_ready (rs := [9]) (by kernel_rfl) (by simp) ?_
          refine AllReadyH.cons rfl (fun K hK => ?_) AllReadyH.nil
          simp only [List.getElem_toArray, List.getElem_cons_zero, List.getElem_cons_succ]
          go_simp
          with_reducible refine (G1.out _).mono ?_
          rintro e v5 ⟨rfl, q5⟩
          have V5 := V4.kept q5
          have C5 := C4.trans (q5.mono C4.size)
          refine hK.out _ _ ?_ (fun hHeld => ?_)
          · exact V5
          clear hK K
          (try simp only [Act.put, List.getElem_toArray, List.getElem_cons_zero, List.getElem_cons_succ, List.setIfInBounds_toArray, List.set_cons_zero, List.set_cons_succ])
          refine wpAnyH_take (i := 10) (v := .string ⟨x2.toArray⟩) rfl (by kernel_rfl) (by kernel_rfl) (by kernel_rfl) (fun _ _ _ h => h) (Or.inl ⟨by rfl, fun w hSw => by go_simp⟩) (by assumption) ?_
          (try simp only [Act.put, List.getElem_toArray, List.getElem_cons_zero, List.getElem_cons_succ, List.setIfInBounds_toArray, List.set_cons_zero, List.set_cons_succ])
          refine wpAnyH_ready (rs := [14]) (by kernel_rfl) (by simp) ?_
          refine AllReadyH.cons rfl (fun K hK => ?_) AllReadyH.nil
          simp only [List.getElem_toArray, List.getElem_cons_zero, List.getElem_cons_succ]
          go_simp
          with_reducible refine (G2.out _).mono ?_
          rintro e v6 ⟨rfl, q6⟩
          have V6 := V5.kept q6
          have C6 := C5.trans (q6.mono C5.size)
          refine hK.out _ _ ?_ (fun hHeld => ?_)
          · exact V6
          clear hK K
          (try simp only [Act.put, List.getElem_toArray, List.getElem_cons_zero, List.getElem_cons_succ, List.setIfInBounds_toArray, List.set_cons_zero, List.set_cons_succ])
          refine wpAnyH_take (i := 15) (v := .string ⟨x3.toArray⟩) rfl (by kernel_rfl) (by kernel_rfl) (by kernel_rfl) (fun _ _ _ h => h) (Or.inl ⟨by rfl, fun w hSw => by go_simp⟩) (by assumption) ?_
          (try simp only [Act.put, List.getElem_toArray, List.getElem_cons_zero, List.getElem_cons_succ, List.setIfInBounds_toArray, List.set_cons_zero, List.set_cons_succ])
          refine wpAnyH_ready (rs := [19]) (by kernel_rfl) (by simp) ?_
          refine AllReadyH.cons rfl (fun K hK => ?_) AllReadyH.nil
          simp only [List.getElem_toArray, List.getElem_cons_zero, List.getElem_cons_succ]
          go_simp
          with_reducible refine (G3.out _).mono ?_
          rintro e v7 ⟨rfl, q7⟩
          have V7 := V6.kept q7
          have C7 := C6.trans (q7.mono C6.size)
          refine hK.out _ _ ?_ (fun hHeld => ?_)
          · exact V7
          clear hK K
          (try simp only [Act.put, List.getElem_toArray, List.getElem_cons_zero, List.getElem_cons_succ, List.setIfInBounds_toArray, List.set_cons_zero, List.set_cons_succ])
          refine wpAnyH_take (i := 20) (v := .string ⟨x4.toArray⟩) rfl (by kernel_rfl) (by kernel_rfl) (by kernel_rfl) (fun _ _ _ h => h) (Or.inl ⟨by rfl, fun w hSw => by go_simp⟩) (by assumption) ?_
          (try simp only [Act.put, List.getElem_toArray, List.getElem_cons_zero, List.getElem_cons_succ, List.setIfInBounds_toArray, List.set_cons_zero, List.set_cons_succ])
          refine wpAnyH_ready (rs := [23]) (by kernel_rfl) (by simp) ?_
          refine AllReadyH.cons rfl (fun K hK => ?_) AllReadyH.nil
          simp only [List.getElem_toArray, List.getElem_cons_zero, List.getElem_cons_succ]
          go_simp
          with_reducible refine (G4.out _).mono ?_
          rintro e v8 ⟨rfl, q8⟩
          have V8 := V7.kept q8
          have C8 := C7.trans (q8.mono C7.size)
          refine hK.out _ _ ?_ (fun hHeld => ?_)
          · exact V8
          clear hK K
          (try simp only [Act.put, List.getElem_toArray, List.getElem_cons_zero, List.getElem_cons_succ, List.setIfInBounds_toArray, List.set_cons_zero, List.set_cons_succ])
          refine wpAnyH_take (i := 24) (v := .string ⟨x5.toArray⟩) rfl (by kernel_rfl) (by kernel_rfl) (by kernel_rfl) (fun _ _ _ h => h) (Or.inl ⟨by rfl, fun w hSw => by go_simp⟩) (by assumption) ?_
          (try simp only [Act.put, List.getElem_toArray, List.getElem_cons_zero, List.getElem_cons_succ, List.setIfInBounds_toArray, List.set_cons_zero, List.set_cons_succ])
          refine wpAnyH_take (i := 25) (v := .string ⟨x6.toArray⟩) rfl (by kernel_rfl) (by kernel_rfl) (by kernel_rfl) (fun _ _ _ h => h) (Or.inl ⟨by rfl, fun w hSw => by go_simp⟩) (by assumption) ?_
          (try simp only [Act.put, List.getElem_toArray, List.getElem_cons_zero, List.getElem_cons_succ, List.setIfInBounds_toArray, List.set_cons_zero, List.set_cons_succ])
          refine wpAnyH_take (i := 26) (v := ?_) rfl (by kernel_rfl) (by kernel_rfl) (by kernel_rfl) (fun _ _ _ h => h) (Or.inl ⟨by rfl, ?_⟩) (by assumption) ?_
          rotate_left
          · (intro w hSw; (try dsimp only at hSw); go_simp; (try with_reducible rfl))
          (try simp only [Act.put, List.getElem_toArray, List.getElem_cons_zero, List.getElem_cons_succ, List.setIfInBounds_toArray, List.set_cons_zero, List.set_cons_succ])
          refine wpAnyH_done (by kernel_rfl) ?_ _
          refine NoPanic.normal ?_
          rw [← HT.out]
          go_wp2
          go_roundw
          case rel => exact ⟨k + 1, by omega, by go_num, rfl, C8⟩
          case measure => simp [intOf]; omega
        · obtain rfl : k = l.length := by omega
          have b2 : decide ((l.length : Int) < (l.length : Int)) = false := decide_eq_false (by omega)
          rw [List.take_length, ← HWM.out]
          go_wp2
          go_ret2
          exact ⟨rfl, Bk⟩

end Go.Proofs.YtajbkoggmhgjfaaDoor
