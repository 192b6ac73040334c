/- mstp.Write at every message. -/
import Derived.Test.YtajbkoggmhgjfaaDoorMsRight
import Derived.Test.YtajbkoggmhgjfaaDoorMsPut
import Derived.Test.YtajbkoggmhgjfaaDoorBpBodyL
import Derived.Deep.RegionHeld3
namespace Go.Proofs.YtajbkoggmhgjfaaDoor
open Go.RowKit
attribute [local go_sem ↓] Go.wp_at_zero Go.wp_at_succ
set_option linter.unusedSimpArgs false
set_option linter.unusedVariables false
set_option maxRecDepth 100000

theorem okIns_parts {x : Ins} (h : okIns x = true) : okF x.f = true ∧ okB x.root = true ∧ fitI 4 x.cost = true ∧ (0 ≤ x.br ∧ x.br ≤ 15) ∧ (0 ≤ x.pt ∧ x.pt ≤ 15) ∧ fitI 1 x.hop = true := by
  simp only [okIns, Bool.and_eq_true] at h
  obtain ⟨h0, h1, h2, h3, h4, h5⟩ := h
  exact ⟨h0, h1, h2, rkI_all h3, rkI_all h4, h5⟩
theorem i64_fits {n : Nat} {v : Int} (hn : n ≤ 7) (h : fitI n v = true) : i64R v := by
  obtain ⟨h0, h1⟩ := fitI_all h
  have e : ((256 ^ n : Nat) : Int) = 256 ^ n := by simp
  have h3 : 256 ^ n ≤ 256 ^ 7 := Nat.pow_le_pow_right (by decide) hn
  exact ⟨by omega, by omega⟩
theorem rg_okBd {b : Bp} (h : okBd b = true) : rgBp b := by
  obtain ⟨_, _, _, hcost, hage, hmx, hhel, hwai⟩ := okBd_all h
  exact ⟨i64_fits (by decide) hcost, i64_fits (by decide) hage, i64_fits (by decide) hmx, i64_fits (by decide) hhel, i64_fits (by decide) hwai⟩
/-- What may be has numbers of 64 bits. -/
theorem okMs_rg {m : Ms} {l : List Ins} (h : okMs m l = true) : rgBp m.base ∧ rgMs m ∧ ∀ x ∈ l, rgIn x := by
  obtain ⟨hk, hrp, hname, htz, hrev, hdig, hcost, hbr, hhop, hlen, hall⟩ := okMs_all h
  unfold okRp at hrp
  rw [Bool.and_eq_true] at hrp
  refine ⟨rg_okBd hrp.2, ⟨i64_fits (by decide) hrev, i64_fits (by decide) hcost, i64_fits (by decide) hhop⟩, fun x hx => ?_⟩
  obtain ⟨_, _, h2, _, _, h5⟩ := okIns_parts (List.all_eq_true.1 hall x hx)
  exact ⟨i64_fits (by decide) h2, i64_fits (by decide) h5⟩
theorem repeat_zero : ∀ n, Lib.repeatL [0] n = List.replicate n 0
  | 0 => rfl
  | n + 1 => by
    show [0] ++ Lib.repeatL [0] n = _
    rw [repeat_zero n, List.replicate_succ]
    rfl
theorem fit_sixteen {v : Int} (h : 0 ≤ v ∧ v ≤ 15) : fitI 1 (16 * v) = true := by
  unfold fitI
  rw [decide_eq_true (show 0 ≤ 16 * v by omega), decide_eq_true (show 16 * v < 256 ^ 1 by omega)]
  rfl

theorem msWrite_no (m : Ms) (a : Option Addr) (c : Nat) (l : List Ins) (w : World) (h : InIn w a l) (hlen : l.length ≤ 1000000) (hr : rgBp m.base ∧ rgMs m ∧ ∀ x ∈ l, rgIn x) (hn : m.name.size ≤ 1000000) (hd : m.dig.size ≤ 1000000) (hok : okMs m l = false) :
    Calls Tryd.prog 7 #[.agg (msC m (.slice a l.length c))] w fun e w' => e = .returned (.tuple #[.string ⟨#[]⟩, .iface 35 (.int .i64 1)]) ∧ Below w.heap.size w w' := by
  have HA := Blk.new w 34 (msC m (.slice a l.length c))
  have B0 : Below w.heap.size w (w.alloc (.cells (msC m (.slice a l.length c)) 34)) := (Below.refl _ _).alloc (Nat.le_refl _) _
  have hI := h.below B0
  have HR := Lib.hid (fun (W : World) (h : InIn W a l) => by have q := msRight_any m a c l W h hlen hr hn hd; rw [hok] at q; exact q)
  clear h hok
  go_enter Tryd.func7, Tryd.ntmps7
  go_upto_region 1 with (fail)
  generalize (w.alloc (.cells (msC m (.slice a l.length c)) 34)) = w1 at *
  go_wp2_with (refine load_blk (k := 0) 34 (msC m (.slice a l.length c)) (by rfl) rfl rfl HA (by kernel_rfl) (by kernel_rfl) rfl ?_)
  refine (HR.out _ hI).mono ?_
  rintro e w2 ⟨rfl, k2⟩
  go_wp2
  go_ret2
  exact ⟨rfl, B0.trans (k2.mono B0.size)⟩

set_option maxHeartbeats 12800000 in
theorem msWrite_yes (m : Ms) (a : Option Addr) (c : Nat) (l : List Ins) (w : World) (h : InIn w a l) (hok : okMs m l = true) (hx : byBp m.base ∧ byB m.br ∧ ∀ x ∈ l, byIns x) :
    Calls Tryd.prog 7 #[.agg (msC m (.slice a l.length c))] w fun e w' => e = .returned (.tuple #[.string ⟨(writeM m l).toArray⟩, .nilIface]) ∧ Below w.heap.size w w' := by
  have hmf : ∀ (fn : Fn) (first cap : Array Value) (w : World), (Instr.makeFunc fn first cap).run Tryd.prog w = .ok (.func fn first cap) w := fun _ _ _ _ => rfl
  have HA1 := Blk.new w 34 (msC m (.slice a l.length c))
  have B1 : Below w.heap.size w (w.alloc (.cells (msC m (.slice a l.length c)) 34)) := (Below.refl _ _).alloc (Nat.le_refl _) _
  have hI1 := h.below B1
  obtain ⟨hk, hrp, hname, htz, hrev, hdig, hcost, hbr, hhop, hlen, hall⟩ := okMs_all hok
  obtain ⟨hxb, hxr, hxl⟩ := hx
  have hr := okMs_rg hok
  have hbp : okBp m.base = true := by rw [okBp_three hk]; exact hrp
  have HR := Lib.hid (fun (W : World) (h : InIn W a l) => by have q := msRight_any m a c l W h (by omega) hr (by omega) (by omega); rw [hok] at q; exact q)
  have HB := Lib.hid (fun W => body_any m.base (Or.inr hk) hbp hxb hr.1 W)
  have hbl := bodyL_len m.base
  have HF : Hid (headM m l.length = ((((((([] ++ (([0, 0, 3, 2] ++ bodyL m.base) ++ [0])) ++ putL (64 + 16 * (l.length : Int)).toNat 2) ++ (([0] ++ m.name.data.toList) ++ List.replicate (32 - m.name.size) 0)) ++ putL m.rev.toNat 2) ++ m.dig.data.toList) ++ putL m.cost.toNat 4) ++ packL m.br) ++ putL m.hop.toNat 1) := by
    show _ = _
    unfold headM padL
    rw [show (64 + 16 * (l.length : Int)).toNat = 64 + 16 * l.length by omega]
    simp only [List.append_assoc, List.nil_append]
  have HFL := headM_len m l.length hname hdig
  have HW : Hid (∀ k, k ≤ l.length → (headM m l.length ++ inssL (l.take k)).length ≤ 2000) := fun k hk => by
    rw [List.length_append, HFL, inssL_len, List.length_take]
    omega
  have HOK : Hid (∀ x ∈ l, okIns x = true) := List.all_eq_true.1 hall
  have HXL := Lib.hid hxl
  have HSN := Lib.hid (inssL_snoc l)
  have HWM : Hid (writeM m l = headM m l.length ++ inssL l) := rfl
  obtain ⟨z1, hz1⟩ : ∃ z, z = [0, 0, 3, 2] ++ bodyL m.base := ⟨_, rfl⟩
  have zl1 : z1.length = 35 := by rw [hz1, List.length_append, hbl]; rfl
  have p1 : ∀ W, (Op.stringOp .add ⟨#[0, 0, 3, 2]⟩ ⟨(bodyL m.base).toArray⟩).run Tryd.prog W = .ok (.string ⟨z1.toArray⟩) W := fun W => by rw [hz1]; exact run_string_add_lists W [0, 0, 3, 2] _ (by decide) (by omega)
  obtain ⟨z2, hz2⟩ : ∃ z, z = z1 ++ [0] := ⟨_, rfl⟩
  have zl2 : z2.length = 36 := by rw [hz2, List.length_append, zl1]; rfl
  have p2 : ∀ W, (Op.stringOp .add ⟨z1.toArray⟩ ⟨#[0]⟩).run Tryd.prog W = .ok (.string ⟨z2.toArray⟩) W := fun W => by rw [hz2]; exact run_string_add_lists W _ [0] (by omega) (by decide)
  have hnl : m.name.data.toList.length = m.name.size := by simp
  have hdl : m.dig.data.toList.length = 16 := by rw [← hdig]; simp
  obtain ⟨z3, hz3⟩ : ∃ z, z = [0] ++ m.name.data.toList := ⟨_, rfl⟩
  have zl3 : z3.length ≤ 33 := by rw [hz3, List.length_append, hnl]; simp; omega
  have p3 : ∀ W, (Op.stringOp .add ⟨#[0]⟩ m.name).run Tryd.prog W = .ok (.string ⟨z3.toArray⟩) W := fun W => by rw [hz3]; exact run_string_add_lists W [0] m.name.data.toList (by decide) (by omega)
  obtain ⟨r, hrr⟩ : ∃ r : Nat, r = 32 - m.name.size := ⟨_, rfl⟩
  have wr : IntKind.i64.wrap (32 - (m.name.size : Int)) = (r : Int) := by rw [IntKind.wrap_i64] <;> omega
  obtain ⟨rp, hrpl⟩ : ∃ rp, rp = List.replicate r (0 : UInt8) := ⟨_, rfl⟩
  have rpl : rp.length = r := by rw [hrpl, List.length_replicate]
  have hr32 : r ≤ 32 := by omega
  have HRP : Hid (∀ W, Calls Tryd.prog 27 #[.string ⟨#[0]⟩, .int .i64 r] W fun e w' => e = .returned (.string ⟨rp.toArray⟩) ∧ Below W.heap.size W w') := fun W => by
    have q := Tryd.strings_Repeat ⟨#[0]⟩ r W (by omega) (by show 1 * r ≤ _; omega)
    rw [show (⟨#[0]⟩ : ByteArray).data.toList = [0] from rfl, repeat_zero, ← hrpl] at q
    exact q
  obtain ⟨z4, hz4⟩ : ∃ z, z = z3 ++ rp := ⟨_, rfl⟩
  have zl4 : z4.length ≤ 65 := by rw [hz4, List.length_append, rpl]; omega
  have p4 : ∀ W, (Op.stringOp .add ⟨z3.toArray⟩ ⟨rp.toArray⟩).run Tryd.prog W = .ok (.string ⟨z4.toArray⟩) W := fun W => by rw [hz4]; exact run_string_add_lists W _ _ (by omega) (by omega)
  replace HF : Hid (headM m l.length = ((((((([] ++ z2) ++ putL (64 + 16 * (l.length : Int)).toNat 2) ++ z4) ++ putL m.rev.toNat 2) ++ m.dig.data.toList) ++ putL m.cost.toNat 4) ++ packL m.br) ++ putL m.hop.toNat 1) := by
    show _ = _
    rw [HF.out, hz2, hz1, hz4, hz3, hrpl, hrr]
  have m1 : IntKind.i64.wrap (16 * (l.length : Int)) = 16 * (l.length : Int) := by rw [IntKind.wrap_i64] <;> omega
  have m2 : IntKind.i64.wrap (64 + 16 * (l.length : Int)) = 64 + 16 * (l.length : Int) := by rw [IntKind.wrap_i64] <;> omega
  have hf2 : fitI 2 (64 + 16 * (l.length : Int)) = true := by
    unfold fitI
    rw [decide_eq_true (show 0 ≤ 64 + 16 * (l.length : Int) by omega), decide_eq_true (show 64 + 16 * (l.length : Int) < 256 ^ 2 by omega)]
    rfl
  clear hz1 hz2 hz3 hz4 hrpl hrr hk hrp htz hall hbp hr hok hnl rpl hname hdig hbl
  go_enter Tryd.func7, Tryd.ntmps7
  go_upto_region 1 with (fail)
  generalize (w.alloc (.cells (msC m (.slice a l.length c)) 34)) = w1 at *
  go_wp2_with (refine load_blk (k := 0) 34 (msC m (.slice a l.length c)) (by rfl) rfl rfl HA1 (by kernel_rfl) (by kernel_rfl) rfl ?_)
  refine (HR.out _ hI1).mono ?_
  rintro e w2 ⟨rfl, k2⟩
  have HA2 := HA1.kept k2
  have B2 := B1.trans (k2.mono B1.size)
  have IB3 := bu_new w2
  have hA3 : Below w2.heap.size w2 (w2.alloc (.cells #[.pointer none, .slice none 0 0] 90)) := (Below.refl _ _).alloc (Nat.le_refl _) _
  have HA3 := HA2.kept hA3
  have B3 := B2.trans (hA3.mono B2.size)
  have hsz3 := hA3.size
  have hPb : w.heap.size < w2.heap.size := HA2.lt
  clear hI1 HA1 HA2 B1 B2 k2 hA3 HR
  go_upto_region 6 with (refine alloc_blk 90 #[.pointer none, .slice none 0 0] (by rfl) rfl Tryd.bdZero ?_)
  (try simp only [Act.put, List.setIfInBounds_toArray, List.set_cons_zero, List.set_cons_succ])
  generalize w2.alloc (.cells #[.pointer none, .slice none 0 0] 90) = w3 at *
  generalize w2.heap.size = b at *
  have hwb : w.heap.size ≤ b := Nat.le_of_lt hPb
  go_wp2_with (refine load_blk (k := 0) 31 (bpC m.base) (by rfl) rfl rfl HA3 (by kernel_rfl) (by kernel_rfl) rfl ?_)
  refine (HB.out _).mono ?_
  rintro e w4 ⟨rfl, k4⟩
  have IB4 := bu_below IB3 k4
  have HA4 := HA3.kept k4
  have B4 := B3.trans (k4.mono B3.size)
  have hb4 := Nat.le_trans hsz3 k4.size
  clear IB3 HA3 B3 hsz3 k4 HB
  go_wp2_with fail
  refine (write_bu b [] z2 _ IB4 (by simp; omega) hb4).mono ?_
  rintro e w5 ⟨rfl, IB5, b5, -⟩
  have HA5 := HA4.below b5 hPb
  have B5 := B4.trans (b5.mono hwb)
  have hb5 := Nat.le_trans hb4 b5.size
  clear IB4 HA4 B4 hb4 b5
  have c44_5 := HA5.cv 44 (.slice a l.length c) rfl
  go_wp2_with fail
  refine (put_t b _ (64 + 16 * (l.length : Int)) 2 _ IB5 (by decide) (by decide) hf2 (by simp only [List.length_append, putL_length, packL_len, hdl, zl2, List.length_nil]; omega) hb5).mono ?_
  rintro e w6 ⟨rfl, IB6, b6, -⟩
  clear c44_5
  have HA6 := HA5.below b6 hPb
  have B6 := B5.trans (b6.mono hwb)
  have hb6 := Nat.le_trans hb5 b6.size
  clear IB5 HA5 B5 hb5 b6
  have c31_6 := HA6.cv 31 (.string m.name) rfl
  go_upto_region 8 with (fail)
  refine wp_region_noPanic ?_
  refine wp_region_held_drew (S := (fun w' => w'.cell? ⟨w.heap.size, 31, none⟩ = some (.string m.name))) (by kernel_rfl) ?_ (fun hHeld => ?_)
  · exact c31_6
  refine wpAnyH_take (i := 0) (v := ?_) rfl (by kernel_rfl) (by kernel_rfl) (by kernel_rfl) (fun _ _ _ h => h) (Or.inl ⟨by rfl, ?_⟩) (by assumption) ?_
  rotate_left
  · (intro w hSw; (try dsimp only at hSw); go_simp; (try with_reducible rfl))
  (try simp only [Act.put, List.getElem_toArray, List.getElem_cons_zero, List.getElem_cons_succ, List.setIfInBounds_toArray, List.set_cons_zero, List.set_cons_succ])
  refine wpAnyH_take (i := 1) (v := ?_) rfl (by kernel_rfl) (by kernel_rfl) (by kernel_rfl) (fun _ _ _ h => h) (Or.inl ⟨by rfl, ?_⟩) (by assumption) ?_
  rotate_left
  · (intro w hSw; (try dsimp only at hSw); go_simp; (try with_reducible rfl))
  (try simp only [Act.put, List.getElem_toArray, List.getElem_cons_zero, List.getElem_cons_succ, List.setIfInBounds_toArray, List.set_cons_zero, List.set_cons_succ])
  refine wpAnyH_take (i := 2) (v := ?_) rfl (by kernel_rfl) (by kernel_rfl) (by kernel_rfl) (fun _ _ _ h => h) (Or.inl ⟨by rfl, ?_⟩) (by assumption) ?_
  rotate_left
  · (intro w hSw; (try dsimp only at hSw); go_simp; (try with_reducible rfl))
  (try simp only [Act.put, List.getElem_toArray, List.getElem_cons_zero, List.getElem_cons_succ, List.setIfInBounds_toArray, List.set_cons_zero, List.set_cons_succ])
  refine wpAnyH_take (i := 3) (v := ?_) rfl (by kernel_rfl) (by kernel_rfl) (by kernel_rfl) (fun _ _ _ h => h) (Or.inl ⟨by rfl, ?_⟩) (by assumption) ?_
  rotate_left
  · (intro w hSw; (try dsimp only at hSw); go_simp; (try with_reducible rfl))
  (try simp only [Act.put, List.getElem_toArray, List.getElem_cons_zero, List.getElem_cons_succ, List.setIfInBounds_toArray, List.set_cons_zero, List.set_cons_succ])
  refine wpAnyH_take (i := 4) (v := ?_) rfl (by kernel_rfl) (by kernel_rfl) (by kernel_rfl) (fun _ _ _ h => h) (Or.inl ⟨by rfl, ?_⟩) (by assumption) ?_
  rotate_left
  · (intro w hSw; (try dsimp only at hSw); go_simp; (try with_reducible rfl))
  (try simp only [Act.put, List.getElem_toArray, List.getElem_cons_zero, List.getElem_cons_succ, List.setIfInBounds_toArray, List.set_cons_zero, List.set_cons_succ])
  refine wpAnyH_take (i := 5) (v := ?_) rfl (by kernel_rfl) (by kernel_rfl) (by kernel_rfl) (fun _ _ _ h => h) (Or.inl ⟨by rfl, ?_⟩) (by assumption) ?_
  rotate_left
  · (intro w hSw; (try dsimp only at hSw); go_simp; (try with_reducible rfl))
  (try simp only [Act.put, List.getElem_toArray, List.getElem_cons_zero, List.getElem_cons_succ, List.setIfInBounds_toArray, List.set_cons_zero, List.set_cons_succ])
  refine wpAnyH_take (i := 6) (v := ?_) rfl (by kernel_rfl) (by kernel_rfl) (by kernel_rfl) (fun _ _ _ h => h) (Or.inl ⟨by rfl, ?_⟩) (by assumption) ?_
  rotate_left
  · (intro w hSw; (try dsimp only at hSw); go_simp; (try with_reducible rfl))
  (try simp only [Act.put, List.getElem_toArray, List.getElem_cons_zero, List.getElem_cons_succ, List.setIfInBounds_toArray, List.set_cons_zero, List.set_cons_succ])
  refine wpAnyH_ready (rs := [7]) (by kernel_rfl) (by simp) ?_
  refine AllReadyH.cons rfl (fun K hK => ?_) AllReadyH.nil
  simp only [List.getElem_toArray, List.getElem_cons_zero, List.getElem_cons_succ]
  go_simp
  go_at_call 27; (refine (HRP.out _).mono ?_); rintro e w7 ⟨rfl, k7⟩; have IB7 := bu_below (show BU b _ w6.drew from IB6) k7; have HA7 := HA6.drew.kept k7; have B7 := B6.drew.trans (k7.mono B6.drew.size); have hb7 := Nat.le_trans (show b ≤ w6.drew.heap.size from hb6) k7.size; have c31_7 := HA7.cv 31 (.string m.name) rfl
  refine hK.out _ _ ?_ (fun hHeld => ?_)
  · exact c31_7
  clear hK K
  (try simp only [Act.put, List.getElem_toArray, List.getElem_cons_zero, List.getElem_cons_succ, List.setIfInBounds_toArray, List.set_cons_zero, List.set_cons_succ])
  refine wpAnyH_take (i := 8) (v := ?_) rfl (by kernel_rfl) (by kernel_rfl) (by kernel_rfl) (fun _ _ _ h => h) (Or.inl ⟨by rfl, ?_⟩) (by assumption) ?_
  rotate_left
  · (intro w hSw; (try dsimp only at hSw); go_simp; (try with_reducible rfl))
  (try simp only [Act.put, List.getElem_toArray, List.getElem_cons_zero, List.getElem_cons_succ, List.setIfInBounds_toArray, List.set_cons_zero, List.set_cons_succ])
  refine wpAnyH_ready (rs := [9]) (by kernel_rfl) (by simp) ?_
  refine AllReadyH.cons rfl (fun K hK => ?_) AllReadyH.nil
  simp only [List.getElem_toArray, List.getElem_cons_zero, List.getElem_cons_succ]
  go_simp
  go_at_call 22; (refine (write_bu b _ z4 _ IB7 (by simp only [List.length_append, putL_length, packL_len, hdl, zl2, List.length_nil]; omega) hb7).mono ?_); rintro e w8 ⟨rfl, IB8, b8, -⟩; have HA8 := HA7.below b8 hPb; have B8 := B7.trans (b8.mono hwb); have hb8 := Nat.le_trans hb7 b8.size; have c31_8 := HA8.cv 31 (.string m.name) rfl
  refine hK.out _ _ ?_ (fun hHeld => ?_)
  · exact c31_8
  clear hK K
  (try simp only [Act.put, List.getElem_toArray, List.getElem_cons_zero, List.getElem_cons_succ, List.setIfInBounds_toArray, List.set_cons_zero, List.set_cons_succ])
  refine wpAnyH_done (by kernel_rfl) ?_ _
  refine NoPanic.normal ?_
  clear IB6 IB7 HA6 HA7 B6 B7 hb6 hb7 b8 k7 c31_6 c31_7 c31_8
  have c32_8 := HA8.cv 32 (.int .i64 m.rev) rfl
  go_wp2_with fail
  refine (put_t b _ m.rev 2 _ IB8 (by decide) (by decide) hrev (by simp only [List.length_append, putL_length, packL_len, hdl, zl2, List.length_nil]; omega) hb8).mono ?_
  rintro e w9 ⟨rfl, IB9, b9, -⟩
  clear c32_8
  have HA9 := HA8.below b9 hPb
  have B9 := B8.trans (b9.mono hwb)
  have hb9 := Nat.le_trans hb8 b9.size
  clear IB8 HA8 B8 hb8 b9
  have c33_9 := HA9.cv 33 (.string m.dig) rfl
  go_wp2_with fail
  refine (write_bu b _ m.dig.data.toList _ IB9 (by simp only [List.length_append, putL_length, packL_len, hdl, zl2, List.length_nil]; omega) hb9).mono ?_
  rintro e w10 ⟨rfl, IB10, b10, -⟩
  clear c33_9
  have HA10 := HA9.below b10 hPb
  have B10 := B9.trans (b10.mono hwb)
  have hb10 := Nat.le_trans hb9 b10.size
  clear IB9 HA9 B9 hb9 b10
  have c34_10 := HA10.cv 34 (.int .i64 m.cost) rfl
  go_wp2_with fail
  refine (put_t b _ m.cost 4 _ IB10 (by decide) (by decide) hcost (by simp only [List.length_append, putL_length, packL_len, hdl, zl2, List.length_nil]; omega) hb10).mono ?_
  rintro e w11 ⟨rfl, IB11, b11, -⟩
  clear c34_10
  have HA11 := HA10.below b11 hPb
  have B11 := B10.trans (b11.mono hwb)
  have hb11 := Nat.le_trans hb10 b11.size
  clear IB10 HA10 B10 hb10 b11
  go_wp2_with (refine load_blk (k := 35) 27 (brC m.br) (by rfl) rfl rfl HA11 (by kernel_rfl) (by kernel_rfl) rfl ?_)
  refine (pack_t b _ m.br hbr hxr _ IB11 (by simp only [List.length_append, putL_length, packL_len, hdl, zl2, List.length_nil]; omega) hb11).mono ?_
  rintro e w12 ⟨rfl, IB12, b12, -⟩
  have HA12 := HA11.below b12 hPb
  have B12 := B11.trans (b12.mono hwb)
  have hb12 := Nat.le_trans hb11 b12.size
  clear IB11 HA11 B11 hb11 b12
  have c43_12 := HA12.cv 43 (.int .i64 m.hop) rfl
  go_wp2_with fail
  refine (put_t b _ m.hop 1 _ IB12 (by decide) (by decide) hhop (by simp only [List.length_append, putL_length, packL_len, hdl, zl2, List.length_nil]; omega) hb12).mono ?_
  rintro e w13 ⟨rfl, IB13, b13, -⟩
  clear c43_12
  have HA13 := HA12.below b13 hPb
  have B13 := B12.trans (b13.mono hwb)
  have hb13 := Nat.le_trans hb12 b13.size
  clear IB12 HA12 B12 hb12 b13
  rw [← HF.out] at IB13
  have c44_13 := HA13.cv 44 (.slice a l.length c) rfl
  clear HF p1 p2 p3 p4 HRP zl1 zl2 zl3 zl4 m1 m2 hf2 hrev hcost hbr hhop wr hr32 hdl HFL
  generalize headM m l.length = hd at *
  go_wp2_with fail
  go_loopw [8, 60] (fun _ i wr => ∃ k : Nat, k ≤ l.length ∧ i = .int .i64 k ∧ BU b (hd ++ inssL (l.take k)) wr ∧ Below w.heap.size w wr ∧ b ≤ wr.heap.size) (fun _ i _ => l.length - (intOf i).toNat)
  case atStart => exact ⟨0, by omega, rfl, by rw [List.take_zero, show inssL [] = [] from rfl, List.append_nil]; exact IB13, B13, hb13⟩
  case round =>
    clear IB13 B13 hb13 c44_13 HA13
    obtain ⟨k, hk, rfl, IBk, Bk, hbk⟩ := hrel
    by_cases hlt : k < l.length
    · skip
      obtain ⟨bk, o, rfl, hbl, hat⟩ := h.at hlt
      have b1 : (k : Int) < (l.length : Int) := by omega
      have b2 : decide ((k : Int) < (l.length : Int)) = true := decide_eq_true b1
      have b3 : (0 : Int) ≤ (k : Int) := by omega
      have HK := (hat k hlt).below Bk hbl
      have B0 := Bk.alloc Bk.size (.cells (inC zIns) 85)
      have HN := Blk.new wr 85 (inC zIns)
      have IB0 := bu_below IBk ((Below.refl _ _).alloc (Nat.le_refl _) (.cells (inC zIns) 85))
      obtain ⟨hf, hroot, hcost, hbri, hpti, hhop⟩ := okIns_parts (HOK.out _ (List.getElem_mem hlt))
      have hxi := HXL.out _ (List.getElem_mem hlt)
      have HT : Hid (hd ++ inssL (l.take (k + 1)) = (((((hd ++ inssL (l.take k)) ++ putL ((byF l[k].f : Nat) : Int).toNat 1) ++ packL l[k].root) ++ putL l[k].cost.toNat 4) ++ putL (16 * l[k].br).toNat 1) ++ putL (16 * l[k].pt).toNat 1 ++ putL l[k].hop.toNat 1) := by
        show _ = _
        rw [HSN.out k hlt]
        unfold insL
        rw [Int.toNat_natCast]
        simp only [List.append_assoc]
      have hyl := HW.out k hk
      generalize hd ++ inssL (l.take k) = y at *
      have HY := Lib.hid (fun W => byte_any l[k].f hf W)
      have hbf := byF_lt l[k].f hf
      have hfb : fitI 1 ((byF l[k].f : Nat) : Int) = true := by
        unfold fitI
        rw [decide_eq_true (show (0 : Int) ≤ ((byF l[k].f : Nat) : Int) by omega), decide_eq_true (show ((byF l[k].f : Nat) : Int) < 256 ^ 1 by omega)]
        rfl
      generalize byF l[k].f = fb at *
      have n1 : IntKind.i64.wrap (16 * l[k].br) = 16 * l[k].br := by rw [IntKind.wrap_i64] <;> omega
      have n2 : IntKind.i64.wrap (16 * l[k].pt) = 16 * l[k].pt := by rw [IntKind.wrap_i64] <;> omega
      have f1 := fit_sixteen hbri
      have f2 := fit_sixteen hpti
      generalize l[k] = x at *
      have hbw : b ≤ wr.heap.size := hbk
      clear hbf hat hbl
      go_upto_region 17 with (first
        | (refine load_cells 85 (inC x) (by rfl) rfl rfl HK (by kernel_rfl) (by kernel_rfl) ?_)
        | (refine alloc_blk 85 (inC zIns) (by rfl) rfl Tryd.inZero ?_)
        | (refine store_blk (k := 0) 85 (.agg (inC x)) (inC x) (by rfl) rfl rfl rfl HN (by kernel_rfl) (show (19 : Nat) ≤ 19 from Nat.le_refl 19) (by rfl) (st_whole _ _ rfl) ?_; intro v0 V0 q0 g0))
      (try simp only [Act.put, List.setIfInBounds_toArray, List.set_cons_zero, List.set_cons_succ])
      have JB0 : BU b y v0 := bu_below IBk (((Below.refl _ _).alloc (Nat.le_refl _) (.cells (inC zIns) 85)).trans q0)
      have C0 : Below w.heap.size w v0 := B0.trans (q0.mono Bk.size)
      have hc0 : b ≤ v0.heap.size := Nat.le_trans (Nat.le_trans hbk (by simp)) q0.size
      clear HK HN B0 IB0 q0 g0 Bk hbk hbw IBk
      generalize wr.heap.size = G at *
      go_wp2_with (refine load_blk (k := 0) 23 (flC x.f) (by rfl) rfl rfl V0 (by kernel_rfl) (by kernel_rfl) rfl ?_)
      refine (HY.out _).mono ?_
      rintro e v1 ⟨rfl, q1⟩
      have JB1 := bu_below JB0 q1
      have V1 := V0.kept q1
      have C1 := C0.trans (q1.mono C0.size)
      have hc1 := Nat.le_trans hc0 q1.size
      clear JB0 V0 C0 hc0 q1
      go_wp2_with fail
      refine (put_t b _ ((fb : Nat) : Int) 1 _ JB1 (by decide) (by decide) hfb (by first | omega | (simp only [List.length_append, putL_length, packL_len]; omega)) hc1).mono ?_
      rintro e v2 ⟨rfl, JB2, q2, K2⟩
      have V2 := K2 _ _ _ V1 (by decide) (by decide)
      have C2 := C1.trans (q2.mono hwb)
      have hc2 := Nat.le_trans hc1 q2.size
      clear JB1 V1 C1 hc1 q2 K2
      go_wp2_with (refine load_blk (k := 7) 27 (brC x.root) (by rfl) rfl rfl V2 (by kernel_rfl) (by kernel_rfl) rfl ?_)
      refine (pack_t b _ x.root hroot hxi _ JB2 (by first | omega | (simp only [List.length_append, putL_length, packL_len]; omega)) hc2).mono ?_
      rintro e v3 ⟨rfl, JB3, q3, K3⟩
      have V3 := K3 _ _ _ V2 (by decide) (by decide)
      have C3 := C2.trans (q3.mono hwb)
      have hc3 := Nat.le_trans hc2 q3.size
      clear JB2 V2 C2 hc2 q3 K3
      have c15 := V3.cv 15 (.int .i64 x.cost) rfl
      go_wp2_with fail
      refine (put_t b _ x.cost 4 _ JB3 (by decide) (by decide) hcost (by first | omega | (simp only [List.length_append, putL_length, packL_len]; omega)) hc3).mono ?_
      rintro e v4 ⟨rfl, JB4, q4, K4⟩
      have V4 := K4 _ _ _ V3 (by decide) (by decide)
      have C4 := C3.trans (q4.mono hwb)
      have hc4 := Nat.le_trans hc3 q4.size
      clear JB3 V3 C3 hc3 q4 K4
      have c16 := V4.cv 16 (.int .i64 x.br) rfl
      go_wp2_with fail
      refine (put_t b _ (16 * x.br) 1 _ JB4 (by decide) (by decide) f1 (by first | omega | (simp only [List.length_append, putL_length, packL_len]; omega)) hc4).mono ?_
      rintro e v5 ⟨rfl, JB5, q5, K5⟩
      have V5 := K5 _ _ _ V4 (by decide) (by decide)
      have C5 := C4.trans (q5.mono hwb)
      have hc5 := Nat.le_trans hc4 q5.size
      clear JB4 V4 C4 hc4 q5 K5
      have c17 := V5.cv 17 (.int .i64 x.pt) rfl
      go_wp2_with fail
      refine (put_t b _ (16 * x.pt) 1 _ JB5 (by decide) (by decide) f2 (by first | omega | (simp only [List.length_append, putL_length, packL_len]; omega)) hc5).mono ?_
      rintro e v6 ⟨rfl, JB6, q6, K6⟩
      have V6 := K6 _ _ _ V5 (by decide) (by decide)
      have C6 := C5.trans (q6.mono hwb)
      have hc6 := Nat.le_trans hc5 q6.size
      clear JB5 V5 C5 hc5 q6 K6
      have c18 := V6.cv 18 (.int .i64 x.hop) rfl
      go_wp2_with fail
      refine (put_t b _ x.hop 1 _ JB6 (by decide) (by decide) hhop (by first | omega | (simp only [List.length_append, putL_length, packL_len]; omega)) hc6).mono ?_
      rintro e v7 ⟨rfl, JB7, q7, K7⟩
      have V7 := K7 _ _ _ V6 (by decide) (by decide)
      have C7 := C6.trans (q7.mono hwb)
      have hc7 := Nat.le_trans hc6 q7.size
      clear JB6 V6 C6 hc6 q7 K7
      rw [← HT.out] at JB7
      go_wp2
      go_roundw
      case rel => exact ⟨k + 1, by omega, by go_num, JB7, C7, hc7⟩
      case measure => simp [intOf]; omega
    · obtain rfl : k = l.length := by omega
      have b2 : decide ((l.length : Int) < (l.length : Int)) = false := decide_eq_false (by omega)
      rw [List.take_length] at IBk
      go_wp2_with fail
      refine (Tryd.Builder_String_any b b _ _ IBk hbk).mono ?_
      rintro e w14 ⟨rfl, k14⟩
      go_wp2
      go_ret2
      exact ⟨by rw [HWM.out]; rfl, Bk.trans (k14.mono hwb)⟩

end Go.Proofs.YtajbkoggmhgjfaaDoor
