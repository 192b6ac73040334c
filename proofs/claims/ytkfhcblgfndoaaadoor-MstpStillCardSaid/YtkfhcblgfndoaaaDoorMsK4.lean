/- Texts one behind the other. switchyardkeep.MstpStill returns true at every text, and changes nothing that was there. -/
import Derived.Test.YtkfhcblgfndoaaaDoorMsK3
namespace Go.Proofs.YtkfhcblgfndoaaaDoor.mstpStill
open Go.RowKit
attribute [local go_sem ↓] Go.wp_at_zero Go.wp_at_succ
set_option linter.unusedSimpArgs false
set_option linter.unusedVariables false
set_option maxRecDepth 100000

theorem ReadsAs.at {X : Array Value} {e pl : Int} {w w' : World} {r : Ending} (he : e ≠ 0) (h : ReadsAs X e pl w r w') : ∃ q, r = .returned (.tuple #[.agg X, .iface 144 (.pointer (some ⟨q, 0, none⟩))]) ∧ Flt w' q e pl ∧ Below w.heap.size w w' := by
  obtain ⟨er, rfl, ha, b⟩ := h
  rcases ha with ⟨_, q, _⟩ | ⟨_, q, rfl, hf⟩
  · exact absurd q he
  · exact ⟨q, rfl, hf, b⟩

set_option maxHeartbeats 6400000 in
theorem walk (s : ByteArray) (w : World) :
    Calls Tryd.prog 4 #[.string s] w fun e w' => e = .returned (.bool true) ∧ Below w.heap.size w w' := by
  have hnn : ∀ w : World, (binOp BinOp.neq 41 .nilIface .nilIface).run Tryd.prog w = .ok (.bool false) w := fun _ => by kernel_rfl
  have hne : ∀ w : World, (binOp BinOp.eql 41 .nilIface .nilIface).run Tryd.prog w = .ok (.bool true) w := fun _ => by kernel_rfl
  by_cases hs : s.size ≤ 2000
  · have hgt : decide ((2000 : Int) < (s.size : Int)) = false := decide_eq_false (by omega)
    rcases msRead_ways s (by omega) with ⟨e0, pl, he0, hrd⟩ | ⟨M, I, hok, hx, hlen, hrd⟩
    · have HR := Lib.hid (fun W => (hrd W).mono fun _ _ h => ReadsAs.at he0 h)
      have hnp : ∀ (q : Addr) (w : World), (binOp BinOp.neq 41 (.iface 144 (.pointer (some q))) .nilIface).run Tryd.prog w = .ok (.bool true) w := fun _ _ => by kernel_rfl
      have HSm := Lib.hid (fun (W : World) => sameMs_any zMs [] none none 0 0 W (Or.inl rfl) (Or.inl rfl) (by decide))
      clear hrd
      go_enter Tryd.func4, Tryd.ntmps4
      go_wp2_with fail
      refine (treed_any _).mono ?_
      rintro e w2 ⟨rfl, B2⟩
      go_wp2_with fail
      refine (HR.out _).mono ?_
      rintro e w3 ⟨q, rfl, hf, k3⟩
      have B3 := B2.trans (k3.mono B2.size)
      go_wp2_with (first
        | (refine alloc_blk 34 (msC zMs (.slice none 0 0)) (by rfl) rfl Tryd.msZero ?_)
        | (refine store_blk (k := 0) 34 (.agg (msC zMs (.slice none 0 0))) (msC zMs (.slice none 0 0)) (by rfl) rfl rfl rfl (Blk.new w3 _ _) (by kernel_rfl) (show (45 : Nat) ≤ 45 from Nat.le_refl 45) (by rfl) (st_whole _ _ rfl) ?_; intro w4 HV4 b4 g4; have B4 : Below w.heap.size w w4 := (B3.alloc B3.size _).trans (b4.mono B3.size))
        | (refine load_blk (k := 0) 34 (msC zMs (.slice none 0 0)) (by rfl) rfl rfl HV4 (by kernel_rfl) (by kernel_rfl) rfl ?_)
        | (refine build_blk (t := 34) (msC zMs (.slice none 0 0)) (by rfl) rfl (by kernel_rfl) ?_))
      refine (HSm.out _).mono ?_
      rintro e w5 ⟨rfl, k5⟩
      go_wp2
      go_ret
      exact ⟨rfl, B4.trans (k5.mono B4.size)⟩
    · obtain ⟨hwl, h64⟩ := okMs_len hok
      have HR := Lib.hid hrd
      have HW := Lib.hid (fun (a : Option Addr) (c : Nat) (W : World) (h : InIn W a I) => msWrite_yes M a c I W h hok hx)
      have HB : Hid (∀ W, Calls Tryd.prog 6 #[.string ⟨(writeM M I).toArray⟩] W (RdOk M I W)) := fun W => by
        have q := msRead_back M I [] hok hx (by rw [List.append_nil]; omega) W
        rw [List.append_nil] at q
        exact q
      have HRi := Lib.hid (fun (a : Option Addr) (c : Nat) (W : World) (h : InIn W a I) => by
        obtain ⟨_, _, hname, _, _, hdig, _⟩ := okMs_all hok
        have q := msRight_any M a c I W h (by omega) (okMs_rg hok) (by omega) (by omega)
        rw [hok] at q
        exact q)
      have HSm := Lib.hid (fun (a1 a2 : Option Addr) (c1 c2 : Nat) (W : World) (h1 : InIn W a1 I) (h2 : InIn W a2 I) => sameMs_any M I a1 a2 c1 c2 W h1 h2 (by omega))
      generalize writeM M I = y at *
      have hL1 : decide ((y.length : Int) ≤ (s.size : Int)) = true := decide_eq_true (by omega)
      have hL2 : decide (y.length ≤ s.size) = true := decide_eq_true (by omega)
      clear hrd hwl
      go_enter Tryd.func4, Tryd.ntmps4
      go_wp2_with fail
      refine (treed_any _).mono ?_
      rintro e w2 ⟨rfl, B2⟩
      go_wp2_with fail
      refine (HR.out _).mono ?_
      rintro e w3 ⟨⟨a3, c3, rfl, I3⟩, k3⟩
      have B3 := B2.trans (k3.mono B2.size)
      go_upto_region 6 with (first
        | (refine alloc_blk 34 (msC zMs (.slice none 0 0)) (by rfl) rfl Tryd.msZero ?_)
        | (refine store_blk (k := 0) 34 (.agg (msC M (.slice a3 I.length c3))) (msC M (.slice a3 I.length c3)) (by rfl) rfl rfl rfl (Blk.new w3 _ _) (by kernel_rfl) (show (45 : Nat) ≤ 45 from Nat.le_refl 45) (by rfl) (st_whole _ _ rfl) ?_; intro w4 HV4 b4 g4))
      (try simp only [Act.put, List.setIfInBounds_toArray, List.set_cons_zero, List.set_cons_succ])
      have b34 : Below w3.heap.size w3 w4 := ((Below.refl _ _).alloc (Nat.le_refl _) _).trans b4
      have I4 := I3.below b34
      have B4 := B3.trans (b34.mono B3.size)
      clear I3 B3 b4 g4 b34
      generalize w3.heap.size = V at *
      go_wp2_with (refine load_blk (k := 0) 34 (msC M (.slice a3 I.length c3)) (by rfl) rfl rfl HV4 (by kernel_rfl) (by kernel_rfl) rfl ?_)
      refine (HW.out _ _ _ I4).mono ?_
      rintro e w5 ⟨rfl, k5⟩
      have HV5 := HV4.kept k5
      have I5 := I4.below k5
      have B5 := B4.trans (k5.mono B4.size)
      clear HV4 I4 B4 k5
      go_wp2_with fail
      refine (HB.out _).mono ?_
      rintro e w6 ⟨⟨a6, c6, rfl, J6⟩, k6⟩
      have HV6 := HV5.kept k6
      have I6 := I5.below k6
      have B6 := B5.trans (k6.mono B5.size)
      clear HV5 I5 B5 k6
      go_upto_region 10 with (first
        | (refine alloc_blk 34 (msC zMs (.slice none 0 0)) (by rfl) rfl Tryd.msZero ?_)
        | (refine store_blk (k := 0) 34 (.agg (msC M (.slice a6 I.length c6))) (msC M (.slice a6 I.length c6)) (by rfl) rfl rfl rfl (Blk.new w6 _ _) (by kernel_rfl) (show (45 : Nat) ≤ 45 from Nat.le_refl 45) (by rfl) (st_whole _ _ rfl) ?_; intro w7 HN7 b7 g7))
      (try simp only [Act.put, List.setIfInBounds_toArray, List.set_cons_zero, List.set_cons_succ])
      have b67 : Below w6.heap.size w6 w7 := ((Below.refl _ _).alloc (Nat.le_refl _) _).trans b7
      have HV7 := HV6.kept b67
      have I7 := I6.below b67
      have J7 := J6.below b67
      have B7 := B6.trans (b67.mono B6.size)
      clear HV6 I6 J6 B6 b7 g7 b67
      generalize w6.heap.size = U at *
      go_wp2_with (first | (refine load_blk (k := 0) 34 (msC M (.slice a3 I.length c3)) (by rfl) rfl rfl HV7 (by kernel_rfl) (by kernel_rfl) rfl ?_) | (refine load_blk (k := 0) 34 (msC M (.slice a6 I.length c6)) (by rfl) rfl rfl HN7 (by kernel_rfl) (by kernel_rfl) rfl ?_))
      refine (HSm.out _ _ _ _ _ I7 J7).mono ?_
      rintro e w8 ⟨rfl, k8⟩
      have HV8 := HV7.kept k8
      have I8 := I7.below k8
      have B8 := B7.trans (k8.mono B7.size)
      clear HV7 I7 J7 B7 k8
      go_wp2_with (refine load_blk (k := 0) 34 (msC M (.slice a3 I.length c3)) (by rfl) rfl rfl HV8 (by kernel_rfl) (by kernel_rfl) rfl ?_)
      refine (HRi.out _ _ _ I8).mono ?_
      rintro e w9 ⟨rfl, k9⟩
      go_wp2
      go_ret
      exact ⟨rfl, B8.trans (k9.mono B8.size)⟩
  · have hgt : decide ((2000 : Int) < (s.size : Int)) = true := decide_eq_true (by omega)
    go_enter Tryd.func4, Tryd.ntmps4
    go_wp2_with fail
    refine (treed_any _).mono ?_
    rintro e w2 ⟨rfl, B2⟩
    go_wp2
    go_ret
    exact ⟨rfl, B2⟩

end Go.Proofs.YtkfhcblgfndoaaaDoor.mstpStill

