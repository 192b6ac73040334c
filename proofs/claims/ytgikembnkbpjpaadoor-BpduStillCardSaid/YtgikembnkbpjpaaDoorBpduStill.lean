/- switchyardkeep.BpduStill returns true at every text and number, and changes nothing that was there. -/
import Derived.Test.YtgikembnkbpjpaaDoorBridged
import Derived.Test.YtgikembnkbpjpaaDoorPlace
import Derived.Test.YtgikembnkbpjpaaDoorPick
namespace Go.Proofs.YtgikembnkbpjpaaDoor.bpduStill
open Go.RowKit
attribute [local go_sem ↓] Go.wp_at_zero Go.wp_at_succ
set_option linter.unusedSimpArgs false
set_option linter.unusedVariables false
set_option maxRecDepth 100000

theorem ReadsAs.at {X : Array Value} {e pl : Int} {w w' : World} {r : Ending} (he : e ≠ 0) (h : ReadsAs X e pl w r w') : ∃ q, r = .returned (.tuple #[.agg X, .iface 89 (.pointer (some ⟨q, 0, none⟩))]) ∧ Flt w' q e pl ∧ Below w.heap.size w w' := by
  obtain ⟨er, rfl, ha, b⟩ := h
  rcases ha with ⟨_, q, _⟩ | ⟨_, q, rfl, hf⟩
  · exact absurd q he
  · exact ⟨q, rfl, hf, b⟩

set_option maxHeartbeats 6400000 in
theorem walk (s : ByteArray) (a : Int) (w : World) (hE : HasErr w) :
    Calls Tryd.prog 6 #[.string s, .int .i64 a] w fun e w' => e = .returned (.bool true) ∧ Below w.heap.size w w' := by
  have hnn : ∀ w : World, (binOp BinOp.neq 36 .nilIface .nilIface).run Tryd.prog w = .ok (.bool false) w := fun _ => by kernel_rfl
  by_cases hs : s.size ≤ 300
  · have hgt : decide ((300 : Int) < (s.size : Int)) = false := decide_eq_false (by omega)
    rcases read_ways s hs with ⟨e0, pl, hne, hrd⟩ | ⟨X, hok, hx, hr, hlen, hrd⟩
    · have HR := Lib.hid (fun W => (hrd W).mono fun _ _ h => ReadsAs.at hne h)
      have HQ : ∀ W, (Op.equalIn 10000 31 (.agg (bpC zBp)) (.agg (bpC zBp))).run Tryd.prog W = .ok true W := fun W => by
        have h := run_eql_bp 9996 zBp zBp W
        rw [eqBp_self] at h
        exact h
      have hnp : ∀ (q : Addr) (w : World), (binOp BinOp.neq 36 (.iface 89 (.pointer (some q))) .nilIface).run Tryd.prog w = .ok (.bool true) w := fun _ _ => by kernel_rfl
      clear hrd
      go_enter Tryd.func6, Tryd.ntmps6
      go_wp2_with fail
      refine (bridged_any _).mono ?_
      rintro e w2 ⟨rfl, B2⟩
      have hs2 := B2.size
      go_wp2_with fail
      refine (HR.out _).mono ?_
      rintro e w3 ⟨q, rfl, hf, k3⟩
      have B3 := B2.trans (k3.mono B2.size)
      go_wp2_with (first
        | (refine alloc_blk 31 (bpC zBp) (by rfl) rfl Tryd.bpZero ?_)
        | (refine store_blk (k := 0) 31 (.agg (bpC zBp)) (bpC zBp) (by rfl) rfl rfl rfl (Blk.new w3 _ _) (by kernel_rfl) (show (31 : Nat) ≤ 31 from Nat.le_refl 31) (by rfl) (st_whole _ _ rfl) ?_; intro w4 HV4 b4 g4; have B4 : Below w.heap.size w w4 := (B3.alloc B3.size _).trans (b4.mono B3.size))
        | (refine load_blk (k := 0) 31 (bpC zBp) (by rfl) rfl rfl HV4 (by kernel_rfl) (by kernel_rfl) rfl ?_)
        | (refine build_blk (t := 31) (bpC zBp) (by rfl) rfl (by kernel_rfl) ?_)
        | (refine eq_blk .eql 31 (bpC zBp) (bpC zBp) true (by rfl) rfl (Or.inl rfl) rfl rfl (by kernel_rfl) (HQ _) ?_))
      go_ret
      exact ⟨rfl, B4⟩
    · have HR := Lib.hid (fun W => (hrd W).mono fun _ _ h => h.nil)
      have HW := Lib.hid (fun W => bpWrite_yes X hok hx hr W)
      have HRt := Lib.hid (fun W => bpRight_any X hr W)
      rw [hok] at HRt
      have hwl := writeL_len X
      have hw36 : (writeL X).length ≤ 36 := by rw [hwl]; split <;> (try split) <;> omega
      have hw4 : 4 ≤ (writeL X).length := by rw [hwl]; split <;> (try split) <;> omega
      have HB : Hid (∀ W, Calls Tryd.prog 13 #[.string ⟨(writeL X).toArray⟩] W fun r w' => r = .returned (.tuple #[.agg (bpC X), .nilIface]) ∧ Below W.heap.size W w') := fun W => by
        have q := read_list X hok hx [] (by rw [List.append_nil]; omega) W
        rw [List.append_nil] at q
        exact q
      have HC : Hid (∀ j, j < (writeL X).length → ∃ pl, ∀ W, Calls Tryd.prog 13 #[.string ⟨((writeL X).take j).toArray⟩] W (ReadsAs (bpC zBp) 7 pl W)) := fun j hj => read_cut X hok hx ⟨((writeL X).take j).toArray⟩ j hj rfl
      have HPk : Hid (∀ W, Calls Tryd.prog 17 #[.int .i64 a, .int .i64 (writeL X).length] W fun e w' => ∃ r : Nat, e = .returned (.int .i64 r) ∧ r < (writeL X).length ∧ W = w') := fun W => pick_any a (writeL X).length W (by omega) (by omega)
      have HQ : ∀ W, (Op.equalIn 10000 31 (.agg (bpC X)) (.agg (bpC X))).run Tryd.prog W = .ok true W := fun W => by
        have h := run_eql_bp 9996 X X W
        rw [eqBp_self] at h
        exact h
      clear hrd hok hx hr hwl
      generalize writeL X = y at *
      have hgl : decide ((s.size : Int) < (y.length : Int)) = false := decide_eq_false (by omega)
      have hgl2 : decide (s.size < y.length) = false := decide_eq_false (by omega)
      have hie : y.isEmpty = false := by cases y with
        | nil => simp at hw4
        | cons _ _ => rfl
      go_enter Tryd.func6, Tryd.ntmps6
      go_wp2_with fail
      refine (bridged_any _).mono ?_
      rintro e w2 ⟨rfl, B2⟩
      have hs2 := B2.size
      go_wp2_with fail
      refine (HR.out _).mono ?_
      rintro e w3 ⟨rfl, k3⟩
      have B3 := B2.trans (k3.mono B2.size)
      go_wp2_with (first
        | (refine alloc_blk 31 (bpC zBp) (by rfl) rfl Tryd.bpZero ?_)
        | (refine store_blk (k := 0) 31 (.agg (bpC X)) (bpC X) (by rfl) rfl rfl rfl (Blk.new w3 _ _) (by kernel_rfl) (show (31 : Nat) ≤ 31 from Nat.le_refl 31) (by rfl) (st_whole _ _ rfl) ?_; intro w4 HV4 b4 g4; have B4 : Below w.heap.size w w4 := (B3.alloc B3.size _).trans (b4.mono B3.size))
        | (refine load_blk (k := 0) 31 (bpC X) (by rfl) rfl rfl HV4 (by kernel_rfl) (by kernel_rfl) rfl ?_))
      clear B3 k3 b4 g4
      generalize w3.heap.size = v at *
      refine (HW.out _).mono ?_
      rintro e w5 ⟨rfl, k5⟩
      have HV5 := HV4.kept k5
      have B5 := B4.trans (k5.mono B4.size)
      clear HV4 B4 k5
      go_wp2_with fail
      refine (HB.out _).mono ?_
      rintro e w6 ⟨rfl, k6⟩
      have HV6 := HV5.kept k6
      have B6 := B5.trans (k6.mono B5.size)
      have lt6 : v < w6.heap.size := HV6.lt
      clear HV5 B5 k6
      go_wp2_with (first
        | (refine alloc_blk 31 (bpC zBp) (by rfl) rfl Tryd.bpZero ?_)
        | (refine store_blk (k := 0) 31 (.agg (bpC X)) (bpC X) (by rfl) rfl rfl rfl (Blk.new w6 _ _) (by kernel_rfl) (show (31 : Nat) ≤ 31 from Nat.le_refl 31) (by rfl) (st_whole _ _ rfl) ?_; intro w7 HU7 b7 g7; have HV7 := (HV6.alloc (.cells (bpC zBp) 31)).below b7 lt6; have B7 : Below w.heap.size w w7 := (B6.alloc B6.size _).trans (b7.mono B6.size))
        | (refine load_blk (k := 0) 31 (bpC X) (by rfl) rfl rfl HU7 (by kernel_rfl) (by kernel_rfl) rfl ?_)
        | (refine load_blk (k := 0) 31 (bpC X) (by rfl) rfl rfl HV7 (by kernel_rfl) (by kernel_rfl) rfl ?_)
        | (refine eq_blk .neq 31 (bpC X) (bpC X) true (by rfl) rfl (Or.inr rfl) rfl rfl (by kernel_rfl) (HQ _) ?_))
      clear HV6 B6 lt6 b7 g7
      generalize w6.heap.size = u at *
      refine (HRt.out _).mono ?_
      rintro e w8 ⟨rfl, k8⟩
      have B8 := B7.trans (k8.mono B7.size)
      clear HU7 HV7 B7 k8
      go_wp2_with fail
      refine (HPk.out _).mono ?_
      rintro e w9 ⟨r, rfl, hr9, rfl⟩
      obtain ⟨pl, hrd⟩ := HC.out r hr9
      have hex : (⟨y.toArray⟩ : ByteArray).extract 0 r = ⟨(y.take r).toArray⟩ := by
        apply ByteArray.ext
        apply Array.toList_inj.1
        rw [extract_list]
        simp
      have HD := Lib.hid (fun W => (hrd W).mono fun _ _ h => ReadsAs.at (by decide) h)
      clear hrd
      generalize (y.take r).toArray = z at *
      have hr10 : (r : Int) ≤ (y.length : Int) := by omega
      have hr11 : r ≤ y.length := by omega
      go_wp2_with fail
      refine (HD.out _).mono ?_
      rintro e w10 ⟨q, rfl, hf, k10⟩
      have B10 := B8.trans (k10.mono B8.size)
      go_wp2_with (first
        | (refine alloc_blk 31 (bpC zBp) (by rfl) rfl Tryd.bpZero ?_)
        | (refine store_blk (k := 0) 31 (.agg (bpC zBp)) (bpC zBp) (by rfl) rfl rfl rfl (Blk.new w10 _ _) (by kernel_rfl) (show (31 : Nat) ≤ 31 from Nat.le_refl 31) (by rfl) (st_whole _ _ rfl) ?_; intro w11 H11 b11 g11; have hf11 := (hf.below ((Below.refl _ _).alloc (Nat.le_refl _) (.cells (bpC zBp) 31))).kept g11 (by have := hf.lt; simp; omega); have B11 : Below w.heap.size w w11 := (B10.alloc B10.size _).trans (b11.mono B10.size)))
      refine (tell_at q 7 pl _ (hE.below B11) hf11).mono ?_
      rintro e w12 ⟨rfl, k12⟩
      go_wp2
      go_ret
      exact ⟨rfl, B11.trans (k12.mono B11.size)⟩
  · have hgt : decide ((300 : Int) < (s.size : Int)) = true := decide_eq_true (by omega)
    go_enter Tryd.func6, Tryd.ntmps6
    go_wp2_with fail
    refine (bridged_any _).mono ?_
    rintro e w2 ⟨rfl, B2⟩
    have hs2 := B2.size
    go_wp2
    go_ret
    exact ⟨rfl, B2⟩

end Go.Proofs.YtgikembnkbpjpaaDoor.bpduStill
