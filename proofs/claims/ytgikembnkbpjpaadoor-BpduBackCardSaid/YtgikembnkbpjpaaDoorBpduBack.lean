/- switchyardkeep.BpduBack returns true at every BPDU and text, and changes nothing that was there. -/
import Derived.Test.YtgikembnkbpjpaaDoorBridged
import Derived.Test.YtgikembnkbpjpaaDoorPlace
namespace Go.Proofs.YtgikembnkbpjpaaDoor.bpduBack
open Go.RowKit
attribute [local go_sem ↓] Go.wp_at_zero Go.wp_at_succ
set_option linter.unusedSimpArgs false
set_option linter.unusedVariables false
set_option maxRecDepth 100000

set_option maxHeartbeats 6400000 in
theorem walk (b : Bp) (hx : byBp b) (hr : rgBp b) (t : ByteArray) (w : World) (hE : HasErr w) :
    Calls Tryd.prog 5 #[.agg (bpC b), .string t] w fun e w' => e = .returned (.bool true) ∧ Below w.heap.size w w' := by
  have hnn : ∀ w : World, (binOp BinOp.eql 36 .nilIface .nilIface).run Tryd.prog w = .ok (.bool true) w := fun _ => by kernel_rfl
  have HA := Blk.new w 31 (bpC b)
  have B0 : Below w.heap.size w (w.alloc (.cells (bpC b) 31)) := (Below.refl _ _).alloc (Nat.le_refl _) _
  by_cases hs : t.size ≤ 200
  · have hgt : decide ((200 : Int) < (t.size : Int)) = false := decide_eq_false (by omega)
    have HR := Lib.hid (fun W => bpRight_any b hr W)
    cases hok : okBp b with
    | false =>
      have HW := Lib.hid (fun W => bpWrite_no b hok hr W)
      rw [hok] at HR
      go_enter Tryd.func5, Tryd.ntmps5
      go_upto_region 1 with (fail)
      generalize (w.alloc (.cells (bpC b) 31)) = w1 at *
      go_wp2_with fail
      refine (bridged_any _).mono ?_
      rintro e w2 ⟨rfl, k2⟩
      have HA2 := HA.kept k2
      have B2 := B0.trans (k2.mono B0.size)
      clear HA B0 k2
      go_wp2_with (refine load_blk (k := 0) 31 (bpC b) (by rfl) rfl rfl HA2 (by kernel_rfl) (by kernel_rfl) rfl ?_)
      refine (HW.out _).mono ?_
      rintro e w3 ⟨rfl, k3⟩
      have HA3 := HA2.kept k3
      have B3 := B2.trans (k3.mono B2.size)
      clear HA2 B2 k3
      go_wp2_with (refine load_blk (k := 0) 31 (bpC b) (by rfl) rfl rfl HA3 (by kernel_rfl) (by kernel_rfl) rfl ?_)
      refine (HR.out _).mono ?_
      rintro e w4 ⟨rfl, k4⟩
      have HA4 := HA3.kept k4
      have B4 := B3.trans (k4.mono B3.size)
      clear HA3 B3 k4
      go_wp2_with fail
      refine (tell_errno 1 _ (hE.below B4)).mono ?_
      rintro e w5 ⟨rfl, k5⟩
      go_wp2
      go_ret
      exact ⟨rfl, B4.trans (k5.mono B4.size)⟩
    | true =>
      have HW := Lib.hid (fun W => bpWrite_yes b hok hx hr W)
      rw [hok] at HR
      have HQ : ∀ W, (Op.equalIn 10000 31 (.agg (bpC b)) (.agg (bpC b))).run Tryd.prog W = .ok true W := fun W => by
        have h := run_eql_bp 9996 b b W
        rw [eqBp_self] at h
        exact h
      obtain ⟨m, rfl⟩ : ∃ m : List UInt8, t = ⟨m.toArray⟩ := ⟨t.data.toList, rfl⟩
      have hm : m.length ≤ 200 := by simpa [ByteArray.size] using hs
      have hwl := writeL_len b
      have hw36 : (writeL b).length ≤ 36 := by rw [hwl]; split <;> (try split) <;> omega
      have HRd := Lib.hid (fun W => read_list b hok hx m (by rw [List.length_append]; omega) W)
      have hk : b.k = 1 ∨ b.k = 2 ∨ b.k = 3 := by
        unfold okBp at hok
        by_cases k1 : b.k = 1
        · exact Or.inl k1
        · by_cases k2 : b.k = 2
          · exact Or.inr (Or.inl k2)
          · by_cases k3 : b.k = 3
            · exact Or.inr (Or.inr k3)
            · rw [if_neg k1, if_neg k2, if_neg k3] at hok
              cases hok
      generalize writeL b = y at *
      have p1 : ∀ W, (Op.stringOp .add ⟨y.toArray⟩ ⟨m.toArray⟩).run Tryd.prog W = .ok (.string ⟨(y ++ m).toArray⟩) W := fun W => run_string_add_lists W y m (by omega) (by omega)
      generalize y ++ m = z at *
      rcases hk with hk | hk | hk
      · have hl : y.length = 35 := by rw [hwl, hk]; rfl
        have HK : Hid (b.k = 1) := hk
        have hix : ∀ W, (Instr.index 51 (.agg #[.int .i64 0, .int .i64 35, .int .i64 4, .int .i64 36]) (.int .i64 1)).run Tryd.prog W = .ok (.int .i64 35) W := fun W => run_index_arr (P := Tryd.prog) W 51 3 4 1 #[.int .i64 0, .int .i64 35, .int .i64 4, .int .i64 36] (.int .i64 35) Tryd.underlying51 (by kernel_rfl) (by decide) (by kernel_rfl) rfl
        clear hwl hw36 hk hok hx hr
        go_enter Tryd.func5, Tryd.ntmps5
        go_upto_region 1 with (fail)
        generalize (w.alloc (.cells (bpC b) 31)) = w1 at *
        go_wp2_with fail
        refine (bridged_any _).mono ?_
        rintro e w2 ⟨rfl, k2⟩
        have HA2 := HA.kept k2
        have B2 := B0.trans (k2.mono B0.size)
        clear HA B0 k2
        go_wp2_with (refine load_blk (k := 0) 31 (bpC b) (by rfl) rfl rfl HA2 (by kernel_rfl) (by kernel_rfl) rfl ?_)
        refine (HW.out _).mono ?_
        rintro e w3 ⟨rfl, k3⟩
        have HA3 := HA2.kept k3
        have B3 := B2.trans (k3.mono B2.size)
        clear HA2 B2 k3
        go_wp2_with (refine load_blk (k := 0) 31 (bpC b) (by rfl) rfl rfl HA3 (by kernel_rfl) (by kernel_rfl) rfl ?_)
        refine (HR.out _).mono ?_
        rintro e w4 ⟨rfl, k4⟩
        have HA4 := HA3.kept k4
        have B4 := B3.trans (k4.mono B3.size)
        clear HA3 B3 k4
        have c0 : w4.cell? ⟨w.heap.size, 0, none⟩ = some (.int .i64 1) := (HA4.cv 0 (.int .i64 b.k) rfl).trans (by rw [HK.out])
        go_wp2_with fail
        refine (HRd.out _).mono ?_
        rintro e w5 ⟨rfl, k5⟩
        have HA5 := HA4.kept k5
        have B5 := B4.trans (k5.mono B4.size)
        have lt5 : w.heap.size < w5.heap.size := HA5.lt
        clear HA4 B4 k5 c0
        go_upto_region 11 with (first
          | (refine alloc_blk 31 (bpC zBp) (by rfl) rfl Tryd.bpZero ?_)
          | (refine store_blk (k := 0) 31 (.agg (bpC b)) (bpC b) (by rfl) rfl rfl rfl (Blk.new w5 _ _) (by kernel_rfl) (show (31 : Nat) ≤ 31 from Nat.le_refl 31) (by rfl) (st_whole _ _ rfl) ?_; intro w6 HV6 b6 g6; have HA6 := (HA5.alloc (.cells (bpC zBp) 31)).below b6 lt5; have B6 : Below w.heap.size w w6 := (B5.alloc B5.size _).trans (b6.mono (by omega))))
        (try simp only [Act.put, List.setIfInBounds_toArray, List.set_cons_zero, List.set_cons_succ])
        clear HA5 B5 b6 g6
        generalize w5.heap.size = v at *
        have c0 : w6.cell? ⟨w.heap.size, 0, none⟩ = some (.int .i64 1) := (HA6.cv 0 (.int .i64 b.k) rfl).trans (by rw [HK.out])
        go_wp2_with (first
          | (refine load_blk (k := 0) 31 (bpC b) (by rfl) rfl rfl HV6 (by kernel_rfl) (by kernel_rfl) rfl ?_)
          | (refine load_blk (k := 0) 31 (bpC b) (by rfl) rfl rfl HA6 (by kernel_rfl) (by kernel_rfl) rfl ?_)
          | (refine eq_blk .eql 31 (bpC b) (bpC b) true (by rfl) rfl (Or.inl rfl) rfl rfl (by kernel_rfl) (HQ _) ?_)
          | (refine build_blk (t := 51) #[.int .i64 0, .int .i64 35, .int .i64 4, .int .i64 36] (by rfl) rfl (by kernel_rfl) ?_)
          | (refine index_blk (k := 1) #[.int .i64 0, .int .i64 35, .int .i64 4, .int .i64 36] _ (by rfl) rfl rfl rfl (hix _) ?_))
        go_ret
        exact ⟨rfl, B6⟩
      · have hl : y.length = 4 := by rw [hwl, hk]; rfl
        have HK : Hid (b.k = 2) := hk
        have hix : ∀ W, (Instr.index 51 (.agg #[.int .i64 0, .int .i64 35, .int .i64 4, .int .i64 36]) (.int .i64 2)).run Tryd.prog W = .ok (.int .i64 4) W := fun W => run_index_arr (P := Tryd.prog) W 51 3 4 2 #[.int .i64 0, .int .i64 35, .int .i64 4, .int .i64 36] (.int .i64 4) Tryd.underlying51 (by kernel_rfl) (by decide) (by kernel_rfl) rfl
        clear hwl hw36 hk hok hx hr
        go_enter Tryd.func5, Tryd.ntmps5
        go_upto_region 1 with (fail)
        generalize (w.alloc (.cells (bpC b) 31)) = w1 at *
        go_wp2_with fail
        refine (bridged_any _).mono ?_
        rintro e w2 ⟨rfl, k2⟩
        have HA2 := HA.kept k2
        have B2 := B0.trans (k2.mono B0.size)
        clear HA B0 k2
        go_wp2_with (refine load_blk (k := 0) 31 (bpC b) (by rfl) rfl rfl HA2 (by kernel_rfl) (by kernel_rfl) rfl ?_)
        refine (HW.out _).mono ?_
        rintro e w3 ⟨rfl, k3⟩
        have HA3 := HA2.kept k3
        have B3 := B2.trans (k3.mono B2.size)
        clear HA2 B2 k3
        go_wp2_with (refine load_blk (k := 0) 31 (bpC b) (by rfl) rfl rfl HA3 (by kernel_rfl) (by kernel_rfl) rfl ?_)
        refine (HR.out _).mono ?_
        rintro e w4 ⟨rfl, k4⟩
        have HA4 := HA3.kept k4
        have B4 := B3.trans (k4.mono B3.size)
        clear HA3 B3 k4
        have c0 : w4.cell? ⟨w.heap.size, 0, none⟩ = some (.int .i64 2) := (HA4.cv 0 (.int .i64 b.k) rfl).trans (by rw [HK.out])
        go_wp2_with fail
        refine (HRd.out _).mono ?_
        rintro e w5 ⟨rfl, k5⟩
        have HA5 := HA4.kept k5
        have B5 := B4.trans (k5.mono B4.size)
        have lt5 : w.heap.size < w5.heap.size := HA5.lt
        clear HA4 B4 k5 c0
        go_upto_region 11 with (first
          | (refine alloc_blk 31 (bpC zBp) (by rfl) rfl Tryd.bpZero ?_)
          | (refine store_blk (k := 0) 31 (.agg (bpC b)) (bpC b) (by rfl) rfl rfl rfl (Blk.new w5 _ _) (by kernel_rfl) (show (31 : Nat) ≤ 31 from Nat.le_refl 31) (by rfl) (st_whole _ _ rfl) ?_; intro w6 HV6 b6 g6; have HA6 := (HA5.alloc (.cells (bpC zBp) 31)).below b6 lt5; have B6 : Below w.heap.size w w6 := (B5.alloc B5.size _).trans (b6.mono (by omega))))
        (try simp only [Act.put, List.setIfInBounds_toArray, List.set_cons_zero, List.set_cons_succ])
        clear HA5 B5 b6 g6
        generalize w5.heap.size = v at *
        have c0 : w6.cell? ⟨w.heap.size, 0, none⟩ = some (.int .i64 2) := (HA6.cv 0 (.int .i64 b.k) rfl).trans (by rw [HK.out])
        go_wp2_with (first
          | (refine load_blk (k := 0) 31 (bpC b) (by rfl) rfl rfl HV6 (by kernel_rfl) (by kernel_rfl) rfl ?_)
          | (refine load_blk (k := 0) 31 (bpC b) (by rfl) rfl rfl HA6 (by kernel_rfl) (by kernel_rfl) rfl ?_)
          | (refine eq_blk .eql 31 (bpC b) (bpC b) true (by rfl) rfl (Or.inl rfl) rfl rfl (by kernel_rfl) (HQ _) ?_)
          | (refine build_blk (t := 51) #[.int .i64 0, .int .i64 35, .int .i64 4, .int .i64 36] (by rfl) rfl (by kernel_rfl) ?_)
          | (refine index_blk (k := 2) #[.int .i64 0, .int .i64 35, .int .i64 4, .int .i64 36] _ (by rfl) rfl rfl rfl (hix _) ?_))
        go_ret
        exact ⟨rfl, B6⟩
      · have hl : y.length = 36 := by rw [hwl, hk]; rfl
        have HK : Hid (b.k = 3) := hk
        have hix : ∀ W, (Instr.index 51 (.agg #[.int .i64 0, .int .i64 35, .int .i64 4, .int .i64 36]) (.int .i64 3)).run Tryd.prog W = .ok (.int .i64 36) W := fun W => run_index_arr (P := Tryd.prog) W 51 3 4 3 #[.int .i64 0, .int .i64 35, .int .i64 4, .int .i64 36] (.int .i64 36) Tryd.underlying51 (by kernel_rfl) (by decide) (by kernel_rfl) rfl
        clear hwl hw36 hk hok hx hr
        go_enter Tryd.func5, Tryd.ntmps5
        go_upto_region 1 with (fail)
        generalize (w.alloc (.cells (bpC b) 31)) = w1 at *
        go_wp2_with fail
        refine (bridged_any _).mono ?_
        rintro e w2 ⟨rfl, k2⟩
        have HA2 := HA.kept k2
        have B2 := B0.trans (k2.mono B0.size)
        clear HA B0 k2
        go_wp2_with (refine load_blk (k := 0) 31 (bpC b) (by rfl) rfl rfl HA2 (by kernel_rfl) (by kernel_rfl) rfl ?_)
        refine (HW.out _).mono ?_
        rintro e w3 ⟨rfl, k3⟩
        have HA3 := HA2.kept k3
        have B3 := B2.trans (k3.mono B2.size)
        clear HA2 B2 k3
        go_wp2_with (refine load_blk (k := 0) 31 (bpC b) (by rfl) rfl rfl HA3 (by kernel_rfl) (by kernel_rfl) rfl ?_)
        refine (HR.out _).mono ?_
        rintro e w4 ⟨rfl, k4⟩
        have HA4 := HA3.kept k4
        have B4 := B3.trans (k4.mono B3.size)
        clear HA3 B3 k4
        have c0 : w4.cell? ⟨w.heap.size, 0, none⟩ = some (.int .i64 3) := (HA4.cv 0 (.int .i64 b.k) rfl).trans (by rw [HK.out])
        go_wp2_with fail
        refine (HRd.out _).mono ?_
        rintro e w5 ⟨rfl, k5⟩
        have HA5 := HA4.kept k5
        have B5 := B4.trans (k5.mono B4.size)
        have lt5 : w.heap.size < w5.heap.size := HA5.lt
        clear HA4 B4 k5 c0
        go_upto_region 11 with (first
          | (refine alloc_blk 31 (bpC zBp) (by rfl) rfl Tryd.bpZero ?_)
          | (refine store_blk (k := 0) 31 (.agg (bpC b)) (bpC b) (by rfl) rfl rfl rfl (Blk.new w5 _ _) (by kernel_rfl) (show (31 : Nat) ≤ 31 from Nat.le_refl 31) (by rfl) (st_whole _ _ rfl) ?_; intro w6 HV6 b6 g6; have HA6 := (HA5.alloc (.cells (bpC zBp) 31)).below b6 lt5; have B6 : Below w.heap.size w w6 := (B5.alloc B5.size _).trans (b6.mono (by omega))))
        (try simp only [Act.put, List.setIfInBounds_toArray, List.set_cons_zero, List.set_cons_succ])
        clear HA5 B5 b6 g6
        generalize w5.heap.size = v at *
        have c0 : w6.cell? ⟨w.heap.size, 0, none⟩ = some (.int .i64 3) := (HA6.cv 0 (.int .i64 b.k) rfl).trans (by rw [HK.out])
        go_wp2_with (first
          | (refine load_blk (k := 0) 31 (bpC b) (by rfl) rfl rfl HV6 (by kernel_rfl) (by kernel_rfl) rfl ?_)
          | (refine load_blk (k := 0) 31 (bpC b) (by rfl) rfl rfl HA6 (by kernel_rfl) (by kernel_rfl) rfl ?_)
          | (refine eq_blk .eql 31 (bpC b) (bpC b) true (by rfl) rfl (Or.inl rfl) rfl rfl (by kernel_rfl) (HQ _) ?_)
          | (refine build_blk (t := 51) #[.int .i64 0, .int .i64 35, .int .i64 4, .int .i64 36] (by rfl) rfl (by kernel_rfl) ?_)
          | (refine index_blk (k := 3) #[.int .i64 0, .int .i64 35, .int .i64 4, .int .i64 36] _ (by rfl) rfl rfl rfl (hix _) ?_))
        go_ret
        exact ⟨rfl, B6⟩
  · have hgt : decide ((200 : Int) < (t.size : Int)) = true := decide_eq_true (by omega)
    go_enter Tryd.func5, Tryd.ntmps5
    go_upto_region 1 with (fail)
    generalize (w.alloc (.cells (bpC b) 31)) = w1 at *
    go_wp2_with fail
    refine (bridged_any _).mono ?_
    rintro e w2 ⟨rfl, k2⟩
    have HA2 := HA.kept k2
    have B2 := B0.trans (k2.mono B0.size)
    clear HA B0 k2
    go_wp2
    go_ret
    exact ⟨rfl, B2⟩

end Go.Proofs.YtgikembnkbpjpaaDoor.bpduBack
