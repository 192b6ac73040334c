/- The reference's BpduRight at every BPDU. -/
import Derived.Test.YtajbkoggmhgjfaaDoorBpFits
import Derived.Test.YtajbkoggmhgjfaaDoorPrRight
namespace Go.Proofs.YtajbkoggmhgjfaaDoor
open Go.RowKit
attribute [local go_sem ↓] Go.wp_at_zero Go.wp_at_succ
set_option linter.unusedSimpArgs false
set_option linter.unusedVariables false
set_option maxRecDepth 100000

theorem fit2 (v : Int) : (decide (0 ≤ v) && decide (v ≤ 65535)) = fitI 2 v := by
  unfold fitI
  congr 1
  exact decide_eq_decide.2 (by constructor <;> intro h <;> omega)
theorem fit4 (v : Int) : (decide (0 ≤ v) && decide (v ≤ 4294967295)) = fitI 4 v := by
  unfold fitI
  congr 1
  exact decide_eq_decide.2 (by constructor <;> intro h <;> omega)
theorem within2 (v : Int) (w : World) : Calls Tryd.prog 39 #[.int .i64 v, .int .i64 0, .int .i64 65535] w fun e w' => e = .returned (.bool (fitI 2 v)) ∧ w = w' := by
  rw [← fit2]
  exact within_any v 0 65535 w
theorem within4 (v : Int) (w : World) : Calls Tryd.prog 39 #[.int .i64 v, .int .i64 0, .int .i64 4294967295] w fun e w' => e = .returned (.bool (fitI 4 v)) ∧ w = w' := by
  rw [← fit4]
  exact within_any v 0 4294967295 w

set_option maxHeartbeats 6400000 in
theorem refBpRight_any (b : Bp) (w : World) :
    Calls Tryd.prog 38 #[.agg (bpC b)] w fun e w' => e = .returned (.bool (okBp b)) ∧ Below w.heap.size w w' := by
  have HA := Blk.new w 31 (bpC b)
  have B0 : Below w.heap.size w (w.alloc (.cells (bpC b) 31)) := (Below.refl _ _).alloc (Nat.le_refl _) _
  have HR := Lib.hid (fun W => refRight_any b.root W)
  have HS := Lib.hid (fun W => refRight_any b.snd W)
  have HP := Lib.hid (fun W => refPort_any b.pp b.pn W)
  have HW := Lib.hid (fun W => within4 b.cost W)
  have HF : Hid (∀ W, Calls Tryd.prog 39 #[.int .i64 b.f.ro, .int .i64 0, .int .i64 3] W fun e w' => e = .returned (.bool (okF b.f)) ∧ W = w') := fun W => within_any b.f.ro 0 3 W
  have HE : Hid (∀ W, (Op.equalIn 10000 23 (.agg (flC ⟨false, b.f.pr, b.f.ro, b.f.le, b.f.pa, b.f.ag, false⟩)) (.agg (flC zFl))).run Tryd.prog W = .ok (eqFl b.f (cfF b.f)) W) := fun W => by
    rw [← cfg_ways]
    exact run_eql_fl 9997 ⟨false, b.f.pr, b.f.ro, b.f.le, b.f.pa, b.f.ag, false⟩ zFl W
  have c0 := HA.cv 0 (.int .i64 b.k) rfl
  have HT : Hid (okTm b = [b.age, b.mx, b.hel, b.wai].all (fitI 2)) := by show _ = _; simp [okTm]
  have HLl : Hid ([b.age, b.mx, b.hel, b.wai].length = 4) := rfl
  have HN : b.k = 2 → Hid (∀ W, (Op.equalIn 10000 31 (.agg (bpC ⟨0, b.f, b.root, b.cost, b.snd, b.pp, b.pn, b.age, b.mx, b.hel, b.wai⟩)) (.agg (bpC zBp))).run Tryd.prog W = .ok (eqBp b nBp) W) := fun h W => by
    rw [← not_ways b h]
    exact run_eql_bp 9996 ⟨0, b.f, b.root, b.cost, b.snd, b.pp, b.pn, b.age, b.mx, b.hel, b.wai⟩ zBp W
  unfold okBp okBd
  generalize okF b.f = x at *
  generalize eqFl b.f (cfF b.f) = z at *
  generalize eqBp b nBp = u at *
  generalize okTm b = x4 at *
  generalize hL : [b.age, b.mx, b.hel, b.wai] = l at HT HLl
  generalize fitI 4 b.cost = x3 at *
  generalize okPt b.pp b.pn = x2 at *
  generalize okB b.snd = x1 at *
  generalize okB b.root = x0 at *
  by_cases k1 : b.k = 1
  · have d1 : (b.k == 1) = true := by simpa using k1
    have d2 : (b.k == 2) = false := by rw [k1]; rfl
    rw [if_pos k1]
    clear HN
    clear k1
    cases z with
    | true =>
      rw [Bool.true_and]
      go_enter Tryd.func38, Tryd.ntmps38
      go_upto_region 1 with (fail)
      generalize (w.alloc (.cells (bpC b) 31)) = w1 at *
      go_upto_region 2 with (first | (refine load_blk (k := 1) 23 (flC b.f) (by rfl) rfl rfl HA (by kernel_rfl) (by kernel_rfl) rfl ?_) | (refine alloc_blk 23 (flC zFl) (by rfl) rfl Tryd.flZero ?_) | (refine store_blk (k := 0) 23 (.agg (flC b.f)) (flC b.f) (by rfl) rfl rfl rfl (Blk.new w1 _ _) (by kernel_rfl) (show (7 : Nat) ≤ 7 from Nat.le_refl 7) (by rfl) (st_whole _ _ rfl) ?_; intro w2 HG b2 g2))
      (try simp only [Act.put, List.setIfInBounds_toArray, List.set_cons_zero, List.set_cons_succ])
      have hsz1 := HA.lt
      have HA2 : Blk w2 w.heap.size 31 (bpC b) := (HA.alloc _).below b2 hsz1
      have B2 : Below w.heap.size w w2 := (B0.alloc B0.size _).trans (b2.mono (by omega))
      replace c0 := HA2.cv 0 (.int .i64 b.k) rfl
      generalize w1.heap.size = G at *
      clear HA b2 g2 B0
      go_upto_region 14 with (first | (refine store_blk (k := 0) 4 (.bool false) (flC ⟨false, b.f.pr, b.f.ro, b.f.le, b.f.pa, b.f.ag, b.f.ac⟩) (by rfl) rfl rfl rfl HG (by kernel_rfl) (show (0 + 1 : Nat) ≤ 7 by decide) rfl rfl ?_; intro w3 HG3 b3 g3) | (refine store_blk (k := 6) 4 (.bool false) (flC ⟨false, b.f.pr, b.f.ro, b.f.le, b.f.pa, b.f.ag, false⟩) (by rfl) rfl rfl rfl HG3 (by kernel_rfl) (show (6 + 1 : Nat) ≤ 7 by decide) rfl rfl ?_; intro w4 HG4 b4 g4) | (refine load_blk (k := 0) 23 (flC ⟨false, b.f.pr, b.f.ro, b.f.le, b.f.pa, b.f.ag, false⟩) (by rfl) rfl rfl HG4 (by kernel_rfl) (by kernel_rfl) rfl ?_) | (refine build_blk (t := 23) (flC zFl) (by rfl) rfl (by kernel_rfl) ?_) | (refine eq_blk .neq 23 (flC ⟨false, b.f.pr, b.f.ro, b.f.le, b.f.pa, b.f.ag, false⟩) (flC zFl) true (by rfl) rfl (Or.inr rfl) rfl rfl (by kernel_rfl) (HE.out _) ?_))
      have HA4 := (HA2.below b3 (by have := HG.lt; omega)).below b4 (by omega)
      have B4 := (B2.trans (b3.mono (by omega))).trans (b4.mono (by omega))
      have c27 := HA4.cv 27 (.int .i64 b.age) rfl
      have c28 := HA4.cv 28 (.int .i64 b.mx) rfl
      have c29 := HA4.cv 29 (.int .i64 b.hel) rfl
      have c30 := HA4.cv 30 (.int .i64 b.wai) rfl
      go_wp2_with fail
      have HI := IRow.new4 w4 b.age b.mx b.hel b.wai 3
      have HX := HA4.alloc (.cells #[.int .i64 b.age, .int .i64 b.mx, .int .i64 b.hel, .int .i64 b.wai] 3)
      have BX := B4.alloc B4.size (.cells #[.int .i64 b.age, .int .i64 b.mx, .int .i64 b.hel, .int .i64 b.wai] 3)
      rw [hL] at HI
      generalize w4.alloc (.cells #[.int .i64 b.age, .int .i64 b.mx, .int .i64 b.hel, .int .i64 b.wai] 3) = wl at *
      generalize w4.heap.size = g at *
      clear c27 c28 c29 c30
      go_loopw [5, 39] (fun _ i wr => ∃ k : Nat, k ≤ 4 ∧ i = .int .i64 k ∧ (∀ v ∈ l.take k, fitI 2 v = true) ∧ wl = wr) (fun _ i _ => 4 - (intOf i).toNat)
      case atStart => exact ⟨0, by omega, rfl, by simp, rfl⟩
      case round =>
        obtain ⟨k, hk, rfl, hall, rfl⟩ := hrel
        by_cases hlt : k < 4
        · have hltl : k < l.length := by rw [HLl.out]; exact hlt
          obtain ⟨v, hv⟩ : ∃ v, l[k]? = some v := ⟨l[k], List.getElem?_eq_getElem hltl⟩
          have hc : wl.cell? ⟨g, k, none⟩ = some (.int .i64 v) := HI.2 k v hv
          have HV := Lib.hid (fun W => within2 v W)
          cases hf : fitI 2 v
          · have HZ : Hid ((x0 && (x1 && (x2 && (x3 && x4)))) = false) := by
              have : x4 = false := by
                rw [HT.out, Bool.eq_false_iff]
                intro q
                rw [List.all_eq_true] at q
                have := q v (List.mem_of_getElem? hv)
                rw [hf] at this
                cases this
              show _ = _
              rw [this]
              simp
            rw [hf] at HV
            clear hall hv hf hltl
            go_wp2_with fail
            refine (HV.out _).mono ?_
            rintro e w9 ⟨rfl, rfl⟩
            go_wp2
            go_ret
            exact ⟨by rw [HZ.out]; rfl, BX⟩
          · have HN2 := Lib.hid (all_take hall hv hf)
            rw [hf] at HV
            clear hall hv hf hltl
            go_wp2_with fail
            refine (HV.out _).mono ?_
            rintro e w9 ⟨rfl, rfl⟩
            go_wp2
            go_roundw
            case rel => exact ⟨k + 1, by omega, by go_num, HN2.out, by first | rfl | trivial⟩
            case measure => simp [intOf]; omega
        · obtain rfl : k = 4 := by omega
          have hx4 : x4 = true := by
            rw [HT.out, List.all_eq_true]
            rw [List.take_of_length_le (by rw [HLl.out]; exact Nat.le_refl 4)] at hall
            exact hall
          clear hall HT
          subst hx4
          have c16 := HX.cv 16 (.int .i64 b.cost) rfl
          cases x0 with
          | false =>
            go_wp2_with (refine load_blk (k := 8) 27 (brC b.root) (by rfl) rfl rfl HX (by kernel_rfl) (by kernel_rfl) rfl ?_)
            refine (HR.out _).mono ?_
            rintro e v0 ⟨rfl, k0⟩
            have HX0 := HX.kept k0
            have BX0 := BX.trans (k0.mono BX.size)
            go_wp2
            go_ret
            exact ⟨by first | rfl | (cases x3 <;> rfl), BX0⟩
          | true =>
            cases x1 with
            | false =>
              go_wp2_with (refine load_blk (k := 8) 27 (brC b.root) (by rfl) rfl rfl HX (by kernel_rfl) (by kernel_rfl) rfl ?_)
              refine (HR.out _).mono ?_
              rintro e v0 ⟨rfl, k0⟩
              have HX0 := HX.kept k0
              have BX0 := BX.trans (k0.mono BX.size)
              go_wp2_with (refine load_blk (k := 17) 27 (brC b.snd) (by rfl) rfl rfl HX0 (by kernel_rfl) (by kernel_rfl) rfl ?_)
              refine (HS.out _).mono ?_
              rintro e v1 ⟨rfl, k1⟩
              have HX1 := HX0.kept k1
              have BX1 := BX0.trans (k1.mono BX0.size)
              go_wp2
              go_ret
              exact ⟨by first | rfl | (cases x3 <;> rfl), BX1⟩
            | true =>
              cases x2 with
              | false =>
                go_wp2_with (refine load_blk (k := 8) 27 (brC b.root) (by rfl) rfl rfl HX (by kernel_rfl) (by kernel_rfl) rfl ?_)
                refine (HR.out _).mono ?_
                rintro e v0 ⟨rfl, k0⟩
                have HX0 := HX.kept k0
                have BX0 := BX.trans (k0.mono BX.size)
                go_wp2_with (refine load_blk (k := 17) 27 (brC b.snd) (by rfl) rfl rfl HX0 (by kernel_rfl) (by kernel_rfl) rfl ?_)
                refine (HS.out _).mono ?_
                rintro e v1 ⟨rfl, k1⟩
                have HX1 := HX0.kept k1
                have BX1 := BX0.trans (k1.mono BX0.size)
                go_wp2_with (refine load_blk (k := 25) 29 (ptC b.pp b.pn) (by rfl) rfl rfl HX1 (by kernel_rfl) (by kernel_rfl) rfl ?_)
                refine (HP.out _).mono ?_
                rintro e v2 ⟨rfl, k2⟩
                have HX2 := HX1.kept k2
                have BX2 := BX1.trans (k2.mono BX1.size)
                have c16 := HX2.cv 16 (.int .i64 b.cost) rfl
                go_wp2
                go_ret
                exact ⟨by first | rfl | (cases x3 <;> rfl), BX2⟩
              | true =>
                go_wp2_with (refine load_blk (k := 8) 27 (brC b.root) (by rfl) rfl rfl HX (by kernel_rfl) (by kernel_rfl) rfl ?_)
                refine (HR.out _).mono ?_
                rintro e v0 ⟨rfl, k0⟩
                have HX0 := HX.kept k0
                have BX0 := BX.trans (k0.mono BX.size)
                go_wp2_with (refine load_blk (k := 17) 27 (brC b.snd) (by rfl) rfl rfl HX0 (by kernel_rfl) (by kernel_rfl) rfl ?_)
                refine (HS.out _).mono ?_
                rintro e v1 ⟨rfl, k1⟩
                have HX1 := HX0.kept k1
                have BX1 := BX0.trans (k1.mono BX0.size)
                go_wp2_with (refine load_blk (k := 25) 29 (ptC b.pp b.pn) (by rfl) rfl rfl HX1 (by kernel_rfl) (by kernel_rfl) rfl ?_)
                refine (HP.out _).mono ?_
                rintro e v2 ⟨rfl, k2⟩
                have HX2 := HX1.kept k2
                have BX2 := BX1.trans (k2.mono BX1.size)
                have c16 := HX2.cv 16 (.int .i64 b.cost) rfl
                go_wp2_with fail
                refine (HW.out _).mono ?_
                rintro e v3 ⟨rfl, rfl⟩
                go_wp2
                go_ret
                exact ⟨by first | rfl | (cases x3 <;> rfl), BX2⟩
    | false =>
      rw [Bool.false_and]
      go_enter Tryd.func38, Tryd.ntmps38
      go_upto_region 1 with (fail)
      generalize (w.alloc (.cells (bpC b) 31)) = w1 at *
      go_upto_region 2 with (first | (refine load_blk (k := 1) 23 (flC b.f) (by rfl) rfl rfl HA (by kernel_rfl) (by kernel_rfl) rfl ?_) | (refine alloc_blk 23 (flC zFl) (by rfl) rfl Tryd.flZero ?_) | (refine store_blk (k := 0) 23 (.agg (flC b.f)) (flC b.f) (by rfl) rfl rfl rfl (Blk.new w1 _ _) (by kernel_rfl) (show (7 : Nat) ≤ 7 from Nat.le_refl 7) (by rfl) (st_whole _ _ rfl) ?_; intro w2 HG b2 g2))
      (try simp only [Act.put, List.setIfInBounds_toArray, List.set_cons_zero, List.set_cons_succ])
      have hsz1 := HA.lt
      have HA2 : Blk w2 w.heap.size 31 (bpC b) := (HA.alloc _).below b2 hsz1
      have B2 : Below w.heap.size w w2 := (B0.alloc B0.size _).trans (b2.mono (by omega))
      replace c0 := HA2.cv 0 (.int .i64 b.k) rfl
      generalize w1.heap.size = G at *
      clear HA b2 g2 B0
      go_upto_region 10 with (first | (refine store_blk (k := 0) 4 (.bool false) (flC ⟨false, b.f.pr, b.f.ro, b.f.le, b.f.pa, b.f.ag, b.f.ac⟩) (by rfl) rfl rfl rfl HG (by kernel_rfl) (show (0 + 1 : Nat) ≤ 7 by decide) rfl rfl ?_; intro w3 HG3 b3 g3) | (refine store_blk (k := 6) 4 (.bool false) (flC ⟨false, b.f.pr, b.f.ro, b.f.le, b.f.pa, b.f.ag, false⟩) (by rfl) rfl rfl rfl HG3 (by kernel_rfl) (show (6 + 1 : Nat) ≤ 7 by decide) rfl rfl ?_; intro w4 HG4 b4 g4) | (refine load_blk (k := 0) 23 (flC ⟨false, b.f.pr, b.f.ro, b.f.le, b.f.pa, b.f.ag, false⟩) (by rfl) rfl rfl HG4 (by kernel_rfl) (by kernel_rfl) rfl ?_) | (refine build_blk (t := 23) (flC zFl) (by rfl) rfl (by kernel_rfl) ?_) | (refine eq_blk .neq 23 (flC ⟨false, b.f.pr, b.f.ro, b.f.le, b.f.pa, b.f.ag, false⟩) (flC zFl) false (by rfl) rfl (Or.inr rfl) rfl rfl (by kernel_rfl) (HE.out _) ?_))
      have HA4 := (HA2.below b3 (by have := HG.lt; omega)).below b4 (by omega)
      have B4 := (B2.trans (b3.mono (by omega))).trans (b4.mono (by omega))
      go_wp2
      go_ret
      exact ⟨by first | rfl | simp, B4⟩
  · have d1 : (b.k == 1) = false := by simpa using k1
    rw [if_neg k1]
    by_cases k2 : b.k = 2
    · have d2 : (b.k == 2) = true := by simpa using k2
      have HN2 := HN k2
      rw [if_pos k2]
      clear k1 k2 HN
      go_enter Tryd.func38, Tryd.ntmps38
      go_upto_region 1 with (fail)
      generalize (w.alloc (.cells (bpC b) 31)) = w1 at *
      go_upto_region 2 with (first | (refine load_blk (k := 1) 23 (flC b.f) (by rfl) rfl rfl HA (by kernel_rfl) (by kernel_rfl) rfl ?_) | (refine alloc_blk 23 (flC zFl) (by rfl) rfl Tryd.flZero ?_) | (refine store_blk (k := 0) 23 (.agg (flC b.f)) (flC b.f) (by rfl) rfl rfl rfl (Blk.new w1 _ _) (by kernel_rfl) (show (7 : Nat) ≤ 7 from Nat.le_refl 7) (by rfl) (st_whole _ _ rfl) ?_; intro w2 HG b2 g2))
      (try simp only [Act.put, List.setIfInBounds_toArray, List.set_cons_zero, List.set_cons_succ])
      have hsz1 := HA.lt
      have HA2 : Blk w2 w.heap.size 31 (bpC b) := (HA.alloc _).below b2 hsz1
      have B2 : Below w.heap.size w w2 := (B0.alloc B0.size _).trans (b2.mono (by omega))
      replace c0 := HA2.cv 0 (.int .i64 b.k) rfl
      generalize w1.heap.size = G at *
      clear HA b2 g2 B0
      go_wp2_with (first | (refine store_blk (k := 0) 3 (.int .i64 0) (bpC ⟨0, b.f, b.root, b.cost, b.snd, b.pp, b.pn, b.age, b.mx, b.hel, b.wai⟩) (by rfl) rfl rfl rfl HA2 (by kernel_rfl) (show (0 + 1 : Nat) ≤ 31 by decide) rfl rfl ?_; intro w3 HA3 b3 g3) | (refine load_blk (k := 0) 31 (bpC ⟨0, b.f, b.root, b.cost, b.snd, b.pp, b.pn, b.age, b.mx, b.hel, b.wai⟩) (by rfl) rfl rfl HA3 (by kernel_rfl) (by kernel_rfl) rfl ?_) | (refine build_blk (t := 31) (bpC zBp) (by rfl) rfl (by kernel_rfl) ?_) | (refine eq_blk .eql 31 (bpC ⟨0, b.f, b.root, b.cost, b.snd, b.pp, b.pn, b.age, b.mx, b.hel, b.wai⟩) (bpC zBp) u (by rfl) rfl (Or.inl rfl) rfl rfl (by kernel_rfl) (HN2.out _) ?_))
      go_ret
      exact ⟨rfl, B2.trans b3⟩
    · have d2 : (b.k == 2) = false := by simpa using k2
      rw [if_neg k2]
      by_cases k3 : b.k = 3
      · have d3 : (b.k == 3) = true := by simpa using k3
        rw [if_pos k3]
        clear k1 k2 k3 HN
        cases x with
        | true =>
          rw [Bool.true_and]
          go_enter Tryd.func38, Tryd.ntmps38
          go_upto_region 1 with (fail)
          generalize (w.alloc (.cells (bpC b) 31)) = w1 at *
          go_upto_region 2 with (first | (refine load_blk (k := 1) 23 (flC b.f) (by rfl) rfl rfl HA (by kernel_rfl) (by kernel_rfl) rfl ?_) | (refine alloc_blk 23 (flC zFl) (by rfl) rfl Tryd.flZero ?_) | (refine store_blk (k := 0) 23 (.agg (flC b.f)) (flC b.f) (by rfl) rfl rfl rfl (Blk.new w1 _ _) (by kernel_rfl) (show (7 : Nat) ≤ 7 from Nat.le_refl 7) (by rfl) (st_whole _ _ rfl) ?_; intro w2 HG b2 g2))
          (try simp only [Act.put, List.setIfInBounds_toArray, List.set_cons_zero, List.set_cons_succ])
          have hsz1 := HA.lt
          have HA2 : Blk w2 w.heap.size 31 (bpC b) := (HA.alloc _).below b2 hsz1
          have B2 : Below w.heap.size w w2 := (B0.alloc B0.size _).trans (b2.mono (by omega))
          replace c0 := HA2.cv 0 (.int .i64 b.k) rfl
          generalize w1.heap.size = G at *
          clear HA b2 g2 B0
          have c2 := HG.cv 2 (.int .i64 b.f.ro) rfl
          go_wp2_with fail
          refine (HF.out _).mono ?_
          rintro e w3 ⟨rfl, rfl⟩
          go_upto_region 14 with (fail)
          have c27 := HA2.cv 27 (.int .i64 b.age) rfl
          have c28 := HA2.cv 28 (.int .i64 b.mx) rfl
          have c29 := HA2.cv 29 (.int .i64 b.hel) rfl
          have c30 := HA2.cv 30 (.int .i64 b.wai) rfl
          go_wp2_with fail
          have HI := IRow.new4 w2 b.age b.mx b.hel b.wai 3
          have HX := HA2.alloc (.cells #[.int .i64 b.age, .int .i64 b.mx, .int .i64 b.hel, .int .i64 b.wai] 3)
          have BX := B2.alloc B2.size (.cells #[.int .i64 b.age, .int .i64 b.mx, .int .i64 b.hel, .int .i64 b.wai] 3)
          rw [hL] at HI
          generalize w2.alloc (.cells #[.int .i64 b.age, .int .i64 b.mx, .int .i64 b.hel, .int .i64 b.wai] 3) = wl at *
          generalize w2.heap.size = g at *
          clear c27 c28 c29 c30
          go_loopw [5, 39] (fun _ i wr => ∃ k : Nat, k ≤ 4 ∧ i = .int .i64 k ∧ (∀ v ∈ l.take k, fitI 2 v = true) ∧ wl = wr) (fun _ i _ => 4 - (intOf i).toNat)
          case atStart => exact ⟨0, by omega, rfl, by simp, rfl⟩
          case round =>
            obtain ⟨k, hk, rfl, hall, rfl⟩ := hrel
            by_cases hlt : k < 4
            · have hltl : k < l.length := by rw [HLl.out]; exact hlt
              obtain ⟨v, hv⟩ : ∃ v, l[k]? = some v := ⟨l[k], List.getElem?_eq_getElem hltl⟩
              have hc : wl.cell? ⟨g, k, none⟩ = some (.int .i64 v) := HI.2 k v hv
              have HV := Lib.hid (fun W => within2 v W)
              cases hf : fitI 2 v
              · have HZ : Hid ((x0 && (x1 && (x2 && (x3 && x4)))) = false) := by
                  have : x4 = false := by
                    rw [HT.out, Bool.eq_false_iff]
                    intro q
                    rw [List.all_eq_true] at q
                    have := q v (List.mem_of_getElem? hv)
                    rw [hf] at this
                    cases this
                  show _ = _
                  rw [this]
                  simp
                rw [hf] at HV
                clear hall hv hf hltl
                go_wp2_with fail
                refine (HV.out _).mono ?_
                rintro e w9 ⟨rfl, rfl⟩
                go_wp2
                go_ret
                exact ⟨by rw [HZ.out]; rfl, BX⟩
              · have HN2 := Lib.hid (all_take hall hv hf)
                rw [hf] at HV
                clear hall hv hf hltl
                go_wp2_with fail
                refine (HV.out _).mono ?_
                rintro e w9 ⟨rfl, rfl⟩
                go_wp2
                go_roundw
                case rel => exact ⟨k + 1, by omega, by go_num, HN2.out, by first | rfl | trivial⟩
                case measure => simp [intOf]; omega
            · obtain rfl : k = 4 := by omega
              have hx4 : x4 = true := by
                rw [HT.out, List.all_eq_true]
                rw [List.take_of_length_le (by rw [HLl.out]; exact Nat.le_refl 4)] at hall
                exact hall
              clear hall HT
              subst hx4
              have c16 := HX.cv 16 (.int .i64 b.cost) rfl
              cases x0 with
              | false =>
                go_wp2_with (refine load_blk (k := 8) 27 (brC b.root) (by rfl) rfl rfl HX (by kernel_rfl) (by kernel_rfl) rfl ?_)
                refine (HR.out _).mono ?_
                rintro e v0 ⟨rfl, k0⟩
                have HX0 := HX.kept k0
                have BX0 := BX.trans (k0.mono BX.size)
                go_wp2
                go_ret
                exact ⟨by first | rfl | (cases x3 <;> rfl), BX0⟩
              | true =>
                cases x1 with
                | false =>
                  go_wp2_with (refine load_blk (k := 8) 27 (brC b.root) (by rfl) rfl rfl HX (by kernel_rfl) (by kernel_rfl) rfl ?_)
                  refine (HR.out _).mono ?_
                  rintro e v0 ⟨rfl, k0⟩
                  have HX0 := HX.kept k0
                  have BX0 := BX.trans (k0.mono BX.size)
                  go_wp2_with (refine load_blk (k := 17) 27 (brC b.snd) (by rfl) rfl rfl HX0 (by kernel_rfl) (by kernel_rfl) rfl ?_)
                  refine (HS.out _).mono ?_
                  rintro e v1 ⟨rfl, k1⟩
                  have HX1 := HX0.kept k1
                  have BX1 := BX0.trans (k1.mono BX0.size)
                  go_wp2
                  go_ret
                  exact ⟨by first | rfl | (cases x3 <;> rfl), BX1⟩
                | true =>
                  cases x2 with
                  | false =>
                    go_wp2_with (refine load_blk (k := 8) 27 (brC b.root) (by rfl) rfl rfl HX (by kernel_rfl) (by kernel_rfl) rfl ?_)
                    refine (HR.out _).mono ?_
                    rintro e v0 ⟨rfl, k0⟩
                    have HX0 := HX.kept k0
                    have BX0 := BX.trans (k0.mono BX.size)
                    go_wp2_with (refine load_blk (k := 17) 27 (brC b.snd) (by rfl) rfl rfl HX0 (by kernel_rfl) (by kernel_rfl) rfl ?_)
                    refine (HS.out _).mono ?_
                    rintro e v1 ⟨rfl, k1⟩
                    have HX1 := HX0.kept k1
                    have BX1 := BX0.trans (k1.mono BX0.size)
                    go_wp2_with (refine load_blk (k := 25) 29 (ptC b.pp b.pn) (by rfl) rfl rfl HX1 (by kernel_rfl) (by kernel_rfl) rfl ?_)
                    refine (HP.out _).mono ?_
                    rintro e v2 ⟨rfl, k2⟩
                    have HX2 := HX1.kept k2
                    have BX2 := BX1.trans (k2.mono BX1.size)
                    have c16 := HX2.cv 16 (.int .i64 b.cost) rfl
                    go_wp2
                    go_ret
                    exact ⟨by first | rfl | (cases x3 <;> rfl), BX2⟩
                  | true =>
                    go_wp2_with (refine load_blk (k := 8) 27 (brC b.root) (by rfl) rfl rfl HX (by kernel_rfl) (by kernel_rfl) rfl ?_)
                    refine (HR.out _).mono ?_
                    rintro e v0 ⟨rfl, k0⟩
                    have HX0 := HX.kept k0
                    have BX0 := BX.trans (k0.mono BX.size)
                    go_wp2_with (refine load_blk (k := 17) 27 (brC b.snd) (by rfl) rfl rfl HX0 (by kernel_rfl) (by kernel_rfl) rfl ?_)
                    refine (HS.out _).mono ?_
                    rintro e v1 ⟨rfl, k1⟩
                    have HX1 := HX0.kept k1
                    have BX1 := BX0.trans (k1.mono BX0.size)
                    go_wp2_with (refine load_blk (k := 25) 29 (ptC b.pp b.pn) (by rfl) rfl rfl HX1 (by kernel_rfl) (by kernel_rfl) rfl ?_)
                    refine (HP.out _).mono ?_
                    rintro e v2 ⟨rfl, k2⟩
                    have HX2 := HX1.kept k2
                    have BX2 := BX1.trans (k2.mono BX1.size)
                    have c16 := HX2.cv 16 (.int .i64 b.cost) rfl
                    go_wp2_with fail
                    refine (HW.out _).mono ?_
                    rintro e v3 ⟨rfl, rfl⟩
                    go_wp2
                    go_ret
                    exact ⟨by first | rfl | (cases x3 <;> rfl), BX2⟩
        | false =>
          rw [Bool.false_and]
          go_enter Tryd.func38, Tryd.ntmps38
          go_upto_region 1 with (fail)
          generalize (w.alloc (.cells (bpC b) 31)) = w1 at *
          go_upto_region 2 with (first | (refine load_blk (k := 1) 23 (flC b.f) (by rfl) rfl rfl HA (by kernel_rfl) (by kernel_rfl) rfl ?_) | (refine alloc_blk 23 (flC zFl) (by rfl) rfl Tryd.flZero ?_) | (refine store_blk (k := 0) 23 (.agg (flC b.f)) (flC b.f) (by rfl) rfl rfl rfl (Blk.new w1 _ _) (by kernel_rfl) (show (7 : Nat) ≤ 7 from Nat.le_refl 7) (by rfl) (st_whole _ _ rfl) ?_; intro w2 HG b2 g2))
          (try simp only [Act.put, List.setIfInBounds_toArray, List.set_cons_zero, List.set_cons_succ])
          have hsz1 := HA.lt
          have HA2 : Blk w2 w.heap.size 31 (bpC b) := (HA.alloc _).below b2 hsz1
          have B2 : Below w.heap.size w w2 := (B0.alloc B0.size _).trans (b2.mono (by omega))
          replace c0 := HA2.cv 0 (.int .i64 b.k) rfl
          generalize w1.heap.size = G at *
          clear HA b2 g2 B0
          have c2 := HG.cv 2 (.int .i64 b.f.ro) rfl
          go_wp2_with fail
          refine (HF.out _).mono ?_
          rintro e w3 ⟨rfl, rfl⟩
          go_wp2
          go_ret
          exact ⟨rfl, B2⟩
      · have d3 : (b.k == 3) = false := by simpa using k3
        rw [if_neg k3]
        clear k1 k2 k3 HN
        go_enter Tryd.func38, Tryd.ntmps38
        go_upto_region 1 with (fail)
        generalize (w.alloc (.cells (bpC b) 31)) = w1 at *
        go_upto_region 2 with (first | (refine load_blk (k := 1) 23 (flC b.f) (by rfl) rfl rfl HA (by kernel_rfl) (by kernel_rfl) rfl ?_) | (refine alloc_blk 23 (flC zFl) (by rfl) rfl Tryd.flZero ?_) | (refine store_blk (k := 0) 23 (.agg (flC b.f)) (flC b.f) (by rfl) rfl rfl rfl (Blk.new w1 _ _) (by kernel_rfl) (show (7 : Nat) ≤ 7 from Nat.le_refl 7) (by rfl) (st_whole _ _ rfl) ?_; intro w2 HG b2 g2))
        (try simp only [Act.put, List.setIfInBounds_toArray, List.set_cons_zero, List.set_cons_succ])
        have hsz1 := HA.lt
        have HA2 : Blk w2 w.heap.size 31 (bpC b) := (HA.alloc _).below b2 hsz1
        have B2 : Below w.heap.size w w2 := (B0.alloc B0.size _).trans (b2.mono (by omega))
        replace c0 := HA2.cv 0 (.int .i64 b.k) rfl
        generalize w1.heap.size = G at *
        clear HA b2 g2 B0
        go_wp2
        go_ret
        exact ⟨rfl, B2⟩

end Go.Proofs.YtajbkoggmhgjfaaDoor
