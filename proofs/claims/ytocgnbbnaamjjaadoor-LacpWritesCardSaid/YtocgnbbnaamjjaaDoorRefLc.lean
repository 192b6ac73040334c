/- The reference on what both sides may know: shorts, LacpRight, MarkRight. -/
import Derived.Test.YtocgnbbnaamjjaaDoorLc
import Derived.Test.YtocgnbbnaamjjaaDoorFits
import Derived.Great.BuildSlice
namespace Go.Proofs.YtocgnbbnaamjjaaDoor
open Go.RowKit
attribute [local go_sem ↓] Go.wp_at_zero Go.wp_at_succ
set_option linter.unusedSimpArgs false
set_option linter.unusedVariables false
set_option maxRecDepth 100000

theorem withinLc (n lo hi : Int) (w : World) :
    Calls Tryd.prog 32 #[.int .i64 n, .int .i64 lo, .int .i64 hi] w fun e w' => e = .returned (.bool (decide (lo ≤ n) && decide (n ≤ hi))) ∧ w = w' := by
  by_cases h1 : lo ≤ n
  · by_cases h2 : n ≤ hi
    · have hd8 : decide (n ≤ hi) = true := decide_eq_true h2
      have hd1 : decide (lo ≤ n) = true := decide_eq_true h1
      rw [hd8, hd1]
      go_enter Tryd.func32, Tryd.ntmps32
      go_wp2
      go_ret
      exact ⟨rfl, rfl⟩
    · have hd8 : decide (n ≤ hi) = false := decide_eq_false (by omega)
      have hd1 : decide (lo ≤ n) = true := decide_eq_true h1
      rw [hd8, hd1]
      go_enter Tryd.func32, Tryd.ntmps32
      go_wp2
      go_ret
      exact ⟨rfl, rfl⟩
  · have hd1 : decide (lo ≤ n) = false := decide_eq_false (by omega)
    rw [hd1, Bool.false_and]
    go_enter Tryd.func32, Tryd.ntmps32
    go_wp2
    go_ret
    exact ⟨rfl, rfl⟩

theorem within_fit (n : Nat) (v hi : Int) (h : hi + 1 = 256 ^ n) (w : World) :
    Calls Tryd.prog 32 #[.int .i64 v, .int .i64 0, .int .i64 hi] w fun e w' => e = .returned (.bool (fitI n v)) ∧ w = w' := by
  have q := withinLc v 0 hi w
  have e : (decide ((0 : Int) ≤ v) && decide (v ≤ hi)) = fitI n v := by
    unfold fitI
    rw [← h]
    congr 1
    rw [decide_eq_decide]
    omega
  rw [e] at q
  exact q

set_option maxHeartbeats 1600000 in
theorem shorts_any (l : List Int) (hl : l.length ≤ 1000) (g : Nat) (w : World) (h : IRow w g l) :
    Calls Tryd.prog 31 #[.slice (some ⟨g, 0, none⟩) l.length l.length] w fun e w' => e = .returned (.bool (l.all (fitI 2))) ∧ w = w' := by
  go_enter Tryd.func31, Tryd.ntmps31
  go_wp2_with fail
  go_loopw [4, 7] (fun x i wr => ∃ k : Nat, k ≤ l.length ∧ i = .int .i64 k ∧ (∀ v ∈ l.take k, fitI 2 v = true) ∧ wr = w) (fun _ i _ => l.length - (intOf i).toNat)
  case atStart => exact ⟨0, by omega, rfl, by simp, rfl⟩
  case round =>
    obtain ⟨k, hk, rfl, hall, rfl⟩ := hrel
    by_cases hlt : k < l.length
    · obtain ⟨v, hv⟩ : ∃ v, l[k]? = some v := ⟨l[k], List.getElem?_eq_getElem hlt⟩
      have hc : wr.cell? ⟨g, k, none⟩ = some (.int .i64 v) := h.2 k v hv
      have HWI := Lib.hid (fun W => within_fit 2 v 65535 (by decide) W)
      cases hf : fitI 2 v with
      | true =>
        have HA := Lib.hid (all_take hall hv hf)
        rw [hf] at HWI
        clear hall hv hf
        go_wp2_with fail
        refine (HWI.out _).mono ?_
        rintro e w' ⟨rfl, rfl⟩
        go_wp2
        go_roundw
        case rel => first | exact ⟨k + 1, by omega, by go_num, HA.out, rfl⟩ | exact ⟨k + 1, by omega, by go_num, HA.out, trivial⟩ | exact ⟨k + 1, by omega, by go_num, HA.out⟩
        case measure => simp [intOf]; omega
      | false =>
        have HF : Hid (l.all (fitI 2) = false) := by
          show _ = _
          rw [Bool.eq_false_iff]
          intro q
          rw [List.all_eq_true] at q
          have := q v (List.mem_of_getElem? hv)
          rw [hf] at this
          cases this
        rw [hf] at HWI
        clear hall hv hf
        go_wp2_with fail
        refine (HWI.out _).mono ?_
        rintro e w' ⟨rfl, rfl⟩
        go_wp2
        go_ret
        exact ⟨by rw [HF.out]; rfl, rfl⟩
    · obtain rfl : k = l.length := by omega
      have HF : Hid (l.all (fitI 2) = true) := by
        show _ = _
        rw [List.all_eq_true]
        rw [List.take_length] at hall
        exact hall
      clear hall
      go_wp2
      go_ret
      exact ⟨by rw [HF.out]; rfl, rfl⟩

theorem shorts1 (a : Int) (g : Nat) (w : World) (h : IRow w g [a]) : Calls Tryd.prog 31 #[.slice (some ⟨g, 0, none⟩) 1 1] w fun e w' => e = .returned (.bool (fitI 2 a)) ∧ w = w' := by
  have q := shorts_any [a] (by simp) g w h
  rw [show [a].all (fitI 2) = fitI 2 a by simp] at q
  exact q

theorem shorts4 (a b c d : Int) (g : Nat) (w : World) (h : IRow w g [a, b, c, d]) : Calls Tryd.prog 31 #[.slice (some ⟨g, 0, none⟩) 4 4] w fun e w' => e = .returned (.bool (fitI 2 a && (fitI 2 b && (fitI 2 c && fitI 2 d)))) ∧ w = w' := by
  have q := shorts_any [a, b, c, d] (by simp) g w h
  rw [show [a, b, c, d].all (fitI 2) = (fitI 2 a && (fitI 2 b && (fitI 2 c && fitI 2 d))) by simp] at q
  exact q

/-- Both sides, one behind the other. -/
def py2C (a p : Py) : Array Value := ((pyC a).toList ++ (pyC p).toList).toArray

theorem Tryd.pyParts : (Tryd.prog.info? 25).map (fun i => (i.zero, i.size, i.bytes)) = some (some (.agg (pyC zPy)), 11, 48) := by kernel_rfl

theorem fill_py2 (a p : Py) : Instr.fill (fun i => some (i * 11, 11)) ((Array.range (2 * 11)).map ((Value.agg (pyC zPy)).cells[· % (Value.agg (pyC zPy)).cells.size]!)) [(0, .agg (pyC a)), (1, .agg (pyC p))] = some (py2C a p) := by kernel_rfl

set_option maxHeartbeats 6400000 in
theorem refLcRight_any (l : Lc) (w : World) :
    Calls Tryd.prog 13 #[.agg (lcC l)] w fun e w' => e = .returned (.bool (okLc l)) ∧ Below w.heap.size w w' := by
  obtain ⟨i0, hi, hz0, hz1, hz2⟩ := info_parts Tryd.pyParts
  have HA := Blk.new w 27 (lcC l)
  have B0 : Below w.heap.size w (w.alloc (.cells (lcC l) 27)) := (Below.refl _ _).alloc (Nat.le_refl _) _
  have HOK : Hid (okLc l = (okPy l.a && (okPy l.p && fitI 2 l.de))) := rfl
  have HSa := Lib.hid (fun (g : Nat) (W : World) (h : IRow W g [l.a.sp, l.a.ke, l.a.pp, l.a.po]) => shorts4 l.a.sp l.a.ke l.a.pp l.a.po g W h)
  have HTa := Lib.hid (fun W => within_fit 1 l.a.st 255 (by decide) W)
  have HOa : Hid (okPy l.a = ((fitI 2 l.a.sp && (fitI 2 l.a.ke && (fitI 2 l.a.pp && fitI 2 l.a.po))) && fitI 1 l.a.st)) := rfl
  have HSp := Lib.hid (fun (g : Nat) (W : World) (h : IRow W g [l.p.sp, l.p.ke, l.p.pp, l.p.po]) => shorts4 l.p.sp l.p.ke l.p.pp l.p.po g W h)
  have HTp := Lib.hid (fun W => within_fit 1 l.p.st 255 (by decide) W)
  have HOp : Hid (okPy l.p = ((fitI 2 l.p.sp && (fitI 2 l.p.ke && (fitI 2 l.p.pp && fitI 2 l.p.po))) && fitI 1 l.p.st)) := rfl
  have HD := Lib.hid (fun (g : Nat) (W : World) (h : IRow W g [l.de]) => shorts1 l.de g W h)
  generalize (fitI 2 l.a.sp && (fitI 2 l.a.ke && (fitI 2 l.a.pp && fitI 2 l.a.po))) = x4a at *
  generalize fitI 1 l.a.st = x1a at *
  generalize (fitI 2 l.p.sp && (fitI 2 l.p.ke && (fitI 2 l.p.pp && fitI 2 l.p.po))) = x4p at *
  generalize fitI 1 l.p.st = x1p at *
  generalize okLc l = R at *
  generalize okPy l.a = Ra at *
  generalize okPy l.p = Rp at *
  generalize fitI 2 l.de = Rd at *
  go_enter Tryd.func13, Tryd.ntmps13
  go_upto_region 1 with (fail)
  generalize (w.alloc (.cells (lcC l) 27)) = w1 at *
  go_upto_region 2 with (first
    | (refine load_blk (k := 0) 25 (pyC l.a) (by rfl) rfl rfl HA (by kernel_rfl) (by kernel_rfl) rfl ?_)
    | (refine load_blk (k := 11) 25 (pyC l.p) (by rfl) rfl rfl HA (by kernel_rfl) (by kernel_rfl) rfl ?_)
    | (refine wpList_buildSlice rfl 53 25 2 _ rfl (py2C l.a l.p) i0 (.agg (pyC zPy)) Tryd.underlying53 hi hz0 (by rw [hz1]; decide) (by rw [hz1]; decide) (by rw [hz1]; simp only [List.map_toArray, List.map_cons, List.map_nil]; exact fill_py2 l.a l.p) ?_))
  (try simp only [Act.put, List.setIfInBounds_toArray, List.set_cons_zero, List.set_cons_succ])
  have HG2 := Blk.new w1 25 (py2C l.a l.p)
  have HA2 := HA.alloc (.cells (py2C l.a l.p) 25)
  have B2 := B0.alloc B0.size (.cells (py2C l.a l.p) 25)
  have hAG : w.heap.size < w1.heap.size := HA.lt
  generalize w1.alloc (.cells (py2C l.a l.p) 25) = w2 at *
  clear HA B0
  generalize w1.heap.size = G at *
  go_wp2_with fail
  go_loopw [4, 11] (fun _ i wr => Blk wr w.heap.size 27 (lcC l) ∧ Blk wr G 25 (py2C l.a l.p) ∧ Below w.heap.size w wr ∧ (i = .int .i64 0 ∨ (i = .int .i64 1 ∧ Hid (Ra = true)) ∨ (i = .int .i64 2 ∧ Hid (Ra = true) ∧ Hid (Rp = true)))) (fun _ i _ => 2 - (intOf i).toNat)
  case atStart => exact ⟨HA2, HG2, B2, Or.inl rfl⟩
  case round =>
    clear HA2 HG2 B2
    obtain ⟨HAr, HGr, Br, hcase⟩ := hrel
    rcases hcase with rfl | ⟨rfl, ha⟩ | ⟨rfl, ha, hp⟩
    · have hGr : G < wr.heap.size := HGr.lt
      have hAr : w.heap.size < wr.heap.size := HAr.lt
      go_upto_region 4 with (first
        | (refine load_blk (k := 0) 25 (pyC l.a) (by rfl) rfl rfl HGr (by kernel_rfl) (by kernel_rfl) rfl ?_)
        | (refine alloc_blk 25 (pyC zPy) (by rfl) rfl Tryd.pyZero ?_)
        | (refine store_blk (k := 0) 25 (.agg (pyC l.a)) (pyC l.a) (by rfl) rfl rfl rfl (Blk.new wr _ _) (by kernel_rfl) (show (11 : Nat) ≤ 11 from Nat.le_refl 11) (by rfl) rfl ?_; intro w3 HV3 b3 g3; have HA3 := (HAr.alloc (.cells (pyC zPy) 25)).below b3 hAr; have HG3 := (HGr.alloc (.cells (pyC zPy) 25)).below b3 hGr; have B3 := (Br.alloc Br.size (.cells (pyC zPy) 25)).trans (b3.mono Br.size)))
      (try simp only [Act.put, List.setIfInBounds_toArray, List.set_cons_zero, List.set_cons_succ])
      clear HAr HGr Br b3 g3 hGr hAr
      generalize wr.heap.size = V at *
      have c0 := HV3.cv 0 (.int .i64 l.a.sp) rfl
      have c7 := HV3.cv 7 (.int .i64 l.a.ke) rfl
      have c8 := HV3.cv 8 (.int .i64 l.a.pp) rfl
      have c9 := HV3.cv 9 (.int .i64 l.a.po) rfl
      have HV4 := HV3.alloc (.cells #[.int .i64 l.a.sp, .int .i64 l.a.ke, .int .i64 l.a.pp, .int .i64 l.a.po] 3)
      have HA4 := HA3.alloc (.cells #[.int .i64 l.a.sp, .int .i64 l.a.ke, .int .i64 l.a.pp, .int .i64 l.a.po] 3)
      have HG4 := HG3.alloc (.cells #[.int .i64 l.a.sp, .int .i64 l.a.ke, .int .i64 l.a.pp, .int .i64 l.a.po] 3)
      have B4 := B3.alloc B3.size (.cells #[.int .i64 l.a.sp, .int .i64 l.a.ke, .int .i64 l.a.pp, .int .i64 l.a.po] 3)
      have I4 := IRow.new4 w3 l.a.sp l.a.ke l.a.pp l.a.po 3
      have d10 := HV4.cv 10 (.int .i64 l.a.st) rfl
      cases x4a with
      | false =>
        have HK : Hid (Ra = false) := by show _ = _; rw [HOa.out]; rfl
        go_wp2_with fail
        refine (HSa.out _ _ I4).mono ?_
        rintro e w5 ⟨rfl, rfl⟩
        go_wp2
        go_ret
        exact ⟨by rw [HOK.out, HK.out]; rfl, B4⟩
      | true =>
        cases x1a with
        | false =>
          have HK : Hid (Ra = false) := by show _ = _; rw [HOa.out]; rfl
          go_wp2_with fail
          refine (HSa.out _ _ I4).mono ?_
          rintro e w5 ⟨rfl, rfl⟩
          go_wp2_with fail
          refine (HTa.out _).mono ?_
          rintro e w5 ⟨rfl, rfl⟩
          go_wp2
          go_ret
          exact ⟨by rw [HOK.out, HK.out]; rfl, B4⟩
        | true =>
          have HK : Hid (Ra = true) := by show _ = _; rw [HOa.out]; rfl
          go_wp2_with fail
          refine (HSa.out _ _ I4).mono ?_
          rintro e w5 ⟨rfl, rfl⟩
          go_wp2_with fail
          refine (HTa.out _).mono ?_
          rintro e w5 ⟨rfl, rfl⟩
          go_wp2
          go_roundw
          case rel => exact ⟨HA4, HG4, B4, Or.inr (Or.inl ⟨by go_num, HK⟩)⟩
          case measure => simp [intOf]
    · have hGr : G < wr.heap.size := HGr.lt
      have hAr : w.heap.size < wr.heap.size := HAr.lt
      go_upto_region 4 with (first
        | (refine load_blk (k := 11) 25 (pyC l.p) (by rfl) rfl rfl HGr (by kernel_rfl) (by kernel_rfl) rfl ?_)
        | (refine alloc_blk 25 (pyC zPy) (by rfl) rfl Tryd.pyZero ?_)
        | (refine store_blk (k := 0) 25 (.agg (pyC l.p)) (pyC l.p) (by rfl) rfl rfl rfl (Blk.new wr _ _) (by kernel_rfl) (show (11 : Nat) ≤ 11 from Nat.le_refl 11) (by rfl) rfl ?_; intro w3 HV3 b3 g3; have HA3 := (HAr.alloc (.cells (pyC zPy) 25)).below b3 hAr; have HG3 := (HGr.alloc (.cells (pyC zPy) 25)).below b3 hGr; have B3 := (Br.alloc Br.size (.cells (pyC zPy) 25)).trans (b3.mono Br.size)))
      (try simp only [Act.put, List.setIfInBounds_toArray, List.set_cons_zero, List.set_cons_succ])
      clear HAr HGr Br b3 g3 hGr hAr
      generalize wr.heap.size = V at *
      have c0 := HV3.cv 0 (.int .i64 l.p.sp) rfl
      have c7 := HV3.cv 7 (.int .i64 l.p.ke) rfl
      have c8 := HV3.cv 8 (.int .i64 l.p.pp) rfl
      have c9 := HV3.cv 9 (.int .i64 l.p.po) rfl
      have HV4 := HV3.alloc (.cells #[.int .i64 l.p.sp, .int .i64 l.p.ke, .int .i64 l.p.pp, .int .i64 l.p.po] 3)
      have HA4 := HA3.alloc (.cells #[.int .i64 l.p.sp, .int .i64 l.p.ke, .int .i64 l.p.pp, .int .i64 l.p.po] 3)
      have HG4 := HG3.alloc (.cells #[.int .i64 l.p.sp, .int .i64 l.p.ke, .int .i64 l.p.pp, .int .i64 l.p.po] 3)
      have B4 := B3.alloc B3.size (.cells #[.int .i64 l.p.sp, .int .i64 l.p.ke, .int .i64 l.p.pp, .int .i64 l.p.po] 3)
      have I4 := IRow.new4 w3 l.p.sp l.p.ke l.p.pp l.p.po 3
      have d10 := HV4.cv 10 (.int .i64 l.p.st) rfl
      cases x4p with
      | false =>
        have HK : Hid (Rp = false) := by show _ = _; rw [HOp.out]; rfl
        go_wp2_with fail
        refine (HSp.out _ _ I4).mono ?_
        rintro e w5 ⟨rfl, rfl⟩
        go_wp2
        go_ret
        exact ⟨by rw [HOK.out, ha.out, HK.out]; rfl, B4⟩
      | true =>
        cases x1p with
        | false =>
          have HK : Hid (Rp = false) := by show _ = _; rw [HOp.out]; rfl
          go_wp2_with fail
          refine (HSp.out _ _ I4).mono ?_
          rintro e w5 ⟨rfl, rfl⟩
          go_wp2_with fail
          refine (HTp.out _).mono ?_
          rintro e w5 ⟨rfl, rfl⟩
          go_wp2
          go_ret
          exact ⟨by rw [HOK.out, ha.out, HK.out]; rfl, B4⟩
        | true =>
          have HK : Hid (Rp = true) := by show _ = _; rw [HOp.out]; rfl
          go_wp2_with fail
          refine (HSp.out _ _ I4).mono ?_
          rintro e w5 ⟨rfl, rfl⟩
          go_wp2_with fail
          refine (HTp.out _).mono ?_
          rintro e w5 ⟨rfl, rfl⟩
          go_wp2
          go_roundw
          case rel => exact ⟨HA4, HG4, B4, Or.inr (Or.inr ⟨by go_num, ha, HK⟩)⟩
          case measure => simp [intOf]
    · have c22 := HAr.cv 22 (.int .i64 l.de) rfl
      have I4 := IRow.new1 wr l.de 3
      have B4 := Br.alloc Br.size (.cells #[.int .i64 l.de] 3)
      go_wp2_with fail
      refine (HD.out _ _ I4).mono ?_
      rintro e w5 ⟨rfl, rfl⟩
      go_wp2
      go_ret
      exact ⟨by rw [HOK.out, ha.out, hp.out]; rfl, B4⟩

set_option maxHeartbeats 3200000 in
theorem refMkRight_any (m : Mk) (w : World) :
    Calls Tryd.prog 18 #[.agg (mkC m)] w fun e w' => e = .returned (.bool (okMk m)) ∧ Below w.heap.size w w' := by
  have HA := Blk.new w 38 (mkC m)
  have B0 : Below w.heap.size w (w.alloc (.cells (mkC m) 38)) := (Below.refl _ _).alloc (Nat.le_refl _) _
  have HS := Lib.hid (fun (g : Nat) (W : World) (h : IRow W g [m.po]) => shorts1 m.po g W h)
  have HT := Lib.hid (fun W => within_fit 4 m.tx 4294967295 (by decide) W)
  have c1 := HA.cv 1 (.int .i64 m.po) rfl
  unfold okMk
  generalize fitI 2 m.po = x0 at *
  generalize fitI 4 m.tx = x1 at *
  cases x0 with
  | false =>
    go_enter Tryd.func18, Tryd.ntmps18
    go_upto_region 1 with (fail)
    generalize (w.alloc (.cells (mkC m) 38)) = w1 at *
    have I2 := IRow.new1 w1 m.po 3
    have HA2 := HA.alloc (.cells #[.int .i64 m.po] 3)
    have B2 := B0.alloc B0.size (.cells #[.int .i64 m.po] 3)
    have d8 := HA2.cv 8 (.int .i64 m.tx) rfl
    go_wp2_with fail
    refine (HS.out _ _ I2).mono ?_
    rintro e w2 ⟨rfl, rfl⟩
    go_wp2
    go_ret
    exact ⟨rfl, B2⟩
  | true =>
    go_enter Tryd.func18, Tryd.ntmps18
    go_upto_region 1 with (fail)
    generalize (w.alloc (.cells (mkC m) 38)) = w1 at *
    have I2 := IRow.new1 w1 m.po 3
    have HA2 := HA.alloc (.cells #[.int .i64 m.po] 3)
    have B2 := B0.alloc B0.size (.cells #[.int .i64 m.po] 3)
    have d8 := HA2.cv 8 (.int .i64 m.tx) rfl
    go_wp2_with fail
    refine (HS.out _ _ I2).mono ?_
    rintro e w2 ⟨rfl, rfl⟩
    go_wp2_with fail
    refine (HT.out _).mono ?_
    rintro e w3 ⟨rfl, rfl⟩
    go_wp2
    go_ret
    exact ⟨rfl, B2⟩

end Go.Proofs.YtocgnbbnaamjjaaDoor
