/- mvrp.readAttr. -/
import Derived.Test.YtdjljnpbnhampaaDoorMvAttrM
import Derived.Test.YtdjljnpbnhampaaDoorMvRight
import Derived.Test.YtdjljnpbnhampaaDoorMvWrite
namespace Go.Proofs.YtdjljnpbnhampaaDoor
open Go.RowKit
attribute [local go_sem ↓] Go.wp_at_zero Go.wp_at_succ
set_option linter.unusedSimpArgs false
set_option linter.unusedVariables false
set_option maxRecDepth 100000

/-- What an attribute's reading answers. -/
def AtAns (S : ByteArray) (R : AtR) (base : Nat) (hd : MvH) (more : Bool) (st : RSt) (w : World) : Prop :=
  (more = true ∧ AtOut S.data.toList R hd.x st ∧ st.2.1 = 0 ∧ OwnIv w base (.slice hd.a hd.x.ev.length hd.c) hd.x.ev) ∨ (more = false ∧ AtEnd S.data.toList R st)

theorem results_blk_tmpA {P : Program} {fn : Func} {tmps : Array Value} {w : World} {a t u B : Nat} {T : TypeId} {X : Array Value} (h : fn.results = #[.cell a t, .tmp u]) (ha : tmps.getD a undef = .pointer (some ⟨B, 0, none⟩)) (hB : Blk w B T X)
    (hu : (match P.underlying t with | some (.struct _) | some (.array _ _) => true | _ => false) = true) (hn : (P.info? t).map (·.size) = some X.size) : (results fn tmps).run P w = .ok (.tuple #[.agg X, tmps.getD u undef]) w := results_blk_tmp h ha hB hu hn

theorem RdT.otherA {w w' : World} {g B : Nat} {s : ByteArray} {st : RSt} {C : Array Value} (h : RdT w g s 0 st) (hB : Blk w B 92 C) (hg : w.grownBy w' (some B)) : RdT w' g s 0 st := h.other hB (by decide) (by decide) hg

set_option maxHeartbeats 12800000 in
theorem readAttr_t {g : Nat} {S : ByteArray} (R : AtR) (st : RSt) (hI : AtI S.data.toList R st) (w : World) (h : RdT w g S 0 st) (hb : S.size ≤ 281474976710656) :
    Calls Tryd.prog 90 #[.pointer (some ⟨g, 0, none⟩)] w fun e w' => ∃ hd more st', e = .returned (.tuple #[.agg (mvC hd), .bool more]) ∧ AtAns S R w.heap.size hd more st' w' ∧ RdT w' g S 0 st' ∧ w.grownBy w' (some g) := by
  have hls : S.data.toList.length = S.size := by simp
  have HZ := Blk.new w 92 (mvC zMvH)
  have B0 : Below w.heap.size w (w.alloc (.cells (mvC zMvH) 92)) := (Below.refl _ _).alloc (Nat.le_refl _) _
  have h1 := h.below B0
  have G0 : w.grownBy (w.alloc (.cells (mvC zMvH) 92)) (some g) := World.grownBy_alloc w _ _
  have hgl : g < w.heap.size := h.lt
  have e0 : ((0 : Nat) : Int) + (st.1 : Int) = ((st.1 : Nat) : Int) := by omega
  have hp : st.1 ≤ S.size := by rw [← hls]; exact hI.1
  have hbn : some w.heap.size ≠ some g := by simp; omega
  have HA : Hid (∀ W, RdT W g S 0 st → Calls Tryd.prog 77 #[.pointer (some ⟨g, 0, none⟩)] W fun e w' => e = .returned (.int .i64 (st.1 : Nat)) ∧ W = w') := fun W h => by
    have q := atT st W h
    rw [e0] at q
    exact q
  have HN : Hid (∀ W, RdT W g S 0 st → Calls Tryd.prog 44 #[.pointer (some ⟨g, 0, none⟩), .int .i64 2] W fun e w' => e = .returned (.int .i64 (nmV S.data.toList 0 st 2 : Nat)) ∧ RdT w' g S 0 (nmS S.data.toList 0 st 2) ∧ W.grownBy w' (some g)) := fun W h => numK_t st 2 (by decide) W h hp (by omega)
  have HF : Hid (∀ (W : World) (s1 : RSt), RdT W g S 0 s1 → Calls Tryd.prog 61 #[.pointer (some ⟨g, 0, none⟩), .int .i64 2, .int .i64 (st.1 : Nat)] W fun e w' => e = .returned (.tuple #[]) ∧ RdT w' g S 0 (flR s1 2 st.1) ∧ W.grownBy w' (some g)) := fun W s1 h => fail_t s1 2 st.1 (by decide) W h
  have hrd := at_round _ _ _ hI
  have hnl := nmV_lt S.data.toList 0 st 2
  have HN2 : Hid (∀ W, (nmS S.data.toList 0 st 2).1 ≤ S.data.toList.length → RdT W g S 0 (nmS S.data.toList 0 st 2) → Calls Tryd.prog 44 #[.pointer (some ⟨g, 0, none⟩), .int .i64 2] W fun e w' => e = .returned (.int .i64 (nmV S.data.toList 0 (nmS S.data.toList 0 st 2) 2 : Nat)) ∧ RdT w' g S 0 (nmS S.data.toList 0 (nmS S.data.toList 0 st 2) 2) ∧ W.grownBy w' (some g)) := fun W hq h => numK_t _ 2 (by decide) W h (by rw [← hls]; exact hq) (by omega)
  clear hI e0 h
  generalize nmS S.data.toList 0 (nmS S.data.toList 0 st 2) 2 = st2 at *
  generalize nmV S.data.toList 0 (nmS S.data.toList 0 st 2) 2 = fi at *
  generalize nmS S.data.toList 0 st 2 = st1 at *
  generalize nmV S.data.toList 0 st 2 = n at *
  generalize st.1 = p at *
  have HB : Hid (Below w.heap.size w (w.alloc (.cells (mvC zMvH) 92))) := B0
  clear B0
  rcases hrd with ⟨hn, hE⟩ | ⟨hn, hc, hE⟩ | ⟨hn, hc1, hc2, hp1, R', hEI, hfin⟩
  · subst hn
    go_enter Tryd.func90, Tryd.ntmps90
    go_upto_region 1 with (refine alloc_blk 92 (mvC zMvH) (by rfl) rfl Tryd.mhZero ?_)
    generalize w.alloc (.cells (mvC zMvH) 92) = w1 at *
    go_wp2_with fail
    refine (HA.out _ h1).mono ?_
    rintro e w2 ⟨rfl, rfl⟩
    go_wp2_with fail
    refine (HN.out _ h1).mono ?_
    rintro e w3 ⟨rfl, HR3, g3'⟩
    have HZ3 := HZ.grown g3' hbn
    have G3 := grownBy_trans G0 g3'
    go_wp2_with (first
      | (refine build_blk (t := 92) (mvC zMvH) (by rfl) rfl (by kernel_rfl) ?_)
      | (refine store_blk (k := 0) 92 (.agg (mvC zMvH)) (mvC zMvH) (by rfl) rfl rfl rfl HZ3 (by kernel_rfl) (show (3 : Nat) ≤ 3 from Nat.le_refl 3) (by rfl) (st_whole _ _ rfl) (fun w7 H7 b7 g7 => ?_)))
    exact bodyPost_ret (results_blk_tmpA rfl rfl H7 (by kernel_rfl) (by kernel_rfl)) rfl ⟨zMvH, false, st1, rfl, Or.inr ⟨rfl, hE⟩, HR3.otherA HZ3 g7, grown_own G3 g7 (Nat.le_refl _)⟩
  · have d0 : ((n : Int) == 0) = false := beq_eq_false_iff_ne.2 (by omega)
    obtain ⟨m, hm⟩ : ∃ m, n % 8192 = m := ⟨_, rfl⟩
    have k1 : (n : Int).tmod 8192 = (m : Int) := by rw [Int.tmod_eq_emod_of_nonneg (by omega)]; omega
    have k2 : (n : Int) % 8192 = (m : Int) := by omega
    rw [hm] at hc
    clear hm
    have hcc : (16384 ≤ n) ∨ (¬ 16384 ≤ n ∧ 400 < m) := by omega
    rcases hcc with hc1 | ⟨hc1, hc2⟩
    · have d1 : decide ((16384 : Int) ≤ (n : Int)) = true := decide_eq_true (by omega)
      clear hc hc1
      go_enter Tryd.func90, Tryd.ntmps90
      go_upto_region 1 with (refine alloc_blk 92 (mvC zMvH) (by rfl) rfl Tryd.mhZero ?_)
      generalize w.alloc (.cells (mvC zMvH) 92) = w1 at *
      go_wp2_with fail
      refine (HA.out _ h1).mono ?_
      rintro e w2 ⟨rfl, rfl⟩
      go_wp2_with fail
      refine (HN.out _ h1).mono ?_
      rintro e w3 ⟨rfl, HR3, g3'⟩
      have HZ3 := HZ.grown g3' hbn
      have G3 := grownBy_trans G0 g3'
      go_wp2_with fail
      refine (HF.out _ _ HR3).mono ?_
      rintro e w4 ⟨rfl, HR4, g4⟩
      have HZ4 := HZ3.grown g4 hbn
      have G4 := grownBy_trans G3 g4
      go_wp2_with (first
        | (refine build_blk (t := 92) (mvC zMvH) (by rfl) rfl (by kernel_rfl) ?_)
        | (refine store_blk (k := 0) 92 (.agg (mvC zMvH)) (mvC zMvH) (by rfl) rfl rfl rfl HZ4 (by kernel_rfl) (show (3 : Nat) ≤ 3 from Nat.le_refl 3) (by rfl) (st_whole _ _ rfl) (fun w7 H7 b7 g7 => ?_)))
      exact bodyPost_ret (results_blk_tmpA rfl rfl H7 (by kernel_rfl) (by kernel_rfl)) rfl ⟨zMvH, false, _, rfl, Or.inr ⟨rfl, hE⟩, HR4.otherA HZ4 g7, grown_own G4 g7 (Nat.le_refl _)⟩
    · have d1 : decide ((16384 : Int) ≤ (n : Int)) = false := decide_eq_false (by omega)
      have d2 : decide ((400 : Int) < (m : Int)) = true := decide_eq_true (by omega)
      clear hc hc1 hc2
      go_enter Tryd.func90, Tryd.ntmps90
      go_upto_region 1 with (refine alloc_blk 92 (mvC zMvH) (by rfl) rfl Tryd.mhZero ?_)
      generalize w.alloc (.cells (mvC zMvH) 92) = w1 at *
      go_wp2_with fail
      refine (HA.out _ h1).mono ?_
      rintro e w2 ⟨rfl, rfl⟩
      go_wp2_with fail
      refine (HN.out _ h1).mono ?_
      rintro e w3 ⟨rfl, HR3, g3'⟩
      have HZ3 := HZ.grown g3' hbn
      have G3 := grownBy_trans G0 g3'
      go_wp2_with fail
      refine (HF.out _ _ HR3).mono ?_
      rintro e w4 ⟨rfl, HR4, g4⟩
      have HZ4 := HZ3.grown g4 hbn
      have G4 := grownBy_trans G3 g4
      go_wp2_with (first
        | (refine build_blk (t := 92) (mvC zMvH) (by rfl) rfl (by kernel_rfl) ?_)
        | (refine store_blk (k := 0) 92 (.agg (mvC zMvH)) (mvC zMvH) (by rfl) rfl rfl rfl HZ4 (by kernel_rfl) (show (3 : Nat) ≤ 3 from Nat.le_refl 3) (by rfl) (st_whole _ _ rfl) (fun w7 H7 b7 g7 => ?_)))
      exact bodyPost_ret (results_blk_tmpA rfl rfl H7 (by kernel_rfl) (by kernel_rfl)) rfl ⟨zMvH, false, _, rfl, Or.inr ⟨rfl, hE⟩, HR4.otherA HZ4 g7, grown_own G4 g7 (Nat.le_refl _)⟩
  · have d0 : ((n : Int) == 0) = false := beq_eq_false_iff_ne.2 (by omega)
    obtain ⟨m, hm⟩ : ∃ m, n % 8192 = m := ⟨_, rfl⟩
    have k1 : (n : Int).tmod 8192 = (m : Int) := by rw [Int.tmod_eq_emod_of_nonneg (by omega)]; omega
    have k2 : (n : Int) % 8192 = (m : Int) := by omega
    rw [hm] at hc2 hEI
    clear hm
    have d1 : decide ((16384 : Int) ≤ (n : Int)) = false := decide_eq_false (by omega)
    have d2 : decide ((400 : Int) < (m : Int)) = false := decide_eq_false (by omega)
    obtain ⟨al, hal⟩ : ∃ al, decide ((8192 : Int) ≤ (n : Int)) = al := ⟨_, rfl⟩
    have hal2 : decide (8192 ≤ n) = al := by
      rw [← hal]
      by_cases q : 8192 ≤ n
      · rw [decide_eq_true q, decide_eq_true (by omega)]
      · rw [decide_eq_false q, decide_eq_false (by omega)]
    rw [hal2] at hfin
    have hF := Lib.hid hfin
    have HEV : Hid (∀ W, RdT W g S 0 st2 → Calls Tryd.prog 107 #[.pointer (some ⟨g, 0, none⟩), .int .i64 (m : Nat)] W fun e w' => ∃ v l st, e = .returned v ∧ OwnIv w' W.heap.size v l ∧ l.length = m ∧ EvEnd S.data.toList R' st l ∧ RdT w' g S 0 st ∧ W.grownBy w' (some g)) := fun W h => readEvents_t m hc2 R' st2 hEI W h hb
    have hn0 : Hid (n ≠ 0) := hn
    have hm4 : m ≤ 400 := hc2
    clear hal2 hfin hEI hc1 hn hc2
    go_enter Tryd.func90, Tryd.ntmps90
    go_upto_region 1 with (refine alloc_blk 92 (mvC zMvH) (by rfl) rfl Tryd.mhZero ?_)
    generalize w.alloc (.cells (mvC zMvH) 92) = w1 at *
    go_wp2_with fail
    refine (HA.out _ h1).mono ?_
    rintro e w2 ⟨rfl, rfl⟩
    go_wp2_with fail
    refine (HN.out _ h1).mono ?_
    rintro e w3 ⟨rfl, HR3, g3'⟩
    have HZ3 := HZ.grown g3' hbn
    have G3 := grownBy_trans G0 g3'
    clear HA HN HZ g3' G0 h1 HB
    go_wp2_with fail
    refine (HN2.out _ hp1 HR3).mono ?_
    rintro e w4 ⟨rfl, HR4, g4⟩
    have HZ4 := HZ3.grown g4 hbn
    have G4 := grownBy_trans G3 g4
    clear HN2 HZ3 g4 G3 HR3
    go_wp2_with fail
    refine (HEV.out _ HR4).mono ?_
    rintro e w5 ⟨v, l, st3, rfl, HO5, hlm, hE5, HR5, g5⟩
    have HZ5 := HZ4.grown g5 hbn
    have G5 := grownBy_trans G4 g5
    have hbs : w.heap.size ≤ w4.heap.size := G4.size
    obtain ⟨a, c, rfl, hin⟩ := HO5.inL
    have hx := hF.out l st3 hE5
    clear HEV HZ4 g5 G4 HR4 hE5 hF
    have hHD : Hid (mvC ⟨⟨al, (fi : Nat), l⟩, a, c⟩ = #[.bool al, .int .i64 (fi : Nat), .slice a l.length c]) := rfl
    have HAL := Blk.new w5 92 (mvC zMvH)
    have b56 : Below w5.heap.size w5 (w5.alloc (.cells (mvC zMvH) 92)) := (Below.refl _ _).alloc (Nat.le_refl _) _
    have hOl : l.length ≤ maxLen := by rw [hlm]; unfold maxLen; omega
    clear hlm
    have HIN : Hid (∀ W, Below w5.heap.size w5 W → IvIn W a l) := fun W hb => hin.below hb
    clear hin
    go_upto_region 10 with (first
      | (refine build_blk (t := 92) (mvC ⟨⟨al, (fi : Nat), l⟩, a, c⟩) (by rfl) rfl (by kernel_rfl) ?_)
      | (refine alloc_blk 92 (mvC zMvH) (by rfl) rfl Tryd.mhZero ?_)
      | (refine store_blk (k := 0) 92 (.agg (mvC ⟨⟨al, (fi : Nat), l⟩, a, c⟩)) (mvC ⟨⟨al, (fi : Nat), l⟩, a, c⟩) (by rfl) rfl rfl rfl HAL (by kernel_rfl) (show (3 : Nat) ≤ 3 from Nat.le_refl 3) (by rfl) (st_whole _ _ rfl) ?_; intro w8 HA8 b8 g8))
    have b58 := b56.trans b8
    have HR8 := HR5.below b58
    have HZ8 := HZ5.kept b58
    have HO8 := HO5.kept b58
    have G8 := grown_belowT G5 b58
    have HRT := Lib.hid (mvRight_any ⟨al, (fi : Nat), l⟩ a c w8 (HIN.out _ b58) hOl)
    have hwB : w.heap.size < w5.heap.size := HZ5.lt
    clear HR5 HZ5 HO5 G5 b56 b8 g8 HAL HIN b58 hHD
    generalize w5.heap.size = B8 at *
    have hbn8 : some B8 ≠ some g := by simp; omega
    obtain ⟨hd, hhd⟩ : ∃ hd : MvH, hd = ⟨⟨al, (fi : Nat), l⟩, a, c⟩ := ⟨_, rfl⟩
    have HO8' : OwnIv w8 w4.heap.size (.slice hd.a hd.x.ev.length hd.c) hd.x.ev := by rw [hhd]; exact HO8
    have hx' : (okMv hd.x = true → AtOut S.data.toList R hd.x st3) ∧ (okMv hd.x = false → AtEnd S.data.toList R (flR st3 2 p) ∧ (flR st3 2 p).2.1 ≠ 0) := by rw [hhd]; exact hx
    replace HRT : Hid (Calls Tryd.prog 22 #[.agg (mvC hd)] w8 fun e w' => e = .returned (.bool (okMv hd.x)) ∧ Below w8.heap.size w8 w') := by rw [hhd]; exact HRT.out
    rw [← hhd] at HA8 ⊢
    clear hx HO8 hhd
    have hxx := Lib.hid hx'
    clear hx'
    go_wp2_with (refine load_blk (k := 0) 92 (mvC hd) (by rfl) rfl rfl HA8 (by kernel_rfl) (by kernel_rfl) rfl ?_)
    refine HRT.out.mono ?_
    rintro e w9 ⟨rfl, b9⟩
    have HA9 := HA8.kept b9
    have HR9 := HR8.below b9
    have HZ9 := HZ8.kept b9
    have HO9 := HO8'.kept b9
    have G9 := grown_belowT G8 b9
    clear HA8 HR8 HZ8 HO8' G8 b9 HRT
    cases hk : okMv hd.x with
    | true =>
      have hA := hxx.out.1 hk
      clear hxx hk HF
      by_cases hs0 : st3.2.1 = 0
      · have hAO : AtOut S.data.toList R hd.x st3 ∧ st3.2.1 = 0 := ⟨hA, hs0⟩
        have hAA := Lib.hid hAO
        clear hA hAO
        have hbn11 : some B8 ≠ some w.heap.size := by simp; omega
        go_upto_region 12 with (fail)
        refine wp_region_noPanic ?_
        refine wp_region_held_drew (S := (fun w' => Blk w' B8 92 (mvC hd))) (by kernel_rfl) ?_ (fun hHeld => ?_)
        · exact HA9
        refine wpAnyH_take (i := 0) (v := .agg (mvC hd)) rfl (by kernel_rfl) (by kernel_rfl) (by kernel_rfl) (fun _ _ _ h => h) (Or.inl ⟨by rfl, fun w hSw => exec_load_blk (k := 0) 92 (mvC hd) rfl rfl hSw (by kernel_rfl) (by kernel_rfl) rfl⟩) (by assumption) ?_
        (try simp only [Act.put, List.getElem_toArray, List.getElem_cons_zero, List.getElem_cons_succ, List.setIfInBounds_toArray, List.set_cons_zero, List.set_cons_succ])
        refine wpAnyH_take (i := 1) (v := ?_) rfl (by kernel_rfl) (by kernel_rfl) (by kernel_rfl) (fun _ _ _ h => h) (Or.inl ⟨by rfl, ?_⟩) (by assumption) ?_
        rotate_left
        · (intro w hSw; (try dsimp only at hSw); go_simp; (try with_reducible rfl))
        (try simp only [Act.put, List.getElem_toArray, List.getElem_cons_zero, List.getElem_cons_succ, List.setIfInBounds_toArray, List.set_cons_zero, List.set_cons_succ])
        refine wpAnyH_ready (rs := [2]) (by kernel_rfl) (by simp) ?_
        refine AllReadyH.cons rfl (fun K hK => ?_) AllReadyH.nil
        simp only [List.getElem_toArray, List.getElem_cons_zero, List.getElem_cons_succ]
        go_simp
        go_at_call 47; (with_reducible refine (err_ok _ _ HR9.drew hs0).mono ?_); rintro e w10 ⟨rfl, rfl⟩
        refine hK.out _ _ ?_ (fun hHeld => ?_)
        · exact HA9.drew
        clear hK K
        (try simp only [Act.put, List.getElem_toArray, List.getElem_cons_zero, List.getElem_cons_succ, List.setIfInBounds_toArray, List.set_cons_zero, List.set_cons_succ])
        refine wpAnyH_take (i := 3) (v := .bool true) rfl (by kernel_rfl) (by kernel_rfl) (by kernel_rfl) (fun _ _ _ h => h) (Or.inl ⟨by rfl, fun w hSw => by go_simp⟩) (by assumption) ?_
        (try simp only [Act.put, List.getElem_toArray, List.getElem_cons_zero, List.getElem_cons_succ, List.setIfInBounds_toArray, List.set_cons_zero, List.set_cons_succ])
        refine wpAnyH_ready (rs := [4]) (by kernel_rfl) (by simp) ?_
        refine AllReadyH.cons rfl (fun K hK => ?_) AllReadyH.nil
        simp only [List.getElem_toArray, List.getElem_cons_zero, List.getElem_cons_succ]
        rw [if_pos (by rfl)]
        refine wp_store_op (k := 0) 92 (.agg (mvC hd)) (mvC hd) (by rfl) rfl rfl HZ9.drew (by kernel_rfl) (show (3 : Nat) ≤ 3 from Nat.le_refl 3) (by rfl) (st_whole _ _ rfl) (fun w11 H11 b11 g11 => ?_)
        have HA11 := HA9.drew.grown g11 hbn11
        refine hK.out _ _ ?_ (fun hHeld => ?_)
        · exact HA11
        clear hK K
        (try simp only [Act.put, List.getElem_toArray, List.getElem_cons_zero, List.getElem_cons_succ, List.setIfInBounds_toArray, List.set_cons_zero, List.set_cons_succ])
        refine wpAnyH_take (i := 5) (v := ?_) rfl (by kernel_rfl) (by kernel_rfl) (by kernel_rfl) (fun _ _ _ h => h) (Or.inl ⟨by rfl, ?_⟩) (by assumption) ?_
        rotate_left
        · (intro w hSw; (try dsimp only at hSw); go_simp; (try with_reducible rfl))
        (try simp only [Act.put, List.getElem_toArray, List.getElem_cons_zero, List.getElem_cons_succ, List.setIfInBounds_toArray, List.set_cons_zero, List.set_cons_succ])
        refine wpAnyH_done (by kernel_rfl) ?_ _
        refine NoPanic.normal ?_
        go_wp2
        exact bodyPost_ret (results_blk_tmpA rfl rfl H11 (by kernel_rfl) (by kernel_rfl)) rfl ⟨hd, true, st3, rfl, Or.inl ⟨rfl, hAA.out.1, hAA.out.2, (HO9.drew.other HZ9.drew (by decide) g11).mono hbs⟩, HR9.drew.otherA HZ9.drew g11, grown_own (rdT_drew G9) g11 (Nat.le_refl _)⟩
      · have hAE : AtEnd S.data.toList R st3 := by
          obtain ⟨q1, q2⟩ := hA
          rcases q2 with ⟨q, _, q3⟩ | q2
          · rw [q3] at hs0
            exact absurd rfl hs0
          · exact ⟨q1, Or.inr q2⟩
        have hAA := Lib.hid hAE
        clear hA hAE
        have hbn11 : some B8 ≠ some w.heap.size := by simp; omega
        go_upto_region 12 with (fail)
        refine wp_region_noPanic ?_
        refine wp_region_held_drew (S := (fun w' => Blk w' B8 92 (mvC hd))) (by kernel_rfl) ?_ (fun hHeld => ?_)
        · exact HA9
        refine wpAnyH_take (i := 0) (v := .agg (mvC hd)) rfl (by kernel_rfl) (by kernel_rfl) (by kernel_rfl) (fun _ _ _ h => h) (Or.inl ⟨by rfl, fun w hSw => exec_load_blk (k := 0) 92 (mvC hd) rfl rfl hSw (by kernel_rfl) (by kernel_rfl) rfl⟩) (by assumption) ?_
        (try simp only [Act.put, List.getElem_toArray, List.getElem_cons_zero, List.getElem_cons_succ, List.setIfInBounds_toArray, List.set_cons_zero, List.set_cons_succ])
        refine wpAnyH_take (i := 1) (v := ?_) rfl (by kernel_rfl) (by kernel_rfl) (by kernel_rfl) (fun _ _ _ h => h) (Or.inl ⟨by rfl, ?_⟩) (by assumption) ?_
        rotate_left
        · (intro w hSw; (try dsimp only at hSw); go_simp; (try with_reducible rfl))
        (try simp only [Act.put, List.getElem_toArray, List.getElem_cons_zero, List.getElem_cons_succ, List.setIfInBounds_toArray, List.set_cons_zero, List.set_cons_succ])
        refine wpAnyH_ready (rs := [2]) (by kernel_rfl) (by simp) ?_
        refine AllReadyH.cons rfl (fun K hK => ?_) AllReadyH.nil
        simp only [List.getElem_toArray, List.getElem_cons_zero, List.getElem_cons_succ]
        go_simp
        go_at_call 47; (with_reducible refine (err_t _ _ HR9.drew hs0).mono ?_); rintro e w10 ⟨rfl, hF10, b10⟩; have HA10 := HA9.drew.kept b10; have HZ10 := HZ9.drew.kept b10; have HR10 := HR9.drew.below b10; have G10 := grown_belowT (rdT_drew G9) b10
        refine hK.out _ _ ?_ (fun hHeld => ?_)
        · exact HA10
        clear hK K
        (try simp only [Act.put, List.getElem_toArray, List.getElem_cons_zero, List.getElem_cons_succ, List.setIfInBounds_toArray, List.set_cons_zero, List.set_cons_succ])
        refine wpAnyH_take (i := 3) (v := .bool false) rfl (by kernel_rfl) (by kernel_rfl) (by kernel_rfl) (fun _ _ _ h => h) (Or.inl ⟨by rfl, fun w hSw => by go_simp⟩) (by assumption) ?_
        (try simp only [Act.put, List.getElem_toArray, List.getElem_cons_zero, List.getElem_cons_succ, List.setIfInBounds_toArray, List.set_cons_zero, List.set_cons_succ])
        refine wpAnyH_ready (rs := [4]) (by kernel_rfl) (by simp) ?_
        refine AllReadyH.cons rfl (fun K hK => ?_) AllReadyH.nil
        simp only [List.getElem_toArray, List.getElem_cons_zero, List.getElem_cons_succ]
        rw [if_pos (by rfl)]
        refine wp_store_op (k := 0) 92 (.agg (mvC hd)) (mvC hd) (by rfl) rfl rfl HZ10 (by kernel_rfl) (show (3 : Nat) ≤ 3 from Nat.le_refl 3) (by rfl) (st_whole _ _ rfl) (fun w11 H11 b11 g11 => ?_)
        have HA11 := HA10.grown g11 hbn11
        refine hK.out _ _ ?_ (fun hHeld => ?_)
        · exact HA11
        clear hK K
        (try simp only [Act.put, List.getElem_toArray, List.getElem_cons_zero, List.getElem_cons_succ, List.setIfInBounds_toArray, List.set_cons_zero, List.set_cons_succ])
        refine wpAnyH_take (i := 5) (v := ?_) rfl (by kernel_rfl) (by kernel_rfl) (by kernel_rfl) (fun _ _ _ h => h) (Or.inl ⟨by rfl, ?_⟩) (by assumption) ?_
        rotate_left
        · (intro w hSw; (try dsimp only at hSw); go_simp; (try with_reducible rfl))
        (try simp only [Act.put, List.getElem_toArray, List.getElem_cons_zero, List.getElem_cons_succ, List.setIfInBounds_toArray, List.set_cons_zero, List.set_cons_succ])
        refine wpAnyH_done (by kernel_rfl) ?_ _
        refine NoPanic.normal ?_
        go_wp2
        exact bodyPost_ret (results_blk_tmpA rfl rfl H11 (by kernel_rfl) (by kernel_rfl)) rfl ⟨hd, false, st3, rfl, Or.inr ⟨rfl, hAA.out⟩, HR10.otherA HZ10 g11, grown_own G10 g11 (Nat.le_refl _)⟩
    | false =>
      obtain ⟨hAE, hs0⟩ := hxx.out.2 hk
      have hAA := Lib.hid hAE
      clear hxx hk hAE
      have hbn11 : some B8 ≠ some w.heap.size := by simp; omega
      go_wp2_with fail
      refine (HF.out _ _ HR9).mono ?_
      rintro e wf ⟨rfl, HRf, gf⟩
      have HAf := HA9.grown gf hbn8
      have HZf := HZ9.grown gf hbn
      have Gf := grownBy_trans G9 gf
      clear HA9 HZ9 HR9 G9 gf HF
      generalize flR st3 2 p = st4 at *
      go_upto_region 12 with (fail)
      refine wp_region_noPanic ?_
      refine wp_region_held_drew (S := (fun w' => Blk w' B8 92 (mvC hd))) (by kernel_rfl) ?_ (fun hHeld => ?_)
      · exact HAf
      refine wpAnyH_take (i := 0) (v := .agg (mvC hd)) rfl (by kernel_rfl) (by kernel_rfl) (by kernel_rfl) (fun _ _ _ h => h) (Or.inl ⟨by rfl, fun w hSw => exec_load_blk (k := 0) 92 (mvC hd) rfl rfl hSw (by kernel_rfl) (by kernel_rfl) rfl⟩) (by assumption) ?_
      (try simp only [Act.put, List.getElem_toArray, List.getElem_cons_zero, List.getElem_cons_succ, List.setIfInBounds_toArray, List.set_cons_zero, List.set_cons_succ])
      refine wpAnyH_take (i := 1) (v := ?_) rfl (by kernel_rfl) (by kernel_rfl) (by kernel_rfl) (fun _ _ _ h => h) (Or.inl ⟨by rfl, ?_⟩) (by assumption) ?_
      rotate_left
      · (intro w hSw; (try dsimp only at hSw); go_simp; (try with_reducible rfl))
      (try simp only [Act.put, List.getElem_toArray, List.getElem_cons_zero, List.getElem_cons_succ, List.setIfInBounds_toArray, List.set_cons_zero, List.set_cons_succ])
      refine wpAnyH_ready (rs := [2]) (by kernel_rfl) (by simp) ?_
      refine AllReadyH.cons rfl (fun K hK => ?_) AllReadyH.nil
      simp only [List.getElem_toArray, List.getElem_cons_zero, List.getElem_cons_succ]
      go_simp
      go_at_call 47; (with_reducible refine (err_t _ _ HRf.drew hs0).mono ?_); rintro e w10 ⟨rfl, hF10, b10⟩; have HA10 := HAf.drew.kept b10; have HZ10 := HZf.drew.kept b10; have HR10 := HRf.drew.below b10; have G10 := grown_belowT (rdT_drew Gf) b10
      refine hK.out _ _ ?_ (fun hHeld => ?_)
      · exact HA10
      clear hK K
      (try simp only [Act.put, List.getElem_toArray, List.getElem_cons_zero, List.getElem_cons_succ, List.setIfInBounds_toArray, List.set_cons_zero, List.set_cons_succ])
      refine wpAnyH_take (i := 3) (v := .bool false) rfl (by kernel_rfl) (by kernel_rfl) (by kernel_rfl) (fun _ _ _ h => h) (Or.inl ⟨by rfl, fun w hSw => by go_simp⟩) (by assumption) ?_
      (try simp only [Act.put, List.getElem_toArray, List.getElem_cons_zero, List.getElem_cons_succ, List.setIfInBounds_toArray, List.set_cons_zero, List.set_cons_succ])
      refine wpAnyH_ready (rs := [4]) (by kernel_rfl) (by simp) ?_
      refine AllReadyH.cons rfl (fun K hK => ?_) AllReadyH.nil
      simp only [List.getElem_toArray, List.getElem_cons_zero, List.getElem_cons_succ]
      rw [if_pos (by rfl)]
      refine wp_store_op (k := 0) 92 (.agg (mvC hd)) (mvC hd) (by rfl) rfl rfl HZ10 (by kernel_rfl) (show (3 : Nat) ≤ 3 from Nat.le_refl 3) (by rfl) (st_whole _ _ rfl) (fun w11 H11 b11 g11 => ?_)
      have HA11 := HA10.grown g11 hbn11
      refine hK.out _ _ ?_ (fun hHeld => ?_)
      · exact HA11
      clear hK K
      (try simp only [Act.put, List.getElem_toArray, List.getElem_cons_zero, List.getElem_cons_succ, List.setIfInBounds_toArray, List.set_cons_zero, List.set_cons_succ])
      refine wpAnyH_take (i := 5) (v := ?_) rfl (by kernel_rfl) (by kernel_rfl) (by kernel_rfl) (fun _ _ _ h => h) (Or.inl ⟨by rfl, ?_⟩) (by assumption) ?_
      rotate_left
      · (intro w hSw; (try dsimp only at hSw); go_simp; (try with_reducible rfl))
      (try simp only [Act.put, List.getElem_toArray, List.getElem_cons_zero, List.getElem_cons_succ, List.setIfInBounds_toArray, List.set_cons_zero, List.set_cons_succ])
      refine wpAnyH_done (by kernel_rfl) ?_ _
      refine NoPanic.normal ?_
      go_wp2
      exact bodyPost_ret (results_blk_tmpA rfl rfl H11 (by kernel_rfl) (by kernel_rfl)) rfl ⟨hd, false, st4, rfl, Or.inr ⟨rfl, hAA.out⟩, HR10.otherA HZ10 g11, grown_own G10 g11 (Nat.le_refl _)⟩

end Go.Proofs.YtdjljnpbnhampaaDoor
