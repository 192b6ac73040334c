/- The reference's MvrpWrite at every list. -/
import Derived.Test.YtikjpcnfldkifaaDoorRefMvRight
import Derived.Test.YtikjpcnfldkifaaDoorAttrT
import Derived.Test.YtikjpcnfldkifaaDoorBe2
import Derived.Test.YtikjpcnfldkifaaDoorCaught
import Derived.Deep.RegionHeld3
namespace Go.Proofs.YtikjpcnfldkifaaDoor
open Go.RowKit
attribute [local go_sem ↓] Go.wp_at_zero Go.wp_at_succ
set_option linter.unusedSimpArgs false
set_option linter.unusedVariables false
set_option maxRecDepth 100000

theorem results_tmp_blkM {P : Program} {fn : Func} {tmps : Array Value} {w : World} {a t u B : Nat} {T : TypeId} {X : Array Value} (h : fn.results = #[.tmp u, .cell a t]) (ha : tmps.getD a undef = .pointer (some ⟨B, 0, none⟩)) (hB : Blk w B T X)
    (hu : (match P.underlying t with | some (.struct _) | some (.array _ _) => true | _ => false) = true) (hn : (P.info? t).map (·.size) = some X.size) : (results fn tmps).run P w = .ok (.tuple #[tmps.getD u undef, .agg X]) w := by
  have h1 := run_load_blk (P := P) w B 0 T t X X hB hu hn (by rw [List.drop_zero]; exact List.take_of_length_le (by simp))
  rw [Array.getD_eq_getD_getElem?] at ha
  simp only [results, h]
  simp [ha, asAddr, h1]

def mvZ (l : List Mv) : List UInt8 := [0, 1, 2] ++ attrsW l

theorem mvZ_len (l : List Mv) : (mvZ l).length = 3 + (attrsW l).length := by unfold mvZ; rw [List.length_append]; rfl

/-- Three events as one number, step by step. -/
def vvM (ev : List Int) (q : Nat) : Nat → Int
  | 0 => 0
  | t + 1 => vvM ev q t * 6 + ev.getD (q + t) 0

theorem getD_rg {ev : List Int} (h : ∀ e ∈ ev, 0 ≤ e ∧ e ≤ 5) (i : Nat) : 0 ≤ ev.getD i 0 ∧ ev.getD i 0 ≤ 5 := by
  rw [List.getD_eq_getElem?_getD]
  by_cases hi : i < ev.length
  · rw [List.getElem?_eq_getElem hi]
    exact h _ (List.getElem_mem hi)
  · rw [List.getElem?_eq_none (by omega)]
    decide

theorem vvM_rg {ev : List Int} (h : ∀ e ∈ ev, 0 ≤ e ∧ e ≤ 5) (q t : Nat) (ht : t ≤ 3) : 0 ≤ vvM ev q t ∧ vvM ev q t ≤ 215 ∧ (t ≤ 2 → vvM ev q t ≤ 35) := by
  have g0 := getD_rg h q
  have g1 := getD_rg h (q + 1)
  have g2 := getD_rg h (q + 2)
  have hc : t = 0 ∨ t = 1 ∨ t = 2 ∨ t = 3 := by omega
  rcases hc with rfl | rfl | rfl | rfl <;> simp only [vvM, Nat.add_zero] <;> omega

theorem vvM_g3 {ev : List Int} (h : ∀ e ∈ ev, 0 ≤ e ∧ e ≤ 5) (q : Nat) : (vvM ev q 3).toNat = g3 (ev.getD q 0) (ev.getD (q + 1) 0) (ev.getD (q + 2) 0) := by
  unfold g3
  simp only [vvM, Nat.add_zero]
  congr 1
  omega

theorem few_at (ev : List Int) (j : Nat) (hj : 3 * j < ev.length) : evL (ev.take (3 * (j + 1))) = evL (ev.take (3 * j)) ++ putL (g3 (ev.getD (3 * j) 0) (ev.getD (3 * j + 1) 0) (ev.getD (3 * j + 2) 0)) 1 := by
  have e := evL_step ev j (by omega)
  rw [show 3 * (j + 1) = 3 * j + 3 by omega, e]
  congr 1
  have hm0 : 0 < ((ev.drop (3 * j)).take 3).length := by rw [List.length_take, List.length_drop]; omega
  have hm3 : ((ev.drop (3 * j)).take 3).length ≤ 3 := by rw [List.length_take]; omega
  have hg : ∀ t, t < 3 → ((ev.drop (3 * j)).take 3).getD t 0 = ev.getD (3 * j + t) 0 := fun t ht => by
    rw [List.getD_eq_getElem?_getD, List.getD_eq_getElem?_getD, List.getElem?_take, if_pos ht, List.getElem?_drop]
  rw [evL_few _ hm0 hm3, hg 0 (by decide), hg 1 (by decide), hg 2 (by decide), Nat.add_zero]

theorem beM (x : Int) (n : Nat) (w : World) (hx0 : 0 ≤ x) (hx : x ≤ 9223372036854775807) (h8 : n ≤ 8) :
    Calls Tryd.prog 37 #[.int .i64 x, .int .i64 n] w fun e w' => e = .returned (.string ⟨(putL x.toNat n).toArray⟩) ∧ Below w.heap.size w w' := (be_any x n w hx0 hx h8).mono fun e w' h => h

set_option maxHeartbeats 6400000 in
theorem refMvWrite_some (a : Option Addr) (c : Nat) (hs : List MvH) (m : Nat) (hm : m ≤ hs.length) (hlo : 0 < hs.length) (hhi : ¬ 40 < hs.length) (hok : ∀ (k : Nat) (hk : k < hs.length), k < m → okMv hs[k].x = true) (hr : ∀ (k : Nat) (hk : k < hs.length), i64R hs[k].x.first) (X : List UInt8) (e0 pl : Int)
    (hend : (m = hs.length ∧ X = [0, 1, 2] ++ attrsW (xs hs) ++ [0, 0, 0, 0] ∧ e0 = 0 ∧ pl = -1) ∨ (∃ hk : m < hs.length, okMv hs[m].x = false ∧ X = [] ∧ e0 = 1 ∧ pl = m)) (w : World) (h : MvsIn w a hs) :
    Calls Tryd.prog 12 #[.slice a hs.length c] w fun e w' => e = .returned (.tuple #[.string ⟨X.toArray⟩, .agg (ftC e0 pl)]) ∧ Below w.heap.size w w' := by
  have HZ := Blk.new w 26 (ftC 0 0)
  have B0 : Below w.heap.size w (w.alloc (.cells (ftC 0 0) 26)) := (Below.refl _ _).alloc (Nat.le_refl _) _
  have hw0 : w.heap.size < (w.alloc (.cells (ftC 0 0) 26)).heap.size := HZ.lt
  have HSL : Hid (∀ k, k ≤ m → (attrsW (xs (hs.take k))).length ≤ 138 * k) := fun k hk => by
    have q := attrsW_le (xs (hs.take k)) (fun x hx => by
      obtain ⟨y, hy, rfl⟩ := List.mem_map.1 hx
      obtain ⟨j, hj, rfl⟩ := List.mem_take_iff_getElem.1 hy
      exact hok j (by omega) (by omega))
    rw [xs_len, List.length_take] at q
    omega
  have HOK := Lib.hid hok
  have HRG := Lib.hid hr
  have HT := Lib.hid (attrs_at hs)
  have hI0 := Lib.hid h
  have q40 : decide ((40 : Int) < (hs.length : Int)) = false := decide_eq_false (by omega)
  have q0 : decide ((0 : Int) < (hs.length : Int)) = true := decide_eq_true (by omega)
  clear hok hr h
  go_enter Tryd.func12, Tryd.ntmps12
  go_upto_region 2 with (refine alloc_blk 26 (ftC 0 0) (by rfl) rfl Tryd.ftZero ?_)
  generalize w.alloc (.cells (ftC 0 0) 26) = w1 at *
  go_wp2_with fail
  go_loopw [4, 22] (fun v i wr => ∃ k : Nat, k ≤ m ∧ i = .int .i64 k ∧ v = .string ⟨(mvZ (xs (hs.take k))).toArray⟩ ∧ Blk wr w.heap.size 26 (ftC 0 0) ∧ Below w.heap.size w wr) (fun _ i _ => hs.length - (intOf i).toNat)
  case atStart => exact ⟨0, by omega, rfl, rfl, HZ, B0⟩
  case round =>
    obtain ⟨k, hk, rfl, rfl, HZk, Bk⟩ := hrel
    have hsk := HSL.out k hk
    by_cases hlt : k < hs.length
    · have hIk := hI0.out.below Bk
      obtain ⟨b, lo, rfl, hbl, hat⟩ := hIk.row.at hlt
      have q1 : (k : Int) < (hs.length : Int) := by omega
      have q2 : decide ((k : Int) < (hs.length : Int)) = true := decide_eq_true q1
      have q3 : (0 : Int) ≤ (k : Int) := by omega
      have q4 : IntKind.i64.wrap ((k : Int) + 1) = (k : Int) + 1 := by rw [IntKind.wrap_i64] <;> omega
      have HK := hat k hlt
      have HA4 := Blk.new wr 36 (mvC zMvH)
      have hb4 : Below wr.heap.size wr (wr.alloc (.cells (mvC zMvH) 36)) := (Below.refl _ _).alloc (Nat.le_refl _) _
      have hgz : w.heap.size < wr.heap.size := HZk.lt
      have hsw := Bk.size
      have hmem := List.getElem_mem hlt
      have hev := Lib.hid (hI0.out.ev _ hmem)
      have hrx := Lib.hid (HRG.out k hlt)
      have hHT := Lib.hid (HT.out k hlt)
      have hOK := Lib.hid (fun h => HOK.out k hlt h)
      have hbad : Hid (m = k → okMv hs[k].x = false ∧ X = [] ∧ e0 = 1 ∧ pl = k) := fun e1 => by
        rcases hend with ⟨r1, _⟩ | ⟨hk2, r2, r3, r4, r5⟩
        · omega
        · subst e1
          exact ⟨r2, r3, r4, r5⟩
      generalize hs[k] = x at *
      clear hat hw0 hend HT HOK HRG hmem hIk
      go_upto_region 9 with (first
        | (refine load_cells (B := b) (k := lo + k * 3) 36 (mvC x) (by rfl) rfl rfl HK (by kernel_rfl) (by kernel_rfl) ?_)
        | (refine alloc_blk 36 (mvC zMvH) (by rfl) rfl Tryd.mhZero ?_)
        | (refine store_blk (k := 0) 36 (.agg (mvC x)) (mvC x) (by rfl) rfl rfl rfl HA4 (by kernel_rfl) (show (3 : Nat) ≤ 3 from Nat.le_refl 3) (by rfl) (st_whole _ _ rfl) ?_; intro w5 HA5 b5 g5))
      have b45 := hb4.trans b5
      have HZ5 := HZk.below b45 hgz
      have B5 := Bk.trans (b45.mono hsw)
      have hxv : IvIn w5 x.a x.x.ev := hev.out.1.below B5
      have HR := Lib.hid (attrRight_any x.x x.a x.c w5 hrx.out hxv (Nat.le_trans hev.out.2.1 hev.out.2.2))
      clear HA4 hb4 b5 b45 g5 HK Bk HZk hxv
      generalize wr.heap.size = g at *
      by_cases hkm : k < m
      · have hx := hOK.out hkm
        replace HR : Hid (Calls Tryd.prog 16 #[.agg (mvC x)] w5 fun e w' => e = .returned (.bool true) ∧ Below w5.heap.size w5 w') := by rw [← hx]; exact HR.out
        go_wp2_with (refine load_blk (k := 0) 36 (mvC x) (by rfl) rfl rfl HA5 (by kernel_rfl) (by kernel_rfl) rfl ?_)
        refine HR.out.mono ?_
        rintro e w6 ⟨rfl, b6⟩
        have HA6 := HA5.kept b6
        have HZ6 := HZ5.kept b6
        have B6 := B5.trans (b6.mono B5.size)
        clear HA5 HZ5 B5 b6 HR
        obtain ⟨hfl, hfh⟩ := okMv_first hx
        have hel := okMv_len hx
        have HE5 := Lib.hid (okMv_ev hx)
        have HB2 : Hid (∀ W, Calls Tryd.prog 37 #[.int .i64 x.x.first, .int .i64 2] W fun e w' => e = .returned (.string ⟨(putL x.x.first.toNat 2).toArray⟩) ∧ Below W.heap.size W w') := fun W => beM x.x.first 2 W hfl (by omega) (by decide)
        obtain ⟨z1, hz1⟩ : ∃ z, z = putL (cntMv x.x) 2 ++ putL x.x.first.toNat 2 := ⟨_, rfl⟩
        have zl0 : (mvZ (xs (hs.take k))).length ≤ 6000 := by rw [mvZ_len]; omega
        have p1 : ∀ W, (Op.stringOp .add ⟨(putL (cntMv x.x) 2).toArray⟩ ⟨(putL x.x.first.toNat 2).toArray⟩).run Tryd.prog W = .ok (.string ⟨z1.toArray⟩) W := fun W => by rw [hz1]; exact run_string_add_lists W _ _ (by rw [putL_length]; omega) (by rw [putL_length]; omega)
        have zl1 : z1.length = 4 := by rw [hz1, List.length_append, putL_length, putL_length]
        obtain ⟨z2, hz2⟩ : ∃ z, z = mvZ (xs (hs.take k)) ++ z1 := ⟨_, rfl⟩
        have p2 : ∀ W, (Op.stringOp .add ⟨(mvZ (xs (hs.take k))).toArray⟩ ⟨z1.toArray⟩).run Tryd.prog W = .ok (.string ⟨z2.toArray⟩) W := fun W => by rw [hz2]; exact run_string_add_lists W _ _ (by omega) (by omega)
        have zl2 : z2.length ≤ 6004 := by rw [hz2, List.length_append]; omega
        have HNX : Hid (mvZ (xs (hs.take (k + 1))) = z2 ++ evL x.x.ev) := by
          show _ = _
          unfold mvZ at hz2 ⊢
          rw [hHT.out, hz2, hz1]
          unfold attrW
          simp only [List.append_assoc]
        have hcnt : cntMv x.x ≤ 9000 := by unfold cntMv; split <;> omega
        clear hz1 hz2 hbad hOK hHT hx
        generalize putL x.x.first.toNat 2 = y2 at *
        generalize mvZ (xs (hs.take k)) = z0 at *
        cases hal : x.x.all with
        | false =>
          have CN0 : cntMv x.x = x.x.ev.length := by unfold cntMv; rw [hal]; simp
          have hCN := Lib.hid CN0
          have HB1 : Hid (∀ W, Calls Tryd.prog 37 #[.int .i64 (x.x.ev.length : Int), .int .i64 2] W fun e w' => e = .returned (.string ⟨(putL (cntMv x.x) 2).toArray⟩) ∧ Below W.heap.size W w') := fun W => by
            rw [show (x.x.ev.length : Int) = ((cntMv x.x : Nat) : Int) by omega]
            refine (beM ((cntMv x.x : Nat) : Int) 2 W (by omega) (by omega) (by decide)).mono ?_
            intro e w' h
            exact h
          clear CN0 hCN
          have c0 := HA6.cv 0 (.bool false) (by show some (Value.bool x.x.all) = _; rw [hal])
          have c2 := HA6.cv 2 (.slice x.a x.x.ev.length x.c) rfl
          clear hal
          generalize putL (cntMv x.x) 2 = y1 at *
          go_upto_region 14 with (fail)
          refine wp_region_noPanic ?_
          refine wp_region_held_drew (S := (fun w' => Blk w' g 36 (mvC x))) (by kernel_rfl) ?_ (fun hHeld => ?_)
          · exact HA6.drew
          refine wpAnyH_take (i := 0) (v := ?_) rfl (by kernel_rfl) (by kernel_rfl) (by kernel_rfl) (fun _ _ _ h => h) (Or.inl ⟨by rfl, ?_⟩) (by assumption) ?_
          rotate_left
          · (intro w hSw; (try dsimp only at hSw); go_simp; (try with_reducible rfl))
          (try simp only [Act.put, List.getElem_toArray, List.getElem_cons_zero, List.getElem_cons_succ, List.setIfInBounds_toArray, List.set_cons_zero, List.set_cons_succ])
          refine wpAnyH_take (i := 1) (v := ?_) rfl (by kernel_rfl) (by kernel_rfl) (by kernel_rfl) (fun _ _ _ h => h) (Or.inl ⟨by rfl, ?_⟩) (by assumption) ?_
          rotate_left
          · (intro w hSw; (try dsimp only at hSw); go_simp; (try with_reducible rfl))
          (try simp only [Act.put, List.getElem_toArray, List.getElem_cons_zero, List.getElem_cons_succ, List.setIfInBounds_toArray, List.set_cons_zero, List.set_cons_succ])
          refine wpAnyH_take (i := 3) (v := ?_) rfl (by kernel_rfl) (by kernel_rfl) (by kernel_rfl) (fun _ _ _ h => h) (Or.inl ⟨by rfl, ?_⟩) (by assumption) ?_
          rotate_left
          · (intro w hSw; (try dsimp only at hSw); go_simp; (try with_reducible rfl))
          (try simp only [Act.put, List.getElem_toArray, List.getElem_cons_zero, List.getElem_cons_succ, List.setIfInBounds_toArray, List.set_cons_zero, List.set_cons_succ])
          refine wpAnyH_take (i := 4) (v := .int .i64 x.x.first) rfl (by kernel_rfl) (by kernel_rfl) (by kernel_rfl) (fun _ _ _ h => h) (Or.inl ⟨by rfl, fun w hSw => by have c := hSw.cv 1 (.int .i64 x.x.first) rfl; go_simp⟩) (by assumption) ?_
          (try simp only [Act.put, List.getElem_toArray, List.getElem_cons_zero, List.getElem_cons_succ, List.setIfInBounds_toArray, List.set_cons_zero, List.set_cons_succ])
          refine wpAnyH_ready (rs := [2]) (by kernel_rfl) (by simp) ?_
          refine AllReadyH.cons rfl (fun K hK => ?_) AllReadyH.nil
          simp only [List.getElem_toArray, List.getElem_cons_zero, List.getElem_cons_succ]
          go_simp
          go_at_call 37; (with_reducible refine (HB1.out _).mono ?_); rintro e w7 ⟨rfl, b7⟩; have HA7 := HA6.drew.kept b7; have B7 := B6.drew.trans (b7.mono B6.drew.size)
          refine hK.out _ _ ?_ (fun hHeld => ?_)
          · exact HA7
          clear hK K
          (try simp only [Act.put, List.getElem_toArray, List.getElem_cons_zero, List.getElem_cons_succ, List.setIfInBounds_toArray, List.set_cons_zero, List.set_cons_succ])
          refine wpAnyH_ready (rs := [5]) (by kernel_rfl) (by simp) ?_
          refine AllReadyH.cons rfl (fun K hK => ?_) AllReadyH.nil
          simp only [List.getElem_toArray, List.getElem_cons_zero, List.getElem_cons_succ]
          go_simp
          go_at_call 37; (with_reducible refine (HB2.out _).mono ?_); rintro e w8 ⟨rfl, b8⟩; have HA8 := HA7.kept b8; have B8 := B7.trans (b8.mono B7.size)
          refine hK.out _ _ ?_ (fun hHeld => ?_)
          · exact HA8
          clear hK K
          (try simp only [Act.put, List.getElem_toArray, List.getElem_cons_zero, List.getElem_cons_succ, List.setIfInBounds_toArray, List.set_cons_zero, List.set_cons_succ])
          refine wpAnyH_take (i := 6) (v := .string ⟨z1.toArray⟩) rfl (by kernel_rfl) (by kernel_rfl) (by kernel_rfl) (fun _ _ _ h => h) (Or.inl ⟨by rfl, fun w hSw => by go_simp⟩) (by assumption) ?_
          (try simp only [Act.put, List.getElem_toArray, List.getElem_cons_zero, List.getElem_cons_succ, List.setIfInBounds_toArray, List.set_cons_zero, List.set_cons_succ])
          refine wpAnyH_take (i := 7) (v := .string ⟨z2.toArray⟩) rfl (by kernel_rfl) (by kernel_rfl) (by kernel_rfl) (fun _ _ _ h => h) (Or.inl ⟨by rfl, fun w hSw => by go_simp⟩) (by assumption) ?_
          (try simp only [Act.put, List.getElem_toArray, List.getElem_cons_zero, List.getElem_cons_succ, List.setIfInBounds_toArray, List.set_cons_zero, List.set_cons_succ])
          refine wpAnyH_take (i := 8) (v := ?_) rfl (by kernel_rfl) (by kernel_rfl) (by kernel_rfl) (fun _ _ _ h => h) (Or.inl ⟨by rfl, ?_⟩) (by assumption) ?_
          rotate_left
          · (intro w hSw; (try dsimp only at hSw); go_simp; (try with_reducible rfl))
          (try simp only [Act.put, List.getElem_toArray, List.getElem_cons_zero, List.getElem_cons_succ, List.setIfInBounds_toArray, List.set_cons_zero, List.set_cons_succ])
          refine wpAnyH_done (by kernel_rfl) ?_ _
          refine NoPanic.normal ?_
          have HZ8 := (HZ6.drew.kept b7).kept b8
          clear HA6 HA7 HZ6 B6 B7 b7 b8 HB1 HB2 p1 p2 c0 c2
          obtain ⟨⟨xa, xf, ev⟩, xp, xc⟩ := x
          have HE6 : Hid (∀ e ∈ ev, 0 ≤ e ∧ e ≤ 5) := HE5.out
          have HNX6 : Hid (mvZ (xs (hs.take (k + 1))) = z2 ++ evL ev) := HNX.out
          have hel6 : ev.length ≤ 400 := hel
          have HIV : Hid (IvIn w xp ev) := hev.out.1
          have HA9 : Blk w8 g 36 #[.bool xa, .int .i64 xf, .slice xp ev.length xc] := HA8
          clear HE5 HNX hel hev HA8 hfl hfh
          go_wp2_with fail
          go_loopw [4, 8] (fun v i wr => ∃ j : Nat, 3 * j < ev.length + 3 ∧ i = .int .i64 ((3 * j : Nat) : Int) ∧ v = .string ⟨(z2 ++ evL (ev.take (3 * j))).toArray⟩ ∧ Blk wr g 36 #[.bool xa, .int .i64 xf, .slice xp ev.length xc] ∧ Blk wr w.heap.size 26 (ftC 0 0) ∧ Below w.heap.size w wr) (fun _ i _ => ev.length + 3 - (intOf i).toNat)
          case atStart => exact ⟨0, by omega, rfl, by simp [evL], HA9, HZ8, B8⟩
          case round =>
            clear HA9 HZ8 B8
            obtain ⟨j, hj, rfl, rfl, HA, HZ, Bj⟩ := hrel
            have c2 := HA.cv 2 (.slice xp ev.length xc) rfl
            by_cases hjl : 3 * j < ev.length
            · have hin := HIV.out.below Bj
              obtain ⟨eb, eo, rfl, hel2, het⟩ := hin.at (show 0 < ev.length by omega)
              have r1 : ((3 * j : Nat) : Int) < (ev.length : Int) := by omega
              have r2 : decide (((3 * j : Nat) : Int) < (ev.length : Int)) = true := decide_eq_true r1
              have r4 : IntKind.i64.wrap (((3 * j : Nat) : Int) + 3) = ((3 * (j + 1) : Nat) : Int) := by rw [IntKind.wrap_i64] <;> omega
              have hcell : Hid (∀ t, 3 * j + t < ev.length → wr.cell? ⟨eb, eo + (3 * j + t), none⟩ = some (.int .i64 (ev.getD (3 * j + t) 0))) := fun t ht => by
                have q := het (3 * j + t) ht 0 (.int .i64 ev[3 * j + t]) rfl
                rw [Nat.mul_one, Nat.add_zero] at q
                rw [q, List.getD_eq_getElem?_getD, List.getElem?_eq_getElem ht]
                rfl
              have hnx : Hid (z2 ++ evL (ev.take (3 * (j + 1))) = (z2 ++ evL (ev.take (3 * j))) ++ putL (vvM ev (3 * j) 3).toNat 1) := by
                show _ = _
                rw [few_at ev j hjl, vvM_g3 HE6.out, List.append_assoc]
              have hlk : (z2 ++ evL (ev.take (3 * j))).length ≤ 7000 := by
                rw [List.length_append, evL_len, List.length_take]
                omega
              have hrg := Lib.hid (vvM_rg HE6.out (3 * j))
              have hgd := Lib.hid (getD_rg HE6.out)
              have hj3 : Hid (3 * (j + 1) < ev.length + 3 ∧ 3 * (j + 1) = 3 * j + 3) := ⟨by omega, by omega⟩
              have h215 := hrg.out 3 (by decide)
              have HBX : Hid (∀ W, Calls Tryd.prog 37 #[.int .i64 (vvM ev (3 * j) 3), .int .i64 1] W fun e w' => e = .returned (.string ⟨(putL (vvM ev (3 * j) 3).toNat 1).toArray⟩) ∧ Below W.heap.size W w') := fun W => beM _ 1 W h215.1 (by omega) (by decide)
              obtain ⟨zn, hzn⟩ : ∃ z, z = z2 ++ evL (ev.take (3 * (j + 1))) := ⟨_, rfl⟩
              have pn : ∀ W, (Op.stringOp .add ⟨(z2 ++ evL (ev.take (3 * j))).toArray⟩ ⟨(putL (vvM ev (3 * j) 3).toNat 1).toArray⟩).run Tryd.prog W = .ok (.string ⟨zn.toArray⟩) W := fun W => by rw [hzn, hnx.out]; exact run_string_add_lists W _ _ (by omega) (by rw [putL_length]; omega)
              have HZN : Hid (z2 ++ evL (ev.take (3 * (j + 1))) = zn) := hzn.symm
              clear hzn hnx hlk het hin h215
              generalize z2 ++ evL (ev.take (3 * j)) = zk at *
              generalize putL (vvM ev (3 * j) 3).toNat 1 = yk at *
              have hq : Hid (3 * j = 3 * j) := rfl
              generalize 3 * j = q at *
              generalize wr = wo at *
              go_wp2_with fail
              go_loopw [9, 54] (fun v i wr => ∃ t : Nat, t ≤ 3 ∧ i = .int .i64 t ∧ v = .int .i64 (vvM ev q t) ∧ wr = wo) (fun _ i _ => 3 - (intOf i).toNat)
              case atStart => exact ⟨0, by omega, rfl, rfl, rfl⟩
              case round =>
                obtain ⟨t, ht, rfl, rfl, hw⟩ := hrel
                subst hw
                by_cases ht3 : t < 3
                · have s1 : (t : Int) < 3 := by omega
                  have s2 : decide ((t : Int) < 3) = true := decide_eq_true s1
                  have s3 : (0 : Int) ≤ (t : Int) := by omega
                  have s4 : IntKind.i64.wrap ((t : Int) + 1) = (t : Int) + 1 := by rw [IntKind.wrap_i64] <;> omega
                  have v1 := hrg.out t ht
                  have v2 := hgd.out (q + t)
                  have hvn : Hid (vvM ev q (t + 1) = vvM ev q t * 6 + ev.getD (q + t) 0) := rfl
                  have hcl := Lib.hid (hcell.out t)
                  have hz0 : Hid (¬ q + t < ev.length → ev.getD (q + t) 0 = 0) := fun hn => by rw [List.getD_eq_getElem?_getD, List.getElem?_eq_none (by omega)]; rfl
                  have v3 : vvM ev q t ≤ 35 := v1.2.2 (by omega)
                  have s5 : IntKind.i64.wrap (vvM ev q t * 6) = vvM ev q t * 6 := by rw [IntKind.wrap_i64] <;> omega
                  have s6 : IntKind.i64.wrap (vvM ev q t * 6 + ev.getD (q + t) 0) = vvM ev q t * 6 + ev.getD (q + t) 0 := by rw [IntKind.wrap_i64] <;> omega
                  have s7 : IntKind.i64.wrap ((q : Int) + (t : Int)) = ((q + t : Nat) : Int) := by rw [IntKind.wrap_i64] <;> omega
                  clear v1 v2 v3 hcell hrg hgd
                  generalize vvM ev q t = V at *
                  generalize ev.getD (q + t) 0 = E at *
                  generalize hQT : q + t = qt at *
                  clear hQT
                  by_cases hin2 : qt < ev.length
                  · have s8 : decide ((qt : Int) < (ev.length : Int)) = true := decide_eq_true (by omega)
                    have s9 : (qt : Int) < (ev.length : Int) := by omega
                    have s10 : (0 : Int) ≤ (qt : Int) := by omega
                    have c5 := hcl.out hin2
                    go_wp2
                    go_roundw
                    case rel => exact ⟨t + 1, by omega, by go_num, by rw [hvn.out], by first | rfl | trivial⟩
                    case measure => simp [intOf]; omega
                  · have s8 : decide ((qt : Int) < (ev.length : Int)) = false := decide_eq_false (by omega)
                    have s9 : ¬ (qt : Int) < (ev.length : Int) := by omega
                    obtain rfl := hz0.out hin2
                    go_wp2
                    go_roundw
                    case rel => exact ⟨t + 1, by omega, by go_num, by rw [hvn.out, Int.add_zero], by first | rfl | trivial⟩
                    case measure => simp [intOf]; omega
                · obtain rfl : t = 3 := by omega
                  clear hcell hrg hgd
                  generalize vvM ev q 3 = V at *
                  go_wp2_with fail
                  refine (HBX.out _).mono ?_
                  rintro e w10 ⟨rfl, b10⟩
                  have HA10 := HA.kept b10
                  have HZ10 := HZ.kept b10
                  have B10 := Bj.trans (b10.mono Bj.size)
                  go_wp2
                  go_roundw
                  case rel => exact ⟨j + 1, hj3.out.1, by first | go_num | rfl, by rw [HZN.out], HA10, HZ10, B10⟩
                  case measure => (have e1 := hj3.out); simp [intOf]; omega
            · have hjn : Hid (ev.take (3 * j) = ev) := List.take_of_length_le (by omega)
              have r2 : decide (((3 * j : Nat) : Int) < (ev.length : Int)) = false := decide_eq_false (by omega)
              rw [hjn.out, ← HNX6.out]
              generalize 3 * j = q at *
              go_wp2_with fail
              go_roundw
              case rel => exact ⟨k + 1, by omega, by go_num, rfl, HZ, Bj⟩
              case measure => simp [intOf]; omega
        | true =>
          have CN0 : cntMv x.x = x.x.ev.length + 8192 := by unfold cntMv; rw [hal]; simp
          have hCN := Lib.hid CN0
          have HB1 : Hid (∀ W, Calls Tryd.prog 37 #[.int .i64 ((x.x.ev.length : Int) + 8192), .int .i64 2] W fun e w' => e = .returned (.string ⟨(putL (cntMv x.x) 2).toArray⟩) ∧ Below W.heap.size W w') := fun W => by
            rw [show ((x.x.ev.length : Int) + 8192) = ((cntMv x.x : Nat) : Int) by omega]
            refine (beM ((cntMv x.x : Nat) : Int) 2 W (by omega) (by omega) (by decide)).mono ?_
            intro e w' h
            exact h
          have m1 : IntKind.i64.wrap ((x.x.ev.length : Int) + 8192) = (x.x.ev.length : Int) + 8192 := by rw [IntKind.wrap_i64] <;> omega
          clear CN0 hCN
          have c0 := HA6.cv 0 (.bool true) (by show some (Value.bool x.x.all) = _; rw [hal])
          have c2 := HA6.cv 2 (.slice x.a x.x.ev.length x.c) rfl
          clear hal
          generalize putL (cntMv x.x) 2 = y1 at *
          go_upto_region 14 with (fail)
          refine wp_region_noPanic ?_
          refine wp_region_held_drew (S := (fun w' => Blk w' g 36 (mvC x))) (by kernel_rfl) ?_ (fun hHeld => ?_)
          · exact HA6.drew
          refine wpAnyH_take (i := 0) (v := ?_) rfl (by kernel_rfl) (by kernel_rfl) (by kernel_rfl) (fun _ _ _ h => h) (Or.inl ⟨by rfl, ?_⟩) (by assumption) ?_
          rotate_left
          · (intro w hSw; (try dsimp only at hSw); go_simp; (try with_reducible rfl))
          (try simp only [Act.put, List.getElem_toArray, List.getElem_cons_zero, List.getElem_cons_succ, List.setIfInBounds_toArray, List.set_cons_zero, List.set_cons_succ])
          refine wpAnyH_take (i := 1) (v := ?_) rfl (by kernel_rfl) (by kernel_rfl) (by kernel_rfl) (fun _ _ _ h => h) (Or.inl ⟨by rfl, ?_⟩) (by assumption) ?_
          rotate_left
          · (intro w hSw; (try dsimp only at hSw); go_simp; (try with_reducible rfl))
          (try simp only [Act.put, List.getElem_toArray, List.getElem_cons_zero, List.getElem_cons_succ, List.setIfInBounds_toArray, List.set_cons_zero, List.set_cons_succ])
          refine wpAnyH_take (i := 3) (v := ?_) rfl (by kernel_rfl) (by kernel_rfl) (by kernel_rfl) (fun _ _ _ h => h) (Or.inl ⟨by rfl, ?_⟩) (by assumption) ?_
          rotate_left
          · (intro w hSw; (try dsimp only at hSw); go_simp; (try with_reducible rfl))
          (try simp only [Act.put, List.getElem_toArray, List.getElem_cons_zero, List.getElem_cons_succ, List.setIfInBounds_toArray, List.set_cons_zero, List.set_cons_succ])
          refine wpAnyH_take (i := 4) (v := .int .i64 x.x.first) rfl (by kernel_rfl) (by kernel_rfl) (by kernel_rfl) (fun _ _ _ h => h) (Or.inl ⟨by rfl, fun w hSw => by have c := hSw.cv 1 (.int .i64 x.x.first) rfl; go_simp⟩) (by assumption) ?_
          (try simp only [Act.put, List.getElem_toArray, List.getElem_cons_zero, List.getElem_cons_succ, List.setIfInBounds_toArray, List.set_cons_zero, List.set_cons_succ])
          refine wpAnyH_ready (rs := [2]) (by kernel_rfl) (by simp) ?_
          refine AllReadyH.cons rfl (fun K hK => ?_) AllReadyH.nil
          simp only [List.getElem_toArray, List.getElem_cons_zero, List.getElem_cons_succ]
          go_simp
          go_at_call 37; (with_reducible refine (HB1.out _).mono ?_); rintro e w7 ⟨rfl, b7⟩; have HA7 := HA6.drew.kept b7; have B7 := B6.drew.trans (b7.mono B6.drew.size)
          refine hK.out _ _ ?_ (fun hHeld => ?_)
          · exact HA7
          clear hK K
          (try simp only [Act.put, List.getElem_toArray, List.getElem_cons_zero, List.getElem_cons_succ, List.setIfInBounds_toArray, List.set_cons_zero, List.set_cons_succ])
          refine wpAnyH_ready (rs := [5]) (by kernel_rfl) (by simp) ?_
          refine AllReadyH.cons rfl (fun K hK => ?_) AllReadyH.nil
          simp only [List.getElem_toArray, List.getElem_cons_zero, List.getElem_cons_succ]
          go_simp
          go_at_call 37; (with_reducible refine (HB2.out _).mono ?_); rintro e w8 ⟨rfl, b8⟩; have HA8 := HA7.kept b8; have B8 := B7.trans (b8.mono B7.size)
          refine hK.out _ _ ?_ (fun hHeld => ?_)
          · exact HA8
          clear hK K
          (try simp only [Act.put, List.getElem_toArray, List.getElem_cons_zero, List.getElem_cons_succ, List.setIfInBounds_toArray, List.set_cons_zero, List.set_cons_succ])
          refine wpAnyH_take (i := 6) (v := .string ⟨z1.toArray⟩) rfl (by kernel_rfl) (by kernel_rfl) (by kernel_rfl) (fun _ _ _ h => h) (Or.inl ⟨by rfl, fun w hSw => by go_simp⟩) (by assumption) ?_
          (try simp only [Act.put, List.getElem_toArray, List.getElem_cons_zero, List.getElem_cons_succ, List.setIfInBounds_toArray, List.set_cons_zero, List.set_cons_succ])
          refine wpAnyH_take (i := 7) (v := .string ⟨z2.toArray⟩) rfl (by kernel_rfl) (by kernel_rfl) (by kernel_rfl) (fun _ _ _ h => h) (Or.inl ⟨by rfl, fun w hSw => by go_simp⟩) (by assumption) ?_
          (try simp only [Act.put, List.getElem_toArray, List.getElem_cons_zero, List.getElem_cons_succ, List.setIfInBounds_toArray, List.set_cons_zero, List.set_cons_succ])
          refine wpAnyH_take (i := 8) (v := ?_) rfl (by kernel_rfl) (by kernel_rfl) (by kernel_rfl) (fun _ _ _ h => h) (Or.inl ⟨by rfl, ?_⟩) (by assumption) ?_
          rotate_left
          · (intro w hSw; (try dsimp only at hSw); go_simp; (try with_reducible rfl))
          (try simp only [Act.put, List.getElem_toArray, List.getElem_cons_zero, List.getElem_cons_succ, List.setIfInBounds_toArray, List.set_cons_zero, List.set_cons_succ])
          refine wpAnyH_done (by kernel_rfl) ?_ _
          refine NoPanic.normal ?_
          have HZ8 := (HZ6.drew.kept b7).kept b8
          clear HA6 HA7 HZ6 B6 B7 b7 b8 HB1 HB2 p1 p2 c0 c2
          obtain ⟨⟨xa, xf, ev⟩, xp, xc⟩ := x
          have HE6 : Hid (∀ e ∈ ev, 0 ≤ e ∧ e ≤ 5) := HE5.out
          have HNX6 : Hid (mvZ (xs (hs.take (k + 1))) = z2 ++ evL ev) := HNX.out
          have hel6 : ev.length ≤ 400 := hel
          have HIV : Hid (IvIn w xp ev) := hev.out.1
          have HA9 : Blk w8 g 36 #[.bool xa, .int .i64 xf, .slice xp ev.length xc] := HA8
          clear HE5 HNX hel hev HA8 hfl hfh
          go_wp2_with fail
          go_loopw [4, 8] (fun v i wr => ∃ j : Nat, 3 * j < ev.length + 3 ∧ i = .int .i64 ((3 * j : Nat) : Int) ∧ v = .string ⟨(z2 ++ evL (ev.take (3 * j))).toArray⟩ ∧ Blk wr g 36 #[.bool xa, .int .i64 xf, .slice xp ev.length xc] ∧ Blk wr w.heap.size 26 (ftC 0 0) ∧ Below w.heap.size w wr) (fun _ i _ => ev.length + 3 - (intOf i).toNat)
          case atStart => exact ⟨0, by omega, rfl, by simp [evL], HA9, HZ8, B8⟩
          case round =>
            clear HA9 HZ8 B8
            obtain ⟨j, hj, rfl, rfl, HA, HZ, Bj⟩ := hrel
            have c2 := HA.cv 2 (.slice xp ev.length xc) rfl
            by_cases hjl : 3 * j < ev.length
            · have hin := HIV.out.below Bj
              obtain ⟨eb, eo, rfl, hel2, het⟩ := hin.at (show 0 < ev.length by omega)
              have r1 : ((3 * j : Nat) : Int) < (ev.length : Int) := by omega
              have r2 : decide (((3 * j : Nat) : Int) < (ev.length : Int)) = true := decide_eq_true r1
              have r4 : IntKind.i64.wrap (((3 * j : Nat) : Int) + 3) = ((3 * (j + 1) : Nat) : Int) := by rw [IntKind.wrap_i64] <;> omega
              have hcell : Hid (∀ t, 3 * j + t < ev.length → wr.cell? ⟨eb, eo + (3 * j + t), none⟩ = some (.int .i64 (ev.getD (3 * j + t) 0))) := fun t ht => by
                have q := het (3 * j + t) ht 0 (.int .i64 ev[3 * j + t]) rfl
                rw [Nat.mul_one, Nat.add_zero] at q
                rw [q, List.getD_eq_getElem?_getD, List.getElem?_eq_getElem ht]
                rfl
              have hnx : Hid (z2 ++ evL (ev.take (3 * (j + 1))) = (z2 ++ evL (ev.take (3 * j))) ++ putL (vvM ev (3 * j) 3).toNat 1) := by
                show _ = _
                rw [few_at ev j hjl, vvM_g3 HE6.out, List.append_assoc]
              have hlk : (z2 ++ evL (ev.take (3 * j))).length ≤ 7000 := by
                rw [List.length_append, evL_len, List.length_take]
                omega
              have hrg := Lib.hid (vvM_rg HE6.out (3 * j))
              have hgd := Lib.hid (getD_rg HE6.out)
              have hj3 : Hid (3 * (j + 1) < ev.length + 3 ∧ 3 * (j + 1) = 3 * j + 3) := ⟨by omega, by omega⟩
              have h215 := hrg.out 3 (by decide)
              have HBX : Hid (∀ W, Calls Tryd.prog 37 #[.int .i64 (vvM ev (3 * j) 3), .int .i64 1] W fun e w' => e = .returned (.string ⟨(putL (vvM ev (3 * j) 3).toNat 1).toArray⟩) ∧ Below W.heap.size W w') := fun W => beM _ 1 W h215.1 (by omega) (by decide)
              obtain ⟨zn, hzn⟩ : ∃ z, z = z2 ++ evL (ev.take (3 * (j + 1))) := ⟨_, rfl⟩
              have pn : ∀ W, (Op.stringOp .add ⟨(z2 ++ evL (ev.take (3 * j))).toArray⟩ ⟨(putL (vvM ev (3 * j) 3).toNat 1).toArray⟩).run Tryd.prog W = .ok (.string ⟨zn.toArray⟩) W := fun W => by rw [hzn, hnx.out]; exact run_string_add_lists W _ _ (by omega) (by rw [putL_length]; omega)
              have HZN : Hid (z2 ++ evL (ev.take (3 * (j + 1))) = zn) := hzn.symm
              clear hzn hnx hlk het hin h215
              generalize z2 ++ evL (ev.take (3 * j)) = zk at *
              generalize putL (vvM ev (3 * j) 3).toNat 1 = yk at *
              have hq : Hid (3 * j = 3 * j) := rfl
              generalize 3 * j = q at *
              generalize wr = wo at *
              go_wp2_with fail
              go_loopw [9, 54] (fun v i wr => ∃ t : Nat, t ≤ 3 ∧ i = .int .i64 t ∧ v = .int .i64 (vvM ev q t) ∧ wr = wo) (fun _ i _ => 3 - (intOf i).toNat)
              case atStart => exact ⟨0, by omega, rfl, rfl, rfl⟩
              case round =>
                obtain ⟨t, ht, rfl, rfl, hw⟩ := hrel
                subst hw
                by_cases ht3 : t < 3
                · have s1 : (t : Int) < 3 := by omega
                  have s2 : decide ((t : Int) < 3) = true := decide_eq_true s1
                  have s3 : (0 : Int) ≤ (t : Int) := by omega
                  have s4 : IntKind.i64.wrap ((t : Int) + 1) = (t : Int) + 1 := by rw [IntKind.wrap_i64] <;> omega
                  have v1 := hrg.out t ht
                  have v2 := hgd.out (q + t)
                  have hvn : Hid (vvM ev q (t + 1) = vvM ev q t * 6 + ev.getD (q + t) 0) := rfl
                  have hcl := Lib.hid (hcell.out t)
                  have hz0 : Hid (¬ q + t < ev.length → ev.getD (q + t) 0 = 0) := fun hn => by rw [List.getD_eq_getElem?_getD, List.getElem?_eq_none (by omega)]; rfl
                  have v3 : vvM ev q t ≤ 35 := v1.2.2 (by omega)
                  have s5 : IntKind.i64.wrap (vvM ev q t * 6) = vvM ev q t * 6 := by rw [IntKind.wrap_i64] <;> omega
                  have s6 : IntKind.i64.wrap (vvM ev q t * 6 + ev.getD (q + t) 0) = vvM ev q t * 6 + ev.getD (q + t) 0 := by rw [IntKind.wrap_i64] <;> omega
                  have s7 : IntKind.i64.wrap ((q : Int) + (t : Int)) = ((q + t : Nat) : Int) := by rw [IntKind.wrap_i64] <;> omega
                  clear v1 v2 v3 hcell hrg hgd
                  generalize vvM ev q t = V at *
                  generalize ev.getD (q + t) 0 = E at *
                  generalize hQT : q + t = qt at *
                  clear hQT
                  by_cases hin2 : qt < ev.length
                  · have s8 : decide ((qt : Int) < (ev.length : Int)) = true := decide_eq_true (by omega)
                    have s9 : (qt : Int) < (ev.length : Int) := by omega
                    have s10 : (0 : Int) ≤ (qt : Int) := by omega
                    have c5 := hcl.out hin2
                    go_wp2
                    go_roundw
                    case rel => exact ⟨t + 1, by omega, by go_num, by rw [hvn.out], by first | rfl | trivial⟩
                    case measure => simp [intOf]; omega
                  · have s8 : decide ((qt : Int) < (ev.length : Int)) = false := decide_eq_false (by omega)
                    have s9 : ¬ (qt : Int) < (ev.length : Int) := by omega
                    obtain rfl := hz0.out hin2
                    go_wp2
                    go_roundw
                    case rel => exact ⟨t + 1, by omega, by go_num, by rw [hvn.out, Int.add_zero], by first | rfl | trivial⟩
                    case measure => simp [intOf]; omega
                · obtain rfl : t = 3 := by omega
                  clear hcell hrg hgd
                  generalize vvM ev q 3 = V at *
                  go_wp2_with fail
                  refine (HBX.out _).mono ?_
                  rintro e w10 ⟨rfl, b10⟩
                  have HA10 := HA.kept b10
                  have HZ10 := HZ.kept b10
                  have B10 := Bj.trans (b10.mono Bj.size)
                  go_wp2
                  go_roundw
                  case rel => exact ⟨j + 1, hj3.out.1, by first | go_num | rfl, by rw [HZN.out], HA10, HZ10, B10⟩
                  case measure => (have e1 := hj3.out); simp [intOf]; omega
            · have hjn : Hid (ev.take (3 * j) = ev) := List.take_of_length_le (by omega)
              have r2 : decide (((3 * j : Nat) : Int) < (ev.length : Int)) = false := decide_eq_false (by omega)
              rw [hjn.out, ← HNX6.out]
              generalize 3 * j = q at *
              go_wp2_with fail
              go_roundw
              case rel => exact ⟨k + 1, by omega, by go_num, rfl, HZ, Bj⟩
              case measure => simp [intOf]; omega
      · obtain rfl : k = m := by omega
        obtain ⟨hx, rfl, rfl, rfl⟩ := hbad.out rfl
        replace HR : Hid (Calls Tryd.prog 16 #[.agg (mvC x)] w5 fun e w' => e = .returned (.bool false) ∧ Below w5.heap.size w5 w') := by rw [← hx]; exact HR.out
        clear hbad hOK hHT hx
        go_wp2_with (refine load_blk (k := 0) 36 (mvC x) (by rfl) rfl rfl HA5 (by kernel_rfl) (by kernel_rfl) rfl ?_)
        refine HR.out.mono ?_
        rintro e w6 ⟨rfl, b6⟩
        have HZ6 := HZ5.kept b6
        have B6 := B5.trans (b6.mono B5.size)
        go_wp2_with (first
          | (refine build_blk (t := 26) (ftC 1 k) (by rfl) rfl (by kernel_rfl) ?_)
          | (refine store_blk (k := 0) 26 (.agg (ftC 1 k)) (ftC 1 k) (by rfl) rfl rfl rfl HZ6 (by kernel_rfl) (by exact Nat.le_refl 2) rfl rfl (fun w7 H7 b7 g7 => ?_)))
        exact bodyPost_ret (results_tmp_blkM rfl rfl H7 (by kernel_rfl) (by kernel_rfl)) rfl ⟨rfl, B6.trans (b7.mono (Nat.le_refl _))⟩
    · obtain rfl : k = hs.length := by omega
      obtain rfl : m = hs.length := by omega
      have q2 : decide ((hs.length : Int) < (hs.length : Int)) = false := decide_eq_false (by omega)
      obtain ⟨hX, rfl, rfl⟩ : X = [0, 1, 2] ++ attrsW (xs hs) ++ [0, 0, 0, 0] ∧ e0 = 0 ∧ pl = -1 := by
        rcases hend with ⟨_, r1, r2, r3⟩ | ⟨hk2, _⟩
        · exact ⟨r1, r2, r3⟩
        · omega
      rw [List.take_length] at hsk ⊢
      have hyl : (mvZ (xs hs)).length ≤ 3 + 138 * hs.length := by rw [mvZ_len]; omega
      obtain ⟨z1, hz1⟩ : ∃ z : List UInt8, z = mvZ (xs hs) ++ [0, 0] := ⟨_, rfl⟩
      have zl : z1.length ≤ 5 + 138 * hs.length := by rw [hz1, List.length_append]; show _ + 2 ≤ _; omega
      have p1 : ∀ W, (Op.stringOp .add ⟨(mvZ (xs hs)).toArray⟩ ⟨#[0, 0]⟩).run Tryd.prog W = .ok (.string ⟨z1.toArray⟩) W := fun W => by rw [hz1]; exact run_string_add_lists W (mvZ (xs hs)) [0, 0] (by omega) (by decide)
      have p2 : ∀ W, (Op.stringOp .add ⟨z1.toArray⟩ ⟨#[0, 0]⟩).run Tryd.prog W = .ok (.string ⟨X.toArray⟩) W := fun W => by
        rw [hX, show [0, 1, 2] ++ attrsW (xs hs) ++ [0, 0, 0, 0] = z1 ++ [0, 0] by rw [hz1, List.append_assoc (mvZ (xs hs))]; rfl]
        exact run_string_add_lists W z1 [0, 0] (by omega) (by decide)
      clear hz1 hyl zl hX hend hsk HSL HOK HRG HT
      generalize mvZ (xs hs) = z0 at *
      go_wp2_with fail
      refine (good_any _).mono ?_
      rintro e w6 ⟨rfl, b6⟩
      have HZ6 := HZk.kept b6
      have B6 := Bk.trans (b6.mono Bk.size)
      go_wp2_with (refine store_blk (k := 0) 26 (.agg (ftC 0 (-1))) (ftC 0 (-1)) (by rfl) rfl rfl rfl HZ6 (by kernel_rfl) (by exact Nat.le_refl 2) rfl rfl (fun w7 H7 b7 g7 => ?_))
      exact bodyPost_ret (results_tmp_blkM rfl rfl H7 (by kernel_rfl) (by kernel_rfl)) rfl ⟨rfl, B6.trans (b7.mono (Nat.le_refl _))⟩

end Go.Proofs.YtikjpcnfldkifaaDoor
