/- The reference's TlvWrite at every list. -/
import Derived.Test.YticjmjoiggnblaaDoorTlRight
import Derived.Test.YticjmjoiggnblaaDoorOpenTl
import Derived.Test.YticjmjoiggnblaaDoorBe2
import Derived.Test.YticjmjoiggnblaaDoorCaught
import Derived.Deep.RegionHeld3
namespace Go.Proofs.YticjmjoiggnblaaDoor
open Go.RowKit
attribute [local go_sem ↓] Go.wp_at_zero Go.wp_at_succ
set_option linter.unusedSimpArgs false
set_option linter.unusedVariables false
set_option maxRecDepth 100000

theorem results_tmp_blk {P : Program} {fn : Func} {tmps : Array Value} {w : World} {a t u B : Nat} {T : TypeId} {X : Array Value} (h : fn.results = #[.tmp u, .cell a t]) (ha : tmps.getD a undef = .pointer (some ⟨B, 0, none⟩)) (hB : Blk w B T X)
    (hu : (match P.underlying t with | some (.struct _) | some (.array _ _) => true | _ => false) = true) (hn : (P.info? t).map (·.size) = some X.size) : (results fn tmps).run P w = .ok (.tuple #[tmps.getD u undef, .agg X]) w := by
  have h1 := run_load_blk (P := P) w B 0 T t X X hB hu hn (by rw [List.drop_zero]; exact List.take_of_length_le (by simp))
  rw [Array.getD_eq_getD_getElem?] at ha
  simp only [results, h]
  simp [ha, asAddr, h1]
theorem be2_any (x : Int) (w : World) (hx0 : 0 ≤ x) (hx : x < 65536) :
    Calls Tryd.prog 35 #[.int .i64 x, .int .i64 2] w fun e w' => e = .returned (.string ⟨(putL x.toNat 2).toArray⟩) ∧ Below w.heap.size w w' := by
  refine (be_any x 2 w hx0 (by omega) (by decide)).mono ?_
  intro e w' h
  exact h

set_option maxHeartbeats 3200000 in
theorem refTlWrite_any (a : Option Addr) (c : Nat) (l : List Tl) (m : Nat) (hm : m ≤ l.length) (hok : ∀ x ∈ l.take m, okTl x = true) (hlen : l.length ≤ 1000) (X : List UInt8) (e0 pl : Int) (hend : (m = l.length ∧ X = tlWrite l ∧ e0 = 0 ∧ pl = -1) ∨ (∃ hk : m < l.length, okTl l[m] = false ∧ X = [] ∧ e0 = 1 ∧ pl = m)) (w : World) (h : TlIn w a l) :
    Calls Tryd.prog 11 #[.slice a l.length c] w fun e w' => e = .returned (.tuple #[.string ⟨X.toArray⟩, .agg (ftC e0 pl)]) ∧ Below w.heap.size w w' := by
  have HZ := Blk.new w 27 (ftC 0 0)
  have B0 : Below w.heap.size w (w.alloc (.cells (ftC 0 0) 27)) := (Below.refl _ _).alloc (Nat.le_refl _) _
  have hI := h.below B0
  have hw0 : w.heap.size < (w.alloc (.cells (ftC 0 0) 27)).heap.size := HZ.lt
  have HSL : Hid (∀ k, k ≤ m → (tlWs (l.take k)).length ≤ 513 * k) := fun k hk => by
    have q := tlWs_le (l.take k) (fun x hx => hok x (by
      rw [show k = min k m by omega, ← List.take_take] at hx
      exact List.mem_of_mem_take hx))
    have q2 := List.length_take_le k l
    omega
  have HOK : Hid (∀ (k : Nat) (hk : k < l.length), k < m → okTl l[k] = true) := fun k hk hkm => hok _ (by
    rw [List.mem_iff_getElem]
    exact ⟨k, by rw [List.length_take]; omega, by rw [List.getElem_take]⟩)
  have HT := Lib.hid (tlWs_take l)
  clear h hok
  go_enter Tryd.func11, Tryd.ntmps11
  go_upto_region 2 with (refine alloc_blk 27 (ftC 0 0) (by rfl) rfl Tryd.ftZero ?_)
  generalize w.alloc (.cells (ftC 0 0) 27) = w1 at *
  go_wp2_with fail
  go_loopw [4, 9] (fun v i wr => ∃ k : Nat, k ≤ m ∧ i = .int .i64 k ∧ v = .string ⟨(tlWs (l.take k)).toArray⟩ ∧ TlIn wr a l ∧ Blk wr w.heap.size 27 (ftC 0 0) ∧ Below w.heap.size w wr) (fun _ i _ => l.length - (intOf i).toNat)
  case atStart => exact ⟨0, by omega, rfl, by rw [List.take_zero]; rfl, hI, HZ, B0⟩
  case round =>
    obtain ⟨k, hk, rfl, rfl, hIk, HZk, Bk⟩ := hrel
    have hsk := HSL.out k hk
    by_cases hlt : k < l.length
    · obtain ⟨b, lo, rfl, hbl, hat⟩ := hIk.at hlt
      have q1 : (k : Int) < (l.length : Int) := by omega
      have q2 : decide ((k : Int) < (l.length : Int)) = true := decide_eq_true q1
      have q3 : (0 : Int) ≤ (k : Int) := by omega
      have HK := hat k hlt
      have HA4 := Blk.new wr 24 (tlC zTl)
      have B4 := Bk.alloc Bk.size (.cells (tlC zTl) 24)
      have hb4 : Below wr.heap.size wr (wr.alloc (.cells (tlC zTl) 24)) := (Below.refl _ _).alloc (Nat.le_refl _) _
      have hI4 := hIk.below hb4
      have HZ4 := HZk.kept hb4
      have hgz : w.heap.size < wr.heap.size := HZk.lt
      have hsw := Bk.size
      have HR := Lib.hid (refTlRight_any l[k])
      have hHT := Lib.hid (HT.out k hlt)
      have hOK := Lib.hid (fun h => HOK.out k hlt h)
      have hbad : Hid (m = k → okTl l[k] = false ∧ X = [] ∧ e0 = 1 ∧ pl = k) := fun e1 => by
        rcases hend with ⟨r1, _⟩ | ⟨hk2, r2, r3, r4, r5⟩
        · omega
        · subst e1
          exact ⟨r2, r3, r4, r5⟩
      generalize l[k] = x at *
      clear hat Bk HZk hw0 hend HT HOK hb4
      go_upto_region 5 with (first
        | (refine load_cells (B := b) (k := lo + k * 2) 24 (tlC x) (by rfl) rfl rfl HK (by kernel_rfl) (by kernel_rfl) ?_)
        | (refine alloc_blk 24 (tlC zTl) (by rfl) rfl Tryd.tlZero ?_)
        | (refine store_blk (k := 0) 24 (.agg (tlC x)) (tlC x) (by rfl) rfl rfl rfl HA4 (by kernel_rfl) (show (2 : Nat) ≤ 2 from Nat.le_refl 2) (by rfl) (st_whole _ _ rfl) ?_; intro w5 HA5 b5 g5))
      have hI5 := hI4.late hIk b5
      have HZ5 := HZ4.below b5 hgz
      have B5 := B4.trans (b5.mono hsw)
      clear HA4 hI4 HZ4 B4 b5 g5 HK hIk
      generalize wr.heap.size = g at *
      by_cases hkm : k < m
      · have hx := hOK.out hkm
        obtain ⟨o1, o2, o3⟩ := okTl_all hx
        replace HR : Hid (∀ W, Calls Tryd.prog 34 #[.agg (tlC x)] W fun e w' => e = .returned (.bool true) ∧ Below W.heap.size W w') := fun W => by rw [← hx]; exact HR.out W
        have m1 : IntKind.i64.wrap (x.k * 512) = x.k * 512 := by rw [IntKind.wrap_i64] <;> omega
        have m2 : IntKind.i64.wrap (x.k * 512 + (x.t.size : Int)) = (hdT x : Int) := by
          unfold hdT
          rw [IntKind.wrap_i64] <;> omega
        have HBE : Hid (∀ W, Calls Tryd.prog 35 #[.int .i64 (hdT x : Int), .int .i64 2] W fun e w' => e = .returned (.string ⟨(putL (hdT x) 2).toArray⟩) ∧ Below W.heap.size W w') := fun W => by
          have q := hdT_lt hx
          refine (be2_any (hdT x : Int) W (by omega) (by omega)).mono ?_
          intro e w' h
          exact h
        have hy0 := putL_length (hdT x) 2
        have htl : x.t.data.toList.length = x.t.size := by simp
        obtain ⟨z1, hz1⟩ : ∃ z, z = tlW x := ⟨_, rfl⟩
        have zl1 : z1.length = 2 + x.t.size := by rw [hz1]; exact tlW_len x
        have p1 : ∀ W, (Op.stringOp .add ⟨(putL (hdT x) 2).toArray⟩ x.t).run Tryd.prog W = .ok (.string ⟨z1.toArray⟩) W := fun W => by rw [hz1]; exact run_string_add_lists W (putL (hdT x) 2) x.t.data.toList (by omega) (by omega)
        obtain ⟨z2, hz2⟩ : ∃ z, z = tlWs (l.take (k + 1)) := ⟨_, rfl⟩
        have p2 : ∀ W, (Op.stringOp .add ⟨(tlWs (l.take k)).toArray⟩ ⟨z1.toArray⟩).run Tryd.prog W = .ok (.string ⟨z2.toArray⟩) W := fun W => by rw [hz2, hHT.out, hz1]; exact run_string_add_lists W (tlWs (l.take k)) (tlW x) (by omega) (by rw [← hz1]; omega)
        have HZ2 : Hid (tlWs (l.take (k + 1)) = z2) := hz2.symm
        generalize putL (hdT x) 2 = y0 at *
        generalize ((hdT x : Nat) : Int) = hd at *
        generalize tlWs (l.take k) = z0 at *
        clear hz1 hz2 hbad hOK hHT hx htl
        go_wp2_with (refine load_blk (k := 0) 24 (tlC x) (by rfl) rfl rfl HA5 (by kernel_rfl) (by kernel_rfl) rfl ?_)
        refine (HR.out _).mono ?_
        rintro e w6 ⟨rfl, b6⟩
        have HA6 := HA5.kept b6
        have HZ6 := HZ5.kept b6
        have hI6 := hI5.below b6
        have B6 := B5.trans (b6.mono B5.size)
        clear HA5 HZ5 hI5 B5 b6 HR
        go_upto_region 7 with (fail)
        refine wp_region_noPanic ?_
        refine wp_region_held_drew (S := (fun w' => Blk w' g 24 (tlC x))) (by kernel_rfl) ?_ (fun hHeld => ?_)
        · exact HA6.drew
        refine wpAnyH_take (i := 0) (v := ?_) rfl (by kernel_rfl) (by kernel_rfl) (by kernel_rfl) (fun _ _ _ h => h) (Or.inl ⟨by rfl, ?_⟩) (by assumption) ?_
        rotate_left
        · (intro w hSw; (try dsimp only at hSw); go_simp; (try with_reducible rfl))
        (try simp only [Act.put, List.getElem_toArray, List.getElem_cons_zero, List.getElem_cons_succ, List.setIfInBounds_toArray, List.set_cons_zero, List.set_cons_succ])
        refine wpAnyH_take (i := 1) (v := ?_) rfl (by kernel_rfl) (by kernel_rfl) (by kernel_rfl) (fun _ _ _ h => h) (Or.inl ⟨by rfl, ?_⟩) (by assumption) ?_
        rotate_left
        · (intro w hSw; (try dsimp only at hSw); go_simp; (try with_reducible rfl))
        (try simp only [Act.put, List.getElem_toArray, List.getElem_cons_zero, List.getElem_cons_succ, List.setIfInBounds_toArray, List.set_cons_zero, List.set_cons_succ])
        refine wpAnyH_take (i := 2) (v := .int .i64 x.k) rfl (by kernel_rfl) (by kernel_rfl) (by kernel_rfl) (fun _ _ _ h => h) (Or.inl ⟨by rfl, fun w hSw => by have c := hSw.cv 0 (.int .i64 x.k) rfl; go_simp⟩) (by assumption) ?_
        (try simp only [Act.put, List.getElem_toArray, List.getElem_cons_zero, List.getElem_cons_succ, List.setIfInBounds_toArray, List.set_cons_zero, List.set_cons_succ])
        refine wpAnyH_take (i := 3) (v := ?_) rfl (by kernel_rfl) (by kernel_rfl) (by kernel_rfl) (fun _ _ _ h => h) (Or.inl ⟨by rfl, ?_⟩) (by assumption) ?_
        rotate_left
        · (intro w hSw; (try dsimp only at hSw); go_simp; (try with_reducible rfl))
        (try simp only [Act.put, List.getElem_toArray, List.getElem_cons_zero, List.getElem_cons_succ, List.setIfInBounds_toArray, List.set_cons_zero, List.set_cons_succ])
        refine wpAnyH_take (i := 4) (v := ?_) rfl (by kernel_rfl) (by kernel_rfl) (by kernel_rfl) (fun _ _ _ h => h) (Or.inl ⟨by rfl, ?_⟩) (by assumption) ?_
        rotate_left
        · (intro w hSw; (try dsimp only at hSw); go_simp; (try with_reducible rfl))
        (try simp only [Act.put, List.getElem_toArray, List.getElem_cons_zero, List.getElem_cons_succ, List.setIfInBounds_toArray, List.set_cons_zero, List.set_cons_succ])
        refine wpAnyH_take (i := 5) (v := .string x.t) rfl (by kernel_rfl) (by kernel_rfl) (by kernel_rfl) (fun _ _ _ h => h) (Or.inl ⟨by rfl, fun w hSw => by have c := hSw.cv 1 (.string x.t) rfl; go_simp⟩) (by assumption) ?_
        (try simp only [Act.put, List.getElem_toArray, List.getElem_cons_zero, List.getElem_cons_succ, List.setIfInBounds_toArray, List.set_cons_zero, List.set_cons_succ])
        refine wpAnyH_take (i := 6) (v := ?_) rfl (by kernel_rfl) (by kernel_rfl) (by kernel_rfl) (fun _ _ _ h => h) (Or.inl ⟨by rfl, ?_⟩) (by assumption) ?_
        rotate_left
        · (intro w hSw; (try dsimp only at hSw); go_simp; (try with_reducible rfl))
        (try simp only [Act.put, List.getElem_toArray, List.getElem_cons_zero, List.getElem_cons_succ, List.setIfInBounds_toArray, List.set_cons_zero, List.set_cons_succ])
        refine wpAnyH_take (i := 7) (v := ?_) rfl (by kernel_rfl) (by kernel_rfl) (by kernel_rfl) (fun _ _ _ h => h) (Or.inl ⟨by rfl, ?_⟩) (by assumption) ?_
        rotate_left
        · (intro w hSw; (try dsimp only at hSw); go_simp; (try with_reducible rfl))
        (try simp only [Act.put, List.getElem_toArray, List.getElem_cons_zero, List.getElem_cons_succ, List.setIfInBounds_toArray, List.set_cons_zero, List.set_cons_succ])
        refine wpAnyH_take (i := 9) (v := ?_) rfl (by kernel_rfl) (by kernel_rfl) (by kernel_rfl) (fun _ _ _ h => h) (Or.inl ⟨by rfl, ?_⟩) (by assumption) ?_
        rotate_left
        · (intro w hSw; (try dsimp only at hSw); go_simp; (try with_reducible rfl))
        (try simp only [Act.put, List.getElem_toArray, List.getElem_cons_zero, List.getElem_cons_succ, List.setIfInBounds_toArray, List.set_cons_zero, List.set_cons_succ])
        refine wpAnyH_take (i := 10) (v := .string x.t) rfl (by kernel_rfl) (by kernel_rfl) (by kernel_rfl) (fun _ _ _ h => h) (Or.inl ⟨by rfl, fun w hSw => by have c := hSw.cv 1 (.string x.t) rfl; go_simp⟩) (by assumption) ?_
        (try simp only [Act.put, List.getElem_toArray, List.getElem_cons_zero, List.getElem_cons_succ, List.setIfInBounds_toArray, List.set_cons_zero, List.set_cons_succ])
        refine wpAnyH_ready (rs := [8]) (by kernel_rfl) (by simp) ?_
        refine AllReadyH.cons rfl (fun K hK => ?_) AllReadyH.nil
        simp only [List.getElem_toArray, List.getElem_cons_zero, List.getElem_cons_succ]
        go_simp
        go_at_call 35; (with_reducible refine (HBE.out _).mono ?_); rintro e w7 ⟨rfl, b7⟩; have HA7 := HA6.drew.kept b7; have HZ7 := HZ6.drew.kept b7; have hI7 := hI6.drew.below b7; have B7 := B6.drew.trans (b7.mono B6.drew.size)
        refine hK.out _ _ ?_ (fun hHeld => ?_)
        · exact HA7
        clear hK K
        (try simp only [Act.put, List.getElem_toArray, List.getElem_cons_zero, List.getElem_cons_succ, List.setIfInBounds_toArray, List.set_cons_zero, List.set_cons_succ])
        refine wpAnyH_take (i := 11) (v := .string ⟨z1.toArray⟩) rfl (by kernel_rfl) (by kernel_rfl) (by kernel_rfl) (fun _ _ _ h => h) (Or.inl ⟨by rfl, fun w hSw => by go_simp⟩) (by assumption) ?_
        (try simp only [Act.put, List.getElem_toArray, List.getElem_cons_zero, List.getElem_cons_succ, List.setIfInBounds_toArray, List.set_cons_zero, List.set_cons_succ])
        refine wpAnyH_take (i := 12) (v := .string ⟨z2.toArray⟩) rfl (by kernel_rfl) (by kernel_rfl) (by kernel_rfl) (fun _ _ _ h => h) (Or.inl ⟨by rfl, fun w hSw => by go_simp⟩) (by assumption) ?_
        (try simp only [Act.put, List.getElem_toArray, List.getElem_cons_zero, List.getElem_cons_succ, List.setIfInBounds_toArray, List.set_cons_zero, List.set_cons_succ])
        refine wpAnyH_take (i := 13) (v := ?_) rfl (by kernel_rfl) (by kernel_rfl) (by kernel_rfl) (fun _ _ _ h => h) (Or.inl ⟨by rfl, ?_⟩) (by assumption) ?_
        rotate_left
        · (intro w hSw; (try dsimp only at hSw); go_simp; (try with_reducible rfl))
        (try simp only [Act.put, List.getElem_toArray, List.getElem_cons_zero, List.getElem_cons_succ, List.setIfInBounds_toArray, List.set_cons_zero, List.set_cons_succ])
        refine wpAnyH_done (by kernel_rfl) ?_ _
        refine NoPanic.normal ?_
        go_wp2
        go_roundw
        case rel => exact ⟨k + 1, by omega, by go_num, by rw [HZ2.out], hI7, HZ7, B7⟩
        case measure => simp [intOf]; omega
      · obtain rfl : k = m := by omega
        obtain ⟨hx, rfl, rfl, rfl⟩ := hbad.out rfl
        replace HR : Hid (∀ W, Calls Tryd.prog 34 #[.agg (tlC x)] W fun e w' => e = .returned (.bool false) ∧ Below W.heap.size W w') := fun W => by rw [← hx]; exact HR.out W
        clear hbad hOK hHT hx
        go_wp2_with (refine load_blk (k := 0) 24 (tlC x) (by rfl) rfl rfl HA5 (by kernel_rfl) (by kernel_rfl) rfl ?_)
        refine (HR.out _).mono ?_
        rintro e w6 ⟨rfl, b6⟩
        have HZ6 := HZ5.kept b6
        have B6 := B5.trans (b6.mono B5.size)
        go_wp2_with (first
          | (refine build_blk (t := 27) (ftC 1 k) (by rfl) rfl (by kernel_rfl) ?_)
          | (refine store_blk (k := 0) 27 (.agg (ftC 1 k)) (ftC 1 k) (by rfl) rfl rfl rfl HZ6 (by kernel_rfl) (by exact Nat.le_refl 2) rfl rfl (fun w7 H7 b7 g7 => ?_)))
        exact bodyPost_ret (results_tmp_blk rfl rfl H7 (by kernel_rfl) (by kernel_rfl)) rfl ⟨rfl, B6.trans (b7.mono (Nat.le_refl _))⟩
    · obtain rfl : k = l.length := by omega
      obtain rfl : m = l.length := by omega
      have q2 : decide ((l.length : Int) < (l.length : Int)) = false := decide_eq_false (by omega)
      obtain ⟨hX, rfl, rfl⟩ : X = tlWs l ++ [0, 0] ∧ e0 = 0 ∧ pl = -1 := by
        rcases hend with ⟨_, r1, r2, r3⟩ | ⟨hk2, _⟩
        · exact ⟨r1, r2, r3⟩
        · omega
      rw [List.take_length] at hsk ⊢
      have p1 : ∀ W, (Op.stringOp .add ⟨(tlWs l).toArray⟩ ⟨#[0, 0]⟩).run Tryd.prog W = .ok (.string ⟨X.toArray⟩) W := fun W => by rw [hX]; exact run_string_add_lists W (tlWs l) [0, 0] (by omega) (by decide)
      generalize tlWs l = z0 at *
      clear hX hend
      go_wp2_with fail
      refine (good_any _).mono ?_
      rintro e w6 ⟨rfl, b6⟩
      have HZ6 := HZk.kept b6
      have B6 := Bk.trans (b6.mono Bk.size)
      go_wp2_with (refine store_blk (k := 0) 27 (.agg (ftC 0 (-1))) (ftC 0 (-1)) (by rfl) rfl rfl rfl HZ6 (by kernel_rfl) (by exact Nat.le_refl 2) rfl rfl (fun w7 H7 b7 g7 => ?_))
      exact bodyPost_ret (results_tmp_blk rfl rfl H7 (by kernel_rfl) (by kernel_rfl)) rfl ⟨rfl, B6.trans (b7.mono (Nat.le_refl _))⟩

end Go.Proofs.YticjmjoiggnblaaDoor
