/- prio.Parse at every text. -/
import Derived.Test.YtceiiolpggolbaaDoorPrText
import Derived.Test.YtceiiolpggolbaaDoorLibs
import Derived.Test.YtceiiolpggolbaaDoorMacParse
namespace Go.Proofs.YtceiiolpggolbaaDoor
open Go.RowKit
attribute [local go_sem ↓] Go.wp_at_zero Go.wp_at_succ
set_option linter.unusedSimpArgs false
set_option linter.unusedVariables false
set_option maxRecDepth 100000

theorem Tryd.brZero : (Tryd.prog.info? 25).map (·.zero) = some (some (.agg (brC zBr))) := by kernel_rfl
theorem Tryd.adZero : (Tryd.prog.info? 23).map (·.zero) = some (some (.agg (c6 z6))) := by kernel_rfl

/-- How Parse ends. -/
def ParseB (l : List UInt8) (ok bad : Value) (e : Ending) : Prop :=
  (∃ b : Br, okB b = true ∧ byB b ∧ textB b = l ∧ e = .returned (.tuple #[.agg (brC b), ok])) ∨
  ((∀ b : Br, okB b = true → byB b → textB b ≠ l) ∧ e = .returned (.tuple #[.agg (brC zBr), bad]))

/-- The name that is guessed from a text. -/
def guessB (l : List UInt8) (a : Nat → Nat) : Br := ⟨atoiV (firstB l), atoiV (secondB l), a⟩
/-- What is known of its address. -/
def GuessA (l : List UInt8) (a : Nat → Nat) : Prop := (∀ i, a i < 256) ∧ (addrL a = tailB l ∨ ∀ b : Nat → Nat, (∀ i, b i < 256) → addrL b ≠ tailB l)
theorem guess_ok {l : List UInt8} {a : Nat → Nat} (h : GuessA l a) {b : Br} (hb : okB b = true) (xb : byB b) (ht : textB b = l) : okB (guessB l a) = true ∧ textB (guessB l a) = l := by
  obtain ⟨p0, p1, _, e0, e1⟩ := okB_all hb
  obtain ⟨_, h1, h2, h3⟩ := textB_parts b hb
  rw [ht] at h1 h2 h3
  have ha : addrL a = addrL b.a := by
    rcases h.2 with q | q
    · rw [q, h1]
    · exact absurd h1.symm (q b.a xb)
  have g1 : (guessB l a).p = b.p := by show atoiV (firstB l) = _; rw [h2]; exact atoiV_itoa5 b.p p0 (by omega)
  have g2 : (guessB l a).e = b.e := by show atoiV (secondB l) = _; rw [h3]; exact atoiV_itoa5 b.e e0 (by omega)
  refine ⟨?_, ?_⟩
  · unfold okB at hb ⊢
    rw [g1, g2]
    exact hb
  · have q : textB (guessB l a) = textB b := by
      unfold textB
      rw [g1, g2]
      show _ ++ 46 :: (_ ++ 47 :: addrL a) = _
      rw [ha]
    rw [q, ht]
theorem guess_by {l : List UInt8} {a : Nat → Nat} (h : GuessA l a) : byB (guessB l a) := h.1

theorem size_cut {x : ByteArray} {l s : List UInt8} (h : x.data.toList = (Lib.cut l s).1 ∨ x.data.toList = (Lib.cut l s).2.1) : x.size ≤ l.length := by
  have q := cut_le s l
  show x.data.size ≤ _
  rw [← Array.length_toList]
  rcases h with h | h <;> rw [h]
  · exact q.1
  · exact q.2

set_option maxHeartbeats 6400000 in
theorem prParse_any (s : ByteArray) (w : World) (hL : HasLib w) (hs : s.size < 4294967281) :
    Calls Tryd.prog 30 #[.string s] w fun e w' => ParseB s.data.toList .nilIface (.iface 28 (.int .i64 3)) e ∧ Below w.heap.size w w' := by
  have hls : s.data.toList.length = s.size := by simp
  have R1 := Blk.new w 25 (brC zBr)
  have B1 : Below w.heap.size w (w.alloc (.cells (brC zBr) 25)) := (Below.refl _ _).alloc (Nat.le_refl _) _
  have L1 := hL.below B1
  go_enter Tryd.func30, Tryd.ntmps30
  go_wp2_with (refine alloc_blk 25 (brC zBr) (by rfl) rfl Tryd.brZero ?_)
  generalize w.alloc (.cells (brC zBr) 25) = w1 at *
  refine (cut_any s _ _ L1 hs).mono ?_
  rintro e w2 ⟨h1, t1, f1, rfl, eh, et, k2⟩
  have B2 := B1.trans (k2.mono B1.size)
  have L2 := L1.below k2
  have R2 := R1.kept k2
  have s2 := size_cut (Or.inl eh)
  have s3 := size_cut (Or.inr et)
  have EH := Lib.hid eh
  have ET := Lib.hid et
  clear eh et
  clear k2 B1 L1 R1
  go_wp2_with fail
  refine (cut_any h1 _ _ L2 (by omega)).mono ?_
  rintro e w3 ⟨h2, t2, f2, rfl, eh2, et2, k3⟩
  have B3 := B2.trans (k3.mono B2.size)
  have L3 := L2.below k3
  have R3 := R2.kept k3
  have s4 := size_cut (Or.inl eh2)
  have s5 := size_cut (Or.inr et2)
  have EH2 := Lib.hid eh2
  have ET2 := Lib.hid et2
  clear eh2 et2
  have s6 : h1.data.toList.length = h1.size := by simp
  clear k3 B2 L2 R2
  go_wp2_with fail
  refine (atoi_any h2 _ L3 (by omega)).mono ?_
  rintro e w4 ⟨er4, rfl, k4⟩
  have B4 := B3.trans (k4.mono B3.size)
  have L4 := L3.below k4
  have R4 := R3.kept k4
  clear k4 B3 L3 R3
  go_wp2_with fail
  refine (atoi_any t2 _ L4 (by omega)).mono ?_
  rintro e w5 ⟨er5, rfl, k5⟩
  have B5 := B4.trans (k5.mono B4.size)
  have L5 := L4.below k5
  have R5 := R4.kept k5
  clear k5 B4 L4 R4
  have hfirst : h2.data.toList = firstB s.data.toList := by rw [EH2.out, EH.out]; rfl
  have hsecond : t2.data.toList = secondB s.data.toList := by rw [ET2.out, EH.out]; rfl
  have htail : t1.data.toList = tailB s.data.toList := by rw [ET.out]; rfl
  rw [hfirst, hsecond]
  clear EH ET EH2 ET2 hfirst hsecond s2 s3 s4 s5 s6
  go_wp2_with fail
  refine (parse_any t1 _).mono ?_
  rintro e w6 ⟨hp, k6⟩
  obtain ⟨a, er6, rfl, HG⟩ : ∃ a er, e = .returned (.tuple #[.agg (c6 a), er]) ∧ Hid (GuessA s.data.toList a) := by
    rw [htail] at hp
    rcases hp with ⟨a, ha, hl, rfl⟩ | ⟨hno, rfl⟩
    · exact ⟨a, _, rfl, ha, Or.inl hl⟩
    · exact ⟨fun _ => 0, _, rfl, fun i => by show 0 < 256; decide, Or.inr hno⟩
  have B6 := B5.trans (k6.mono B5.size)
  have L6 := L5.below k6
  have R6 := R5.kept k6
  clear k6 B5 L5 R5 hp htail
  have HGd : guessB s.data.toList a = ⟨atoiV (firstB s.data.toList), atoiV (secondB s.data.toList), a⟩ := rfl
  have HGu := Lib.hid (fun b hb xb ht => guess_ok HG.out (b := b) hb xb ht)
  have HGb : Hid (byB (guessB s.data.toList a)) := guess_by HG.out
  generalize guessB s.data.toList a = g at *
  generalize atoiV (firstB s.data.toList) = p0 at *
  generalize atoiV (secondB s.data.toList) = e0 at *
  subst HGd
  obtain ⟨N6, M6⟩ : ∃ n m, n = w6.heap.size ∧ m = w.heap.size := ⟨_, _, rfl, rfl⟩
  have lt6 : w.heap.size < w6.heap.size := R6.lt
  go_wp2_with (first
    | (refine alloc_blk 23 (c6 z6) (by rfl) rfl Tryd.adZero ?_)
    | (refine store_blk (k := 0) 23 (.agg (c6 a)) (c6 a) (by rfl) rfl rfl rfl (Blk.new w6 _ _) (by kernel_rfl) (show (6 : Nat) ≤ 6 from Nat.le_refl 6) (by rfl) (st_whole _ _ rfl) ?_; intro w7 HA7 b7 g7; have R7 := (R6.alloc (.cells (c6 z6) 23)).below b7 lt6; have B7 := (B6.alloc B6.size (.cells (c6 z6) 23)).trans (b7.mono B6.size); have lt7 : w.heap.size < w7.heap.size := R7.lt)
    | (refine load_blk (k := 0) 23 (c6 a) (by rfl) rfl rfl HA7 (by kernel_rfl) (by kernel_rfl) rfl ?_)
    | (refine build_blk (t := 25) (brC ⟨p0, e0, a⟩) (by rfl) rfl (by kernel_rfl) ?_)
    | (refine alloc_blk 25 (brC zBr) (by rfl) rfl Tryd.brZero ?_)
    | (refine store_blk (k := 0) 25 (.agg (brC ⟨p0, e0, a⟩)) (brC ⟨p0, e0, a⟩) (by rfl) rfl rfl rfl (Blk.new w7 _ _) (by kernel_rfl) (show (8 : Nat) ≤ 8 from Nat.le_refl 8) (by rfl) (st_whole _ _ rfl) ?_; intro w8 HB8 b8 g8; have R8 := (R7.alloc (.cells (brC zBr) 25)).below b8 lt7; have B8 := (B7.alloc B7.size (.cells (brC zBr) 25)).trans (b8.mono B7.size); clear R7 B7)
    | (refine load_blk (k := 0) 25 (brC ⟨p0, e0, a⟩) (by rfl) rfl rfl HB8 (by kernel_rfl) (by kernel_rfl) rfl ?_))
  clear HA7 b7 g7 b8 g8 R6 B6
  have L8 : HasLib w8 := hL.below B8
  cases hok : okB ⟨p0, e0, a⟩ with
  | false =>
    refine (prText_no _ hok _).mono ?_
    rintro e w9 ⟨rfl, k9⟩
    have R9 := R8.kept k9
    have B9 := B8.trans (k9.mono B8.size)
    clear k9 R8 B8 HB8
    go_wp2_with (first
      | (refine build_blk (t := 25) (brC zBr) (by rfl) rfl (by kernel_rfl) ?_)
      | (refine store_blk (k := 0) 25 (.agg (brC zBr)) (brC zBr) (by rfl) rfl rfl rfl R9 (by kernel_rfl) (show (8 : Nat) ≤ 8 from Nat.le_refl 8) (by rfl) (st_whole _ _ rfl) ?_; intro w10 R10 b10 g10; have B10 := B9.trans b10))
    exact bodyPost_ret (results_blk_tmp rfl rfl R10 (by kernel_rfl) (by kernel_rfl)) rfl ⟨Or.inr ⟨fun b hb xb ht => (by
      have := (HGu.out b hb xb ht).1
      rw [hok] at this; cases this), rfl⟩, B10⟩
  | true =>
    refine (prText_yes _ hok HGb.out _ L8.tab).mono ?_
    rintro e w9 ⟨rfl, k9⟩
    have R9 := R8.kept k9
    have B9 := B8.trans (k9.mono B8.size)
    have HB9 := HB8.kept k9
    clear k9 R8 B8 HB8
    by_cases he : textB ⟨p0, e0, a⟩ = s.data.toList
    · have he1 : (textB ⟨p0, e0, a⟩ == s.toList) = true := by rw [beq_iff_eq, he, ByteArray.toList_eq]
      go_wp2_with (first
        | (refine load_blk (k := 0) 25 (brC ⟨p0, e0, a⟩) (by rfl) rfl rfl HB9 (by kernel_rfl) (by kernel_rfl) rfl ?_)
        | (refine store_blk (k := 0) 25 (.agg (brC ⟨p0, e0, a⟩)) (brC ⟨p0, e0, a⟩) (by rfl) rfl rfl rfl R9 (by kernel_rfl) (show (8 : Nat) ≤ 8 from Nat.le_refl 8) (by rfl) (st_whole _ _ rfl) ?_; intro w10 R10 b10 g10; have B10 := B9.trans b10))
      exact bodyPost_ret (results_blk_tmp rfl rfl R10 (by kernel_rfl) (by kernel_rfl)) rfl ⟨Or.inl ⟨_, hok, HGb.out, he, rfl⟩, B10⟩
    · have he1 : (textB ⟨p0, e0, a⟩ == s.toList) = false := by rw [beq_eq_false_iff_ne, ByteArray.toList_eq]; exact he
      go_wp2_with (first
        | (refine build_blk (t := 25) (brC zBr) (by rfl) rfl (by kernel_rfl) ?_)
        | (refine store_blk (k := 0) 25 (.agg (brC zBr)) (brC zBr) (by rfl) rfl rfl rfl R9 (by kernel_rfl) (show (8 : Nat) ≤ 8 from Nat.le_refl 8) (by rfl) (st_whole _ _ rfl) ?_; intro w10 R10 b10 g10; have B10 := B9.trans b10))
      exact bodyPost_ret (results_blk_tmp rfl rfl R10 (by kernel_rfl) (by kernel_rfl)) rfl ⟨Or.inr ⟨fun b hb xb ht => he (HGu.out b hb xb ht).2, rfl⟩, B10⟩

end Go.Proofs.YtceiiolpggolbaaDoor
