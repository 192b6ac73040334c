/- bpdu.Read at every text, way by way. -/
import Derived.Test.YtjoepmfineinfaaDoorBpWays
import Derived.Test.YtjoepmfineinfaaDoorExp
import Derived.Test.YtjoepmfineinfaaDoorBpAt
import Derived.Test.YtjoepmfineinfaaDoorErrA
namespace Go.Proofs.YtjoepmfineinfaaDoor
open Go.RowKit
attribute [local go_sem ↓] Go.wp_at_zero Go.wp_at_succ
set_option linter.unusedSimpArgs false
set_option linter.unusedVariables false
set_option maxRecDepth 100000

/-- The state behind the last byte of a Rapid message. -/
def tl1 (l : List UInt8) (st : RSt) : List UInt8 × RSt := tkN l 0 st 1 false

def tlS (l : List UInt8) (st : RSt) : RSt := if (tl1 l st).1 = [0] then (tl1 l st).2 else flR (tl1 l st).2 3 (st.1 : Int)

theorem readTail_t {g : Nat} {s : ByteArray} (st : RSt) (w : World) (h : RdT w g s 0 st) (hp : st.1 ≤ s.size) (hb : 0 + s.size ≤ 281474976710656) :
    Calls Tryd.prog 34 #[.pointer (some ⟨g, 0, none⟩), .string ⟨#[0]⟩, .slice none 0 0] w fun e w' => e = .returned (.string ⟨(exV s.data.toList st [0]).toArray⟩) ∧ RdT w' g s 0 (tlS s.data.toList st) ∧ w.grownBy w' (some g) :=
  exp_t ⟨#[0]⟩ (by decide) st w h hp hb

set_option maxHeartbeats 3200000 in
theorem bpRead_short (s : ByteArray) (w : World) (hs : s.size ≤ 300) (h : s.size < 4) :
    Calls Tryd.prog 17 #[.string s] w (ReadsAs (bpC zBp) 7 0 w) := by
  have hL : s.data.toList.length = s.size := by simp
  have hb : 0 + s.size ≤ 281474976710656 := by omega
  have HBY : Hid (∀ {g : Nat} {W : World}, RdT W g s 0 (0, 0, -1) → Calls Tryd.prog 37 #[.pointer (some ⟨g, 0, none⟩), .int .i64 4] W fun e w' => e = .returned (.string ⟨#[]⟩) ∧ RdT w' g s 0 (0, 7, 0) ∧ W.grownBy w' (some g)) := fun {g W} h => by
    have q := bytes_t (0, 0, -1) 4 W h (Nat.zero_le _) hb
    have e := tkN_miss s.data.toList 0 (0, 0, -1) 4 false rfl (by show ¬ 0 + 4 ≤ _; omega) (Nat.zero_le _) (by simp)
    rw [show ((4 : Int)) = ((4 : Nat) : Int) from rfl, e] at q
    exact q
  have HA0 := Blk.new w 52 (bpC zBp)
  have B0 : Below w.heap.size w (w.alloc (.cells (bpC zBp) 52)) := (Below.refl _ _).alloc (Nat.le_refl _) _
  go_enter Tryd.func17, Tryd.ntmps17
  go_upto_region 1 with (refine alloc_blk 52 (bpC zBp) (by rfl) rfl Tryd.bpZero ?_)
  generalize w.alloc (.cells (bpC zBp) 52) = w1 at *
  have hA1 := HA0.lt
  go_wp2_with fail
  refine (new_t s 0 _).mono ?_
  rintro e w2 ⟨rfl, HR2, b2⟩
  have HR3 := HR2.below ((Below.refl _ _).alloc (Nat.le_refl _) (.cells (bpC zBp) 52))
  have HA3 := (HA0.kept b2).alloc (.cells (bpC zBp) 52)
  have HV3 := Blk.new w2 52 (bpC zBp)
  have B2 := B0.trans (b2.mono B0.size)
  have B3 := B2.alloc B2.size (.cells (bpC zBp) 52)
  have hg3 := HR2.lt
  have hv3 : w.heap.size < w2.heap.size := (HA0.kept b2).lt
  generalize w1.heap.size = g at *
  clear HA0 B0 b2 HR2 B2
  go_upto_region 3 with (refine alloc_blk 52 (bpC zBp) (by rfl) rfl Tryd.bpZero ?_)
  generalize w2.alloc (.cells (bpC zBp) 52) = w3 at *
  generalize w2.heap.size = v at *
  go_wp2_with fail
  refine (HBY.out HR3).mono ?_
  rintro e w4 ⟨rfl, HR4, g4⟩
  have HA4 := HA3.reads HR3 (by decide : 52 ≠ 104) g4
  have HV4 := HV3.reads HR3 (by decide : 52 ≠ 104) g4
  have B4 := grown_belowA B3 g4 B3.size (by omega)
  clear HR3 HA3 HV3 B3 g4
  go_wp2_with fail
  refine (fail_t (0, 7, 0) 3 0 (by decide) _ HR4).mono ?_
  rintro e w5 ⟨rfl, HR5, g5⟩
  have HA5 := HA4.reads HR4 (by decide : 52 ≠ 104) g5
  have HV5 := HV4.reads HR4 (by decide : 52 ≠ 104) g5
  have B5 := grown_belowA B4 g5 B4.size (by omega)
  clear HR4 HA4 HV4 B4 g5
  rw [flR_bad (0, 7, 0) 3 0 (by decide)] at HR5
  go_wp2_with fail
  have ltA := HA5.lt
  refine (err_t (0, 7, 0) _ HR5 (by decide)).mono ?_
  rintro e we ⟨rfl, hf, ke⟩
  have HAe := HA5.kept ke
  have Be := B5.trans (ke.mono B5.size)
  go_wp2_with (first | (refine build_blk (t := 52) (bpC zBp) (by rfl) rfl (by kernel_rfl) ?_) | (refine store_blk (k := 0) 52 (.agg (bpC zBp)) (bpC zBp) (by rfl) rfl rfl rfl HAe (by kernel_rfl) (show (31 : Nat) ≤ 31 from Nat.le_refl 31) (by rfl) (st_whole _ _ rfl) ?_; intro wz HZ bz gz; have hfz := hf.kept gz (by simp; omega)))
  exact bodyPost_ret (results_blk_tmp rfl rfl HZ (by kernel_rfl) (by kernel_rfl)) rfl ⟨_, rfl, Or.inr ⟨(by decide), _, rfl, hfz⟩, Be.trans bz⟩

set_option maxHeartbeats 3200000 in
theorem bpRead_other (s : ByteArray) (w : World) (hs : s.size ≤ 300) (h : ¬ s.size < 4) (h0 : ¬ hdAt s = [0, 0, 0, 0]) (h1 : ¬ hdAt s = [0, 0, 0, 128]) (h2 : ¬ hdAt s = [0, 0, 2, 2]) :
    Calls Tryd.prog 17 #[.string s] w (ReadsAs (bpC zBp) 3 0 w) := by
  have hL : s.data.toList.length = s.size := by simp
  have hb : 0 + s.size ≤ 281474976710656 := by omega
  obtain ⟨u, hu⟩ : ∃ u : ByteArray, u = ⟨((s.data.toList.drop 0).take 4).toArray⟩ := ⟨_, rfl⟩
  have hul : u.data.toList = hdAt s := by rw [hu]; rfl
  have n0 := isNo (u := u) (l := [0, 0, 0, 0]) (by rw [hul]; exact h0)
  have n1 := isNo (u := u) (l := [0, 0, 0, 128]) (by rw [hul]; exact h1)
  have n2 := isNo (u := u) (l := [0, 0, 2, 2]) (by rw [hul]; exact h2)
  have HBY : Hid (∀ {g : Nat} {W : World}, RdT W g s 0 (0, 0, -1) → Calls Tryd.prog 37 #[.pointer (some ⟨g, 0, none⟩), .int .i64 4] W fun e w' => e = .returned (.string u) ∧ RdT w' g s 0 (4, 0, -1) ∧ W.grownBy w' (some g)) := fun {g W} h => by
    have q := bytes_t (0, 0, -1) 4 W h (Nat.zero_le _) hb
    have e := tkN_go s.data.toList 0 (0, 0, -1) 4 false rfl (by show 0 + 4 ≤ _; omega) (by simp)
    rw [show ((4 : Int)) = ((4 : Nat) : Int) from rfl, e, ← hu] at q
    exact q
  clear hu hul h0 h1 h2
  have HA0 := Blk.new w 52 (bpC zBp)
  have B0 : Below w.heap.size w (w.alloc (.cells (bpC zBp) 52)) := (Below.refl _ _).alloc (Nat.le_refl _) _
  go_enter Tryd.func17, Tryd.ntmps17
  go_upto_region 1 with (refine alloc_blk 52 (bpC zBp) (by rfl) rfl Tryd.bpZero ?_)
  generalize w.alloc (.cells (bpC zBp) 52) = w1 at *
  have hA1 := HA0.lt
  go_wp2_with fail
  refine (new_t s 0 _).mono ?_
  rintro e w2 ⟨rfl, HR2, b2⟩
  have HR3 := HR2.below ((Below.refl _ _).alloc (Nat.le_refl _) (.cells (bpC zBp) 52))
  have HA3 := (HA0.kept b2).alloc (.cells (bpC zBp) 52)
  have HV3 := Blk.new w2 52 (bpC zBp)
  have B2 := B0.trans (b2.mono B0.size)
  have B3 := B2.alloc B2.size (.cells (bpC zBp) 52)
  have hg3 := HR2.lt
  have hv3 : w.heap.size < w2.heap.size := (HA0.kept b2).lt
  generalize w1.heap.size = g at *
  clear HA0 B0 b2 HR2 B2
  go_upto_region 3 with (refine alloc_blk 52 (bpC zBp) (by rfl) rfl Tryd.bpZero ?_)
  generalize w2.alloc (.cells (bpC zBp) 52) = w3 at *
  generalize w2.heap.size = v at *
  go_wp2_with fail
  refine (HBY.out HR3).mono ?_
  rintro e w4 ⟨rfl, HR4, g4⟩
  have HA4 := HA3.reads HR3 (by decide : 52 ≠ 104) g4
  have HV4 := HV3.reads HR3 (by decide : 52 ≠ 104) g4
  have B4 := grown_belowA B3 g4 B3.size (by omega)
  clear HR3 HA3 HV3 B3 g4
  go_wp2_with fail
  refine (fail_t (4, 0, -1) 3 0 (by decide) _ HR4).mono ?_
  rintro e w5 ⟨rfl, HR5, g5⟩
  have HA5 := HA4.reads HR4 (by decide : 52 ≠ 104) g5
  have HV5 := HV4.reads HR4 (by decide : 52 ≠ 104) g5
  have B5 := grown_belowA B4 g5 B4.size (by omega)
  clear HR4 HA4 HV4 B4 g5
  have HR6 : RdT w5 g s 0 (4, 3, 0) := HR5
  clear HR5
  have HR5 := HR6
  go_wp2_with fail
  have ltA := HA5.lt
  refine (err_t (4, 3, 0) _ HR5 (by decide)).mono ?_
  rintro e we ⟨rfl, hf, ke⟩
  have HAe := HA5.kept ke
  have Be := B5.trans (ke.mono B5.size)
  go_wp2_with (first | (refine build_blk (t := 52) (bpC zBp) (by rfl) rfl (by kernel_rfl) ?_) | (refine store_blk (k := 0) 52 (.agg (bpC zBp)) (bpC zBp) (by rfl) rfl rfl rfl HAe (by kernel_rfl) (show (31 : Nat) ≤ 31 from Nat.le_refl 31) (by rfl) (st_whole _ _ rfl) ?_; intro wz HZ bz gz; have hfz := hf.kept gz (by simp; omega)))
  exact bodyPost_ret (results_blk_tmp rfl rfl HZ (by kernel_rfl) (by kernel_rfl)) rfl ⟨_, rfl, Or.inr ⟨(by decide), _, rfl, hfz⟩, Be.trans bz⟩

set_option maxHeartbeats 3200000 in
theorem bpRead_notice (s : ByteArray) (w : World) (hs : s.size ≤ 300) (h : ¬ s.size < 4) (hh : hdAt s = [0, 0, 0, 128]) :
    Calls Tryd.prog 17 #[.string s] w (ReadsAs (bpC nBp) 0 (-1) w) := by
  have hL : s.data.toList.length = s.size := by simp
  have hb : 0 + s.size ≤ 281474976710656 := by omega
  have HBY : Hid (∀ {g : Nat} {W : World}, RdT W g s 0 (0, 0, -1) → Calls Tryd.prog 37 #[.pointer (some ⟨g, 0, none⟩), .int .i64 4] W fun e w' => e = .returned (.string ⟨#[0, 0, 0, 128]⟩) ∧ RdT w' g s 0 (4, 0, -1) ∧ W.grownBy w' (some g)) := fun {g W} h => by
    have q := bytes_t (0, 0, -1) 4 W h (Nat.zero_le _) hb
    have e := tkN_go s.data.toList 0 (0, 0, -1) 4 false rfl (by show 0 + 4 ≤ _; omega) (by simp)
    rw [show ((4 : Int)) = ((4 : Nat) : Int) from rfl, e, show (s.data.toList.drop 0).take 4 = [0, 0, 0, 128] from hh] at q
    exact q
  have HA0 := Blk.new w 52 (bpC zBp)
  have B0 : Below w.heap.size w (w.alloc (.cells (bpC zBp) 52)) := (Below.refl _ _).alloc (Nat.le_refl _) _
  go_enter Tryd.func17, Tryd.ntmps17
  go_upto_region 1 with (refine alloc_blk 52 (bpC zBp) (by rfl) rfl Tryd.bpZero ?_)
  generalize w.alloc (.cells (bpC zBp) 52) = w1 at *
  have hA1 := HA0.lt
  go_wp2_with fail
  refine (new_t s 0 _).mono ?_
  rintro e w2 ⟨rfl, HR2, b2⟩
  have HR3 := HR2.below ((Below.refl _ _).alloc (Nat.le_refl _) (.cells (bpC zBp) 52))
  have HA3 := (HA0.kept b2).alloc (.cells (bpC zBp) 52)
  have HV3 := Blk.new w2 52 (bpC zBp)
  have B2 := B0.trans (b2.mono B0.size)
  have B3 := B2.alloc B2.size (.cells (bpC zBp) 52)
  have hg3 := HR2.lt
  have hv3 : w.heap.size < w2.heap.size := (HA0.kept b2).lt
  generalize w1.heap.size = g at *
  clear HA0 B0 b2 HR2 B2
  go_upto_region 3 with (refine alloc_blk 52 (bpC zBp) (by rfl) rfl Tryd.bpZero ?_)
  generalize w2.alloc (.cells (bpC zBp) 52) = w3 at *
  generalize w2.heap.size = v at *
  go_wp2_with fail
  refine (HBY.out HR3).mono ?_
  rintro e w4 ⟨rfl, HR4, g4⟩
  have HA4 := HA3.reads HR3 (by decide : 52 ≠ 104) g4
  have HV4 := HV3.reads HR3 (by decide : 52 ≠ 104) g4
  have B4 := grown_belowA B3 g4 B3.size (by omega)
  clear HR3 HA3 HV3 B3 g4
  go_wp2_with (first | (refine build_blk (t := 52) (bpC nBp) (by rfl) rfl (by kernel_rfl) ?_) | (refine store_blk (k := 0) 52 (.agg (bpC nBp)) (bpC nBp) (by rfl) rfl rfl rfl HV4 (by kernel_rfl) (show (31 : Nat) ≤ 31 from Nat.le_refl 31) (by rfl) (st_whole _ _ rfl) ?_; intro w5 HV5 b5 g5; have HR5 := HR4.other HV4 (by decide) (by decide) g5; have HA5 := HA4.grown g5 (by simp; omega); have B5 := grown_belowA B4 g5 B4.size (by omega)))
  refine (err_ok (4, 0, -1) _ HR5 rfl).mono ?_
  rintro e we ⟨rfl, rfl⟩
  go_wp2_with (first | (refine load_blk (k := 0) 52 (bpC nBp) (by rfl) rfl rfl HV5 (by kernel_rfl) (by kernel_rfl) rfl ?_) | (refine store_blk (k := 0) 52 (.agg (bpC nBp)) (bpC nBp) (by rfl) rfl rfl rfl HA5 (by kernel_rfl) (show (31 : Nat) ≤ 31 from Nat.le_refl 31) (by rfl) (st_whole _ _ rfl) ?_; intro wz HZ bz gz))
  exact bodyPost_ret (results_blk_tmp rfl rfl HZ (by kernel_rfl) (by kernel_rfl)) rfl ⟨_, rfl, ErrAs.nil, B5.trans bz⟩

set_option maxHeartbeats 3200000 in
theorem bpRead_config_bad (s : ByteArray) (w : World) (hs : s.size ≤ 300) (h : ¬ s.size < 4) (hh : hdAt s = [0, 0, 0, 0]) (e : Int) (x : Nat) (he : bdE s.size 4 (pzAt s (4 + 21)) = some (e, x)) :
    Calls Tryd.prog 17 #[.string s] w (ReadsAs (bpC zBp) e x w) := by
  have hL : s.data.toList.length = s.size := by simp
  have hb : 0 + s.size ≤ 281474976710656 := by omega
  have HBY : Hid (∀ {g : Nat} {W : World}, RdT W g s 0 (0, 0, -1) → Calls Tryd.prog 37 #[.pointer (some ⟨g, 0, none⟩), .int .i64 4] W fun e w' => e = .returned (.string ⟨#[0, 0, 0, 0]⟩) ∧ RdT w' g s 0 (4, 0, -1) ∧ W.grownBy w' (some g)) := fun {g W} h => by
    have q := bytes_t (0, 0, -1) 4 W h (Nat.zero_le _) hb
    have e := tkN_go s.data.toList 0 (0, 0, -1) 4 false rfl (by show 0 + 4 ≤ _; omega) (by simp)
    rw [show ((4 : Int)) = ((4 : Nat) : Int) from rfl, e, show (s.data.toList.drop 0).take 4 = [0, 0, 0, 0] from hh] at q
    exact q
  have HBD : Hid (∀ {g : Nat} {W : World}, RdT W g s 0 (4, 0, -1) → Calls Tryd.prog 52 #[.pointer (some ⟨g, 0, none⟩), .int .i64 1] W fun e w' => e = .returned (.agg (bpC (rbB s.data.toList 0 (4, 0, -1) 1))) ∧ RdT w' g s 0 (sb9 s.data.toList 0 (4, 0, -1)) ∧ W.grownBy w' (some g)) := fun {g W} h => readBody_t (4, 0, -1) 1 W h (by show 4 ≤ _; omega) hb
  rcases sb_ways s 4 (by omega) 1 with ⟨e1, x1, q, hne, h9⟩ | ⟨q, _⟩
  rotate_left
  · rw [he] at q
    cases q
  rw [he] at q
  obtain ⟨rfl, rfl⟩ : e = e1 ∧ x = x1 := by simpa using q
  have hX : rbB s.data.toList 0 (4, 0, -1) 1 = zBp := by unfold rbB; rw [if_neg (by rw [h9]; exact hne)]
  rw [hX] at HBD
  generalize sb9 s.data.toList 0 (4, 0, -1) = s9 at *
  obtain ⟨n9, e9, p9⟩ := s9
  obtain ⟨rfl, rfl⟩ : e9 = e ∧ p9 = (x : Int) := by simpa using h9
  clear q he h9 hX
  have HA0 := Blk.new w 52 (bpC zBp)
  have B0 : Below w.heap.size w (w.alloc (.cells (bpC zBp) 52)) := (Below.refl _ _).alloc (Nat.le_refl _) _
  go_enter Tryd.func17, Tryd.ntmps17
  go_upto_region 1 with (refine alloc_blk 52 (bpC zBp) (by rfl) rfl Tryd.bpZero ?_)
  generalize w.alloc (.cells (bpC zBp) 52) = w1 at *
  have hA1 := HA0.lt
  go_wp2_with fail
  refine (new_t s 0 _).mono ?_
  rintro e w2 ⟨rfl, HR2, b2⟩
  have HR3 := HR2.below ((Below.refl _ _).alloc (Nat.le_refl _) (.cells (bpC zBp) 52))
  have HA3 := (HA0.kept b2).alloc (.cells (bpC zBp) 52)
  have HV3 := Blk.new w2 52 (bpC zBp)
  have B2 := B0.trans (b2.mono B0.size)
  have B3 := B2.alloc B2.size (.cells (bpC zBp) 52)
  have hg3 := HR2.lt
  have hv3 : w.heap.size < w2.heap.size := (HA0.kept b2).lt
  generalize w1.heap.size = g at *
  clear HA0 B0 b2 HR2 B2
  go_upto_region 3 with (refine alloc_blk 52 (bpC zBp) (by rfl) rfl Tryd.bpZero ?_)
  generalize w2.alloc (.cells (bpC zBp) 52) = w3 at *
  generalize w2.heap.size = v at *
  go_wp2_with fail
  refine (HBY.out HR3).mono ?_
  rintro e w4 ⟨rfl, HR4, g4⟩
  have HA4 := HA3.reads HR3 (by decide : 52 ≠ 104) g4
  have HV4 := HV3.reads HR3 (by decide : 52 ≠ 104) g4
  have B4 := grown_belowA B3 g4 B3.size (by omega)
  clear HR3 HA3 HV3 B3 g4
  go_wp2_with fail
  refine (HBD.out HR4).mono ?_
  rintro e w5 ⟨rfl, HR5, g5⟩
  have HA5 := HA4.reads HR4 (by decide : 52 ≠ 104) g5
  have HV5 := HV4.reads HR4 (by decide : 52 ≠ 104) g5
  have B5 := grown_belowA B4 g5 B4.size (by omega)
  clear HR4 HA4 HV4 B4 g5
  go_wp2_with (first | (refine build_blk (t := 52) (bpC zBp) (by rfl) rfl (by kernel_rfl) ?_) | (refine store_blk (k := 0) 52 (.agg (bpC zBp)) (bpC zBp) (by rfl) rfl rfl rfl HV5 (by kernel_rfl) (show (31 : Nat) ≤ 31 from Nat.le_refl 31) (by rfl) (st_whole _ _ rfl) ?_; intro w6 HV6 b6 g6; have HR6 := HR5.other HV5 (by decide) (by decide) g6; have HA6 := HA5.grown g6 (by simp; omega); have B6 := grown_belowA B5 g6 B5.size (by omega)))
  have ltA := HA6.lt
  refine (err_t (n9, e9, (x : Int)) _ HR6 hne).mono ?_
  rintro e we ⟨rfl, hf, ke⟩
  have HAe := HA6.kept ke
  have Be := B6.trans (ke.mono B6.size)
  go_wp2_with (first | (refine build_blk (t := 52) (bpC zBp) (by rfl) rfl (by kernel_rfl) ?_) | (refine store_blk (k := 0) 52 (.agg (bpC zBp)) (bpC zBp) (by rfl) rfl rfl rfl HAe (by kernel_rfl) (show (31 : Nat) ≤ 31 from Nat.le_refl 31) (by rfl) (st_whole _ _ rfl) ?_; intro wz HZ bz gz; have hfz := hf.kept gz (by simp; omega)))
  exact bodyPost_ret (results_blk_tmp rfl rfl HZ (by kernel_rfl) (by kernel_rfl)) rfl ⟨_, rfl, Or.inr ⟨hne, _, rfl, hfz⟩, Be.trans bz⟩

set_option maxHeartbeats 3200000 in
theorem bpRead_config_ok (s : ByteArray) (w : World) (hs : s.size ≤ 300) (h : ¬ s.size < 4) (hh : hdAt s = [0, 0, 0, 0]) (he : bdE s.size 4 (pzAt s (4 + 21)) = none) :
    Calls Tryd.prog 17 #[.string s] w (ReadsAs (bpC (cfB (bpAt s 4 1))) 0 (-1) w) := by
  have hL : s.data.toList.length = s.size := by simp
  have hb : 0 + s.size ≤ 281474976710656 := by omega
  have HBY : Hid (∀ {g : Nat} {W : World}, RdT W g s 0 (0, 0, -1) → Calls Tryd.prog 37 #[.pointer (some ⟨g, 0, none⟩), .int .i64 4] W fun e w' => e = .returned (.string ⟨#[0, 0, 0, 0]⟩) ∧ RdT w' g s 0 (4, 0, -1) ∧ W.grownBy w' (some g)) := fun {g W} h => by
    have q := bytes_t (0, 0, -1) 4 W h (Nat.zero_le _) hb
    have e := tkN_go s.data.toList 0 (0, 0, -1) 4 false rfl (by show 0 + 4 ≤ _; omega) (by simp)
    rw [show ((4 : Int)) = ((4 : Nat) : Int) from rfl, e, show (s.data.toList.drop 0).take 4 = [0, 0, 0, 0] from hh] at q
    exact q
  have HBD : Hid (∀ {g : Nat} {W : World}, RdT W g s 0 (4, 0, -1) → Calls Tryd.prog 52 #[.pointer (some ⟨g, 0, none⟩), .int .i64 1] W fun e w' => e = .returned (.agg (bpC (rbB s.data.toList 0 (4, 0, -1) 1))) ∧ RdT w' g s 0 (sb9 s.data.toList 0 (4, 0, -1)) ∧ W.grownBy w' (some g)) := fun {g W} h => readBody_t (4, 0, -1) 1 W h (by show 4 ≤ _; omega) hb
  rcases sb_ways s 4 (by omega) 1 with ⟨e1, x1, q, _⟩ | ⟨q, h9, hraw⟩
  · rw [he] at q
    cases q
  have hX : rbB s.data.toList 0 (4, 0, -1) 1 = cfB (bpAt s 4 1) := by unfold rbB; rw [h9, if_pos rfl, hraw]
  rw [hX, h9] at HBD
  clear q he h9 hX hraw
  generalize cfB (bpAt s 4 1) = X at *
  have HA0 := Blk.new w 52 (bpC zBp)
  have B0 : Below w.heap.size w (w.alloc (.cells (bpC zBp) 52)) := (Below.refl _ _).alloc (Nat.le_refl _) _
  go_enter Tryd.func17, Tryd.ntmps17
  go_upto_region 1 with (refine alloc_blk 52 (bpC zBp) (by rfl) rfl Tryd.bpZero ?_)
  generalize w.alloc (.cells (bpC zBp) 52) = w1 at *
  have hA1 := HA0.lt
  go_wp2_with fail
  refine (new_t s 0 _).mono ?_
  rintro e w2 ⟨rfl, HR2, b2⟩
  have HR3 := HR2.below ((Below.refl _ _).alloc (Nat.le_refl _) (.cells (bpC zBp) 52))
  have HA3 := (HA0.kept b2).alloc (.cells (bpC zBp) 52)
  have HV3 := Blk.new w2 52 (bpC zBp)
  have B2 := B0.trans (b2.mono B0.size)
  have B3 := B2.alloc B2.size (.cells (bpC zBp) 52)
  have hg3 := HR2.lt
  have hv3 : w.heap.size < w2.heap.size := (HA0.kept b2).lt
  generalize w1.heap.size = g at *
  clear HA0 B0 b2 HR2 B2
  go_upto_region 3 with (refine alloc_blk 52 (bpC zBp) (by rfl) rfl Tryd.bpZero ?_)
  generalize w2.alloc (.cells (bpC zBp) 52) = w3 at *
  generalize w2.heap.size = v at *
  go_wp2_with fail
  refine (HBY.out HR3).mono ?_
  rintro e w4 ⟨rfl, HR4, g4⟩
  have HA4 := HA3.reads HR3 (by decide : 52 ≠ 104) g4
  have HV4 := HV3.reads HR3 (by decide : 52 ≠ 104) g4
  have B4 := grown_belowA B3 g4 B3.size (by omega)
  clear HR3 HA3 HV3 B3 g4
  go_wp2_with fail
  refine (HBD.out HR4).mono ?_
  rintro e w5 ⟨rfl, HR5, g5⟩
  have HA5 := HA4.reads HR4 (by decide : 52 ≠ 104) g5
  have HV5 := HV4.reads HR4 (by decide : 52 ≠ 104) g5
  have B5 := grown_belowA B4 g5 B4.size (by omega)
  clear HR4 HA4 HV4 B4 g5
  go_wp2_with (first | (refine build_blk (t := 52) (bpC X) (by rfl) rfl (by kernel_rfl) ?_) | (refine store_blk (k := 0) 52 (.agg (bpC X)) (bpC X) (by rfl) rfl rfl rfl HV5 (by kernel_rfl) (show (31 : Nat) ≤ 31 from Nat.le_refl 31) (by rfl) (st_whole _ _ rfl) ?_; intro w6 HV6 b6 g6; have HR6 := HR5.other HV5 (by decide) (by decide) g6; have HA6 := HA5.grown g6 (by simp; omega); have B6 := grown_belowA B5 g6 B5.size (by omega)))
  refine (err_ok (4 + 31, 0, -1) _ HR6 rfl).mono ?_
  rintro e we ⟨rfl, rfl⟩
  go_wp2_with (first | (refine load_blk (k := 0) 52 (bpC X) (by rfl) rfl rfl HV6 (by kernel_rfl) (by kernel_rfl) rfl ?_) | (refine store_blk (k := 0) 52 (.agg (bpC X)) (bpC X) (by rfl) rfl rfl rfl HA6 (by kernel_rfl) (show (31 : Nat) ≤ 31 from Nat.le_refl 31) (by rfl) (st_whole _ _ rfl) ?_; intro wz HZ bz gz))
  exact bodyPost_ret (results_blk_tmp rfl rfl HZ (by kernel_rfl) (by kernel_rfl)) rfl ⟨_, rfl, ErrAs.nil, B6.trans bz⟩

set_option maxHeartbeats 3200000 in
theorem bpRead_rapid_bad (s : ByteArray) (w : World) (hs : s.size ≤ 300) (h : ¬ s.size < 4) (hh : hdAt s = [0, 0, 2, 2]) (e : Int) (x : Nat) (he : bdE s.size 4 (pzAt s (4 + 21)) = some (e, x)) :
    Calls Tryd.prog 17 #[.string s] w (ReadsAs (bpC zBp) e x w) := by
  have hL : s.data.toList.length = s.size := by simp
  have hb : 0 + s.size ≤ 281474976710656 := by omega
  have HBY : Hid (∀ {g : Nat} {W : World}, RdT W g s 0 (0, 0, -1) → Calls Tryd.prog 37 #[.pointer (some ⟨g, 0, none⟩), .int .i64 4] W fun e w' => e = .returned (.string ⟨#[0, 0, 2, 2]⟩) ∧ RdT w' g s 0 (4, 0, -1) ∧ W.grownBy w' (some g)) := fun {g W} h => by
    have q := bytes_t (0, 0, -1) 4 W h (Nat.zero_le _) hb
    have e := tkN_go s.data.toList 0 (0, 0, -1) 4 false rfl (by show 0 + 4 ≤ _; omega) (by simp)
    rw [show ((4 : Int)) = ((4 : Nat) : Int) from rfl, e, show (s.data.toList.drop 0).take 4 = [0, 0, 2, 2] from hh] at q
    exact q
  have HBD : Hid (∀ {g : Nat} {W : World}, RdT W g s 0 (4, 0, -1) → Calls Tryd.prog 52 #[.pointer (some ⟨g, 0, none⟩), .int .i64 3] W fun e w' => e = .returned (.agg (bpC (rbB s.data.toList 0 (4, 0, -1) 3))) ∧ RdT w' g s 0 (sb9 s.data.toList 0 (4, 0, -1)) ∧ W.grownBy w' (some g)) := fun {g W} h => readBody_t (4, 0, -1) 3 W h (by show 4 ≤ _; omega) hb
  have h9le : (sb9 s.data.toList 0 (4, 0, -1)).1 ≤ s.size := by
    have P0 : (4 : Nat) ≤ s.data.toList.length := by omega
    have q := nmS_le s.data.toList 0 _ 2 (nmS_le s.data.toList 0 _ 2 (nmS_le s.data.toList 0 _ 2 (nmS_le s.data.toList 0 _ 2 (rpSt_le s.data.toList 0 _ (rdBs_le s.data.toList 0 _ (nmS_le s.data.toList 0 _ 4 (rdBs_le s.data.toList 0 _ (nmS_le s.data.toList 0 (4, 0, -1) 1 P0))))))))
    rw [hL] at q
    exact q
  rcases sb_ways s 4 (by omega) 3 with ⟨e1, x1, q, hne, h9⟩ | ⟨q, _⟩
  rotate_left
  · rw [he] at q
    cases q
  rw [he] at q
  obtain ⟨rfl, rfl⟩ : e = e1 ∧ x = x1 := by simpa using q
  have hX : rbB s.data.toList 0 (4, 0, -1) 3 = zBp := by unfold rbB; rw [if_neg (by rw [h9]; exact hne)]
  rw [hX] at HBD
  generalize sb9 s.data.toList 0 (4, 0, -1) = s9 at *
  obtain ⟨n9, e9, p9⟩ := s9
  obtain ⟨rfl, rfl⟩ : e9 = e ∧ p9 = (x : Int) := by simpa using h9
  have HTL : Hid (∀ {g : Nat} {W : World}, RdT W g s 0 (n9, e9, (x : Int)) → Calls Tryd.prog 34 #[.pointer (some ⟨g, 0, none⟩), .string ⟨#[0]⟩, .slice none 0 0] W fun e w' => e = .returned (.string ⟨(exV s.data.toList (n9, e9, (x : Int)) [0]).toArray⟩) ∧ RdT w' g s 0 (n9, e9, (x : Int)) ∧ W.grownBy w' (some g)) := fun {g W} h => by
    have q := readTail_t (n9, e9, (x : Int)) W h h9le hb
    have e1 : tlS s.data.toList (n9, e9, (x : Int)) = (n9, e9, (x : Int)) := by
      unfold tlS tl1
      rw [tkN_bad _ _ _ _ _ (show (n9, e9, (x : Int)).2.1 ≠ 0 from hne), if_neg (by simp), flR_bad _ _ _ (show (n9, e9, (x : Int)).2.1 ≠ 0 from hne)]
    rw [e1] at q
    exact q
  clear q he h9 hX h9le
  have HA0 := Blk.new w 52 (bpC zBp)
  have B0 : Below w.heap.size w (w.alloc (.cells (bpC zBp) 52)) := (Below.refl _ _).alloc (Nat.le_refl _) _
  go_enter Tryd.func17, Tryd.ntmps17
  go_upto_region 1 with (refine alloc_blk 52 (bpC zBp) (by rfl) rfl Tryd.bpZero ?_)
  generalize w.alloc (.cells (bpC zBp) 52) = w1 at *
  have hA1 := HA0.lt
  go_wp2_with fail
  refine (new_t s 0 _).mono ?_
  rintro e w2 ⟨rfl, HR2, b2⟩
  have HR3 := HR2.below ((Below.refl _ _).alloc (Nat.le_refl _) (.cells (bpC zBp) 52))
  have HA3 := (HA0.kept b2).alloc (.cells (bpC zBp) 52)
  have HV3 := Blk.new w2 52 (bpC zBp)
  have B2 := B0.trans (b2.mono B0.size)
  have B3 := B2.alloc B2.size (.cells (bpC zBp) 52)
  have hg3 := HR2.lt
  have hv3 : w.heap.size < w2.heap.size := (HA0.kept b2).lt
  generalize w1.heap.size = g at *
  clear HA0 B0 b2 HR2 B2
  go_upto_region 3 with (refine alloc_blk 52 (bpC zBp) (by rfl) rfl Tryd.bpZero ?_)
  generalize w2.alloc (.cells (bpC zBp) 52) = w3 at *
  generalize w2.heap.size = v at *
  go_wp2_with fail
  refine (HBY.out HR3).mono ?_
  rintro e w4 ⟨rfl, HR4, g4⟩
  have HA4 := HA3.reads HR3 (by decide : 52 ≠ 104) g4
  have HV4 := HV3.reads HR3 (by decide : 52 ≠ 104) g4
  have B4 := grown_belowA B3 g4 B3.size (by omega)
  clear HR3 HA3 HV3 B3 g4
  go_wp2_with fail
  refine (HBD.out HR4).mono ?_
  rintro e w5 ⟨rfl, HR5, g5⟩
  have HA5 := HA4.reads HR4 (by decide : 52 ≠ 104) g5
  have HV5 := HV4.reads HR4 (by decide : 52 ≠ 104) g5
  have B5 := grown_belowA B4 g5 B4.size (by omega)
  clear HR4 HA4 HV4 B4 g5
  go_wp2_with (first | (refine build_blk (t := 52) (bpC zBp) (by rfl) rfl (by kernel_rfl) ?_) | (refine store_blk (k := 0) 52 (.agg (bpC zBp)) (bpC zBp) (by rfl) rfl rfl rfl HV5 (by kernel_rfl) (show (31 : Nat) ≤ 31 from Nat.le_refl 31) (by rfl) (st_whole _ _ rfl) ?_; intro w6 HV6 b6 g6; have HR6 := HR5.other HV5 (by decide) (by decide) g6; have HA6 := HA5.grown g6 (by simp; omega); have B6 := grown_belowA B5 g6 B5.size (by omega)))
  refine (HTL.out HR6).mono ?_
  rintro e w7 ⟨rfl, HR7, g7⟩
  have HA7 := HA6.reads HR6 (by decide : 52 ≠ 104) g7
  have HV7 := HV6.reads HR6 (by decide : 52 ≠ 104) g7
  have B7 := grown_belowA B6 g7 B6.size (by omega)
  clear HR6 HA6 HV6 B6 g7
  go_wp2_with fail
  have ltA := HA7.lt
  refine (err_t (n9, e9, (x : Int)) _ HR7 hne).mono ?_
  rintro e we ⟨rfl, hf, ke⟩
  have HAe := HA7.kept ke
  have Be := B7.trans (ke.mono B7.size)
  go_wp2_with (first | (refine build_blk (t := 52) (bpC zBp) (by rfl) rfl (by kernel_rfl) ?_) | (refine store_blk (k := 0) 52 (.agg (bpC zBp)) (bpC zBp) (by rfl) rfl rfl rfl HAe (by kernel_rfl) (show (31 : Nat) ≤ 31 from Nat.le_refl 31) (by rfl) (st_whole _ _ rfl) ?_; intro wz HZ bz gz; have hfz := hf.kept gz (by simp; omega)))
  exact bodyPost_ret (results_blk_tmp rfl rfl HZ (by kernel_rfl) (by kernel_rfl)) rfl ⟨_, rfl, Or.inr ⟨hne, _, rfl, hfz⟩, Be.trans bz⟩

set_option maxHeartbeats 3200000 in
theorem bpRead_rapid_ok (s : ByteArray) (w : World) (hs : s.size ≤ 300) (h : ¬ s.size < 4) (hh : hdAt s = [0, 0, 2, 2]) (he : bdE s.size 4 (pzAt s (4 + 21)) = none) (h35 : 35 ≤ s.size) (h36 : 36 ≤ s.size) (ht : tlAt s = [0]) :
    Calls Tryd.prog 17 #[.string s] w (ReadsAs (bpC (bpAt s 4 3)) 0 (-1) w) := by
  have hL : s.data.toList.length = s.size := by simp
  have hb : 0 + s.size ≤ 281474976710656 := by omega
  have HBY : Hid (∀ {g : Nat} {W : World}, RdT W g s 0 (0, 0, -1) → Calls Tryd.prog 37 #[.pointer (some ⟨g, 0, none⟩), .int .i64 4] W fun e w' => e = .returned (.string ⟨#[0, 0, 2, 2]⟩) ∧ RdT w' g s 0 (4, 0, -1) ∧ W.grownBy w' (some g)) := fun {g W} h => by
    have q := bytes_t (0, 0, -1) 4 W h (Nat.zero_le _) hb
    have e := tkN_go s.data.toList 0 (0, 0, -1) 4 false rfl (by show 0 + 4 ≤ _; omega) (by simp)
    rw [show ((4 : Int)) = ((4 : Nat) : Int) from rfl, e, show (s.data.toList.drop 0).take 4 = [0, 0, 2, 2] from hh] at q
    exact q
  have HBD : Hid (∀ {g : Nat} {W : World}, RdT W g s 0 (4, 0, -1) → Calls Tryd.prog 52 #[.pointer (some ⟨g, 0, none⟩), .int .i64 3] W fun e w' => e = .returned (.agg (bpC (rbB s.data.toList 0 (4, 0, -1) 3))) ∧ RdT w' g s 0 (sb9 s.data.toList 0 (4, 0, -1)) ∧ W.grownBy w' (some g)) := fun {g W} h => readBody_t (4, 0, -1) 3 W h (by show 4 ≤ _; omega) hb
  rcases sb_ways s 4 (by omega) 3 with ⟨e1, x1, q, _⟩ | ⟨q, h9, hraw⟩
  · rw [he] at q
    cases q
  have hX : rbB s.data.toList 0 (4, 0, -1) 3 = bpAt s 4 3 := by unfold rbB; rw [h9, if_pos rfl, hraw]; unfold cfB; rw [if_neg (show ¬ (bpAt s 4 3).k = 1 by show ¬ (3 : Int) = 1; decide)]
  rw [hX, h9] at HBD
  rw [show (4 : Nat) + 31 = 35 from rfl] at HBD
  clear q he h9 hX hraw
  generalize bpAt s 4 3 = X at *
  have HTL : Hid (∀ {g : Nat} {W : World}, RdT W g s 0 (35, 0, -1) → Calls Tryd.prog 34 #[.pointer (some ⟨g, 0, none⟩), .string ⟨#[0]⟩, .slice none 0 0] W fun e w' => e = .returned (.string ⟨(exV s.data.toList (35, 0, -1) [0]).toArray⟩) ∧ RdT w' g s 0 (36, 0, -1) ∧ W.grownBy w' (some g)) := fun {g W} h => by
    have q := readTail_t (35, 0, -1) W h h35 hb
    have e1 : tlS s.data.toList (35, 0, -1) = (36, 0, -1) := by
      have e : tkN s.data.toList 0 (35, 0, -1) 1 false = ((s.data.toList.drop 35).take 1, 36, 0, -1) := tkN_go s.data.toList 0 (35, 0, -1) 1 false rfl (by show 35 + 1 ≤ _; omega) (by simp)
      unfold tlS tl1
      rw [e]
      rw [if_pos (show (s.data.toList.drop 35).take 1 = [0] from ht)]
    rw [e1] at q
    exact q
  have HA0 := Blk.new w 52 (bpC zBp)
  have B0 : Below w.heap.size w (w.alloc (.cells (bpC zBp) 52)) := (Below.refl _ _).alloc (Nat.le_refl _) _
  go_enter Tryd.func17, Tryd.ntmps17
  go_upto_region 1 with (refine alloc_blk 52 (bpC zBp) (by rfl) rfl Tryd.bpZero ?_)
  generalize w.alloc (.cells (bpC zBp) 52) = w1 at *
  have hA1 := HA0.lt
  go_wp2_with fail
  refine (new_t s 0 _).mono ?_
  rintro e w2 ⟨rfl, HR2, b2⟩
  have HR3 := HR2.below ((Below.refl _ _).alloc (Nat.le_refl _) (.cells (bpC zBp) 52))
  have HA3 := (HA0.kept b2).alloc (.cells (bpC zBp) 52)
  have HV3 := Blk.new w2 52 (bpC zBp)
  have B2 := B0.trans (b2.mono B0.size)
  have B3 := B2.alloc B2.size (.cells (bpC zBp) 52)
  have hg3 := HR2.lt
  have hv3 : w.heap.size < w2.heap.size := (HA0.kept b2).lt
  generalize w1.heap.size = g at *
  clear HA0 B0 b2 HR2 B2
  go_upto_region 3 with (refine alloc_blk 52 (bpC zBp) (by rfl) rfl Tryd.bpZero ?_)
  generalize w2.alloc (.cells (bpC zBp) 52) = w3 at *
  generalize w2.heap.size = v at *
  go_wp2_with fail
  refine (HBY.out HR3).mono ?_
  rintro e w4 ⟨rfl, HR4, g4⟩
  have HA4 := HA3.reads HR3 (by decide : 52 ≠ 104) g4
  have HV4 := HV3.reads HR3 (by decide : 52 ≠ 104) g4
  have B4 := grown_belowA B3 g4 B3.size (by omega)
  clear HR3 HA3 HV3 B3 g4
  go_wp2_with fail
  refine (HBD.out HR4).mono ?_
  rintro e w5 ⟨rfl, HR5, g5⟩
  have HA5 := HA4.reads HR4 (by decide : 52 ≠ 104) g5
  have HV5 := HV4.reads HR4 (by decide : 52 ≠ 104) g5
  have B5 := grown_belowA B4 g5 B4.size (by omega)
  clear HR4 HA4 HV4 B4 g5
  go_wp2_with (first | (refine build_blk (t := 52) (bpC X) (by rfl) rfl (by kernel_rfl) ?_) | (refine store_blk (k := 0) 52 (.agg (bpC X)) (bpC X) (by rfl) rfl rfl rfl HV5 (by kernel_rfl) (show (31 : Nat) ≤ 31 from Nat.le_refl 31) (by rfl) (st_whole _ _ rfl) ?_; intro w6 HV6 b6 g6; have HR6 := HR5.other HV5 (by decide) (by decide) g6; have HA6 := HA5.grown g6 (by simp; omega); have B6 := grown_belowA B5 g6 B5.size (by omega)))
  refine (HTL.out HR6).mono ?_
  rintro e w7 ⟨rfl, HR7, g7⟩
  have HA7 := HA6.reads HR6 (by decide : 52 ≠ 104) g7
  have HV7 := HV6.reads HR6 (by decide : 52 ≠ 104) g7
  have B7 := grown_belowA B6 g7 B6.size (by omega)
  clear HR6 HA6 HV6 B6 g7
  go_wp2_with fail
  refine (err_ok (36, 0, -1) _ HR7 rfl).mono ?_
  rintro e we ⟨rfl, rfl⟩
  go_wp2_with (first | (refine load_blk (k := 0) 52 (bpC X) (by rfl) rfl rfl HV7 (by kernel_rfl) (by kernel_rfl) rfl ?_) | (refine store_blk (k := 0) 52 (.agg (bpC X)) (bpC X) (by rfl) rfl rfl rfl HA7 (by kernel_rfl) (show (31 : Nat) ≤ 31 from Nat.le_refl 31) (by rfl) (st_whole _ _ rfl) ?_; intro wz HZ bz gz))
  exact bodyPost_ret (results_blk_tmp rfl rfl HZ (by kernel_rfl) (by kernel_rfl)) rfl ⟨_, rfl, ErrAs.nil, B7.trans bz⟩

set_option maxHeartbeats 3200000 in
theorem bpRead_rapid_cut (s : ByteArray) (w : World) (hs : s.size ≤ 300) (h : ¬ s.size < 4) (hh : hdAt s = [0, 0, 2, 2]) (he : bdE s.size 4 (pzAt s (4 + 21)) = none) (h35 : 35 ≤ s.size) (h36 : ¬ 36 ≤ s.size) :
    Calls Tryd.prog 17 #[.string s] w (ReadsAs (bpC zBp) 7 35 w) := by
  have hL : s.data.toList.length = s.size := by simp
  have hb : 0 + s.size ≤ 281474976710656 := by omega
  have HBY : Hid (∀ {g : Nat} {W : World}, RdT W g s 0 (0, 0, -1) → Calls Tryd.prog 37 #[.pointer (some ⟨g, 0, none⟩), .int .i64 4] W fun e w' => e = .returned (.string ⟨#[0, 0, 2, 2]⟩) ∧ RdT w' g s 0 (4, 0, -1) ∧ W.grownBy w' (some g)) := fun {g W} h => by
    have q := bytes_t (0, 0, -1) 4 W h (Nat.zero_le _) hb
    have e := tkN_go s.data.toList 0 (0, 0, -1) 4 false rfl (by show 0 + 4 ≤ _; omega) (by simp)
    rw [show ((4 : Int)) = ((4 : Nat) : Int) from rfl, e, show (s.data.toList.drop 0).take 4 = [0, 0, 2, 2] from hh] at q
    exact q
  have HBD : Hid (∀ {g : Nat} {W : World}, RdT W g s 0 (4, 0, -1) → Calls Tryd.prog 52 #[.pointer (some ⟨g, 0, none⟩), .int .i64 3] W fun e w' => e = .returned (.agg (bpC (rbB s.data.toList 0 (4, 0, -1) 3))) ∧ RdT w' g s 0 (sb9 s.data.toList 0 (4, 0, -1)) ∧ W.grownBy w' (some g)) := fun {g W} h => readBody_t (4, 0, -1) 3 W h (by show 4 ≤ _; omega) hb
  rcases sb_ways s 4 (by omega) 3 with ⟨e1, x1, q, _⟩ | ⟨q, h9, hraw⟩
  · rw [he] at q
    cases q
  have hX : rbB s.data.toList 0 (4, 0, -1) 3 = bpAt s 4 3 := by unfold rbB; rw [h9, if_pos rfl, hraw]; unfold cfB; rw [if_neg (show ¬ (bpAt s 4 3).k = 1 by show ¬ (3 : Int) = 1; decide)]
  rw [hX, h9] at HBD
  rw [show (4 : Nat) + 31 = 35 from rfl] at HBD
  clear q he h9 hX hraw
  generalize bpAt s 4 3 = X at *
  have HTL : Hid (∀ {g : Nat} {W : World}, RdT W g s 0 (35, 0, -1) → Calls Tryd.prog 34 #[.pointer (some ⟨g, 0, none⟩), .string ⟨#[0]⟩, .slice none 0 0] W fun e w' => e = .returned (.string ⟨(exV s.data.toList (35, 0, -1) [0]).toArray⟩) ∧ RdT w' g s 0 (35, 7, 35) ∧ W.grownBy w' (some g)) := fun {g W} h => by
    have q := readTail_t (35, 0, -1) W h h35 hb
    have e1 : tlS s.data.toList (35, 0, -1) = (35, 7, 35) := by
      have e : tkN s.data.toList 0 (35, 0, -1) 1 false = ([], 35, 7, ((0 : Nat) : Int) + ((35 : Nat) : Int)) := tkN_miss s.data.toList 0 (35, 0, -1) 1 false rfl (by show ¬ 35 + 1 ≤ _; omega) (by show 35 ≤ _; omega) (by simp)
      unfold tlS tl1
      rw [e, if_neg (by simp), flR_bad _ _ _ (by simp)]
      rfl
    rw [e1] at q
    exact q
  have HA0 := Blk.new w 52 (bpC zBp)
  have B0 : Below w.heap.size w (w.alloc (.cells (bpC zBp) 52)) := (Below.refl _ _).alloc (Nat.le_refl _) _
  go_enter Tryd.func17, Tryd.ntmps17
  go_upto_region 1 with (refine alloc_blk 52 (bpC zBp) (by rfl) rfl Tryd.bpZero ?_)
  generalize w.alloc (.cells (bpC zBp) 52) = w1 at *
  have hA1 := HA0.lt
  go_wp2_with fail
  refine (new_t s 0 _).mono ?_
  rintro e w2 ⟨rfl, HR2, b2⟩
  have HR3 := HR2.below ((Below.refl _ _).alloc (Nat.le_refl _) (.cells (bpC zBp) 52))
  have HA3 := (HA0.kept b2).alloc (.cells (bpC zBp) 52)
  have HV3 := Blk.new w2 52 (bpC zBp)
  have B2 := B0.trans (b2.mono B0.size)
  have B3 := B2.alloc B2.size (.cells (bpC zBp) 52)
  have hg3 := HR2.lt
  have hv3 : w.heap.size < w2.heap.size := (HA0.kept b2).lt
  generalize w1.heap.size = g at *
  clear HA0 B0 b2 HR2 B2
  go_upto_region 3 with (refine alloc_blk 52 (bpC zBp) (by rfl) rfl Tryd.bpZero ?_)
  generalize w2.alloc (.cells (bpC zBp) 52) = w3 at *
  generalize w2.heap.size = v at *
  go_wp2_with fail
  refine (HBY.out HR3).mono ?_
  rintro e w4 ⟨rfl, HR4, g4⟩
  have HA4 := HA3.reads HR3 (by decide : 52 ≠ 104) g4
  have HV4 := HV3.reads HR3 (by decide : 52 ≠ 104) g4
  have B4 := grown_belowA B3 g4 B3.size (by omega)
  clear HR3 HA3 HV3 B3 g4
  go_wp2_with fail
  refine (HBD.out HR4).mono ?_
  rintro e w5 ⟨rfl, HR5, g5⟩
  have HA5 := HA4.reads HR4 (by decide : 52 ≠ 104) g5
  have HV5 := HV4.reads HR4 (by decide : 52 ≠ 104) g5
  have B5 := grown_belowA B4 g5 B4.size (by omega)
  clear HR4 HA4 HV4 B4 g5
  go_wp2_with (first | (refine build_blk (t := 52) (bpC X) (by rfl) rfl (by kernel_rfl) ?_) | (refine store_blk (k := 0) 52 (.agg (bpC X)) (bpC X) (by rfl) rfl rfl rfl HV5 (by kernel_rfl) (show (31 : Nat) ≤ 31 from Nat.le_refl 31) (by rfl) (st_whole _ _ rfl) ?_; intro w6 HV6 b6 g6; have HR6 := HR5.other HV5 (by decide) (by decide) g6; have HA6 := HA5.grown g6 (by simp; omega); have B6 := grown_belowA B5 g6 B5.size (by omega)))
  refine (HTL.out HR6).mono ?_
  rintro e w7 ⟨rfl, HR7, g7⟩
  have HA7 := HA6.reads HR6 (by decide : 52 ≠ 104) g7
  have HV7 := HV6.reads HR6 (by decide : 52 ≠ 104) g7
  have B7 := grown_belowA B6 g7 B6.size (by omega)
  clear HR6 HA6 HV6 B6 g7
  go_wp2_with fail
  have ltA := HA7.lt
  refine (err_t (35, 7, 35) _ HR7 (by decide)).mono ?_
  rintro e we ⟨rfl, hf, ke⟩
  have HAe := HA7.kept ke
  have Be := B7.trans (ke.mono B7.size)
  go_wp2_with (first | (refine build_blk (t := 52) (bpC zBp) (by rfl) rfl (by kernel_rfl) ?_) | (refine store_blk (k := 0) 52 (.agg (bpC zBp)) (bpC zBp) (by rfl) rfl rfl rfl HAe (by kernel_rfl) (show (31 : Nat) ≤ 31 from Nat.le_refl 31) (by rfl) (st_whole _ _ rfl) ?_; intro wz HZ bz gz; have hfz := hf.kept gz (by simp; omega)))
  exact bodyPost_ret (results_blk_tmp rfl rfl HZ (by kernel_rfl) (by kernel_rfl)) rfl ⟨_, rfl, Or.inr ⟨(by decide), _, rfl, hfz⟩, Be.trans bz⟩

set_option maxHeartbeats 3200000 in
theorem bpRead_rapid_form (s : ByteArray) (w : World) (hs : s.size ≤ 300) (h : ¬ s.size < 4) (hh : hdAt s = [0, 0, 2, 2]) (he : bdE s.size 4 (pzAt s (4 + 21)) = none) (h35 : 35 ≤ s.size) (h36 : 36 ≤ s.size) (ht : ¬ tlAt s = [0]) :
    Calls Tryd.prog 17 #[.string s] w (ReadsAs (bpC zBp) 3 35 w) := by
  have hL : s.data.toList.length = s.size := by simp
  have hb : 0 + s.size ≤ 281474976710656 := by omega
  have HBY : Hid (∀ {g : Nat} {W : World}, RdT W g s 0 (0, 0, -1) → Calls Tryd.prog 37 #[.pointer (some ⟨g, 0, none⟩), .int .i64 4] W fun e w' => e = .returned (.string ⟨#[0, 0, 2, 2]⟩) ∧ RdT w' g s 0 (4, 0, -1) ∧ W.grownBy w' (some g)) := fun {g W} h => by
    have q := bytes_t (0, 0, -1) 4 W h (Nat.zero_le _) hb
    have e := tkN_go s.data.toList 0 (0, 0, -1) 4 false rfl (by show 0 + 4 ≤ _; omega) (by simp)
    rw [show ((4 : Int)) = ((4 : Nat) : Int) from rfl, e, show (s.data.toList.drop 0).take 4 = [0, 0, 2, 2] from hh] at q
    exact q
  have HBD : Hid (∀ {g : Nat} {W : World}, RdT W g s 0 (4, 0, -1) → Calls Tryd.prog 52 #[.pointer (some ⟨g, 0, none⟩), .int .i64 3] W fun e w' => e = .returned (.agg (bpC (rbB s.data.toList 0 (4, 0, -1) 3))) ∧ RdT w' g s 0 (sb9 s.data.toList 0 (4, 0, -1)) ∧ W.grownBy w' (some g)) := fun {g W} h => readBody_t (4, 0, -1) 3 W h (by show 4 ≤ _; omega) hb
  rcases sb_ways s 4 (by omega) 3 with ⟨e1, x1, q, _⟩ | ⟨q, h9, hraw⟩
  · rw [he] at q
    cases q
  have hX : rbB s.data.toList 0 (4, 0, -1) 3 = bpAt s 4 3 := by unfold rbB; rw [h9, if_pos rfl, hraw]; unfold cfB; rw [if_neg (show ¬ (bpAt s 4 3).k = 1 by show ¬ (3 : Int) = 1; decide)]
  rw [hX, h9] at HBD
  rw [show (4 : Nat) + 31 = 35 from rfl] at HBD
  clear q he h9 hX hraw
  generalize bpAt s 4 3 = X at *
  have HTL : Hid (∀ {g : Nat} {W : World}, RdT W g s 0 (35, 0, -1) → Calls Tryd.prog 34 #[.pointer (some ⟨g, 0, none⟩), .string ⟨#[0]⟩, .slice none 0 0] W fun e w' => e = .returned (.string ⟨(exV s.data.toList (35, 0, -1) [0]).toArray⟩) ∧ RdT w' g s 0 (36, 3, 35) ∧ W.grownBy w' (some g)) := fun {g W} h => by
    have q := readTail_t (35, 0, -1) W h h35 hb
    have e1 : tlS s.data.toList (35, 0, -1) = (36, 3, 35) := by
      have e : tkN s.data.toList 0 (35, 0, -1) 1 false = ((s.data.toList.drop 35).take 1, 36, 0, -1) := tkN_go s.data.toList 0 (35, 0, -1) 1 false rfl (by show 35 + 1 ≤ _; omega) (by simp)
      unfold tlS tl1
      rw [e]
      rw [if_neg (show ¬ (s.data.toList.drop 35).take 1 = [0] from ht)]
      rfl
    rw [e1] at q
    exact q
  have HA0 := Blk.new w 52 (bpC zBp)
  have B0 : Below w.heap.size w (w.alloc (.cells (bpC zBp) 52)) := (Below.refl _ _).alloc (Nat.le_refl _) _
  go_enter Tryd.func17, Tryd.ntmps17
  go_upto_region 1 with (refine alloc_blk 52 (bpC zBp) (by rfl) rfl Tryd.bpZero ?_)
  generalize w.alloc (.cells (bpC zBp) 52) = w1 at *
  have hA1 := HA0.lt
  go_wp2_with fail
  refine (new_t s 0 _).mono ?_
  rintro e w2 ⟨rfl, HR2, b2⟩
  have HR3 := HR2.below ((Below.refl _ _).alloc (Nat.le_refl _) (.cells (bpC zBp) 52))
  have HA3 := (HA0.kept b2).alloc (.cells (bpC zBp) 52)
  have HV3 := Blk.new w2 52 (bpC zBp)
  have B2 := B0.trans (b2.mono B0.size)
  have B3 := B2.alloc B2.size (.cells (bpC zBp) 52)
  have hg3 := HR2.lt
  have hv3 : w.heap.size < w2.heap.size := (HA0.kept b2).lt
  generalize w1.heap.size = g at *
  clear HA0 B0 b2 HR2 B2
  go_upto_region 3 with (refine alloc_blk 52 (bpC zBp) (by rfl) rfl Tryd.bpZero ?_)
  generalize w2.alloc (.cells (bpC zBp) 52) = w3 at *
  generalize w2.heap.size = v at *
  go_wp2_with fail
  refine (HBY.out HR3).mono ?_
  rintro e w4 ⟨rfl, HR4, g4⟩
  have HA4 := HA3.reads HR3 (by decide : 52 ≠ 104) g4
  have HV4 := HV3.reads HR3 (by decide : 52 ≠ 104) g4
  have B4 := grown_belowA B3 g4 B3.size (by omega)
  clear HR3 HA3 HV3 B3 g4
  go_wp2_with fail
  refine (HBD.out HR4).mono ?_
  rintro e w5 ⟨rfl, HR5, g5⟩
  have HA5 := HA4.reads HR4 (by decide : 52 ≠ 104) g5
  have HV5 := HV4.reads HR4 (by decide : 52 ≠ 104) g5
  have B5 := grown_belowA B4 g5 B4.size (by omega)
  clear HR4 HA4 HV4 B4 g5
  go_wp2_with (first | (refine build_blk (t := 52) (bpC X) (by rfl) rfl (by kernel_rfl) ?_) | (refine store_blk (k := 0) 52 (.agg (bpC X)) (bpC X) (by rfl) rfl rfl rfl HV5 (by kernel_rfl) (show (31 : Nat) ≤ 31 from Nat.le_refl 31) (by rfl) (st_whole _ _ rfl) ?_; intro w6 HV6 b6 g6; have HR6 := HR5.other HV5 (by decide) (by decide) g6; have HA6 := HA5.grown g6 (by simp; omega); have B6 := grown_belowA B5 g6 B5.size (by omega)))
  refine (HTL.out HR6).mono ?_
  rintro e w7 ⟨rfl, HR7, g7⟩
  have HA7 := HA6.reads HR6 (by decide : 52 ≠ 104) g7
  have HV7 := HV6.reads HR6 (by decide : 52 ≠ 104) g7
  have B7 := grown_belowA B6 g7 B6.size (by omega)
  clear HR6 HA6 HV6 B6 g7
  go_wp2_with fail
  have ltA := HA7.lt
  refine (err_t (36, 3, 35) _ HR7 (by decide)).mono ?_
  rintro e we ⟨rfl, hf, ke⟩
  have HAe := HA7.kept ke
  have Be := B7.trans (ke.mono B7.size)
  go_wp2_with (first | (refine build_blk (t := 52) (bpC zBp) (by rfl) rfl (by kernel_rfl) ?_) | (refine store_blk (k := 0) 52 (.agg (bpC zBp)) (bpC zBp) (by rfl) rfl rfl rfl HAe (by kernel_rfl) (show (31 : Nat) ≤ 31 from Nat.le_refl 31) (by rfl) (st_whole _ _ rfl) ?_; intro wz HZ bz gz; have hfz := hf.kept gz (by simp; omega)))
  exact bodyPost_ret (results_blk_tmp rfl rfl HZ (by kernel_rfl) (by kernel_rfl)) rfl ⟨_, rfl, Or.inr ⟨(by decide), _, rfl, hfz⟩, Be.trans bz⟩


end Go.Proofs.YtjoepmfineinfaaDoor
