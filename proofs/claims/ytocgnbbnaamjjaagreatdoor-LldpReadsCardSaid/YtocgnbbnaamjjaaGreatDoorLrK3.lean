/- Texts one behind the other. lldp.readRest, readName, readCaps, readOrg, readManage at every state of a reader. lldp.readManage at every state of a reader. -/
import Derived.Test.YtocgnbbnaamjjaaGreatDoorLrK1
import Derived.Test.YtocgnbbnaamjjaaGreatDoorLrK2
namespace Go.Proofs.YtocgnbbnaamjjaaGreatDoor
open Go.RowKit
attribute [local go_sem ↓] Go.wp_at_zero Go.wp_at_succ
set_option linter.unusedSimpArgs false
set_option linter.unusedVariables false
set_option maxRecDepth 100000

/-- All that is left. -/
def rsV (l : List UInt8) (st : RSt) : List UInt8 := (tkN l 0 st ((l.length - st.1 : Nat) : Int) false).1

def rsS (l : List UInt8) (st : RSt) : RSt := (tkN l 0 st ((l.length - st.1 : Nat) : Int) false).2

theorem rsS_le (l : List UInt8) (st : RSt) (h : st.1 ≤ l.length) : (rsS l st).1 ≤ l.length := tkN_le l 0 st _ false h

theorem readRest_t {g : Nat} {s : ByteArray} (st : RSt) (w : World) (h : RdT w g s 0 st) (hp : st.1 ≤ s.size) (hb : s.size ≤ 281474976710656) :
    Calls Tryz.prog 54 #[.pointer (some ⟨g, 0, none⟩)] w fun e w' => e = .returned (.string ⟨(rsV s.data.toList st).toArray⟩) ∧ RdT w' g s 0 (rsS s.data.toList st) ∧ w.grownBy w' (some g) := by
  have hL := Lib.hid (leftT st w h hp)
  have hls : s.data.toList.length = s.size := by simp
  have hB := Lib.hid (bytes_t st ((s.size - st.1 : Nat) : Int) w h hp (by omega))
  unfold rsV rsS
  rw [hls]
  clear hls
  generalize tkN s.data.toList 0 st ((s.size - st.1 : Nat) : Int) false = r at *
  generalize (s.size - st.1 : Nat) = n at *
  clear h hp
  go_enter Tryz.func54, Tryz.ntmps54
  go_wp2_with fail
  refine hL.out.mono ?_
  rintro e w1 ⟨rfl, rfl⟩
  go_wp2_with fail
  refine hB.out.mono ?_
  rintro e w2 ⟨rfl, H2, g2⟩
  go_wp2
  go_ret
  exact ⟨rfl, H2, g2⟩

def rnV (l : List UInt8) (st : RSt) : Nm := ⟨(nmV l 0 st 1 : Nat), ⟨(rsV l (nmS l 0 st 1)).toArray⟩⟩

def rnS (l : List UInt8) (st : RSt) : RSt := rsS l (nmS l 0 st 1)

theorem readName_t {g : Nat} {s : ByteArray} (st : RSt) (w : World) (h : RdT w g s 0 st) (hp : st.1 ≤ s.size) (hb : s.size ≤ 281474976710656) :
    Calls Tryz.prog 51 #[.pointer (some ⟨g, 0, none⟩)] w fun e w' => e = .returned (.agg (nmC (rnV s.data.toList st))) ∧ RdT w' g s 0 (rnS s.data.toList st) ∧ w.grownBy w' (some g) := by
  have hls : s.data.toList.length = s.size := by simp
  have hg := h.lt
  have hp0 : st.1 ≤ s.data.toList.length := by rw [hls]; exact hp
  unfold rnV rnS
  have N0 := Lib.hid (fun W (h : RdT W g s 0 (st)) => numK_t (st) 1 (by decide) W h (by rw [← hls]; exact hp0) (by omega))
  have hp1 : (nmS s.data.toList 0 (st) 1).1 ≤ s.data.toList.length := nmS_le _ _ _ _ hp0
  have hv0 : nmV s.data.toList 0 (st) 1 < 256 ^ 1 := nmV_lt _ _ _ 1
  generalize nmV s.data.toList 0 (st) 1 = v0 at *
  generalize nmS s.data.toList 0 (st) 1 = s1 at *
  have N1 := Lib.hid (fun W (h : RdT W g s 0 (s1)) => readRest_t (s1) W h (by rw [← hls]; exact hp1) hb)
  have hp2 : (rsS s.data.toList (s1)).1 ≤ s.data.toList.length := rsS_le _ _ hp1
  generalize rsV s.data.toList (s1) = v1 at *
  generalize rsS s.data.toList (s1) = s2 at *
  clear hp hp0 hp1 hp2 hls
  have R1 := Blk.new w 23 (nmC zNm)
  have H1 := h.al (.cells (nmC zNm) 23)
  have G1 : w.grownBy (w.alloc (.cells (nmC zNm) 23)) (some g) := World.grownBy_alloc w _ _
  go_enter Tryz.func51, Tryz.ntmps51
  go_wp2_with (refine alloc_blk 23 (nmC zNm) (by rfl) rfl Tryz.nmZero ?_)
  generalize w.alloc (.cells (nmC zNm) 23) = w1 at *
  refine (N0.out _ H1).mono ?_
  rintro e w2 ⟨rfl, H2, g2⟩
  have R2 := R1.grown g2 (by simp; omega)
  have G2 := grown_same G1 g2
  clear R1 H1 G1 g2
  go_wp2_with fail
  refine (N1.out _ H2).mono ?_
  rintro e w3 ⟨rfl, H3, g3⟩
  have R3 := R2.grown g3 (by simp; omega)
  have G3 := grown_same G2 g3
  clear R2 H2 G2 g3
  go_wp2_with (first
    | (refine build_blk (t := 23) (nmC ⟨(v0 : Nat), ⟨v1.toArray⟩⟩) (by rfl) rfl (by kernel_rfl) ?_)
    | (refine store_blk (k := 0) 23 (.agg (nmC ⟨(v0 : Nat), ⟨v1.toArray⟩⟩)) (nmC ⟨(v0 : Nat), ⟨v1.toArray⟩⟩) (by rfl) rfl rfl rfl R3 (by kernel_rfl) (Nat.le_of_eq rfl) (by rfl) (st_whole _ _ rfl) ?_; intro w4 R4 b4 g4; have H4 := H3.other R3 (by decide) (by decide) g4; have G4 := grown_own G3 g4 (Nat.le_refl _))
    | fail)
  exact bodyPost_ret (results_blk rfl rfl R4 (by kernel_rfl) (by kernel_rfl)) rfl ⟨rfl, H4, G4⟩

def rcV (l : List UInt8) (st : RSt) : Cp := ⟨(nmV l 0 st 2 : Nat), (nmV l 0 (nmS l 0 st 2) 2 : Nat)⟩

def rcS (l : List UInt8) (st : RSt) : RSt := nmS l 0 (nmS l 0 st 2) 2

theorem readCaps_t {g : Nat} {s : ByteArray} (st : RSt) (w : World) (h : RdT w g s 0 st) (hp : st.1 ≤ s.size) (hb : s.size ≤ 281474976710656) :
    Calls Tryz.prog 57 #[.pointer (some ⟨g, 0, none⟩)] w fun e w' => e = .returned (.agg (cpC (rcV s.data.toList st))) ∧ RdT w' g s 0 (rcS s.data.toList st) ∧ w.grownBy w' (some g) := by
  have hls : s.data.toList.length = s.size := by simp
  have hg := h.lt
  have hp0 : st.1 ≤ s.data.toList.length := by rw [hls]; exact hp
  unfold rcV rcS
  have N0 := Lib.hid (fun W (h : RdT W g s 0 (st)) => numK_t (st) 2 (by decide) W h (by rw [← hls]; exact hp0) (by omega))
  have hp1 : (nmS s.data.toList 0 (st) 2).1 ≤ s.data.toList.length := nmS_le _ _ _ _ hp0
  have hv0 : nmV s.data.toList 0 (st) 2 < 256 ^ 2 := nmV_lt _ _ _ 2
  generalize nmV s.data.toList 0 (st) 2 = v0 at *
  generalize nmS s.data.toList 0 (st) 2 = s1 at *
  have N1 := Lib.hid (fun W (h : RdT W g s 0 (s1)) => numK_t (s1) 2 (by decide) W h (by rw [← hls]; exact hp1) (by omega))
  have hp2 : (nmS s.data.toList 0 (s1) 2).1 ≤ s.data.toList.length := nmS_le _ _ _ _ hp1
  have hv1 : nmV s.data.toList 0 (s1) 2 < 256 ^ 2 := nmV_lt _ _ _ 2
  generalize nmV s.data.toList 0 (s1) 2 = v1 at *
  generalize nmS s.data.toList 0 (s1) 2 = s2 at *
  clear hp hp0 hp1 hp2 hls
  have R1 := Blk.new w 86 (cpC zCp)
  have H1 := h.al (.cells (cpC zCp) 86)
  have G1 : w.grownBy (w.alloc (.cells (cpC zCp) 86)) (some g) := World.grownBy_alloc w _ _
  go_enter Tryz.func57, Tryz.ntmps57
  go_wp2_with (refine alloc_blk 86 (cpC zCp) (by rfl) rfl Tryz.cpZero ?_)
  generalize w.alloc (.cells (cpC zCp) 86) = w1 at *
  refine (N0.out _ H1).mono ?_
  rintro e w2 ⟨rfl, H2, g2⟩
  have R2 := R1.grown g2 (by simp; omega)
  have G2 := grown_same G1 g2
  clear R1 H1 G1 g2
  go_wp2_with fail
  refine (N1.out _ H2).mono ?_
  rintro e w3 ⟨rfl, H3, g3⟩
  have R3 := R2.grown g3 (by simp; omega)
  have G3 := grown_same G2 g3
  clear R2 H2 G2 g3
  go_wp2_with (first
    | (refine build_blk (t := 86) (cpC ⟨(v0 : Nat), (v1 : Nat)⟩) (by rfl) rfl (by kernel_rfl) ?_)
    | (refine store_blk (k := 0) 86 (.agg (cpC ⟨(v0 : Nat), (v1 : Nat)⟩)) (cpC ⟨(v0 : Nat), (v1 : Nat)⟩) (by rfl) rfl rfl rfl R3 (by kernel_rfl) (Nat.le_of_eq rfl) (by rfl) (st_whole _ _ rfl) ?_; intro w4 R4 b4 g4; have H4 := H3.other R3 (by decide) (by decide) g4; have G4 := grown_own G3 g4 (Nat.le_refl _))
    | fail)
  exact bodyPost_ret (results_blk rfl rfl R4 (by kernel_rfl) (by kernel_rfl)) rfl ⟨rfl, H4, G4⟩

def roV (l : List UInt8) (st : RSt) : Og := ⟨(nmV l 0 st 3 : Nat), (nmV l 0 (nmS l 0 st 3) 1 : Nat), ⟨(rsV l (nmS l 0 (nmS l 0 st 3) 1)).toArray⟩⟩

def roS (l : List UInt8) (st : RSt) : RSt := rsS l (nmS l 0 (nmS l 0 st 3) 1)

theorem readOrg_t {g : Nat} {s : ByteArray} (st : RSt) (w : World) (h : RdT w g s 0 st) (hp : st.1 ≤ s.size) (hb : s.size ≤ 281474976710656) :
    Calls Tryz.prog 63 #[.pointer (some ⟨g, 0, none⟩)] w fun e w' => e = .returned (.agg (ogC (roV s.data.toList st))) ∧ RdT w' g s 0 (roS s.data.toList st) ∧ w.grownBy w' (some g) := by
  have hls : s.data.toList.length = s.size := by simp
  have hg := h.lt
  have hp0 : st.1 ≤ s.data.toList.length := by rw [hls]; exact hp
  unfold roV roS
  have N0 := Lib.hid (fun W (h : RdT W g s 0 (st)) => numK_t (st) 3 (by decide) W h (by rw [← hls]; exact hp0) (by omega))
  have hp1 : (nmS s.data.toList 0 (st) 3).1 ≤ s.data.toList.length := nmS_le _ _ _ _ hp0
  have hv0 : nmV s.data.toList 0 (st) 3 < 256 ^ 3 := nmV_lt _ _ _ 3
  generalize nmV s.data.toList 0 (st) 3 = v0 at *
  generalize nmS s.data.toList 0 (st) 3 = s1 at *
  have N1 := Lib.hid (fun W (h : RdT W g s 0 (s1)) => numK_t (s1) 1 (by decide) W h (by rw [← hls]; exact hp1) (by omega))
  have hp2 : (nmS s.data.toList 0 (s1) 1).1 ≤ s.data.toList.length := nmS_le _ _ _ _ hp1
  have hv1 : nmV s.data.toList 0 (s1) 1 < 256 ^ 1 := nmV_lt _ _ _ 1
  generalize nmV s.data.toList 0 (s1) 1 = v1 at *
  generalize nmS s.data.toList 0 (s1) 1 = s2 at *
  have N2 := Lib.hid (fun W (h : RdT W g s 0 (s2)) => readRest_t (s2) W h (by rw [← hls]; exact hp2) hb)
  have hp3 : (rsS s.data.toList (s2)).1 ≤ s.data.toList.length := rsS_le _ _ hp2
  generalize rsV s.data.toList (s2) = v2 at *
  generalize rsS s.data.toList (s2) = s3 at *
  clear hp hp0 hp1 hp2 hp3 hls
  have R1 := Blk.new w 111 (ogC zOg)
  have H1 := h.al (.cells (ogC zOg) 111)
  have G1 : w.grownBy (w.alloc (.cells (ogC zOg) 111)) (some g) := World.grownBy_alloc w _ _
  go_enter Tryz.func63, Tryz.ntmps63
  go_wp2_with (refine alloc_blk 111 (ogC zOg) (by rfl) rfl Tryz.ogZero ?_)
  generalize w.alloc (.cells (ogC zOg) 111) = w1 at *
  refine (N0.out _ H1).mono ?_
  rintro e w2 ⟨rfl, H2, g2⟩
  have R2 := R1.grown g2 (by simp; omega)
  have G2 := grown_same G1 g2
  clear R1 H1 G1 g2
  go_wp2_with fail
  refine (N1.out _ H2).mono ?_
  rintro e w3 ⟨rfl, H3, g3⟩
  have R3 := R2.grown g3 (by simp; omega)
  have G3 := grown_same G2 g3
  clear R2 H2 G2 g3
  go_wp2_with fail
  refine (N2.out _ H3).mono ?_
  rintro e w4 ⟨rfl, H4, g4⟩
  have R4 := R3.grown g4 (by simp; omega)
  have G4 := grown_same G3 g4
  clear R3 H3 G3 g4
  go_wp2_with (first
    | (refine build_blk (t := 111) (ogC ⟨(v0 : Nat), (v1 : Nat), ⟨v2.toArray⟩⟩) (by rfl) rfl (by kernel_rfl) ?_)
    | (refine store_blk (k := 0) 111 (.agg (ogC ⟨(v0 : Nat), (v1 : Nat), ⟨v2.toArray⟩⟩)) (ogC ⟨(v0 : Nat), (v1 : Nat), ⟨v2.toArray⟩⟩) (by rfl) rfl rfl rfl R4 (by kernel_rfl) (Nat.le_of_eq rfl) (by rfl) (st_whole _ _ rfl) ?_; intro w5 R5 b5 g5; have H5 := H4.other R4 (by decide) (by decide) g5; have G5 := grown_own G4 g5 (Nat.le_refl _))
    | fail)
  exact bodyPost_ret (results_blk rfl rfl R5 (by kernel_rfl) (by kernel_rfl)) rfl ⟨rfl, H5, G5⟩

end Go.Proofs.YtocgnbbnaamjjaaGreatDoor

namespace Go.Proofs.YtocgnbbnaamjjaaGreatDoor
open Go.RowKit
attribute [local go_sem ↓] Go.wp_at_zero Go.wp_at_succ
set_option linter.unusedSimpArgs false
set_option linter.unusedVariables false
set_option maxRecDepth 100000

def rmM (l : List UInt8) (st : RSt) : Nat := max (nmV l 0 st 1) 1

def rm1 (l : List UInt8) (st : RSt) : RSt := nmS l 0 (nmS l 0 st 1) 1

def rm2 (l : List UInt8) (st : RSt) : RSt := (tkN l 0 (rm1 l st) ((rmM l st - 1 : Nat) : Int) false).2

def rm3 (l : List UInt8) (st : RSt) : RSt := nmS l 0 (rm2 l st) 1

def rm4 (l : List UInt8) (st : RSt) : RSt := nmS l 0 (rm3 l st) 4

def rm5 (l : List UInt8) (st : RSt) : RSt := nmS l 0 (rm4 l st) 1

def rmV (l : List UInt8) (st : RSt) : Mg := ⟨(nmV l 0 (nmS l 0 st 1) 1 : Nat), ⟨((tkN l 0 (rm1 l st) ((rmM l st - 1 : Nat) : Int) false).1).toArray⟩, (nmV l 0 (rm2 l st) 1 : Nat), (nmV l 0 (rm3 l st) 4 : Nat), ⟨((tkN l 0 (rm5 l st) (nmV l 0 (rm4 l st) 1 : Nat) false).1).toArray⟩⟩

def rmS (l : List UInt8) (st : RSt) : RSt := (tkN l 0 (rm5 l st) (nmV l 0 (rm4 l st) 1 : Nat) false).2

set_option maxHeartbeats 400000 in
theorem readManage_t {g : Nat} {s : ByteArray} (st : RSt) (w : World) (h : RdT w g s 0 st) (hp : st.1 ≤ s.size) (hb : s.size ≤ 281474976710656) :
    Calls Tryz.prog 60 #[.pointer (some ⟨g, 0, none⟩)] w fun e w' => e = .returned (.agg (mgC (rmV s.data.toList st))) ∧ RdT w' g s 0 (rmS s.data.toList st) ∧ w.grownBy w' (some g) := by
  have hls : s.data.toList.length = s.size := by simp
  have hg := h.lt
  have hp0 : st.1 ≤ s.data.toList.length := by rw [hls]; exact hp
  unfold rmV rmS rm5 rm4 rm3 rm2 rm1 rmM
  have N0 := Lib.hid (fun W (h : RdT W g s 0 (st)) => numK_t (st) 1 (by decide) W h (by rw [← hls]; exact hp0) (by omega))
  have hp1 : (nmS s.data.toList 0 (st) 1).1 ≤ s.data.toList.length := nmS_le _ _ _ _ hp0
  have hv0 : nmV s.data.toList 0 (st) 1 < 256 ^ 1 := nmV_lt _ _ _ 1
  generalize nmV s.data.toList 0 (st) 1 = v0 at *
  generalize nmS s.data.toList 0 (st) 1 = s1 at *
  obtain ⟨M, hM⟩ : ∃ M : Nat, M = max v0 1 - 1 := ⟨_, rfl⟩
  rw [← hM]
  have j2 : M < 256 := by omega
  have N1 := Lib.hid (fun W (h : RdT W g s 0 (s1)) => numK_t (s1) 1 (by decide) W h (by rw [← hls]; exact hp1) (by omega))
  have hp2 : (nmS s.data.toList 0 (s1) 1).1 ≤ s.data.toList.length := nmS_le _ _ _ _ hp1
  have hv1 : nmV s.data.toList 0 (s1) 1 < 256 ^ 1 := nmV_lt _ _ _ 1
  generalize nmV s.data.toList 0 (s1) 1 = v1 at *
  generalize nmS s.data.toList 0 (s1) 1 = s2 at *
  have N2 := Lib.hid (fun W (h : RdT W g s 0 (s2)) => bytes_t (s2) ((M : Nat)) W h (by rw [← hls]; exact hp2) (by omega))
  have hp3 : ((tkN s.data.toList 0 (s2) ((M : Nat)) false).2).1 ≤ s.data.toList.length := tkN_le _ _ _ _ _ hp2
  generalize (tkN s.data.toList 0 (s2) ((M : Nat)) false).1 = v2 at *
  generalize (tkN s.data.toList 0 (s2) ((M : Nat)) false).2 = s3 at *
  have N3 := Lib.hid (fun W (h : RdT W g s 0 (s3)) => numK_t (s3) 1 (by decide) W h (by rw [← hls]; exact hp3) (by omega))
  have hp4 : (nmS s.data.toList 0 (s3) 1).1 ≤ s.data.toList.length := nmS_le _ _ _ _ hp3
  have hv3 : nmV s.data.toList 0 (s3) 1 < 256 ^ 1 := nmV_lt _ _ _ 1
  generalize nmV s.data.toList 0 (s3) 1 = v3 at *
  generalize nmS s.data.toList 0 (s3) 1 = s4 at *
  have N4 := Lib.hid (fun W (h : RdT W g s 0 (s4)) => numK_t (s4) 4 (by decide) W h (by rw [← hls]; exact hp4) (by omega))
  have hp5 : (nmS s.data.toList 0 (s4) 4).1 ≤ s.data.toList.length := nmS_le _ _ _ _ hp4
  have hv4 : nmV s.data.toList 0 (s4) 4 < 256 ^ 4 := nmV_lt _ _ _ 4
  generalize nmV s.data.toList 0 (s4) 4 = v4 at *
  generalize nmS s.data.toList 0 (s4) 4 = s5 at *
  have N5 := Lib.hid (fun W (h : RdT W g s 0 (s5)) => numK_t (s5) 1 (by decide) W h (by rw [← hls]; exact hp5) (by omega))
  have hp6 : (nmS s.data.toList 0 (s5) 1).1 ≤ s.data.toList.length := nmS_le _ _ _ _ hp5
  have hv5 : nmV s.data.toList 0 (s5) 1 < 256 ^ 1 := nmV_lt _ _ _ 1
  generalize nmV s.data.toList 0 (s5) 1 = v5 at *
  generalize nmS s.data.toList 0 (s5) 1 = s6 at *
  have N6 := Lib.hid (fun W (h : RdT W g s 0 (s6)) => bytes_t (s6) ((v5 : Nat)) W h (by rw [← hls]; exact hp6) (by omega))
  have hp7 : ((tkN s.data.toList 0 (s6) ((v5 : Nat)) false).2).1 ≤ s.data.toList.length := tkN_le _ _ _ _ _ hp6
  generalize (tkN s.data.toList 0 (s6) ((v5 : Nat)) false).1 = v6 at *
  generalize (tkN s.data.toList 0 (s6) ((v5 : Nat)) false).2 = s7 at *
  clear hp hp0 hp1 hp2 hp3 hp4 hp5 hp6 hp7 hls
  by_cases hv : v0 < 1
  · obtain rfl : v0 = 0 := by omega
    obtain rfl : M = 0 := by omega
    clear hM hv0 hv
    have R1 := Blk.new w 89 (mgC zMg)
    have H1 := h.al (.cells (mgC zMg) 89)
    have G1 : w.grownBy (w.alloc (.cells (mgC zMg) 89)) (some g) := World.grownBy_alloc w _ _
    go_enter Tryz.func60, Tryz.ntmps60
    go_wp2_with (refine alloc_blk 89 (mgC zMg) (by rfl) rfl Tryz.mgZero ?_)
    generalize w.alloc (.cells (mgC zMg) 89) = w1 at *
    refine (N0.out _ H1).mono ?_
    rintro e w2 ⟨rfl, H2, g2⟩
    have R2 := R1.grown g2 (by simp; omega)
    have G2 := grown_same G1 g2
    clear R1 H1 G1 g2
    go_wp2_with fail
    refine (N1.out _ H2).mono ?_
    rintro e w3 ⟨rfl, H3, g3⟩
    have R3 := R2.grown g3 (by simp; omega)
    have G3 := grown_same G2 g3
    clear R2 H2 G2 g3
    go_wp2_with fail
    refine (N2.out _ H3).mono ?_
    rintro e w4 ⟨rfl, H4, g4⟩
    have R4 := R3.grown g4 (by simp; omega)
    have G4 := grown_same G3 g4
    clear R3 H3 G3 g4
    go_wp2_with fail
    refine (N3.out _ H4).mono ?_
    rintro e w5 ⟨rfl, H5, g5⟩
    have R5 := R4.grown g5 (by simp; omega)
    have G5 := grown_same G4 g5
    clear R4 H4 G4 g5
    go_wp2_with fail
    refine (N4.out _ H5).mono ?_
    rintro e w6 ⟨rfl, H6, g6⟩
    have R6 := R5.grown g6 (by simp; omega)
    have G6 := grown_same G5 g6
    clear R5 H5 G5 g6
    go_wp2_with fail
    refine (N5.out _ H6).mono ?_
    rintro e w7 ⟨rfl, H7, g7⟩
    have R7 := R6.grown g7 (by simp; omega)
    have G7 := grown_same G6 g7
    clear R6 H6 G6 g7
    go_wp2_with fail
    refine (N6.out _ H7).mono ?_
    rintro e w8 ⟨rfl, H8, g8⟩
    have R8 := R7.grown g8 (by simp; omega)
    have G8 := grown_same G7 g8
    clear R7 H7 G7 g8
    go_wp2_with (first
      | (refine build_blk (t := 89) (mgC ⟨(v1 : Nat), ⟨v2.toArray⟩, (v3 : Nat), (v4 : Nat), ⟨v6.toArray⟩⟩) (by rfl) rfl (by kernel_rfl) ?_)
      | (refine store_blk (k := 0) 89 (.agg (mgC ⟨(v1 : Nat), ⟨v2.toArray⟩, (v3 : Nat), (v4 : Nat), ⟨v6.toArray⟩⟩)) (mgC ⟨(v1 : Nat), ⟨v2.toArray⟩, (v3 : Nat), (v4 : Nat), ⟨v6.toArray⟩⟩) (by rfl) rfl rfl rfl R8 (by kernel_rfl) (Nat.le_of_eq rfl) (by rfl) (st_whole _ _ rfl) ?_; intro w9 R9 b9 g9; have H9 := H8.other R8 (by decide) (by decide) g9; have G9 := grown_own G8 g9 (Nat.le_refl _))
      | fail)
    exact bodyPost_ret (results_blk rfl rfl R9 (by kernel_rfl) (by kernel_rfl)) rfl ⟨rfl, H9, G9⟩
  · have j0 : (1 : Int) ≤ (v0 : Int) := by omega
    have j3 : ¬ ((v0 : Int) < 1) := by omega
    have j1 : (v0 : Int) - 1 = (M : Int) := by omega
    clear hM hv
    have R1 := Blk.new w 89 (mgC zMg)
    have H1 := h.al (.cells (mgC zMg) 89)
    have G1 : w.grownBy (w.alloc (.cells (mgC zMg) 89)) (some g) := World.grownBy_alloc w _ _
    go_enter Tryz.func60, Tryz.ntmps60
    go_wp2_with (refine alloc_blk 89 (mgC zMg) (by rfl) rfl Tryz.mgZero ?_)
    generalize w.alloc (.cells (mgC zMg) 89) = w1 at *
    refine (N0.out _ H1).mono ?_
    rintro e w2 ⟨rfl, H2, g2⟩
    have R2 := R1.grown g2 (by simp; omega)
    have G2 := grown_same G1 g2
    clear R1 H1 G1 g2
    go_wp2_with fail
    refine (N1.out _ H2).mono ?_
    rintro e w3 ⟨rfl, H3, g3⟩
    have R3 := R2.grown g3 (by simp; omega)
    have G3 := grown_same G2 g3
    clear R2 H2 G2 g3
    go_wp2_with fail
    refine (N2.out _ H3).mono ?_
    rintro e w4 ⟨rfl, H4, g4⟩
    have R4 := R3.grown g4 (by simp; omega)
    have G4 := grown_same G3 g4
    clear R3 H3 G3 g4
    go_wp2_with fail
    refine (N3.out _ H4).mono ?_
    rintro e w5 ⟨rfl, H5, g5⟩
    have R5 := R4.grown g5 (by simp; omega)
    have G5 := grown_same G4 g5
    clear R4 H4 G4 g5
    go_wp2_with fail
    refine (N4.out _ H5).mono ?_
    rintro e w6 ⟨rfl, H6, g6⟩
    have R6 := R5.grown g6 (by simp; omega)
    have G6 := grown_same G5 g6
    clear R5 H5 G5 g6
    go_wp2_with fail
    refine (N5.out _ H6).mono ?_
    rintro e w7 ⟨rfl, H7, g7⟩
    have R7 := R6.grown g7 (by simp; omega)
    have G7 := grown_same G6 g7
    clear R6 H6 G6 g7
    go_wp2_with fail
    refine (N6.out _ H7).mono ?_
    rintro e w8 ⟨rfl, H8, g8⟩
    have R8 := R7.grown g8 (by simp; omega)
    have G8 := grown_same G7 g8
    clear R7 H7 G7 g8
    go_wp2_with (first
      | (refine build_blk (t := 89) (mgC ⟨(v1 : Nat), ⟨v2.toArray⟩, (v3 : Nat), (v4 : Nat), ⟨v6.toArray⟩⟩) (by rfl) rfl (by kernel_rfl) ?_)
      | (refine store_blk (k := 0) 89 (.agg (mgC ⟨(v1 : Nat), ⟨v2.toArray⟩, (v3 : Nat), (v4 : Nat), ⟨v6.toArray⟩⟩)) (mgC ⟨(v1 : Nat), ⟨v2.toArray⟩, (v3 : Nat), (v4 : Nat), ⟨v6.toArray⟩⟩) (by rfl) rfl rfl rfl R8 (by kernel_rfl) (Nat.le_of_eq rfl) (by rfl) (st_whole _ _ rfl) ?_; intro w9 R9 b9 g9; have H9 := H8.other R8 (by decide) (by decide) g9; have G9 := grown_own G8 g9 (Nat.le_refl _))
      | fail)
    exact bodyPost_ret (results_blk rfl rfl R9 (by kernel_rfl) (by kernel_rfl)) rfl ⟨rfl, H9, G9⟩

end Go.Proofs.YtocgnbbnaamjjaaGreatDoor

