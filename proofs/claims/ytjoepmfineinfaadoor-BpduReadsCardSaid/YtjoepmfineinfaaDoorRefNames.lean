/- The reference's names of bridges and ports, at a cursor. -/
import Derived.Test.YtjoepmfineinfaaDoorPrReadPort
import Derived.Test.YtjoepmfineinfaaDoorCaught
import Derived.Test.YtjoepmfineinfaaDoorNamesAt
namespace Go.Proofs.YtjoepmfineinfaaDoor
open Go.RowKit
attribute [local go_sem ↓] Go.wp_at_zero Go.wp_at_succ
set_option linter.unusedSimpArgs false
set_option linter.unusedVariables false
set_option maxRecDepth 100000

theorem grown_any {w w' : World} {c : Option Nat} (h : Below w.heap.size w w') : w.grownBy w' c := ⟨h.os, h.tape, h.output, h.size, fun k hk _ => h.block k hk⟩

theorem cbridge_bad1 {w : World} {c p off : Nat} {s : ByteArray} (h : Cur w c s p off) (hn : ¬ p + 2 ≤ s.size) (hp : p ≤ s.size) (hb : off + s.size ≤ 281474976710656) :
    Calls Tryd.prog 68 #[.pointer (some ⟨c, 0, none⟩)] w fun r w' => r = .panicked (Thrown 7 (off + p)) ∧ w.grownBy w' (some c) := by
  have HE := Lib.hid (fun W (h : Cur W c s p off) => cnum_bad h 2 hn hp (by decide) hb)
  have R1 := Blk.new w 48 (brC zBr)
  have H1 : Cur (w.alloc (.cells (brC zBr) 48)) c s p off := Blk.alloc h _
  have G1 : w.grownBy (w.alloc (.cells (brC zBr) 48)) (some c) := World.grownBy_alloc w _ _
  have hc := h.lt
  clear h
  go_enter Tryd.func68, Tryd.ntmps68
  go_upto_region 1 with (refine alloc_blk 48 (brC zBr) (by rfl) rfl Tryd.brZero ?_)
  generalize w.alloc (.cells (brC zBr) 48) = w1 at *
  go_wp2_with fail
  refine (HE.out _ H1).mono ?_
  rintro e w2 ⟨rfl, b2⟩
  go_wp2
  exact ⟨rfl, rfl, grown_belowT G1 b2⟩

theorem cbridge_bad2 {w : World} {c p off : Nat} {s : ByteArray} (h : Cur w c s p off) (hn : p + 2 ≤ s.size) (hn2 : ¬ p + 8 ≤ s.size) (hb : off + s.size ≤ 281474976710656) :
    Calls Tryd.prog 68 #[.pointer (some ⟨c, 0, none⟩)] w fun r w' => r = .panicked (Thrown 7 (off + (p + 2 : Nat))) ∧ w.grownBy w' (some c) := by
  have HE := Lib.hid (fun W (h : Cur W c s p off) => cnum_ok h 2 (by decide) hn hb)
  have HD := Lib.hid (fun W (h : Cur W c s (p + 2) off) => addr_bad h (by omega) hn hb)
  have hN := beAt_lt s p
  have e1 : beN ((s.data.toList.drop p).take 2) = beAt s p := rfl
  rw [e1] at HE
  clear e1
  generalize beAt s p = n at *
  have q4 : IntKind.i64.wrap ((n : Int) / 4096 * 4096) = (n : Int) / 4096 * 4096 := by rw [IntKind.wrap_i64]; omega
  have R1 := Blk.new w 48 (brC zBr)
  have H1 : Cur (w.alloc (.cells (brC zBr) 48)) c s p off := Blk.alloc h _
  have G1 : w.grownBy (w.alloc (.cells (brC zBr) 48)) (some c) := World.grownBy_alloc w _ _
  have hc := h.lt
  clear h
  go_enter Tryd.func68, Tryd.ntmps68
  go_upto_region 1 with (refine alloc_blk 48 (brC zBr) (by rfl) rfl Tryd.brZero ?_)
  generalize w.alloc (.cells (brC zBr) 48) = w1 at *
  go_wp2_with fail
  refine (HE.out _ H1).mono ?_
  rintro e w2 ⟨rfl, H2, g2⟩
  have G2 := grown_same G1 g2
  go_wp2_with fail
  refine (HD.out _ H2).mono ?_
  rintro e w3 ⟨rfl, b3⟩
  go_wp2
  exact ⟨rfl, rfl, grown_belowT G2 b3⟩

theorem cbridge_ok {w : World} {c p off : Nat} {s : ByteArray} (h : Cur w c s p off) (hn : p + 8 ≤ s.size) (hb : off + s.size ≤ 281474976710656) :
    Calls Tryd.prog 68 #[.pointer (some ⟨c, 0, none⟩)] w fun r w' => r = .returned (.agg (brC (brAt s p))) ∧ Cur w' c s (p + 8) off ∧ w.grownBy w' (some c) := by
  have HE := Lib.hid (fun W (h : Cur W c s p off) => cnum_ok h 2 (by decide) (by omega) hb)
  have HD := Lib.hid (fun W (h : Cur W c s (p + 2) off) => addr_ok h (by omega) hb)
  have hN := beAt_lt s p
  have e1 : beN ((s.data.toList.drop p).take 2) = beAt s p := rfl
  rw [e1] at HE
  clear e1
  unfold brAt
  generalize beAt s p = n at *
  generalize byX ((s.data.toList.drop (p + 2)).take 6) = x at *
  have q4 : IntKind.i64.wrap ((n : Int) / 4096 * 4096) = (n : Int) / 4096 * 4096 := by rw [IntKind.wrap_i64]; omega
  have R1 := Blk.new w 48 (brC zBr)
  have H1 : Cur (w.alloc (.cells (brC zBr) 48)) c s p off := Blk.alloc h _
  have G1 : w.grownBy (w.alloc (.cells (brC zBr) 48)) (some c) := World.grownBy_alloc w _ _
  have hc := h.lt
  clear h
  go_enter Tryd.func68, Tryd.ntmps68
  go_upto_region 1 with (refine alloc_blk 48 (brC zBr) (by rfl) rfl Tryd.brZero ?_)
  generalize w.alloc (.cells (brC zBr) 48) = w1 at *
  go_wp2_with fail
  refine (HE.out _ H1).mono ?_
  rintro e w2 ⟨rfl, H2, g2⟩
  have G2 := grown_same G1 g2
  have R2 := R1.grown g2 (by simp; omega)
  go_wp2_with fail
  refine (HD.out _ H2).mono ?_
  rintro e w3 ⟨rfl, H3, g3⟩
  have G3 := grown_same G2 g3
  have R3 := R2.grown g3 (by simp; omega)
  go_wp2_with (first
    | (refine build_blk (t := 48) (brC ⟨(n : Int) / 4096 * 4096, (n : Int) % 4096, x⟩) (by rfl) rfl (by kernel_rfl) ?_)
    | (refine store_blk (k := 0) 48 (.agg (brC ⟨(n : Int) / 4096 * 4096, (n : Int) % 4096, x⟩)) (brC ⟨(n : Int) / 4096 * 4096, (n : Int) % 4096, x⟩) (by rfl) rfl rfl rfl R3 (by kernel_rfl) (show (8 : Nat) ≤ 8 from Nat.le_refl 8) (by rfl) (st_whole _ _ rfl) ?_; intro w7 R7 b7 g7; have H7 : Cur w7 c s (p + 8) off := Blk.grown H3 g7 (by simp; omega); have G7 := grown_own G3 g7 (Nat.le_refl _)))
  exact bodyPost_ret (results_blk rfl rfl R7 (by kernel_rfl) (by kernel_rfl)) rfl ⟨rfl, H7, G7⟩

theorem cport_bad1 {w : World} {c p off : Nat} {s : ByteArray} (h : Cur w c s p off) (hn : ¬ p + 2 ≤ s.size) (hp : p ≤ s.size) (hb : off + s.size ≤ 281474976710656) :
    Calls Tryd.prog 69 #[.pointer (some ⟨c, 0, none⟩)] w fun r w' => r = .panicked (Thrown 7 (off + p)) ∧ w.grownBy w' (some c) := by
  have HE := Lib.hid (fun W (h : Cur W c s p off) => cnum_bad h 2 hn hp (by decide) hb)
  have R1 := Blk.new w 50 (ptC 0 0)
  have H1 : Cur (w.alloc (.cells (ptC 0 0) 50)) c s p off := Blk.alloc h _
  have G1 : w.grownBy (w.alloc (.cells (ptC 0 0) 50)) (some c) := World.grownBy_alloc w _ _
  have hc := h.lt
  clear h
  go_enter Tryd.func69, Tryd.ntmps69
  go_upto_region 1 with (refine alloc_blk 50 (ptC 0 0) (by rfl) rfl Tryd.ptZero ?_)
  generalize w.alloc (.cells (ptC 0 0) 50) = w1 at *
  have c1 := Blk.cv H1 1 (.int .i64 p) rfl
  go_wp2_with fail
  refine (HE.out _ H1).mono ?_
  rintro e w2 ⟨rfl, b2⟩
  go_wp2
  exact ⟨rfl, rfl, grown_belowT G1 b2⟩

theorem cport_bad2 {w : World} {c p off : Nat} {s : ByteArray} (h : Cur w c s p off) (hn : p + 2 ≤ s.size) (hz : beAt s p % 4096 = 0) (hb : off + s.size ≤ 281474976710656) :
    Calls Tryd.prog 69 #[.pointer (some ⟨c, 0, none⟩)] w fun r w' => r = .panicked (Thrown 2 (off + p)) ∧ w.grownBy w' (some c) := by
  have HE := Lib.hid (fun W (h : Cur W c s p off) => cnum_ok h 2 (by decide) hn hb)
  have HT := Lib.hid (fun W (h : Cur W c s (p + 2) off) => throw_any h 2 p (by omega) (by omega))
  have hN := beAt_lt s p
  have e1 : beN ((s.data.toList.drop p).take 2) = beAt s p := rfl
  rw [e1] at HE
  clear e1
  generalize beAt s p = n at *
  have q0 : ((n : Int) % 4096 == 0) = true := by rw [beq_iff_eq]; omega
  have R1 := Blk.new w 50 (ptC 0 0)
  have H1 : Cur (w.alloc (.cells (ptC 0 0) 50)) c s p off := Blk.alloc h _
  have G1 : w.grownBy (w.alloc (.cells (ptC 0 0) 50)) (some c) := World.grownBy_alloc w _ _
  have hc := h.lt
  clear h
  go_enter Tryd.func69, Tryd.ntmps69
  go_upto_region 1 with (refine alloc_blk 50 (ptC 0 0) (by rfl) rfl Tryd.ptZero ?_)
  generalize w.alloc (.cells (ptC 0 0) 50) = w1 at *
  have c1 := Blk.cv H1 1 (.int .i64 p) rfl
  go_wp2_with fail
  refine (HE.out _ H1).mono ?_
  rintro e w2 ⟨rfl, H2, g2⟩
  have G2 := grown_same G1 g2
  go_wp2_with fail
  refine (HT.out _ H2).mono ?_
  rintro e w3 ⟨rfl, rfl⟩
  go_wp2
  exact ⟨rfl, rfl, G2⟩

theorem cport_ok {w : World} {c p off : Nat} {s : ByteArray} (h : Cur w c s p off) (hn : p + 2 ≤ s.size) (hz : ¬ beAt s p % 4096 = 0) (hb : off + s.size ≤ 281474976710656) :
    Calls Tryd.prog 69 #[.pointer (some ⟨c, 0, none⟩)] w fun r w' => r = .returned (.agg (ptAt s p)) ∧ Cur w' c s (p + 2) off ∧ w.grownBy w' (some c) := by
  have HE := Lib.hid (fun W (h : Cur W c s p off) => cnum_ok h 2 (by decide) hn hb)
  have hN := beAt_lt s p
  have e1 : beN ((s.data.toList.drop p).take 2) = beAt s p := rfl
  rw [e1] at HE
  clear e1
  unfold ptAt
  generalize beAt s p = n at *
  have q0 : ((n : Int) % 4096 == 0) = false := by rw [beq_eq_false_iff_ne]; omega
  have q4 : IntKind.i64.wrap ((n : Int) / 4096 * 16) = (n : Int) / 4096 * 16 := by rw [IntKind.wrap_i64]; omega
  have R1 := Blk.new w 50 (ptC 0 0)
  have H1 : Cur (w.alloc (.cells (ptC 0 0) 50)) c s p off := Blk.alloc h _
  have G1 : w.grownBy (w.alloc (.cells (ptC 0 0) 50)) (some c) := World.grownBy_alloc w _ _
  have hc := h.lt
  clear h
  go_enter Tryd.func69, Tryd.ntmps69
  go_upto_region 1 with (refine alloc_blk 50 (ptC 0 0) (by rfl) rfl Tryd.ptZero ?_)
  generalize w.alloc (.cells (ptC 0 0) 50) = w1 at *
  have c1 := Blk.cv H1 1 (.int .i64 p) rfl
  go_wp2_with fail
  refine (HE.out _ H1).mono ?_
  rintro e w2 ⟨rfl, H2, g2⟩
  have G2 := grown_same G1 g2
  have R2 := R1.grown g2 (by simp; omega)
  go_wp2_with (first
    | (refine build_blk (t := 50) (ptC ((n : Int) / 4096 * 16) ((n : Int) % 4096)) (by rfl) rfl (by kernel_rfl) ?_)
    | (refine store_blk (k := 0) 50 (.agg (ptC ((n : Int) / 4096 * 16) ((n : Int) % 4096))) (ptC ((n : Int) / 4096 * 16) ((n : Int) % 4096)) (by rfl) rfl rfl rfl R2 (by kernel_rfl) (show (2 : Nat) ≤ 2 from Nat.le_refl 2) (by rfl) (st_whole _ _ rfl) ?_; intro w7 R7 b7 g7; have H7 : Cur w7 c s (p + 2) off := Blk.grown H2 g7 (by simp; omega); have G7 := grown_own G2 g7 (Nat.le_refl _)))
  exact bodyPost_ret (results_blk rfl rfl R7 (by kernel_rfl) (by kernel_rfl)) rfl ⟨rfl, H7, G7⟩

end Go.Proofs.YtjoepmfineinfaaDoor
