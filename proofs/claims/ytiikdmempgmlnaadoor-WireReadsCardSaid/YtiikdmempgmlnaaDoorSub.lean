/- (*wire.Reader).Sub at every argument. -/
import Derived.Test.YtiikdmempgmlnaaDoorLow
namespace Go.Proofs.YtiikdmempgmlnaaDoor
open Go.RowKit

theorem rd_new (w : World) (s : ByteArray) (a : Int) (f : Option Addr) : Rd (w.alloc (.cells #[.string s, .int .i64 a, .pointer f] 66)) w.heap.size s a f := heap_alloc_new w _
theorem flt_new (w : World) (x y : Int) : Flt (w.alloc (.cells #[.int .i64 x, .int .i64 y] 71)) w.heap.size x y := heap_alloc_new w _

theorem grown_drop {w w1 w2 : World} {g b : Nat} (h1 : w.grownBy w1 (some g)) (h2 : w1.grownBy w2 (some b)) (hb : w.heap.size ≤ b) : w.grownBy w2 (some g) :=
  ⟨h2.os.trans h1.os, h2.tape.trans h1.tape, h2.output.trans h1.output, Nat.le_trans h1.size h2.size,
    fun k hk hne => (h2.block k (Nat.lt_of_lt_of_le hk h1.size) (by intro e; cases e; omega)).trans (h1.block k hk hne)⟩

/-- What Sub leaves of a Reader g, and the new one at b. -/
def SubPost (w : World) (g : Nat) (s t : ByteArray) (a a' : Int) (f : Option Addr) (e : Ending) (w' : World) : Prop :=
  e = .returned (.pointer (some ⟨w.heap.size, 0, none⟩)) ∧ Rd w' w.heap.size s a f ∧ Rd w' g t a' f ∧ w.grownBy w' (some g)

theorem sub_end {w w2 : World} {g b : Nat} {t u s' : ByteArray} {a a' : Int} {f0 f : Option Addr} (hb : b = w.heap.size) (hlt : g < b) (hg2 : Rd w2 g t a' f) (hb2 : Rd w2 b u a f0) (q : w.grownBy w2 (some g)) :
    SubPost w g s' t a a' f (.returned (.pointer (some ⟨b, 0, none⟩))) ((w2.setCell ⟨b, 0, none⟩ (.string s')).setCell ⟨b, 2, none⟩ (.pointer f)) := by
  subst hb
  have k0 : Rd (w2.setCell ⟨w.heap.size, 0, none⟩ (.string s')) w.heap.size s' a f0 := hb2.set _ rfl
  have k1 : Rd ((w2.setCell ⟨w.heap.size, 0, none⟩ (.string s')).setCell ⟨w.heap.size, 2, none⟩ (.pointer f)) w.heap.size s' a f := k0.set _ rfl
  have r := grownBy_trans (grownBy_setCell w2 w.heap.size 0 (.string s')) (grownBy_setCell _ w.heap.size 2 (.pointer f))
  exact ⟨rfl, k1, hg2.kept r (by intro e; cases e; omega), grown_drop q r (Nat.le_refl _)⟩

set_option maxHeartbeats 800000 in
/-- Sub, they are there. -/
theorem sub_read {g : Nat} {s : ByteArray} {a : Int} (n : Nat) (w : World) (h : Rd w g s a none) (hn : n ≤ s.size) (ha : 0 ≤ a) (hb : a + s.size ≤ 281474976710656) :
    Calls Tryd.prog 20 #[.pointer (some ⟨g, 0, none⟩), .int .i64 n] w (SubPost w g (s.extract 0 n) (s.extract n s.size) a (a + n) none) := by
  have h1 := h.c1
  have hlt := h.lt
  go_enter Tryd.func20, Tryd.ntmps20
  go_wp2_with fail
  refine (new_any _ _ _).mono ?_
  rintro e w1 ⟨rfl, rfl⟩
  have hg1 := h.alloc (.cells #[.string ⟨#[]⟩, .int .i64 a, .pointer none] 66)
  have hb1 := rd_new w ⟨#[]⟩ a none
  have q1 : w.grownBy (w.alloc (.cells #[.string ⟨#[]⟩, .int .i64 a, .pointer none] 66)) (some g) := World.grownBy_alloc _ _ _
  have s1 : w.heap.size ≤ (w.alloc (.cells #[.string ⟨#[]⟩, .int .i64 a, .pointer none] 66)).heap.size := by simp
  generalize w.alloc (.cells #[.string ⟨#[]⟩, .int .i64 a, .pointer none] 66) = w1 at *
  obtain ⟨b, hbn⟩ : ∃ b, b = w.heap.size := ⟨_, rfl⟩
  rw [← hbn] at hb1 hlt s1
  have HB := Lib.hid hbn
  rw [← hbn]
  clear hbn
  go_wp2_with fail
  refine (bytes_read n _ hg1 hn ha hb).mono ?_
  rintro e w2 ⟨rfl, hg2, q2⟩
  have hb2 := hb1.kept q2 (by intro e; cases e; omega)
  have q2' := grownBy_trans q1 q2
  have k1 := hg2.c2
  have z0 := hb2.fz 0
  have z2 := hb2.fz 2
  have k2 := hb2.c0
  have k3 := hb2.c2
  have hne : g ≠ b := by omega
  clear hg1 hb1 q1 q2 h
  go_wp2
  go_ret
  exact sub_end HB.out hlt hg2 hb2 q2'

set_option maxHeartbeats 800000 in
/-- Sub, there are not so many. -/
theorem sub_missing {g : Nat} {s : ByteArray} {a : Int} (n : Int) (w : World) (h : Rd w g s a none) (hn : (s.size : Int) < n) :
    Calls Tryd.prog 20 #[.pointer (some ⟨g, 0, none⟩), .int .i64 n] w (fun e w' => ∃ p, w.heap.size < p ∧ SubPost w g ⟨#[]⟩ s a a (some ⟨p, 0, none⟩) e w' ∧ Flt w' p 7 a) := by
  have h1 := h.c1
  have hlt := h.lt
  go_enter Tryd.func20, Tryd.ntmps20
  go_wp2_with fail
  refine (new_any _ _ _).mono ?_
  rintro e w1 ⟨rfl, rfl⟩
  have hg1 := h.alloc (.cells #[.string ⟨#[]⟩, .int .i64 a, .pointer none] 66)
  have hb1 := rd_new w ⟨#[]⟩ a none
  have q1 : w.grownBy (w.alloc (.cells #[.string ⟨#[]⟩, .int .i64 a, .pointer none] 66)) (some g) := World.grownBy_alloc _ _ _
  have s1 : w.heap.size ≤ (w.alloc (.cells #[.string ⟨#[]⟩, .int .i64 a, .pointer none] 66)).heap.size := by simp
  generalize w.alloc (.cells #[.string ⟨#[]⟩, .int .i64 a, .pointer none] 66) = w1 at *
  obtain ⟨b, hbn⟩ : ∃ b, b = w.heap.size := ⟨_, rfl⟩
  rw [← hbn] at hb1 hlt s1
  have HB := Lib.hid hbn
  rw [← hbn]
  clear hbn
  go_wp2_with fail
  refine (bytes_missing n _ hg1 hn).mono ?_
  rintro e w2 ⟨rfl, hg2, hf2, q2⟩
  have hs2 : b < w1.heap.size := hb1.lt
  have hb2 := hb1.kept q2 (by intro e; cases e; omega)
  have q2' := grownBy_trans q1 q2
  have k1 := hg2.c2
  have z0 := hb2.fz 0
  have z2 := hb2.fz 2
  have k2 := hb2.c0
  have k3 := hb2.c2
  have hne : g ≠ b := by omega
  clear hg1 hb1 q1 q2 h
  go_wp2
  go_ret
  have r := sub_end (s' := ⟨#[]⟩) HB.out hlt hg2 hb2 q2'
  have hf3 : Flt ((w2.setCell ⟨b, 0, none⟩ (.string ⟨#[]⟩)).setCell ⟨b, 2, none⟩ (.pointer (some ⟨w1.heap.size, 0, none⟩))) w1.heap.size 7 a :=
    hf2.kept (grownBy_trans (grownBy_setCell w2 b 0 (.string ⟨#[]⟩)) (grownBy_setCell _ b 2 (.pointer (some ⟨w1.heap.size, 0, none⟩)))) (by intro e; cases e; omega)
  exact ⟨_, by rw [← HB.out]; exact hs2, r, hf3⟩

set_option maxHeartbeats 800000 in
/-- Sub, n below 0. -/
theorem sub_neg {g : Nat} {s : ByteArray} {a : Int} (n : Int) (w : World) (h : Rd w g s a none) (hn : n < 0) :
    Calls Tryd.prog 20 #[.pointer (some ⟨g, 0, none⟩), .int .i64 n] w (fun e w' => ∃ p, w.heap.size < p ∧ SubPost w g ⟨#[]⟩ s a a (some ⟨p, 0, none⟩) e w' ∧ Flt w' p 2 a) := by
  have h1 := h.c1
  have hlt := h.lt
  go_enter Tryd.func20, Tryd.ntmps20
  go_wp2_with fail
  refine (new_any _ _ _).mono ?_
  rintro e w1 ⟨rfl, rfl⟩
  have hg1 := h.alloc (.cells #[.string ⟨#[]⟩, .int .i64 a, .pointer none] 66)
  have hb1 := rd_new w ⟨#[]⟩ a none
  have q1 : w.grownBy (w.alloc (.cells #[.string ⟨#[]⟩, .int .i64 a, .pointer none] 66)) (some g) := World.grownBy_alloc _ _ _
  have s1 : w.heap.size ≤ (w.alloc (.cells #[.string ⟨#[]⟩, .int .i64 a, .pointer none] 66)).heap.size := by simp
  generalize w.alloc (.cells #[.string ⟨#[]⟩, .int .i64 a, .pointer none] 66) = w1 at *
  obtain ⟨b, hbn⟩ : ∃ b, b = w.heap.size := ⟨_, rfl⟩
  rw [← hbn] at hb1 hlt s1
  have HB := Lib.hid hbn
  rw [← hbn]
  clear hbn
  go_wp2_with fail
  refine (bytes_neg n _ hg1 hn).mono ?_
  rintro e w2 ⟨rfl, hg2, hf2, q2⟩
  have hs2 : b < w1.heap.size := hb1.lt
  have hb2 := hb1.kept q2 (by intro e; cases e; omega)
  have q2' := grownBy_trans q1 q2
  have k1 := hg2.c2
  have z0 := hb2.fz 0
  have z2 := hb2.fz 2
  have k2 := hb2.c0
  have k3 := hb2.c2
  have hne : g ≠ b := by omega
  clear hg1 hb1 q1 q2 h
  go_wp2
  go_ret
  have r := sub_end (s' := ⟨#[]⟩) HB.out hlt hg2 hb2 q2'
  have hf3 : Flt ((w2.setCell ⟨b, 0, none⟩ (.string ⟨#[]⟩)).setCell ⟨b, 2, none⟩ (.pointer (some ⟨w1.heap.size, 0, none⟩))) w1.heap.size 2 a :=
    hf2.kept (grownBy_trans (grownBy_setCell w2 b 0 (.string ⟨#[]⟩)) (grownBy_setCell _ b 2 (.pointer (some ⟨w1.heap.size, 0, none⟩)))) (by intro e; cases e; omega)
  exact ⟨_, by rw [← HB.out]; exact hs2, r, hf3⟩

set_option maxHeartbeats 800000 in
/-- Sub, something noted already. -/
theorem sub_noted {g : Nat} {s : ByteArray} {a : Int} {p : Addr} (n : Int) (w : World) (h : Rd w g s a (some p)) :
    Calls Tryd.prog 20 #[.pointer (some ⟨g, 0, none⟩), .int .i64 n] w (SubPost w g ⟨#[]⟩ s a a (some p)) := by
  have h1 := h.c1
  have hlt := h.lt
  go_enter Tryd.func20, Tryd.ntmps20
  go_wp2_with fail
  refine (new_any _ _ _).mono ?_
  rintro e w1 ⟨rfl, rfl⟩
  have hg1 := h.alloc (.cells #[.string ⟨#[]⟩, .int .i64 a, .pointer none] 66)
  have hb1 := rd_new w ⟨#[]⟩ a none
  have q1 : w.grownBy (w.alloc (.cells #[.string ⟨#[]⟩, .int .i64 a, .pointer none] 66)) (some g) := World.grownBy_alloc _ _ _
  have s1 : w.heap.size ≤ (w.alloc (.cells #[.string ⟨#[]⟩, .int .i64 a, .pointer none] 66)).heap.size := by simp
  generalize w.alloc (.cells #[.string ⟨#[]⟩, .int .i64 a, .pointer none] 66) = w1 at *
  obtain ⟨b, hbn⟩ : ∃ b, b = w.heap.size := ⟨_, rfl⟩
  rw [← hbn] at hb1 hlt s1
  have HB := Lib.hid hbn
  rw [← hbn]
  clear hbn
  go_wp2_with fail
  refine (bytes_noted n _ hg1).mono ?_
  rintro e w2 ⟨rfl, rfl⟩
  have hg2 := hg1
  have q2 := World.grownBy.refl w1 (some g)
  have hb2 := hb1.kept q2 (by intro e; cases e; omega)
  have q2' := grownBy_trans q1 q2
  have k1 := hg2.c2
  have z0 := hb2.fz 0
  have z2 := hb2.fz 2
  have k2 := hb2.c0
  have k3 := hb2.c2
  have hne : g ≠ b := by omega
  clear hg1 hb1 q1 q2 h
  go_wp2
  go_ret
  exact sub_end HB.out hlt hg2 hb2 q2'
end Go.Proofs.YtiikdmempgmlnaaDoor
