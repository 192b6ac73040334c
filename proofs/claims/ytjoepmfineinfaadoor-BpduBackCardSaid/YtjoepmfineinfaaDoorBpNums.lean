/- bpdu.numbers. -/
import Derived.Test.YtjoepmfineinfaaDoorBpFits
import Derived.Test.YtjoepmfineinfaaDoorBuildF
import Derived.Test.YtjoepmfineinfaaDoorMust
namespace Go.Proofs.YtjoepmfineinfaaDoor
open Go.RowKit
attribute [local go_sem ↓] Go.wp_at_zero Go.wp_at_succ
set_option linter.unusedSimpArgs false
set_option linter.unusedVariables false
set_option maxRecDepth 100000

theorem isB_below {T e : TypeId} {B b : Nat} {bs : List Value} {w w' : World} (h : Lib.IsBuilder T e B b bs w) (hb : Below w.heap.size w w') : Lib.IsBuilder T e B b bs w' := by
  have hg : w.grownBy w' none := ⟨hb.os, hb.tape, hb.output, hb.size, fun k hk _ => hb.block k hk⟩
  have key : ∀ p, Lib.BuilderAt T e B b p bs w → Lib.BuilderAt T e B b p bs w' := fun p h => by
    have hlt := h.lt
    obtain ⟨hB, v, hbk, hown, hne⟩ := h
    exact ⟨hB, v, (hb.block b hlt).trans hbk, hown.kept hg (by cases hv : v.ownBlock <;> simp), hne⟩
  rcases h with h | h
  · exact Or.inl (key _ h)
  · exact Or.inr (key _ h)

/-- Each number as n bytes. -/
def bwN (n : Nat) (l : List Int) : List UInt8 := l.flatMap fun v => putL v.toNat n

theorem bwN_len (n : Nat) (l : List Int) : (bwN n l).length = n * l.length := by
  induction l with
  | nil => rfl
  | cons v l ih => unfold bwN at ih ⊢; rw [List.flatMap_cons, List.length_append, ih, putL_length, List.length_cons, Nat.mul_add]; omega

theorem bwN_take (n : Nat) (l : List Int) (k : Nat) (v : Int) (h : l[k]? = some v) : bwN n (l.take (k + 1)) = bwN n (l.take k) ++ putL v.toNat n := by
  unfold bwN
  rw [List.take_add_one, h, List.flatMap_append]
  simp

theorem Tryd.bdZero : (Tryd.prog.info? 149).map (·.zero) = some (some (.agg #[.pointer none, .slice none 0 0])) := by kernel_rfl

theorem mustN (n : Nat) (h1 : 1 ≤ n) (h7 : n ≤ 7) (v : Int) (hv : fitI n v = true) (w : World) : Calls Tryd.prog 41 #[.int .i64 v, .int .i64 n] w fun e w' => e = .returned (.string ⟨(putL v.toNat n).toArray⟩) ∧ Below w.heap.size w w' := by
  obtain ⟨h0, h2⟩ := fitI_all hv
  obtain ⟨X, rfl⟩ := Int.eq_ofNat_of_zero_le h0
  refine must_fits X n w h1 h7 ?_
  have e : ((256 ^ n : Nat) : Int) = 256 ^ n := by simp
  omega

set_option maxHeartbeats 1600000 in
theorem numbers_any (n : Nat) (h1 : 1 ≤ n) (h7 : n ≤ 7) (l : List Int) (hl : l.length ≤ 1000) (hr : ∀ v ∈ l, fitI n v = true) (g : Nat) (w : World) (h : IRow w g l) :
    Calls Tryd.prog 75 #[.int .i64 n, .slice (some ⟨g, 0, none⟩) l.length l.length] w fun e w' => e = .returned (.string ⟨(bwN n l).toArray⟩) ∧ Below w.heap.size w w' := by
  have HR := Lib.hid hr
  have HL := Lib.hid hl
  clear hr
  have HB0 := build_new w
  have I0 := h.belowAt ((Below.refl w.heap.size w).alloc (Nat.le_refl _) (.cells #[.pointer none, .slice none 0 0] 149)) h.1
  have B0 : Below w.heap.size w (w.alloc (.cells #[.pointer none, .slice none 0 0] 149)) := (Below.refl _ _).alloc (Nat.le_refl _) _
  have hg := h.1
  have HI := Lib.hid h
  clear h
  go_enter Tryd.func75, Tryd.ntmps75
  go_upto_region 2 with (refine alloc_blk 149 #[.pointer none, .slice none 0 0] (by rfl) rfl Tryd.bdZero ?_)
  generalize w.alloc (.cells #[.pointer none, .slice none 0 0] 149) = w1 at *
  (try simp only [Act.put, List.setIfInBounds_toArray, List.set_cons_zero, List.set_cons_succ])
  go_wp2_with fail
  go_loopw [7, 10] (fun _ i wr => ∃ k : Nat, k ≤ l.length ∧ i = .int .i64 k ∧ Lib.IsBuilder 149 5 w.heap.size w.heap.size (Lib.byteCells (bwN n (l.take k))) wr ∧ Below w.heap.size w wr) (fun _ i _ => l.length - (intOf i).toNat)
  case atStart => exact ⟨0, by omega, rfl, HB0, B0⟩
  case round =>
    obtain ⟨k, hk, rfl, HBk, Bk⟩ := hrel
    have hBw : w.heap.size ≤ wr.heap.size := Bk.size
    by_cases hlt : k < l.length
    · obtain ⟨v, hv⟩ : ∃ v, l[k]? = some v := ⟨l[k], List.getElem?_eq_getElem hlt⟩
      have hc : wr.cell? ⟨g, k, none⟩ = some (.int .i64 v) := by
        exact (HI.out.belowAt Bk hg).2 k v hv
      have HM := Lib.hid (fun W => mustN n h1 h7 v (HR.out v (List.mem_of_getElem? hv)) W)
      have HT := Lib.hid (bwN_take n l k v hv)
      clear hv
      go_wp2_with fail
      refine (HM.out _).mono ?_
      rintro e w2 ⟨rfl, k2⟩
      have HB2 := isB_below HBk k2
      have hbn : (Lib.byteCells (bwN n (l.take k))).length ≤ 7000 := by
        have hq : (Lib.byteCells (bwN n (l.take k))).length = n * (l.take k).length := by rw [← bwN_len]; simp [Lib.byteCells]
        have hq2 : (l.take k).length ≤ 1000 := Nat.le_trans (List.length_take_le _ _) (by have := HL.out; omega)
        have := Nat.mul_le_mul h7 hq2
        omega
      have hpn : (⟨(putL v.toNat n).toArray⟩ : ByteArray).size = n := by show (putL v.toNat n).toArray.size = n; simp [putL_length]
      go_wp2_with fail
      refine (build_write w.heap.size w.heap.size _ ⟨(putL v.toNat n).toArray⟩ _ HB2 (by omega) (Nat.le_trans hBw k2.size)).mono ?_
      rintro e w3 ⟨rfl, HB3, k3⟩
      have HB4 : Lib.IsBuilder 149 5 w.heap.size w.heap.size (Lib.byteCells (bwN n (l.take (k + 1)))) w3 := by
        rw [HT.out]
        simpa [Lib.byteCells, Lib.strCells] using HB3
      have B3 := (Bk.trans (k2.mono hBw)).trans k3
      clear hbn hpn HB2 HB3 HBk k2 k3
      go_wp2
      go_roundw
      case rel => exact ⟨k + 1, by omega, by go_num, HB4, B3⟩
      case measure => simp [intOf]; omega
    · obtain rfl : k = l.length := by omega
      rw [List.take_length] at HBk
      go_wp2_with fail
      refine (Tryd.Builder_String_any w.heap.size w.heap.size _ _ HBk hBw).mono ?_
      rintro e w4 ⟨rfl, k4⟩
      go_wp2
      go_ret
      exact ⟨rfl, Bk.trans k4⟩

end Go.Proofs.YtjoepmfineinfaaDoor
