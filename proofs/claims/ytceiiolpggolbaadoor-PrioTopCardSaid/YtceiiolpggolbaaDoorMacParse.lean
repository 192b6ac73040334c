/- mac.Parse at every text: the address whose text it is, or ErrForm; nothing that was there is changed. -/
import Derived.Test.YtceiiolpggolbaaDoorMacRes
import Derived.Lib.ItoaWalk
namespace Go.Proofs.YtceiiolpggolbaaDoor
open Go.RowKit
attribute [local go_sem ↓] Go.wp_at_zero Go.wp_at_succ

/-- The byte that is read at a place of a text. -/
def par (l : List UInt8) (j : Nat) : Nat := (digN (l.getD (3 * j) 0) * 16 % 256) ||| digN (l.getD (3 * j + 1) 0)

theorem digN_lt (c : UInt8) : digN c < 256 := by unfold digN; omega

theorem par_lt (l : List UInt8) (j : Nat) : par l j < 256 := by
  have h1 : digN (l.getD (3 * j) 0) * 16 % 256 < 2 ^ 8 := by omega
  have h2 : digN (l.getD (3 * j + 1) 0) < 2 ^ 8 := digN_lt _
  exact Nat.or_lt_two_pow h1 h2

theorem digits_back : ∀ y, y < 256 → ((digN (hexc (y / 16)) * 16 % 256) ||| digN (hexc (y % 16))) = y := by decide +kernel

theorem par_back (b : Nat → Nat) (hb : ∀ i, b i < 256) (j : Nat) (hj : j < 6) : par (addrL b) j = b j := by
  have h : j = 0 ∨ j = 1 ∨ j = 2 ∨ j = 3 ∨ j = 4 ∨ j = 5 := by omega
  rcases h with rfl | rfl | rfl | rfl | rfl | rfl <;> exact digits_back _ (hb _)

theorem six_par {b : Nat → Nat} (hb : ∀ i, b i < 256) {l : List UInt8} (h : addrL b = l) : six b = six (par l) := by
  subst h
  simp [six, par_back b hb]

theorem addrL_six {a b : Nat → Nat} (h : six a = six b) : addrL a = addrL b := by rw [addrL_txt, addrL_txt, h]

/-- The cells of an address. -/
def sixC (x : Nat → Nat) : Array Value := #[.int .u8 (x 0), .int .u8 (x 1), .int .u8 (x 2), .int .u8 (x 3), .int .u8 (x 4), .int .u8 (x 5)]

theorem sixC_get (x : Nat → Nat) (j : Nat) (hj : j < 6) : (sixC x)[j]? = some (.int .u8 (x j)) := by
  have h : j = 0 ∨ j = 1 ∨ j = 2 ∨ j = 3 ∨ j = 4 ∨ j = 5 := by omega
  rcases h with rfl | rfl | rfl | rfl | rfl | rfl <;> rfl

/-- What has been read so far. -/
def upto (l : List UInt8) (k : Nat) (j : Nat) : Nat := if j < k then par l j else 0

theorem upto_step (l : List UInt8) (k : Nat) (hk : k < 6) : (sixC (upto l k)).setIfInBounds k (.int .u8 (par l k)) = sixC (upto l (k + 1)) := by
  have h : k = 0 ∨ k = 1 ∨ k = 2 ∨ k = 3 ∨ k = 4 ∨ k = 5 := by omega
  rcases h with rfl | rfl | rfl | rfl | rfl | rfl <;> simp [sixC, upto]

theorem upto_all (l : List UInt8) : sixC (upto l 6) = sixC (par l) := by simp [sixC, upto]

/-- How Parse ends. -/
def ParseR (l : List UInt8) (e : Ending) : Prop :=
  (∃ a : Nat → Nat, (∀ i, a i < 256) ∧ addrL a = l ∧ e = .returned (.tuple #[addrV a, .nilIface])) ∨
  ((∀ b : Nat → Nat, (∀ i, b i < 256) → addrL b ≠ l) ∧ e = .returned (.tuple #[addrV fun _ => 0, .iface 28 (.int .i64 3)]))

/-- Six cells stored. -/
def set6 (w : World) (B : Nat) (a : Nat → Nat) : World :=
  (((((w.setCell ⟨B, 0, none⟩ (.int .u8 (a 0))).setCell ⟨B, 1, none⟩ (.int .u8 (a 1))).setCell ⟨B, 2, none⟩ (.int .u8 (a 2))).setCell ⟨B, 3, none⟩ (.int .u8 (a 3))).setCell ⟨B, 4, none⟩ (.int .u8 (a 4))).setCell ⟨B, 5, none⟩ (.int .u8 (a 5))

theorem set6_heap {w : World} {B : Nat} {z : Nat → Nat} {t : TypeId} (a : Nat → Nat) (h : w.heap[B]? = some (.cells (sixC z) t (0, 0))) : (set6 w B a).heap[B]? = some (.cells (sixC a) t (0, 0)) := by
  have h0 := Joins.block_setCell h (i := 0) (.int .u8 (a 0))
  have h1 := Joins.block_setCell h0 (i := 1) (.int .u8 (a 1))
  have h2 := Joins.block_setCell h1 (i := 2) (.int .u8 (a 2))
  have h3 := Joins.block_setCell h2 (i := 3) (.int .u8 (a 3))
  have h4 := Joins.block_setCell h3 (i := 4) (.int .u8 (a 4))
  have h5 := Joins.block_setCell h4 (i := 5) (.int .u8 (a 5))
  exact h5

theorem set6_below {C : Nat} {w w0 : World} {B : Nat} (a : Nat → Nat) (h : Below C w0 w) (hB : C ≤ B) : Below C w0 (set6 w B a) :=
  (((((h.setCell (p := ⟨B, 0, none⟩) hB _).setCell (p := ⟨B, 1, none⟩) hB _).setCell (p := ⟨B, 2, none⟩) hB _).setCell (p := ⟨B, 3, none⟩) hB _).setCell (p := ⟨B, 4, none⟩) hB _).setCell (p := ⟨B, 5, none⟩) hB _

set_option maxRecDepth 100000 in
theorem parse_any (s : ByteArray) (w : World) :
    Calls Tryd.prog 57 #[.string s] w fun e w' => ParseR s.data.toList e ∧ Below w.heap.size w w' := by
  by_cases hsz : s.size = 17
  · have hne : ((s.size : Int) == 17) = true := by rw [beq_iff_eq]; omega
    go_enter Tryd.func57, Tryd.ntmps57
    go_wp2
    go_loopw [11] (fun i wr => ∃ k : Nat, k ≤ 6 ∧ i = .int .i64 k ∧ wr.heap[w.heap.size]? = some (.cells (sixC fun _ => 0) 23 (0, 0)) ∧ wr.heap[w.heap.size + 1]? = some (.cells (sixC (upto s.data.toList k)) 23 (0, 0)) ∧ Below w.heap.size w wr) (fun i _ => 6 - (intOf i).toNat)
    case atStart => exact ⟨0, by omega, rfl, heap_alloc2_old w _ _, heap_alloc2_new w _ _, ((Below.refl _ _).alloc (Nat.le_refl _) _).alloc (by simp) _⟩
    case round =>
      obtain ⟨k, hk, rfl, hR, hA, hb⟩ := hrel
      by_cases hlt : k < 6
      · obtain ⟨c1, hc1⟩ : ∃ c, c = s.data.toList.getD (3 * k) 0 := ⟨_, rfl⟩
        obtain ⟨c2, hc2⟩ : ∃ c, c = s.data.toList.getD (3 * k + 1) 0 := ⟨_, rfl⟩
        have g1 : ∀ p : (3 * (k : Int)).toNat < s.size, s[(3 * (k : Int)).toNat]'p = c1 := fun p => by
          rw [hc1, show 3 * k = (3 * (k : Int)).toNat by omega]
          exact Lib.getD_at s _ p
        have g2 : ∀ p : (3 * (k : Int) + 1).toNat < s.size, s[(3 * (k : Int) + 1).toNat]'p = c2 := fun p => by
          rw [hc2, show 3 * k + 1 = (3 * (k : Int) + 1).toNat by omega]
          exact Lib.getD_at s _ p
        have cA : wr.cell? ⟨w.heap.size + 1, k, none⟩ = some (.int .u8 (upto s.data.toList k k)) := (Joins.cell_of_block hA k).trans (sixC_get _ _ hlt)
        have fA : wr.frozen? ⟨w.heap.size + 1, k, none⟩ = false := Joins.unfrozen_of_block hA k
        have v1 : IntKind.i64.wrap (3 * (k : Int)) = 3 * (k : Int) := by rw [IntKind.wrap_i64]; omega
        have v2 : IntKind.i64.wrap (3 * (k : Int) + 1) = 3 * (k : Int) + 1 := by rw [IntKind.wrap_i64]; omega
        have b1 : (0 : Int) ≤ 3 * (k : Int) := by omega
        have b2 : 3 * (k : Int) < (s.size : Int) := by omega
        have b3 : (0 : Int) ≤ 3 * (k : Int) + 1 := by omega
        have b4 : 3 * (k : Int) + 1 < (s.size : Int) := by omega
        have HP : Hid ((bits .or .u8 (IntKind.u8.wrap ((digN c1 : Int) * 16)) (digN c2 : Int)) = (par s.data.toList k : Int)) := by
          show _ = _
          have h1 : IntKind.u8.wrap ((digN c1 : Int) * 16) = ((digN c1 * 16 % 256 : Nat) : Int) := by show ((digN c1 : Int) * 16) % 256 = _; omega
          rw [h1, Go.u8_or_nat _ _ (by omega) (digN_lt c2), hc1, hc2]
          rfl
        have HS := Lib.hid hsz
        clear hc1 hc2 hsz
        go_wp2
        go_region_held3 (fun _ => True) (trivial)
          (first
            | (go_at_call 76; refine (digit_any c1 _).mono ?_; rintro e w1 ⟨rfl, rfl⟩)
            | (go_at_call 76; refine (digit_any c2 _).mono ?_; rintro e w1 ⟨rfl, rfl⟩))
        all_goals (
          have hA2 := Joins.block_setCell hA (i := k) (.int .u8 (par s.data.toList k))
          rw [upto_step _ _ hlt] at hA2
          have hR2 : (wr.setCell ⟨w.heap.size + 1, k, none⟩ (.int .u8 (par s.data.toList k))).heap[w.heap.size]? = some (.cells (sixC fun _ => 0) 23 (0, 0)) := (Below.heap_setCell _ _ _ _ (by simp)).trans hR
          have hb2 := (hb.setCell (p := ⟨w.heap.size + 1, k, none⟩) (by simp) (.int .u8 (par s.data.toList k))).drew
          rw [HP.out]
          go_wp2
          go_roundw
          case rel => exact ⟨k + 1, by omega, by go_num, hR2, hA2, hb2⟩
          case measure => simp [intOf]; omega)
      · obtain rfl : k = 6 := by omega
        rw [upto_all] at hA
        have hwr := hb.size
        have hp := par_lt s.data.toList
        have hsix := fun (b : Nat → Nat) (hb : ∀ i, b i < 256) (h : addrL b = s.data.toList) => six_par hb h
        generalize par s.data.toList = a at hA hp hsix
        have a0 : wr.cell? ⟨w.heap.size + 1, 0, none⟩ = some (.int .u8 (a 0)) := (Joins.cell_of_block hA 0).trans rfl
        have a1 : wr.cell? ⟨w.heap.size + 1, 1, none⟩ = some (.int .u8 (a 1)) := (Joins.cell_of_block hA 1).trans rfl
        have a2 : wr.cell? ⟨w.heap.size + 1, 2, none⟩ = some (.int .u8 (a 2)) := (Joins.cell_of_block hA 2).trans rfl
        have a3 : wr.cell? ⟨w.heap.size + 1, 3, none⟩ = some (.int .u8 (a 3)) := (Joins.cell_of_block hA 3).trans rfl
        have a4 : wr.cell? ⟨w.heap.size + 1, 4, none⟩ = some (.int .u8 (a 4)) := (Joins.cell_of_block hA 4).trans rfl
        have a5 : wr.cell? ⟨w.heap.size + 1, 5, none⟩ = some (.int .u8 (a 5)) := (Joins.cell_of_block hA 5).trans rfl
        go_wp2_with fail
        refine (text_any a hp _).mono ?_
        rintro e w1 ⟨rfl, hb1⟩
        have hAlt : w.heap.size + 1 < wr.heap.size := World.block_lt_of_cell? wr _ a0
        have hA1 : w1.heap[w.heap.size + 1]? = some (.cells (sixC a) 23 (0, 0)) := (hb1.block _ hAlt).trans hA
        have hR1 : w1.heap[w.heap.size]? = some (.cells (sixC fun _ => 0) 23 (0, 0)) := (hb1.block _ (by omega)).trans hR
        have hb2 : Below w.heap.size w w1 := hb.trans (hb1.mono hwr)
        clear a0 a1 a2 a3 a4 a5 hb1 hA hR hb
        have a0 : w1.cell? ⟨w.heap.size + 1, 0, none⟩ = some (.int .u8 (a 0)) := (Joins.cell_of_block hA1 0).trans rfl
        have a1 : w1.cell? ⟨w.heap.size + 1, 1, none⟩ = some (.int .u8 (a 1)) := (Joins.cell_of_block hA1 1).trans rfl
        have a2 : w1.cell? ⟨w.heap.size + 1, 2, none⟩ = some (.int .u8 (a 2)) := (Joins.cell_of_block hA1 2).trans rfl
        have a3 : w1.cell? ⟨w.heap.size + 1, 3, none⟩ = some (.int .u8 (a 3)) := (Joins.cell_of_block hA1 3).trans rfl
        have a4 : w1.cell? ⟨w.heap.size + 1, 4, none⟩ = some (.int .u8 (a 4)) := (Joins.cell_of_block hA1 4).trans rfl
        have a5 : w1.cell? ⟨w.heap.size + 1, 5, none⟩ = some (.int .u8 (a 5)) := (Joins.cell_of_block hA1 5).trans rfl
        have r0 : w1.cell? ⟨w.heap.size, 0, none⟩ = some (.int .u8 0) := (Joins.cell_of_block hR1 0).trans rfl
        have r1 : w1.cell? ⟨w.heap.size, 1, none⟩ = some (.int .u8 0) := (Joins.cell_of_block hR1 1).trans rfl
        have r2 : w1.cell? ⟨w.heap.size, 2, none⟩ = some (.int .u8 0) := (Joins.cell_of_block hR1 2).trans rfl
        have r3 : w1.cell? ⟨w.heap.size, 3, none⟩ = some (.int .u8 0) := (Joins.cell_of_block hR1 3).trans rfl
        have r4 : w1.cell? ⟨w.heap.size, 4, none⟩ = some (.int .u8 0) := (Joins.cell_of_block hR1 4).trans rfl
        have r5 : w1.cell? ⟨w.heap.size, 5, none⟩ = some (.int .u8 0) := (Joins.cell_of_block hR1 5).trans rfl
        have f0 : w1.frozen? ⟨w.heap.size, 0, none⟩ = false := Joins.unfrozen_of_block hR1 0
        have f1 : w1.frozen? ⟨w.heap.size, 1, none⟩ = false := Joins.unfrozen_of_block hR1 1
        have f2 : w1.frozen? ⟨w.heap.size, 2, none⟩ = false := Joins.unfrozen_of_block hR1 2
        have f3 : w1.frozen? ⟨w.heap.size, 3, none⟩ = false := Joins.unfrozen_of_block hR1 3
        have f4 : w1.frozen? ⟨w.heap.size, 4, none⟩ = false := Joins.unfrozen_of_block hR1 4
        have f5 : w1.frozen? ⟨w.heap.size, 5, none⟩ = false := Joins.unfrozen_of_block hR1 5
        have HR1 := Lib.hid hR1
        clear hA1 hR1
        by_cases he : addrL a = s.data.toList
        · have he1 : (addrL a == s.toList) = true := by rw [beq_iff_eq, he, ByteArray.toList_eq]
          go_wp2
          change bodyPost _ _ _ _ _ (set6 w1 w.heap.size a)
          have q0 : (set6 w1 w.heap.size a).cell? ⟨w.heap.size, 0, none⟩ = some (.int .u8 (a 0)) := (Joins.cell_of_block (set6_heap a HR1.out) 0).trans rfl
          have q1 : (set6 w1 w.heap.size a).cell? ⟨w.heap.size, 1, none⟩ = some (.int .u8 (a 1)) := (Joins.cell_of_block (set6_heap a HR1.out) 1).trans rfl
          have q2 : (set6 w1 w.heap.size a).cell? ⟨w.heap.size, 2, none⟩ = some (.int .u8 (a 2)) := (Joins.cell_of_block (set6_heap a HR1.out) 2).trans rfl
          have q3 : (set6 w1 w.heap.size a).cell? ⟨w.heap.size, 3, none⟩ = some (.int .u8 (a 3)) := (Joins.cell_of_block (set6_heap a HR1.out) 3).trans rfl
          have q4 : (set6 w1 w.heap.size a).cell? ⟨w.heap.size, 4, none⟩ = some (.int .u8 (a 4)) := (Joins.cell_of_block (set6_heap a HR1.out) 4).trans rfl
          have q5 : (set6 w1 w.heap.size a).cell? ⟨w.heap.size, 5, none⟩ = some (.int .u8 (a 5)) := (Joins.cell_of_block (set6_heap a HR1.out) 5).trans rfl
          exact bodyPost_ret (v := .tuple #[addrV a, .nilIface]) (by simp [results, Tryd.results57, go_sem, q0, q1, q2, q3, q4, q5, addrV]) rfl ⟨Or.inl ⟨a, hp, he, rfl⟩, set6_below a hb2 (Nat.le_refl _)⟩
        · have he1 : (addrL a == s.toList) = false := by rw [beq_eq_false_iff_ne, ByteArray.toList_eq]; exact he
          go_wp2
          change bodyPost _ _ _ _ _ (set6 w1 w.heap.size (fun _ => 0))
          have q0 : (set6 w1 w.heap.size (fun _ => 0)).cell? ⟨w.heap.size, 0, none⟩ = some (.int .u8 0) := (Joins.cell_of_block (set6_heap (fun _ => 0) HR1.out) 0).trans rfl
          have q1 : (set6 w1 w.heap.size (fun _ => 0)).cell? ⟨w.heap.size, 1, none⟩ = some (.int .u8 0) := (Joins.cell_of_block (set6_heap (fun _ => 0) HR1.out) 1).trans rfl
          have q2 : (set6 w1 w.heap.size (fun _ => 0)).cell? ⟨w.heap.size, 2, none⟩ = some (.int .u8 0) := (Joins.cell_of_block (set6_heap (fun _ => 0) HR1.out) 2).trans rfl
          have q3 : (set6 w1 w.heap.size (fun _ => 0)).cell? ⟨w.heap.size, 3, none⟩ = some (.int .u8 0) := (Joins.cell_of_block (set6_heap (fun _ => 0) HR1.out) 3).trans rfl
          have q4 : (set6 w1 w.heap.size (fun _ => 0)).cell? ⟨w.heap.size, 4, none⟩ = some (.int .u8 0) := (Joins.cell_of_block (set6_heap (fun _ => 0) HR1.out) 4).trans rfl
          have q5 : (set6 w1 w.heap.size (fun _ => 0)).cell? ⟨w.heap.size, 5, none⟩ = some (.int .u8 0) := (Joins.cell_of_block (set6_heap (fun _ => 0) HR1.out) 5).trans rfl
          exact bodyPost_ret (v := .tuple #[addrV (fun _ => 0), .iface 28 (.int .i64 3)]) (by simp [results, Tryd.results57, go_sem, q0, q1, q2, q3, q4, q5, addrV]) rfl ⟨Or.inr ⟨fun b hb h => he (by rw [← addrL_six (hsix b hb h), h]), rfl⟩, set6_below _ hb2 (Nat.le_refl _)⟩
  · have hne : ((s.size : Int) == 17) = false := by rw [beq_eq_false_iff_ne]; omega
    go_enter Tryd.func57, Tryd.ntmps57
    go_wp2
    refine bodyPost_ret (v := .tuple #[.agg #[.int .u8 0, .int .u8 0, .int .u8 0, .int .u8 0, .int .u8 0, .int .u8 0], .iface 28 (.int .i64 3)]) (by simp [results, Tryd.results57, go_sem]) rfl ⟨Or.inr ⟨fun b hb h => ?_, rfl⟩, ?_⟩
    · have h1 := addrL_length b
      rw [h] at h1
      exact hsz h1
    · exact ((Below.refl _ _).alloc (Nat.le_refl _) _).alloc (by simp) _

end Go.Proofs.YtceiiolpggolbaaDoor
