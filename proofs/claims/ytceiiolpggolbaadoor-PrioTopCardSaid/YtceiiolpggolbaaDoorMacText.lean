/- mac.Text at every address: its text; nothing that was there is changed. -/
import Derived.Test.YtceiiolpggolbaaDoorProg
import Derived.Test.YtceiiolpggolbaaDoorHexT
import Derived.WalkKit
import Derived.WalkSpells
import Derived.WalkLawsBesides
import Derived.Laws.IdiomStrings
import Derived.Deep.RegionHeld3
import Derived.Deep.AppendLies
import Derived.Deep.DrawnRows
import Derived.Lib.Hide
import Derived.Lib.SmallJoins
namespace Go.Proofs.YtceiiolpggolbaaDoor
open Go.RowKit
attribute [local go_sem ↓] Go.wp_at_zero Go.wp_at_succ

/-- An address as a value. -/
def addrV (x : Nat → Nat) : Value := .agg #[.int .u8 (x 0), .int .u8 (x 1), .int .u8 (x 2), .int .u8 (x 3), .int .u8 (x 4), .int .u8 (x 5)]

theorem Tryd.infoU8 : (Tryd.prog.info? 5).map (fun i => (i.zero, i.size, i.bytes)) = some (some (.int .u8 0), 1, 1) := by kernel_rfl

/-- Bytes as cells. -/
def byC (l : List UInt8) : List Value := l.map fun b => Value.int .u8 (b.toNat : Int)

theorem byC_append (a b : List UInt8) : byC (a ++ b) = byC a ++ byC b := by simp [byC]
theorem byC_length (a : List UInt8) : (byC a).length = a.length := by simp [byC]

theorem addrTo_length (x : Nat → Nat) : ∀ k, (addrTo x k).length ≤ 3 * k
  | 0 => by simp [addrTo]
  | k + 1 => by
    have := addrTo_length x k
    simp only [addrTo, List.length_append, hex2]
    split <;> simp <;> omega

theorem six_at (x : Nat → Nat) (k : Nat) (hk : k < 6) (W : World) : (Instr.index 23 (.agg #[.int .u8 (x 0), .int .u8 (x 1), .int .u8 (x 2), .int .u8 (x 3), .int .u8 (x 4), .int .u8 (x 5)]) (.int .i64 (k : Int))).run Tryd.prog W = .ok (.int .u8 (x k)) W := by
  have h : k = 0 ∨ k = 1 ∨ k = 2 ∨ k = 3 ∨ k = 4 ∨ k = 5 := by omega
  rcases h with rfl | rfl | rfl | rfl | rfl | rfl
  all_goals (show _ = _; kernel_rfl)

/-- A digit out of the sixteen. -/
theorem digit_of (y : Nat) (hy : y < 16) : ((⟨#[48, 49, 50, 51, 52, 53, 54, 55, 56, 57, 97, 98, 99, 100, 101, 102]⟩ : ByteArray)[y]'hy) = hexc y := by
  have h : ∀ y : Nat, (hy : y < 16) → ((⟨#[48, 49, 50, 51, 52, 53, 54, 55, 56, 57, 97, 98, 99, 100, 101, 102]⟩ : ByteArray)[y]'hy) = hexc y := by decide
  exact h y hy

theorem low_four : ∀ y : Nat, y < 256 → bits .and .u8 (y : Int) 15 = ((y % 16 : Nat) : Int) := by decide +kernel

theorem rel_step {w2 : World} {B : Nat} {v : Value} {l l' m : List UInt8} {cs : List Value} {n : Nat} (h : w2.ownsRow B 5 1 v n cs) (hl : l' = l ++ m) (hn : n = l'.length) (hc : cs = byC l ++ byC m) :
    w2.ownsRow B 5 1 v l'.length (byC l') := by
  rw [← hn, hl, byC_append, ← hc]
  exact h

theorem byC_one (b : UInt8) (n : Nat) (h : b.toNat = n) : [Value.int .u8 (n : Int)] = byC [b] := by simp [byC, h]

set_option maxHeartbeats 1600000 in
set_option maxRecDepth 100000 in
theorem text_any (x : Nat → Nat) (hx : ∀ i, x i < 256) (w : World) :
    Calls Tryd.prog 52 #[addrV x] w fun e w' => e = .returned (.string ⟨(addrL x).toArray⟩) ∧ Below w.heap.size w w' := by
  obtain ⟨i0, hi, hz0, hz1, hz2⟩ := info_parts Tryd.infoU8
  unfold addrV
  go_enter Tryd.func52, Tryd.ntmps52
  go_wp2
  go_loopw [3, 7] (fun b i wr => ∃ k : Nat, k ≤ 6 ∧ i = .int .i64 k ∧ wr.ownsRow w.heap.size 5 1 b (addrTo x k).length (byC (addrTo x k)) ∧ Below w.heap.size w wr) (fun _ i _ => 6 - (intOf i).toNat)
  case atStart => exact ⟨0, by omega, rfl, World.ownsRow_nil _ _ _ _, (Below.refl _ _).alloc (Nat.le_refl _) _⟩
  case round =>
    obtain ⟨k, hk, rfl, hown, hb⟩ := hrel
    have hs1 := hb.size
    have hl := addrTo_length x k
    by_cases hlt : k < 6
    · obtain ⟨y, hy⟩ : ∃ y, y = x k := ⟨_, rfl⟩
      have hix := fun W => six_at x k hlt W
      have hxk := hx k
      have HX : Hid (addrTo x (k + 1) = addrTo x k ++ ((if k = 0 then [] else [58]) ++ [hexc (x k / 16), hexc (x k % 16)])) := rfl
      have HL : Hid ((addrTo x (k + 1)).length ≤ 3 * (k + 1)) := by show _ ≤ _; exact addrTo_length x (k + 1)
      rw [← hy] at hix hxk HX
      have HY := Lib.hid hy
      clear hy
      have hd1 : ((⟨#[48, 49, 50, 51, 52, 53, 54, 55, 56, 57, 97, 98, 99, 100, 101, 102]⟩ : ByteArray)[((y : Int) / 16).toNat]'(show _ < 16 by omega)) = hexc (y / 16) := (digit_of _ (show _ < 16 by omega)).trans (by congr 1)
      have hd2 : ((⟨#[48, 49, 50, 51, 52, 53, 54, 55, 56, 57, 97, 98, 99, 100, 101, 102]⟩ : ByteArray)[((y : Int) % 16).toNat]'(show _ < 16 by omega)) = hexc (y % 16) := (digit_of _ (show _ < 16 by omega)).trans (by congr 1)
      have hlo := low_four y hxk
      by_cases hk0 : k = 0
      · subst hk0
        have hix0 : ∀ W, (Instr.index 23 (.agg #[.int .u8 (x 0), .int .u8 (x 1), .int .u8 (x 2), .int .u8 (x 3), .int .u8 (x 4), .int .u8 (x 5)]) (.int .i64 0)).run Tryd.prog W = .ok (.int .u8 y) W := fun W => hix W
        clear hix
        go_wp2
        go_region_held3 (fun _ => True) (trivial) ((refine step_append_lies _ (by rfl) _ _ _ (by rfl) w.heap.size 5 i0 (.int .u8 0) 1 1 Tryd.underlying70 hi hz0 hz1 hz2 rfl (by omega) u3 (addrTo x 0).length _ (by rfl) (World.ownsRow.drew (hown.alloc _)) ⟨wr.heap.size, 0, none⟩ 2 2 [.int .u8 ((hexc (y / 16)).toNat : Int), .int .u8 ((hexc (y % 16)).toNat : Int)] (by rfl) (by rfl) (World.news_of_block (cs := #[.int .u8 ((hexc (y / 16)).toNat : Int), .int .u8 ((hexc (y % 16)).toNat : Int)]) (t := 5) (fr := (0, 0)) (heap_alloc_new wr _)) (by simp [Value.oneCell']) (by omega) (by unfold maxLen; omega) (by omega) (by simp; omega) (wr.heap.size + 1) (by simp) ?_; intro g2 cap2 w2 hown2 hgrow2 hat2 hlt2))
        all_goals (
          have hb2 : Below w.heap.size w w2 := (hb.alloc hs1 _).drew.grown hgrow2 (by simp; omega) (fun g hg => (hown.lt g hg).1)
          have hown3 := rel_step (l' := addrTo x (0 + 1)) (l := addrTo x 0) (m := [hexc (y / 16), hexc (y % 16)]) hown2 (by rw [HX.out]; rfl) (by rw [HX.out]; simp) (by simp [byC])
          clear hown hown2 hgrow2 hix0 hd1 hd2 hat2
          go_wp2
          go_roundw
          case rel => exact ⟨1, by omega, by go_num, hown3, hb2⟩
          case measure => simp [intOf])
      · go_wp2_with (at_builtin; refine wpList_append_lies _ rfl _ _ _ rfl w.heap.size 5 i0 (.int .u8 0) 1 1 Tryd.underlying70 hi hz0 hz1 hz2 rfl (by omega) _ _ _ rfl (hown.alloc _) ⟨wr.heap.size, 0, none⟩ 1 1 [.int .u8 58] rfl rfl (World.news_of_block (cs := #[.int .u8 58]) (t := 5) (fr := (0, 0)) (heap_alloc_new wr _)) (by simp [Value.oneCell']) (by omega) (by unfold maxLen; omega) (by omega) (by simp; omega) (wr.heap.size + 1) (by simp) ?_; intro g cap w1 hown1 hgrow1 hat1 hlt1; have hs2 : wr.heap.size + 1 ≤ w1.heap.size := (by have q := hgrow1.size; simpa using q))
        go_region_held3 (fun _ => True) (trivial) ((refine step_append_lies _ (by rfl) _ _ _ (by rfl) w.heap.size 5 i0 (.int .u8 0) 1 1 Tryd.underlying70 hi hz0 hz1 hz2 rfl (by omega) (.slice (some ⟨g, 0, none⟩) ((addrTo x k).length + 1) cap) ((addrTo x k).length + 1) _ (by rfl) (World.ownsRow.drew (hown1.alloc _)) ⟨w1.heap.size, 0, none⟩ 2 2 [.int .u8 ((hexc (y / 16)).toNat : Int), .int .u8 ((hexc (y % 16)).toNat : Int)] (by rfl) (by rfl) (World.news_of_block (cs := #[.int .u8 ((hexc (y / 16)).toNat : Int), .int .u8 ((hexc (y % 16)).toNat : Int)]) (t := 5) (fr := (0, 0)) (heap_alloc_new w1 _)) (by simp [Value.oneCell']) (by omega) (by unfold maxLen; omega) (by omega) (by simp; omega) (w1.heap.size + 1) (by simp) ?_; intro g2 cap2 w2 hown2 hgrow2 hat2 hlt2))
        all_goals (
          have hb1 : Below w.heap.size w w1 := (hb.alloc hs1 _).grown hgrow1 (by simp; omega) (fun g hg => (hown.lt g hg).1)
          have hb2 : Below w.heap.size w w2 := (hb1.alloc (by show w.heap.size ≤ w1.heap.size; omega) _).drew.grown hgrow2 (by simp; omega) (fun g hg => (hown1.lt g hg).1)
          have hown3 := rel_step (l' := addrTo x (k + 1)) (l := addrTo x k) (m := 58 :: [hexc (y / 16), hexc (y % 16)]) hown2 (by rw [HX.out, if_neg hk0]; rfl) (by rw [HX.out, if_neg hk0]; simp) (by simp [byC])
          clear hown hown1 hown2 hgrow1 hgrow2 hb1 hix hd1 hd2 hat1 hat2
          go_wp2
          go_roundw
          case rel => exact ⟨k + 1, by omega, by go_num, hown3, hb2⟩
          case measure => simp [intOf]; omega)
    · obtain rfl : k = 6 := by omega
      have h17 : (addrTo x 6).length = 17 := addrL_length x
      rw [h17] at hown
      obtain ⟨g, cap, hv, hg1, hg2⟩ := hown.form (by omega)
      rw [hv] at hown
      have hback := run_convert_bytes_back (P := Tryd.prog) wr 70 9 5 ⟨g, 0, none⟩ cap (addrL x) Tryd.underlying70 Tryd.underlying5 Tryd.underlying9 (fun j hj => by
        rw [addrL_length] at hj
        rw [Addr.add_lit, Nat.zero_add, hown.cellAt j (by omega)]
        show (byC (addrL x))[j]? = _
        simp [byC, List.getElem?_eq_getElem (show j < (addrL x).length by rw [addrL_length]; omega)])
      rw [addrL_length] at hback
      subst hv
      clear hown
      go_wp2
      go_ret
      exact ⟨rfl, hb⟩

end Go.Proofs.YtceiiolpggolbaaDoor
