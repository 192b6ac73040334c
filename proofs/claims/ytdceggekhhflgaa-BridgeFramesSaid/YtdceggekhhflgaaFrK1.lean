/- switchyardkeep.BridgeFrames returns true for every argument, and changes nothing that was there. -/
import Derived.Test.YtdceggekhhflgaaTagStack
import Derived.Test.YtdceggekhhflgaaTagEq
import Derived.BigQuiet
import Derived.Deep.QuietTactic
import Derived.Test.YtdceggekhhflgaaFr
import Derived.ChangeKeysEq
import Derived.Test.YtdceggekhhflgaaPlM
import Derived.Test.YtdceggekhhflgaaBrP
import Derived.Test.YtdceggekhhflgaaOutM
import Derived.Test.YtdceggekhhflgaaKs
import Derived.Test.YtdceggekhhflgaaPs
import Derived.BigGuard
import Derived.Below
import Derived.ChangeSame
import Derived.Test.YtdceggekhhflgaaPsS
import Derived.ProofKit
import Derived.OpenShut
import Derived.WideKeyArgs
import Derived.WideShapes
import Derived.SizedLaws
import Derived.Lib.SmallJoins
import Derived.Deep.SlicePairs
import Derived.Test.YtdceggekhhflgaaTrM
import Derived.Test.YtdceggekhhflgaaRows
namespace Go.Proofs.Ytdceggekhhflgaa
open Go.RowKit

/-- Whether two lists of tags are one. -/
def tagsEq : List Tg → List Tg → Bool
  | [], [] => true
  | a :: l, b :: m => eqT a b && tagsEq l m
  | _, _ => false

theorem tagsEq_refl : ∀ l, tagsEq l l = true
  | [] => rfl
  | a :: l => by rw [tagsEq, eqT_refl, tagsEq_refl l]; rfl

theorem tagsEq_len : ∀ l m, l.length ≠ m.length → tagsEq l m = false
  | [], [], h => absurd rfl h
  | [], _ :: _, _ => rfl
  | _ :: _, [], _ => rfl
  | a :: l, b :: m, h => by rw [tagsEq, tagsEq_len l m (by simpa using h), Bool.and_false]

theorem tagsEq_drop (l m : List Tg) (k : Nat) (h1 : k < l.length) (h2 : k < m.length) : tagsEq (l.drop k) (m.drop k) = (eqT l[k] m[k] && tagsEq (l.drop (k + 1)) (m.drop (k + 1))) := by
  rw [List.drop_eq_getElem_cons h1, List.drop_eq_getElem_cons h2]
  rfl

theorem tags_cells {w : World} {a : Option Addr} {l : List Tg} (h : TagsIn w a l) (k : Nat) (hk : k < l.length) :
    ∃ b lo, a = some ⟨b, lo, none⟩ ∧ b < w.heap.size ∧ w.cell? ⟨b, lo + k * 4, none⟩ = some (.bool l[k].s) ∧ w.cell? ⟨b, lo + k * 4 + 1, none⟩ = some (.int .i64 l[k].p) ∧ w.cell? ⟨b, lo + k * 4 + 2, none⟩ = some (.bool l[k].d) ∧ w.cell? ⟨b, lo + k * 4 + 3, none⟩ = some (.int .i64 l[k].v) := by
  rcases h with rfl | ⟨b, lo, ha, hlt, hat⟩
  · simp at hk
  · obtain ⟨h0, h1, h2, h3⟩ := hat k hk
    exact ⟨b, lo, ha, hlt, h0, h1, h2, h3⟩

set_option maxHeartbeats 1600000 in
theorem equal_any (a b : Option Addr) (c c' : Nat) (l m : List Tg) (w : World) (ha : TagsIn w a l) (hb : TagsIn w b m) (h1 : l.length ≤ 20) :
    Calls Try.prog 46 #[.slice a l.length c, .slice b m.length c'] w fun e w' => e = .returned (.bool (tagsEq l m)) ∧ Below w.heap.size w w' := by
  by_cases hl : l.length = m.length
  · obtain ⟨n, hn⟩ : ∃ n, n = l.length := ⟨_, rfl⟩
    have hm : m.length = n := by omega
    have HN := Lib.hid hn
    have HM := Lib.hid hm
    rw [← hn] at h1
    rw [hm, ← hn]
    clear hl hn hm
    go_enter Try.func46, Try.ntmps46
    go_wp2
    go_loopw [13] (fun i wr => ∃ k : Nat, k ≤ n ∧ i = .int .i64 k ∧ tagsEq l m = tagsEq (l.drop k) (m.drop k) ∧ Below w.heap.size w wr) (fun i _ => n - (intOf i).toNat)
    case atStart => exact ⟨0, by omega, rfl, rfl, Below.refl _ _⟩
    case round =>
      obtain ⟨k, hk, rfl, hu, hbl⟩ := hrel
      have HU := Lib.hid hu
      clear hu
      by_cases hlt : k < n
      · have b1 : (k : Int) < (n : Int) := by omega
        have hkl : k < l.length := by rw [← HN.out]; exact hlt
        have hkm : k < m.length := by rw [HM.out]; exact hlt
        obtain ⟨ba, la, rfl, hba, p0, p1, p2, p3⟩ := tags_cells (ha.below hbl) k hkl
        obtain ⟨bb, lb, rfl, hbb, q0, q1, q2, q3⟩ := tags_cells (hb.below hbl) k hkm
        have HD := Lib.hid (tagsEq_drop l m k hkl hkm)
        have hq : ∀ W, (Op.equalIn 10000 68 (.agg #[.bool l[k].s, .int .i64 l[k].p, .bool l[k].d, .int .i64 l[k].v]) (.agg #[.bool m[k].s, .int .i64 m[k].p, .bool m[k].d, .int .i64 m[k].v])).run Try.prog W = .ok (eqT l[k] m[k]) W := fun W => run_eql_tag l[k] m[k] W
        have HB : Below w.heap.size w wr := hbl
        generalize l[k] = x at *
        generalize m[k] = y at *
        clear hkl hkm ha hb hbl
        cases he : eqT x y
        all_goals
          rw [he] at hq HD
          clear he
          go_wp2
          go_quiet (fail)
          go_wp2
        · go_ret
          exact ⟨by rw [HU.out, HD.out]; rfl, HB.os, HB.tape, HB.output, HB.size, HB.block⟩
        · go_roundw
          case rel => exact ⟨k + 1, by omega, by go_num, by rw [HU.out, HD.out, Bool.true_and], HB.os, HB.tape, HB.output, HB.size, HB.block⟩
          case measure => simp [intOf]; omega
      · have HE : Hid (tagsEq l m = true) := by
          show _ = _
          rw [HU.out, List.drop_of_length_le (by rw [← HN.out]; omega), List.drop_of_length_le (by rw [HM.out]; omega)]
          rfl
        go_wp2
        go_ret
        exact ⟨by rw [HE.out]; rfl, hbl⟩
  · have hd : ((l.length : Int) != (m.length : Int)) = true := by simp; omega
    have HL := Lib.hid (tagsEq_len l m hl)
    clear hl
    go_enter Try.func46, Try.ntmps46
    go_wp2
    go_ret
    exact ⟨by rw [HL.out]; rfl, Below.refl _ _⟩

end Go.Proofs.Ytdceggekhhflgaa

set_option linter.unusedVariables false
namespace Go.Proofs.Ytdceggekhhflgaa
open Go.RowKit

theorem run_eqItems_intsF {P : Program} (w : World) (d : Nat) (e : TypeId) (k k' : IntKind) (he : P.underlying e = some (.int k')) (xs ys : Nat → Int) (X Y : Array Value) : ∀ is : List Nat,
    (∀ i ∈ is, X[i]? = some (.int k (xs i)) ∧ Y[i]? = some (.int k (ys i))) → (Op.eqItems (d + 1) e 1 X Y is).run P w = .ok (is.all fun i => xs i == ys i) w
  | [], _ => by simp [Op.eqItems]
  | i :: is, h => by
    obtain ⟨h1, h2⟩ := h i (by simp)
    have p1 : (part e X (i * 1)).run P w = .ok (.int k (xs i)) w := by simp [part, isAgg, run_underlying he, h1]
    have p2 : (part e Y (i * 1)).run P w = .ok (.int k (ys i)) w := by simp [part, isAgg, run_underlying he, h2]
    have ih := run_eqItems_intsF w d e k k' he xs ys X Y is (fun j hj => h j (by simp [hj]))
    have q := run_equalIn_int (P := P) w d e k k' (xs i) (ys i) he
    simp only [Op.eqItems, Sem.run_bind, p1, p2, q, Result.andThen_ok, List.all_cons]
    cases (xs i == ys i)
    · simp
    · simpa using ih

/-- Two addresses. -/
def eq6 (x y : Nat → Nat) : Bool := [0, 1, 2, 3, 4, 5].all fun i => ((x i : Int) == (y i : Int))

theorem size_u8' : Try.prog.cellsOf 5 = 1 := by kernel_rfl

theorem infoU8 : ∃ i, Try.prog.info? 5 = some i := Option.isSome_iff_exists.1 (by kernel_rfl)

theorem run_eql_six (x y : Nat → Nat) (w : World) :
    (Op.equalIn 10000 33 (.agg #[.int .u8 (x 0), .int .u8 (x 1), .int .u8 (x 2), .int .u8 (x 3), .int .u8 (x 4), .int .u8 (x 5)]) (.agg #[.int .u8 (y 0), .int .u8 (y 1), .int .u8 (y 2), .int .u8 (y 3), .int .u8 (y 4), .int .u8 (y 5)])).run Try.prog w = .ok (eq6 x y) w := by
  obtain ⟨i, hi⟩ := infoU8
  rw [run_equalIn_array w 9999 _ _ Try.underlying33 hi, size_u8']
  refine run_eqItems_intsF w 9998 5 .u8 .u8 Try.underlying5 (fun i => (x i : Int)) (fun i => (y i : Int)) _ _ (List.range 6) (fun i hi => ?_)
  have hi6 : i < 6 := by simpa using hi
  have : i = 0 ∨ i = 1 ∨ i = 2 ∨ i = 3 ∨ i = 4 ∨ i = 5 := by omega
  rcases this with rfl | rfl | rfl | rfl | rfl | rfl <;> exact ⟨rfl, rfl⟩

/-- Whether two frames are one. -/
def sameB (f g : Fr) : Bool := eq6 f.d g.d && (eq6 f.s g.s && (tagsEq f.tl g.tl && ((f.k == g.k) && ((f.t == g.t) && ((f.da == g.da) && ((f.sa == g.sa) && ((f.ct == g.ct) && ((f.ou == g.ou) && ((f.pi == g.pi) && ((f.bo.toList == g.bo.toList)))))))))))

theorem both_boxed (w : World) (f g : Fr) : HasF ((w.alloc (.cells (frC f) 36)).alloc (.cells (frC g) 36)) w.heap.size f ∧ HasF ((w.alloc (.cells (frC f) 36)).alloc (.cells (frC g) 36)) (w.heap.size + 1) g ∧ Below w.heap.size w ((w.alloc (.cells (frC f) 36)).alloc (.cells (frC g) 36)) := by
  refine ⟨(heap_alloc_old _ _ (HasF.new w f).lt).trans (HasF.new w f), ?_, ((Below.refl _ _).alloc (Nat.le_refl _) _).alloc (by simp) _⟩
  have h := HasF.new (w.alloc (.cells (frC f) 36)) g
  rw [show (w.alloc (.cells (frC f) 36)).heap.size = w.heap.size + 1 by simp] at h
  exact h

end Go.Proofs.Ytdceggekhhflgaa

namespace Go.Proofs.Ytdceggekhhflgaa
open Go.RowKit
attribute [local go_sem ↓] Go.wp_at_zero Go.wp_at_succ
set_option linter.unusedSimpArgs false
set_option linter.unusedVariables false

def nums (f : Fr) : Nat → Int
  | 0 => f.k
  | 1 => f.t
  | 2 => f.da
  | 3 => f.sa
  | 4 => f.ct
  | 5 => f.ou
  | _ => f.pi

def same7 (f g : Fr) : Bool := [0, 1, 2, 3, 4, 5, 6].all fun i => (nums f i == nums g i)

theorem size_int' : Try.prog.cellsOf 3 = 1 := by kernel_rfl

theorem infoI64 : ∃ i, Try.prog.info? 3 = some i := Option.isSome_iff_exists.1 (by kernel_rfl)

theorem run_eql_seven (f g : Fr) (w : World) : (Op.equalIn 10000 83 (.agg #[.int .i64 f.k, .int .i64 f.t, .int .i64 f.da, .int .i64 f.sa, .int .i64 f.ct, .int .i64 f.ou, .int .i64 f.pi]) (.agg #[.int .i64 g.k, .int .i64 g.t, .int .i64 g.da, .int .i64 g.sa, .int .i64 g.ct, .int .i64 g.ou, .int .i64 g.pi])).run Try.prog w = .ok (same7 f g) w := by
  obtain ⟨i, hi⟩ := infoI64
  rw [run_equalIn_array w 9999 _ _ Try.underlying83 hi, size_int']
  refine run_eqItems_intsF w 9998 3 .i64 .i64 Try.underlying3 (nums f) (nums g) _ _ (List.range 7) (fun i hi => ?_)
  have hi7 : i < 7 := by simpa using hi
  have : i = 0 ∨ i = 1 ∨ i = 2 ∨ i = 3 ∨ i = 4 ∨ i = 5 ∨ i = 6 := by omega
  rcases this with rfl | rfl | rfl | rfl | rfl | rfl | rfl <;> exact ⟨rfl, rfl⟩

theorem numbers_any (f : Fr) (w : World) :
    Calls Try.prog 47 #[.agg #[.int .u8 (f.d 0), .int .u8 (f.d 1), .int .u8 (f.d 2), .int .u8 (f.d 3), .int .u8 (f.d 4), .int .u8 (f.d 5), .int .u8 (f.s 0), .int .u8 (f.s 1), .int .u8 (f.s 2), .int .u8 (f.s 3), .int .u8 (f.s 4), .int .u8 (f.s 5), .slice f.ta f.tl.length f.tc, .int .i64 f.k, .int .i64 f.t, .int .i64 f.da, .int .i64 f.sa, .int .i64 f.ct, .int .i64 f.ou, .int .i64 f.pi, .string f.bo]] w fun e w' => e = .returned (.agg #[.int .i64 f.k, .int .i64 f.t, .int .i64 f.da, .int .i64 f.sa, .int .i64 f.ct, .int .i64 f.ou, .int .i64 f.pi]) ∧ Below w.heap.size w w' := by
  have hb0 : Below w.heap.size w (w.alloc (.cells (frC f) 36)) := (Below.refl _ _).alloc (Nat.le_refl _) _
  have hb1 := hb0.alloc (by simp) (.cells #[.int .i64 f.k, .int .i64 f.t, .int .i64 f.da, .int .i64 f.sa, .int .i64 f.ct, .int .i64 f.ou, .int .i64 f.pi] 83)
  unfold frC at *
  go_enter Try.func47, Try.ntmps47
  go_wp2
  exact bodyPost_ret (v := .agg #[.int .i64 f.k, .int .i64 f.t, .int .i64 f.da, .int .i64 f.sa, .int .i64 f.ct, .int .i64 f.ou, .int .i64 f.pi]) (by simp [results, Try.results47, go_sem]) rfl ⟨rfl, hb1⟩

end Go.Proofs.Ytdceggekhhflgaa

namespace Go.Proofs.Ytdceggekhhflgaa
open Go.RowKit
attribute [local go_sem ↓] Go.wp_at_zero Go.wp_at_succ
set_option linter.unusedSimpArgs false
set_option linter.unusedVariables false

set_option maxHeartbeats 4000000 in
theorem same_0 (f g : Fr) (w : World) (hf : FrIn w f) (hg : FrIn w g)  (h1 : eq6 f.d g.d = false) :
    Calls Try.prog 25 #[frV f, frV g] w fun e w' => e = .returned (.bool false) ∧ Below w.heap.size w w' := by
  obtain ⟨hF0, hG0, hb0⟩ := both_boxed w f g
  have hI0 := hf.below hb0
  have hJ0 := hg.below hb0
  have e1 : ∀ W, (Op.equalIn 10000 33 (.agg #[.int .u8 (f.d 0), .int .u8 (f.d 1), .int .u8 (f.d 2), .int .u8 (f.d 3), .int .u8 (f.d 4), .int .u8 (f.d 5)]) (.agg #[.int .u8 (g.d 0), .int .u8 (g.d 1), .int .u8 (g.d 2), .int .u8 (g.d 3), .int .u8 (g.d 4), .int .u8 (g.d 5)])).run Try.prog W = .ok false W := fun W => by have h := run_eql_six f.d g.d W; rw [h1] at h; exact h
  clear h1 hf hg
  unfold frV frC at *
  go_enter Try.func25, Try.ntmps25
  go_wp2
  generalize (w.alloc (.cells #[.int .u8 (f.d 0), .int .u8 (f.d 1), .int .u8 (f.d 2), .int .u8 (f.d 3), .int .u8 (f.d 4), .int .u8 (f.d 5), .int .u8 (f.s 0), .int .u8 (f.s 1), .int .u8 (f.s 2), .int .u8 (f.s 3), .int .u8 (f.s 4), .int .u8 (f.s 5), .slice f.ta f.tl.length f.tc, .int .i64 f.k, .int .i64 f.t, .int .i64 f.da, .int .i64 f.sa, .int .i64 f.ct, .int .i64 f.ou, .int .i64 f.pi, .string f.bo] 36)).alloc (.cells #[.int .u8 (g.d 0), .int .u8 (g.d 1), .int .u8 (g.d 2), .int .u8 (g.d 3), .int .u8 (g.d 4), .int .u8 (g.d 5), .int .u8 (g.s 0), .int .u8 (g.s 1), .int .u8 (g.s 2), .int .u8 (g.s 3), .int .u8 (g.s 4), .int .u8 (g.s 5), .slice g.ta g.tl.length g.tc, .int .i64 g.k, .int .i64 g.t, .int .i64 g.da, .int .i64 g.sa, .int .i64 g.ct, .int .i64 g.ou, .int .i64 g.pi, .string g.bo] 36) = w1 at *
  have S1 : HasF w1 w.heap.size f ∧ HasF w1 (w.heap.size + 1) g ∧ w1.cell? ⟨w.heap.size, 0, none⟩ = some (.int .u8 (f.d 0)) ∧ w1.cell? ⟨w.heap.size, 1, none⟩ = some (.int .u8 (f.d 1)) ∧ w1.cell? ⟨w.heap.size, 2, none⟩ = some (.int .u8 (f.d 2)) ∧ w1.cell? ⟨w.heap.size, 3, none⟩ = some (.int .u8 (f.d 3)) ∧ w1.cell? ⟨w.heap.size, 4, none⟩ = some (.int .u8 (f.d 4)) ∧ w1.cell? ⟨w.heap.size, 5, none⟩ = some (.int .u8 (f.d 5)) ∧ w1.cell? ⟨w.heap.size, 6, none⟩ = some (.int .u8 (f.s 0)) ∧ w1.cell? ⟨w.heap.size, 7, none⟩ = some (.int .u8 (f.s 1)) ∧ w1.cell? ⟨w.heap.size, 8, none⟩ = some (.int .u8 (f.s 2)) ∧ w1.cell? ⟨w.heap.size, 9, none⟩ = some (.int .u8 (f.s 3)) ∧ w1.cell? ⟨w.heap.size, 10, none⟩ = some (.int .u8 (f.s 4)) ∧ w1.cell? ⟨w.heap.size, 11, none⟩ = some (.int .u8 (f.s 5)) ∧ w1.cell? ⟨w.heap.size, 12, none⟩ = some (.slice f.ta f.tl.length f.tc) ∧ w1.cell? ⟨w.heap.size, 20, none⟩ = some (.string f.bo) ∧ w1.cell? ⟨w.heap.size + 1, 0, none⟩ = some (.int .u8 (g.d 0)) ∧ w1.cell? ⟨w.heap.size + 1, 1, none⟩ = some (.int .u8 (g.d 1)) ∧ w1.cell? ⟨w.heap.size + 1, 2, none⟩ = some (.int .u8 (g.d 2)) ∧ w1.cell? ⟨w.heap.size + 1, 3, none⟩ = some (.int .u8 (g.d 3)) ∧ w1.cell? ⟨w.heap.size + 1, 4, none⟩ = some (.int .u8 (g.d 4)) ∧ w1.cell? ⟨w.heap.size + 1, 5, none⟩ = some (.int .u8 (g.d 5)) ∧ w1.cell? ⟨w.heap.size + 1, 6, none⟩ = some (.int .u8 (g.s 0)) ∧ w1.cell? ⟨w.heap.size + 1, 7, none⟩ = some (.int .u8 (g.s 1)) ∧ w1.cell? ⟨w.heap.size + 1, 8, none⟩ = some (.int .u8 (g.s 2)) ∧ w1.cell? ⟨w.heap.size + 1, 9, none⟩ = some (.int .u8 (g.s 3)) ∧ w1.cell? ⟨w.heap.size + 1, 10, none⟩ = some (.int .u8 (g.s 4)) ∧ w1.cell? ⟨w.heap.size + 1, 11, none⟩ = some (.int .u8 (g.s 5)) ∧ w1.cell? ⟨w.heap.size + 1, 12, none⟩ = some (.slice g.ta g.tl.length g.tc) ∧ w1.cell? ⟨w.heap.size + 1, 20, none⟩ = some (.string g.bo) := ⟨hF0, hG0, (hF0.c 0).trans rfl, (hF0.c 1).trans rfl, (hF0.c 2).trans rfl, (hF0.c 3).trans rfl, (hF0.c 4).trans rfl, (hF0.c 5).trans rfl, (hF0.c 6).trans rfl, (hF0.c 7).trans rfl, (hF0.c 8).trans rfl, (hF0.c 9).trans rfl, (hF0.c 10).trans rfl, (hF0.c 11).trans rfl, (hF0.c 12).trans rfl, (hF0.c 20).trans rfl, (hG0.c 0).trans rfl, (hG0.c 1).trans rfl, (hG0.c 2).trans rfl, (hG0.c 3).trans rfl, (hG0.c 4).trans rfl, (hG0.c 5).trans rfl, (hG0.c 6).trans rfl, (hG0.c 7).trans rfl, (hG0.c 8).trans rfl, (hG0.c 9).trans rfl, (hG0.c 10).trans rfl, (hG0.c 11).trans rfl, (hG0.c 12).trans rfl, (hG0.c 20).trans rfl⟩
  refine wp_region_noPanic ?_
  refine wp_region_held_drew (S := (fun w' => HasF w' w.heap.size f ∧ HasF w' (w.heap.size + 1) g ∧ w'.cell? ⟨w.heap.size, 0, none⟩ = some (.int .u8 (f.d 0)) ∧ w'.cell? ⟨w.heap.size, 1, none⟩ = some (.int .u8 (f.d 1)) ∧ w'.cell? ⟨w.heap.size, 2, none⟩ = some (.int .u8 (f.d 2)) ∧ w'.cell? ⟨w.heap.size, 3, none⟩ = some (.int .u8 (f.d 3)) ∧ w'.cell? ⟨w.heap.size, 4, none⟩ = some (.int .u8 (f.d 4)) ∧ w'.cell? ⟨w.heap.size, 5, none⟩ = some (.int .u8 (f.d 5)) ∧ w'.cell? ⟨w.heap.size, 6, none⟩ = some (.int .u8 (f.s 0)) ∧ w'.cell? ⟨w.heap.size, 7, none⟩ = some (.int .u8 (f.s 1)) ∧ w'.cell? ⟨w.heap.size, 8, none⟩ = some (.int .u8 (f.s 2)) ∧ w'.cell? ⟨w.heap.size, 9, none⟩ = some (.int .u8 (f.s 3)) ∧ w'.cell? ⟨w.heap.size, 10, none⟩ = some (.int .u8 (f.s 4)) ∧ w'.cell? ⟨w.heap.size, 11, none⟩ = some (.int .u8 (f.s 5)) ∧ w'.cell? ⟨w.heap.size, 12, none⟩ = some (.slice f.ta f.tl.length f.tc) ∧ w'.cell? ⟨w.heap.size, 20, none⟩ = some (.string f.bo) ∧ w'.cell? ⟨w.heap.size + 1, 0, none⟩ = some (.int .u8 (g.d 0)) ∧ w'.cell? ⟨w.heap.size + 1, 1, none⟩ = some (.int .u8 (g.d 1)) ∧ w'.cell? ⟨w.heap.size + 1, 2, none⟩ = some (.int .u8 (g.d 2)) ∧ w'.cell? ⟨w.heap.size + 1, 3, none⟩ = some (.int .u8 (g.d 3)) ∧ w'.cell? ⟨w.heap.size + 1, 4, none⟩ = some (.int .u8 (g.d 4)) ∧ w'.cell? ⟨w.heap.size + 1, 5, none⟩ = some (.int .u8 (g.d 5)) ∧ w'.cell? ⟨w.heap.size + 1, 6, none⟩ = some (.int .u8 (g.s 0)) ∧ w'.cell? ⟨w.heap.size + 1, 7, none⟩ = some (.int .u8 (g.s 1)) ∧ w'.cell? ⟨w.heap.size + 1, 8, none⟩ = some (.int .u8 (g.s 2)) ∧ w'.cell? ⟨w.heap.size + 1, 9, none⟩ = some (.int .u8 (g.s 3)) ∧ w'.cell? ⟨w.heap.size + 1, 10, none⟩ = some (.int .u8 (g.s 4)) ∧ w'.cell? ⟨w.heap.size + 1, 11, none⟩ = some (.int .u8 (g.s 5)) ∧ w'.cell? ⟨w.heap.size + 1, 12, none⟩ = some (.slice g.ta g.tl.length g.tc) ∧ w'.cell? ⟨w.heap.size + 1, 20, none⟩ = some (.string g.bo))) (by kernel_rfl) ?_ (fun hHeld => ?_)
  · exact S1
  refine wpAnyH_take (i := 0) (v := ?_) rfl (by kernel_rfl) (by kernel_rfl) (by kernel_rfl) (fun _ _ _ h => h) (Or.inl ⟨by rfl, ?_⟩) (by assumption) ?_
  rotate_left
  · (intro w hSw; (try dsimp only at hSw); go_simp; (try with_reducible rfl))
  (try simp only [Act.put, List.getElem_toArray, List.getElem_cons_zero, List.getElem_cons_succ, List.setIfInBounds_toArray, List.set_cons_zero, List.set_cons_succ])
  refine wpAnyH_take (i := 1) (v := ?_) rfl (by kernel_rfl) (by kernel_rfl) (by kernel_rfl) (fun _ _ _ h => h) (Or.inl ⟨by rfl, ?_⟩) (by assumption) ?_
  rotate_left
  · (intro w hSw; (try dsimp only at hSw); go_simp; (try with_reducible rfl))
  (try simp only [Act.put, List.getElem_toArray, List.getElem_cons_zero, List.getElem_cons_succ, List.setIfInBounds_toArray, List.set_cons_zero, List.set_cons_succ])
  refine wpAnyH_take (i := 2) (v := ?_) rfl (by kernel_rfl) (by kernel_rfl) (by kernel_rfl) (fun _ _ _ h => h) (Or.inl ⟨by rfl, ?_⟩) (by assumption) ?_
  rotate_left
  · (intro w hSw; (try dsimp only at hSw); go_simp; (try with_reducible rfl))
  (try simp only [Act.put, List.getElem_toArray, List.getElem_cons_zero, List.getElem_cons_succ, List.setIfInBounds_toArray, List.set_cons_zero, List.set_cons_succ])
  refine wpAnyH_take (i := 3) (v := ?_) rfl (by kernel_rfl) (by kernel_rfl) (by kernel_rfl) (fun _ _ _ h => h) (Or.inl ⟨by rfl, ?_⟩) (by assumption) ?_
  rotate_left
  · (intro w hSw; (try dsimp only at hSw); go_simp; (try with_reducible rfl))
  (try simp only [Act.put, List.getElem_toArray, List.getElem_cons_zero, List.getElem_cons_succ, List.setIfInBounds_toArray, List.set_cons_zero, List.set_cons_succ])
  refine wpAnyH_take (i := 4) (v := ?_) rfl (by kernel_rfl) (by kernel_rfl) (by kernel_rfl) (fun _ _ _ h => h) (Or.inl ⟨by rfl, ?_⟩) (by assumption) ?_
  rotate_left
  · (intro w hSw; (try dsimp only at hSw); go_simp; (try with_reducible rfl))
  (try simp only [Act.put, List.getElem_toArray, List.getElem_cons_zero, List.getElem_cons_succ, List.setIfInBounds_toArray, List.set_cons_zero, List.set_cons_succ])
  refine wpAnyH_take (i := 5) (v := ?_) rfl (by kernel_rfl) (by kernel_rfl) (by kernel_rfl) (fun _ _ _ h => h) (Or.inl ⟨by rfl, ?_⟩) (by assumption) ?_
  rotate_left
  · (intro w hSw; (try dsimp only at hSw); go_simp; (try with_reducible rfl))
  (try simp only [Act.put, List.getElem_toArray, List.getElem_cons_zero, List.getElem_cons_succ, List.setIfInBounds_toArray, List.set_cons_zero, List.set_cons_succ])
  refine wpAnyH_take (i := 6) (v := undef) rfl (by kernel_rfl) (by kernel_rfl) (by kernel_rfl) (fun _ _ _ h => h) (Or.inr ⟨by rfl, rfl⟩) (by assumption) ?_
  (try simp only [Act.put, List.getElem_toArray, List.getElem_cons_zero, List.getElem_cons_succ, List.setIfInBounds_toArray, List.set_cons_zero, List.set_cons_succ])
  refine wpAnyH_take (i := 7) (v := undef) rfl (by kernel_rfl) (by kernel_rfl) (by kernel_rfl) (fun _ _ _ h => h) (Or.inr ⟨by rfl, rfl⟩) (by assumption) ?_
  (try simp only [Act.put, List.getElem_toArray, List.getElem_cons_zero, List.getElem_cons_succ, List.setIfInBounds_toArray, List.set_cons_zero, List.set_cons_succ])
  refine wpAnyH_take (i := 8) (v := undef) rfl (by kernel_rfl) (by kernel_rfl) (by kernel_rfl) (fun _ _ _ h => h) (Or.inr ⟨by rfl, rfl⟩) (by assumption) ?_
  (try simp only [Act.put, List.getElem_toArray, List.getElem_cons_zero, List.getElem_cons_succ, List.setIfInBounds_toArray, List.set_cons_zero, List.set_cons_succ])
  refine wpAnyH_take (i := 9) (v := undef) rfl (by kernel_rfl) (by kernel_rfl) (by kernel_rfl) (fun _ _ _ h => h) (Or.inr ⟨by rfl, rfl⟩) (by assumption) ?_
  (try simp only [Act.put, List.getElem_toArray, List.getElem_cons_zero, List.getElem_cons_succ, List.setIfInBounds_toArray, List.set_cons_zero, List.set_cons_succ])
  refine wpAnyH_take (i := 10) (v := undef) rfl (by kernel_rfl) (by kernel_rfl) (by kernel_rfl) (fun _ _ _ h => h) (Or.inr ⟨by rfl, rfl⟩) (by assumption) ?_
  (try simp only [Act.put, List.getElem_toArray, List.getElem_cons_zero, List.getElem_cons_succ, List.setIfInBounds_toArray, List.set_cons_zero, List.set_cons_succ])
  refine wpAnyH_take (i := 11) (v := ?_) rfl (by kernel_rfl) (by kernel_rfl) (by kernel_rfl) (fun _ _ _ h => h) (Or.inl ⟨by rfl, ?_⟩) (by assumption) ?_
  rotate_left
  · (intro w hSw; (try dsimp only at hSw); go_simp; (try with_reducible rfl))
  (try simp only [Act.put, List.getElem_toArray, List.getElem_cons_zero, List.getElem_cons_succ, List.setIfInBounds_toArray, List.set_cons_zero, List.set_cons_succ])
  refine wpAnyH_take (i := 12) (v := ?_) rfl (by kernel_rfl) (by kernel_rfl) (by kernel_rfl) (fun _ _ _ h => h) (Or.inl ⟨by rfl, ?_⟩) (by assumption) ?_
  rotate_left
  · (intro w hSw; (try dsimp only at hSw); go_simp; (try with_reducible rfl))
  (try simp only [Act.put, List.getElem_toArray, List.getElem_cons_zero, List.getElem_cons_succ, List.setIfInBounds_toArray, List.set_cons_zero, List.set_cons_succ])
  refine wpAnyH_take (i := 13) (v := undef) rfl (by kernel_rfl) (by kernel_rfl) (by kernel_rfl) (fun _ _ _ h => h) (Or.inr ⟨by rfl, rfl⟩) (by assumption) ?_
  (try simp only [Act.put, List.getElem_toArray, List.getElem_cons_zero, List.getElem_cons_succ, List.setIfInBounds_toArray, List.set_cons_zero, List.set_cons_succ])
  refine wpAnyH_take (i := 14) (v := undef) rfl (by kernel_rfl) (by kernel_rfl) (by kernel_rfl) (fun _ _ _ h => h) (Or.inr ⟨by rfl, rfl⟩) (by assumption) ?_
  (try simp only [Act.put, List.getElem_toArray, List.getElem_cons_zero, List.getElem_cons_succ, List.setIfInBounds_toArray, List.set_cons_zero, List.set_cons_succ])
  refine wpAnyH_take (i := 15) (v := undef) rfl (by kernel_rfl) (by kernel_rfl) (by kernel_rfl) (fun _ _ _ h => h) (Or.inr ⟨by rfl, rfl⟩) (by assumption) ?_
  (try simp only [Act.put, List.getElem_toArray, List.getElem_cons_zero, List.getElem_cons_succ, List.setIfInBounds_toArray, List.set_cons_zero, List.set_cons_succ])
  refine wpAnyH_take (i := 16) (v := undef) rfl (by kernel_rfl) (by kernel_rfl) (by kernel_rfl) (fun _ _ _ h => h) (Or.inr ⟨by rfl, rfl⟩) (by assumption) ?_
  (try simp only [Act.put, List.getElem_toArray, List.getElem_cons_zero, List.getElem_cons_succ, List.setIfInBounds_toArray, List.set_cons_zero, List.set_cons_succ])
  refine wpAnyH_take (i := 17) (v := undef) rfl (by kernel_rfl) (by kernel_rfl) (by kernel_rfl) (fun _ _ _ h => h) (Or.inr ⟨by rfl, rfl⟩) (by assumption) ?_
  (try simp only [Act.put, List.getElem_toArray, List.getElem_cons_zero, List.getElem_cons_succ, List.setIfInBounds_toArray, List.set_cons_zero, List.set_cons_succ])
  refine wpAnyH_take (i := 18) (v := ?_) rfl (by kernel_rfl) (by kernel_rfl) (by kernel_rfl) (fun _ _ _ h => h) (Or.inl ⟨by rfl, ?_⟩) (by assumption) ?_
  rotate_left
  · (intro w hSw; (try dsimp only at hSw); go_simp; (try with_reducible rfl))
  (try simp only [Act.put, List.getElem_toArray, List.getElem_cons_zero, List.getElem_cons_succ, List.setIfInBounds_toArray, List.set_cons_zero, List.set_cons_succ])
  refine wpAnyH_take (i := 19) (v := ?_) rfl (by kernel_rfl) (by kernel_rfl) (by kernel_rfl) (fun _ _ _ h => h) (Or.inl ⟨by rfl, ?_⟩) (by assumption) ?_
  rotate_left
  · (intro w hSw; (try dsimp only at hSw); go_simp; (try with_reducible rfl))
  (try simp only [Act.put, List.getElem_toArray, List.getElem_cons_zero, List.getElem_cons_succ, List.setIfInBounds_toArray, List.set_cons_zero, List.set_cons_succ])
  refine wpAnyH_take (i := 20) (v := undef) rfl (by kernel_rfl) (by kernel_rfl) (by kernel_rfl) (fun _ _ _ h => h) (Or.inr ⟨by rfl, rfl⟩) (by assumption) ?_
  (try simp only [Act.put, List.getElem_toArray, List.getElem_cons_zero, List.getElem_cons_succ, List.setIfInBounds_toArray, List.set_cons_zero, List.set_cons_succ])
  refine wpAnyH_take (i := 21) (v := undef) rfl (by kernel_rfl) (by kernel_rfl) (by kernel_rfl) (fun _ _ _ h => h) (Or.inr ⟨by rfl, rfl⟩) (by assumption) ?_
  (try simp only [Act.put, List.getElem_toArray, List.getElem_cons_zero, List.getElem_cons_succ, List.setIfInBounds_toArray, List.set_cons_zero, List.set_cons_succ])
  refine wpAnyH_take (i := 22) (v := undef) rfl (by kernel_rfl) (by kernel_rfl) (by kernel_rfl) (fun _ _ _ h => h) (Or.inr ⟨by rfl, rfl⟩) (by assumption) ?_
  (try simp only [Act.put, List.getElem_toArray, List.getElem_cons_zero, List.getElem_cons_succ, List.setIfInBounds_toArray, List.set_cons_zero, List.set_cons_succ])
  refine wpAnyH_take (i := 23) (v := undef) rfl (by kernel_rfl) (by kernel_rfl) (by kernel_rfl) (fun _ _ _ h => h) (Or.inr ⟨by rfl, rfl⟩) (by assumption) ?_
  (try simp only [Act.put, List.getElem_toArray, List.getElem_cons_zero, List.getElem_cons_succ, List.setIfInBounds_toArray, List.set_cons_zero, List.set_cons_succ])
  refine wpAnyH_take (i := 24) (v := undef) rfl (by kernel_rfl) (by kernel_rfl) (by kernel_rfl) (fun _ _ _ h => h) (Or.inr ⟨by rfl, rfl⟩) (by assumption) ?_
  (try simp only [Act.put, List.getElem_toArray, List.getElem_cons_zero, List.getElem_cons_succ, List.setIfInBounds_toArray, List.set_cons_zero, List.set_cons_succ])
  refine wpAnyH_take (i := 25) (v := ?_) rfl (by kernel_rfl) (by kernel_rfl) (by kernel_rfl) (fun _ _ _ h => h) (Or.inl ⟨by rfl, ?_⟩) (by assumption) ?_
  rotate_left
  · (intro w hSw; (try dsimp only at hSw); go_simp; (try with_reducible rfl))
  (try simp only [Act.put, List.getElem_toArray, List.getElem_cons_zero, List.getElem_cons_succ, List.setIfInBounds_toArray, List.set_cons_zero, List.set_cons_succ])
  refine wpAnyH_take (i := 26) (v := ?_) rfl (by kernel_rfl) (by kernel_rfl) (by kernel_rfl) (fun _ _ _ h => h) (Or.inl ⟨by rfl, ?_⟩) (by assumption) ?_
  rotate_left
  · (intro w hSw; (try dsimp only at hSw); go_simp; (try with_reducible rfl))
  (try simp only [Act.put, List.getElem_toArray, List.getElem_cons_zero, List.getElem_cons_succ, List.setIfInBounds_toArray, List.set_cons_zero, List.set_cons_succ])
  refine wpAnyH_take (i := 27) (v := undef) rfl (by kernel_rfl) (by kernel_rfl) (by kernel_rfl) (fun _ _ _ h => h) (Or.inr ⟨by rfl, rfl⟩) (by assumption) ?_
  (try simp only [Act.put, List.getElem_toArray, List.getElem_cons_zero, List.getElem_cons_succ, List.setIfInBounds_toArray, List.set_cons_zero, List.set_cons_succ])
  refine wpAnyH_take (i := 28) (v := undef) rfl (by kernel_rfl) (by kernel_rfl) (by kernel_rfl) (fun _ _ _ h => h) (Or.inr ⟨by rfl, rfl⟩) (by assumption) ?_
  (try simp only [Act.put, List.getElem_toArray, List.getElem_cons_zero, List.getElem_cons_succ, List.setIfInBounds_toArray, List.set_cons_zero, List.set_cons_succ])
  refine wpAnyH_take (i := 29) (v := undef) rfl (by kernel_rfl) (by kernel_rfl) (by kernel_rfl) (fun _ _ _ h => h) (Or.inr ⟨by rfl, rfl⟩) (by assumption) ?_
  (try simp only [Act.put, List.getElem_toArray, List.getElem_cons_zero, List.getElem_cons_succ, List.setIfInBounds_toArray, List.set_cons_zero, List.set_cons_succ])
  refine wpAnyH_take (i := 30) (v := undef) rfl (by kernel_rfl) (by kernel_rfl) (by kernel_rfl) (fun _ _ _ h => h) (Or.inr ⟨by rfl, rfl⟩) (by assumption) ?_
  (try simp only [Act.put, List.getElem_toArray, List.getElem_cons_zero, List.getElem_cons_succ, List.setIfInBounds_toArray, List.set_cons_zero, List.set_cons_succ])
  refine wpAnyH_take (i := 31) (v := undef) rfl (by kernel_rfl) (by kernel_rfl) (by kernel_rfl) (fun _ _ _ h => h) (Or.inr ⟨by rfl, rfl⟩) (by assumption) ?_
  (try simp only [Act.put, List.getElem_toArray, List.getElem_cons_zero, List.getElem_cons_succ, List.setIfInBounds_toArray, List.set_cons_zero, List.set_cons_succ])
  refine wpAnyH_take (i := 32) (v := ?_) rfl (by kernel_rfl) (by kernel_rfl) (by kernel_rfl) (fun _ _ _ h => h) (Or.inl ⟨by rfl, ?_⟩) (by assumption) ?_
  rotate_left
  · (intro w hSw; (try dsimp only at hSw); go_simp; (try with_reducible rfl))
  (try simp only [Act.put, List.getElem_toArray, List.getElem_cons_zero, List.getElem_cons_succ, List.setIfInBounds_toArray, List.set_cons_zero, List.set_cons_succ])
  refine wpAnyH_take (i := 33) (v := ?_) rfl (by kernel_rfl) (by kernel_rfl) (by kernel_rfl) (fun _ _ _ h => h) (Or.inl ⟨by rfl, ?_⟩) (by assumption) ?_
  rotate_left
  · (intro w hSw; (try dsimp only at hSw); go_simp; (try with_reducible rfl))
  (try simp only [Act.put, List.getElem_toArray, List.getElem_cons_zero, List.getElem_cons_succ, List.setIfInBounds_toArray, List.set_cons_zero, List.set_cons_succ])
  refine wpAnyH_done (by kernel_rfl) ?_ _
  refine NoPanic.normal ?_
  clear S1 hF0 hG0 hI0 hJ0 hHeld
  go_wp2
  go_ret
  exact ⟨rfl, hb0.drew⟩

set_option maxHeartbeats 4000000 in
theorem same_1 (f g : Fr) (w : World) (hf : FrIn w f) (hg : FrIn w g) (h1 : eq6 f.d g.d = true) (h2 : eq6 f.s g.s = false) :
    Calls Try.prog 25 #[frV f, frV g] w fun e w' => e = .returned (.bool false) ∧ Below w.heap.size w w' := by
  obtain ⟨hF0, hG0, hb0⟩ := both_boxed w f g
  have hI0 := hf.below hb0
  have hJ0 := hg.below hb0
  have e1 : ∀ W, (Op.equalIn 10000 33 (.agg #[.int .u8 (f.d 0), .int .u8 (f.d 1), .int .u8 (f.d 2), .int .u8 (f.d 3), .int .u8 (f.d 4), .int .u8 (f.d 5)]) (.agg #[.int .u8 (g.d 0), .int .u8 (g.d 1), .int .u8 (g.d 2), .int .u8 (g.d 3), .int .u8 (g.d 4), .int .u8 (g.d 5)])).run Try.prog W = .ok true W := fun W => by have h := run_eql_six f.d g.d W; rw [h1] at h; exact h
  have e2 : ∀ W, (Op.equalIn 10000 33 (.agg #[.int .u8 (f.s 0), .int .u8 (f.s 1), .int .u8 (f.s 2), .int .u8 (f.s 3), .int .u8 (f.s 4), .int .u8 (f.s 5)]) (.agg #[.int .u8 (g.s 0), .int .u8 (g.s 1), .int .u8 (g.s 2), .int .u8 (g.s 3), .int .u8 (g.s 4), .int .u8 (g.s 5)])).run Try.prog W = .ok false W := fun W => by have h := run_eql_six f.s g.s W; rw [h2] at h; exact h
  clear h1 h2 hf hg
  unfold frV frC at *
  go_enter Try.func25, Try.ntmps25
  go_wp2
  generalize (w.alloc (.cells #[.int .u8 (f.d 0), .int .u8 (f.d 1), .int .u8 (f.d 2), .int .u8 (f.d 3), .int .u8 (f.d 4), .int .u8 (f.d 5), .int .u8 (f.s 0), .int .u8 (f.s 1), .int .u8 (f.s 2), .int .u8 (f.s 3), .int .u8 (f.s 4), .int .u8 (f.s 5), .slice f.ta f.tl.length f.tc, .int .i64 f.k, .int .i64 f.t, .int .i64 f.da, .int .i64 f.sa, .int .i64 f.ct, .int .i64 f.ou, .int .i64 f.pi, .string f.bo] 36)).alloc (.cells #[.int .u8 (g.d 0), .int .u8 (g.d 1), .int .u8 (g.d 2), .int .u8 (g.d 3), .int .u8 (g.d 4), .int .u8 (g.d 5), .int .u8 (g.s 0), .int .u8 (g.s 1), .int .u8 (g.s 2), .int .u8 (g.s 3), .int .u8 (g.s 4), .int .u8 (g.s 5), .slice g.ta g.tl.length g.tc, .int .i64 g.k, .int .i64 g.t, .int .i64 g.da, .int .i64 g.sa, .int .i64 g.ct, .int .i64 g.ou, .int .i64 g.pi, .string g.bo] 36) = w1 at *
  have S1 : HasF w1 w.heap.size f ∧ HasF w1 (w.heap.size + 1) g ∧ w1.cell? ⟨w.heap.size, 0, none⟩ = some (.int .u8 (f.d 0)) ∧ w1.cell? ⟨w.heap.size, 1, none⟩ = some (.int .u8 (f.d 1)) ∧ w1.cell? ⟨w.heap.size, 2, none⟩ = some (.int .u8 (f.d 2)) ∧ w1.cell? ⟨w.heap.size, 3, none⟩ = some (.int .u8 (f.d 3)) ∧ w1.cell? ⟨w.heap.size, 4, none⟩ = some (.int .u8 (f.d 4)) ∧ w1.cell? ⟨w.heap.size, 5, none⟩ = some (.int .u8 (f.d 5)) ∧ w1.cell? ⟨w.heap.size, 6, none⟩ = some (.int .u8 (f.s 0)) ∧ w1.cell? ⟨w.heap.size, 7, none⟩ = some (.int .u8 (f.s 1)) ∧ w1.cell? ⟨w.heap.size, 8, none⟩ = some (.int .u8 (f.s 2)) ∧ w1.cell? ⟨w.heap.size, 9, none⟩ = some (.int .u8 (f.s 3)) ∧ w1.cell? ⟨w.heap.size, 10, none⟩ = some (.int .u8 (f.s 4)) ∧ w1.cell? ⟨w.heap.size, 11, none⟩ = some (.int .u8 (f.s 5)) ∧ w1.cell? ⟨w.heap.size, 12, none⟩ = some (.slice f.ta f.tl.length f.tc) ∧ w1.cell? ⟨w.heap.size, 20, none⟩ = some (.string f.bo) ∧ w1.cell? ⟨w.heap.size + 1, 0, none⟩ = some (.int .u8 (g.d 0)) ∧ w1.cell? ⟨w.heap.size + 1, 1, none⟩ = some (.int .u8 (g.d 1)) ∧ w1.cell? ⟨w.heap.size + 1, 2, none⟩ = some (.int .u8 (g.d 2)) ∧ w1.cell? ⟨w.heap.size + 1, 3, none⟩ = some (.int .u8 (g.d 3)) ∧ w1.cell? ⟨w.heap.size + 1, 4, none⟩ = some (.int .u8 (g.d 4)) ∧ w1.cell? ⟨w.heap.size + 1, 5, none⟩ = some (.int .u8 (g.d 5)) ∧ w1.cell? ⟨w.heap.size + 1, 6, none⟩ = some (.int .u8 (g.s 0)) ∧ w1.cell? ⟨w.heap.size + 1, 7, none⟩ = some (.int .u8 (g.s 1)) ∧ w1.cell? ⟨w.heap.size + 1, 8, none⟩ = some (.int .u8 (g.s 2)) ∧ w1.cell? ⟨w.heap.size + 1, 9, none⟩ = some (.int .u8 (g.s 3)) ∧ w1.cell? ⟨w.heap.size + 1, 10, none⟩ = some (.int .u8 (g.s 4)) ∧ w1.cell? ⟨w.heap.size + 1, 11, none⟩ = some (.int .u8 (g.s 5)) ∧ w1.cell? ⟨w.heap.size + 1, 12, none⟩ = some (.slice g.ta g.tl.length g.tc) ∧ w1.cell? ⟨w.heap.size + 1, 20, none⟩ = some (.string g.bo) := ⟨hF0, hG0, (hF0.c 0).trans rfl, (hF0.c 1).trans rfl, (hF0.c 2).trans rfl, (hF0.c 3).trans rfl, (hF0.c 4).trans rfl, (hF0.c 5).trans rfl, (hF0.c 6).trans rfl, (hF0.c 7).trans rfl, (hF0.c 8).trans rfl, (hF0.c 9).trans rfl, (hF0.c 10).trans rfl, (hF0.c 11).trans rfl, (hF0.c 12).trans rfl, (hF0.c 20).trans rfl, (hG0.c 0).trans rfl, (hG0.c 1).trans rfl, (hG0.c 2).trans rfl, (hG0.c 3).trans rfl, (hG0.c 4).trans rfl, (hG0.c 5).trans rfl, (hG0.c 6).trans rfl, (hG0.c 7).trans rfl, (hG0.c 8).trans rfl, (hG0.c 9).trans rfl, (hG0.c 10).trans rfl, (hG0.c 11).trans rfl, (hG0.c 12).trans rfl, (hG0.c 20).trans rfl⟩
  refine wp_region_noPanic ?_
  refine wp_region_held_drew (S := (fun w' => HasF w' w.heap.size f ∧ HasF w' (w.heap.size + 1) g ∧ w'.cell? ⟨w.heap.size, 0, none⟩ = some (.int .u8 (f.d 0)) ∧ w'.cell? ⟨w.heap.size, 1, none⟩ = some (.int .u8 (f.d 1)) ∧ w'.cell? ⟨w.heap.size, 2, none⟩ = some (.int .u8 (f.d 2)) ∧ w'.cell? ⟨w.heap.size, 3, none⟩ = some (.int .u8 (f.d 3)) ∧ w'.cell? ⟨w.heap.size, 4, none⟩ = some (.int .u8 (f.d 4)) ∧ w'.cell? ⟨w.heap.size, 5, none⟩ = some (.int .u8 (f.d 5)) ∧ w'.cell? ⟨w.heap.size, 6, none⟩ = some (.int .u8 (f.s 0)) ∧ w'.cell? ⟨w.heap.size, 7, none⟩ = some (.int .u8 (f.s 1)) ∧ w'.cell? ⟨w.heap.size, 8, none⟩ = some (.int .u8 (f.s 2)) ∧ w'.cell? ⟨w.heap.size, 9, none⟩ = some (.int .u8 (f.s 3)) ∧ w'.cell? ⟨w.heap.size, 10, none⟩ = some (.int .u8 (f.s 4)) ∧ w'.cell? ⟨w.heap.size, 11, none⟩ = some (.int .u8 (f.s 5)) ∧ w'.cell? ⟨w.heap.size, 12, none⟩ = some (.slice f.ta f.tl.length f.tc) ∧ w'.cell? ⟨w.heap.size, 20, none⟩ = some (.string f.bo) ∧ w'.cell? ⟨w.heap.size + 1, 0, none⟩ = some (.int .u8 (g.d 0)) ∧ w'.cell? ⟨w.heap.size + 1, 1, none⟩ = some (.int .u8 (g.d 1)) ∧ w'.cell? ⟨w.heap.size + 1, 2, none⟩ = some (.int .u8 (g.d 2)) ∧ w'.cell? ⟨w.heap.size + 1, 3, none⟩ = some (.int .u8 (g.d 3)) ∧ w'.cell? ⟨w.heap.size + 1, 4, none⟩ = some (.int .u8 (g.d 4)) ∧ w'.cell? ⟨w.heap.size + 1, 5, none⟩ = some (.int .u8 (g.d 5)) ∧ w'.cell? ⟨w.heap.size + 1, 6, none⟩ = some (.int .u8 (g.s 0)) ∧ w'.cell? ⟨w.heap.size + 1, 7, none⟩ = some (.int .u8 (g.s 1)) ∧ w'.cell? ⟨w.heap.size + 1, 8, none⟩ = some (.int .u8 (g.s 2)) ∧ w'.cell? ⟨w.heap.size + 1, 9, none⟩ = some (.int .u8 (g.s 3)) ∧ w'.cell? ⟨w.heap.size + 1, 10, none⟩ = some (.int .u8 (g.s 4)) ∧ w'.cell? ⟨w.heap.size + 1, 11, none⟩ = some (.int .u8 (g.s 5)) ∧ w'.cell? ⟨w.heap.size + 1, 12, none⟩ = some (.slice g.ta g.tl.length g.tc) ∧ w'.cell? ⟨w.heap.size + 1, 20, none⟩ = some (.string g.bo))) (by kernel_rfl) ?_ (fun hHeld => ?_)
  · exact S1
  refine wpAnyH_take (i := 0) (v := ?_) rfl (by kernel_rfl) (by kernel_rfl) (by kernel_rfl) (fun _ _ _ h => h) (Or.inl ⟨by rfl, ?_⟩) (by assumption) ?_
  rotate_left
  · (intro w hSw; (try dsimp only at hSw); go_simp; (try with_reducible rfl))
  (try simp only [Act.put, List.getElem_toArray, List.getElem_cons_zero, List.getElem_cons_succ, List.setIfInBounds_toArray, List.set_cons_zero, List.set_cons_succ])
  refine wpAnyH_take (i := 1) (v := ?_) rfl (by kernel_rfl) (by kernel_rfl) (by kernel_rfl) (fun _ _ _ h => h) (Or.inl ⟨by rfl, ?_⟩) (by assumption) ?_
  rotate_left
  · (intro w hSw; (try dsimp only at hSw); go_simp; (try with_reducible rfl))
  (try simp only [Act.put, List.getElem_toArray, List.getElem_cons_zero, List.getElem_cons_succ, List.setIfInBounds_toArray, List.set_cons_zero, List.set_cons_succ])
  refine wpAnyH_take (i := 2) (v := ?_) rfl (by kernel_rfl) (by kernel_rfl) (by kernel_rfl) (fun _ _ _ h => h) (Or.inl ⟨by rfl, ?_⟩) (by assumption) ?_
  rotate_left
  · (intro w hSw; (try dsimp only at hSw); go_simp; (try with_reducible rfl))
  (try simp only [Act.put, List.getElem_toArray, List.getElem_cons_zero, List.getElem_cons_succ, List.setIfInBounds_toArray, List.set_cons_zero, List.set_cons_succ])
  refine wpAnyH_take (i := 3) (v := ?_) rfl (by kernel_rfl) (by kernel_rfl) (by kernel_rfl) (fun _ _ _ h => h) (Or.inl ⟨by rfl, ?_⟩) (by assumption) ?_
  rotate_left
  · (intro w hSw; (try dsimp only at hSw); go_simp; (try with_reducible rfl))
  (try simp only [Act.put, List.getElem_toArray, List.getElem_cons_zero, List.getElem_cons_succ, List.setIfInBounds_toArray, List.set_cons_zero, List.set_cons_succ])
  refine wpAnyH_take (i := 4) (v := ?_) rfl (by kernel_rfl) (by kernel_rfl) (by kernel_rfl) (fun _ _ _ h => h) (Or.inl ⟨by rfl, ?_⟩) (by assumption) ?_
  rotate_left
  · (intro w hSw; (try dsimp only at hSw); go_simp; (try with_reducible rfl))
  (try simp only [Act.put, List.getElem_toArray, List.getElem_cons_zero, List.getElem_cons_succ, List.setIfInBounds_toArray, List.set_cons_zero, List.set_cons_succ])
  refine wpAnyH_take (i := 5) (v := ?_) rfl (by kernel_rfl) (by kernel_rfl) (by kernel_rfl) (fun _ _ _ h => h) (Or.inl ⟨by rfl, ?_⟩) (by assumption) ?_
  rotate_left
  · (intro w hSw; (try dsimp only at hSw); go_simp; (try with_reducible rfl))
  (try simp only [Act.put, List.getElem_toArray, List.getElem_cons_zero, List.getElem_cons_succ, List.setIfInBounds_toArray, List.set_cons_zero, List.set_cons_succ])
  refine wpAnyH_take (i := 6) (v := ?_) rfl (by kernel_rfl) (by kernel_rfl) (by kernel_rfl) (fun _ _ _ h => h) (Or.inl ⟨by rfl, ?_⟩) (by assumption) ?_
  rotate_left
  · (intro w hSw; (try dsimp only at hSw); go_simp; (try with_reducible rfl))
  (try simp only [Act.put, List.getElem_toArray, List.getElem_cons_zero, List.getElem_cons_succ, List.setIfInBounds_toArray, List.set_cons_zero, List.set_cons_succ])
  refine wpAnyH_take (i := 7) (v := ?_) rfl (by kernel_rfl) (by kernel_rfl) (by kernel_rfl) (fun _ _ _ h => h) (Or.inl ⟨by rfl, ?_⟩) (by assumption) ?_
  rotate_left
  · (intro w hSw; (try dsimp only at hSw); go_simp; (try with_reducible rfl))
  (try simp only [Act.put, List.getElem_toArray, List.getElem_cons_zero, List.getElem_cons_succ, List.setIfInBounds_toArray, List.set_cons_zero, List.set_cons_succ])
  refine wpAnyH_take (i := 8) (v := ?_) rfl (by kernel_rfl) (by kernel_rfl) (by kernel_rfl) (fun _ _ _ h => h) (Or.inl ⟨by rfl, ?_⟩) (by assumption) ?_
  rotate_left
  · (intro w hSw; (try dsimp only at hSw); go_simp; (try with_reducible rfl))
  (try simp only [Act.put, List.getElem_toArray, List.getElem_cons_zero, List.getElem_cons_succ, List.setIfInBounds_toArray, List.set_cons_zero, List.set_cons_succ])
  refine wpAnyH_take (i := 9) (v := ?_) rfl (by kernel_rfl) (by kernel_rfl) (by kernel_rfl) (fun _ _ _ h => h) (Or.inl ⟨by rfl, ?_⟩) (by assumption) ?_
  rotate_left
  · (intro w hSw; (try dsimp only at hSw); go_simp; (try with_reducible rfl))
  (try simp only [Act.put, List.getElem_toArray, List.getElem_cons_zero, List.getElem_cons_succ, List.setIfInBounds_toArray, List.set_cons_zero, List.set_cons_succ])
  refine wpAnyH_take (i := 10) (v := ?_) rfl (by kernel_rfl) (by kernel_rfl) (by kernel_rfl) (fun _ _ _ h => h) (Or.inl ⟨by rfl, ?_⟩) (by assumption) ?_
  rotate_left
  · (intro w hSw; (try dsimp only at hSw); go_simp; (try with_reducible rfl))
  (try simp only [Act.put, List.getElem_toArray, List.getElem_cons_zero, List.getElem_cons_succ, List.setIfInBounds_toArray, List.set_cons_zero, List.set_cons_succ])
  refine wpAnyH_take (i := 11) (v := ?_) rfl (by kernel_rfl) (by kernel_rfl) (by kernel_rfl) (fun _ _ _ h => h) (Or.inl ⟨by rfl, ?_⟩) (by assumption) ?_
  rotate_left
  · (intro w hSw; (try dsimp only at hSw); go_simp; (try with_reducible rfl))
  (try simp only [Act.put, List.getElem_toArray, List.getElem_cons_zero, List.getElem_cons_succ, List.setIfInBounds_toArray, List.set_cons_zero, List.set_cons_succ])
  refine wpAnyH_take (i := 12) (v := ?_) rfl (by kernel_rfl) (by kernel_rfl) (by kernel_rfl) (fun _ _ _ h => h) (Or.inl ⟨by rfl, ?_⟩) (by assumption) ?_
  rotate_left
  · (intro w hSw; (try dsimp only at hSw); go_simp; (try with_reducible rfl))
  (try simp only [Act.put, List.getElem_toArray, List.getElem_cons_zero, List.getElem_cons_succ, List.setIfInBounds_toArray, List.set_cons_zero, List.set_cons_succ])
  refine wpAnyH_take (i := 13) (v := undef) rfl (by kernel_rfl) (by kernel_rfl) (by kernel_rfl) (fun _ _ _ h => h) (Or.inr ⟨by rfl, rfl⟩) (by assumption) ?_
  (try simp only [Act.put, List.getElem_toArray, List.getElem_cons_zero, List.getElem_cons_succ, List.setIfInBounds_toArray, List.set_cons_zero, List.set_cons_succ])
  refine wpAnyH_take (i := 14) (v := undef) rfl (by kernel_rfl) (by kernel_rfl) (by kernel_rfl) (fun _ _ _ h => h) (Or.inr ⟨by rfl, rfl⟩) (by assumption) ?_
  (try simp only [Act.put, List.getElem_toArray, List.getElem_cons_zero, List.getElem_cons_succ, List.setIfInBounds_toArray, List.set_cons_zero, List.set_cons_succ])
  refine wpAnyH_take (i := 15) (v := undef) rfl (by kernel_rfl) (by kernel_rfl) (by kernel_rfl) (fun _ _ _ h => h) (Or.inr ⟨by rfl, rfl⟩) (by assumption) ?_
  (try simp only [Act.put, List.getElem_toArray, List.getElem_cons_zero, List.getElem_cons_succ, List.setIfInBounds_toArray, List.set_cons_zero, List.set_cons_succ])
  refine wpAnyH_take (i := 16) (v := undef) rfl (by kernel_rfl) (by kernel_rfl) (by kernel_rfl) (fun _ _ _ h => h) (Or.inr ⟨by rfl, rfl⟩) (by assumption) ?_
  (try simp only [Act.put, List.getElem_toArray, List.getElem_cons_zero, List.getElem_cons_succ, List.setIfInBounds_toArray, List.set_cons_zero, List.set_cons_succ])
  refine wpAnyH_take (i := 17) (v := undef) rfl (by kernel_rfl) (by kernel_rfl) (by kernel_rfl) (fun _ _ _ h => h) (Or.inr ⟨by rfl, rfl⟩) (by assumption) ?_
  (try simp only [Act.put, List.getElem_toArray, List.getElem_cons_zero, List.getElem_cons_succ, List.setIfInBounds_toArray, List.set_cons_zero, List.set_cons_succ])
  refine wpAnyH_take (i := 18) (v := ?_) rfl (by kernel_rfl) (by kernel_rfl) (by kernel_rfl) (fun _ _ _ h => h) (Or.inl ⟨by rfl, ?_⟩) (by assumption) ?_
  rotate_left
  · (intro w hSw; (try dsimp only at hSw); go_simp; (try with_reducible rfl))
  (try simp only [Act.put, List.getElem_toArray, List.getElem_cons_zero, List.getElem_cons_succ, List.setIfInBounds_toArray, List.set_cons_zero, List.set_cons_succ])
  refine wpAnyH_take (i := 19) (v := ?_) rfl (by kernel_rfl) (by kernel_rfl) (by kernel_rfl) (fun _ _ _ h => h) (Or.inl ⟨by rfl, ?_⟩) (by assumption) ?_
  rotate_left
  · (intro w hSw; (try dsimp only at hSw); go_simp; (try with_reducible rfl))
  (try simp only [Act.put, List.getElem_toArray, List.getElem_cons_zero, List.getElem_cons_succ, List.setIfInBounds_toArray, List.set_cons_zero, List.set_cons_succ])
  refine wpAnyH_take (i := 20) (v := undef) rfl (by kernel_rfl) (by kernel_rfl) (by kernel_rfl) (fun _ _ _ h => h) (Or.inr ⟨by rfl, rfl⟩) (by assumption) ?_
  (try simp only [Act.put, List.getElem_toArray, List.getElem_cons_zero, List.getElem_cons_succ, List.setIfInBounds_toArray, List.set_cons_zero, List.set_cons_succ])
  refine wpAnyH_take (i := 21) (v := undef) rfl (by kernel_rfl) (by kernel_rfl) (by kernel_rfl) (fun _ _ _ h => h) (Or.inr ⟨by rfl, rfl⟩) (by assumption) ?_
  (try simp only [Act.put, List.getElem_toArray, List.getElem_cons_zero, List.getElem_cons_succ, List.setIfInBounds_toArray, List.set_cons_zero, List.set_cons_succ])
  refine wpAnyH_take (i := 22) (v := undef) rfl (by kernel_rfl) (by kernel_rfl) (by kernel_rfl) (fun _ _ _ h => h) (Or.inr ⟨by rfl, rfl⟩) (by assumption) ?_
  (try simp only [Act.put, List.getElem_toArray, List.getElem_cons_zero, List.getElem_cons_succ, List.setIfInBounds_toArray, List.set_cons_zero, List.set_cons_succ])
  refine wpAnyH_take (i := 23) (v := undef) rfl (by kernel_rfl) (by kernel_rfl) (by kernel_rfl) (fun _ _ _ h => h) (Or.inr ⟨by rfl, rfl⟩) (by assumption) ?_
  (try simp only [Act.put, List.getElem_toArray, List.getElem_cons_zero, List.getElem_cons_succ, List.setIfInBounds_toArray, List.set_cons_zero, List.set_cons_succ])
  refine wpAnyH_take (i := 24) (v := undef) rfl (by kernel_rfl) (by kernel_rfl) (by kernel_rfl) (fun _ _ _ h => h) (Or.inr ⟨by rfl, rfl⟩) (by assumption) ?_
  (try simp only [Act.put, List.getElem_toArray, List.getElem_cons_zero, List.getElem_cons_succ, List.setIfInBounds_toArray, List.set_cons_zero, List.set_cons_succ])
  refine wpAnyH_take (i := 25) (v := ?_) rfl (by kernel_rfl) (by kernel_rfl) (by kernel_rfl) (fun _ _ _ h => h) (Or.inl ⟨by rfl, ?_⟩) (by assumption) ?_
  rotate_left
  · (intro w hSw; (try dsimp only at hSw); go_simp; (try with_reducible rfl))
  (try simp only [Act.put, List.getElem_toArray, List.getElem_cons_zero, List.getElem_cons_succ, List.setIfInBounds_toArray, List.set_cons_zero, List.set_cons_succ])
  refine wpAnyH_take (i := 26) (v := ?_) rfl (by kernel_rfl) (by kernel_rfl) (by kernel_rfl) (fun _ _ _ h => h) (Or.inl ⟨by rfl, ?_⟩) (by assumption) ?_
  rotate_left
  · (intro w hSw; (try dsimp only at hSw); go_simp; (try with_reducible rfl))
  (try simp only [Act.put, List.getElem_toArray, List.getElem_cons_zero, List.getElem_cons_succ, List.setIfInBounds_toArray, List.set_cons_zero, List.set_cons_succ])
  refine wpAnyH_take (i := 27) (v := undef) rfl (by kernel_rfl) (by kernel_rfl) (by kernel_rfl) (fun _ _ _ h => h) (Or.inr ⟨by rfl, rfl⟩) (by assumption) ?_
  (try simp only [Act.put, List.getElem_toArray, List.getElem_cons_zero, List.getElem_cons_succ, List.setIfInBounds_toArray, List.set_cons_zero, List.set_cons_succ])
  refine wpAnyH_take (i := 28) (v := undef) rfl (by kernel_rfl) (by kernel_rfl) (by kernel_rfl) (fun _ _ _ h => h) (Or.inr ⟨by rfl, rfl⟩) (by assumption) ?_
  (try simp only [Act.put, List.getElem_toArray, List.getElem_cons_zero, List.getElem_cons_succ, List.setIfInBounds_toArray, List.set_cons_zero, List.set_cons_succ])
  refine wpAnyH_take (i := 29) (v := undef) rfl (by kernel_rfl) (by kernel_rfl) (by kernel_rfl) (fun _ _ _ h => h) (Or.inr ⟨by rfl, rfl⟩) (by assumption) ?_
  (try simp only [Act.put, List.getElem_toArray, List.getElem_cons_zero, List.getElem_cons_succ, List.setIfInBounds_toArray, List.set_cons_zero, List.set_cons_succ])
  refine wpAnyH_take (i := 30) (v := undef) rfl (by kernel_rfl) (by kernel_rfl) (by kernel_rfl) (fun _ _ _ h => h) (Or.inr ⟨by rfl, rfl⟩) (by assumption) ?_
  (try simp only [Act.put, List.getElem_toArray, List.getElem_cons_zero, List.getElem_cons_succ, List.setIfInBounds_toArray, List.set_cons_zero, List.set_cons_succ])
  refine wpAnyH_take (i := 31) (v := undef) rfl (by kernel_rfl) (by kernel_rfl) (by kernel_rfl) (fun _ _ _ h => h) (Or.inr ⟨by rfl, rfl⟩) (by assumption) ?_
  (try simp only [Act.put, List.getElem_toArray, List.getElem_cons_zero, List.getElem_cons_succ, List.setIfInBounds_toArray, List.set_cons_zero, List.set_cons_succ])
  refine wpAnyH_take (i := 32) (v := ?_) rfl (by kernel_rfl) (by kernel_rfl) (by kernel_rfl) (fun _ _ _ h => h) (Or.inl ⟨by rfl, ?_⟩) (by assumption) ?_
  rotate_left
  · (intro w hSw; (try dsimp only at hSw); go_simp; (try with_reducible rfl))
  (try simp only [Act.put, List.getElem_toArray, List.getElem_cons_zero, List.getElem_cons_succ, List.setIfInBounds_toArray, List.set_cons_zero, List.set_cons_succ])
  refine wpAnyH_take (i := 33) (v := ?_) rfl (by kernel_rfl) (by kernel_rfl) (by kernel_rfl) (fun _ _ _ h => h) (Or.inl ⟨by rfl, ?_⟩) (by assumption) ?_
  rotate_left
  · (intro w hSw; (try dsimp only at hSw); go_simp; (try with_reducible rfl))
  (try simp only [Act.put, List.getElem_toArray, List.getElem_cons_zero, List.getElem_cons_succ, List.setIfInBounds_toArray, List.set_cons_zero, List.set_cons_succ])
  refine wpAnyH_done (by kernel_rfl) ?_ _
  refine NoPanic.normal ?_
  clear S1 hF0 hG0 hI0 hJ0 hHeld
  go_wp2
  go_ret
  exact ⟨rfl, hb0.drew⟩

set_option maxHeartbeats 4000000 in
theorem same_2 (f g : Fr) (w : World) (hf : FrIn w f) (hg : FrIn w g) (h1 : eq6 f.d g.d = true) (h2 : eq6 f.s g.s = true) (h3 : tagsEq f.tl g.tl = false) :
    Calls Try.prog 25 #[frV f, frV g] w fun e w' => e = .returned (.bool false) ∧ Below w.heap.size w w' := by
  obtain ⟨hF0, hG0, hb0⟩ := both_boxed w f g
  have hI0 := hf.below hb0
  have hJ0 := hg.below hb0
  have e1 : ∀ W, (Op.equalIn 10000 33 (.agg #[.int .u8 (f.d 0), .int .u8 (f.d 1), .int .u8 (f.d 2), .int .u8 (f.d 3), .int .u8 (f.d 4), .int .u8 (f.d 5)]) (.agg #[.int .u8 (g.d 0), .int .u8 (g.d 1), .int .u8 (g.d 2), .int .u8 (g.d 3), .int .u8 (g.d 4), .int .u8 (g.d 5)])).run Try.prog W = .ok true W := fun W => by have h := run_eql_six f.d g.d W; rw [h1] at h; exact h
  have e2 : ∀ W, (Op.equalIn 10000 33 (.agg #[.int .u8 (f.s 0), .int .u8 (f.s 1), .int .u8 (f.s 2), .int .u8 (f.s 3), .int .u8 (f.s 4), .int .u8 (f.s 5)]) (.agg #[.int .u8 (g.s 0), .int .u8 (g.s 1), .int .u8 (g.s 2), .int .u8 (g.s 3), .int .u8 (g.s 4), .int .u8 (g.s 5)])).run Try.prog W = .ok true W := fun W => by have h := run_eql_six f.s g.s W; rw [h2] at h; exact h
  have HE : Hid (∀ W, TagsIn W f.ta f.tl → TagsIn W g.ta g.tl → Calls Try.prog 46 #[.slice f.ta f.tl.length f.tc, .slice g.ta g.tl.length g.tc] W fun e w' => e = .returned (.bool false) ∧ Below W.heap.size W w') := fun W x y => by have h := equal_any f.ta g.ta f.tc g.tc f.tl g.tl W x y hf.few; rw [h3] at h; exact h
  clear h3
  clear h1 h2 hf hg
  unfold frV frC at *
  go_enter Try.func25, Try.ntmps25
  go_wp2
  generalize (w.alloc (.cells #[.int .u8 (f.d 0), .int .u8 (f.d 1), .int .u8 (f.d 2), .int .u8 (f.d 3), .int .u8 (f.d 4), .int .u8 (f.d 5), .int .u8 (f.s 0), .int .u8 (f.s 1), .int .u8 (f.s 2), .int .u8 (f.s 3), .int .u8 (f.s 4), .int .u8 (f.s 5), .slice f.ta f.tl.length f.tc, .int .i64 f.k, .int .i64 f.t, .int .i64 f.da, .int .i64 f.sa, .int .i64 f.ct, .int .i64 f.ou, .int .i64 f.pi, .string f.bo] 36)).alloc (.cells #[.int .u8 (g.d 0), .int .u8 (g.d 1), .int .u8 (g.d 2), .int .u8 (g.d 3), .int .u8 (g.d 4), .int .u8 (g.d 5), .int .u8 (g.s 0), .int .u8 (g.s 1), .int .u8 (g.s 2), .int .u8 (g.s 3), .int .u8 (g.s 4), .int .u8 (g.s 5), .slice g.ta g.tl.length g.tc, .int .i64 g.k, .int .i64 g.t, .int .i64 g.da, .int .i64 g.sa, .int .i64 g.ct, .int .i64 g.ou, .int .i64 g.pi, .string g.bo] 36) = w1 at *
  have S1 : HasF w1 w.heap.size f ∧ HasF w1 (w.heap.size + 1) g ∧ w1.cell? ⟨w.heap.size, 0, none⟩ = some (.int .u8 (f.d 0)) ∧ w1.cell? ⟨w.heap.size, 1, none⟩ = some (.int .u8 (f.d 1)) ∧ w1.cell? ⟨w.heap.size, 2, none⟩ = some (.int .u8 (f.d 2)) ∧ w1.cell? ⟨w.heap.size, 3, none⟩ = some (.int .u8 (f.d 3)) ∧ w1.cell? ⟨w.heap.size, 4, none⟩ = some (.int .u8 (f.d 4)) ∧ w1.cell? ⟨w.heap.size, 5, none⟩ = some (.int .u8 (f.d 5)) ∧ w1.cell? ⟨w.heap.size, 6, none⟩ = some (.int .u8 (f.s 0)) ∧ w1.cell? ⟨w.heap.size, 7, none⟩ = some (.int .u8 (f.s 1)) ∧ w1.cell? ⟨w.heap.size, 8, none⟩ = some (.int .u8 (f.s 2)) ∧ w1.cell? ⟨w.heap.size, 9, none⟩ = some (.int .u8 (f.s 3)) ∧ w1.cell? ⟨w.heap.size, 10, none⟩ = some (.int .u8 (f.s 4)) ∧ w1.cell? ⟨w.heap.size, 11, none⟩ = some (.int .u8 (f.s 5)) ∧ w1.cell? ⟨w.heap.size, 12, none⟩ = some (.slice f.ta f.tl.length f.tc) ∧ w1.cell? ⟨w.heap.size, 20, none⟩ = some (.string f.bo) ∧ w1.cell? ⟨w.heap.size + 1, 0, none⟩ = some (.int .u8 (g.d 0)) ∧ w1.cell? ⟨w.heap.size + 1, 1, none⟩ = some (.int .u8 (g.d 1)) ∧ w1.cell? ⟨w.heap.size + 1, 2, none⟩ = some (.int .u8 (g.d 2)) ∧ w1.cell? ⟨w.heap.size + 1, 3, none⟩ = some (.int .u8 (g.d 3)) ∧ w1.cell? ⟨w.heap.size + 1, 4, none⟩ = some (.int .u8 (g.d 4)) ∧ w1.cell? ⟨w.heap.size + 1, 5, none⟩ = some (.int .u8 (g.d 5)) ∧ w1.cell? ⟨w.heap.size + 1, 6, none⟩ = some (.int .u8 (g.s 0)) ∧ w1.cell? ⟨w.heap.size + 1, 7, none⟩ = some (.int .u8 (g.s 1)) ∧ w1.cell? ⟨w.heap.size + 1, 8, none⟩ = some (.int .u8 (g.s 2)) ∧ w1.cell? ⟨w.heap.size + 1, 9, none⟩ = some (.int .u8 (g.s 3)) ∧ w1.cell? ⟨w.heap.size + 1, 10, none⟩ = some (.int .u8 (g.s 4)) ∧ w1.cell? ⟨w.heap.size + 1, 11, none⟩ = some (.int .u8 (g.s 5)) ∧ w1.cell? ⟨w.heap.size + 1, 12, none⟩ = some (.slice g.ta g.tl.length g.tc) ∧ w1.cell? ⟨w.heap.size + 1, 20, none⟩ = some (.string g.bo) := ⟨hF0, hG0, (hF0.c 0).trans rfl, (hF0.c 1).trans rfl, (hF0.c 2).trans rfl, (hF0.c 3).trans rfl, (hF0.c 4).trans rfl, (hF0.c 5).trans rfl, (hF0.c 6).trans rfl, (hF0.c 7).trans rfl, (hF0.c 8).trans rfl, (hF0.c 9).trans rfl, (hF0.c 10).trans rfl, (hF0.c 11).trans rfl, (hF0.c 12).trans rfl, (hF0.c 20).trans rfl, (hG0.c 0).trans rfl, (hG0.c 1).trans rfl, (hG0.c 2).trans rfl, (hG0.c 3).trans rfl, (hG0.c 4).trans rfl, (hG0.c 5).trans rfl, (hG0.c 6).trans rfl, (hG0.c 7).trans rfl, (hG0.c 8).trans rfl, (hG0.c 9).trans rfl, (hG0.c 10).trans rfl, (hG0.c 11).trans rfl, (hG0.c 12).trans rfl, (hG0.c 20).trans rfl⟩
  refine wp_region_noPanic ?_
  refine wp_region_held_drew (S := (fun w' => HasF w' w.heap.size f ∧ HasF w' (w.heap.size + 1) g ∧ w'.cell? ⟨w.heap.size, 0, none⟩ = some (.int .u8 (f.d 0)) ∧ w'.cell? ⟨w.heap.size, 1, none⟩ = some (.int .u8 (f.d 1)) ∧ w'.cell? ⟨w.heap.size, 2, none⟩ = some (.int .u8 (f.d 2)) ∧ w'.cell? ⟨w.heap.size, 3, none⟩ = some (.int .u8 (f.d 3)) ∧ w'.cell? ⟨w.heap.size, 4, none⟩ = some (.int .u8 (f.d 4)) ∧ w'.cell? ⟨w.heap.size, 5, none⟩ = some (.int .u8 (f.d 5)) ∧ w'.cell? ⟨w.heap.size, 6, none⟩ = some (.int .u8 (f.s 0)) ∧ w'.cell? ⟨w.heap.size, 7, none⟩ = some (.int .u8 (f.s 1)) ∧ w'.cell? ⟨w.heap.size, 8, none⟩ = some (.int .u8 (f.s 2)) ∧ w'.cell? ⟨w.heap.size, 9, none⟩ = some (.int .u8 (f.s 3)) ∧ w'.cell? ⟨w.heap.size, 10, none⟩ = some (.int .u8 (f.s 4)) ∧ w'.cell? ⟨w.heap.size, 11, none⟩ = some (.int .u8 (f.s 5)) ∧ w'.cell? ⟨w.heap.size, 12, none⟩ = some (.slice f.ta f.tl.length f.tc) ∧ w'.cell? ⟨w.heap.size, 20, none⟩ = some (.string f.bo) ∧ w'.cell? ⟨w.heap.size + 1, 0, none⟩ = some (.int .u8 (g.d 0)) ∧ w'.cell? ⟨w.heap.size + 1, 1, none⟩ = some (.int .u8 (g.d 1)) ∧ w'.cell? ⟨w.heap.size + 1, 2, none⟩ = some (.int .u8 (g.d 2)) ∧ w'.cell? ⟨w.heap.size + 1, 3, none⟩ = some (.int .u8 (g.d 3)) ∧ w'.cell? ⟨w.heap.size + 1, 4, none⟩ = some (.int .u8 (g.d 4)) ∧ w'.cell? ⟨w.heap.size + 1, 5, none⟩ = some (.int .u8 (g.d 5)) ∧ w'.cell? ⟨w.heap.size + 1, 6, none⟩ = some (.int .u8 (g.s 0)) ∧ w'.cell? ⟨w.heap.size + 1, 7, none⟩ = some (.int .u8 (g.s 1)) ∧ w'.cell? ⟨w.heap.size + 1, 8, none⟩ = some (.int .u8 (g.s 2)) ∧ w'.cell? ⟨w.heap.size + 1, 9, none⟩ = some (.int .u8 (g.s 3)) ∧ w'.cell? ⟨w.heap.size + 1, 10, none⟩ = some (.int .u8 (g.s 4)) ∧ w'.cell? ⟨w.heap.size + 1, 11, none⟩ = some (.int .u8 (g.s 5)) ∧ w'.cell? ⟨w.heap.size + 1, 12, none⟩ = some (.slice g.ta g.tl.length g.tc) ∧ w'.cell? ⟨w.heap.size + 1, 20, none⟩ = some (.string g.bo))) (by kernel_rfl) ?_ (fun hHeld => ?_)
  · exact S1
  refine wpAnyH_take (i := 0) (v := ?_) rfl (by kernel_rfl) (by kernel_rfl) (by kernel_rfl) (fun _ _ _ h => h) (Or.inl ⟨by rfl, ?_⟩) (by assumption) ?_
  rotate_left
  · (intro w hSw; (try dsimp only at hSw); go_simp; (try with_reducible rfl))
  (try simp only [Act.put, List.getElem_toArray, List.getElem_cons_zero, List.getElem_cons_succ, List.setIfInBounds_toArray, List.set_cons_zero, List.set_cons_succ])
  refine wpAnyH_take (i := 1) (v := ?_) rfl (by kernel_rfl) (by kernel_rfl) (by kernel_rfl) (fun _ _ _ h => h) (Or.inl ⟨by rfl, ?_⟩) (by assumption) ?_
  rotate_left
  · (intro w hSw; (try dsimp only at hSw); go_simp; (try with_reducible rfl))
  (try simp only [Act.put, List.getElem_toArray, List.getElem_cons_zero, List.getElem_cons_succ, List.setIfInBounds_toArray, List.set_cons_zero, List.set_cons_succ])
  refine wpAnyH_take (i := 2) (v := ?_) rfl (by kernel_rfl) (by kernel_rfl) (by kernel_rfl) (fun _ _ _ h => h) (Or.inl ⟨by rfl, ?_⟩) (by assumption) ?_
  rotate_left
  · (intro w hSw; (try dsimp only at hSw); go_simp; (try with_reducible rfl))
  (try simp only [Act.put, List.getElem_toArray, List.getElem_cons_zero, List.getElem_cons_succ, List.setIfInBounds_toArray, List.set_cons_zero, List.set_cons_succ])
  refine wpAnyH_take (i := 3) (v := ?_) rfl (by kernel_rfl) (by kernel_rfl) (by kernel_rfl) (fun _ _ _ h => h) (Or.inl ⟨by rfl, ?_⟩) (by assumption) ?_
  rotate_left
  · (intro w hSw; (try dsimp only at hSw); go_simp; (try with_reducible rfl))
  (try simp only [Act.put, List.getElem_toArray, List.getElem_cons_zero, List.getElem_cons_succ, List.setIfInBounds_toArray, List.set_cons_zero, List.set_cons_succ])
  refine wpAnyH_take (i := 4) (v := ?_) rfl (by kernel_rfl) (by kernel_rfl) (by kernel_rfl) (fun _ _ _ h => h) (Or.inl ⟨by rfl, ?_⟩) (by assumption) ?_
  rotate_left
  · (intro w hSw; (try dsimp only at hSw); go_simp; (try with_reducible rfl))
  (try simp only [Act.put, List.getElem_toArray, List.getElem_cons_zero, List.getElem_cons_succ, List.setIfInBounds_toArray, List.set_cons_zero, List.set_cons_succ])
  refine wpAnyH_take (i := 5) (v := ?_) rfl (by kernel_rfl) (by kernel_rfl) (by kernel_rfl) (fun _ _ _ h => h) (Or.inl ⟨by rfl, ?_⟩) (by assumption) ?_
  rotate_left
  · (intro w hSw; (try dsimp only at hSw); go_simp; (try with_reducible rfl))
  (try simp only [Act.put, List.getElem_toArray, List.getElem_cons_zero, List.getElem_cons_succ, List.setIfInBounds_toArray, List.set_cons_zero, List.set_cons_succ])
  refine wpAnyH_take (i := 6) (v := ?_) rfl (by kernel_rfl) (by kernel_rfl) (by kernel_rfl) (fun _ _ _ h => h) (Or.inl ⟨by rfl, ?_⟩) (by assumption) ?_
  rotate_left
  · (intro w hSw; (try dsimp only at hSw); go_simp; (try with_reducible rfl))
  (try simp only [Act.put, List.getElem_toArray, List.getElem_cons_zero, List.getElem_cons_succ, List.setIfInBounds_toArray, List.set_cons_zero, List.set_cons_succ])
  refine wpAnyH_take (i := 7) (v := ?_) rfl (by kernel_rfl) (by kernel_rfl) (by kernel_rfl) (fun _ _ _ h => h) (Or.inl ⟨by rfl, ?_⟩) (by assumption) ?_
  rotate_left
  · (intro w hSw; (try dsimp only at hSw); go_simp; (try with_reducible rfl))
  (try simp only [Act.put, List.getElem_toArray, List.getElem_cons_zero, List.getElem_cons_succ, List.setIfInBounds_toArray, List.set_cons_zero, List.set_cons_succ])
  refine wpAnyH_take (i := 8) (v := ?_) rfl (by kernel_rfl) (by kernel_rfl) (by kernel_rfl) (fun _ _ _ h => h) (Or.inl ⟨by rfl, ?_⟩) (by assumption) ?_
  rotate_left
  · (intro w hSw; (try dsimp only at hSw); go_simp; (try with_reducible rfl))
  (try simp only [Act.put, List.getElem_toArray, List.getElem_cons_zero, List.getElem_cons_succ, List.setIfInBounds_toArray, List.set_cons_zero, List.set_cons_succ])
  refine wpAnyH_take (i := 9) (v := ?_) rfl (by kernel_rfl) (by kernel_rfl) (by kernel_rfl) (fun _ _ _ h => h) (Or.inl ⟨by rfl, ?_⟩) (by assumption) ?_
  rotate_left
  · (intro w hSw; (try dsimp only at hSw); go_simp; (try with_reducible rfl))
  (try simp only [Act.put, List.getElem_toArray, List.getElem_cons_zero, List.getElem_cons_succ, List.setIfInBounds_toArray, List.set_cons_zero, List.set_cons_succ])
  refine wpAnyH_take (i := 10) (v := ?_) rfl (by kernel_rfl) (by kernel_rfl) (by kernel_rfl) (fun _ _ _ h => h) (Or.inl ⟨by rfl, ?_⟩) (by assumption) ?_
  rotate_left
  · (intro w hSw; (try dsimp only at hSw); go_simp; (try with_reducible rfl))
  (try simp only [Act.put, List.getElem_toArray, List.getElem_cons_zero, List.getElem_cons_succ, List.setIfInBounds_toArray, List.set_cons_zero, List.set_cons_succ])
  refine wpAnyH_take (i := 11) (v := ?_) rfl (by kernel_rfl) (by kernel_rfl) (by kernel_rfl) (fun _ _ _ h => h) (Or.inl ⟨by rfl, ?_⟩) (by assumption) ?_
  rotate_left
  · (intro w hSw; (try dsimp only at hSw); go_simp; (try with_reducible rfl))
  (try simp only [Act.put, List.getElem_toArray, List.getElem_cons_zero, List.getElem_cons_succ, List.setIfInBounds_toArray, List.set_cons_zero, List.set_cons_succ])
  refine wpAnyH_take (i := 12) (v := ?_) rfl (by kernel_rfl) (by kernel_rfl) (by kernel_rfl) (fun _ _ _ h => h) (Or.inl ⟨by rfl, ?_⟩) (by assumption) ?_
  rotate_left
  · (intro w hSw; (try dsimp only at hSw); go_simp; (try with_reducible rfl))
  (try simp only [Act.put, List.getElem_toArray, List.getElem_cons_zero, List.getElem_cons_succ, List.setIfInBounds_toArray, List.set_cons_zero, List.set_cons_succ])
  refine wpAnyH_take (i := 13) (v := ?_) rfl (by kernel_rfl) (by kernel_rfl) (by kernel_rfl) (fun _ _ _ h => h) (Or.inl ⟨by rfl, ?_⟩) (by assumption) ?_
  rotate_left
  · (intro w hSw; (try dsimp only at hSw); go_simp; (try with_reducible rfl))
  (try simp only [Act.put, List.getElem_toArray, List.getElem_cons_zero, List.getElem_cons_succ, List.setIfInBounds_toArray, List.set_cons_zero, List.set_cons_succ])
  refine wpAnyH_take (i := 14) (v := ?_) rfl (by kernel_rfl) (by kernel_rfl) (by kernel_rfl) (fun _ _ _ h => h) (Or.inl ⟨by rfl, ?_⟩) (by assumption) ?_
  rotate_left
  · (intro w hSw; (try dsimp only at hSw); go_simp; (try with_reducible rfl))
  (try simp only [Act.put, List.getElem_toArray, List.getElem_cons_zero, List.getElem_cons_succ, List.setIfInBounds_toArray, List.set_cons_zero, List.set_cons_succ])
  refine wpAnyH_take (i := 15) (v := ?_) rfl (by kernel_rfl) (by kernel_rfl) (by kernel_rfl) (fun _ _ _ h => h) (Or.inl ⟨by rfl, ?_⟩) (by assumption) ?_
  rotate_left
  · (intro w hSw; (try dsimp only at hSw); go_simp; (try with_reducible rfl))
  (try simp only [Act.put, List.getElem_toArray, List.getElem_cons_zero, List.getElem_cons_succ, List.setIfInBounds_toArray, List.set_cons_zero, List.set_cons_succ])
  refine wpAnyH_take (i := 16) (v := ?_) rfl (by kernel_rfl) (by kernel_rfl) (by kernel_rfl) (fun _ _ _ h => h) (Or.inl ⟨by rfl, ?_⟩) (by assumption) ?_
  rotate_left
  · (intro w hSw; (try dsimp only at hSw); go_simp; (try with_reducible rfl))
  (try simp only [Act.put, List.getElem_toArray, List.getElem_cons_zero, List.getElem_cons_succ, List.setIfInBounds_toArray, List.set_cons_zero, List.set_cons_succ])
  refine wpAnyH_ready (rs := [17]) (by kernel_rfl) (by simp) ?_
  refine AllReadyH.cons rfl (fun K hK => ?_) AllReadyH.nil
  simp only [List.getElem_toArray, List.getElem_cons_zero, List.getElem_cons_succ]
  go_simp
  go_at_call 46; (with_reducible refine (HE.out _ ?_ ?_).mono ?_); (exact hI0.tags); (exact hJ0.tags); rintro e w2 ⟨rfl, k2⟩; have hF2 : HasF w2 _ f := HasF.below hF0.drew k2 hF0.lt; have hG2 : HasF w2 _ g := HasF.below hG0.drew k2 hG0.lt; have S2 : HasF w2 w.heap.size f ∧ HasF w2 (w.heap.size + 1) g ∧ w2.cell? ⟨w.heap.size, 0, none⟩ = some (.int .u8 (f.d 0)) ∧ w2.cell? ⟨w.heap.size, 1, none⟩ = some (.int .u8 (f.d 1)) ∧ w2.cell? ⟨w.heap.size, 2, none⟩ = some (.int .u8 (f.d 2)) ∧ w2.cell? ⟨w.heap.size, 3, none⟩ = some (.int .u8 (f.d 3)) ∧ w2.cell? ⟨w.heap.size, 4, none⟩ = some (.int .u8 (f.d 4)) ∧ w2.cell? ⟨w.heap.size, 5, none⟩ = some (.int .u8 (f.d 5)) ∧ w2.cell? ⟨w.heap.size, 6, none⟩ = some (.int .u8 (f.s 0)) ∧ w2.cell? ⟨w.heap.size, 7, none⟩ = some (.int .u8 (f.s 1)) ∧ w2.cell? ⟨w.heap.size, 8, none⟩ = some (.int .u8 (f.s 2)) ∧ w2.cell? ⟨w.heap.size, 9, none⟩ = some (.int .u8 (f.s 3)) ∧ w2.cell? ⟨w.heap.size, 10, none⟩ = some (.int .u8 (f.s 4)) ∧ w2.cell? ⟨w.heap.size, 11, none⟩ = some (.int .u8 (f.s 5)) ∧ w2.cell? ⟨w.heap.size, 12, none⟩ = some (.slice f.ta f.tl.length f.tc) ∧ w2.cell? ⟨w.heap.size, 20, none⟩ = some (.string f.bo) ∧ w2.cell? ⟨w.heap.size + 1, 0, none⟩ = some (.int .u8 (g.d 0)) ∧ w2.cell? ⟨w.heap.size + 1, 1, none⟩ = some (.int .u8 (g.d 1)) ∧ w2.cell? ⟨w.heap.size + 1, 2, none⟩ = some (.int .u8 (g.d 2)) ∧ w2.cell? ⟨w.heap.size + 1, 3, none⟩ = some (.int .u8 (g.d 3)) ∧ w2.cell? ⟨w.heap.size + 1, 4, none⟩ = some (.int .u8 (g.d 4)) ∧ w2.cell? ⟨w.heap.size + 1, 5, none⟩ = some (.int .u8 (g.d 5)) ∧ w2.cell? ⟨w.heap.size + 1, 6, none⟩ = some (.int .u8 (g.s 0)) ∧ w2.cell? ⟨w.heap.size + 1, 7, none⟩ = some (.int .u8 (g.s 1)) ∧ w2.cell? ⟨w.heap.size + 1, 8, none⟩ = some (.int .u8 (g.s 2)) ∧ w2.cell? ⟨w.heap.size + 1, 9, none⟩ = some (.int .u8 (g.s 3)) ∧ w2.cell? ⟨w.heap.size + 1, 10, none⟩ = some (.int .u8 (g.s 4)) ∧ w2.cell? ⟨w.heap.size + 1, 11, none⟩ = some (.int .u8 (g.s 5)) ∧ w2.cell? ⟨w.heap.size + 1, 12, none⟩ = some (.slice g.ta g.tl.length g.tc) ∧ w2.cell? ⟨w.heap.size + 1, 20, none⟩ = some (.string g.bo) := ⟨hF2, hG2, (hF2.c 0).trans rfl, (hF2.c 1).trans rfl, (hF2.c 2).trans rfl, (hF2.c 3).trans rfl, (hF2.c 4).trans rfl, (hF2.c 5).trans rfl, (hF2.c 6).trans rfl, (hF2.c 7).trans rfl, (hF2.c 8).trans rfl, (hF2.c 9).trans rfl, (hF2.c 10).trans rfl, (hF2.c 11).trans rfl, (hF2.c 12).trans rfl, (hF2.c 20).trans rfl, (hG2.c 0).trans rfl, (hG2.c 1).trans rfl, (hG2.c 2).trans rfl, (hG2.c 3).trans rfl, (hG2.c 4).trans rfl, (hG2.c 5).trans rfl, (hG2.c 6).trans rfl, (hG2.c 7).trans rfl, (hG2.c 8).trans rfl, (hG2.c 9).trans rfl, (hG2.c 10).trans rfl, (hG2.c 11).trans rfl, (hG2.c 12).trans rfl, (hG2.c 20).trans rfl⟩
  refine hK.out _ _ ?_ (fun hHeld => ?_)
  · exact S2
  clear hK K
  (try simp only [Act.put, List.getElem_toArray, List.getElem_cons_zero, List.getElem_cons_succ, List.setIfInBounds_toArray, List.set_cons_zero, List.set_cons_succ])
  refine wpAnyH_take (i := 18) (v := ?_) rfl (by kernel_rfl) (by kernel_rfl) (by kernel_rfl) (fun _ _ _ h => h) (Or.inl ⟨by rfl, ?_⟩) (by assumption) ?_
  rotate_left
  · (intro w hSw; (try dsimp only at hSw); go_simp; (try with_reducible rfl))
  (try simp only [Act.put, List.getElem_toArray, List.getElem_cons_zero, List.getElem_cons_succ, List.setIfInBounds_toArray, List.set_cons_zero, List.set_cons_succ])
  refine wpAnyH_take (i := 19) (v := ?_) rfl (by kernel_rfl) (by kernel_rfl) (by kernel_rfl) (fun _ _ _ h => h) (Or.inl ⟨by rfl, ?_⟩) (by assumption) ?_
  rotate_left
  · (intro w hSw; (try dsimp only at hSw); go_simp; (try with_reducible rfl))
  (try simp only [Act.put, List.getElem_toArray, List.getElem_cons_zero, List.getElem_cons_succ, List.setIfInBounds_toArray, List.set_cons_zero, List.set_cons_succ])
  refine wpAnyH_take (i := 20) (v := undef) rfl (by kernel_rfl) (by kernel_rfl) (by kernel_rfl) (fun _ _ _ h => h) (Or.inr ⟨by rfl, rfl⟩) (by assumption) ?_
  (try simp only [Act.put, List.getElem_toArray, List.getElem_cons_zero, List.getElem_cons_succ, List.setIfInBounds_toArray, List.set_cons_zero, List.set_cons_succ])
  refine wpAnyH_take (i := 21) (v := undef) rfl (by kernel_rfl) (by kernel_rfl) (by kernel_rfl) (fun _ _ _ h => h) (Or.inr ⟨by rfl, rfl⟩) (by assumption) ?_
  (try simp only [Act.put, List.getElem_toArray, List.getElem_cons_zero, List.getElem_cons_succ, List.setIfInBounds_toArray, List.set_cons_zero, List.set_cons_succ])
  refine wpAnyH_take (i := 22) (v := undef) rfl (by kernel_rfl) (by kernel_rfl) (by kernel_rfl) (fun _ _ _ h => h) (Or.inr ⟨by rfl, rfl⟩) (by assumption) ?_
  (try simp only [Act.put, List.getElem_toArray, List.getElem_cons_zero, List.getElem_cons_succ, List.setIfInBounds_toArray, List.set_cons_zero, List.set_cons_succ])
  refine wpAnyH_take (i := 23) (v := undef) rfl (by kernel_rfl) (by kernel_rfl) (by kernel_rfl) (fun _ _ _ h => h) (Or.inr ⟨by rfl, rfl⟩) (by assumption) ?_
  (try simp only [Act.put, List.getElem_toArray, List.getElem_cons_zero, List.getElem_cons_succ, List.setIfInBounds_toArray, List.set_cons_zero, List.set_cons_succ])
  refine wpAnyH_take (i := 24) (v := undef) rfl (by kernel_rfl) (by kernel_rfl) (by kernel_rfl) (fun _ _ _ h => h) (Or.inr ⟨by rfl, rfl⟩) (by assumption) ?_
  (try simp only [Act.put, List.getElem_toArray, List.getElem_cons_zero, List.getElem_cons_succ, List.setIfInBounds_toArray, List.set_cons_zero, List.set_cons_succ])
  refine wpAnyH_take (i := 25) (v := ?_) rfl (by kernel_rfl) (by kernel_rfl) (by kernel_rfl) (fun _ _ _ h => h) (Or.inl ⟨by rfl, ?_⟩) (by assumption) ?_
  rotate_left
  · (intro w hSw; (try dsimp only at hSw); go_simp; (try with_reducible rfl))
  (try simp only [Act.put, List.getElem_toArray, List.getElem_cons_zero, List.getElem_cons_succ, List.setIfInBounds_toArray, List.set_cons_zero, List.set_cons_succ])
  refine wpAnyH_take (i := 26) (v := ?_) rfl (by kernel_rfl) (by kernel_rfl) (by kernel_rfl) (fun _ _ _ h => h) (Or.inl ⟨by rfl, ?_⟩) (by assumption) ?_
  rotate_left
  · (intro w hSw; (try dsimp only at hSw); go_simp; (try with_reducible rfl))
  (try simp only [Act.put, List.getElem_toArray, List.getElem_cons_zero, List.getElem_cons_succ, List.setIfInBounds_toArray, List.set_cons_zero, List.set_cons_succ])
  refine wpAnyH_take (i := 27) (v := undef) rfl (by kernel_rfl) (by kernel_rfl) (by kernel_rfl) (fun _ _ _ h => h) (Or.inr ⟨by rfl, rfl⟩) (by assumption) ?_
  (try simp only [Act.put, List.getElem_toArray, List.getElem_cons_zero, List.getElem_cons_succ, List.setIfInBounds_toArray, List.set_cons_zero, List.set_cons_succ])
  refine wpAnyH_take (i := 28) (v := undef) rfl (by kernel_rfl) (by kernel_rfl) (by kernel_rfl) (fun _ _ _ h => h) (Or.inr ⟨by rfl, rfl⟩) (by assumption) ?_
  (try simp only [Act.put, List.getElem_toArray, List.getElem_cons_zero, List.getElem_cons_succ, List.setIfInBounds_toArray, List.set_cons_zero, List.set_cons_succ])
  refine wpAnyH_take (i := 29) (v := undef) rfl (by kernel_rfl) (by kernel_rfl) (by kernel_rfl) (fun _ _ _ h => h) (Or.inr ⟨by rfl, rfl⟩) (by assumption) ?_
  (try simp only [Act.put, List.getElem_toArray, List.getElem_cons_zero, List.getElem_cons_succ, List.setIfInBounds_toArray, List.set_cons_zero, List.set_cons_succ])
  refine wpAnyH_take (i := 30) (v := undef) rfl (by kernel_rfl) (by kernel_rfl) (by kernel_rfl) (fun _ _ _ h => h) (Or.inr ⟨by rfl, rfl⟩) (by assumption) ?_
  (try simp only [Act.put, List.getElem_toArray, List.getElem_cons_zero, List.getElem_cons_succ, List.setIfInBounds_toArray, List.set_cons_zero, List.set_cons_succ])
  refine wpAnyH_take (i := 31) (v := undef) rfl (by kernel_rfl) (by kernel_rfl) (by kernel_rfl) (fun _ _ _ h => h) (Or.inr ⟨by rfl, rfl⟩) (by assumption) ?_
  (try simp only [Act.put, List.getElem_toArray, List.getElem_cons_zero, List.getElem_cons_succ, List.setIfInBounds_toArray, List.set_cons_zero, List.set_cons_succ])
  refine wpAnyH_take (i := 32) (v := ?_) rfl (by kernel_rfl) (by kernel_rfl) (by kernel_rfl) (fun _ _ _ h => h) (Or.inl ⟨by rfl, ?_⟩) (by assumption) ?_
  rotate_left
  · (intro w hSw; (try dsimp only at hSw); go_simp; (try with_reducible rfl))
  (try simp only [Act.put, List.getElem_toArray, List.getElem_cons_zero, List.getElem_cons_succ, List.setIfInBounds_toArray, List.set_cons_zero, List.set_cons_succ])
  refine wpAnyH_take (i := 33) (v := ?_) rfl (by kernel_rfl) (by kernel_rfl) (by kernel_rfl) (fun _ _ _ h => h) (Or.inl ⟨by rfl, ?_⟩) (by assumption) ?_
  rotate_left
  · (intro w hSw; (try dsimp only at hSw); go_simp; (try with_reducible rfl))
  (try simp only [Act.put, List.getElem_toArray, List.getElem_cons_zero, List.getElem_cons_succ, List.setIfInBounds_toArray, List.set_cons_zero, List.set_cons_succ])
  refine wpAnyH_done (by kernel_rfl) ?_ _
  refine NoPanic.normal ?_
  have b2 : Below w.heap.size w w2 := hb0.drew.trans (k2.mono hb0.size)
  clear S1 hF0 hG0 hI0 hJ0 hHeld S2 k2 hF2 hG2 HE
  go_wp2
  go_ret
  exact ⟨rfl, b2⟩

end Go.Proofs.Ytdceggekhhflgaa

namespace Go.Proofs.Ytdceggekhhflgaa
open Go.RowKit
attribute [local go_sem ↓] Go.wp_at_zero Go.wp_at_succ
set_option linter.unusedSimpArgs false
set_option linter.unusedVariables false

set_option maxHeartbeats 4000000 in
theorem same_3 (f g : Fr) (w : World) (hf : FrIn w f) (hg : FrIn w g) (h1 : eq6 f.d g.d = true) (h2 : eq6 f.s g.s = true) (h3 : tagsEq f.tl g.tl = true) (h4 : same7 f g = false) :
    Calls Try.prog 25 #[frV f, frV g] w fun e w' => e = .returned (.bool false) ∧ Below w.heap.size w w' := by
  obtain ⟨hF0, hG0, hb0⟩ := both_boxed w f g
  have hI0 := hf.below hb0
  have hJ0 := hg.below hb0
  have e1 : ∀ W, (Op.equalIn 10000 33 (.agg #[.int .u8 (f.d 0), .int .u8 (f.d 1), .int .u8 (f.d 2), .int .u8 (f.d 3), .int .u8 (f.d 4), .int .u8 (f.d 5)]) (.agg #[.int .u8 (g.d 0), .int .u8 (g.d 1), .int .u8 (g.d 2), .int .u8 (g.d 3), .int .u8 (g.d 4), .int .u8 (g.d 5)])).run Try.prog W = .ok true W := fun W => by have h := run_eql_six f.d g.d W; rw [h1] at h; exact h
  have e2 : ∀ W, (Op.equalIn 10000 33 (.agg #[.int .u8 (f.s 0), .int .u8 (f.s 1), .int .u8 (f.s 2), .int .u8 (f.s 3), .int .u8 (f.s 4), .int .u8 (f.s 5)]) (.agg #[.int .u8 (g.s 0), .int .u8 (g.s 1), .int .u8 (g.s 2), .int .u8 (g.s 3), .int .u8 (g.s 4), .int .u8 (g.s 5)])).run Try.prog W = .ok true W := fun W => by have h := run_eql_six f.s g.s W; rw [h2] at h; exact h
  have HE : Hid (∀ W, TagsIn W f.ta f.tl → TagsIn W g.ta g.tl → Calls Try.prog 46 #[.slice f.ta f.tl.length f.tc, .slice g.ta g.tl.length g.tc] W fun e w' => e = .returned (.bool true) ∧ Below W.heap.size W w') := fun W x y => by have h := equal_any f.ta g.ta f.tc g.tc f.tl g.tl W x y hf.few; rw [h3] at h; exact h
  clear h3
  have HF := Lib.hid (numbers_any f)
  have HG := Lib.hid (numbers_any g)
  have e7 : ∀ W, (Op.equalIn 10000 83 (.agg #[.int .i64 f.k, .int .i64 f.t, .int .i64 f.da, .int .i64 f.sa, .int .i64 f.ct, .int .i64 f.ou, .int .i64 f.pi]) (.agg #[.int .i64 g.k, .int .i64 g.t, .int .i64 g.da, .int .i64 g.sa, .int .i64 g.ct, .int .i64 g.ou, .int .i64 g.pi])).run Try.prog W = .ok false W := fun W => by have h := run_eql_seven f g W; rw [h4] at h; exact h
  clear h4
  clear h1 h2 hf hg
  unfold frV frC at *
  go_enter Try.func25, Try.ntmps25
  go_wp2
  generalize (w.alloc (.cells #[.int .u8 (f.d 0), .int .u8 (f.d 1), .int .u8 (f.d 2), .int .u8 (f.d 3), .int .u8 (f.d 4), .int .u8 (f.d 5), .int .u8 (f.s 0), .int .u8 (f.s 1), .int .u8 (f.s 2), .int .u8 (f.s 3), .int .u8 (f.s 4), .int .u8 (f.s 5), .slice f.ta f.tl.length f.tc, .int .i64 f.k, .int .i64 f.t, .int .i64 f.da, .int .i64 f.sa, .int .i64 f.ct, .int .i64 f.ou, .int .i64 f.pi, .string f.bo] 36)).alloc (.cells #[.int .u8 (g.d 0), .int .u8 (g.d 1), .int .u8 (g.d 2), .int .u8 (g.d 3), .int .u8 (g.d 4), .int .u8 (g.d 5), .int .u8 (g.s 0), .int .u8 (g.s 1), .int .u8 (g.s 2), .int .u8 (g.s 3), .int .u8 (g.s 4), .int .u8 (g.s 5), .slice g.ta g.tl.length g.tc, .int .i64 g.k, .int .i64 g.t, .int .i64 g.da, .int .i64 g.sa, .int .i64 g.ct, .int .i64 g.ou, .int .i64 g.pi, .string g.bo] 36) = w1 at *
  have S1 : HasF w1 w.heap.size f ∧ HasF w1 (w.heap.size + 1) g ∧ w1.cell? ⟨w.heap.size, 0, none⟩ = some (.int .u8 (f.d 0)) ∧ w1.cell? ⟨w.heap.size, 1, none⟩ = some (.int .u8 (f.d 1)) ∧ w1.cell? ⟨w.heap.size, 2, none⟩ = some (.int .u8 (f.d 2)) ∧ w1.cell? ⟨w.heap.size, 3, none⟩ = some (.int .u8 (f.d 3)) ∧ w1.cell? ⟨w.heap.size, 4, none⟩ = some (.int .u8 (f.d 4)) ∧ w1.cell? ⟨w.heap.size, 5, none⟩ = some (.int .u8 (f.d 5)) ∧ w1.cell? ⟨w.heap.size, 6, none⟩ = some (.int .u8 (f.s 0)) ∧ w1.cell? ⟨w.heap.size, 7, none⟩ = some (.int .u8 (f.s 1)) ∧ w1.cell? ⟨w.heap.size, 8, none⟩ = some (.int .u8 (f.s 2)) ∧ w1.cell? ⟨w.heap.size, 9, none⟩ = some (.int .u8 (f.s 3)) ∧ w1.cell? ⟨w.heap.size, 10, none⟩ = some (.int .u8 (f.s 4)) ∧ w1.cell? ⟨w.heap.size, 11, none⟩ = some (.int .u8 (f.s 5)) ∧ w1.cell? ⟨w.heap.size, 12, none⟩ = some (.slice f.ta f.tl.length f.tc) ∧ w1.cell? ⟨w.heap.size, 20, none⟩ = some (.string f.bo) ∧ w1.cell? ⟨w.heap.size + 1, 0, none⟩ = some (.int .u8 (g.d 0)) ∧ w1.cell? ⟨w.heap.size + 1, 1, none⟩ = some (.int .u8 (g.d 1)) ∧ w1.cell? ⟨w.heap.size + 1, 2, none⟩ = some (.int .u8 (g.d 2)) ∧ w1.cell? ⟨w.heap.size + 1, 3, none⟩ = some (.int .u8 (g.d 3)) ∧ w1.cell? ⟨w.heap.size + 1, 4, none⟩ = some (.int .u8 (g.d 4)) ∧ w1.cell? ⟨w.heap.size + 1, 5, none⟩ = some (.int .u8 (g.d 5)) ∧ w1.cell? ⟨w.heap.size + 1, 6, none⟩ = some (.int .u8 (g.s 0)) ∧ w1.cell? ⟨w.heap.size + 1, 7, none⟩ = some (.int .u8 (g.s 1)) ∧ w1.cell? ⟨w.heap.size + 1, 8, none⟩ = some (.int .u8 (g.s 2)) ∧ w1.cell? ⟨w.heap.size + 1, 9, none⟩ = some (.int .u8 (g.s 3)) ∧ w1.cell? ⟨w.heap.size + 1, 10, none⟩ = some (.int .u8 (g.s 4)) ∧ w1.cell? ⟨w.heap.size + 1, 11, none⟩ = some (.int .u8 (g.s 5)) ∧ w1.cell? ⟨w.heap.size + 1, 12, none⟩ = some (.slice g.ta g.tl.length g.tc) ∧ w1.cell? ⟨w.heap.size + 1, 20, none⟩ = some (.string g.bo) := ⟨hF0, hG0, (hF0.c 0).trans rfl, (hF0.c 1).trans rfl, (hF0.c 2).trans rfl, (hF0.c 3).trans rfl, (hF0.c 4).trans rfl, (hF0.c 5).trans rfl, (hF0.c 6).trans rfl, (hF0.c 7).trans rfl, (hF0.c 8).trans rfl, (hF0.c 9).trans rfl, (hF0.c 10).trans rfl, (hF0.c 11).trans rfl, (hF0.c 12).trans rfl, (hF0.c 20).trans rfl, (hG0.c 0).trans rfl, (hG0.c 1).trans rfl, (hG0.c 2).trans rfl, (hG0.c 3).trans rfl, (hG0.c 4).trans rfl, (hG0.c 5).trans rfl, (hG0.c 6).trans rfl, (hG0.c 7).trans rfl, (hG0.c 8).trans rfl, (hG0.c 9).trans rfl, (hG0.c 10).trans rfl, (hG0.c 11).trans rfl, (hG0.c 12).trans rfl, (hG0.c 20).trans rfl⟩
  refine wp_region_noPanic ?_
  refine wp_region_held_drew (S := (fun w' => HasF w' w.heap.size f ∧ HasF w' (w.heap.size + 1) g ∧ w'.cell? ⟨w.heap.size, 0, none⟩ = some (.int .u8 (f.d 0)) ∧ w'.cell? ⟨w.heap.size, 1, none⟩ = some (.int .u8 (f.d 1)) ∧ w'.cell? ⟨w.heap.size, 2, none⟩ = some (.int .u8 (f.d 2)) ∧ w'.cell? ⟨w.heap.size, 3, none⟩ = some (.int .u8 (f.d 3)) ∧ w'.cell? ⟨w.heap.size, 4, none⟩ = some (.int .u8 (f.d 4)) ∧ w'.cell? ⟨w.heap.size, 5, none⟩ = some (.int .u8 (f.d 5)) ∧ w'.cell? ⟨w.heap.size, 6, none⟩ = some (.int .u8 (f.s 0)) ∧ w'.cell? ⟨w.heap.size, 7, none⟩ = some (.int .u8 (f.s 1)) ∧ w'.cell? ⟨w.heap.size, 8, none⟩ = some (.int .u8 (f.s 2)) ∧ w'.cell? ⟨w.heap.size, 9, none⟩ = some (.int .u8 (f.s 3)) ∧ w'.cell? ⟨w.heap.size, 10, none⟩ = some (.int .u8 (f.s 4)) ∧ w'.cell? ⟨w.heap.size, 11, none⟩ = some (.int .u8 (f.s 5)) ∧ w'.cell? ⟨w.heap.size, 12, none⟩ = some (.slice f.ta f.tl.length f.tc) ∧ w'.cell? ⟨w.heap.size, 20, none⟩ = some (.string f.bo) ∧ w'.cell? ⟨w.heap.size + 1, 0, none⟩ = some (.int .u8 (g.d 0)) ∧ w'.cell? ⟨w.heap.size + 1, 1, none⟩ = some (.int .u8 (g.d 1)) ∧ w'.cell? ⟨w.heap.size + 1, 2, none⟩ = some (.int .u8 (g.d 2)) ∧ w'.cell? ⟨w.heap.size + 1, 3, none⟩ = some (.int .u8 (g.d 3)) ∧ w'.cell? ⟨w.heap.size + 1, 4, none⟩ = some (.int .u8 (g.d 4)) ∧ w'.cell? ⟨w.heap.size + 1, 5, none⟩ = some (.int .u8 (g.d 5)) ∧ w'.cell? ⟨w.heap.size + 1, 6, none⟩ = some (.int .u8 (g.s 0)) ∧ w'.cell? ⟨w.heap.size + 1, 7, none⟩ = some (.int .u8 (g.s 1)) ∧ w'.cell? ⟨w.heap.size + 1, 8, none⟩ = some (.int .u8 (g.s 2)) ∧ w'.cell? ⟨w.heap.size + 1, 9, none⟩ = some (.int .u8 (g.s 3)) ∧ w'.cell? ⟨w.heap.size + 1, 10, none⟩ = some (.int .u8 (g.s 4)) ∧ w'.cell? ⟨w.heap.size + 1, 11, none⟩ = some (.int .u8 (g.s 5)) ∧ w'.cell? ⟨w.heap.size + 1, 12, none⟩ = some (.slice g.ta g.tl.length g.tc) ∧ w'.cell? ⟨w.heap.size + 1, 20, none⟩ = some (.string g.bo))) (by kernel_rfl) ?_ (fun hHeld => ?_)
  · exact S1
  refine wpAnyH_take (i := 0) (v := ?_) rfl (by kernel_rfl) (by kernel_rfl) (by kernel_rfl) (fun _ _ _ h => h) (Or.inl ⟨by rfl, ?_⟩) (by assumption) ?_
  rotate_left
  · (intro w hSw; (try dsimp only at hSw); go_simp; (try with_reducible rfl))
  (try simp only [Act.put, List.getElem_toArray, List.getElem_cons_zero, List.getElem_cons_succ, List.setIfInBounds_toArray, List.set_cons_zero, List.set_cons_succ])
  refine wpAnyH_take (i := 1) (v := ?_) rfl (by kernel_rfl) (by kernel_rfl) (by kernel_rfl) (fun _ _ _ h => h) (Or.inl ⟨by rfl, ?_⟩) (by assumption) ?_
  rotate_left
  · (intro w hSw; (try dsimp only at hSw); go_simp; (try with_reducible rfl))
  (try simp only [Act.put, List.getElem_toArray, List.getElem_cons_zero, List.getElem_cons_succ, List.setIfInBounds_toArray, List.set_cons_zero, List.set_cons_succ])
  refine wpAnyH_take (i := 2) (v := ?_) rfl (by kernel_rfl) (by kernel_rfl) (by kernel_rfl) (fun _ _ _ h => h) (Or.inl ⟨by rfl, ?_⟩) (by assumption) ?_
  rotate_left
  · (intro w hSw; (try dsimp only at hSw); go_simp; (try with_reducible rfl))
  (try simp only [Act.put, List.getElem_toArray, List.getElem_cons_zero, List.getElem_cons_succ, List.setIfInBounds_toArray, List.set_cons_zero, List.set_cons_succ])
  refine wpAnyH_take (i := 3) (v := ?_) rfl (by kernel_rfl) (by kernel_rfl) (by kernel_rfl) (fun _ _ _ h => h) (Or.inl ⟨by rfl, ?_⟩) (by assumption) ?_
  rotate_left
  · (intro w hSw; (try dsimp only at hSw); go_simp; (try with_reducible rfl))
  (try simp only [Act.put, List.getElem_toArray, List.getElem_cons_zero, List.getElem_cons_succ, List.setIfInBounds_toArray, List.set_cons_zero, List.set_cons_succ])
  refine wpAnyH_take (i := 4) (v := ?_) rfl (by kernel_rfl) (by kernel_rfl) (by kernel_rfl) (fun _ _ _ h => h) (Or.inl ⟨by rfl, ?_⟩) (by assumption) ?_
  rotate_left
  · (intro w hSw; (try dsimp only at hSw); go_simp; (try with_reducible rfl))
  (try simp only [Act.put, List.getElem_toArray, List.getElem_cons_zero, List.getElem_cons_succ, List.setIfInBounds_toArray, List.set_cons_zero, List.set_cons_succ])
  refine wpAnyH_take (i := 5) (v := ?_) rfl (by kernel_rfl) (by kernel_rfl) (by kernel_rfl) (fun _ _ _ h => h) (Or.inl ⟨by rfl, ?_⟩) (by assumption) ?_
  rotate_left
  · (intro w hSw; (try dsimp only at hSw); go_simp; (try with_reducible rfl))
  (try simp only [Act.put, List.getElem_toArray, List.getElem_cons_zero, List.getElem_cons_succ, List.setIfInBounds_toArray, List.set_cons_zero, List.set_cons_succ])
  refine wpAnyH_take (i := 6) (v := ?_) rfl (by kernel_rfl) (by kernel_rfl) (by kernel_rfl) (fun _ _ _ h => h) (Or.inl ⟨by rfl, ?_⟩) (by assumption) ?_
  rotate_left
  · (intro w hSw; (try dsimp only at hSw); go_simp; (try with_reducible rfl))
  (try simp only [Act.put, List.getElem_toArray, List.getElem_cons_zero, List.getElem_cons_succ, List.setIfInBounds_toArray, List.set_cons_zero, List.set_cons_succ])
  refine wpAnyH_take (i := 7) (v := ?_) rfl (by kernel_rfl) (by kernel_rfl) (by kernel_rfl) (fun _ _ _ h => h) (Or.inl ⟨by rfl, ?_⟩) (by assumption) ?_
  rotate_left
  · (intro w hSw; (try dsimp only at hSw); go_simp; (try with_reducible rfl))
  (try simp only [Act.put, List.getElem_toArray, List.getElem_cons_zero, List.getElem_cons_succ, List.setIfInBounds_toArray, List.set_cons_zero, List.set_cons_succ])
  refine wpAnyH_take (i := 8) (v := ?_) rfl (by kernel_rfl) (by kernel_rfl) (by kernel_rfl) (fun _ _ _ h => h) (Or.inl ⟨by rfl, ?_⟩) (by assumption) ?_
  rotate_left
  · (intro w hSw; (try dsimp only at hSw); go_simp; (try with_reducible rfl))
  (try simp only [Act.put, List.getElem_toArray, List.getElem_cons_zero, List.getElem_cons_succ, List.setIfInBounds_toArray, List.set_cons_zero, List.set_cons_succ])
  refine wpAnyH_take (i := 9) (v := ?_) rfl (by kernel_rfl) (by kernel_rfl) (by kernel_rfl) (fun _ _ _ h => h) (Or.inl ⟨by rfl, ?_⟩) (by assumption) ?_
  rotate_left
  · (intro w hSw; (try dsimp only at hSw); go_simp; (try with_reducible rfl))
  (try simp only [Act.put, List.getElem_toArray, List.getElem_cons_zero, List.getElem_cons_succ, List.setIfInBounds_toArray, List.set_cons_zero, List.set_cons_succ])
  refine wpAnyH_take (i := 10) (v := ?_) rfl (by kernel_rfl) (by kernel_rfl) (by kernel_rfl) (fun _ _ _ h => h) (Or.inl ⟨by rfl, ?_⟩) (by assumption) ?_
  rotate_left
  · (intro w hSw; (try dsimp only at hSw); go_simp; (try with_reducible rfl))
  (try simp only [Act.put, List.getElem_toArray, List.getElem_cons_zero, List.getElem_cons_succ, List.setIfInBounds_toArray, List.set_cons_zero, List.set_cons_succ])
  refine wpAnyH_take (i := 11) (v := ?_) rfl (by kernel_rfl) (by kernel_rfl) (by kernel_rfl) (fun _ _ _ h => h) (Or.inl ⟨by rfl, ?_⟩) (by assumption) ?_
  rotate_left
  · (intro w hSw; (try dsimp only at hSw); go_simp; (try with_reducible rfl))
  (try simp only [Act.put, List.getElem_toArray, List.getElem_cons_zero, List.getElem_cons_succ, List.setIfInBounds_toArray, List.set_cons_zero, List.set_cons_succ])
  refine wpAnyH_take (i := 12) (v := ?_) rfl (by kernel_rfl) (by kernel_rfl) (by kernel_rfl) (fun _ _ _ h => h) (Or.inl ⟨by rfl, ?_⟩) (by assumption) ?_
  rotate_left
  · (intro w hSw; (try dsimp only at hSw); go_simp; (try with_reducible rfl))
  (try simp only [Act.put, List.getElem_toArray, List.getElem_cons_zero, List.getElem_cons_succ, List.setIfInBounds_toArray, List.set_cons_zero, List.set_cons_succ])
  refine wpAnyH_take (i := 13) (v := ?_) rfl (by kernel_rfl) (by kernel_rfl) (by kernel_rfl) (fun _ _ _ h => h) (Or.inl ⟨by rfl, ?_⟩) (by assumption) ?_
  rotate_left
  · (intro w hSw; (try dsimp only at hSw); go_simp; (try with_reducible rfl))
  (try simp only [Act.put, List.getElem_toArray, List.getElem_cons_zero, List.getElem_cons_succ, List.setIfInBounds_toArray, List.set_cons_zero, List.set_cons_succ])
  refine wpAnyH_take (i := 14) (v := ?_) rfl (by kernel_rfl) (by kernel_rfl) (by kernel_rfl) (fun _ _ _ h => h) (Or.inl ⟨by rfl, ?_⟩) (by assumption) ?_
  rotate_left
  · (intro w hSw; (try dsimp only at hSw); go_simp; (try with_reducible rfl))
  (try simp only [Act.put, List.getElem_toArray, List.getElem_cons_zero, List.getElem_cons_succ, List.setIfInBounds_toArray, List.set_cons_zero, List.set_cons_succ])
  refine wpAnyH_take (i := 15) (v := ?_) rfl (by kernel_rfl) (by kernel_rfl) (by kernel_rfl) (fun _ _ _ h => h) (Or.inl ⟨by rfl, ?_⟩) (by assumption) ?_
  rotate_left
  · (intro w hSw; (try dsimp only at hSw); go_simp; (try with_reducible rfl))
  (try simp only [Act.put, List.getElem_toArray, List.getElem_cons_zero, List.getElem_cons_succ, List.setIfInBounds_toArray, List.set_cons_zero, List.set_cons_succ])
  refine wpAnyH_take (i := 16) (v := ?_) rfl (by kernel_rfl) (by kernel_rfl) (by kernel_rfl) (fun _ _ _ h => h) (Or.inl ⟨by rfl, ?_⟩) (by assumption) ?_
  rotate_left
  · (intro w hSw; (try dsimp only at hSw); go_simp; (try with_reducible rfl))
  (try simp only [Act.put, List.getElem_toArray, List.getElem_cons_zero, List.getElem_cons_succ, List.setIfInBounds_toArray, List.set_cons_zero, List.set_cons_succ])
  refine wpAnyH_ready (rs := [17]) (by kernel_rfl) (by simp) ?_
  refine AllReadyH.cons rfl (fun K hK => ?_) AllReadyH.nil
  simp only [List.getElem_toArray, List.getElem_cons_zero, List.getElem_cons_succ]
  go_simp
  go_at_call 46; (with_reducible refine (HE.out _ ?_ ?_).mono ?_); (exact hI0.tags); (exact hJ0.tags); rintro e w2 ⟨rfl, k2⟩; have hF2 : HasF w2 _ f := HasF.below hF0.drew k2 hF0.lt; have hG2 : HasF w2 _ g := HasF.below hG0.drew k2 hG0.lt; have S2 : HasF w2 w.heap.size f ∧ HasF w2 (w.heap.size + 1) g ∧ w2.cell? ⟨w.heap.size, 0, none⟩ = some (.int .u8 (f.d 0)) ∧ w2.cell? ⟨w.heap.size, 1, none⟩ = some (.int .u8 (f.d 1)) ∧ w2.cell? ⟨w.heap.size, 2, none⟩ = some (.int .u8 (f.d 2)) ∧ w2.cell? ⟨w.heap.size, 3, none⟩ = some (.int .u8 (f.d 3)) ∧ w2.cell? ⟨w.heap.size, 4, none⟩ = some (.int .u8 (f.d 4)) ∧ w2.cell? ⟨w.heap.size, 5, none⟩ = some (.int .u8 (f.d 5)) ∧ w2.cell? ⟨w.heap.size, 6, none⟩ = some (.int .u8 (f.s 0)) ∧ w2.cell? ⟨w.heap.size, 7, none⟩ = some (.int .u8 (f.s 1)) ∧ w2.cell? ⟨w.heap.size, 8, none⟩ = some (.int .u8 (f.s 2)) ∧ w2.cell? ⟨w.heap.size, 9, none⟩ = some (.int .u8 (f.s 3)) ∧ w2.cell? ⟨w.heap.size, 10, none⟩ = some (.int .u8 (f.s 4)) ∧ w2.cell? ⟨w.heap.size, 11, none⟩ = some (.int .u8 (f.s 5)) ∧ w2.cell? ⟨w.heap.size, 12, none⟩ = some (.slice f.ta f.tl.length f.tc) ∧ w2.cell? ⟨w.heap.size, 20, none⟩ = some (.string f.bo) ∧ w2.cell? ⟨w.heap.size + 1, 0, none⟩ = some (.int .u8 (g.d 0)) ∧ w2.cell? ⟨w.heap.size + 1, 1, none⟩ = some (.int .u8 (g.d 1)) ∧ w2.cell? ⟨w.heap.size + 1, 2, none⟩ = some (.int .u8 (g.d 2)) ∧ w2.cell? ⟨w.heap.size + 1, 3, none⟩ = some (.int .u8 (g.d 3)) ∧ w2.cell? ⟨w.heap.size + 1, 4, none⟩ = some (.int .u8 (g.d 4)) ∧ w2.cell? ⟨w.heap.size + 1, 5, none⟩ = some (.int .u8 (g.d 5)) ∧ w2.cell? ⟨w.heap.size + 1, 6, none⟩ = some (.int .u8 (g.s 0)) ∧ w2.cell? ⟨w.heap.size + 1, 7, none⟩ = some (.int .u8 (g.s 1)) ∧ w2.cell? ⟨w.heap.size + 1, 8, none⟩ = some (.int .u8 (g.s 2)) ∧ w2.cell? ⟨w.heap.size + 1, 9, none⟩ = some (.int .u8 (g.s 3)) ∧ w2.cell? ⟨w.heap.size + 1, 10, none⟩ = some (.int .u8 (g.s 4)) ∧ w2.cell? ⟨w.heap.size + 1, 11, none⟩ = some (.int .u8 (g.s 5)) ∧ w2.cell? ⟨w.heap.size + 1, 12, none⟩ = some (.slice g.ta g.tl.length g.tc) ∧ w2.cell? ⟨w.heap.size + 1, 20, none⟩ = some (.string g.bo) := ⟨hF2, hG2, (hF2.c 0).trans rfl, (hF2.c 1).trans rfl, (hF2.c 2).trans rfl, (hF2.c 3).trans rfl, (hF2.c 4).trans rfl, (hF2.c 5).trans rfl, (hF2.c 6).trans rfl, (hF2.c 7).trans rfl, (hF2.c 8).trans rfl, (hF2.c 9).trans rfl, (hF2.c 10).trans rfl, (hF2.c 11).trans rfl, (hF2.c 12).trans rfl, (hF2.c 20).trans rfl, (hG2.c 0).trans rfl, (hG2.c 1).trans rfl, (hG2.c 2).trans rfl, (hG2.c 3).trans rfl, (hG2.c 4).trans rfl, (hG2.c 5).trans rfl, (hG2.c 6).trans rfl, (hG2.c 7).trans rfl, (hG2.c 8).trans rfl, (hG2.c 9).trans rfl, (hG2.c 10).trans rfl, (hG2.c 11).trans rfl, (hG2.c 12).trans rfl, (hG2.c 20).trans rfl⟩
  refine hK.out _ _ ?_ (fun hHeld => ?_)
  · exact S2
  clear hK K
  (try simp only [Act.put, List.getElem_toArray, List.getElem_cons_zero, List.getElem_cons_succ, List.setIfInBounds_toArray, List.set_cons_zero, List.set_cons_succ])
  refine wpAnyH_take (i := 18) (v := ?_) rfl (by kernel_rfl) (by kernel_rfl) (by kernel_rfl) (fun _ _ _ h => h) (Or.inl ⟨by rfl, ?_⟩) (by assumption) ?_
  rotate_left
  · (intro w hSw; (try dsimp only at hSw); go_simp; (try with_reducible rfl))
  (try simp only [Act.put, List.getElem_toArray, List.getElem_cons_zero, List.getElem_cons_succ, List.setIfInBounds_toArray, List.set_cons_zero, List.set_cons_succ])
  refine wpAnyH_take (i := 19) (v := ?_) rfl (by kernel_rfl) (by kernel_rfl) (by kernel_rfl) (fun _ _ _ h => h) (Or.inl ⟨by rfl, ?_⟩) (by assumption) ?_
  rotate_left
  · (intro w hSw; (try dsimp only at hSw); go_simp; (try with_reducible rfl))
  (try simp only [Act.put, List.getElem_toArray, List.getElem_cons_zero, List.getElem_cons_succ, List.setIfInBounds_toArray, List.set_cons_zero, List.set_cons_succ])
  refine wpAnyH_take (i := 20) (v := .agg #[.int .u8 (f.d 0), .int .u8 (f.d 1), .int .u8 (f.d 2), .int .u8 (f.d 3), .int .u8 (f.d 4), .int .u8 (f.d 5), .int .u8 (f.s 0), .int .u8 (f.s 1), .int .u8 (f.s 2), .int .u8 (f.s 3), .int .u8 (f.s 4), .int .u8 (f.s 5), .slice f.ta f.tl.length f.tc, .int .i64 f.k, .int .i64 f.t, .int .i64 f.da, .int .i64 f.sa, .int .i64 f.ct, .int .i64 f.ou, .int .i64 f.pi, .string f.bo]) rfl (by kernel_rfl) (by kernel_rfl) (by kernel_rfl) (fun _ _ _ h => h) (Or.inl ⟨by rfl, fun w hSw => exec_load_fr f rfl rfl hSw.1⟩) (by assumption) ?_
  (try simp only [Act.put, List.getElem_toArray, List.getElem_cons_zero, List.getElem_cons_succ, List.setIfInBounds_toArray, List.set_cons_zero, List.set_cons_succ])
  refine wpAnyH_take (i := 22) (v := .agg #[.int .u8 (g.d 0), .int .u8 (g.d 1), .int .u8 (g.d 2), .int .u8 (g.d 3), .int .u8 (g.d 4), .int .u8 (g.d 5), .int .u8 (g.s 0), .int .u8 (g.s 1), .int .u8 (g.s 2), .int .u8 (g.s 3), .int .u8 (g.s 4), .int .u8 (g.s 5), .slice g.ta g.tl.length g.tc, .int .i64 g.k, .int .i64 g.t, .int .i64 g.da, .int .i64 g.sa, .int .i64 g.ct, .int .i64 g.ou, .int .i64 g.pi, .string g.bo]) rfl (by kernel_rfl) (by kernel_rfl) (by kernel_rfl) (fun _ _ _ h => h) (Or.inl ⟨by rfl, fun w hSw => exec_load_fr g rfl rfl hSw.2.1⟩) (by assumption) ?_
  (try simp only [Act.put, List.getElem_toArray, List.getElem_cons_zero, List.getElem_cons_succ, List.setIfInBounds_toArray, List.set_cons_zero, List.set_cons_succ])
  refine wpAnyH_ready (rs := [21]) (by kernel_rfl) (by simp) ?_
  refine AllReadyH.cons rfl (fun K hK => ?_) AllReadyH.nil
  simp only [List.getElem_toArray, List.getElem_cons_zero, List.getElem_cons_succ]
  go_simp
  go_at_call 47; (with_reducible refine (HF.out _).mono ?_); rintro e w3 ⟨rfl, k3⟩; have hF3 : HasF w3 _ f := HasF.below hF2 k3 hF2.lt; have hG3 : HasF w3 _ g := HasF.below hG2 k3 hG2.lt; have S3 : HasF w3 w.heap.size f ∧ HasF w3 (w.heap.size + 1) g ∧ w3.cell? ⟨w.heap.size, 0, none⟩ = some (.int .u8 (f.d 0)) ∧ w3.cell? ⟨w.heap.size, 1, none⟩ = some (.int .u8 (f.d 1)) ∧ w3.cell? ⟨w.heap.size, 2, none⟩ = some (.int .u8 (f.d 2)) ∧ w3.cell? ⟨w.heap.size, 3, none⟩ = some (.int .u8 (f.d 3)) ∧ w3.cell? ⟨w.heap.size, 4, none⟩ = some (.int .u8 (f.d 4)) ∧ w3.cell? ⟨w.heap.size, 5, none⟩ = some (.int .u8 (f.d 5)) ∧ w3.cell? ⟨w.heap.size, 6, none⟩ = some (.int .u8 (f.s 0)) ∧ w3.cell? ⟨w.heap.size, 7, none⟩ = some (.int .u8 (f.s 1)) ∧ w3.cell? ⟨w.heap.size, 8, none⟩ = some (.int .u8 (f.s 2)) ∧ w3.cell? ⟨w.heap.size, 9, none⟩ = some (.int .u8 (f.s 3)) ∧ w3.cell? ⟨w.heap.size, 10, none⟩ = some (.int .u8 (f.s 4)) ∧ w3.cell? ⟨w.heap.size, 11, none⟩ = some (.int .u8 (f.s 5)) ∧ w3.cell? ⟨w.heap.size, 12, none⟩ = some (.slice f.ta f.tl.length f.tc) ∧ w3.cell? ⟨w.heap.size, 20, none⟩ = some (.string f.bo) ∧ w3.cell? ⟨w.heap.size + 1, 0, none⟩ = some (.int .u8 (g.d 0)) ∧ w3.cell? ⟨w.heap.size + 1, 1, none⟩ = some (.int .u8 (g.d 1)) ∧ w3.cell? ⟨w.heap.size + 1, 2, none⟩ = some (.int .u8 (g.d 2)) ∧ w3.cell? ⟨w.heap.size + 1, 3, none⟩ = some (.int .u8 (g.d 3)) ∧ w3.cell? ⟨w.heap.size + 1, 4, none⟩ = some (.int .u8 (g.d 4)) ∧ w3.cell? ⟨w.heap.size + 1, 5, none⟩ = some (.int .u8 (g.d 5)) ∧ w3.cell? ⟨w.heap.size + 1, 6, none⟩ = some (.int .u8 (g.s 0)) ∧ w3.cell? ⟨w.heap.size + 1, 7, none⟩ = some (.int .u8 (g.s 1)) ∧ w3.cell? ⟨w.heap.size + 1, 8, none⟩ = some (.int .u8 (g.s 2)) ∧ w3.cell? ⟨w.heap.size + 1, 9, none⟩ = some (.int .u8 (g.s 3)) ∧ w3.cell? ⟨w.heap.size + 1, 10, none⟩ = some (.int .u8 (g.s 4)) ∧ w3.cell? ⟨w.heap.size + 1, 11, none⟩ = some (.int .u8 (g.s 5)) ∧ w3.cell? ⟨w.heap.size + 1, 12, none⟩ = some (.slice g.ta g.tl.length g.tc) ∧ w3.cell? ⟨w.heap.size + 1, 20, none⟩ = some (.string g.bo) := ⟨hF3, hG3, (hF3.c 0).trans rfl, (hF3.c 1).trans rfl, (hF3.c 2).trans rfl, (hF3.c 3).trans rfl, (hF3.c 4).trans rfl, (hF3.c 5).trans rfl, (hF3.c 6).trans rfl, (hF3.c 7).trans rfl, (hF3.c 8).trans rfl, (hF3.c 9).trans rfl, (hF3.c 10).trans rfl, (hF3.c 11).trans rfl, (hF3.c 12).trans rfl, (hF3.c 20).trans rfl, (hG3.c 0).trans rfl, (hG3.c 1).trans rfl, (hG3.c 2).trans rfl, (hG3.c 3).trans rfl, (hG3.c 4).trans rfl, (hG3.c 5).trans rfl, (hG3.c 6).trans rfl, (hG3.c 7).trans rfl, (hG3.c 8).trans rfl, (hG3.c 9).trans rfl, (hG3.c 10).trans rfl, (hG3.c 11).trans rfl, (hG3.c 12).trans rfl, (hG3.c 20).trans rfl⟩
  refine hK.out _ _ ?_ (fun hHeld => ?_)
  · exact S3
  clear hK K
  (try simp only [Act.put, List.getElem_toArray, List.getElem_cons_zero, List.getElem_cons_succ, List.setIfInBounds_toArray, List.set_cons_zero, List.set_cons_succ])
  refine wpAnyH_ready (rs := [23]) (by kernel_rfl) (by simp) ?_
  refine AllReadyH.cons rfl (fun K hK => ?_) AllReadyH.nil
  simp only [List.getElem_toArray, List.getElem_cons_zero, List.getElem_cons_succ]
  go_simp
  go_at_call 47; (with_reducible refine (HG.out _).mono ?_); rintro e w4 ⟨rfl, k4⟩; have hF4 : HasF w4 _ f := HasF.below hF3 k4 hF3.lt; have hG4 : HasF w4 _ g := HasF.below hG3 k4 hG3.lt; have S4 : HasF w4 w.heap.size f ∧ HasF w4 (w.heap.size + 1) g ∧ w4.cell? ⟨w.heap.size, 0, none⟩ = some (.int .u8 (f.d 0)) ∧ w4.cell? ⟨w.heap.size, 1, none⟩ = some (.int .u8 (f.d 1)) ∧ w4.cell? ⟨w.heap.size, 2, none⟩ = some (.int .u8 (f.d 2)) ∧ w4.cell? ⟨w.heap.size, 3, none⟩ = some (.int .u8 (f.d 3)) ∧ w4.cell? ⟨w.heap.size, 4, none⟩ = some (.int .u8 (f.d 4)) ∧ w4.cell? ⟨w.heap.size, 5, none⟩ = some (.int .u8 (f.d 5)) ∧ w4.cell? ⟨w.heap.size, 6, none⟩ = some (.int .u8 (f.s 0)) ∧ w4.cell? ⟨w.heap.size, 7, none⟩ = some (.int .u8 (f.s 1)) ∧ w4.cell? ⟨w.heap.size, 8, none⟩ = some (.int .u8 (f.s 2)) ∧ w4.cell? ⟨w.heap.size, 9, none⟩ = some (.int .u8 (f.s 3)) ∧ w4.cell? ⟨w.heap.size, 10, none⟩ = some (.int .u8 (f.s 4)) ∧ w4.cell? ⟨w.heap.size, 11, none⟩ = some (.int .u8 (f.s 5)) ∧ w4.cell? ⟨w.heap.size, 12, none⟩ = some (.slice f.ta f.tl.length f.tc) ∧ w4.cell? ⟨w.heap.size, 20, none⟩ = some (.string f.bo) ∧ w4.cell? ⟨w.heap.size + 1, 0, none⟩ = some (.int .u8 (g.d 0)) ∧ w4.cell? ⟨w.heap.size + 1, 1, none⟩ = some (.int .u8 (g.d 1)) ∧ w4.cell? ⟨w.heap.size + 1, 2, none⟩ = some (.int .u8 (g.d 2)) ∧ w4.cell? ⟨w.heap.size + 1, 3, none⟩ = some (.int .u8 (g.d 3)) ∧ w4.cell? ⟨w.heap.size + 1, 4, none⟩ = some (.int .u8 (g.d 4)) ∧ w4.cell? ⟨w.heap.size + 1, 5, none⟩ = some (.int .u8 (g.d 5)) ∧ w4.cell? ⟨w.heap.size + 1, 6, none⟩ = some (.int .u8 (g.s 0)) ∧ w4.cell? ⟨w.heap.size + 1, 7, none⟩ = some (.int .u8 (g.s 1)) ∧ w4.cell? ⟨w.heap.size + 1, 8, none⟩ = some (.int .u8 (g.s 2)) ∧ w4.cell? ⟨w.heap.size + 1, 9, none⟩ = some (.int .u8 (g.s 3)) ∧ w4.cell? ⟨w.heap.size + 1, 10, none⟩ = some (.int .u8 (g.s 4)) ∧ w4.cell? ⟨w.heap.size + 1, 11, none⟩ = some (.int .u8 (g.s 5)) ∧ w4.cell? ⟨w.heap.size + 1, 12, none⟩ = some (.slice g.ta g.tl.length g.tc) ∧ w4.cell? ⟨w.heap.size + 1, 20, none⟩ = some (.string g.bo) := ⟨hF4, hG4, (hF4.c 0).trans rfl, (hF4.c 1).trans rfl, (hF4.c 2).trans rfl, (hF4.c 3).trans rfl, (hF4.c 4).trans rfl, (hF4.c 5).trans rfl, (hF4.c 6).trans rfl, (hF4.c 7).trans rfl, (hF4.c 8).trans rfl, (hF4.c 9).trans rfl, (hF4.c 10).trans rfl, (hF4.c 11).trans rfl, (hF4.c 12).trans rfl, (hF4.c 20).trans rfl, (hG4.c 0).trans rfl, (hG4.c 1).trans rfl, (hG4.c 2).trans rfl, (hG4.c 3).trans rfl, (hG4.c 4).trans rfl, (hG4.c 5).trans rfl, (hG4.c 6).trans rfl, (hG4.c 7).trans rfl, (hG4.c 8).trans rfl, (hG4.c 9).trans rfl, (hG4.c 10).trans rfl, (hG4.c 11).trans rfl, (hG4.c 12).trans rfl, (hG4.c 20).trans rfl⟩
  refine hK.out _ _ ?_ (fun hHeld => ?_)
  · exact S4
  clear hK K
  (try simp only [Act.put, List.getElem_toArray, List.getElem_cons_zero, List.getElem_cons_succ, List.setIfInBounds_toArray, List.set_cons_zero, List.set_cons_succ])
  refine wpAnyH_take (i := 24) (v := ?_) rfl (by kernel_rfl) (by kernel_rfl) (by kernel_rfl) (fun _ _ _ h => h) (Or.inl ⟨by rfl, ?_⟩) (by assumption) ?_
  rotate_left
  · (intro w hSw; (try dsimp only at hSw); go_simp; (try with_reducible rfl))
  (try simp only [Act.put, List.getElem_toArray, List.getElem_cons_zero, List.getElem_cons_succ, List.setIfInBounds_toArray, List.set_cons_zero, List.set_cons_succ])
  refine wpAnyH_take (i := 25) (v := ?_) rfl (by kernel_rfl) (by kernel_rfl) (by kernel_rfl) (fun _ _ _ h => h) (Or.inl ⟨by rfl, ?_⟩) (by assumption) ?_
  rotate_left
  · (intro w hSw; (try dsimp only at hSw); go_simp; (try with_reducible rfl))
  (try simp only [Act.put, List.getElem_toArray, List.getElem_cons_zero, List.getElem_cons_succ, List.setIfInBounds_toArray, List.set_cons_zero, List.set_cons_succ])
  refine wpAnyH_take (i := 26) (v := ?_) rfl (by kernel_rfl) (by kernel_rfl) (by kernel_rfl) (fun _ _ _ h => h) (Or.inl ⟨by rfl, ?_⟩) (by assumption) ?_
  rotate_left
  · (intro w hSw; (try dsimp only at hSw); go_simp; (try with_reducible rfl))
  (try simp only [Act.put, List.getElem_toArray, List.getElem_cons_zero, List.getElem_cons_succ, List.setIfInBounds_toArray, List.set_cons_zero, List.set_cons_succ])
  refine wpAnyH_take (i := 27) (v := undef) rfl (by kernel_rfl) (by kernel_rfl) (by kernel_rfl) (fun _ _ _ h => h) (Or.inr ⟨by rfl, rfl⟩) (by assumption) ?_
  (try simp only [Act.put, List.getElem_toArray, List.getElem_cons_zero, List.getElem_cons_succ, List.setIfInBounds_toArray, List.set_cons_zero, List.set_cons_succ])
  refine wpAnyH_take (i := 28) (v := undef) rfl (by kernel_rfl) (by kernel_rfl) (by kernel_rfl) (fun _ _ _ h => h) (Or.inr ⟨by rfl, rfl⟩) (by assumption) ?_
  (try simp only [Act.put, List.getElem_toArray, List.getElem_cons_zero, List.getElem_cons_succ, List.setIfInBounds_toArray, List.set_cons_zero, List.set_cons_succ])
  refine wpAnyH_take (i := 29) (v := undef) rfl (by kernel_rfl) (by kernel_rfl) (by kernel_rfl) (fun _ _ _ h => h) (Or.inr ⟨by rfl, rfl⟩) (by assumption) ?_
  (try simp only [Act.put, List.getElem_toArray, List.getElem_cons_zero, List.getElem_cons_succ, List.setIfInBounds_toArray, List.set_cons_zero, List.set_cons_succ])
  refine wpAnyH_take (i := 30) (v := undef) rfl (by kernel_rfl) (by kernel_rfl) (by kernel_rfl) (fun _ _ _ h => h) (Or.inr ⟨by rfl, rfl⟩) (by assumption) ?_
  (try simp only [Act.put, List.getElem_toArray, List.getElem_cons_zero, List.getElem_cons_succ, List.setIfInBounds_toArray, List.set_cons_zero, List.set_cons_succ])
  refine wpAnyH_take (i := 31) (v := undef) rfl (by kernel_rfl) (by kernel_rfl) (by kernel_rfl) (fun _ _ _ h => h) (Or.inr ⟨by rfl, rfl⟩) (by assumption) ?_
  (try simp only [Act.put, List.getElem_toArray, List.getElem_cons_zero, List.getElem_cons_succ, List.setIfInBounds_toArray, List.set_cons_zero, List.set_cons_succ])
  refine wpAnyH_take (i := 32) (v := ?_) rfl (by kernel_rfl) (by kernel_rfl) (by kernel_rfl) (fun _ _ _ h => h) (Or.inl ⟨by rfl, ?_⟩) (by assumption) ?_
  rotate_left
  · (intro w hSw; (try dsimp only at hSw); go_simp; (try with_reducible rfl))
  (try simp only [Act.put, List.getElem_toArray, List.getElem_cons_zero, List.getElem_cons_succ, List.setIfInBounds_toArray, List.set_cons_zero, List.set_cons_succ])
  refine wpAnyH_take (i := 33) (v := ?_) rfl (by kernel_rfl) (by kernel_rfl) (by kernel_rfl) (fun _ _ _ h => h) (Or.inl ⟨by rfl, ?_⟩) (by assumption) ?_
  rotate_left
  · (intro w hSw; (try dsimp only at hSw); go_simp; (try with_reducible rfl))
  (try simp only [Act.put, List.getElem_toArray, List.getElem_cons_zero, List.getElem_cons_succ, List.setIfInBounds_toArray, List.set_cons_zero, List.set_cons_succ])
  refine wpAnyH_done (by kernel_rfl) ?_ _
  refine NoPanic.normal ?_
  have b2 : Below w.heap.size w w2 := hb0.drew.trans (k2.mono hb0.size)
  have b3 : Below w.heap.size w w3 := b2.trans (k3.mono b2.size)
  have b4 : Below w.heap.size w w4 := b3.trans (k4.mono b3.size)
  clear S1 hF0 hG0 hI0 hJ0 hHeld S2 k2 hF2 hG2 HE S3 k3 hF3 hG3 S4 k4 hF4 hG4 HF HG b2 b3
  go_wp2
  go_ret
  exact ⟨rfl, b4⟩

end Go.Proofs.Ytdceggekhhflgaa

namespace Go.Proofs.Ytdceggekhhflgaa
open Go.RowKit
attribute [local go_sem ↓] Go.wp_at_zero Go.wp_at_succ
set_option linter.unusedSimpArgs false
set_option linter.unusedVariables false

set_option maxHeartbeats 4000000 in
theorem same_4 (f g : Fr) (w : World) (hf : FrIn w f) (hg : FrIn w g) (h1 : eq6 f.d g.d = true) (h2 : eq6 f.s g.s = true) (h3 : tagsEq f.tl g.tl = true) (h4 : same7 f g = true) (h5 : (f.bo.toList == g.bo.toList) = false) :
    Calls Try.prog 25 #[frV f, frV g] w fun e w' => e = .returned (.bool false) ∧ Below w.heap.size w w' := by
  obtain ⟨hF0, hG0, hb0⟩ := both_boxed w f g
  have hI0 := hf.below hb0
  have hJ0 := hg.below hb0
  have e1 : ∀ W, (Op.equalIn 10000 33 (.agg #[.int .u8 (f.d 0), .int .u8 (f.d 1), .int .u8 (f.d 2), .int .u8 (f.d 3), .int .u8 (f.d 4), .int .u8 (f.d 5)]) (.agg #[.int .u8 (g.d 0), .int .u8 (g.d 1), .int .u8 (g.d 2), .int .u8 (g.d 3), .int .u8 (g.d 4), .int .u8 (g.d 5)])).run Try.prog W = .ok true W := fun W => by have h := run_eql_six f.d g.d W; rw [h1] at h; exact h
  have e2 : ∀ W, (Op.equalIn 10000 33 (.agg #[.int .u8 (f.s 0), .int .u8 (f.s 1), .int .u8 (f.s 2), .int .u8 (f.s 3), .int .u8 (f.s 4), .int .u8 (f.s 5)]) (.agg #[.int .u8 (g.s 0), .int .u8 (g.s 1), .int .u8 (g.s 2), .int .u8 (g.s 3), .int .u8 (g.s 4), .int .u8 (g.s 5)])).run Try.prog W = .ok true W := fun W => by have h := run_eql_six f.s g.s W; rw [h2] at h; exact h
  have HE : Hid (∀ W, TagsIn W f.ta f.tl → TagsIn W g.ta g.tl → Calls Try.prog 46 #[.slice f.ta f.tl.length f.tc, .slice g.ta g.tl.length g.tc] W fun e w' => e = .returned (.bool true) ∧ Below W.heap.size W w') := fun W x y => by have h := equal_any f.ta g.ta f.tc g.tc f.tl g.tl W x y hf.few; rw [h3] at h; exact h
  clear h3
  have HF := Lib.hid (numbers_any f)
  have HG := Lib.hid (numbers_any g)
  have e7 : ∀ W, (Op.equalIn 10000 83 (.agg #[.int .i64 f.k, .int .i64 f.t, .int .i64 f.da, .int .i64 f.sa, .int .i64 f.ct, .int .i64 f.ou, .int .i64 f.pi]) (.agg #[.int .i64 g.k, .int .i64 g.t, .int .i64 g.da, .int .i64 g.sa, .int .i64 g.ct, .int .i64 g.ou, .int .i64 g.pi])).run Try.prog W = .ok true W := fun W => by have h := run_eql_seven f g W; rw [h4] at h; exact h
  clear h4
  clear h1 h2 hf hg
  unfold frV frC at *
  go_enter Try.func25, Try.ntmps25
  go_wp2
  generalize (w.alloc (.cells #[.int .u8 (f.d 0), .int .u8 (f.d 1), .int .u8 (f.d 2), .int .u8 (f.d 3), .int .u8 (f.d 4), .int .u8 (f.d 5), .int .u8 (f.s 0), .int .u8 (f.s 1), .int .u8 (f.s 2), .int .u8 (f.s 3), .int .u8 (f.s 4), .int .u8 (f.s 5), .slice f.ta f.tl.length f.tc, .int .i64 f.k, .int .i64 f.t, .int .i64 f.da, .int .i64 f.sa, .int .i64 f.ct, .int .i64 f.ou, .int .i64 f.pi, .string f.bo] 36)).alloc (.cells #[.int .u8 (g.d 0), .int .u8 (g.d 1), .int .u8 (g.d 2), .int .u8 (g.d 3), .int .u8 (g.d 4), .int .u8 (g.d 5), .int .u8 (g.s 0), .int .u8 (g.s 1), .int .u8 (g.s 2), .int .u8 (g.s 3), .int .u8 (g.s 4), .int .u8 (g.s 5), .slice g.ta g.tl.length g.tc, .int .i64 g.k, .int .i64 g.t, .int .i64 g.da, .int .i64 g.sa, .int .i64 g.ct, .int .i64 g.ou, .int .i64 g.pi, .string g.bo] 36) = w1 at *
  have S1 : HasF w1 w.heap.size f ∧ HasF w1 (w.heap.size + 1) g ∧ w1.cell? ⟨w.heap.size, 0, none⟩ = some (.int .u8 (f.d 0)) ∧ w1.cell? ⟨w.heap.size, 1, none⟩ = some (.int .u8 (f.d 1)) ∧ w1.cell? ⟨w.heap.size, 2, none⟩ = some (.int .u8 (f.d 2)) ∧ w1.cell? ⟨w.heap.size, 3, none⟩ = some (.int .u8 (f.d 3)) ∧ w1.cell? ⟨w.heap.size, 4, none⟩ = some (.int .u8 (f.d 4)) ∧ w1.cell? ⟨w.heap.size, 5, none⟩ = some (.int .u8 (f.d 5)) ∧ w1.cell? ⟨w.heap.size, 6, none⟩ = some (.int .u8 (f.s 0)) ∧ w1.cell? ⟨w.heap.size, 7, none⟩ = some (.int .u8 (f.s 1)) ∧ w1.cell? ⟨w.heap.size, 8, none⟩ = some (.int .u8 (f.s 2)) ∧ w1.cell? ⟨w.heap.size, 9, none⟩ = some (.int .u8 (f.s 3)) ∧ w1.cell? ⟨w.heap.size, 10, none⟩ = some (.int .u8 (f.s 4)) ∧ w1.cell? ⟨w.heap.size, 11, none⟩ = some (.int .u8 (f.s 5)) ∧ w1.cell? ⟨w.heap.size, 12, none⟩ = some (.slice f.ta f.tl.length f.tc) ∧ w1.cell? ⟨w.heap.size, 20, none⟩ = some (.string f.bo) ∧ w1.cell? ⟨w.heap.size + 1, 0, none⟩ = some (.int .u8 (g.d 0)) ∧ w1.cell? ⟨w.heap.size + 1, 1, none⟩ = some (.int .u8 (g.d 1)) ∧ w1.cell? ⟨w.heap.size + 1, 2, none⟩ = some (.int .u8 (g.d 2)) ∧ w1.cell? ⟨w.heap.size + 1, 3, none⟩ = some (.int .u8 (g.d 3)) ∧ w1.cell? ⟨w.heap.size + 1, 4, none⟩ = some (.int .u8 (g.d 4)) ∧ w1.cell? ⟨w.heap.size + 1, 5, none⟩ = some (.int .u8 (g.d 5)) ∧ w1.cell? ⟨w.heap.size + 1, 6, none⟩ = some (.int .u8 (g.s 0)) ∧ w1.cell? ⟨w.heap.size + 1, 7, none⟩ = some (.int .u8 (g.s 1)) ∧ w1.cell? ⟨w.heap.size + 1, 8, none⟩ = some (.int .u8 (g.s 2)) ∧ w1.cell? ⟨w.heap.size + 1, 9, none⟩ = some (.int .u8 (g.s 3)) ∧ w1.cell? ⟨w.heap.size + 1, 10, none⟩ = some (.int .u8 (g.s 4)) ∧ w1.cell? ⟨w.heap.size + 1, 11, none⟩ = some (.int .u8 (g.s 5)) ∧ w1.cell? ⟨w.heap.size + 1, 12, none⟩ = some (.slice g.ta g.tl.length g.tc) ∧ w1.cell? ⟨w.heap.size + 1, 20, none⟩ = some (.string g.bo) := ⟨hF0, hG0, (hF0.c 0).trans rfl, (hF0.c 1).trans rfl, (hF0.c 2).trans rfl, (hF0.c 3).trans rfl, (hF0.c 4).trans rfl, (hF0.c 5).trans rfl, (hF0.c 6).trans rfl, (hF0.c 7).trans rfl, (hF0.c 8).trans rfl, (hF0.c 9).trans rfl, (hF0.c 10).trans rfl, (hF0.c 11).trans rfl, (hF0.c 12).trans rfl, (hF0.c 20).trans rfl, (hG0.c 0).trans rfl, (hG0.c 1).trans rfl, (hG0.c 2).trans rfl, (hG0.c 3).trans rfl, (hG0.c 4).trans rfl, (hG0.c 5).trans rfl, (hG0.c 6).trans rfl, (hG0.c 7).trans rfl, (hG0.c 8).trans rfl, (hG0.c 9).trans rfl, (hG0.c 10).trans rfl, (hG0.c 11).trans rfl, (hG0.c 12).trans rfl, (hG0.c 20).trans rfl⟩
  refine wp_region_noPanic ?_
  refine wp_region_held_drew (S := (fun w' => HasF w' w.heap.size f ∧ HasF w' (w.heap.size + 1) g ∧ w'.cell? ⟨w.heap.size, 0, none⟩ = some (.int .u8 (f.d 0)) ∧ w'.cell? ⟨w.heap.size, 1, none⟩ = some (.int .u8 (f.d 1)) ∧ w'.cell? ⟨w.heap.size, 2, none⟩ = some (.int .u8 (f.d 2)) ∧ w'.cell? ⟨w.heap.size, 3, none⟩ = some (.int .u8 (f.d 3)) ∧ w'.cell? ⟨w.heap.size, 4, none⟩ = some (.int .u8 (f.d 4)) ∧ w'.cell? ⟨w.heap.size, 5, none⟩ = some (.int .u8 (f.d 5)) ∧ w'.cell? ⟨w.heap.size, 6, none⟩ = some (.int .u8 (f.s 0)) ∧ w'.cell? ⟨w.heap.size, 7, none⟩ = some (.int .u8 (f.s 1)) ∧ w'.cell? ⟨w.heap.size, 8, none⟩ = some (.int .u8 (f.s 2)) ∧ w'.cell? ⟨w.heap.size, 9, none⟩ = some (.int .u8 (f.s 3)) ∧ w'.cell? ⟨w.heap.size, 10, none⟩ = some (.int .u8 (f.s 4)) ∧ w'.cell? ⟨w.heap.size, 11, none⟩ = some (.int .u8 (f.s 5)) ∧ w'.cell? ⟨w.heap.size, 12, none⟩ = some (.slice f.ta f.tl.length f.tc) ∧ w'.cell? ⟨w.heap.size, 20, none⟩ = some (.string f.bo) ∧ w'.cell? ⟨w.heap.size + 1, 0, none⟩ = some (.int .u8 (g.d 0)) ∧ w'.cell? ⟨w.heap.size + 1, 1, none⟩ = some (.int .u8 (g.d 1)) ∧ w'.cell? ⟨w.heap.size + 1, 2, none⟩ = some (.int .u8 (g.d 2)) ∧ w'.cell? ⟨w.heap.size + 1, 3, none⟩ = some (.int .u8 (g.d 3)) ∧ w'.cell? ⟨w.heap.size + 1, 4, none⟩ = some (.int .u8 (g.d 4)) ∧ w'.cell? ⟨w.heap.size + 1, 5, none⟩ = some (.int .u8 (g.d 5)) ∧ w'.cell? ⟨w.heap.size + 1, 6, none⟩ = some (.int .u8 (g.s 0)) ∧ w'.cell? ⟨w.heap.size + 1, 7, none⟩ = some (.int .u8 (g.s 1)) ∧ w'.cell? ⟨w.heap.size + 1, 8, none⟩ = some (.int .u8 (g.s 2)) ∧ w'.cell? ⟨w.heap.size + 1, 9, none⟩ = some (.int .u8 (g.s 3)) ∧ w'.cell? ⟨w.heap.size + 1, 10, none⟩ = some (.int .u8 (g.s 4)) ∧ w'.cell? ⟨w.heap.size + 1, 11, none⟩ = some (.int .u8 (g.s 5)) ∧ w'.cell? ⟨w.heap.size + 1, 12, none⟩ = some (.slice g.ta g.tl.length g.tc) ∧ w'.cell? ⟨w.heap.size + 1, 20, none⟩ = some (.string g.bo))) (by kernel_rfl) ?_ (fun hHeld => ?_)
  · exact S1
  refine wpAnyH_take (i := 0) (v := ?_) rfl (by kernel_rfl) (by kernel_rfl) (by kernel_rfl) (fun _ _ _ h => h) (Or.inl ⟨by rfl, ?_⟩) (by assumption) ?_
  rotate_left
  · (intro w hSw; (try dsimp only at hSw); go_simp; (try with_reducible rfl))
  (try simp only [Act.put, List.getElem_toArray, List.getElem_cons_zero, List.getElem_cons_succ, List.setIfInBounds_toArray, List.set_cons_zero, List.set_cons_succ])
  refine wpAnyH_take (i := 1) (v := ?_) rfl (by kernel_rfl) (by kernel_rfl) (by kernel_rfl) (fun _ _ _ h => h) (Or.inl ⟨by rfl, ?_⟩) (by assumption) ?_
  rotate_left
  · (intro w hSw; (try dsimp only at hSw); go_simp; (try with_reducible rfl))
  (try simp only [Act.put, List.getElem_toArray, List.getElem_cons_zero, List.getElem_cons_succ, List.setIfInBounds_toArray, List.set_cons_zero, List.set_cons_succ])
  refine wpAnyH_take (i := 2) (v := ?_) rfl (by kernel_rfl) (by kernel_rfl) (by kernel_rfl) (fun _ _ _ h => h) (Or.inl ⟨by rfl, ?_⟩) (by assumption) ?_
  rotate_left
  · (intro w hSw; (try dsimp only at hSw); go_simp; (try with_reducible rfl))
  (try simp only [Act.put, List.getElem_toArray, List.getElem_cons_zero, List.getElem_cons_succ, List.setIfInBounds_toArray, List.set_cons_zero, List.set_cons_succ])
  refine wpAnyH_take (i := 3) (v := ?_) rfl (by kernel_rfl) (by kernel_rfl) (by kernel_rfl) (fun _ _ _ h => h) (Or.inl ⟨by rfl, ?_⟩) (by assumption) ?_
  rotate_left
  · (intro w hSw; (try dsimp only at hSw); go_simp; (try with_reducible rfl))
  (try simp only [Act.put, List.getElem_toArray, List.getElem_cons_zero, List.getElem_cons_succ, List.setIfInBounds_toArray, List.set_cons_zero, List.set_cons_succ])
  refine wpAnyH_take (i := 4) (v := ?_) rfl (by kernel_rfl) (by kernel_rfl) (by kernel_rfl) (fun _ _ _ h => h) (Or.inl ⟨by rfl, ?_⟩) (by assumption) ?_
  rotate_left
  · (intro w hSw; (try dsimp only at hSw); go_simp; (try with_reducible rfl))
  (try simp only [Act.put, List.getElem_toArray, List.getElem_cons_zero, List.getElem_cons_succ, List.setIfInBounds_toArray, List.set_cons_zero, List.set_cons_succ])
  refine wpAnyH_take (i := 5) (v := ?_) rfl (by kernel_rfl) (by kernel_rfl) (by kernel_rfl) (fun _ _ _ h => h) (Or.inl ⟨by rfl, ?_⟩) (by assumption) ?_
  rotate_left
  · (intro w hSw; (try dsimp only at hSw); go_simp; (try with_reducible rfl))
  (try simp only [Act.put, List.getElem_toArray, List.getElem_cons_zero, List.getElem_cons_succ, List.setIfInBounds_toArray, List.set_cons_zero, List.set_cons_succ])
  refine wpAnyH_take (i := 6) (v := ?_) rfl (by kernel_rfl) (by kernel_rfl) (by kernel_rfl) (fun _ _ _ h => h) (Or.inl ⟨by rfl, ?_⟩) (by assumption) ?_
  rotate_left
  · (intro w hSw; (try dsimp only at hSw); go_simp; (try with_reducible rfl))
  (try simp only [Act.put, List.getElem_toArray, List.getElem_cons_zero, List.getElem_cons_succ, List.setIfInBounds_toArray, List.set_cons_zero, List.set_cons_succ])
  refine wpAnyH_take (i := 7) (v := ?_) rfl (by kernel_rfl) (by kernel_rfl) (by kernel_rfl) (fun _ _ _ h => h) (Or.inl ⟨by rfl, ?_⟩) (by assumption) ?_
  rotate_left
  · (intro w hSw; (try dsimp only at hSw); go_simp; (try with_reducible rfl))
  (try simp only [Act.put, List.getElem_toArray, List.getElem_cons_zero, List.getElem_cons_succ, List.setIfInBounds_toArray, List.set_cons_zero, List.set_cons_succ])
  refine wpAnyH_take (i := 8) (v := ?_) rfl (by kernel_rfl) (by kernel_rfl) (by kernel_rfl) (fun _ _ _ h => h) (Or.inl ⟨by rfl, ?_⟩) (by assumption) ?_
  rotate_left
  · (intro w hSw; (try dsimp only at hSw); go_simp; (try with_reducible rfl))
  (try simp only [Act.put, List.getElem_toArray, List.getElem_cons_zero, List.getElem_cons_succ, List.setIfInBounds_toArray, List.set_cons_zero, List.set_cons_succ])
  refine wpAnyH_take (i := 9) (v := ?_) rfl (by kernel_rfl) (by kernel_rfl) (by kernel_rfl) (fun _ _ _ h => h) (Or.inl ⟨by rfl, ?_⟩) (by assumption) ?_
  rotate_left
  · (intro w hSw; (try dsimp only at hSw); go_simp; (try with_reducible rfl))
  (try simp only [Act.put, List.getElem_toArray, List.getElem_cons_zero, List.getElem_cons_succ, List.setIfInBounds_toArray, List.set_cons_zero, List.set_cons_succ])
  refine wpAnyH_take (i := 10) (v := ?_) rfl (by kernel_rfl) (by kernel_rfl) (by kernel_rfl) (fun _ _ _ h => h) (Or.inl ⟨by rfl, ?_⟩) (by assumption) ?_
  rotate_left
  · (intro w hSw; (try dsimp only at hSw); go_simp; (try with_reducible rfl))
  (try simp only [Act.put, List.getElem_toArray, List.getElem_cons_zero, List.getElem_cons_succ, List.setIfInBounds_toArray, List.set_cons_zero, List.set_cons_succ])
  refine wpAnyH_take (i := 11) (v := ?_) rfl (by kernel_rfl) (by kernel_rfl) (by kernel_rfl) (fun _ _ _ h => h) (Or.inl ⟨by rfl, ?_⟩) (by assumption) ?_
  rotate_left
  · (intro w hSw; (try dsimp only at hSw); go_simp; (try with_reducible rfl))
  (try simp only [Act.put, List.getElem_toArray, List.getElem_cons_zero, List.getElem_cons_succ, List.setIfInBounds_toArray, List.set_cons_zero, List.set_cons_succ])
  refine wpAnyH_take (i := 12) (v := ?_) rfl (by kernel_rfl) (by kernel_rfl) (by kernel_rfl) (fun _ _ _ h => h) (Or.inl ⟨by rfl, ?_⟩) (by assumption) ?_
  rotate_left
  · (intro w hSw; (try dsimp only at hSw); go_simp; (try with_reducible rfl))
  (try simp only [Act.put, List.getElem_toArray, List.getElem_cons_zero, List.getElem_cons_succ, List.setIfInBounds_toArray, List.set_cons_zero, List.set_cons_succ])
  refine wpAnyH_take (i := 13) (v := ?_) rfl (by kernel_rfl) (by kernel_rfl) (by kernel_rfl) (fun _ _ _ h => h) (Or.inl ⟨by rfl, ?_⟩) (by assumption) ?_
  rotate_left
  · (intro w hSw; (try dsimp only at hSw); go_simp; (try with_reducible rfl))
  (try simp only [Act.put, List.getElem_toArray, List.getElem_cons_zero, List.getElem_cons_succ, List.setIfInBounds_toArray, List.set_cons_zero, List.set_cons_succ])
  refine wpAnyH_take (i := 14) (v := ?_) rfl (by kernel_rfl) (by kernel_rfl) (by kernel_rfl) (fun _ _ _ h => h) (Or.inl ⟨by rfl, ?_⟩) (by assumption) ?_
  rotate_left
  · (intro w hSw; (try dsimp only at hSw); go_simp; (try with_reducible rfl))
  (try simp only [Act.put, List.getElem_toArray, List.getElem_cons_zero, List.getElem_cons_succ, List.setIfInBounds_toArray, List.set_cons_zero, List.set_cons_succ])
  refine wpAnyH_take (i := 15) (v := ?_) rfl (by kernel_rfl) (by kernel_rfl) (by kernel_rfl) (fun _ _ _ h => h) (Or.inl ⟨by rfl, ?_⟩) (by assumption) ?_
  rotate_left
  · (intro w hSw; (try dsimp only at hSw); go_simp; (try with_reducible rfl))
  (try simp only [Act.put, List.getElem_toArray, List.getElem_cons_zero, List.getElem_cons_succ, List.setIfInBounds_toArray, List.set_cons_zero, List.set_cons_succ])
  refine wpAnyH_take (i := 16) (v := ?_) rfl (by kernel_rfl) (by kernel_rfl) (by kernel_rfl) (fun _ _ _ h => h) (Or.inl ⟨by rfl, ?_⟩) (by assumption) ?_
  rotate_left
  · (intro w hSw; (try dsimp only at hSw); go_simp; (try with_reducible rfl))
  (try simp only [Act.put, List.getElem_toArray, List.getElem_cons_zero, List.getElem_cons_succ, List.setIfInBounds_toArray, List.set_cons_zero, List.set_cons_succ])
  refine wpAnyH_ready (rs := [17]) (by kernel_rfl) (by simp) ?_
  refine AllReadyH.cons rfl (fun K hK => ?_) AllReadyH.nil
  simp only [List.getElem_toArray, List.getElem_cons_zero, List.getElem_cons_succ]
  go_simp
  go_at_call 46; (with_reducible refine (HE.out _ ?_ ?_).mono ?_); (exact hI0.tags); (exact hJ0.tags); rintro e w2 ⟨rfl, k2⟩; have hF2 : HasF w2 _ f := HasF.below hF0.drew k2 hF0.lt; have hG2 : HasF w2 _ g := HasF.below hG0.drew k2 hG0.lt; have S2 : HasF w2 w.heap.size f ∧ HasF w2 (w.heap.size + 1) g ∧ w2.cell? ⟨w.heap.size, 0, none⟩ = some (.int .u8 (f.d 0)) ∧ w2.cell? ⟨w.heap.size, 1, none⟩ = some (.int .u8 (f.d 1)) ∧ w2.cell? ⟨w.heap.size, 2, none⟩ = some (.int .u8 (f.d 2)) ∧ w2.cell? ⟨w.heap.size, 3, none⟩ = some (.int .u8 (f.d 3)) ∧ w2.cell? ⟨w.heap.size, 4, none⟩ = some (.int .u8 (f.d 4)) ∧ w2.cell? ⟨w.heap.size, 5, none⟩ = some (.int .u8 (f.d 5)) ∧ w2.cell? ⟨w.heap.size, 6, none⟩ = some (.int .u8 (f.s 0)) ∧ w2.cell? ⟨w.heap.size, 7, none⟩ = some (.int .u8 (f.s 1)) ∧ w2.cell? ⟨w.heap.size, 8, none⟩ = some (.int .u8 (f.s 2)) ∧ w2.cell? ⟨w.heap.size, 9, none⟩ = some (.int .u8 (f.s 3)) ∧ w2.cell? ⟨w.heap.size, 10, none⟩ = some (.int .u8 (f.s 4)) ∧ w2.cell? ⟨w.heap.size, 11, none⟩ = some (.int .u8 (f.s 5)) ∧ w2.cell? ⟨w.heap.size, 12, none⟩ = some (.slice f.ta f.tl.length f.tc) ∧ w2.cell? ⟨w.heap.size, 20, none⟩ = some (.string f.bo) ∧ w2.cell? ⟨w.heap.size + 1, 0, none⟩ = some (.int .u8 (g.d 0)) ∧ w2.cell? ⟨w.heap.size + 1, 1, none⟩ = some (.int .u8 (g.d 1)) ∧ w2.cell? ⟨w.heap.size + 1, 2, none⟩ = some (.int .u8 (g.d 2)) ∧ w2.cell? ⟨w.heap.size + 1, 3, none⟩ = some (.int .u8 (g.d 3)) ∧ w2.cell? ⟨w.heap.size + 1, 4, none⟩ = some (.int .u8 (g.d 4)) ∧ w2.cell? ⟨w.heap.size + 1, 5, none⟩ = some (.int .u8 (g.d 5)) ∧ w2.cell? ⟨w.heap.size + 1, 6, none⟩ = some (.int .u8 (g.s 0)) ∧ w2.cell? ⟨w.heap.size + 1, 7, none⟩ = some (.int .u8 (g.s 1)) ∧ w2.cell? ⟨w.heap.size + 1, 8, none⟩ = some (.int .u8 (g.s 2)) ∧ w2.cell? ⟨w.heap.size + 1, 9, none⟩ = some (.int .u8 (g.s 3)) ∧ w2.cell? ⟨w.heap.size + 1, 10, none⟩ = some (.int .u8 (g.s 4)) ∧ w2.cell? ⟨w.heap.size + 1, 11, none⟩ = some (.int .u8 (g.s 5)) ∧ w2.cell? ⟨w.heap.size + 1, 12, none⟩ = some (.slice g.ta g.tl.length g.tc) ∧ w2.cell? ⟨w.heap.size + 1, 20, none⟩ = some (.string g.bo) := ⟨hF2, hG2, (hF2.c 0).trans rfl, (hF2.c 1).trans rfl, (hF2.c 2).trans rfl, (hF2.c 3).trans rfl, (hF2.c 4).trans rfl, (hF2.c 5).trans rfl, (hF2.c 6).trans rfl, (hF2.c 7).trans rfl, (hF2.c 8).trans rfl, (hF2.c 9).trans rfl, (hF2.c 10).trans rfl, (hF2.c 11).trans rfl, (hF2.c 12).trans rfl, (hF2.c 20).trans rfl, (hG2.c 0).trans rfl, (hG2.c 1).trans rfl, (hG2.c 2).trans rfl, (hG2.c 3).trans rfl, (hG2.c 4).trans rfl, (hG2.c 5).trans rfl, (hG2.c 6).trans rfl, (hG2.c 7).trans rfl, (hG2.c 8).trans rfl, (hG2.c 9).trans rfl, (hG2.c 10).trans rfl, (hG2.c 11).trans rfl, (hG2.c 12).trans rfl, (hG2.c 20).trans rfl⟩
  refine hK.out _ _ ?_ (fun hHeld => ?_)
  · exact S2
  clear hK K
  (try simp only [Act.put, List.getElem_toArray, List.getElem_cons_zero, List.getElem_cons_succ, List.setIfInBounds_toArray, List.set_cons_zero, List.set_cons_succ])
  refine wpAnyH_take (i := 18) (v := ?_) rfl (by kernel_rfl) (by kernel_rfl) (by kernel_rfl) (fun _ _ _ h => h) (Or.inl ⟨by rfl, ?_⟩) (by assumption) ?_
  rotate_left
  · (intro w hSw; (try dsimp only at hSw); go_simp; (try with_reducible rfl))
  (try simp only [Act.put, List.getElem_toArray, List.getElem_cons_zero, List.getElem_cons_succ, List.setIfInBounds_toArray, List.set_cons_zero, List.set_cons_succ])
  refine wpAnyH_take (i := 19) (v := ?_) rfl (by kernel_rfl) (by kernel_rfl) (by kernel_rfl) (fun _ _ _ h => h) (Or.inl ⟨by rfl, ?_⟩) (by assumption) ?_
  rotate_left
  · (intro w hSw; (try dsimp only at hSw); go_simp; (try with_reducible rfl))
  (try simp only [Act.put, List.getElem_toArray, List.getElem_cons_zero, List.getElem_cons_succ, List.setIfInBounds_toArray, List.set_cons_zero, List.set_cons_succ])
  refine wpAnyH_take (i := 20) (v := .agg #[.int .u8 (f.d 0), .int .u8 (f.d 1), .int .u8 (f.d 2), .int .u8 (f.d 3), .int .u8 (f.d 4), .int .u8 (f.d 5), .int .u8 (f.s 0), .int .u8 (f.s 1), .int .u8 (f.s 2), .int .u8 (f.s 3), .int .u8 (f.s 4), .int .u8 (f.s 5), .slice f.ta f.tl.length f.tc, .int .i64 f.k, .int .i64 f.t, .int .i64 f.da, .int .i64 f.sa, .int .i64 f.ct, .int .i64 f.ou, .int .i64 f.pi, .string f.bo]) rfl (by kernel_rfl) (by kernel_rfl) (by kernel_rfl) (fun _ _ _ h => h) (Or.inl ⟨by rfl, fun w hSw => exec_load_fr f rfl rfl hSw.1⟩) (by assumption) ?_
  (try simp only [Act.put, List.getElem_toArray, List.getElem_cons_zero, List.getElem_cons_succ, List.setIfInBounds_toArray, List.set_cons_zero, List.set_cons_succ])
  refine wpAnyH_take (i := 22) (v := .agg #[.int .u8 (g.d 0), .int .u8 (g.d 1), .int .u8 (g.d 2), .int .u8 (g.d 3), .int .u8 (g.d 4), .int .u8 (g.d 5), .int .u8 (g.s 0), .int .u8 (g.s 1), .int .u8 (g.s 2), .int .u8 (g.s 3), .int .u8 (g.s 4), .int .u8 (g.s 5), .slice g.ta g.tl.length g.tc, .int .i64 g.k, .int .i64 g.t, .int .i64 g.da, .int .i64 g.sa, .int .i64 g.ct, .int .i64 g.ou, .int .i64 g.pi, .string g.bo]) rfl (by kernel_rfl) (by kernel_rfl) (by kernel_rfl) (fun _ _ _ h => h) (Or.inl ⟨by rfl, fun w hSw => exec_load_fr g rfl rfl hSw.2.1⟩) (by assumption) ?_
  (try simp only [Act.put, List.getElem_toArray, List.getElem_cons_zero, List.getElem_cons_succ, List.setIfInBounds_toArray, List.set_cons_zero, List.set_cons_succ])
  refine wpAnyH_ready (rs := [21]) (by kernel_rfl) (by simp) ?_
  refine AllReadyH.cons rfl (fun K hK => ?_) AllReadyH.nil
  simp only [List.getElem_toArray, List.getElem_cons_zero, List.getElem_cons_succ]
  go_simp
  go_at_call 47; (with_reducible refine (HF.out _).mono ?_); rintro e w3 ⟨rfl, k3⟩; have hF3 : HasF w3 _ f := HasF.below hF2 k3 hF2.lt; have hG3 : HasF w3 _ g := HasF.below hG2 k3 hG2.lt; have S3 : HasF w3 w.heap.size f ∧ HasF w3 (w.heap.size + 1) g ∧ w3.cell? ⟨w.heap.size, 0, none⟩ = some (.int .u8 (f.d 0)) ∧ w3.cell? ⟨w.heap.size, 1, none⟩ = some (.int .u8 (f.d 1)) ∧ w3.cell? ⟨w.heap.size, 2, none⟩ = some (.int .u8 (f.d 2)) ∧ w3.cell? ⟨w.heap.size, 3, none⟩ = some (.int .u8 (f.d 3)) ∧ w3.cell? ⟨w.heap.size, 4, none⟩ = some (.int .u8 (f.d 4)) ∧ w3.cell? ⟨w.heap.size, 5, none⟩ = some (.int .u8 (f.d 5)) ∧ w3.cell? ⟨w.heap.size, 6, none⟩ = some (.int .u8 (f.s 0)) ∧ w3.cell? ⟨w.heap.size, 7, none⟩ = some (.int .u8 (f.s 1)) ∧ w3.cell? ⟨w.heap.size, 8, none⟩ = some (.int .u8 (f.s 2)) ∧ w3.cell? ⟨w.heap.size, 9, none⟩ = some (.int .u8 (f.s 3)) ∧ w3.cell? ⟨w.heap.size, 10, none⟩ = some (.int .u8 (f.s 4)) ∧ w3.cell? ⟨w.heap.size, 11, none⟩ = some (.int .u8 (f.s 5)) ∧ w3.cell? ⟨w.heap.size, 12, none⟩ = some (.slice f.ta f.tl.length f.tc) ∧ w3.cell? ⟨w.heap.size, 20, none⟩ = some (.string f.bo) ∧ w3.cell? ⟨w.heap.size + 1, 0, none⟩ = some (.int .u8 (g.d 0)) ∧ w3.cell? ⟨w.heap.size + 1, 1, none⟩ = some (.int .u8 (g.d 1)) ∧ w3.cell? ⟨w.heap.size + 1, 2, none⟩ = some (.int .u8 (g.d 2)) ∧ w3.cell? ⟨w.heap.size + 1, 3, none⟩ = some (.int .u8 (g.d 3)) ∧ w3.cell? ⟨w.heap.size + 1, 4, none⟩ = some (.int .u8 (g.d 4)) ∧ w3.cell? ⟨w.heap.size + 1, 5, none⟩ = some (.int .u8 (g.d 5)) ∧ w3.cell? ⟨w.heap.size + 1, 6, none⟩ = some (.int .u8 (g.s 0)) ∧ w3.cell? ⟨w.heap.size + 1, 7, none⟩ = some (.int .u8 (g.s 1)) ∧ w3.cell? ⟨w.heap.size + 1, 8, none⟩ = some (.int .u8 (g.s 2)) ∧ w3.cell? ⟨w.heap.size + 1, 9, none⟩ = some (.int .u8 (g.s 3)) ∧ w3.cell? ⟨w.heap.size + 1, 10, none⟩ = some (.int .u8 (g.s 4)) ∧ w3.cell? ⟨w.heap.size + 1, 11, none⟩ = some (.int .u8 (g.s 5)) ∧ w3.cell? ⟨w.heap.size + 1, 12, none⟩ = some (.slice g.ta g.tl.length g.tc) ∧ w3.cell? ⟨w.heap.size + 1, 20, none⟩ = some (.string g.bo) := ⟨hF3, hG3, (hF3.c 0).trans rfl, (hF3.c 1).trans rfl, (hF3.c 2).trans rfl, (hF3.c 3).trans rfl, (hF3.c 4).trans rfl, (hF3.c 5).trans rfl, (hF3.c 6).trans rfl, (hF3.c 7).trans rfl, (hF3.c 8).trans rfl, (hF3.c 9).trans rfl, (hF3.c 10).trans rfl, (hF3.c 11).trans rfl, (hF3.c 12).trans rfl, (hF3.c 20).trans rfl, (hG3.c 0).trans rfl, (hG3.c 1).trans rfl, (hG3.c 2).trans rfl, (hG3.c 3).trans rfl, (hG3.c 4).trans rfl, (hG3.c 5).trans rfl, (hG3.c 6).trans rfl, (hG3.c 7).trans rfl, (hG3.c 8).trans rfl, (hG3.c 9).trans rfl, (hG3.c 10).trans rfl, (hG3.c 11).trans rfl, (hG3.c 12).trans rfl, (hG3.c 20).trans rfl⟩
  refine hK.out _ _ ?_ (fun hHeld => ?_)
  · exact S3
  clear hK K
  (try simp only [Act.put, List.getElem_toArray, List.getElem_cons_zero, List.getElem_cons_succ, List.setIfInBounds_toArray, List.set_cons_zero, List.set_cons_succ])
  refine wpAnyH_ready (rs := [23]) (by kernel_rfl) (by simp) ?_
  refine AllReadyH.cons rfl (fun K hK => ?_) AllReadyH.nil
  simp only [List.getElem_toArray, List.getElem_cons_zero, List.getElem_cons_succ]
  go_simp
  go_at_call 47; (with_reducible refine (HG.out _).mono ?_); rintro e w4 ⟨rfl, k4⟩; have hF4 : HasF w4 _ f := HasF.below hF3 k4 hF3.lt; have hG4 : HasF w4 _ g := HasF.below hG3 k4 hG3.lt; have S4 : HasF w4 w.heap.size f ∧ HasF w4 (w.heap.size + 1) g ∧ w4.cell? ⟨w.heap.size, 0, none⟩ = some (.int .u8 (f.d 0)) ∧ w4.cell? ⟨w.heap.size, 1, none⟩ = some (.int .u8 (f.d 1)) ∧ w4.cell? ⟨w.heap.size, 2, none⟩ = some (.int .u8 (f.d 2)) ∧ w4.cell? ⟨w.heap.size, 3, none⟩ = some (.int .u8 (f.d 3)) ∧ w4.cell? ⟨w.heap.size, 4, none⟩ = some (.int .u8 (f.d 4)) ∧ w4.cell? ⟨w.heap.size, 5, none⟩ = some (.int .u8 (f.d 5)) ∧ w4.cell? ⟨w.heap.size, 6, none⟩ = some (.int .u8 (f.s 0)) ∧ w4.cell? ⟨w.heap.size, 7, none⟩ = some (.int .u8 (f.s 1)) ∧ w4.cell? ⟨w.heap.size, 8, none⟩ = some (.int .u8 (f.s 2)) ∧ w4.cell? ⟨w.heap.size, 9, none⟩ = some (.int .u8 (f.s 3)) ∧ w4.cell? ⟨w.heap.size, 10, none⟩ = some (.int .u8 (f.s 4)) ∧ w4.cell? ⟨w.heap.size, 11, none⟩ = some (.int .u8 (f.s 5)) ∧ w4.cell? ⟨w.heap.size, 12, none⟩ = some (.slice f.ta f.tl.length f.tc) ∧ w4.cell? ⟨w.heap.size, 20, none⟩ = some (.string f.bo) ∧ w4.cell? ⟨w.heap.size + 1, 0, none⟩ = some (.int .u8 (g.d 0)) ∧ w4.cell? ⟨w.heap.size + 1, 1, none⟩ = some (.int .u8 (g.d 1)) ∧ w4.cell? ⟨w.heap.size + 1, 2, none⟩ = some (.int .u8 (g.d 2)) ∧ w4.cell? ⟨w.heap.size + 1, 3, none⟩ = some (.int .u8 (g.d 3)) ∧ w4.cell? ⟨w.heap.size + 1, 4, none⟩ = some (.int .u8 (g.d 4)) ∧ w4.cell? ⟨w.heap.size + 1, 5, none⟩ = some (.int .u8 (g.d 5)) ∧ w4.cell? ⟨w.heap.size + 1, 6, none⟩ = some (.int .u8 (g.s 0)) ∧ w4.cell? ⟨w.heap.size + 1, 7, none⟩ = some (.int .u8 (g.s 1)) ∧ w4.cell? ⟨w.heap.size + 1, 8, none⟩ = some (.int .u8 (g.s 2)) ∧ w4.cell? ⟨w.heap.size + 1, 9, none⟩ = some (.int .u8 (g.s 3)) ∧ w4.cell? ⟨w.heap.size + 1, 10, none⟩ = some (.int .u8 (g.s 4)) ∧ w4.cell? ⟨w.heap.size + 1, 11, none⟩ = some (.int .u8 (g.s 5)) ∧ w4.cell? ⟨w.heap.size + 1, 12, none⟩ = some (.slice g.ta g.tl.length g.tc) ∧ w4.cell? ⟨w.heap.size + 1, 20, none⟩ = some (.string g.bo) := ⟨hF4, hG4, (hF4.c 0).trans rfl, (hF4.c 1).trans rfl, (hF4.c 2).trans rfl, (hF4.c 3).trans rfl, (hF4.c 4).trans rfl, (hF4.c 5).trans rfl, (hF4.c 6).trans rfl, (hF4.c 7).trans rfl, (hF4.c 8).trans rfl, (hF4.c 9).trans rfl, (hF4.c 10).trans rfl, (hF4.c 11).trans rfl, (hF4.c 12).trans rfl, (hF4.c 20).trans rfl, (hG4.c 0).trans rfl, (hG4.c 1).trans rfl, (hG4.c 2).trans rfl, (hG4.c 3).trans rfl, (hG4.c 4).trans rfl, (hG4.c 5).trans rfl, (hG4.c 6).trans rfl, (hG4.c 7).trans rfl, (hG4.c 8).trans rfl, (hG4.c 9).trans rfl, (hG4.c 10).trans rfl, (hG4.c 11).trans rfl, (hG4.c 12).trans rfl, (hG4.c 20).trans rfl⟩
  refine hK.out _ _ ?_ (fun hHeld => ?_)
  · exact S4
  clear hK K
  (try simp only [Act.put, List.getElem_toArray, List.getElem_cons_zero, List.getElem_cons_succ, List.setIfInBounds_toArray, List.set_cons_zero, List.set_cons_succ])
  refine wpAnyH_take (i := 24) (v := ?_) rfl (by kernel_rfl) (by kernel_rfl) (by kernel_rfl) (fun _ _ _ h => h) (Or.inl ⟨by rfl, ?_⟩) (by assumption) ?_
  rotate_left
  · (intro w hSw; (try dsimp only at hSw); go_simp; (try with_reducible rfl))
  (try simp only [Act.put, List.getElem_toArray, List.getElem_cons_zero, List.getElem_cons_succ, List.setIfInBounds_toArray, List.set_cons_zero, List.set_cons_succ])
  refine wpAnyH_take (i := 25) (v := ?_) rfl (by kernel_rfl) (by kernel_rfl) (by kernel_rfl) (fun _ _ _ h => h) (Or.inl ⟨by rfl, ?_⟩) (by assumption) ?_
  rotate_left
  · (intro w hSw; (try dsimp only at hSw); go_simp; (try with_reducible rfl))
  (try simp only [Act.put, List.getElem_toArray, List.getElem_cons_zero, List.getElem_cons_succ, List.setIfInBounds_toArray, List.set_cons_zero, List.set_cons_succ])
  refine wpAnyH_take (i := 26) (v := ?_) rfl (by kernel_rfl) (by kernel_rfl) (by kernel_rfl) (fun _ _ _ h => h) (Or.inl ⟨by rfl, ?_⟩) (by assumption) ?_
  rotate_left
  · (intro w hSw; (try dsimp only at hSw); go_simp; (try with_reducible rfl))
  (try simp only [Act.put, List.getElem_toArray, List.getElem_cons_zero, List.getElem_cons_succ, List.setIfInBounds_toArray, List.set_cons_zero, List.set_cons_succ])
  refine wpAnyH_take (i := 27) (v := ?_) rfl (by kernel_rfl) (by kernel_rfl) (by kernel_rfl) (fun _ _ _ h => h) (Or.inl ⟨by rfl, ?_⟩) (by assumption) ?_
  rotate_left
  · (intro w hSw; (try dsimp only at hSw); go_simp; (try with_reducible rfl))
  (try simp only [Act.put, List.getElem_toArray, List.getElem_cons_zero, List.getElem_cons_succ, List.setIfInBounds_toArray, List.set_cons_zero, List.set_cons_succ])
  refine wpAnyH_take (i := 28) (v := ?_) rfl (by kernel_rfl) (by kernel_rfl) (by kernel_rfl) (fun _ _ _ h => h) (Or.inl ⟨by rfl, ?_⟩) (by assumption) ?_
  rotate_left
  · (intro w hSw; (try dsimp only at hSw); go_simp; (try with_reducible rfl))
  (try simp only [Act.put, List.getElem_toArray, List.getElem_cons_zero, List.getElem_cons_succ, List.setIfInBounds_toArray, List.set_cons_zero, List.set_cons_succ])
  refine wpAnyH_take (i := 29) (v := ?_) rfl (by kernel_rfl) (by kernel_rfl) (by kernel_rfl) (fun _ _ _ h => h) (Or.inl ⟨by rfl, ?_⟩) (by assumption) ?_
  rotate_left
  · (intro w hSw; (try dsimp only at hSw); go_simp; (try with_reducible rfl))
  (try simp only [Act.put, List.getElem_toArray, List.getElem_cons_zero, List.getElem_cons_succ, List.setIfInBounds_toArray, List.set_cons_zero, List.set_cons_succ])
  refine wpAnyH_take (i := 30) (v := ?_) rfl (by kernel_rfl) (by kernel_rfl) (by kernel_rfl) (fun _ _ _ h => h) (Or.inl ⟨by rfl, ?_⟩) (by assumption) ?_
  rotate_left
  · (intro w hSw; (try dsimp only at hSw); go_simp; (try with_reducible rfl))
  (try simp only [Act.put, List.getElem_toArray, List.getElem_cons_zero, List.getElem_cons_succ, List.setIfInBounds_toArray, List.set_cons_zero, List.set_cons_succ])
  refine wpAnyH_take (i := 31) (v := ?_) rfl (by kernel_rfl) (by kernel_rfl) (by kernel_rfl) (fun _ _ _ h => h) (Or.inl ⟨by rfl, ?_⟩) (by assumption) ?_
  rotate_left
  · (intro w hSw; (try dsimp only at hSw); go_simp; (try with_reducible rfl))
  (try simp only [Act.put, List.getElem_toArray, List.getElem_cons_zero, List.getElem_cons_succ, List.setIfInBounds_toArray, List.set_cons_zero, List.set_cons_succ])
  refine wpAnyH_take (i := 32) (v := ?_) rfl (by kernel_rfl) (by kernel_rfl) (by kernel_rfl) (fun _ _ _ h => h) (Or.inl ⟨by rfl, ?_⟩) (by assumption) ?_
  rotate_left
  · (intro w hSw; (try dsimp only at hSw); go_simp; (try with_reducible rfl))
  (try simp only [Act.put, List.getElem_toArray, List.getElem_cons_zero, List.getElem_cons_succ, List.setIfInBounds_toArray, List.set_cons_zero, List.set_cons_succ])
  refine wpAnyH_take (i := 33) (v := ?_) rfl (by kernel_rfl) (by kernel_rfl) (by kernel_rfl) (fun _ _ _ h => h) (Or.inl ⟨by rfl, ?_⟩) (by assumption) ?_
  rotate_left
  · (intro w hSw; (try dsimp only at hSw); go_simp; (try with_reducible rfl))
  (try simp only [Act.put, List.getElem_toArray, List.getElem_cons_zero, List.getElem_cons_succ, List.setIfInBounds_toArray, List.set_cons_zero, List.set_cons_succ])
  refine wpAnyH_done (by kernel_rfl) ?_ _
  refine NoPanic.normal ?_
  have b2 : Below w.heap.size w w2 := hb0.drew.trans (k2.mono hb0.size)
  have b3 : Below w.heap.size w w3 := b2.trans (k3.mono b2.size)
  have b4 : Below w.heap.size w w4 := b3.trans (k4.mono b3.size)
  clear S1 hF0 hG0 hI0 hJ0 hHeld S2 k2 hF2 hG2 HE S3 k3 hF3 hG3 S4 k4 hF4 hG4 HF HG b2 b3
  go_wp2
  go_ret
  exact ⟨rfl, b4⟩

end Go.Proofs.Ytdceggekhhflgaa

namespace Go.Proofs.Ytdceggekhhflgaa
open Go.RowKit
attribute [local go_sem ↓] Go.wp_at_zero Go.wp_at_succ
set_option linter.unusedSimpArgs false
set_option linter.unusedVariables false

set_option maxHeartbeats 4000000 in
theorem same_5 (f g : Fr) (w : World) (hf : FrIn w f) (hg : FrIn w g) (h1 : eq6 f.d g.d = true) (h2 : eq6 f.s g.s = true) (h3 : tagsEq f.tl g.tl = true) (h4 : same7 f g = true) (h5 : (f.bo.toList == g.bo.toList) = true) :
    Calls Try.prog 25 #[frV f, frV g] w fun e w' => e = .returned (.bool true) ∧ Below w.heap.size w w' := by
  obtain ⟨hF0, hG0, hb0⟩ := both_boxed w f g
  have hI0 := hf.below hb0
  have hJ0 := hg.below hb0
  have e1 : ∀ W, (Op.equalIn 10000 33 (.agg #[.int .u8 (f.d 0), .int .u8 (f.d 1), .int .u8 (f.d 2), .int .u8 (f.d 3), .int .u8 (f.d 4), .int .u8 (f.d 5)]) (.agg #[.int .u8 (g.d 0), .int .u8 (g.d 1), .int .u8 (g.d 2), .int .u8 (g.d 3), .int .u8 (g.d 4), .int .u8 (g.d 5)])).run Try.prog W = .ok true W := fun W => by have h := run_eql_six f.d g.d W; rw [h1] at h; exact h
  have e2 : ∀ W, (Op.equalIn 10000 33 (.agg #[.int .u8 (f.s 0), .int .u8 (f.s 1), .int .u8 (f.s 2), .int .u8 (f.s 3), .int .u8 (f.s 4), .int .u8 (f.s 5)]) (.agg #[.int .u8 (g.s 0), .int .u8 (g.s 1), .int .u8 (g.s 2), .int .u8 (g.s 3), .int .u8 (g.s 4), .int .u8 (g.s 5)])).run Try.prog W = .ok true W := fun W => by have h := run_eql_six f.s g.s W; rw [h2] at h; exact h
  have HE : Hid (∀ W, TagsIn W f.ta f.tl → TagsIn W g.ta g.tl → Calls Try.prog 46 #[.slice f.ta f.tl.length f.tc, .slice g.ta g.tl.length g.tc] W fun e w' => e = .returned (.bool true) ∧ Below W.heap.size W w') := fun W x y => by have h := equal_any f.ta g.ta f.tc g.tc f.tl g.tl W x y hf.few; rw [h3] at h; exact h
  clear h3
  have HF := Lib.hid (numbers_any f)
  have HG := Lib.hid (numbers_any g)
  have e7 : ∀ W, (Op.equalIn 10000 83 (.agg #[.int .i64 f.k, .int .i64 f.t, .int .i64 f.da, .int .i64 f.sa, .int .i64 f.ct, .int .i64 f.ou, .int .i64 f.pi]) (.agg #[.int .i64 g.k, .int .i64 g.t, .int .i64 g.da, .int .i64 g.sa, .int .i64 g.ct, .int .i64 g.ou, .int .i64 g.pi])).run Try.prog W = .ok true W := fun W => by have h := run_eql_seven f g W; rw [h4] at h; exact h
  clear h4
  clear h1 h2 hf hg
  unfold frV frC at *
  go_enter Try.func25, Try.ntmps25
  go_wp2
  generalize (w.alloc (.cells #[.int .u8 (f.d 0), .int .u8 (f.d 1), .int .u8 (f.d 2), .int .u8 (f.d 3), .int .u8 (f.d 4), .int .u8 (f.d 5), .int .u8 (f.s 0), .int .u8 (f.s 1), .int .u8 (f.s 2), .int .u8 (f.s 3), .int .u8 (f.s 4), .int .u8 (f.s 5), .slice f.ta f.tl.length f.tc, .int .i64 f.k, .int .i64 f.t, .int .i64 f.da, .int .i64 f.sa, .int .i64 f.ct, .int .i64 f.ou, .int .i64 f.pi, .string f.bo] 36)).alloc (.cells #[.int .u8 (g.d 0), .int .u8 (g.d 1), .int .u8 (g.d 2), .int .u8 (g.d 3), .int .u8 (g.d 4), .int .u8 (g.d 5), .int .u8 (g.s 0), .int .u8 (g.s 1), .int .u8 (g.s 2), .int .u8 (g.s 3), .int .u8 (g.s 4), .int .u8 (g.s 5), .slice g.ta g.tl.length g.tc, .int .i64 g.k, .int .i64 g.t, .int .i64 g.da, .int .i64 g.sa, .int .i64 g.ct, .int .i64 g.ou, .int .i64 g.pi, .string g.bo] 36) = w1 at *
  have S1 : HasF w1 w.heap.size f ∧ HasF w1 (w.heap.size + 1) g ∧ w1.cell? ⟨w.heap.size, 0, none⟩ = some (.int .u8 (f.d 0)) ∧ w1.cell? ⟨w.heap.size, 1, none⟩ = some (.int .u8 (f.d 1)) ∧ w1.cell? ⟨w.heap.size, 2, none⟩ = some (.int .u8 (f.d 2)) ∧ w1.cell? ⟨w.heap.size, 3, none⟩ = some (.int .u8 (f.d 3)) ∧ w1.cell? ⟨w.heap.size, 4, none⟩ = some (.int .u8 (f.d 4)) ∧ w1.cell? ⟨w.heap.size, 5, none⟩ = some (.int .u8 (f.d 5)) ∧ w1.cell? ⟨w.heap.size, 6, none⟩ = some (.int .u8 (f.s 0)) ∧ w1.cell? ⟨w.heap.size, 7, none⟩ = some (.int .u8 (f.s 1)) ∧ w1.cell? ⟨w.heap.size, 8, none⟩ = some (.int .u8 (f.s 2)) ∧ w1.cell? ⟨w.heap.size, 9, none⟩ = some (.int .u8 (f.s 3)) ∧ w1.cell? ⟨w.heap.size, 10, none⟩ = some (.int .u8 (f.s 4)) ∧ w1.cell? ⟨w.heap.size, 11, none⟩ = some (.int .u8 (f.s 5)) ∧ w1.cell? ⟨w.heap.size, 12, none⟩ = some (.slice f.ta f.tl.length f.tc) ∧ w1.cell? ⟨w.heap.size, 20, none⟩ = some (.string f.bo) ∧ w1.cell? ⟨w.heap.size + 1, 0, none⟩ = some (.int .u8 (g.d 0)) ∧ w1.cell? ⟨w.heap.size + 1, 1, none⟩ = some (.int .u8 (g.d 1)) ∧ w1.cell? ⟨w.heap.size + 1, 2, none⟩ = some (.int .u8 (g.d 2)) ∧ w1.cell? ⟨w.heap.size + 1, 3, none⟩ = some (.int .u8 (g.d 3)) ∧ w1.cell? ⟨w.heap.size + 1, 4, none⟩ = some (.int .u8 (g.d 4)) ∧ w1.cell? ⟨w.heap.size + 1, 5, none⟩ = some (.int .u8 (g.d 5)) ∧ w1.cell? ⟨w.heap.size + 1, 6, none⟩ = some (.int .u8 (g.s 0)) ∧ w1.cell? ⟨w.heap.size + 1, 7, none⟩ = some (.int .u8 (g.s 1)) ∧ w1.cell? ⟨w.heap.size + 1, 8, none⟩ = some (.int .u8 (g.s 2)) ∧ w1.cell? ⟨w.heap.size + 1, 9, none⟩ = some (.int .u8 (g.s 3)) ∧ w1.cell? ⟨w.heap.size + 1, 10, none⟩ = some (.int .u8 (g.s 4)) ∧ w1.cell? ⟨w.heap.size + 1, 11, none⟩ = some (.int .u8 (g.s 5)) ∧ w1.cell? ⟨w.heap.size + 1, 12, none⟩ = some (.slice g.ta g.tl.length g.tc) ∧ w1.cell? ⟨w.heap.size + 1, 20, none⟩ = some (.string g.bo) := ⟨hF0, hG0, (hF0.c 0).trans rfl, (hF0.c 1).trans rfl, (hF0.c 2).trans rfl, (hF0.c 3).trans rfl, (hF0.c 4).trans rfl, (hF0.c 5).trans rfl, (hF0.c 6).trans rfl, (hF0.c 7).trans rfl, (hF0.c 8).trans rfl, (hF0.c 9).trans rfl, (hF0.c 10).trans rfl, (hF0.c 11).trans rfl, (hF0.c 12).trans rfl, (hF0.c 20).trans rfl, (hG0.c 0).trans rfl, (hG0.c 1).trans rfl, (hG0.c 2).trans rfl, (hG0.c 3).trans rfl, (hG0.c 4).trans rfl, (hG0.c 5).trans rfl, (hG0.c 6).trans rfl, (hG0.c 7).trans rfl, (hG0.c 8).trans rfl, (hG0.c 9).trans rfl, (hG0.c 10).trans rfl, (hG0.c 11).trans rfl, (hG0.c 12).trans rfl, (hG0.c 20).trans rfl⟩
  refine wp_region_noPanic ?_
  refine wp_region_held_drew (S := (fun w' => HasF w' w.heap.size f ∧ HasF w' (w.heap.size + 1) g ∧ w'.cell? ⟨w.heap.size, 0, none⟩ = some (.int .u8 (f.d 0)) ∧ w'.cell? ⟨w.heap.size, 1, none⟩ = some (.int .u8 (f.d 1)) ∧ w'.cell? ⟨w.heap.size, 2, none⟩ = some (.int .u8 (f.d 2)) ∧ w'.cell? ⟨w.heap.size, 3, none⟩ = some (.int .u8 (f.d 3)) ∧ w'.cell? ⟨w.heap.size, 4, none⟩ = some (.int .u8 (f.d 4)) ∧ w'.cell? ⟨w.heap.size, 5, none⟩ = some (.int .u8 (f.d 5)) ∧ w'.cell? ⟨w.heap.size, 6, none⟩ = some (.int .u8 (f.s 0)) ∧ w'.cell? ⟨w.heap.size, 7, none⟩ = some (.int .u8 (f.s 1)) ∧ w'.cell? ⟨w.heap.size, 8, none⟩ = some (.int .u8 (f.s 2)) ∧ w'.cell? ⟨w.heap.size, 9, none⟩ = some (.int .u8 (f.s 3)) ∧ w'.cell? ⟨w.heap.size, 10, none⟩ = some (.int .u8 (f.s 4)) ∧ w'.cell? ⟨w.heap.size, 11, none⟩ = some (.int .u8 (f.s 5)) ∧ w'.cell? ⟨w.heap.size, 12, none⟩ = some (.slice f.ta f.tl.length f.tc) ∧ w'.cell? ⟨w.heap.size, 20, none⟩ = some (.string f.bo) ∧ w'.cell? ⟨w.heap.size + 1, 0, none⟩ = some (.int .u8 (g.d 0)) ∧ w'.cell? ⟨w.heap.size + 1, 1, none⟩ = some (.int .u8 (g.d 1)) ∧ w'.cell? ⟨w.heap.size + 1, 2, none⟩ = some (.int .u8 (g.d 2)) ∧ w'.cell? ⟨w.heap.size + 1, 3, none⟩ = some (.int .u8 (g.d 3)) ∧ w'.cell? ⟨w.heap.size + 1, 4, none⟩ = some (.int .u8 (g.d 4)) ∧ w'.cell? ⟨w.heap.size + 1, 5, none⟩ = some (.int .u8 (g.d 5)) ∧ w'.cell? ⟨w.heap.size + 1, 6, none⟩ = some (.int .u8 (g.s 0)) ∧ w'.cell? ⟨w.heap.size + 1, 7, none⟩ = some (.int .u8 (g.s 1)) ∧ w'.cell? ⟨w.heap.size + 1, 8, none⟩ = some (.int .u8 (g.s 2)) ∧ w'.cell? ⟨w.heap.size + 1, 9, none⟩ = some (.int .u8 (g.s 3)) ∧ w'.cell? ⟨w.heap.size + 1, 10, none⟩ = some (.int .u8 (g.s 4)) ∧ w'.cell? ⟨w.heap.size + 1, 11, none⟩ = some (.int .u8 (g.s 5)) ∧ w'.cell? ⟨w.heap.size + 1, 12, none⟩ = some (.slice g.ta g.tl.length g.tc) ∧ w'.cell? ⟨w.heap.size + 1, 20, none⟩ = some (.string g.bo))) (by kernel_rfl) ?_ (fun hHeld => ?_)
  · exact S1
  refine wpAnyH_take (i := 0) (v := ?_) rfl (by kernel_rfl) (by kernel_rfl) (by kernel_rfl) (fun _ _ _ h => h) (Or.inl ⟨by rfl, ?_⟩) (by assumption) ?_
  rotate_left
  · (intro w hSw; (try dsimp only at hSw); go_simp; (try with_reducible rfl))
  (try simp only [Act.put, List.getElem_toArray, List.getElem_cons_zero, List.getElem_cons_succ, List.setIfInBounds_toArray, List.set_cons_zero, List.set_cons_succ])
  refine wpAnyH_take (i := 1) (v := ?_) rfl (by kernel_rfl) (by kernel_rfl) (by kernel_rfl) (fun _ _ _ h => h) (Or.inl ⟨by rfl, ?_⟩) (by assumption) ?_
  rotate_left
  · (intro w hSw; (try dsimp only at hSw); go_simp; (try with_reducible rfl))
  (try simp only [Act.put, List.getElem_toArray, List.getElem_cons_zero, List.getElem_cons_succ, List.setIfInBounds_toArray, List.set_cons_zero, List.set_cons_succ])
  refine wpAnyH_take (i := 2) (v := ?_) rfl (by kernel_rfl) (by kernel_rfl) (by kernel_rfl) (fun _ _ _ h => h) (Or.inl ⟨by rfl, ?_⟩) (by assumption) ?_
  rotate_left
  · (intro w hSw; (try dsimp only at hSw); go_simp; (try with_reducible rfl))
  (try simp only [Act.put, List.getElem_toArray, List.getElem_cons_zero, List.getElem_cons_succ, List.setIfInBounds_toArray, List.set_cons_zero, List.set_cons_succ])
  refine wpAnyH_take (i := 3) (v := ?_) rfl (by kernel_rfl) (by kernel_rfl) (by kernel_rfl) (fun _ _ _ h => h) (Or.inl ⟨by rfl, ?_⟩) (by assumption) ?_
  rotate_left
  · (intro w hSw; (try dsimp only at hSw); go_simp; (try with_reducible rfl))
  (try simp only [Act.put, List.getElem_toArray, List.getElem_cons_zero, List.getElem_cons_succ, List.setIfInBounds_toArray, List.set_cons_zero, List.set_cons_succ])
  refine wpAnyH_take (i := 4) (v := ?_) rfl (by kernel_rfl) (by kernel_rfl) (by kernel_rfl) (fun _ _ _ h => h) (Or.inl ⟨by rfl, ?_⟩) (by assumption) ?_
  rotate_left
  · (intro w hSw; (try dsimp only at hSw); go_simp; (try with_reducible rfl))
  (try simp only [Act.put, List.getElem_toArray, List.getElem_cons_zero, List.getElem_cons_succ, List.setIfInBounds_toArray, List.set_cons_zero, List.set_cons_succ])
  refine wpAnyH_take (i := 5) (v := ?_) rfl (by kernel_rfl) (by kernel_rfl) (by kernel_rfl) (fun _ _ _ h => h) (Or.inl ⟨by rfl, ?_⟩) (by assumption) ?_
  rotate_left
  · (intro w hSw; (try dsimp only at hSw); go_simp; (try with_reducible rfl))
  (try simp only [Act.put, List.getElem_toArray, List.getElem_cons_zero, List.getElem_cons_succ, List.setIfInBounds_toArray, List.set_cons_zero, List.set_cons_succ])
  refine wpAnyH_take (i := 6) (v := ?_) rfl (by kernel_rfl) (by kernel_rfl) (by kernel_rfl) (fun _ _ _ h => h) (Or.inl ⟨by rfl, ?_⟩) (by assumption) ?_
  rotate_left
  · (intro w hSw; (try dsimp only at hSw); go_simp; (try with_reducible rfl))
  (try simp only [Act.put, List.getElem_toArray, List.getElem_cons_zero, List.getElem_cons_succ, List.setIfInBounds_toArray, List.set_cons_zero, List.set_cons_succ])
  refine wpAnyH_take (i := 7) (v := ?_) rfl (by kernel_rfl) (by kernel_rfl) (by kernel_rfl) (fun _ _ _ h => h) (Or.inl ⟨by rfl, ?_⟩) (by assumption) ?_
  rotate_left
  · (intro w hSw; (try dsimp only at hSw); go_simp; (try with_reducible rfl))
  (try simp only [Act.put, List.getElem_toArray, List.getElem_cons_zero, List.getElem_cons_succ, List.setIfInBounds_toArray, List.set_cons_zero, List.set_cons_succ])
  refine wpAnyH_take (i := 8) (v := ?_) rfl (by kernel_rfl) (by kernel_rfl) (by kernel_rfl) (fun _ _ _ h => h) (Or.inl ⟨by rfl, ?_⟩) (by assumption) ?_
  rotate_left
  · (intro w hSw; (try dsimp only at hSw); go_simp; (try with_reducible rfl))
  (try simp only [Act.put, List.getElem_toArray, List.getElem_cons_zero, List.getElem_cons_succ, List.setIfInBounds_toArray, List.set_cons_zero, List.set_cons_succ])
  refine wpAnyH_take (i := 9) (v := ?_) rfl (by kernel_rfl) (by kernel_rfl) (by kernel_rfl) (fun _ _ _ h => h) (Or.inl ⟨by rfl, ?_⟩) (by assumption) ?_
  rotate_left
  · (intro w hSw; (try dsimp only at hSw); go_simp; (try with_reducible rfl))
  (try simp only [Act.put, List.getElem_toArray, List.getElem_cons_zero, List.getElem_cons_succ, List.setIfInBounds_toArray, List.set_cons_zero, List.set_cons_succ])
  refine wpAnyH_take (i := 10) (v := ?_) rfl (by kernel_rfl) (by kernel_rfl) (by kernel_rfl) (fun _ _ _ h => h) (Or.inl ⟨by rfl, ?_⟩) (by assumption) ?_
  rotate_left
  · (intro w hSw; (try dsimp only at hSw); go_simp; (try with_reducible rfl))
  (try simp only [Act.put, List.getElem_toArray, List.getElem_cons_zero, List.getElem_cons_succ, List.setIfInBounds_toArray, List.set_cons_zero, List.set_cons_succ])
  refine wpAnyH_take (i := 11) (v := ?_) rfl (by kernel_rfl) (by kernel_rfl) (by kernel_rfl) (fun _ _ _ h => h) (Or.inl ⟨by rfl, ?_⟩) (by assumption) ?_
  rotate_left
  · (intro w hSw; (try dsimp only at hSw); go_simp; (try with_reducible rfl))
  (try simp only [Act.put, List.getElem_toArray, List.getElem_cons_zero, List.getElem_cons_succ, List.setIfInBounds_toArray, List.set_cons_zero, List.set_cons_succ])
  refine wpAnyH_take (i := 12) (v := ?_) rfl (by kernel_rfl) (by kernel_rfl) (by kernel_rfl) (fun _ _ _ h => h) (Or.inl ⟨by rfl, ?_⟩) (by assumption) ?_
  rotate_left
  · (intro w hSw; (try dsimp only at hSw); go_simp; (try with_reducible rfl))
  (try simp only [Act.put, List.getElem_toArray, List.getElem_cons_zero, List.getElem_cons_succ, List.setIfInBounds_toArray, List.set_cons_zero, List.set_cons_succ])
  refine wpAnyH_take (i := 13) (v := ?_) rfl (by kernel_rfl) (by kernel_rfl) (by kernel_rfl) (fun _ _ _ h => h) (Or.inl ⟨by rfl, ?_⟩) (by assumption) ?_
  rotate_left
  · (intro w hSw; (try dsimp only at hSw); go_simp; (try with_reducible rfl))
  (try simp only [Act.put, List.getElem_toArray, List.getElem_cons_zero, List.getElem_cons_succ, List.setIfInBounds_toArray, List.set_cons_zero, List.set_cons_succ])
  refine wpAnyH_take (i := 14) (v := ?_) rfl (by kernel_rfl) (by kernel_rfl) (by kernel_rfl) (fun _ _ _ h => h) (Or.inl ⟨by rfl, ?_⟩) (by assumption) ?_
  rotate_left
  · (intro w hSw; (try dsimp only at hSw); go_simp; (try with_reducible rfl))
  (try simp only [Act.put, List.getElem_toArray, List.getElem_cons_zero, List.getElem_cons_succ, List.setIfInBounds_toArray, List.set_cons_zero, List.set_cons_succ])
  refine wpAnyH_take (i := 15) (v := ?_) rfl (by kernel_rfl) (by kernel_rfl) (by kernel_rfl) (fun _ _ _ h => h) (Or.inl ⟨by rfl, ?_⟩) (by assumption) ?_
  rotate_left
  · (intro w hSw; (try dsimp only at hSw); go_simp; (try with_reducible rfl))
  (try simp only [Act.put, List.getElem_toArray, List.getElem_cons_zero, List.getElem_cons_succ, List.setIfInBounds_toArray, List.set_cons_zero, List.set_cons_succ])
  refine wpAnyH_take (i := 16) (v := ?_) rfl (by kernel_rfl) (by kernel_rfl) (by kernel_rfl) (fun _ _ _ h => h) (Or.inl ⟨by rfl, ?_⟩) (by assumption) ?_
  rotate_left
  · (intro w hSw; (try dsimp only at hSw); go_simp; (try with_reducible rfl))
  (try simp only [Act.put, List.getElem_toArray, List.getElem_cons_zero, List.getElem_cons_succ, List.setIfInBounds_toArray, List.set_cons_zero, List.set_cons_succ])
  refine wpAnyH_ready (rs := [17]) (by kernel_rfl) (by simp) ?_
  refine AllReadyH.cons rfl (fun K hK => ?_) AllReadyH.nil
  simp only [List.getElem_toArray, List.getElem_cons_zero, List.getElem_cons_succ]
  go_simp
  go_at_call 46; (with_reducible refine (HE.out _ ?_ ?_).mono ?_); (exact hI0.tags); (exact hJ0.tags); rintro e w2 ⟨rfl, k2⟩; have hF2 : HasF w2 _ f := HasF.below hF0.drew k2 hF0.lt; have hG2 : HasF w2 _ g := HasF.below hG0.drew k2 hG0.lt; have S2 : HasF w2 w.heap.size f ∧ HasF w2 (w.heap.size + 1) g ∧ w2.cell? ⟨w.heap.size, 0, none⟩ = some (.int .u8 (f.d 0)) ∧ w2.cell? ⟨w.heap.size, 1, none⟩ = some (.int .u8 (f.d 1)) ∧ w2.cell? ⟨w.heap.size, 2, none⟩ = some (.int .u8 (f.d 2)) ∧ w2.cell? ⟨w.heap.size, 3, none⟩ = some (.int .u8 (f.d 3)) ∧ w2.cell? ⟨w.heap.size, 4, none⟩ = some (.int .u8 (f.d 4)) ∧ w2.cell? ⟨w.heap.size, 5, none⟩ = some (.int .u8 (f.d 5)) ∧ w2.cell? ⟨w.heap.size, 6, none⟩ = some (.int .u8 (f.s 0)) ∧ w2.cell? ⟨w.heap.size, 7, none⟩ = some (.int .u8 (f.s 1)) ∧ w2.cell? ⟨w.heap.size, 8, none⟩ = some (.int .u8 (f.s 2)) ∧ w2.cell? ⟨w.heap.size, 9, none⟩ = some (.int .u8 (f.s 3)) ∧ w2.cell? ⟨w.heap.size, 10, none⟩ = some (.int .u8 (f.s 4)) ∧ w2.cell? ⟨w.heap.size, 11, none⟩ = some (.int .u8 (f.s 5)) ∧ w2.cell? ⟨w.heap.size, 12, none⟩ = some (.slice f.ta f.tl.length f.tc) ∧ w2.cell? ⟨w.heap.size, 20, none⟩ = some (.string f.bo) ∧ w2.cell? ⟨w.heap.size + 1, 0, none⟩ = some (.int .u8 (g.d 0)) ∧ w2.cell? ⟨w.heap.size + 1, 1, none⟩ = some (.int .u8 (g.d 1)) ∧ w2.cell? ⟨w.heap.size + 1, 2, none⟩ = some (.int .u8 (g.d 2)) ∧ w2.cell? ⟨w.heap.size + 1, 3, none⟩ = some (.int .u8 (g.d 3)) ∧ w2.cell? ⟨w.heap.size + 1, 4, none⟩ = some (.int .u8 (g.d 4)) ∧ w2.cell? ⟨w.heap.size + 1, 5, none⟩ = some (.int .u8 (g.d 5)) ∧ w2.cell? ⟨w.heap.size + 1, 6, none⟩ = some (.int .u8 (g.s 0)) ∧ w2.cell? ⟨w.heap.size + 1, 7, none⟩ = some (.int .u8 (g.s 1)) ∧ w2.cell? ⟨w.heap.size + 1, 8, none⟩ = some (.int .u8 (g.s 2)) ∧ w2.cell? ⟨w.heap.size + 1, 9, none⟩ = some (.int .u8 (g.s 3)) ∧ w2.cell? ⟨w.heap.size + 1, 10, none⟩ = some (.int .u8 (g.s 4)) ∧ w2.cell? ⟨w.heap.size + 1, 11, none⟩ = some (.int .u8 (g.s 5)) ∧ w2.cell? ⟨w.heap.size + 1, 12, none⟩ = some (.slice g.ta g.tl.length g.tc) ∧ w2.cell? ⟨w.heap.size + 1, 20, none⟩ = some (.string g.bo) := ⟨hF2, hG2, (hF2.c 0).trans rfl, (hF2.c 1).trans rfl, (hF2.c 2).trans rfl, (hF2.c 3).trans rfl, (hF2.c 4).trans rfl, (hF2.c 5).trans rfl, (hF2.c 6).trans rfl, (hF2.c 7).trans rfl, (hF2.c 8).trans rfl, (hF2.c 9).trans rfl, (hF2.c 10).trans rfl, (hF2.c 11).trans rfl, (hF2.c 12).trans rfl, (hF2.c 20).trans rfl, (hG2.c 0).trans rfl, (hG2.c 1).trans rfl, (hG2.c 2).trans rfl, (hG2.c 3).trans rfl, (hG2.c 4).trans rfl, (hG2.c 5).trans rfl, (hG2.c 6).trans rfl, (hG2.c 7).trans rfl, (hG2.c 8).trans rfl, (hG2.c 9).trans rfl, (hG2.c 10).trans rfl, (hG2.c 11).trans rfl, (hG2.c 12).trans rfl, (hG2.c 20).trans rfl⟩
  refine hK.out _ _ ?_ (fun hHeld => ?_)
  · exact S2
  clear hK K
  (try simp only [Act.put, List.getElem_toArray, List.getElem_cons_zero, List.getElem_cons_succ, List.setIfInBounds_toArray, List.set_cons_zero, List.set_cons_succ])
  refine wpAnyH_take (i := 18) (v := ?_) rfl (by kernel_rfl) (by kernel_rfl) (by kernel_rfl) (fun _ _ _ h => h) (Or.inl ⟨by rfl, ?_⟩) (by assumption) ?_
  rotate_left
  · (intro w hSw; (try dsimp only at hSw); go_simp; (try with_reducible rfl))
  (try simp only [Act.put, List.getElem_toArray, List.getElem_cons_zero, List.getElem_cons_succ, List.setIfInBounds_toArray, List.set_cons_zero, List.set_cons_succ])
  refine wpAnyH_take (i := 19) (v := ?_) rfl (by kernel_rfl) (by kernel_rfl) (by kernel_rfl) (fun _ _ _ h => h) (Or.inl ⟨by rfl, ?_⟩) (by assumption) ?_
  rotate_left
  · (intro w hSw; (try dsimp only at hSw); go_simp; (try with_reducible rfl))
  (try simp only [Act.put, List.getElem_toArray, List.getElem_cons_zero, List.getElem_cons_succ, List.setIfInBounds_toArray, List.set_cons_zero, List.set_cons_succ])
  refine wpAnyH_take (i := 20) (v := .agg #[.int .u8 (f.d 0), .int .u8 (f.d 1), .int .u8 (f.d 2), .int .u8 (f.d 3), .int .u8 (f.d 4), .int .u8 (f.d 5), .int .u8 (f.s 0), .int .u8 (f.s 1), .int .u8 (f.s 2), .int .u8 (f.s 3), .int .u8 (f.s 4), .int .u8 (f.s 5), .slice f.ta f.tl.length f.tc, .int .i64 f.k, .int .i64 f.t, .int .i64 f.da, .int .i64 f.sa, .int .i64 f.ct, .int .i64 f.ou, .int .i64 f.pi, .string f.bo]) rfl (by kernel_rfl) (by kernel_rfl) (by kernel_rfl) (fun _ _ _ h => h) (Or.inl ⟨by rfl, fun w hSw => exec_load_fr f rfl rfl hSw.1⟩) (by assumption) ?_
  (try simp only [Act.put, List.getElem_toArray, List.getElem_cons_zero, List.getElem_cons_succ, List.setIfInBounds_toArray, List.set_cons_zero, List.set_cons_succ])
  refine wpAnyH_take (i := 22) (v := .agg #[.int .u8 (g.d 0), .int .u8 (g.d 1), .int .u8 (g.d 2), .int .u8 (g.d 3), .int .u8 (g.d 4), .int .u8 (g.d 5), .int .u8 (g.s 0), .int .u8 (g.s 1), .int .u8 (g.s 2), .int .u8 (g.s 3), .int .u8 (g.s 4), .int .u8 (g.s 5), .slice g.ta g.tl.length g.tc, .int .i64 g.k, .int .i64 g.t, .int .i64 g.da, .int .i64 g.sa, .int .i64 g.ct, .int .i64 g.ou, .int .i64 g.pi, .string g.bo]) rfl (by kernel_rfl) (by kernel_rfl) (by kernel_rfl) (fun _ _ _ h => h) (Or.inl ⟨by rfl, fun w hSw => exec_load_fr g rfl rfl hSw.2.1⟩) (by assumption) ?_
  (try simp only [Act.put, List.getElem_toArray, List.getElem_cons_zero, List.getElem_cons_succ, List.setIfInBounds_toArray, List.set_cons_zero, List.set_cons_succ])
  refine wpAnyH_ready (rs := [21]) (by kernel_rfl) (by simp) ?_
  refine AllReadyH.cons rfl (fun K hK => ?_) AllReadyH.nil
  simp only [List.getElem_toArray, List.getElem_cons_zero, List.getElem_cons_succ]
  go_simp
  go_at_call 47; (with_reducible refine (HF.out _).mono ?_); rintro e w3 ⟨rfl, k3⟩; have hF3 : HasF w3 _ f := HasF.below hF2 k3 hF2.lt; have hG3 : HasF w3 _ g := HasF.below hG2 k3 hG2.lt; have S3 : HasF w3 w.heap.size f ∧ HasF w3 (w.heap.size + 1) g ∧ w3.cell? ⟨w.heap.size, 0, none⟩ = some (.int .u8 (f.d 0)) ∧ w3.cell? ⟨w.heap.size, 1, none⟩ = some (.int .u8 (f.d 1)) ∧ w3.cell? ⟨w.heap.size, 2, none⟩ = some (.int .u8 (f.d 2)) ∧ w3.cell? ⟨w.heap.size, 3, none⟩ = some (.int .u8 (f.d 3)) ∧ w3.cell? ⟨w.heap.size, 4, none⟩ = some (.int .u8 (f.d 4)) ∧ w3.cell? ⟨w.heap.size, 5, none⟩ = some (.int .u8 (f.d 5)) ∧ w3.cell? ⟨w.heap.size, 6, none⟩ = some (.int .u8 (f.s 0)) ∧ w3.cell? ⟨w.heap.size, 7, none⟩ = some (.int .u8 (f.s 1)) ∧ w3.cell? ⟨w.heap.size, 8, none⟩ = some (.int .u8 (f.s 2)) ∧ w3.cell? ⟨w.heap.size, 9, none⟩ = some (.int .u8 (f.s 3)) ∧ w3.cell? ⟨w.heap.size, 10, none⟩ = some (.int .u8 (f.s 4)) ∧ w3.cell? ⟨w.heap.size, 11, none⟩ = some (.int .u8 (f.s 5)) ∧ w3.cell? ⟨w.heap.size, 12, none⟩ = some (.slice f.ta f.tl.length f.tc) ∧ w3.cell? ⟨w.heap.size, 20, none⟩ = some (.string f.bo) ∧ w3.cell? ⟨w.heap.size + 1, 0, none⟩ = some (.int .u8 (g.d 0)) ∧ w3.cell? ⟨w.heap.size + 1, 1, none⟩ = some (.int .u8 (g.d 1)) ∧ w3.cell? ⟨w.heap.size + 1, 2, none⟩ = some (.int .u8 (g.d 2)) ∧ w3.cell? ⟨w.heap.size + 1, 3, none⟩ = some (.int .u8 (g.d 3)) ∧ w3.cell? ⟨w.heap.size + 1, 4, none⟩ = some (.int .u8 (g.d 4)) ∧ w3.cell? ⟨w.heap.size + 1, 5, none⟩ = some (.int .u8 (g.d 5)) ∧ w3.cell? ⟨w.heap.size + 1, 6, none⟩ = some (.int .u8 (g.s 0)) ∧ w3.cell? ⟨w.heap.size + 1, 7, none⟩ = some (.int .u8 (g.s 1)) ∧ w3.cell? ⟨w.heap.size + 1, 8, none⟩ = some (.int .u8 (g.s 2)) ∧ w3.cell? ⟨w.heap.size + 1, 9, none⟩ = some (.int .u8 (g.s 3)) ∧ w3.cell? ⟨w.heap.size + 1, 10, none⟩ = some (.int .u8 (g.s 4)) ∧ w3.cell? ⟨w.heap.size + 1, 11, none⟩ = some (.int .u8 (g.s 5)) ∧ w3.cell? ⟨w.heap.size + 1, 12, none⟩ = some (.slice g.ta g.tl.length g.tc) ∧ w3.cell? ⟨w.heap.size + 1, 20, none⟩ = some (.string g.bo) := ⟨hF3, hG3, (hF3.c 0).trans rfl, (hF3.c 1).trans rfl, (hF3.c 2).trans rfl, (hF3.c 3).trans rfl, (hF3.c 4).trans rfl, (hF3.c 5).trans rfl, (hF3.c 6).trans rfl, (hF3.c 7).trans rfl, (hF3.c 8).trans rfl, (hF3.c 9).trans rfl, (hF3.c 10).trans rfl, (hF3.c 11).trans rfl, (hF3.c 12).trans rfl, (hF3.c 20).trans rfl, (hG3.c 0).trans rfl, (hG3.c 1).trans rfl, (hG3.c 2).trans rfl, (hG3.c 3).trans rfl, (hG3.c 4).trans rfl, (hG3.c 5).trans rfl, (hG3.c 6).trans rfl, (hG3.c 7).trans rfl, (hG3.c 8).trans rfl, (hG3.c 9).trans rfl, (hG3.c 10).trans rfl, (hG3.c 11).trans rfl, (hG3.c 12).trans rfl, (hG3.c 20).trans rfl⟩
  refine hK.out _ _ ?_ (fun hHeld => ?_)
  · exact S3
  clear hK K
  (try simp only [Act.put, List.getElem_toArray, List.getElem_cons_zero, List.getElem_cons_succ, List.setIfInBounds_toArray, List.set_cons_zero, List.set_cons_succ])
  refine wpAnyH_ready (rs := [23]) (by kernel_rfl) (by simp) ?_
  refine AllReadyH.cons rfl (fun K hK => ?_) AllReadyH.nil
  simp only [List.getElem_toArray, List.getElem_cons_zero, List.getElem_cons_succ]
  go_simp
  go_at_call 47; (with_reducible refine (HG.out _).mono ?_); rintro e w4 ⟨rfl, k4⟩; have hF4 : HasF w4 _ f := HasF.below hF3 k4 hF3.lt; have hG4 : HasF w4 _ g := HasF.below hG3 k4 hG3.lt; have S4 : HasF w4 w.heap.size f ∧ HasF w4 (w.heap.size + 1) g ∧ w4.cell? ⟨w.heap.size, 0, none⟩ = some (.int .u8 (f.d 0)) ∧ w4.cell? ⟨w.heap.size, 1, none⟩ = some (.int .u8 (f.d 1)) ∧ w4.cell? ⟨w.heap.size, 2, none⟩ = some (.int .u8 (f.d 2)) ∧ w4.cell? ⟨w.heap.size, 3, none⟩ = some (.int .u8 (f.d 3)) ∧ w4.cell? ⟨w.heap.size, 4, none⟩ = some (.int .u8 (f.d 4)) ∧ w4.cell? ⟨w.heap.size, 5, none⟩ = some (.int .u8 (f.d 5)) ∧ w4.cell? ⟨w.heap.size, 6, none⟩ = some (.int .u8 (f.s 0)) ∧ w4.cell? ⟨w.heap.size, 7, none⟩ = some (.int .u8 (f.s 1)) ∧ w4.cell? ⟨w.heap.size, 8, none⟩ = some (.int .u8 (f.s 2)) ∧ w4.cell? ⟨w.heap.size, 9, none⟩ = some (.int .u8 (f.s 3)) ∧ w4.cell? ⟨w.heap.size, 10, none⟩ = some (.int .u8 (f.s 4)) ∧ w4.cell? ⟨w.heap.size, 11, none⟩ = some (.int .u8 (f.s 5)) ∧ w4.cell? ⟨w.heap.size, 12, none⟩ = some (.slice f.ta f.tl.length f.tc) ∧ w4.cell? ⟨w.heap.size, 20, none⟩ = some (.string f.bo) ∧ w4.cell? ⟨w.heap.size + 1, 0, none⟩ = some (.int .u8 (g.d 0)) ∧ w4.cell? ⟨w.heap.size + 1, 1, none⟩ = some (.int .u8 (g.d 1)) ∧ w4.cell? ⟨w.heap.size + 1, 2, none⟩ = some (.int .u8 (g.d 2)) ∧ w4.cell? ⟨w.heap.size + 1, 3, none⟩ = some (.int .u8 (g.d 3)) ∧ w4.cell? ⟨w.heap.size + 1, 4, none⟩ = some (.int .u8 (g.d 4)) ∧ w4.cell? ⟨w.heap.size + 1, 5, none⟩ = some (.int .u8 (g.d 5)) ∧ w4.cell? ⟨w.heap.size + 1, 6, none⟩ = some (.int .u8 (g.s 0)) ∧ w4.cell? ⟨w.heap.size + 1, 7, none⟩ = some (.int .u8 (g.s 1)) ∧ w4.cell? ⟨w.heap.size + 1, 8, none⟩ = some (.int .u8 (g.s 2)) ∧ w4.cell? ⟨w.heap.size + 1, 9, none⟩ = some (.int .u8 (g.s 3)) ∧ w4.cell? ⟨w.heap.size + 1, 10, none⟩ = some (.int .u8 (g.s 4)) ∧ w4.cell? ⟨w.heap.size + 1, 11, none⟩ = some (.int .u8 (g.s 5)) ∧ w4.cell? ⟨w.heap.size + 1, 12, none⟩ = some (.slice g.ta g.tl.length g.tc) ∧ w4.cell? ⟨w.heap.size + 1, 20, none⟩ = some (.string g.bo) := ⟨hF4, hG4, (hF4.c 0).trans rfl, (hF4.c 1).trans rfl, (hF4.c 2).trans rfl, (hF4.c 3).trans rfl, (hF4.c 4).trans rfl, (hF4.c 5).trans rfl, (hF4.c 6).trans rfl, (hF4.c 7).trans rfl, (hF4.c 8).trans rfl, (hF4.c 9).trans rfl, (hF4.c 10).trans rfl, (hF4.c 11).trans rfl, (hF4.c 12).trans rfl, (hF4.c 20).trans rfl, (hG4.c 0).trans rfl, (hG4.c 1).trans rfl, (hG4.c 2).trans rfl, (hG4.c 3).trans rfl, (hG4.c 4).trans rfl, (hG4.c 5).trans rfl, (hG4.c 6).trans rfl, (hG4.c 7).trans rfl, (hG4.c 8).trans rfl, (hG4.c 9).trans rfl, (hG4.c 10).trans rfl, (hG4.c 11).trans rfl, (hG4.c 12).trans rfl, (hG4.c 20).trans rfl⟩
  refine hK.out _ _ ?_ (fun hHeld => ?_)
  · exact S4
  clear hK K
  (try simp only [Act.put, List.getElem_toArray, List.getElem_cons_zero, List.getElem_cons_succ, List.setIfInBounds_toArray, List.set_cons_zero, List.set_cons_succ])
  refine wpAnyH_take (i := 24) (v := ?_) rfl (by kernel_rfl) (by kernel_rfl) (by kernel_rfl) (fun _ _ _ h => h) (Or.inl ⟨by rfl, ?_⟩) (by assumption) ?_
  rotate_left
  · (intro w hSw; (try dsimp only at hSw); go_simp; (try with_reducible rfl))
  (try simp only [Act.put, List.getElem_toArray, List.getElem_cons_zero, List.getElem_cons_succ, List.setIfInBounds_toArray, List.set_cons_zero, List.set_cons_succ])
  refine wpAnyH_take (i := 25) (v := ?_) rfl (by kernel_rfl) (by kernel_rfl) (by kernel_rfl) (fun _ _ _ h => h) (Or.inl ⟨by rfl, ?_⟩) (by assumption) ?_
  rotate_left
  · (intro w hSw; (try dsimp only at hSw); go_simp; (try with_reducible rfl))
  (try simp only [Act.put, List.getElem_toArray, List.getElem_cons_zero, List.getElem_cons_succ, List.setIfInBounds_toArray, List.set_cons_zero, List.set_cons_succ])
  refine wpAnyH_take (i := 26) (v := ?_) rfl (by kernel_rfl) (by kernel_rfl) (by kernel_rfl) (fun _ _ _ h => h) (Or.inl ⟨by rfl, ?_⟩) (by assumption) ?_
  rotate_left
  · (intro w hSw; (try dsimp only at hSw); go_simp; (try with_reducible rfl))
  (try simp only [Act.put, List.getElem_toArray, List.getElem_cons_zero, List.getElem_cons_succ, List.setIfInBounds_toArray, List.set_cons_zero, List.set_cons_succ])
  refine wpAnyH_take (i := 27) (v := ?_) rfl (by kernel_rfl) (by kernel_rfl) (by kernel_rfl) (fun _ _ _ h => h) (Or.inl ⟨by rfl, ?_⟩) (by assumption) ?_
  rotate_left
  · (intro w hSw; (try dsimp only at hSw); go_simp; (try with_reducible rfl))
  (try simp only [Act.put, List.getElem_toArray, List.getElem_cons_zero, List.getElem_cons_succ, List.setIfInBounds_toArray, List.set_cons_zero, List.set_cons_succ])
  refine wpAnyH_take (i := 28) (v := ?_) rfl (by kernel_rfl) (by kernel_rfl) (by kernel_rfl) (fun _ _ _ h => h) (Or.inl ⟨by rfl, ?_⟩) (by assumption) ?_
  rotate_left
  · (intro w hSw; (try dsimp only at hSw); go_simp; (try with_reducible rfl))
  (try simp only [Act.put, List.getElem_toArray, List.getElem_cons_zero, List.getElem_cons_succ, List.setIfInBounds_toArray, List.set_cons_zero, List.set_cons_succ])
  refine wpAnyH_take (i := 29) (v := ?_) rfl (by kernel_rfl) (by kernel_rfl) (by kernel_rfl) (fun _ _ _ h => h) (Or.inl ⟨by rfl, ?_⟩) (by assumption) ?_
  rotate_left
  · (intro w hSw; (try dsimp only at hSw); go_simp; (try with_reducible rfl))
  (try simp only [Act.put, List.getElem_toArray, List.getElem_cons_zero, List.getElem_cons_succ, List.setIfInBounds_toArray, List.set_cons_zero, List.set_cons_succ])
  refine wpAnyH_take (i := 30) (v := ?_) rfl (by kernel_rfl) (by kernel_rfl) (by kernel_rfl) (fun _ _ _ h => h) (Or.inl ⟨by rfl, ?_⟩) (by assumption) ?_
  rotate_left
  · (intro w hSw; (try dsimp only at hSw); go_simp; (try with_reducible rfl))
  (try simp only [Act.put, List.getElem_toArray, List.getElem_cons_zero, List.getElem_cons_succ, List.setIfInBounds_toArray, List.set_cons_zero, List.set_cons_succ])
  refine wpAnyH_take (i := 31) (v := ?_) rfl (by kernel_rfl) (by kernel_rfl) (by kernel_rfl) (fun _ _ _ h => h) (Or.inl ⟨by rfl, ?_⟩) (by assumption) ?_
  rotate_left
  · (intro w hSw; (try dsimp only at hSw); go_simp; (try with_reducible rfl))
  (try simp only [Act.put, List.getElem_toArray, List.getElem_cons_zero, List.getElem_cons_succ, List.setIfInBounds_toArray, List.set_cons_zero, List.set_cons_succ])
  refine wpAnyH_take (i := 32) (v := ?_) rfl (by kernel_rfl) (by kernel_rfl) (by kernel_rfl) (fun _ _ _ h => h) (Or.inl ⟨by rfl, ?_⟩) (by assumption) ?_
  rotate_left
  · (intro w hSw; (try dsimp only at hSw); go_simp; (try with_reducible rfl))
  (try simp only [Act.put, List.getElem_toArray, List.getElem_cons_zero, List.getElem_cons_succ, List.setIfInBounds_toArray, List.set_cons_zero, List.set_cons_succ])
  refine wpAnyH_take (i := 33) (v := ?_) rfl (by kernel_rfl) (by kernel_rfl) (by kernel_rfl) (fun _ _ _ h => h) (Or.inl ⟨by rfl, ?_⟩) (by assumption) ?_
  rotate_left
  · (intro w hSw; (try dsimp only at hSw); go_simp; (try with_reducible rfl))
  (try simp only [Act.put, List.getElem_toArray, List.getElem_cons_zero, List.getElem_cons_succ, List.setIfInBounds_toArray, List.set_cons_zero, List.set_cons_succ])
  refine wpAnyH_done (by kernel_rfl) ?_ _
  refine NoPanic.normal ?_
  have b2 : Below w.heap.size w w2 := hb0.drew.trans (k2.mono hb0.size)
  have b3 : Below w.heap.size w w3 := b2.trans (k3.mono b2.size)
  have b4 : Below w.heap.size w w4 := b3.trans (k4.mono b3.size)
  clear S1 hF0 hG0 hI0 hJ0 hHeld S2 k2 hF2 hG2 HE S3 k3 hF3 hG3 S4 k4 hF4 hG4 HF HG b2 b3
  go_wp2
  go_ret
  exact ⟨rfl, b4⟩

end Go.Proofs.Ytdceggekhhflgaa

namespace Go.Proofs.Ytdceggekhhflgaa
open Go.RowKit

theorem sameB_seven (f g : Fr) : sameB f g = (eq6 f.d g.d && (eq6 f.s g.s && (tagsEq f.tl g.tl && (same7 f g && (f.bo.toList == g.bo.toList))))) := by
  simp only [sameB, same7, List.all_cons, List.all_nil, nums, Bool.and_true, Bool.and_assoc]

theorem same_any (f g : Fr) (w : World) (hf : FrIn w f) (hg : FrIn w g) :
    Calls Try.prog 25 #[frV f, frV g] w fun e w' => e = .returned (.bool (sameB f g)) ∧ Below w.heap.size w w' := by
  rw [sameB_seven]
  cases h1 : eq6 f.d g.d with
  | false => exact same_0 f g w hf hg h1
  | true =>
    cases h2 : eq6 f.s g.s with
    | false => exact same_1 f g w hf hg h1 h2
    | true =>
      cases h3 : tagsEq f.tl g.tl with
      | false => exact same_2 f g w hf hg h1 h2 h3
      | true =>
        cases h4 : same7 f g with
        | false => exact same_3 f g w hf hg h1 h2 h3 h4
        | true =>
          cases h5 : (f.bo.toList == g.bo.toList) with
          | false => exact same_4 f g w hf hg h1 h2 h3 h4 h5
          | true =>
            exact same_5 f g w hf hg h1 h2 h3 h4 h5

end Go.Proofs.Ytdceggekhhflgaa

namespace Go.Proofs.Ytdceggekhhflgaa
open Go.RowKit
set_option linter.unusedSimpArgs false
set_option linter.unusedVariables false
set_option maxRecDepth 100000

theorem again_out {ps : List Ps} (h : ∀ p ∈ ps, okPs p = true) {k : Nat} (hk : k < ps.length) (h8 : ps.length ≤ 8) {last now : Int} (h0 : 0 ≤ last) (h1 : last ≤ now) (h2 : now ≤ 1000000) (E : List Ent) (hE : E.length ≤ 32) (t : Tr) :
    ∃ l2 E2 out, (∀ ta tc, inM ps 100 last E (k : Int) (carF t ta tc) now = ⟨0, l2, E2, out⟩) ∧ (∀ ta tc, inM ps 100 l2 E2 (k : Int) (carF t ta tc) now = ⟨0, l2, E2, out⟩) ∧ out.length ≤ 8 := by
  have ho := in_out h hk h8 h0 h1 h2 E t none 0
  rcases in_cases h hk h8 h0 h1 h2 E t none 0 with ⟨_, e⟩ | ⟨hd, hv, hv2, e⟩
  · exact ⟨last, E, [], fun ta tc => e, fun ta tc => e, by simp⟩
  · refine ⟨_, _, _, fun ta tc => e, fun ta tc => ?_, ?_⟩
    · rcases in_cases h hk h8 (show 0 ≤ now by omega) (Int.le_refl now) h2 (learnM 100 E (vidM ps (k : Int) (tagM t)) (adF t.frm) (k : Int) now) t none 0 with ⟨hd2, _⟩ | ⟨_, _, _, e2⟩
      · rw [hd] at hd2; cases hd2
      · rw [learn_twice 100 E _ _ _ _ hE] at e2
        exact e2
    · rw [e] at ho
      have hs : ∀ (ids : List Nat), ids.Pairwise (· < ·) → (∀ i ∈ ids, i < ps.length) → ids.length ≤ 8 := fun ids q1 q2 => by
        have n1 : ids.Nodup := List.nodup_iff_pairwise_ne.2 (q1.imp fun q => Nat.ne_of_lt q)
        have n2 : ids ⊆ List.range ps.length := fun i hi => List.mem_range.2 (q2 i hi)
        have := n1.length_le_of_subset n2
        rw [List.length_range] at this
        omega
      exact hs _ ho.1 fun i hi => (ho.2 i hi).lt

theorem tagsEq_self (l : List Tg) : tagsEq l l = true := tagsEq_refl l

theorem same_sent {f : Fr} {ta tb : Option Addr} {tl : List Tg} {tc td : Nat} : sameB { f with ta := ta, tl := tl, tc := tc } { f with ta := tb, tl := tl, tc := td } = true := by
  unfold sameB
  simp [tagsEq_self, eq6]

end Go.Proofs.Ytdceggekhhflgaa

namespace Go.Proofs.Ytdceggekhhflgaa
open Go.RowKit
set_option linter.unusedSimpArgs false
set_option linter.unusedVariables false
set_option maxRecDepth 100000

theorem first_ok (t : Tr) : (0 ≤ (firstT (tagM t)).p ∧ (firstT (tagM t)).p ≤ 7) := by
  unfold tagM
  split
  · exact ⟨show (0 : Int) ≤ 3 by decide, show (3 : Int) ≤ 7 by decide⟩
  · exact ⟨show (0 : Int) ≤ 0 by decide, show (0 : Int) ≤ 7 by decide⟩

theorem sent_right (t : Tr) (vid : Int) (h1 : 1 ≤ vid) (h2 : vid ≤ 4094) (p : Ps) (ta : Option Addr) (tc : Nat) (tb : Option Addr) (td : Nat) : rightB { carF t ta tc with ta := tb, tl := tagsOf (firstT (tagM t)) vid p, tc := td } = true := by
  obtain ⟨q1, q2⟩ := first_ok t
  unfold tagsOf
  cases memB p.bare vid with
  | true => rfl
  | false =>
    have h : okT ⟨false, (firstT (tagM t)).p, (firstT (tagM t)).d, vid⟩ = true := by
      unfold okT
      rw [decide_eq_true q1, decide_eq_true q2, decide_eq_true (show (0 : Int) ≤ vid by omega), decide_eq_true h2]
      rfl
    have hs : stackB [(⟨false, (firstT (tagM t)).p, (firstT (tagM t)).d, vid⟩ : Tg)] = true := by
      unfold stackB
      simp [h]
    unfold rightB
    simp only [Bool.false_eq_true, if_false]
    rw [hs]
    rfl

/-- A port by which a frame leaves: its VID is one. -/
theorem out_vid {ps : List Ps} (h : ∀ p ∈ ps, okPs p = true) (port : Int) (tl : List Tg) (hv : vidM ps port tl ≠ 0) : 1 ≤ vidM ps port tl ∧ vidM ps port tl ≤ 4094 := (vidM_ok h port tl).resolve_left hv

end Go.Proofs.Ytdceggekhhflgaa

namespace Go.Proofs.Ytdceggekhhflgaa.bridgeFrames
open Go.RowKit
attribute [local go_sem ↓] Go.wp_at_zero Go.wp_at_succ
set_option linter.unusedSimpArgs false
set_option linter.unusedVariables false
set_option maxRecDepth 100000

theorem same_self (f : Fr) : sameB f f = true := by
  unfold sameB
  simp [tagsEq_refl, eq6]

set_option maxHeartbeats 6400000 in
theorem walk (a0 : Option Addr) (c0 : Nat) (l0 : List PsH) (a1 : Option Addr) (c1 : Nat) (l1 : List Tr) (t2 : Tr) (W : World) (hin0 : PsIn W a0 l0) (hok0 : ∀ x ∈ l0, PsOk W x) (hl0 : l0.length ≤ maxLen) (hin1 : TrIn W a1 l1) (hl1 : l1.length ≤ maxLen) :
    Calls Try.prog 7 #[.slice a0 l0.length c0, .slice a1 l1.length c1, .agg (trC t2)] W fun e w' => e = .returned (.bool true) ∧ Below W.heap.size W w' := by
  have B0 : Below W.heap.size W (W.alloc (.cells (trC t2) 24)) := (Below.refl _ _).alloc (Nat.le_refl _) _
  have HT1 := Blk.new W 24 (trC t2)
  have HSETS : Hid (∀ w, Below W.heap.size W w → Calls Try.prog 22 #[.slice a0 l0.length c0] w fun e w' => e = .returned (.bool (setsB l0)) ∧ Below w.heap.size w w') := fun w hb => sets_any a0 c0 l0 w (hin0.below hb) (fun x hx => (hok0 x hx).below hb) hl0
  cases hst : setsB l0 with
  | false =>
    rw [hst] at HSETS
    clear hin0 hok0 hin1 hst
    go_enter Try.func7, Try.ntmps7
    go_upto_region 1 with (refine box_blk 24 (trC t2) (by rfl) rfl rfl ?_)
    generalize W.alloc (.cells (trC t2) 24) = w1 at *
    go_wp2_with (first
      | (go_at_call 11; refine (passes_any _).mono ?_; rintro e w2 ⟨rfl, k2⟩; have B2 := B0.trans (k2.mono B0.size))
      | (go_at_call 22; refine (HSETS.out _ B2).mono ?_; rintro e w3 ⟨rfl, k3⟩; have B3 := B2.trans (k3.mono B2.size)))
    go_ret
    exact ⟨rfl, B3⟩
  | true =>
    rw [hst] at HSETS
    obtain ⟨hne, hl8, hr⟩ := setsB_yes hst
    by_cases h60 : 60 < l1.length
    · have e60 : decide ((60 : Int) < (l1.length : Int)) = true := decide_eq_true (by omega)
      clear hin0 hok0 hin1 hst hr
      go_enter Try.func7, Try.ntmps7
      go_upto_region 1 with (refine box_blk 24 (trC t2) (by rfl) rfl rfl ?_)
      generalize W.alloc (.cells (trC t2) 24) = w1 at *
      go_wp2_with (first
        | (go_at_call 11; refine (passes_any _).mono ?_; rintro e w2 ⟨rfl, k2⟩; have B2 := B0.trans (k2.mono B0.size))
        | (go_at_call 22; refine (HSETS.out _ B2).mono ?_; rintro e w3 ⟨rfl, k3⟩; have B3 := B2.trans (k3.mono B2.size)))
      go_ret
      exact ⟨rfl, B3⟩
    have e60 : decide ((60 : Int) < (l1.length : Int)) = false := decide_eq_false (by omega)
    have HSERV : Hid (∀ w, Below W.heap.size W w → Calls Try.prog 12 #[.slice a0 l0.length c0, .slice a1 l1.length c1] w fun e w' => (∃ b t c ad hs, e = .returned (.tuple #[.pointer (some ⟨b, 0, none⟩), .int .i64 (srvM (l0.map PsH.x) l1).2.2]) ∧ hs.map PsH.x = l0.map PsH.x ∧ BrgAt w' w.heap.size b t c ad hs 100 (srvM (l0.map PsH.x) l1).1 (srvM (l0.map PsH.x) l1).2.1) ∧ Below w.heap.size w w') := fun w hb =>
      served_any a0 c0 l0 a1 c1 l1 w (hin0.below hb) (fun x hx => (hok0 x hx).below hb) hl8 hr hne (hin1.below hb) (by omega)
    have HPS : Hid (∀ p ∈ l0.map PsH.x, okPs p = true) := fun p hp => by
      obtain ⟨x, hx, rfl⟩ := List.mem_map.1 hp
      exact hr x hx
    have HSRV := Lib.hid (srvM_ok HPS.out (by rw [List.length_map]; exact hl8) (by rw [List.length_map]; exact hne) l1 (by omega))
    generalize srvM (l0.map PsH.x) l1 = sv at *
    obtain ⟨lE, E, tE⟩ := sv
    have HL8 := Lib.hid hl8
    have HNE := Lib.hid hne
    have HN60 : Hid (l1.length ≤ 60) := by show _ ≤ _; omega
    have hpk := pickN_lt t2.port l0.length hne
    clear hin1 hst hr hl8 hne h60
    go_enter Try.func7, Try.ntmps7
    go_upto_region 1 with (refine box_blk 24 (trC t2) (by rfl) rfl rfl ?_)
    generalize W.alloc (.cells (trC t2) 24) = w1 at *
    go_upto_region 8 with (first
      | (go_at_call 11; refine (passes_any _).mono ?_; rintro e w2 ⟨rfl, k2⟩; have B2 := B0.trans (k2.mono B0.size))
      | (go_at_call 22; refine (HSETS.out _ B2).mono ?_; rintro e w3 ⟨rfl, k3⟩; have B3 := B2.trans (k3.mono B2.size))
      | (go_at_call 12; refine (HSERV.out _ B3).mono ?_; rintro e w4 ⟨⟨b, t, cc, ad, hs, rfl, hmap, hbr⟩, k4⟩))
    have HT4 : Blk w4 W.heap.size 24 (trC t2) := ((HT1.kept k2).kept k3).kept k4
    have B4 := B3.trans (k4.mono B3.size)
    refine Code.wp_mono (Q := fun e a w' => e = .normal ∧ ∃ A ta tc u18 u19 u20 u21 u22 u23 u24 u25 u26 u27 u28 u29 u30 u31 u32 u33 u34 u35 u36 u37 u38 u39 u40 u41 u42, a = { tmps := #[.slice a0 l0.length c0, .slice a1 l1.length c1, .agg (trC t2), undef, undef, .pointer (some ⟨W.heap.size, 0, none⟩), .bool false, .pointer (some ⟨b, 0, none⟩), .int .i64 tE, .pointer (some ⟨A, 0, none⟩), .int .i64 (pickN t2.port l0.length : Nat), undef, undef, undef, undef, undef, undef, undef, u18, u19, u20, u21, u22, u23, u24, u25, u26, u27, u28, u29, u30, u31, u32, u33, u34, u35, u36, u37, u38, u39, u40, u41, u42, undef, undef, undef, undef, undef, undef, undef, undef, undef, undef, undef, undef, undef, undef, undef, undef, undef, undef, undef, undef, undef, undef, undef, undef, undef, undef, undef, undef, undef, undef, undef, undef, undef, undef, undef, undef, undef, undef, undef, undef, undef, undef, undef, undef, undef, undef, undef, undef, undef, undef, undef, undef, undef, undef, undef, undef, undef, undef, undef, undef, undef, undef, undef, undef, undef, undef, undef, undef, undef, undef, undef, undef, undef, undef, undef, undef, undef, undef, undef, undef, undef, undef, undef, undef, undef], defers := [] } ∧ Blk w' A 36 (frC (carF t2 ta tc)) ∧ w4.heap.size ≤ A ∧ TgRow w' ta (tagM t2) tc ∧ Blk w' W.heap.size 24 (trC t2) ∧ Below w4.heap.size w4 w') ?_ ?_
    rotate_left
    · skip
      refine wp_region_noPanic ?_
      refine wp_region_held_drew (S := (fun w' => Blk w' W.heap.size 24 (trC t2) ∧ Below w4.heap.size w4 w')) (by kernel_rfl) ?_ (fun hHeld => ?_)
      · exact ⟨HT4, (Below.refl _ _).drew⟩
      refine wpAnyH_take (i := 0) (v := .agg (trC t2)) rfl (by kernel_rfl) (by kernel_rfl) (by kernel_rfl) (fun _ _ _ h => h) (Or.inl ⟨by rfl, fun w hSw => exec_load_blk (k := 0) 24 (trC t2) rfl rfl hSw.1 (by kernel_rfl) (by kernel_rfl) rfl⟩) (by assumption) ?_
      (try simp only [Act.put, List.getElem_toArray, List.getElem_cons_zero, List.getElem_cons_succ, List.setIfInBounds_toArray, List.set_cons_zero, List.set_cons_succ])
      refine wpAnyH_take (i := 2) (v := ?_) rfl (by kernel_rfl) (by kernel_rfl) (by kernel_rfl) (fun _ _ _ h => h) (Or.inl ⟨by rfl, ?_⟩) (by assumption) ?_
      rotate_left
      · (intro w hSw; (try dsimp only at hSw); go_simp; (try with_reducible rfl))
      (try simp only [Act.put, List.getElem_toArray, List.getElem_cons_zero, List.getElem_cons_succ, List.setIfInBounds_toArray, List.set_cons_zero, List.set_cons_succ])
      refine wpAnyH_take (i := 3) (v := .int .i64 t2.port) rfl (by kernel_rfl) (by kernel_rfl) (by kernel_rfl) (fun _ _ _ h => h) (Or.inl ⟨by rfl, fun w hSw => by have c := hSw.1.cv 0 (.int .i64 t2.port) rfl; go_simp⟩) (by assumption) ?_
      (try simp only [Act.put, List.getElem_toArray, List.getElem_cons_zero, List.getElem_cons_succ, List.setIfInBounds_toArray, List.set_cons_zero, List.set_cons_succ])
      refine wpAnyH_take (i := 4) (v := ?_) rfl (by kernel_rfl) (by kernel_rfl) (by kernel_rfl) (fun _ _ _ h => h) (Or.inl ⟨by rfl, ?_⟩) (by assumption) ?_
      rotate_left
      · (intro w hSw; (try dsimp only at hSw); go_simp; (try with_reducible rfl))
      (try simp only [Act.put, List.getElem_toArray, List.getElem_cons_zero, List.getElem_cons_succ, List.setIfInBounds_toArray, List.set_cons_zero, List.set_cons_succ])
      refine wpAnyH_take (i := 5) (v := ?_) rfl (by kernel_rfl) (by kernel_rfl) (by kernel_rfl) (fun _ _ _ h => h) (Or.inl ⟨by rfl, ?_⟩) (by assumption) ?_
      rotate_left
      · (intro w hSw; (try dsimp only at hSw); go_simp; (try with_reducible rfl))
      (try simp only [Act.put, List.getElem_toArray, List.getElem_cons_zero, List.getElem_cons_succ, List.setIfInBounds_toArray, List.set_cons_zero, List.set_cons_succ])
      refine wpAnyH_ready (rs := [1, 7]) (by kernel_rfl) (by simp) ?_
      refine (AllReadyH.cons rfl (fun K hK => ?_) (AllReadyH.cons rfl (fun K hK => ?_) AllReadyH.nil))
      · skip
        simp only [List.getElem_toArray, List.getElem_cons_zero, List.getElem_cons_succ]
        go_simp
        refine (carried_any t2 _).mono ?_
        rintro e w5 ⟨⟨ta, tc, rfl, hTg⟩, k5⟩
        have hS := hHeld.1.kept k5
        have BK := hHeld.2.trans (k5.mono hHeld.2.size)
        refine hK.out _ _ ?_ (fun hHeld => ?_)
        · exact ⟨hS, BK⟩
        clear hK K
        (try simp only [Act.put, List.getElem_toArray, List.getElem_cons_zero, List.getElem_cons_succ, List.setIfInBounds_toArray, List.set_cons_zero, List.set_cons_succ])
        refine wpAnyH_ready (rs := [6, 7]) (by kernel_rfl) (by simp) ?_
        refine (AllReadyH.cons rfl (fun K hK => ?_) (AllReadyH.cons rfl (fun K hK => ?_) AllReadyH.nil))
        · skip
          simp only [List.getElem_toArray, List.getElem_cons_zero, List.getElem_cons_succ]
          go_simp
          refine (pick_val t2.port l0.length _ HNE.out (Nat.le_trans HL8.out (by decide))).mono ?_
          rintro e w' ⟨rfl, rfl⟩
          refine hK.out _ _ ?_ (fun hHeld => ?_)
          · exact hHeld
          clear hK K
          (try simp only [Act.put, List.getElem_toArray, List.getElem_cons_zero, List.getElem_cons_succ, List.setIfInBounds_toArray, List.set_cons_zero, List.set_cons_succ])
          refine wpAnyH_ready (rs := [7]) (by kernel_rfl) (by simp) ?_
          refine AllReadyH.cons rfl (fun K hK => ?_) AllReadyH.nil
          simp only [List.getElem_toArray, List.getElem_cons_zero, List.getElem_cons_succ]
          rw [if_pos (by rfl)]
          refine wp_alloc_opF 36 (frC zFr) rfl Try.frZeroB ?_
          rintro A w6 hA HA k6
          have hAlo : w4.heap.size ≤ A := by rw [hA]; exact hHeld.2.size
          have k6' := k6
          rw [hA] at k6'
          replace hA := Lib.hid hA
          have hS := hHeld.1.kept k6'
          have BK := hHeld.2.trans (k6'.mono hHeld.2.size)
          have hTg := hTg.kept k6'
          refine hK.out _ _ ?_ (fun hHeld => ?_)
          · exact ⟨hS, BK⟩
          clear hK K
          (try simp only [Act.put, List.getElem_toArray, List.getElem_cons_zero, List.getElem_cons_succ, List.setIfInBounds_toArray, List.set_cons_zero, List.set_cons_succ])
          refine wpAnyH_ready (rs := [8]) (by kernel_rfl) (by simp) ?_
          refine AllReadyH.cons rfl (fun K hK => ?_) AllReadyH.nil
          simp only [List.getElem_toArray, List.getElem_cons_zero, List.getElem_cons_succ]
          rw [if_pos (by rfl)]
          refine wp_store_op (k := 0) 36 (frV (carF t2 ta tc)) (frC (carF t2 ta tc)) rfl rfl rfl HA (by kernel_rfl) (show (21 : Nat) ≤ 21 from Nat.le_refl 21) (by rfl) (st_whole' _ _ rfl) (fun w9 HA9 b9 g9 => ?_)
          have hS := hHeld.1.grown g9 (by intro e; have := HT4.lt; cases e; omega)
          have BK := hHeld.2.trans (b9.mono hAlo)
          have hTg9 := hTg.keep fun g C q => g9.block g q.lt (by intro e; cases e; exact absurd (blk_type q HA) (by decide))
          refine hK.out _ _ ?_ (fun hHeld => ?_)
          · exact ⟨hS, BK⟩
          clear hK K
          (try simp only [Act.put, List.getElem_toArray, List.getElem_cons_zero, List.getElem_cons_succ, List.setIfInBounds_toArray, List.set_cons_zero, List.set_cons_succ])
          refine wpAnyH_take (i := 9) (v := ?_) rfl (by kernel_rfl) (by kernel_rfl) (by kernel_rfl) (fun _ _ _ h => h) (Or.inl ⟨by rfl, ?_⟩) (by assumption) ?_
          rotate_left
          · (intro w hSw; (try dsimp only at hSw); go_simp; (try with_reducible rfl))
          (try simp only [Act.put, List.getElem_toArray, List.getElem_cons_zero, List.getElem_cons_succ, List.setIfInBounds_toArray, List.set_cons_zero, List.set_cons_succ])
          refine wpAnyH_done (by kernel_rfl) ?_ _
          refine NoPanic.normal ?_
          exact ⟨rfl, _, _, _, _, _, _, _, _, _, _, _, _, _, _, _, _, _, _, _, _, _, _, _, _, _, _, _, _, rfl, HA9, hAlo, hTg9, hHeld.1, hHeld.2⟩
        · skip
          simp only [List.getElem_toArray, List.getElem_cons_zero, List.getElem_cons_succ]
          rw [if_pos (by rfl)]
          refine wp_alloc_opF 36 (frC zFr) rfl Try.frZeroB ?_
          rintro A w6 hA HA k6
          have hAlo : w4.heap.size ≤ A := by rw [hA]; exact hHeld.2.size
          have k6' := k6
          rw [hA] at k6'
          replace hA := Lib.hid hA
          have hS := hHeld.1.kept k6'
          have BK := hHeld.2.trans (k6'.mono hHeld.2.size)
          have hTg := hTg.kept k6'
          refine hK.out _ _ ?_ (fun hHeld => ?_)
          · exact ⟨hS, BK⟩
          clear hK K
          (try simp only [Act.put, List.getElem_toArray, List.getElem_cons_zero, List.getElem_cons_succ, List.setIfInBounds_toArray, List.set_cons_zero, List.set_cons_succ])
          refine wpAnyH_ready (rs := [6]) (by kernel_rfl) (by simp) ?_
          refine AllReadyH.cons rfl (fun K hK => ?_) AllReadyH.nil
          simp only [List.getElem_toArray, List.getElem_cons_zero, List.getElem_cons_succ]
          go_simp
          refine (pick_val t2.port l0.length _ HNE.out (Nat.le_trans HL8.out (by decide))).mono ?_
          rintro e w' ⟨rfl, rfl⟩
          refine hK.out _ _ ?_ (fun hHeld => ?_)
          · exact hHeld
          clear hK K
          (try simp only [Act.put, List.getElem_toArray, List.getElem_cons_zero, List.getElem_cons_succ, List.setIfInBounds_toArray, List.set_cons_zero, List.set_cons_succ])
          refine wpAnyH_ready (rs := [8]) (by kernel_rfl) (by simp) ?_
          refine AllReadyH.cons rfl (fun K hK => ?_) AllReadyH.nil
          simp only [List.getElem_toArray, List.getElem_cons_zero, List.getElem_cons_succ]
          rw [if_pos (by rfl)]
          refine wp_store_op (k := 0) 36 (frV (carF t2 ta tc)) (frC (carF t2 ta tc)) rfl rfl rfl HA (by kernel_rfl) (show (21 : Nat) ≤ 21 from Nat.le_refl 21) (by rfl) (st_whole' _ _ rfl) (fun w9 HA9 b9 g9 => ?_)
          have hS := hHeld.1.grown g9 (by intro e; have := HT4.lt; cases e; omega)
          have BK := hHeld.2.trans (b9.mono hAlo)
          have hTg9 := hTg.keep fun g C q => g9.block g q.lt (by intro e; cases e; exact absurd (blk_type q HA) (by decide))
          refine hK.out _ _ ?_ (fun hHeld => ?_)
          · exact ⟨hS, BK⟩
          clear hK K
          (try simp only [Act.put, List.getElem_toArray, List.getElem_cons_zero, List.getElem_cons_succ, List.setIfInBounds_toArray, List.set_cons_zero, List.set_cons_succ])
          refine wpAnyH_take (i := 9) (v := ?_) rfl (by kernel_rfl) (by kernel_rfl) (by kernel_rfl) (fun _ _ _ h => h) (Or.inl ⟨by rfl, ?_⟩) (by assumption) ?_
          rotate_left
          · (intro w hSw; (try dsimp only at hSw); go_simp; (try with_reducible rfl))
          (try simp only [Act.put, List.getElem_toArray, List.getElem_cons_zero, List.getElem_cons_succ, List.setIfInBounds_toArray, List.set_cons_zero, List.set_cons_succ])
          refine wpAnyH_done (by kernel_rfl) ?_ _
          refine NoPanic.normal ?_
          exact ⟨rfl, _, _, _, _, _, _, _, _, _, _, _, _, _, _, _, _, _, _, _, _, _, _, _, _, _, _, _, _, rfl, HA9, hAlo, hTg9, hHeld.1, hHeld.2⟩
      · skip
        simp only [List.getElem_toArray, List.getElem_cons_zero, List.getElem_cons_succ]
        rw [if_pos (by rfl)]
        refine wp_alloc_opF 36 (frC zFr) rfl Try.frZeroB ?_
        rintro A w6 hA HA k6
        have hAlo : w4.heap.size ≤ A := by rw [hA]; exact hHeld.2.size
        have k6' := k6
        rw [hA] at k6'
        replace hA := Lib.hid hA
        have hS := hHeld.1.kept k6'
        have BK := hHeld.2.trans (k6'.mono hHeld.2.size)
        refine hK.out _ _ ?_ (fun hHeld => ?_)
        · exact ⟨hS, BK⟩
        clear hK K
        (try simp only [Act.put, List.getElem_toArray, List.getElem_cons_zero, List.getElem_cons_succ, List.setIfInBounds_toArray, List.set_cons_zero, List.set_cons_succ])
        refine wpAnyH_ready (rs := [1]) (by kernel_rfl) (by simp) ?_
        refine AllReadyH.cons rfl (fun K hK => ?_) AllReadyH.nil
        simp only [List.getElem_toArray, List.getElem_cons_zero, List.getElem_cons_succ]
        go_simp
        refine (carried_any t2 _).mono ?_
        rintro e w5 ⟨⟨ta, tc, rfl, hTg⟩, k5⟩
        have hS := hHeld.1.kept k5
        have BK := hHeld.2.trans (k5.mono hHeld.2.size)
        have HA := HA.kept k5
        refine hK.out _ _ ?_ (fun hHeld => ?_)
        · exact ⟨hS, BK⟩
        clear hK K
        (try simp only [Act.put, List.getElem_toArray, List.getElem_cons_zero, List.getElem_cons_succ, List.setIfInBounds_toArray, List.set_cons_zero, List.set_cons_succ])
        refine wpAnyH_ready (rs := [6]) (by kernel_rfl) (by simp) ?_
        refine AllReadyH.cons rfl (fun K hK => ?_) AllReadyH.nil
        simp only [List.getElem_toArray, List.getElem_cons_zero, List.getElem_cons_succ]
        go_simp
        refine (pick_val t2.port l0.length _ HNE.out (Nat.le_trans HL8.out (by decide))).mono ?_
        rintro e w' ⟨rfl, rfl⟩
        refine hK.out _ _ ?_ (fun hHeld => ?_)
        · exact hHeld
        clear hK K
        (try simp only [Act.put, List.getElem_toArray, List.getElem_cons_zero, List.getElem_cons_succ, List.setIfInBounds_toArray, List.set_cons_zero, List.set_cons_succ])
        refine wpAnyH_ready (rs := [8]) (by kernel_rfl) (by simp) ?_
        refine AllReadyH.cons rfl (fun K hK => ?_) AllReadyH.nil
        simp only [List.getElem_toArray, List.getElem_cons_zero, List.getElem_cons_succ]
        rw [if_pos (by rfl)]
        refine wp_store_op (k := 0) 36 (frV (carF t2 ta tc)) (frC (carF t2 ta tc)) rfl rfl rfl HA (by kernel_rfl) (show (21 : Nat) ≤ 21 from Nat.le_refl 21) (by rfl) (st_whole' _ _ rfl) (fun w9 HA9 b9 g9 => ?_)
        have hS := hHeld.1.grown g9 (by intro e; have := HT4.lt; cases e; omega)
        have BK := hHeld.2.trans (b9.mono hAlo)
        have hTg9 := hTg.keep fun g C q => g9.block g q.lt (by intro e; cases e; exact absurd (blk_type q HA) (by decide))
        refine hK.out _ _ ?_ (fun hHeld => ?_)
        · exact ⟨hS, BK⟩
        clear hK K
        (try simp only [Act.put, List.getElem_toArray, List.getElem_cons_zero, List.getElem_cons_succ, List.setIfInBounds_toArray, List.set_cons_zero, List.set_cons_succ])
        refine wpAnyH_take (i := 9) (v := ?_) rfl (by kernel_rfl) (by kernel_rfl) (by kernel_rfl) (fun _ _ _ h => h) (Or.inl ⟨by rfl, ?_⟩) (by assumption) ?_
        rotate_left
        · (intro w hSw; (try dsimp only at hSw); go_simp; (try with_reducible rfl))
        (try simp only [Act.put, List.getElem_toArray, List.getElem_cons_zero, List.getElem_cons_succ, List.setIfInBounds_toArray, List.set_cons_zero, List.set_cons_succ])
        refine wpAnyH_done (by kernel_rfl) ?_ _
        refine NoPanic.normal ?_
        exact ⟨rfl, _, _, _, _, _, _, _, _, _, _, _, _, _, _, _, _, _, _, _, _, _, _, _, _, _, _, _, _, rfl, HA9, hAlo, hTg9, hHeld.1, hHeld.2⟩
    rintro e a w8 ⟨rfl, A, ta, tc, u18, u19, u20, u21, u22, u23, u24, u25, u26, u27, u28, u29, u30, u31, u32, u33, u34, u35, u36, u37, u38, u39, u40, u41, u42, rfl, HF8, hAlo, hTg8, HT8, k8⟩
    have hbr8 := hbr.kept k8
    have B8 := B4.trans (k8.mono B4.size)
    have hlo8 : w3.heap.size ≤ w8.heap.size := Nat.le_trans k4.size k8.size
    have hBW := B3.size
    have h0 := HSRV.out.last0
    have h1 := HSRV.out.last1
    have h2 := HSRV.out.now
    simp only at h0 h1 h2
    have HPL : Hid ((l0.map PsH.x).length ≤ 8) := by show _ ≤ _; rw [List.length_map]; exact HL8.out
    have HKL : Hid (pickN t2.port l0.length < (l0.map PsH.x).length) := by show _ < _; rw [List.length_map]; exact hpk
    have HT6 : Hid (tE ≤ 1000000) := by show _ ≤ _; have := HN60.out; omega
    have HERR : Hid ((inM (l0.map PsH.x) 100 lE E (pickN t2.port l0.length : Nat) (carF t2 ta tc) tE).err = 0) := (in_fine HPS.out HKL.out HPL.out h0 h1 HT6.out E t2 ta tc).1
    have HOUT := Lib.hid (in_out HPS.out HKL.out HPL.out h0 h1 HT6.out E t2 ta tc)
    have hfr : ∀ w, TagsIn w ta (tagM t2) → FrIn w (carF t2 ta tc) := fun w h => ⟨h, Nat.le_trans (tagM_short t2) (by decide), hTg8.cap.1, show (4 : Nat) ≤ 3000 by decide⟩
    have HVC : Hid (∀ w, BrgAt w w3.heap.size b t cc ad hs 100 lE E → TagsIn w ta (tagM t2) → Calls Try.prog 18 #[.pointer (some ⟨b, 0, none⟩), .int .i64 (pickN t2.port l0.length : Nat), .agg (frC (carF t2 ta tc))] w fun e w' => e = .returned (.int .i64 (vidM (l0.map PsH.x) (pickN t2.port l0.length : Nat) (tagM t2))) ∧ Below w.heap.size w w') := fun w h q => by
      have := vid_any (pickN t2.port l0.length : Nat) (carF t2 ta tc) w h q (Nat.le_trans (tagM_short t2) (by decide))
      rw [hmap] at this
      exact this
    have HIC : Hid (∀ w, BrgAt w w3.heap.size b t cc ad hs 100 lE E → TgRow w ta (tagM t2) tc → w3.heap.size ≤ w.heap.size → Calls Try.prog 17 #[.pointer (some ⟨b, 0, none⟩), .int .i64 (pickN t2.port l0.length : Nat), .agg (frC (carF t2 ta tc)), .int .i64 tE] w fun e w' => InPost w3.heap.size b t cc ad hs 100 lE E (pickN t2.port l0.length : Nat) tE (carF t2 ta tc) w e w') := fun w h q hb =>
      in_any (pickN t2.port l0.length : Nat) tE (carF t2 ta tc) w h (hfr w q.inL) (q.toK _) (dstF_lt t2) (adF_lt _) hb
    go_upto_region 11 with (first
      | (refine load_blk 36 (frC (carF t2 ta tc)) (by rfl) rfl rfl HF8 (by kernel_rfl) (by kernel_rfl) (by rfl) ?_)
      | (go_at_call 18; refine (HVC.out _ hbr8 hTg8.inL).mono ?_; rintro e w9 ⟨rfl, k9⟩; have HF9 := HF8.kept k9; have hbr9 := hbr8.kept k9; have hTg9 := hTg8.kept k9)
      | (refine load_blk 36 (frC (carF t2 ta tc)) (by rfl) rfl rfl HF9 (by kernel_rfl) (by kernel_rfl) (by rfl) ?_)
      | (go_at_call 17; refine (HIC.out _ hbr9 hTg9 (Nat.le_trans hlo8 k9.size)).mono ?_; rintro e w10 ⟨v, ss, rfl, ho, hss, hbr10, hx10⟩; obtain ⟨aS, cS, rfl, hIS⟩ := ho.inL; rw [hmap] at hss hbr10; rw [hmap, HERR.out, show errV 0 = .nilIface from rfl]))
    have B10 := (B8.trans (k9.mono B8.size)).trans ((hx10.below (Nat.le_trans hlo8 k9.size)).mono hBW)
    have HIDS := HOUT.out
    generalize (inM (l0.map PsH.x) 100 lE E (pickN t2.port l0.length : Nat) (carF t2 ta tc) tE).out = ids at *
    have HLEN := Lib.hid hss.len
    have HSS := Lib.hid hss
    have hVok := fun h => out_vid HPS.out (pickN t2.port l0.length : Nat) (tagM t2) h
    generalize hV : vidM (l0.map PsH.x) (pickN t2.port l0.length : Nat) (tagM t2) = V at *
    have hV' : vidM (l0.map PsH.x) (pickN t2.port l0.length : Nat) (carF t2 ta tc).tl = V := hV
    rw [hV'] at HSS hss
    clear hV hV'
    have hll : ss.length ≤ 9223372036854775807 := by
      have h1 := HLEN.out
      have h2 : ids.length ≤ 1000000 := by
        have := (List.nodup_iff_pairwise_ne.2 (HIDS.1.imp (fun h => Nat.ne_of_lt h)))
        have h3 : ids.length ≤ 8 := by
          have hsub : ids ⊆ List.range 8 := fun i hi => List.mem_range.2 (Nat.lt_of_lt_of_le (HIDS.2 i hi).lt HPL.out)
          have := this.length_le_of_subset hsub
          simpa using this
        omega
      omega
    have HLL := Lib.hid hll
    have HF10 := hx10.blk HF9 (by decide)
    have hTg10 := hTg9.keep (w' := w10) (fun g C q => (hx10.blk q (by decide)).trans q.symm)
    clear HVC HIC HERR HOUT hbr10 hx10 hss ho HF8 HF9 hTg8 hTg9 hbr8 hbr9 HT8 hlo8 hfr
    go_wp2
    go_loopw [57] (fun s57 wr => ∃ k : Nat, k ≤ ss.length ∧ s57 = .int .i64 k ∧ Below w10.heap.size w10 wr) (fun i _ => ss.length - (intOf i).toNat)
    case atStart => exact ⟨0, by omega, rfl, Below.refl _ _⟩
    case round =>
     obtain ⟨k, hk, rfl, Bk⟩ := hrel
     by_cases hlt : k < ss.length
     · skip
       have hIk := hIS.below Bk
       obtain ⟨bb, lo, rfl, hbl, hat⟩ := hIk.at hlt
       have q1 : (k : Int) < (ss.length : Int) := by omega
       have q2 : decide ((k : Int) < (ss.length : Int)) = true := decide_eq_true q1
       have q3 : (0 : Int) ≤ (k : Int) := by omega
       have q4 : IntKind.i64.wrap ((k : Int) + 1) = (k : Int) + 1 := by have := HLL.out; rw [IntKind.wrap_i64] <;> omega
       have HK := hat k hlt
       have hki : k < ids.length := by have := HLEN.out; omega
       have hsk := (HSS.out.get k hki hlt)
       have hO := HIDS.2 ids[k] (List.getElem_mem hki)
       have hlast := lastOf_lt HIDS.1 hki
       have HSUC := Lib.hid (lastOf_succ hki)
       generalize hlastE : lastOf ids k = lst at *
       generalize ss[k] = s at *
       generalize ids[k] = i at *
       have hi0 : i < l0.length := by have := hO.lt; rwa [List.length_map] at this
       have hP := hin0.below (B10.trans (Bk.mono B10.size))
       obtain ⟨pb, plo, rfl, hpb, hpat⟩ := hP.at hi0
       have hgi : (l0.map PsH.x).getD i zPs = l0[i].x := by simp [hi0]
       have hgk : (l0.map PsH.x).getD (pickN t2.port l0.length) zPs = l0[pickN t2.port l0.length].x := by simp [hpk]
       have c2i := hpat i hi0 2 _ rfl
       have hok := (hok0 _ (List.getElem_mem hi0)).below (B10.trans (Bk.mono B10.size))
       obtain ⟨sp, sf⟩ := s
       obtain ⟨hsp, tb, td, hsf, hTs⟩ := hsk
       simp only at hsp hsf
       subst hsp
       subst hsf
       have hv := hO.vid0
       have f1 : decide ((i : Int) < 0) = false := decide_eq_false (by omega)
       have f3 : decide ((l0.length : Int) ≤ (i : Int)) = false := decide_eq_false (by omega)
       have f3n : decide (l0.length ≤ i) = false := decide_eq_false (by omega)
       have f5 : (i : Int) < (l0.length : Int) := by omega
       have f6 : (0 : Int) ≤ (i : Int) := by omega
       have hV0 := hVok hv
       generalize l0[i] = x at *
       rw [hgi, show (carF t2 ta tc).tl = tagM t2 from rfl] at hTs HK
       have hRB0 := fun tb td => sent_right t2 V hV0.1 hV0.2 x.x ta tc tb td
       replace hTs := hTs.kept Bk
       have HFr := HF10.kept Bk
       have hTgr := hTg10.kept Bk
       have hW10 := B10.size
       generalize hTLe : tagsOf (firstT (tagM t2)) V x.x = TL at *
       have hRB := hRB0 tb td
       have hGlo : W.heap.size ≤ wr.heap.size := Nat.le_trans hW10 Bk.size
       clear hat hIk hO hlast hpat hP hgi hgk hbl hin0 hok0 hRB0 hv hV0 HF10 hTg10 HSUC hlastE hIS HSS HIDS
       cases hbare : memB x.x.bare V with
       | true =>
         have hTL : TL = [] := by
           rw [← hTLe]
           unfold tagsOf
           rw [hbare]
           rfl
         subst hTL
         clear hTLe
         obtain ⟨FV, hFX⟩ : ∃ FV : Fr, { carF t2 ta tc with ta := tb, tl := [], tc := td } = FV := ⟨_, rfl⟩
         rw [hFX] at HK hRB
         have q12 : ∀ (w : World) (B : Nat), Blk w B 36 (frC FV) → w.cell? ⟨B, 12, none⟩ = some (.slice (tb) 0 td) := fun w B h => by
           rw [← hFX] at h
           exact h.cv 12 _ rfl
         have HQ12 := Lib.hid q12
         have HSTC : Hid (((frC FV).toList.take 12 ++ (Value.slice ta (tagM t2).length tc).cells.toList ++ (frC FV).toList.drop (12 + (Value.slice ta (tagM t2).length tc).cells.toList.length)).toArray = frC (carF t2 ta tc)) := by
           show _ = _
           rw [← hFX]
           rfl
         have HFI : Hid (∀ w, TgRow w (tb) [] td → FrIn w FV) := fun w h => by
           rw [← hFX]
           exact ⟨h.inL, Nat.le_trans h.cap.2 (by decide), h.cap.1, show (4 : Nat) ≤ 3000 by decide⟩
         clear hFX q12
         have HA4 := Blk.new wr 48 (snC zSnH)
         have b4 : Below wr.heap.size wr (wr.alloc (.cells (snC zSnH) 48)) := (Below.refl _ _).alloc (Nat.le_refl _) _
         go_upto_region 14 with (first
           | (refine load_cells (B := bb) (k := lo + k * 22) 48 (snC ⟨(i : Int), FV⟩) (by rfl) rfl rfl HK (by kernel_rfl) (by kernel_rfl) ?_)
           | (refine alloc_blk 48 (snC zSnH) (by rfl) rfl Try.snZero ?_)
           | (refine store_blk (B := wr.heap.size) (k := 0) 48 (.agg (snC ⟨(i : Int), FV⟩)) (snC ⟨(i : Int), FV⟩) (by rfl) rfl rfl rfl HA4 (by kernel_rfl) (show (22 : Nat) ≤ 22 from Nat.le_refl 22) (by rfl) (st_whole' _ _ rfl) ?_; intro w5 HN5 b5 g5))
         have k1 := b4.trans b5
         have HA5 := Blk.new w5 36 (frC zFr)
         have a5 : Below w5.heap.size w5 (w5.alloc (.cells (frC zFr) 36)) := (Below.refl _ _).alloc (Nat.le_refl _) _
         go_upto_region 15 with (first
           | (refine load_blk (k := 1) 36 (frC FV) (by rfl) rfl rfl HN5 (by kernel_rfl) (by kernel_rfl) (by rfl) ?_)
           | (refine alloc_blk 36 (frC zFr) (by rfl) rfl Try.frZeroB ?_)
           | (refine store_blk (B := w5.heap.size) (k := 0) 36 (frV FV) (frC FV) (by rfl) rfl rfl rfl HA5 (by kernel_rfl) (show (21 : Nat) ≤ 21 from Nat.le_refl 21) (by rfl) (st_whole' _ _ rfl) ?_; intro w6 HG6 b6 g6))
         have k2 := a5.trans b6
         have n0 := (HN5.kept k2).cv 0 (.int .i64 (i : Int)) rfl
         have k12 := k1.trans (k2.mono k1.size)
         have d2i := (k12.cell hpb).trans c2i
         have hok6 := (hok.below k12)
         have HF6 := HFr.kept k12
         have hGG := Nat.le_trans Bk.size k1.size
         have hAG : A < w5.heap.size := Nat.lt_of_lt_of_le HFr.lt k1.size
         have HC6 := Lib.hid (containsIv_any x.ba x.bc x.x.bare V w6 hok6.b (Nat.le_trans hok6.bc hok6.bm))
         rw [hbare] at HC6
         have hTs6 := hTs.kept k12
         have HR6 := right_frame FV w6 (HFI.out w6 hTs6)
         rw [hRB] at HR6
         have HRI := Lib.hid HR6
         have hTg6 := hTgr.kept k12
         have B6 := Bk.trans (k12.mono Bk.size)
         have g12 := HQ12.out w6 _ HG6
         clear HR6 HA4 HA5 b4 b5 g5 a5 b6 g6 k1 k2 k12 HN5 c2i hok hok6 HFr hTs hTs6 hTgr HK hRB Bk
         generalize w5.heap.size = G at *
         generalize wr.heap.size = N at *
         go_wp2_with (first
           | go_big_skip
           | (go_at_call 32; refine HC6.out.mono ?_; rintro e w' ⟨rfl, rfl⟩)
           | (refine load_blk 36 (frC FV) (by rfl) rfl rfl HG6 (by kernel_rfl) (by kernel_rfl) (by rfl) ?_)
           | (go_at_call 33; refine HRI.out.mono ?_; rintro e w7 ⟨rfl, k7⟩; have HG7 := HG6.kept k7; have HF7 := HF6.kept k7; have h12 := HQ12.out w7 G HG7; have f12 := HF7.cv 12 (.slice ta (tagM t2).length tc) rfl; have hTg7 := hTg6.kept k7; have B7 := B6.trans (k7.mono B6.size))
           | (refine store_blk (B := G) (k := 12) 34 (.slice ta (tagM t2).length tc) (frC (carF t2 ta tc)) (by rfl) rfl rfl rfl HG7 (by kernel_rfl) (show (13 : Nat) ≤ 21 by decide) (by rfl) HSTC.out ?_; intro w8 HG8 b8 g8; have HF8 := HF7.grown g8 (by intro e; cases e; exact absurd hAG (Nat.lt_irrefl _)); have hTg8 := hTg7.keep (w' := w8) (fun g C q => g8.block g q.lt (by intro e; cases e; exact absurd (blk_type q HG7) (by decide))); have B8 := B7.trans (b8.mono hGG); have HSM := Lib.hid (same_any (carF t2 ta tc) (carF t2 ta tc) w8 ⟨hTg8.inL, Nat.le_trans (tagM_short t2) (by decide), hTg8.cap.1, show (4 : Nat) ≤ 3000 by decide⟩ ⟨hTg8.inL, Nat.le_trans (tagM_short t2) (by decide), hTg8.cap.1, show (4 : Nat) ≤ 3000 by decide⟩))
           | (refine load_blk 36 (frC (carF t2 ta tc)) (by rfl) rfl rfl HF8 (by kernel_rfl) (by kernel_rfl) (by rfl) ?_)
           | (refine load_blk 36 (frC (carF t2 ta tc)) (by rfl) rfl rfl HG8 (by kernel_rfl) (by kernel_rfl) (by rfl) ?_)
           | (go_at_call 25; refine HSM.out.mono ?_; rintro e w9 ⟨rfl, k9⟩; rw [same_self]))
         go_roundw
         case rel => exact ⟨k + 1, by omega, by go_num, B8.trans (k9.mono (Nat.le_trans B7.size b8.size))⟩
         case measure => simp [intOf]; omega
       | false =>
         have hTL : TL = [⟨false, (firstT (tagM t2)).p, (firstT (tagM t2)).d, V⟩] := by
           rw [← hTLe]
           unfold tagsOf
           rw [hbare]
           rfl
         subst hTL
         clear hTLe
         obtain ⟨gt, rfl, hgt⟩ : ∃ gt, tb = some ⟨gt, 0, none⟩ ∧ Blk wr gt 68 (tgC ⟨false, (firstT (tagM t2)).p, (firstT (tagM t2)).d, V⟩) := by
           rcases hTs with ⟨h, _⟩ | ⟨t', g, h1, h2, _, h4⟩
           · cases h
           · cases h1; exact ⟨g, h2, h4⟩
         obtain ⟨FV, hFX⟩ : ∃ FV : Fr, { carF t2 ta tc with ta := some ⟨gt, 0, none⟩, tl := [⟨false, (firstT (tagM t2)).p, (firstT (tagM t2)).d, V⟩], tc := td } = FV := ⟨_, rfl⟩
         rw [hFX] at HK hRB
         have q12 : ∀ (w : World) (B : Nat), Blk w B 36 (frC FV) → w.cell? ⟨B, 12, none⟩ = some (.slice (some ⟨gt, 0, none⟩) 1 td) := fun w B h => by
           rw [← hFX] at h
           exact h.cv 12 _ rfl
         have HQ12 := Lib.hid q12
         have HSTC : Hid (((frC FV).toList.take 12 ++ (Value.slice ta (tagM t2).length tc).cells.toList ++ (frC FV).toList.drop (12 + (Value.slice ta (tagM t2).length tc).cells.toList.length)).toArray = frC (carF t2 ta tc)) := by
           show _ = _
           rw [← hFX]
           rfl
         have HFI : Hid (∀ w, TgRow w (some ⟨gt, 0, none⟩) [⟨false, (firstT (tagM t2)).p, (firstT (tagM t2)).d, V⟩] td → FrIn w FV) := fun w h => by
           rw [← hFX]
           exact ⟨h.inL, Nat.le_trans h.cap.2 (by decide), h.cap.1, show (4 : Nat) ≤ 3000 by decide⟩
         clear hFX q12
         have HA4 := Blk.new wr 48 (snC zSnH)
         have b4 : Below wr.heap.size wr (wr.alloc (.cells (snC zSnH) 48)) := (Below.refl _ _).alloc (Nat.le_refl _) _
         go_upto_region 14 with (first
           | (refine load_cells (B := bb) (k := lo + k * 22) 48 (snC ⟨(i : Int), FV⟩) (by rfl) rfl rfl HK (by kernel_rfl) (by kernel_rfl) ?_)
           | (refine alloc_blk 48 (snC zSnH) (by rfl) rfl Try.snZero ?_)
           | (refine store_blk (B := wr.heap.size) (k := 0) 48 (.agg (snC ⟨(i : Int), FV⟩)) (snC ⟨(i : Int), FV⟩) (by rfl) rfl rfl rfl HA4 (by kernel_rfl) (show (22 : Nat) ≤ 22 from Nat.le_refl 22) (by rfl) (st_whole' _ _ rfl) ?_; intro w5 HN5 b5 g5))
         have k1 := b4.trans b5
         have HA5 := Blk.new w5 36 (frC zFr)
         have a5 : Below w5.heap.size w5 (w5.alloc (.cells (frC zFr) 36)) := (Below.refl _ _).alloc (Nat.le_refl _) _
         go_upto_region 15 with (first
           | (refine load_blk (k := 1) 36 (frC FV) (by rfl) rfl rfl HN5 (by kernel_rfl) (by kernel_rfl) (by rfl) ?_)
           | (refine alloc_blk 36 (frC zFr) (by rfl) rfl Try.frZeroB ?_)
           | (refine store_blk (B := w5.heap.size) (k := 0) 36 (frV FV) (frC FV) (by rfl) rfl rfl rfl HA5 (by kernel_rfl) (show (21 : Nat) ≤ 21 from Nat.le_refl 21) (by rfl) (st_whole' _ _ rfl) ?_; intro w6 HG6 b6 g6))
         have k2 := a5.trans b6
         have n0 := (HN5.kept k2).cv 0 (.int .i64 (i : Int)) rfl
         have k12 := k1.trans (k2.mono k1.size)
         have d2i := (k12.cell hpb).trans c2i
         have hok6 := (hok.below k12)
         have HF6 := HFr.kept k12
         have hGG := Nat.le_trans Bk.size k1.size
         have hAG : A < w5.heap.size := Nat.lt_of_lt_of_le HFr.lt k1.size
         have HC6 := Lib.hid (containsIv_any x.ba x.bc x.x.bare V w6 hok6.b (Nat.le_trans hok6.bc hok6.bm))
         rw [hbare] at HC6
         have hTs6 := hTs.kept k12
         have HR6 := right_frame FV w6 (HFI.out w6 hTs6)
         rw [hRB] at HR6
         have HRI := Lib.hid HR6
         have hTg6 := hTgr.kept k12
         have B6 := Bk.trans (k12.mono Bk.size)
         have g12 := HQ12.out w6 _ HG6
         have hgt6 := hgt.kept k12
         clear hgt
         clear HR6 HA4 HA5 b4 b5 g5 a5 b6 g6 k1 k2 k12 HN5 c2i hok hok6 HFr hTs hTs6 hTgr HK hRB Bk
         generalize w5.heap.size = G at *
         generalize wr.heap.size = N at *
         go_wp2_with (first
           | go_big_skip
           | (go_at_call 32; refine HC6.out.mono ?_; rintro e w' ⟨rfl, rfl⟩)
           | (refine load_blk 36 (frC FV) (by rfl) rfl rfl HG6 (by kernel_rfl) (by kernel_rfl) (by rfl) ?_)
           | (go_at_call 33; refine HRI.out.mono ?_; rintro e w7 ⟨rfl, k7⟩; have HG7 := HG6.kept k7; have HF7 := HF6.kept k7; have h12 := HQ12.out w7 G HG7; have f12 := HF7.cv 12 (.slice ta (tagM t2).length tc) rfl; have hTg7 := hTg6.kept k7; have B7 := B6.trans (k7.mono B6.size); have u0 := (hgt6.kept k7).cv 0 (.bool false) rfl; have u3 := (hgt6.kept k7).cv 3 (.int .i64 V) rfl)
           | (refine store_blk (B := G) (k := 12) 34 (.slice ta (tagM t2).length tc) (frC (carF t2 ta tc)) (by rfl) rfl rfl rfl HG7 (by kernel_rfl) (show (13 : Nat) ≤ 21 by decide) (by rfl) HSTC.out ?_; intro w8 HG8 b8 g8; have HF8 := HF7.grown g8 (by intro e; cases e; exact absurd hAG (Nat.lt_irrefl _)); have hTg8 := hTg7.keep (w' := w8) (fun g C q => g8.block g q.lt (by intro e; cases e; exact absurd (blk_type q HG7) (by decide))); have B8 := B7.trans (b8.mono hGG); have HSM := Lib.hid (same_any (carF t2 ta tc) (carF t2 ta tc) w8 ⟨hTg8.inL, Nat.le_trans (tagM_short t2) (by decide), hTg8.cap.1, show (4 : Nat) ≤ 3000 by decide⟩ ⟨hTg8.inL, Nat.le_trans (tagM_short t2) (by decide), hTg8.cap.1, show (4 : Nat) ≤ 3000 by decide⟩))
           | (refine load_blk 36 (frC (carF t2 ta tc)) (by rfl) rfl rfl HF8 (by kernel_rfl) (by kernel_rfl) (by rfl) ?_)
           | (refine load_blk 36 (frC (carF t2 ta tc)) (by rfl) rfl rfl HG8 (by kernel_rfl) (by kernel_rfl) (by rfl) ?_)
           | (go_at_call 25; refine HSM.out.mono ?_; rintro e w9 ⟨rfl, k9⟩; rw [same_self]))
         go_roundw
         case rel => exact ⟨k + 1, by omega, by go_num, B8.trans (k9.mono (Nat.le_trans B7.size b8.size))⟩
         case measure => simp [intOf]; omega
     · obtain rfl : k = ss.length := by omega
       have q2 : decide ((ss.length : Int) < (ss.length : Int)) = false := decide_eq_false (by omega)
       go_wp2
       go_ret
       exact ⟨rfl, B10.trans (Bk.mono B10.size)⟩

end Go.Proofs.Ytdceggekhhflgaa.bridgeFrames

namespace Go.Proofs.Ytdceggekhhflgaa
open Go.RowKit Go.WideShapes Go.ChangeShapes

/-- The specification is met: one result, which reads as told; the arguments and the named variables read as they did; old memory is as it was. -/
theorem met_below {P : Program} {H : Type} {enc : TypeId × Value → H} {f : Func} {s : ChangeSpec} {apart fresh handsOn again : Bool} {W W' : World} {args : Array Value} {v : Value} {ds gs : List (DataW H)} {places : List MemPlace}
    (whole : DataW.Whole enc P f.params.toList s.vars apart W args.toList ds gs places)
    (results : ∀ (b : Nat) (sp : Nat → Bool) (hd : Bool), DataW.TrodAll enc P W' b sp hd f.resultTypes.toList (v.resultList f.resultTypes.size) (s.fn H (ds ++ gs)).results [])
    (arguments : ∀ sp : Nat → Bool, (∀ p ∈ places, sp p.block = true) → DataW.TrodAll enc P W' 0 sp true f.params.toList args.toList (s.fn H (ds ++ gs)).args places)
    (variables : ∀ sp : Nat → Bool, DataW.TrodVars enc P W' sp s.vars (s.fn H (ds ++ gs)).vars [])
    (below : Below W.heap.size W W')
    (formed : ∀ (j : Nat) (t : TypeId) (r : Value), f.resultTypes[j]? = some t → (v.resultList f.resultTypes.size)[j]? = some r → Value.okWide P W' .any 0 t r) :
    s.post enc P f apart fresh handsOn again W args v W' := by
  have old : ∀ p ∈ places, p.block < W.heap.size := fun p hp => whole.lt p hp
  have oldB : ∀ p ∈ places, (fun b => decide (b < W.heap.size)) p.block = true := fun p hp => decide_eq_true (old p hp)
  obtain ⟨_, _, _, _, _, unfrozen, once⟩ := id whole
  refine ⟨ds, gs, places, [], places, [], whole, results _ _ _, arguments _ oldB, variables _, below.frame _, fun _ => ⟨formed, _, _, ([] ++ places) ++ [], ⟨[] ++ places, [], trodAll_append (arguments _ fun _ _ => rfl) (results _ _ _), variables _, rfl, fun b off hp => ?_, fun ha => by simpa using once ha⟩, fun p hp _ => by simpa using hp⟩⟩
  have hin : MemPlace.cell b off ∈ places := by simpa using hp
  exact (below.frozen (p := ⟨b, off, none⟩) (old _ hin)).trans (unfrozen b off hin)

end Go.Proofs.Ytdceggekhhflgaa

namespace Go.Proofs.Ytdceggekhhflgaa
open Go.ChangeShapes Go.WideShapes Go.ChangeAt Go.RowKit Go.Deep Go.Joins
set_option linter.unusedVariables false

theorem list1s {α : Type} (l : List α) (h : l.length = 1) : ∃ c0, l = [c0] := by
  match l, h with
  | [c0], _ => exact ⟨c0, rfl⟩

theorem list4p {α : Type} (l : List α) (h : l.length = 4) : ∃ c0 c1 c2 c3, l = [c0, c1, c2, c3] := by
  match l, h with
  | [c0, c1, c2, c3], _ => exact ⟨c0, c1, c2, c3, rfl⟩

theorem iv_trod {H : Type} {enc : TypeId × Value → H} {W : World} {base fuel : Nat} {sp : Nat → Bool} {held : Bool} {c0 : Value} {y : DataW H × List MemPlace}
    (h : DataW.trod enc Try.prog W base sp held fuel 3 [c0] = some y) : ∃ x : Int, True ∧ [c0] = (ivC x).toList := by
  obtain ⟨x0, e0, _, wf0⟩ := DataW.trod_int Try.underlying3 h
  exact ⟨x0, trivial, e0⟩

set_option maxRecDepth 100000 in
theorem ivs_cell {H : Type} {enc : TypeId × Value → H} {W : World} {fuel : Nat} {z0 : Value} {y : DataW H × List MemPlace}
    (hf : DataW.trod enc Try.prog W 0 (fun _ => true) true fuel 57 [z0] = some y) : ∃ (a : Option Addr) (c : Nat) (l : List Int), z0 = .slice a l.length c ∧ l.length ≤ c ∧ c ≤ maxLen ∧ IvIn W a l ∧ ∀ x ∈ l, True := by
  have hs : Try.prog.underlying 57 = some (.slice 3) := by kernel_rfl
  have hc3 : Try.prog.cellsOf 3 = 1 := by kernel_rfl
  rcases open_slice hs hf with ⟨hc, hx⟩ | ⟨b, n, c, m, k, D, Pl, hc, hb, hl, hm, hmm, hx, hall⟩
  · simp at hc
    subst hc
    exact ⟨none, 0, [], rfl, Nat.le_refl _, by decide, Or.inl rfl, by simp⟩
  · simp at hc
    subst hc
    have hlm : n ≤ m := by rw [hmm]; split <;> omega
    have each : ∀ i, i < n → ∃ t : Int, True ∧ ∀ (j : Nat) (x : Value), (ivC t)[j]? = some x → W.cell? (b.add (i * 1 + j)) = some x := by
      intro i hi
      obtain ⟨cs', h1, h2⟩ := hall i (by omega)
      rw [hc3] at h1
      obtain ⟨_, hlen, hcell⟩ := World.cells?_some h1
      obtain ⟨c0, rfl⟩ := list1s cs' hlen
      obtain ⟨t, ht, he⟩ := iv_trod h2
      refine ⟨t, ht, fun j x hj => ?_⟩
      have hj2 : j < 1 := (Array.getElem?_eq_some_iff.1 hj).1
      have g := hcell j (by omega)
      rw [add_add] at g
      rw [g]
      have e2 : ([c0] : List Value)[j]? = some x := by rw [he]; simpa using hj
      exact e2
    obtain ⟨z, hz⟩ := choose_lt each
    obtain ⟨bb, bo, bs⟩ := b
    rcases Nat.eq_zero_or_pos n with rfl | q0
    · exact ⟨some ⟨bb, bo, bs⟩, c, [], rfl, hl, hm, Or.inl rfl, by simp⟩
    have h0 := (hz 0 q0).2 0 _ rfl
    have hspot : bs = none := by simpa [Addr.add] using World.cell?_spot h0
    subst hspot
    refine ⟨some ⟨bb, bo, none⟩, c, (List.range n).map z, by simp, by simpa using hl, hm, Or.inr ⟨bb, bo, rfl, ?_, fun j hj k x hx => ?_⟩, ?_⟩
    · have := World.block_lt_of_cell? W _ h0
      simpa [Addr.add] using this
    · have hj' : j < n := by simpa using hj
      simp only [List.getElem_map, List.getElem_range] at hx
      have e0 := (hz j hj').2 k x hx
      rw [add_plain] at e0
      rw [Nat.add_assoc]
      exact e0
    · intro v hv
      obtain ⟨j, hj, rfl⟩ := List.mem_map.1 hv
      exact (hz j (List.mem_range.1 hj)).1


set_option maxRecDepth 100000 in
theorem ps_trod {H : Type} {enc : TypeId × Value → H} {W : World} {fuel : Nat} {c0 c1 c2 c3 : Value} {y : DataW H × List MemPlace}
    (h : DataW.trod enc Try.prog W 0 (fun _ => true) true fuel 59 [c0, c1, c2, c3] = some y) : ∃ x : PsH, PsOk W x ∧ [c0, c1, c2, c3] = (psC x).toList := by
  have _h2 : Try.prog.cellsOf 3 = 1 := by kernel_rfl
  have _h3 : Try.prog.cellsOf 57 = 1 := by kernel_rfl
  obtain ⟨xs, n, _, hx, _, hlen, hg⟩ := DataW.trod_struct Try.underlying59 h
  obtain ⟨y0, y1, y2, y3, rfl⟩ := list4p xs hlen
  have g0 := hg 0 _ rfl
  have g1 := hg 1 _ rfl
  have g2 := hg 2 _ rfl
  have g3 := hg 3 _ rfl
  obtain ⟨x0, e0, _, wf0⟩ := DataW.trod_int Try.underlying3 g0
  obtain rfl : c0 = .int .i64 x0 := (List.cons.inj (show [c0] = [.int .i64 x0] from e0)).1
  obtain ⟨a, ca, l, rfl, hl, hm, hin, _⟩ := ivs_cell (z0 := c1) g1
  obtain ⟨a2, c2', l2, rfl, hl2, hm2, hin2, _⟩ := ivs_cell (z0 := c2) g2
  obtain ⟨x3, e3, _, wf3⟩ := DataW.trod_int Try.underlying3 g3
  obtain rfl : c3 = .int .i64 x3 := (List.cons.inj (show [c3] = [.int .i64 x3] from e3)).1
  exact ⟨⟨⟨x0, l, l2, x3⟩, a, ca, a2, c2'⟩, ⟨hin, hin2, hl, hl2, hm, hm2⟩, rfl⟩

set_option maxRecDepth 100000 in
theorem pss_cell {H : Type} {enc : TypeId × Value → H} {W : World} {fuel : Nat} {z0 : Value} {y : DataW H × List MemPlace}
    (hf : DataW.trod enc Try.prog W 0 (fun _ => true) true fuel 29 [z0] = some y) : ∃ (a : Option Addr) (c : Nat) (l : List PsH), z0 = .slice a l.length c ∧ l.length ≤ c ∧ c ≤ maxLen ∧ PsIn W a l ∧ ∀ x ∈ l, PsOk W x := by
  have hs : Try.prog.underlying 29 = some (.slice 59) := by kernel_rfl
  have hc3 : Try.prog.cellsOf 59 = 4 := by kernel_rfl
  rcases open_slice hs hf with ⟨hc, hx⟩ | ⟨b, n, c, m, k, D, Pl, hc, hb, hl, hm, hmm, hx, hall⟩
  · simp at hc
    subst hc
    exact ⟨none, 0, [], rfl, Nat.le_refl _, by decide, Or.inl rfl, by simp⟩
  · simp at hc
    subst hc
    have hlm : n ≤ m := by rw [hmm]; split <;> omega
    have each : ∀ i, i < n → ∃ t : PsH, PsOk W t ∧ ∀ (j : Nat) (x : Value), (psC t)[j]? = some x → W.cell? (b.add (i * 4 + j)) = some x := by
      intro i hi
      obtain ⟨cs', h1, h2⟩ := hall i (by omega)
      rw [hc3] at h1
      obtain ⟨_, hlen, hcell⟩ := World.cells?_some h1
      obtain ⟨c0, c1, c2, c3, rfl⟩ := list4p cs' hlen
      obtain ⟨t, ht, he⟩ := ps_trod h2
      refine ⟨t, ht, fun j x hj => ?_⟩
      have hj2 : j < 4 := (Array.getElem?_eq_some_iff.1 hj).1
      have g := hcell j (by omega)
      rw [add_add] at g
      rw [g]
      have e2 : ([c0, c1, c2, c3] : List Value)[j]? = some x := by rw [he]; simpa using hj
      exact e2
    obtain ⟨z, hz⟩ := choose_lt each
    obtain ⟨bb, bo, bs⟩ := b
    rcases Nat.eq_zero_or_pos n with rfl | q0
    · exact ⟨some ⟨bb, bo, bs⟩, c, [], rfl, hl, hm, Or.inl rfl, by simp⟩
    have h0 := (hz 0 q0).2 0 _ rfl
    have hspot : bs = none := by simpa [Addr.add] using World.cell?_spot h0
    subst hspot
    refine ⟨some ⟨bb, bo, none⟩, c, (List.range n).map z, by simp, by simpa using hl, hm, Or.inr ⟨bb, bo, rfl, ?_, fun j hj k x hx => ?_⟩, ?_⟩
    · have := World.block_lt_of_cell? W _ h0
      simpa [Addr.add] using this
    · have hj' : j < n := by simpa using hj
      simp only [List.getElem_map, List.getElem_range] at hx
      have e0 := (hz j hj').2 k x hx
      rw [add_plain] at e0
      rw [Nat.add_assoc]
      exact e0
    · intro v hv
      obtain ⟨j, hj, rfl⟩ := List.mem_map.1 hv
      exact (hz j (List.mem_range.1 hj)).1


set_option maxRecDepth 100000 in
theorem open_pss {H : Type} {enc : TypeId × Value → H} {W : World} {base : Nat} {v : Value} {d : DataW H} {p : List MemPlace} (hval : Value.okWide Try.prog W .any base 29 v)
    (h : DataW.Trod enc Try.prog W 0 (fun _ => true) true 29 v d p) : ∃ (a : Option Addr) (c : Nat) (l : List PsH), v = .slice a l.length c ∧ l.length ≤ c ∧ c ≤ maxLen ∧ (PsIn W a l ∧ ∀ x ∈ l, PsOk W x) := by
  have hs : Try.prog.underlying 29 = some (.slice 59) := by kernel_rfl
  obtain ⟨a, n, c, rfl⟩ := okWide_slice hs hval
  obtain ⟨fuel, hf⟩ := h
  obtain ⟨a', c', l, e, h1, h2, h3⟩ := pss_cell (show DataW.trod enc Try.prog W 0 (fun _ => true) true fuel 29 [.slice a n c] = some _ by simpa [Value.cells] using hf)
  exact ⟨a', c', l, e, h1, h2, ⟨h3.1, h3.2⟩⟩

end Go.Proofs.Ytdceggekhhflgaa

namespace Go.Proofs.Ytdceggekhhflgaa
open Go.ChangeShapes Go.WideShapes Go.ChangeAt Go.RowKit Go.Deep Go.Joins
set_option linter.unusedVariables false

theorem tr_list6 {α : Type} (l : List α) (h : l.length = 6) : ∃ c0 c1 c2 c3 c4 c5, l = [c0, c1, c2, c3, c4, c5] := by
  match l, h with
  | [c0, c1, c2, c3, c4, c5], _ => exact ⟨c0, c1, c2, c3, c4, c5, rfl⟩

set_option maxRecDepth 100000 in
theorem tr_trod {H : Type} {enc : TypeId × Value → H} {W : World} {fuel : Nat} {c0 c1 c2 c3 c4 c5 : Value} {y : DataW H × List MemPlace}
    (h : DataW.trod enc Try.prog W 0 (fun _ => true) true fuel 24 [c0, c1, c2, c3, c4, c5] = some y) : ∃ x : Tr, True ∧ [c0, c1, c2, c3, c4, c5] = (trC x).toList := by
  have _h2 : Try.prog.cellsOf 3 = 1 := by kernel_rfl
  have _h3 : Try.prog.cellsOf 4 = 1 := by kernel_rfl
  obtain ⟨xs, n, _, hx, _, hlen, hg⟩ := DataW.trod_struct Try.underlying24 h
  obtain ⟨y0, y1, y2, y3, y4, y5, rfl⟩ := tr_list6 xs hlen
  have g0 := hg 0 _ rfl
  have g1 := hg 1 _ rfl
  have g2 := hg 2 _ rfl
  have g3 := hg 3 _ rfl
  have g4 := hg 4 _ rfl
  have g5 := hg 5 _ rfl
  obtain ⟨x0, e0, _, wf0⟩ := DataW.trod_int Try.underlying3 g0
  obtain rfl : c0 = .int .i64 x0 := (List.cons.inj (show [c0] = [.int .i64 x0] from e0)).1
  obtain ⟨x1, e1, _, wf1⟩ := DataW.trod_int Try.underlying3 g1
  obtain rfl : c1 = .int .i64 x1 := (List.cons.inj (show [c1] = [.int .i64 x1] from e1)).1
  obtain ⟨x2, e2, _, wf2⟩ := DataW.trod_int Try.underlying3 g2
  obtain rfl : c2 = .int .i64 x2 := (List.cons.inj (show [c2] = [.int .i64 x2] from e2)).1
  obtain ⟨x3, e3, _, wf3⟩ := DataW.trod_int Try.underlying3 g3
  obtain rfl : c3 = .int .i64 x3 := (List.cons.inj (show [c3] = [.int .i64 x3] from e3)).1
  obtain ⟨x4, e4, _, wf4⟩ := DataW.trod_int Try.underlying3 g4
  obtain rfl : c4 = .int .i64 x4 := (List.cons.inj (show [c4] = [.int .i64 x4] from e4)).1
  obtain ⟨x5, e5, _⟩ := DataW.trod_bool Try.underlying4 g5
  obtain rfl : c5 = .bool x5 := (List.cons.inj (show [c5] = [.bool x5] from e5)).1
  exact ⟨⟨x0, x1, x2, x3, x4, x5⟩, trivial, rfl⟩

set_option maxRecDepth 100000 in
theorem trs_cell {H : Type} {enc : TypeId × Value → H} {W : World} {fuel : Nat} {z0 : Value} {y : DataW H × List MemPlace}
    (hf : DataW.trod enc Try.prog W 0 (fun _ => true) true fuel 22 [z0] = some y) : ∃ (a : Option Addr) (c : Nat) (l : List Tr), z0 = .slice a l.length c ∧ l.length ≤ c ∧ c ≤ maxLen ∧ TrIn W a l ∧ ∀ x ∈ l, True := by
  have hs : Try.prog.underlying 22 = some (.slice 24) := by kernel_rfl
  have hc3 : Try.prog.cellsOf 24 = 6 := by kernel_rfl
  rcases open_slice hs hf with ⟨hc, hx⟩ | ⟨b, n, c, m, k, D, Pl, hc, hb, hl, hm, hmm, hx, hall⟩
  · simp at hc
    subst hc
    exact ⟨none, 0, [], rfl, Nat.le_refl _, by decide, Or.inl rfl, by simp⟩
  · simp at hc
    subst hc
    have hlm : n ≤ m := by rw [hmm]; split <;> omega
    have each : ∀ i, i < n → ∃ t : Tr, True ∧ ∀ (j : Nat) (x : Value), (trC t)[j]? = some x → W.cell? (b.add (i * 6 + j)) = some x := by
      intro i hi
      obtain ⟨cs', h1, h2⟩ := hall i (by omega)
      rw [hc3] at h1
      obtain ⟨_, hlen, hcell⟩ := World.cells?_some h1
      obtain ⟨c0, c1, c2, c3, c4, c5, rfl⟩ := tr_list6 cs' hlen
      obtain ⟨t, hok, he⟩ := tr_trod h2
      refine ⟨t, hok, fun j x hj => ?_⟩
      have hj2 : j < 6 := (Array.getElem?_eq_some_iff.1 hj).1
      have g := hcell j (by omega)
      rw [add_add] at g
      rw [g]
      have e2 : ([c0, c1, c2, c3, c4, c5] : List Value)[j]? = some x := by rw [he]; simpa using hj
      exact e2
    obtain ⟨z, hz⟩ := choose_lt each
    obtain ⟨bb, bo, bs⟩ := b
    rcases Nat.eq_zero_or_pos n with rfl | q0
    · exact ⟨some ⟨bb, bo, bs⟩, c, [], rfl, hl, hm, Or.inl rfl, by simp⟩
    have h0 := (hz 0 q0).2 0 _ rfl
    have hspot : bs = none := by simpa [Addr.add] using World.cell?_spot h0
    subst hspot
    refine ⟨some ⟨bb, bo, none⟩, c, (List.range n).map z, by simp, by simpa using hl, hm, Or.inr ⟨bb, bo, rfl, ?_, fun j hj k x hx => ?_⟩, fun x hx => ?_⟩
    · have := World.block_lt_of_cell? W _ h0
      simpa [Addr.add] using this
    · have hj' : j < n := by simpa using hj
      simp only [List.getElem_map, List.getElem_range] at hx
      have e0 := (hz j hj').2 k x hx
      rw [add_plain] at e0
      rw [Nat.add_assoc]
      exact e0
    · obtain ⟨i, hi, rfl⟩ := List.mem_map.1 hx
      exact (hz i (List.mem_range.1 hi)).1

set_option maxRecDepth 100000 in
theorem open_trs {H : Type} {enc : TypeId × Value → H} {W : World} {base : Nat} {v : Value} {d : DataW H} {p : List MemPlace} (hval : Value.okWide Try.prog W .any base 22 v)
    (h : DataW.Trod enc Try.prog W 0 (fun _ => true) true 22 v d p) : ∃ (a : Option Addr) (c : Nat) (l : List Tr), v = .slice a l.length c ∧ l.length ≤ c ∧ c ≤ maxLen ∧ TrIn W a l ∧ ∀ x ∈ l, True := by
  have hs : Try.prog.underlying 22 = some (.slice 24) := by kernel_rfl
  obtain ⟨a, n, c, rfl⟩ := okWide_slice hs hval
  obtain ⟨fuel, hf⟩ := h
  exact trs_cell (show DataW.trod enc Try.prog W 0 (fun _ => true) true fuel 22 [.slice a n c] = some _ by simpa [Value.cells] using hf)

set_option maxRecDepth 100000 in
theorem open_tr {H : Type} {enc : TypeId × Value → H} {W : World} {base : Nat} {v : Value} {d : DataW H} {p : List MemPlace} (hval : Value.okWide Try.prog W .any base 24 v)
    (h : DataW.Trod enc Try.prog W 0 (fun _ => true) true 24 v d p) : ∃ x : Tr, v = .agg (trC x) := by
  have hcn : Try.prog.cellsOf 24 = 6 := by kernel_rfl
  obtain ⟨cs, rfl, hsz⟩ := okWide_struct Try.underlying24 hval
  rw [hcn] at hsz
  obtain ⟨l⟩ := cs
  obtain ⟨c0, c1, c2, c3, c4, c5, rfl⟩ := tr_list6 l hsz
  obtain ⟨fuel, hf⟩ := h
  obtain ⟨x, _, hx⟩ := tr_trod (show DataW.trod enc Try.prog W 0 (fun _ => true) true fuel 24 [c0, c1, c2, c3, c4, c5] = some _ by simpa [Value.cells] using hf)
  exact ⟨x, by rw [hx]⟩

end Go.Proofs.Ytdceggekhhflgaa

namespace Go.Proofs.Ytdceggekhhflgaa.bridgeFrames
open Go.ChangeShapes Go.WideShapes Go.ChangeAt Go.RowKit
set_option linter.unusedVariables false

theorem laidOut_ : laidOutB Try.prog = true := by kernel_rfl

theorem own : ownKnob Try.prog.godebug = none := by kernel_rfl

set_option maxRecDepth 100000 in
theorem lifted (os : Os) (started : os.Started) (H : Type) (enc : TypeId × Value → H) :
    ReturnsInHanded {} Try.checked os 7 .any (Rows.bridgeFramesSpec.pre6 enc Try.prog Try.f7 Rows.bridgeFramesRow.domain false) (Rows.bridgeFramesSpec.post enc Try.prog Try.f7 false true false false) := by
  refine returnsInHanded_of_change (C := Try.checked) own started (by kernel_rfl) Try.func7
    (ChangeSpec.witness6 (enc := enc) (C := Try.checked) false ⟨#[], #[.slice none 0 0, .slice none 0 0, .agg #[.int .i64 0, .int .i64 0, .int .i64 0, .int .i64 0, .int .i64 0, .bool false]], []⟩ 8 (by kernel_rfl) (by kernel_rfl) (by kernel_rfl) (by kernel_rfl)) ?_
  intro W base args ds gs before hval0 hW hcnd _
  have hval : ∀ (j : Nat) t v, Try.f7.params[j]? = some t → args[j]? = some v → Value.okWide Try.prog W .any base t v := hval0
  have hW' := hW
  obtain ⟨p, q, hA0, hV, rfl, hfz, hnd⟩ := hW
  have hA : DataW.TrodAll enc Try.prog W 0 (fun _ => true) true Try.f7.params.toList args.toList ds p := hA0
  rw [Try.params7] at hA hval
  obtain ⟨v0, vs0, d0, ds0, p0, q0, hargs, rfl, rfl, h0, r0⟩ := trodAll_cons hA
  obtain ⟨v1, vs1, d1, ds1, p1, q1, rfl, rfl, rfl, h1, r1⟩ := trodAll_cons r0
  obtain ⟨v2, vs2, d2, ds2, p2, q2, rfl, rfl, rfl, h2, r2⟩ := trodAll_cons r1
  obtain ⟨rfl, rfl, rfl⟩ := trodAll_nil r2
  obtain rfl : args = #[v0, v1, v2] := by cases args; simp_all
  obtain ⟨rfl, rfl⟩ := trodVars_none hV
  clear hA0 hval0
  simp only [List.append_nil] at hW'
  have hlt := hW'.lt
  obtain ⟨a0, c0, l0, hv0, hlc0, hcm0, hin0, hok0⟩ := open_pss (hval 0 29 v0 rfl rfl) h0
  obtain ⟨a1, c1, l1, hv1, hlc1, hcm1, hin1, hok1⟩ := open_trs (hval 1 22 v1 rfl rfl) h1
  obtain ⟨t2, hv2⟩ := open_tr (hval 2 24 v2 rfl rfl) h2
  subst hv0
  subst hv1
  subst hv2
  refine (walk a0 c0 l0 a1 c1 l1 t2 W hin0 hok0 (Nat.le_trans hlc0 hcm0) hin1 (Nat.le_trans hlc1 hcm1)).mono fun e W' ⟨he, hb⟩ => ?_
  subst he
  exact ⟨_, rfl, met_below hW' (fun _ _ _ => (trodAll_cons_mk (shut_bool Try.underlying4 _) trodAll_mk0)) (fun sp hsp => by have r := (trodAll_cons_mk (WideElems.Trod_stays laidOut_ (by kernel_rfl) (of_decide_eq_true (by kernel_rfl)) h0 (fun x hx => hb.same (hlt x (by simp [hx]))) (fun x hx => hsp x (by simp [hx]))) (trodAll_cons_mk (WideElems.Trod_stays laidOut_ (by kernel_rfl) (of_decide_eq_true (by kernel_rfl)) h1 (fun x hx => hb.same (hlt x (by simp [hx]))) (fun x hx => hsp x (by simp [hx]))) (trodAll_cons_mk (WideElems.Trod_stays laidOut_ (by kernel_rfl) (of_decide_eq_true (by kernel_rfl)) h2 (fun x hx => hb.same (hlt x (by simp [hx]))) (fun x hx => hsp x (by simp [hx]))) trodAll_mk0))); simp only [List.append_nil] at r; exact r) (fun _ => rfl) hb
    (ok_one (by kernel_rfl) rfl (okWide_bool_mk Try.underlying4 _))⟩

theorem over : Rows.bridgeFramesRow.holds Try.pinned (OpenSpec.ofChange Rows.bridgeFramesSpec) :=
  OpenClaim.holds_of_wide 7 Try.f7 rfl rfl rfl rfl rfl rfl rfl ⟨rfl, rfl, rfl, rfl, rfl⟩ rfl rfl rfl rfl rfl (by kernel_rfl) Try.func7 (by kernel_rfl)
    (of_decide_eq_true (by kernel_rfl)) (by unfold Func.isWrapper; first | (rw [if_pos (by decide +kernel)]; kernel_rfl) | (rw [if_neg (by decide +kernel)]; exact ⟨rfl, rfl⟩))
    (fun os started H enc _ => lifted os started H enc)

theorem proved : Rows.BridgeFramesSaid := over
#print axioms proved

end Go.Proofs.Ytdceggekhhflgaa.bridgeFrames

