/- slices.Equal at two lists of tags. -/
import Derived.Test.YtnlphldkdglofaaTagStack
import Derived.Test.YtnlphldkdglofaaTagEq
import Derived.BigQuiet
import Derived.Deep.QuietTactic
namespace Go.Proofs.Ytnlphldkdglofaa
open Go.RowKit

/-- Whether two lists of tags are one. -/
def tagsEq : List Tg → List Tg → Bool
  | [], [] => true
  | a :: l, b :: m => eqT a b && tagsEq l m
  | _, _ => false

theorem tagsEq_refl : ∀ l, tagsEq l l = true
  | [] => rfl
  | a :: l => by rw [tagsEq, eqT_refl, tagsEq_refl l]; rfl

theorem tagsEq_len : ∀ l m, l.length ≠ m.length → tagsEq l m = false
  | [], [], h => absurd rfl h
  | [], _ :: _, _ => rfl
  | _ :: _, [], _ => rfl
  | a :: l, b :: m, h => by rw [tagsEq, tagsEq_len l m (by simpa using h), Bool.and_false]

theorem tagsEq_drop (l m : List Tg) (k : Nat) (h1 : k < l.length) (h2 : k < m.length) : tagsEq (l.drop k) (m.drop k) = (eqT l[k] m[k] && tagsEq (l.drop (k + 1)) (m.drop (k + 1))) := by
  rw [List.drop_eq_getElem_cons h1, List.drop_eq_getElem_cons h2]
  rfl

theorem tags_cells {w : World} {a : Option Addr} {l : List Tg} (h : TagsIn w a l) (k : Nat) (hk : k < l.length) :
    ∃ b lo, a = some ⟨b, lo, none⟩ ∧ b < w.heap.size ∧ w.cell? ⟨b, lo + k * 4, none⟩ = some (.bool l[k].s) ∧ w.cell? ⟨b, lo + k * 4 + 1, none⟩ = some (.int .i64 l[k].p) ∧ w.cell? ⟨b, lo + k * 4 + 2, none⟩ = some (.bool l[k].d) ∧ w.cell? ⟨b, lo + k * 4 + 3, none⟩ = some (.int .i64 l[k].v) := by
  rcases h with rfl | ⟨b, lo, ha, hlt, hat⟩
  · simp at hk
  · obtain ⟨h0, h1, h2, h3⟩ := hat k hk
    exact ⟨b, lo, ha, hlt, h0, h1, h2, h3⟩

set_option maxHeartbeats 1600000 in
theorem equal_any (a b : Option Addr) (c c' : Nat) (l m : List Tg) (w : World) (ha : TagsIn w a l) (hb : TagsIn w b m) (h1 : l.length ≤ 20) :
    Calls Try.prog 21 #[.slice a l.length c, .slice b m.length c'] w fun e w' => e = .returned (.bool (tagsEq l m)) ∧ Below w.heap.size w w' := by
  by_cases hl : l.length = m.length
  · obtain ⟨n, hn⟩ : ∃ n, n = l.length := ⟨_, rfl⟩
    have hm : m.length = n := by omega
    have HN := Lib.hid hn
    have HM := Lib.hid hm
    rw [← hn] at h1
    rw [hm, ← hn]
    clear hl hn hm
    go_enter Try.func21, Try.ntmps21
    go_wp2
    go_loopw [13] (fun i wr => ∃ k : Nat, k ≤ n ∧ i = .int .i64 k ∧ tagsEq l m = tagsEq (l.drop k) (m.drop k) ∧ Below w.heap.size w wr) (fun i _ => n - (intOf i).toNat)
    case atStart => exact ⟨0, by omega, rfl, rfl, Below.refl _ _⟩
    case round =>
      obtain ⟨k, hk, rfl, hu, hbl⟩ := hrel
      have HU := Lib.hid hu
      clear hu
      by_cases hlt : k < n
      · have b1 : (k : Int) < (n : Int) := by omega
        have hkl : k < l.length := by rw [← HN.out]; exact hlt
        have hkm : k < m.length := by rw [HM.out]; exact hlt
        obtain ⟨ba, la, rfl, hba, p0, p1, p2, p3⟩ := tags_cells (ha.below hbl) k hkl
        obtain ⟨bb, lb, rfl, hbb, q0, q1, q2, q3⟩ := tags_cells (hb.below hbl) k hkm
        have HD := Lib.hid (tagsEq_drop l m k hkl hkm)
        have hq : ∀ W, (Op.equalIn 10000 90 (.agg #[.bool l[k].s, .int .i64 l[k].p, .bool l[k].d, .int .i64 l[k].v]) (.agg #[.bool m[k].s, .int .i64 m[k].p, .bool m[k].d, .int .i64 m[k].v])).run Try.prog W = .ok (eqT l[k] m[k]) W := fun W => run_eql_tag l[k] m[k] W
        have HB : Below w.heap.size w wr := hbl
        generalize l[k] = x at *
        generalize m[k] = y at *
        clear hkl hkm ha hb hbl
        cases he : eqT x y
        all_goals
          rw [he] at hq HD
          clear he
          go_wp2
          go_quiet (fail)
          go_wp2
        · go_ret
          exact ⟨by rw [HU.out, HD.out]; rfl, HB.os, HB.tape, HB.output, HB.size, HB.block⟩
        · go_roundw
          case rel => exact ⟨k + 1, by omega, by go_num, by rw [HU.out, HD.out, Bool.true_and], HB.os, HB.tape, HB.output, HB.size, HB.block⟩
          case measure => simp [intOf]; omega
      · have HE : Hid (tagsEq l m = true) := by
          show _ = _
          rw [HU.out, List.drop_of_length_le (by rw [← HN.out]; omega), List.drop_of_length_le (by rw [HM.out]; omega)]
          rfl
        go_wp2
        go_ret
        exact ⟨by rw [HE.out]; rfl, hbl⟩
  · have hd : ((l.length : Int) != (m.length : Int)) = true := by simp; omega
    have HL := Lib.hid (tagsEq_len l m hl)
    clear hl
    go_enter Try.func21, Try.ntmps21
    go_wp2
    go_ret
    exact ⟨by rw [HL.out]; rfl, Below.refl _ _⟩

end Go.Proofs.Ytnlphldkdglofaa
