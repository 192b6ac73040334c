/- Rows of bits as integers: plain lists, and where they lie; zeros appended to a row of one's own. -/
import Derived.Test.YtonignmhmfhnfaaDoorCrcMore
import Derived.WalkKit
import Derived.WalkSpells
import Derived.Lib.AppendZeros
import Derived.Lib.AppendZerosOnto
import Derived.Lib.OthersKept
import Derived.Laws.CopyRow
namespace Go.Proofs.YtonignmhmfhnfaaDoor
open Go.RowKit

/-- A bit as an integer. -/
def bitV (b : Bool) : Value := .int .i64 (b.toNat : Int)
def bl (f : Nat → Bool) (n : Nat) : List Value := (List.range n).map fun p => bitV (f p)

theorem bl_length (f : Nat → Bool) (n : Nat) : (bl f n).length = n := by simp [bl]
theorem bl_get (f : Nat → Bool) (n p : Nat) (h : p < n) : (bl f n)[p]? = some (bitV (f p)) := by simp [bl, h]
theorem bl_succ (f : Nat → Bool) (n : Nat) : bl f (n + 1) = bl f n ++ [bitV (f n)] := by simp [bl, List.range_succ]

theorem bl_zeros (f : Nat → Bool) (n m : Nat) (h : ∀ p, n ≤ p → f p = false) : bl f n ++ List.replicate m (.int .i64 0) = bl f (n + m) := by
  induction m with
  | zero => simp
  | succ m ih =>
    rw [List.replicate_succ', ← List.append_assoc, ih, ← Nat.add_assoc, bl_succ, h (n + m) (by omega)]
    rfl

theorem zeroCells_list (z : Value) (k : Nat) : (Builtin.zeroCells #[z] k).toList = List.replicate k z := by
  apply List.ext_getElem
  · simp [Builtin.zeroCells]
  · intro i h1 h2
    simp [Builtin.zeroCells, Nat.mod_one]

/-- 'append(v, make([]int, k)...)' onto a row of the call's own. -/
theorem run_append_zeros_own {P : Program} (w : World) (base : Nat) (t tn ty e : TypeId) (i : TypeInfo) (kq kn : IntKind) (ht : P.underlying t = some (.slice e)) (htn : P.underlying tn = some (.int kn)) (hi : P.info? e = some i)
    (hz : i.zero = some (.int .i64 0)) (hs : i.size = 1) (hby : i.bytes = 8) (v : Value) (n : Nat) (xs : List Value) (hown : w.ownsRow base e 1 v n xs) (k : Nat) (h0 : 0 < k) (hk : k ≤ 1000) (hn : n ≤ 1000000) (hbase : base ≤ w.heap.size) :
    ∃ v' w', (Builtin.append_ #[t, tn] ty #[v, .int kq k]).run P w = .ok v' w' ∧ w'.ownsRow base e 1 v' (n + k) (xs ++ List.replicate k (.int .i64 0)) ∧ w.grownBy w' v.ownBlock := by
  have hlen : (xs ++ List.replicate k (Value.int .i64 0)).length = (n + k) * 1 := by rw [List.length_append, hown.1, List.length_replicate]; omega
  have hzc : (Value.int IntKind.i64 0).cells = #[Value.int .i64 0] := rfl
  rcases hown.2 with ⟨rfl, rfl⟩ | ⟨g, cap, cur, rfl, hbg, hg, hnc, hcm, hcs, htake⟩
  · have hx : xs = [] := List.eq_nil_of_length_eq_zero (by simpa using hown.1)
    subst hx
    have hr := Lib.run_append_nil_zeros (P := P) w t tn ty e i _ kq kn ht htn hi hz k h0 (by omega) (by omega) (by rw [hby]; omega)
    have hge := grownCap_ge w k 0 e
    refine ⟨_, _, hr, ⟨by simp, .inr ⟨w.heap.size, _, _, by rw [Nat.zero_add], hbase, heap_alloc_new w.drew _, by omega, grownCap_le_maxLen w k 0 e (by unfold maxLen; omega), ?_, ?_⟩⟩, ⟨rfl, rfl, rfl, by simp, fun j hj _ => heap_alloc_old w.drew _ hj⟩⟩
    · rw [hzc]
      simp [size_zeroCells]
      omega
    · rw [hzc, Array.toList_append, zeroCells_list, List.nil_append]
      exact List.take_left' (by simp)
  · by_cases hroom : n + k ≤ cap
    · have hst := run_storeCells_at P g n e (List.replicate k (Value.int .i64 0)) 0 cur w hg (by rw [List.length_replicate]; omega) (fun u hu => by rw [(List.mem_replicate.1 hu).2]; rfl)
      simp only [Nat.add_zero] at hst
      have hw : IntKind.i64.wrap (k : Int) = k := by rw [IntKind.wrap_i64]; omega
      have hneg : ¬ ((k : Int) < 0) := by omega
      have hk0 : k ≠ 0 := by omega
      have h48i : ¬ (281474976710656 < (k : Int) * (8 : Int)) := by omega
      have hr : (Builtin.append_ #[t, tn] ty #[.slice (some ⟨g, 0, none⟩) n cap, .int kq k]).run P w = .ok (.slice (some ⟨g, 0, none⟩) (n + k) cap) (w.setRow g (cur.toList.take n ++ List.replicate k (Value.int .i64 0) ++ cur.toList.drop (n + (List.replicate k (Value.int .i64 0)).length)).toArray) := by
        simp [Builtin.append_, run_underlying ht, run_underlying htn, sizeOf, typeInfo, zeroValue, hi, hz, hs, hby, asInt, asIntOf, hw, hneg, hk0, h48i, hroom, Addr.add_lit, hzc, zeroCells_list, hst]
      refine ⟨_, _, hr, ⟨hlen, .inr ⟨g, cap, _, rfl, hbg, setRow_heap w g cur _ e _ hg, hroom, hcm, ?_, ?_⟩⟩, ⟨rfl, rfl, rfl, by simp, fun j _ hj => setRow_other w g j _ (fun e => hj (by simp [Value.ownBlock, e]))⟩⟩
      · simp
        omega
      · rw [← hlen]
        rw [Nat.mul_one] at htake
        rw [htake]
        exact List.take_left
    · have holds : ∀ j u, xs[j]? = some u → w.cell? ((⟨g, 0, none⟩ : Addr).add j) = some u := hown.cells (g := g) rfl
      have hold : (Builtin.firstCells i.size n (.slice (some ⟨g, 0, none⟩) n cap)).run P w.drew = .ok xs.toArray w.drew := run_firstCells_some (P := P) w.drew i.size n ⟨g, 0, none⟩ n cap xs (by rw [hs]; exact hown.1) holds
      have hnx := nextslicecap_le (need := n + k) (old := cap) (by omega)
      have hr := Lib.run_append_grow_zeros (P := P) w t tn ty e i _ kq kn ht htn hi hz (some ⟨g, 0, none⟩) n cap xs hold k h0 (by omega) (by omega) (by omega) (by rw [hby]; omega) (by rw [hby]; omega)
      have hge := grownCap_ge w (n + k) cap e
      refine ⟨_, _, hr, ⟨hlen, .inr ⟨w.heap.size, _, _, rfl, hbase, heap_alloc_new w.drew _, hge, grownCap_le_maxLen w (n + k) cap e (by unfold maxLen; omega), ?_, ?_⟩⟩, ⟨rfl, rfl, rfl, by simp, fun j hj _ => heap_alloc_old w.drew _ hj⟩⟩
      · have := hown.1
        rw [hzc]
        simp [size_zeroCells]
        omega
      · rw [hzc, Array.toList_append, Array.toList_append, zeroCells_list, ← hlen]
        exact List.take_left

/-- Bits lie in block g. -/
def BitsAt (w : World) (g : Nat) (f : Nat → Bool) (n : Nat) : Prop :=
  ∃ cur : Array Value, w.heap[g]? = some (.cells cur 3 (0, 0)) ∧ ∀ (p : Nat), p < n → cur[p]? = some (bitV (f p))

section
variable {w w' : World} {g n : Nat} {f f' : Nat → Bool}

theorem BitsAt.cell (h : BitsAt w g f n) {p : Nat} (hp : p < n) : w.cell? ⟨g, p, none⟩ = some (.int .i64 ((f p).toNat : Int)) := by
  obtain ⟨cur, h, q⟩ := h
  have e := q p hp
  simp [World.cell?, h, e, bitV]

theorem BitsAt.fz (h : BitsAt w g f n) (p : Nat) : w.frozen? ⟨g, p, none⟩ = false := by
  obtain ⟨cur, h, q⟩ := h
  simp [World.frozen?, h]

theorem BitsAt.lt (h : BitsAt w g f n) : g < w.heap.size := by
  obtain ⟨cur, h, q⟩ := h
  exact (Array.getElem?_eq_some_iff.1 h).1

theorem BitsAt.like (h : BitsAt w g f n) (hf : ∀ p, p < n → f' p = f p) : BitsAt w g f' n := by
  obtain ⟨cur, h, q⟩ := h
  exact ⟨cur, h, fun p hp => by rw [hf p hp]; exact q p hp⟩

theorem BitsAt.same (h : BitsAt w g f n) (hw : w'.heap[g]? = w.heap[g]?) : BitsAt w' g f n := by
  obtain ⟨cur, h, q⟩ := h
  exact ⟨cur, hw.trans h, q⟩

theorem BitsAt.set (h : BitsAt w g f n) (k : Nat) (hf : ∀ p, p < n → p ≠ k → f' p = f p) : BitsAt (w.setCell ⟨g, k, none⟩ (.int .i64 ((f' k).toNat : Int))) g f' n := by
  obtain ⟨cur, h, q⟩ := h
  refine ⟨cur.setIfInBounds k (.int .i64 ((f' k).toNat : Int)), ?_, fun p hp => ?_⟩
  · show (w.heap.modify g _)[g]? = _
    rw [Array.getElem?_modify, if_pos rfl, h]
    simp
  · rw [Array.getElem?_setIfInBounds]
    have hq := q p hp
    have hlt := (Array.getElem?_eq_some_iff.1 hq).1
    by_cases e : k = p
    · subst e
      simp [hlt, bitV]
    · rw [if_neg e, hf p hp (fun x => e x.symm)]
      exact hq

theorem BitsAt.of_own {base : Nat} {v : Value} (hown : w.ownsRow base 3 1 v n (bl f n)) (hn : 0 < n) : ∃ g cap, v = .slice (some ⟨g, 0, none⟩) n cap ∧ base ≤ g ∧ n ≤ cap ∧ cap ≤ maxLen ∧ BitsAt w g f n := by
  rcases hown.2 with ⟨_, h⟩ | ⟨g, cap, cur, rfl, hbg, hg, hnc, hcm, hcs, htake⟩
  · omega
  · refine ⟨g, cap, rfl, hbg, hnc, hcm, cur, hg, fun p hp => ?_⟩
    have h1 := bl_get f n p hp
    rw [← htake, List.getElem?_take, if_pos (by omega)] at h1
    simpa using h1
end
end Go.Proofs.YtonignmhmfhnfaaDoor
