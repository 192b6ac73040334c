/- The card of switchyardkeep.LldpOrder: for every argument it returns true, and the arguments read as they did; what its row lists of package-level variables is tied to the program's text. -/
import Derived.Test.YtcijhmbimbejfaaDoorLsK10
import Derived.Test.YtcijhmbimbejfaaDoorLsK3
import Derived.Test.YtcijhmbimbejfaaDoorLsK4
import Derived.Test.YtcijhmbimbejfaaDoorLsK5
import Derived.Test.YtcijhmbimbejfaaDoorLsK6
import Derived.Test.YtcijhmbimbejfaaDoorLsK7
import Derived.Test.YtcijhmbimbejfaaDoorLsK9
import Derived.Below
import Derived.ChangeSame
import Derived.Test.YtcijhmbimbejfaaDoorRows
import Derived.Test.YtcijhmbimbejfaaDoorCards
import Derived.Test.YtcijhmbimbejfaaDoorTie
import Derived.ProofKit
import Derived.OpenShut
import Derived.LaidHandle
import Derived.LaidMore
import Derived.LaidSub
import Derived.Deep.DeepHandedRow
import Derived.Lib.LaidTab
import Derived.WideKeyArgs
import Derived.WideShapes
import Derived.SizedLaws
import Derived.Lib.SmallJoins
import Derived.Deep.SlicePairs
namespace Go.Proofs.YtcijhmbimbejfaaDoor
open Go.RowKit
attribute [local go_sem ↓] Go.wp_at_zero Go.wp_at_succ
set_option linter.unusedSimpArgs false
set_option linter.unusedVariables false
set_option maxRecDepth 100000

set_option maxHeartbeats 1600000 in
theorem large_any (x : Ld) (q : LdA) (w : World) :
    Calls Tryd.prog 7 #[.agg (ldC x q)] w fun e w' => (∃ b, e = .returned (.bool b)) ∧ Below w.heap.size w w' := by
  go_enter Tryd.func7, Tryd.ntmps7
  go_upto_region 1 with (refine box_blk 29 (ldC x q) (by rfl) (by rfl) rfl ?_; intro w1 HA1 B1)
  generalize hgg : w.heap.size = g at *
  have c5 := HA1.cv 5 (.slice q.de.1 x.de.length q.de.2) rfl
  have c6 := HA1.cv 6 (.slice q.ho.1 x.ho.length q.ho.2) rfl
  have c7 := HA1.cv 7 (.slice q.sy.1 x.sy.length q.sy.2) rfl
  have c8 := HA1.cv 8 (.slice q.ca.1 x.ca.length q.ca.2) rfl
  have c9 := HA1.cv 9 (.slice q.ma.1 x.ma.length q.ma.2) rfl
  have c10 := HA1.cv 10 (.slice q.og.1 x.og.length q.og.2) rfl
  generalize x.de.length = n1 at *
  generalize x.ho.length = n2 at *
  generalize x.sy.length = n3 at *
  generalize x.ca.length = n4 at *
  generalize x.ma.length = n5 at *
  generalize x.og.length = n6 at *
  go_wp2
  go_ret
  exact ⟨⟨_, rfl⟩, by rw [hgg]; exact B1⟩
theorem wrap_sum {n1 n2 n3 n4 n5 n6 : Nat} (h1 : n1 ≤ 140737488355328) (h2 : n2 ≤ 140737488355328) (h3 : n3 ≤ 140737488355328) (h4 : n4 ≤ 140737488355328) (h5 : n5 ≤ 140737488355328) (h6 : n6 ≤ 140737488355328) :
    wrap64 (wrap64 (wrap64 (wrap64 (wrap64 ((n5 : Int) + (n6 : Int)) + (n1 : Int)) + (n2 : Int)) + (n3 : Int)) + (n4 : Int)) = (n5 : Int) + (n6 : Int) + (n1 : Int) + (n2 : Int) + (n3 : Int) + (n4 : Int) := by
  have e : ∀ x : Int, 0 ≤ x → x ≤ 9000000000000000000 → wrap64 x = x := fun x h0 h1 => by unfold wrap64; omega
  rw [e ((n5 : Int) + (n6 : Int)) (by omega) (by omega), e ((n5 : Int) + (n6 : Int) + (n1 : Int)) (by omega) (by omega), e ((n5 : Int) + (n6 : Int) + (n1 : Int) + (n2 : Int)) (by omega) (by omega), e ((n5 : Int) + (n6 : Int) + (n1 : Int) + (n2 : Int) + (n3 : Int)) (by omega) (by omega), e ((n5 : Int) + (n6 : Int) + (n1 : Int) + (n2 : Int) + (n3 : Int) + (n4 : Int)) (by omega) (by omega)]
set_option maxHeartbeats 1600000 in
theorem large_le (x : Ld) (q : LdA) (w : World) (h : x.de.length ≤ 140737488355328 ∧ x.ho.length ≤ 140737488355328 ∧ x.sy.length ≤ 140737488355328 ∧ x.ca.length ≤ 140737488355328 ∧ x.ma.length ≤ 140737488355328 ∧ x.og.length ≤ 140737488355328) :
    Calls Tryd.prog 7 #[.agg (ldC x q)] w fun e w' => (∃ b, e = .returned (.bool b) ∧ (b = false → x.og.length ≤ 60)) ∧ Below w.heap.size w w' := by
  have HH := Lib.hid h
  clear h
  go_enter Tryd.func7, Tryd.ntmps7
  go_upto_region 1 with (refine box_blk 29 (ldC x q) (by rfl) (by rfl) rfl ?_; intro w1 HA1 B1)
  generalize hgg : w.heap.size = g at *
  have c5 := HA1.cv 5 (.slice q.de.1 x.de.length q.de.2) rfl
  have c6 := HA1.cv 6 (.slice q.ho.1 x.ho.length q.ho.2) rfl
  have c7 := HA1.cv 7 (.slice q.sy.1 x.sy.length q.sy.2) rfl
  have c8 := HA1.cv 8 (.slice q.ca.1 x.ca.length q.ca.2) rfl
  have c9 := HA1.cv 9 (.slice q.ma.1 x.ma.length q.ma.2) rfl
  have c10 := HA1.cv 10 (.slice q.og.1 x.og.length q.og.2) rfl
  generalize x.de.length = n1 at *
  generalize x.ho.length = n2 at *
  generalize x.sy.length = n3 at *
  generalize x.ca.length = n4 at *
  generalize x.ma.length = n5 at *
  generalize hn6 : x.og.length = n6 at *
  have HN6 := Lib.hid hn6
  clear hn6
  go_wp2
  go_ret
  refine ⟨⟨_, rfl, fun hb => ?_⟩, by rw [hgg]; exact B1⟩
  obtain ⟨h1, h2, h3, h4, h5, h6⟩ := HH.out
  have hb := of_decide_eq_false hb
  rw [wrap_sum h1 h2 h3 h4 h5 h6] at hb
  rw [HN6.out]
  omega
/-- The cells of a block begin with these records. -/
def RowIs (C : Array Value) (l : List Tl) : Prop := l.length * 2 ≤ C.size ∧ ∀ j (hj : j < l.length), ∀ k, k < 2 → C[j * 2 + k]? = (tlC l[j])[k]?
theorem OwnTl.row {w : World} {base : Nat} {v : Value} {l : List Tl} (h : OwnTl w base v l) (hl : l ≠ []) : ∃ g cap C, v = .slice (some ⟨g, 0, none⟩) l.length cap ∧ base ≤ g ∧ Blk w g 51 C ∧ RowIs C l := by
  rcases h with h | ⟨-, g, cap, rfl, h1, h2⟩
  · exact absurd h.1 hl
  · rcases h2 with ⟨h3, -⟩ | ⟨g1, cap1, cur, e1, e2, e3, e4, e5, e6, e7⟩
    · cases h3
    · cases e1
      refine ⟨g, cap, cur, rfl, e2, e3, by rw [e6]; exact Nat.mul_le_mul_right 2 e4, fun j hj k hk => ?_⟩
      have h3 := tlR_get l j hj k hk
      rw [← e7, List.getElem?_take] at h3
      rw [if_pos (by omega)] at h3
      rw [← h3]
      simp
theorem RowIs.inL {w : World} {g : Nat} {T : TypeId} {C : Array Value} {l : List Tl} (hB : Blk w g T C) (h : RowIs C l) : TlIn w (some ⟨g, 0, none⟩) l := by
  refine Or.inr ⟨g, 0, rfl, hB.lt, fun j hj k c hc => ?_⟩
  have hk : k < 2 := (Array.getElem?_eq_some_iff.1 hc).1
  have := h.2 j hj k hk
  rw [Nat.zero_add]
  exact hB.cv (j * 2 + k) c (this.trans hc)
def putTl (C : Array Value) (i : Nat) (y : Tl) : Array Value := (C.toList.take (i * 2) ++ (Value.agg (tlC y)).cells.toList ++ C.toList.drop (i * 2 + (Value.agg (tlC y)).cells.toList.length)).toArray
theorem tlC_cl (y : Tl) : (Value.agg (tlC y)).cells.toList = [.int .i64 y.k, .string y.t] := rfl
theorem putTl_size (C : Array Value) (i : Nat) (y : Tl) (h : i * 2 + 2 ≤ C.size) : (putTl C i y).size = C.size := by
  unfold putTl
  rw [tlC_cl]
  simp
  omega
theorem putTl_get (C : Array Value) (i : Nat) (y : Tl) (h : i * 2 + 2 ≤ C.size) (j k : Nat) (hk : k < 2) : (putTl C i y)[j * 2 + k]? = if j = i then (tlC y)[k]? else C[j * 2 + k]? := by
  unfold putTl
  rw [tlC_cl, List.getElem?_toArray]
  have hl : (C.toList.take (i * 2)).length = i * 2 := by rw [List.length_take]; simp; omega
  by_cases hj : j = i
  · subst hj
    rw [if_pos rfl, List.getElem?_append_left (by rw [List.length_append, hl]; simp; omega), List.getElem?_append_right (by omega), hl, show j * 2 + k - j * 2 = k by omega]
    have : k = 0 ∨ k = 1 := by omega
    rcases this with rfl | rfl <;> rfl
  · rw [if_neg hj]
    by_cases hlt : j < i
    · rw [List.getElem?_append_left (by rw [List.length_append, hl]; simp; omega), List.getElem?_append_left (by omega), List.getElem?_take, if_pos (by omega)]
      simp
    · rw [List.getElem?_append_right (by rw [List.length_append, hl]; simp; omega), List.length_append, hl, List.getElem?_drop]
      simp only [List.length_cons, List.length_nil]
      rw [show i * 2 + (0 + 1 + 1) + (j * 2 + k - (i * 2 + (0 + 1 + 1))) = j * 2 + k by omega]
      simp
theorem RowIs.put {C : Array Value} {l : List Tl} (h : RowIs C l) (i : Nat) (hi : i < l.length) (y : Tl) : RowIs (putTl C i y) (l.set i y) := by
  have hz : i * 2 + 2 ≤ C.size := by have := h.1; omega
  refine ⟨by rw [putTl_size C i y hz, List.length_set]; exact h.1, fun j hj k hk => ?_⟩
  rw [List.length_set] at hj
  rw [putTl_get C i y hz j k hk, List.getElem_set]
  by_cases hji : j = i
  · subst hji
    rw [if_pos rfl, if_pos rfl]
  · rw [if_neg hji, if_neg (fun q => hji q.symm)]
    exact h.2 j hj k hk
theorem RowIs.at {C : Array Value} {l : List Tl} (h : RowIs C l) (i : Nat) (hi : i < l.length) : (C.toList.drop (i * 2)).take 2 = (tlC l[i]).toList := by
  have hz : i * 2 + 2 ≤ C.size := by have := h.1; omega
  apply List.ext_getElem?
  intro k
  rw [List.getElem?_take]
  by_cases hk : k < 2
  · rw [if_pos hk, List.getElem?_drop]
    have := h.2 i hi k hk
    simpa using this
  · rw [if_neg hk, List.getElem?_eq_none (by show (tlC l[i]).toList.length ≤ k; rw [tlC_len]; omega)]
theorem RowIs.size {C : Array Value} {l : List Tl} (h : RowIs C l) (i : Nat) (hi : i < l.length) (y : Tl) : i * 2 + (Value.agg (tlC y)).cells.toList.length ≤ C.size := by
  have := h.1
  show i * 2 + 2 ≤ _
  omega
/-- Two neighbours change places. -/
theorem swap_list {α : Type} (a b : List α) (u v : α) : ((a ++ u :: v :: b).set a.length v).set (a.length + 1) u = a ++ v :: u :: b := by
  rw [List.set_append_right _ _ (Nat.le_refl _), Nat.sub_self, List.set_append_right _ _ (by omega), show a.length + 1 - a.length = 1 by omega]
  rfl
theorem split2 {α : Type} (l : List α) (i : Nat) (h : i + 1 < l.length) : ∃ a b, l = a ++ l[i] :: l[i + 1] :: b ∧ a.length = i := by
  refine ⟨l.take i, l.drop (i + 2), ?_, by rw [List.length_take]; omega⟩
  rw [← List.drop_eq_getElem_cons (by omega), ← List.drop_eq_getElem_cons (by omega), List.take_append_drop]

end Go.Proofs.YtcijhmbimbejfaaDoor

namespace Go.Proofs.YtcijhmbimbejfaaDoor
open Go.RowKit
attribute [local go_sem ↓] Go.wp_at_zero Go.wp_at_succ
set_option linter.unusedSimpArgs false
set_option linter.unusedVariables false
set_option maxRecDepth 100000

/-- With two neighbours of unlike kinds changed. -/
def swpT (l : List Tl) (i : Nat) : List Tl := (l.set i (l.getD (i + 1) zTl)).set (i + 1) (l.getD i zTl)
theorem swp_len (l : List Tl) (i : Nat) : (swpT l i).length = l.length := by simp [swpT]
theorem swp_mem {l : List Tl} {i : Nat} (h : i + 1 < l.length) {t : Tl} (ht : t ∈ swpT l i) : t ∈ l := by
  unfold swpT at ht
  rw [List.getD_eq_getElem?_getD, List.getD_eq_getElem?_getD, List.getElem?_eq_getElem h, List.getElem?_eq_getElem (by omega)] at ht
  rcases List.mem_or_eq_of_mem_set ht with ht | rfl
  · rcases List.mem_or_eq_of_mem_set ht with ht | rfl
    · exact ht
    · exact List.getElem_mem h
  · exact List.getElem_mem (by omega)
theorem swp_eq {l : List Tl} {i : Nat} (h : i + 1 < l.length) : ∃ a b, l = a ++ l[i] :: l[i + 1] :: b ∧ a.length = i ∧ swpT l i = a ++ l[i + 1] :: l[i] :: b := by
  obtain ⟨a, b, h1, h2⟩ := split2 l i h
  refine ⟨a, b, h1, h2, ?_⟩
  have h3 := swap_list a b l[i] l[i + 1]
  rw [h2, ← h1] at h3
  rw [← h3]
  unfold swpT
  rw [List.getD_eq_getElem?_getD, List.getD_eq_getElem?_getD, List.getElem?_eq_getElem h, List.getElem?_eq_getElem (by omega)]
  rfl
theorem rd_swp (x : Ld) (hok : okLd x = true) (r : Nat) (h : 3 + r + 1 < (ldTls x).length) (hk : (ldTls x)[3 + r].k ≠ (ldTls x)[3 + r + 1].k) : rdLd (tlWrite (swpT (ldTls x) (3 + r))) = .ok x ∧ (∀ t ∈ swpT (ldTls x) (3 + r), okTl t = true) := by
  have hall : ∀ t ∈ swpT (ldTls x) (3 + r), okTl t = true := fun t ht => ldTls_ok x hok t (swp_mem h ht)
  refine ⟨?_, hall⟩
  unfold rdLd
  rw [rdAll_wrote _ hall]
  show ldGo _ [] zLd _ _ = _
  rw [ldGo_acc]
  obtain ⟨a, b, h1, h2, h3⟩ := swp_eq h
  rw [h3]
  generalize (ldTls x)[3 + r] = u at *
  generalize (ldTls x)[3 + r + 1] = v at *
  obtain ⟨t1, t2, t3, a', rfl⟩ : ∃ t1 t2 t3 a', a = t1 :: t2 :: t3 :: a' := by
    match a, h2 with
    | [], h2 => simp at h2; omega
    | [_], h2 => simp at h2; omega
    | [_, _], h2 => simp at h2; omega
    | t1 :: t2 :: t3 :: a, _ => exact ⟨t1, t2, t3, a, rfl⟩
  · clear h2
    have h4 := h1
    rw [ldTls_rest] at h4
    simp only [List.cons_append, List.cons.injEq] at h4
    obtain ⟨rfl, rfl, rfl, h4⟩ := h4
    obtain ⟨q1, q2⟩ := swap_ok x hok a' b u v h4 hk
    exact ⟨q1, q2.symm⟩

end Go.Proofs.YtcijhmbimbejfaaDoor

namespace Go.Proofs.YtcijhmbimbejfaaDoor
open Go.RowKit
attribute [local go_sem ↓] Go.wp_at_zero Go.wp_at_succ
set_option linter.unusedSimpArgs false
set_option linter.unusedVariables false
set_option maxRecDepth 100000

theorem CellsAt.drewC {w : World} {B o : Nat} {X : Array Value} (h : CellsAt w B o X) : CellsAt w.drew B o X := h

set_option maxHeartbeats 6400000 in
theorem eqTls_any (a1 : Option Addr) (c1 : Nat) (a2 : Option Addr) (c2 : Nat) (l : List Tl) (w : World) (h1 : TlIn w a1 l) (h2 : TlIn w a2 l) (hlen : l.length ≤ 1000000) :
    Calls Tryd.prog 35 #[.slice a1 l.length c1, .slice a2 l.length c2] w fun e w' => e = .returned (.bool true) ∧ Below w.heap.size w w' := by
  go_enter Tryd.func35, Tryd.ntmps35
  go_wp2_with fail
  go_loopw [13] (fun i wr => ∃ k : Nat, k ≤ l.length ∧ i = .int .i64 k ∧ Below w.heap.size w wr) (fun i _ => l.length - (intOf i).toNat)
  case atStart => exact ⟨0, by omega, rfl, Below.refl _ _⟩
  case round =>
    obtain ⟨k, hk, rfl, hb⟩ := hrel
    by_cases hlt : k < l.length
    · obtain ⟨b1, o1, rfl, hb1, hat1⟩ := h1.at hlt
      obtain ⟨b2, o2, rfl, hb2, hat2⟩ := h2.at hlt
      have q1 : (k : Int) < (l.length : Int) := by omega
      have q2 : decide ((k : Int) < (l.length : Int)) = true := decide_eq_true q1
      have q3 : (0 : Int) ≤ (k : Int) := by omega
      have HK1 := (hat1 k hlt).below hb hb1
      have HK2 := (hat2 k hlt).below hb hb2
      have HEQ := fun W => tl_same l[k] W
      generalize l[k] = x at *
      go_upto_region 6 with (fail)
      refine wp_region_noPanic ?_
      refine wp_region_held_drew (S := (fun w' => CellsAt w' b1 (o1 + k * 2) (tlC x) ∧ CellsAt w' b2 (o2 + k * 2) (tlC x))) (by kernel_rfl) ?_ (fun hHeld => ?_)
      · exact ⟨HK1.drewC, HK2.drewC⟩
      refine wpAnyH_take (i := 0) (v := ?_) rfl (by kernel_rfl) (by kernel_rfl) (by kernel_rfl) (fun _ _ _ h => h) (Or.inl ⟨by rfl, ?_⟩) (by assumption) ?_
      rotate_left
      · (intro w hSw; (try dsimp only at hSw); go_simp; (try with_reducible rfl))
      (try simp only [Act.put, List.getElem_toArray, List.getElem_cons_zero, List.getElem_cons_succ, List.setIfInBounds_toArray, List.set_cons_zero, List.set_cons_succ])
      refine wpAnyH_take (i := 1) (v := ?_) rfl (by kernel_rfl) (by kernel_rfl) (by kernel_rfl) (fun _ _ _ h => h) (Or.inl ⟨by rfl, ?_⟩) (by assumption) ?_
      rotate_left
      · (intro w hSw; (try dsimp only at hSw); go_simp; (try with_reducible rfl))
      (try simp only [Act.put, List.getElem_toArray, List.getElem_cons_zero, List.getElem_cons_succ, List.setIfInBounds_toArray, List.set_cons_zero, List.set_cons_succ])
      refine wpAnyH_take (i := 2) (v := ?_) rfl (by kernel_rfl) (by kernel_rfl) (by kernel_rfl) (fun _ _ _ h => h) (Or.inl ⟨by rfl, ?_⟩) (by assumption) ?_
      rotate_left
      · (intro w hSw; (try dsimp only at hSw); go_simp; (try with_reducible rfl))
      (try simp only [Act.put, List.getElem_toArray, List.getElem_cons_zero, List.getElem_cons_succ, List.setIfInBounds_toArray, List.set_cons_zero, List.set_cons_succ])
      refine wpAnyH_take (i := 3) (v := .agg (tlC x)) rfl (by kernel_rfl) (by kernel_rfl) (by kernel_rfl) (fun _ _ _ h => h) (Or.inl ⟨by rfl, fun w hSw => exec_load_cells 51 (tlC x) rfl rfl hSw.1 (by kernel_rfl) (by kernel_rfl)⟩) (by assumption) ?_
      (try simp only [Act.put, List.getElem_toArray, List.getElem_cons_zero, List.getElem_cons_succ, List.setIfInBounds_toArray, List.set_cons_zero, List.set_cons_succ])
      refine wpAnyH_take (i := 4) (v := ?_) rfl (by kernel_rfl) (by kernel_rfl) (by kernel_rfl) (fun _ _ _ h => h) (Or.inl ⟨by rfl, ?_⟩) (by assumption) ?_
      rotate_left
      · (intro w hSw; (try dsimp only at hSw); go_simp; (try with_reducible rfl))
      (try simp only [Act.put, List.getElem_toArray, List.getElem_cons_zero, List.getElem_cons_succ, List.setIfInBounds_toArray, List.set_cons_zero, List.set_cons_succ])
      refine wpAnyH_take (i := 5) (v := ?_) rfl (by kernel_rfl) (by kernel_rfl) (by kernel_rfl) (fun _ _ _ h => h) (Or.inl ⟨by rfl, ?_⟩) (by assumption) ?_
      rotate_left
      · (intro w hSw; (try dsimp only at hSw); go_simp; (try with_reducible rfl))
      (try simp only [Act.put, List.getElem_toArray, List.getElem_cons_zero, List.getElem_cons_succ, List.setIfInBounds_toArray, List.set_cons_zero, List.set_cons_succ])
      refine wpAnyH_take (i := 6) (v := ?_) rfl (by kernel_rfl) (by kernel_rfl) (by kernel_rfl) (fun _ _ _ h => h) (Or.inl ⟨by rfl, ?_⟩) (by assumption) ?_
      rotate_left
      · (intro w hSw; (try dsimp only at hSw); go_simp; (try with_reducible rfl))
      (try simp only [Act.put, List.getElem_toArray, List.getElem_cons_zero, List.getElem_cons_succ, List.setIfInBounds_toArray, List.set_cons_zero, List.set_cons_succ])
      refine wpAnyH_take (i := 7) (v := .agg (tlC x)) rfl (by kernel_rfl) (by kernel_rfl) (by kernel_rfl) (fun _ _ _ h => h) (Or.inl ⟨by rfl, fun w hSw => exec_load_cells 51 (tlC x) rfl rfl hSw.2 (by kernel_rfl) (by kernel_rfl)⟩) (by assumption) ?_
      (try simp only [Act.put, List.getElem_toArray, List.getElem_cons_zero, List.getElem_cons_succ, List.setIfInBounds_toArray, List.set_cons_zero, List.set_cons_succ])
      refine wpAnyH_take (i := 8) (v := .bool false) rfl (by kernel_rfl) (by kernel_rfl) (by kernel_rfl) (fun _ _ _ h => h) (Or.inl ⟨by rfl, fun w hSw => exec_eq_agg .neq 51 (tlC x) (tlC x) true rfl (Or.inr rfl) rfl rfl (by kernel_rfl) (HEQ w)⟩) (by assumption) ?_
      (try simp only [Act.put, List.getElem_toArray, List.getElem_cons_zero, List.getElem_cons_succ, List.setIfInBounds_toArray, List.set_cons_zero, List.set_cons_succ])
      refine wpAnyH_done (by kernel_rfl) ?_ _
      refine NoPanic.normal ?_
      have hbd := hb.drew
      go_wp2
      go_roundw
      case rel => exact ⟨k + 1, by omega, by go_num, hbd⟩
      case measure => simp [intOf]; omega
    · obtain rfl : k = l.length := by omega
      have q2 : decide ((l.length : Int) < (l.length : Int)) = false := decide_eq_false (by omega)
      go_wp2
      go_ret
      exact ⟨rfl, hb⟩

end Go.Proofs.YtcijhmbimbejfaaDoor

namespace Go.Proofs.YtcijhmbimbejfaaDoor
open Go.RowKit
attribute [local go_sem ↓] Go.wp_at_zero Go.wp_at_succ
set_option linter.unusedSimpArgs false
set_option linter.unusedVariables false
set_option maxRecDepth 100000

set_option maxHeartbeats 6400000 in
/-- slices.Equal of lists of numbers that are the same. -/
theorem eqNis_any (a1 : Option Addr) (c1 : Nat) (a2 : Option Addr) (c2 : Nat) (l : List Nat) (w : World) (h1 : NiIn w a1 l) (h2 : NiIn w a2 l) (hlen : l.length ≤ 1000000) :
    Calls Tryd.prog 36 #[.slice a1 l.length c1, .slice a2 l.length c2] w fun e w' => e = .returned (.bool true) ∧ Below w.heap.size w w' := by
  go_enter Tryd.func36, Tryd.ntmps36
  go_wp2_with fail
  go_loopw [13] (fun i wr => ∃ k : Nat, k ≤ l.length ∧ i = .int .i64 k ∧ Below w.heap.size w wr) (fun i _ => l.length - (intOf i).toNat)
  case atStart => exact ⟨0, by omega, rfl, Below.refl _ _⟩
  case round =>
    obtain ⟨k, hk, rfl, hb⟩ := hrel
    by_cases hlt : k < l.length
    · obtain ⟨b1, o1, rfl, hb1, hat1⟩ := h1.at hlt
      obtain ⟨b2, o2, rfl, hb2, hat2⟩ := h2.at hlt
      have q1 : (k : Int) < (l.length : Int) := by omega
      have q2 : decide ((k : Int) < (l.length : Int)) = true := decide_eq_true q1
      have q3 : (0 : Int) ≤ (k : Int) := by omega
      have HK1 : wr.cell? ⟨b1, o1 + k, none⟩ = some (.int .i64 (l[k] : Nat)) := by
        have q := ((hat1 k hlt).below hb hb1) 0 (.int .i64 (l[k] : Nat)) rfl
        rw [Nat.mul_one, Nat.add_zero] at q
        exact q
      have HK2 : wr.cell? ⟨b2, o2 + k, none⟩ = some (.int .i64 (l[k] : Nat)) := by
        have q := ((hat2 k hlt).below hb hb2) 0 (.int .i64 (l[k] : Nat)) rfl
        rw [Nat.mul_one, Nat.add_zero] at q
        exact q
      generalize l[k] = z at *
      have e1 : ((z : Int) != (z : Int)) = false := by simp
      clear hat1 hat2
      go_upto_region 6 with (fail)
      refine wp_region_noPanic ?_
      refine wp_region_held_drew (S := (fun w' => w'.cell? ⟨b1, o1 + k, none⟩ = some (.int .i64 (z : Nat)) ∧ w'.cell? ⟨b2, o2 + k, none⟩ = some (.int .i64 (z : Nat)))) (by kernel_rfl) ?_ (fun hHeld => ?_)
      · exact ⟨HK1, HK2⟩
      refine wpAnyH_take (i := 0) (v := ?_) rfl (by kernel_rfl) (by kernel_rfl) (by kernel_rfl) (fun _ _ _ h => h) (Or.inl ⟨by rfl, ?_⟩) (by assumption) ?_
      rotate_left
      · (intro w hSw; (try dsimp only at hSw); go_simp; (try with_reducible rfl))
      (try simp only [Act.put, List.getElem_toArray, List.getElem_cons_zero, List.getElem_cons_succ, List.setIfInBounds_toArray, List.set_cons_zero, List.set_cons_succ])
      refine wpAnyH_take (i := 1) (v := ?_) rfl (by kernel_rfl) (by kernel_rfl) (by kernel_rfl) (fun _ _ _ h => h) (Or.inl ⟨by rfl, ?_⟩) (by assumption) ?_
      rotate_left
      · (intro w hSw; (try dsimp only at hSw); go_simp; (try with_reducible rfl))
      (try simp only [Act.put, List.getElem_toArray, List.getElem_cons_zero, List.getElem_cons_succ, List.setIfInBounds_toArray, List.set_cons_zero, List.set_cons_succ])
      refine wpAnyH_take (i := 2) (v := ?_) rfl (by kernel_rfl) (by kernel_rfl) (by kernel_rfl) (fun _ _ _ h => h) (Or.inl ⟨by rfl, ?_⟩) (by assumption) ?_
      rotate_left
      · (intro w hSw; (try dsimp only at hSw); go_simp; (try with_reducible rfl))
      (try simp only [Act.put, List.getElem_toArray, List.getElem_cons_zero, List.getElem_cons_succ, List.setIfInBounds_toArray, List.set_cons_zero, List.set_cons_succ])
      refine wpAnyH_take (i := 3) (v := .int .i64 (z : Nat)) rfl (by kernel_rfl) (by kernel_rfl) (by kernel_rfl) (fun _ _ _ h => h) (Or.inl ⟨by rfl, fun w hSw => by have c := hSw.1; go_simp⟩) (by assumption) ?_
      (try simp only [Act.put, List.getElem_toArray, List.getElem_cons_zero, List.getElem_cons_succ, List.setIfInBounds_toArray, List.set_cons_zero, List.set_cons_succ])
      refine wpAnyH_take (i := 4) (v := ?_) rfl (by kernel_rfl) (by kernel_rfl) (by kernel_rfl) (fun _ _ _ h => h) (Or.inl ⟨by rfl, ?_⟩) (by assumption) ?_
      rotate_left
      · (intro w hSw; (try dsimp only at hSw); go_simp; (try with_reducible rfl))
      (try simp only [Act.put, List.getElem_toArray, List.getElem_cons_zero, List.getElem_cons_succ, List.setIfInBounds_toArray, List.set_cons_zero, List.set_cons_succ])
      refine wpAnyH_take (i := 5) (v := ?_) rfl (by kernel_rfl) (by kernel_rfl) (by kernel_rfl) (fun _ _ _ h => h) (Or.inl ⟨by rfl, ?_⟩) (by assumption) ?_
      rotate_left
      · (intro w hSw; (try dsimp only at hSw); go_simp; (try with_reducible rfl))
      (try simp only [Act.put, List.getElem_toArray, List.getElem_cons_zero, List.getElem_cons_succ, List.setIfInBounds_toArray, List.set_cons_zero, List.set_cons_succ])
      refine wpAnyH_take (i := 6) (v := ?_) rfl (by kernel_rfl) (by kernel_rfl) (by kernel_rfl) (fun _ _ _ h => h) (Or.inl ⟨by rfl, ?_⟩) (by assumption) ?_
      rotate_left
      · (intro w hSw; (try dsimp only at hSw); go_simp; (try with_reducible rfl))
      (try simp only [Act.put, List.getElem_toArray, List.getElem_cons_zero, List.getElem_cons_succ, List.setIfInBounds_toArray, List.set_cons_zero, List.set_cons_succ])
      refine wpAnyH_take (i := 7) (v := .int .i64 (z : Nat)) rfl (by kernel_rfl) (by kernel_rfl) (by kernel_rfl) (fun _ _ _ h => h) (Or.inl ⟨by rfl, fun w hSw => by have c := hSw.2; go_simp⟩) (by assumption) ?_
      (try simp only [Act.put, List.getElem_toArray, List.getElem_cons_zero, List.getElem_cons_succ, List.setIfInBounds_toArray, List.set_cons_zero, List.set_cons_succ])
      refine wpAnyH_take (i := 8) (v := ?_) rfl (by kernel_rfl) (by kernel_rfl) (by kernel_rfl) (fun _ _ _ h => h) (Or.inl ⟨by rfl, ?_⟩) (by assumption) ?_
      rotate_left
      · (intro w hSw; (try dsimp only at hSw); go_simp; (try with_reducible rfl))
      (try simp only [Act.put, List.getElem_toArray, List.getElem_cons_zero, List.getElem_cons_succ, List.setIfInBounds_toArray, List.set_cons_zero, List.set_cons_succ])
      refine wpAnyH_done (by kernel_rfl) ?_ _
      refine NoPanic.normal ?_
      have hbd := hb.drew
      go_wp2
      go_roundw
      case rel => exact ⟨k + 1, by omega, by go_num, hbd⟩
      case measure => simp [intOf]; omega
    · obtain rfl : k = l.length := by omega
      have q2 : decide ((l.length : Int) < (l.length : Int)) = false := decide_eq_false (by omega)
      go_wp2
      go_ret
      exact ⟨rfl, hb⟩

def list0 : List Tl := [⟨1, ⟨#[97, 98]⟩⟩, ⟨127, ⟨#[]⟩⟩]
theorem list0_write : tlWrite list0 = [2, 2, 97, 98, 254, 0, 0, 0] := by decide +kernel
theorem list0_read : rdAll [2, 2, 97, 98, 254, 0, 0, 0] = .ok list0 [0, 4] 6 := by kernel_rfl
theorem list0_in (w w1 : World) (g : Nat) (h : Blk w1 g 51 #[.int .i64 1, .string ⟨#[97, 98]⟩, .int .i64 127, .string ⟨#[]⟩]) : TlIn w1 (some ⟨g, 0, none⟩) list0 := by
  refine Or.inr ⟨g, 0, rfl, h.lt, fun j hj k c hc => ?_⟩
  have hj : j < 2 := hj
  match j, hj with
  | 0, _ => exact h.cv (0 + 0 * 2 + k) c (by
      match k, hc with
      | 0, hc => exact hc
      | 1, hc => exact hc)
  | 1, _ => exact h.cv (0 + 1 * 2 + k) c (by
      match k, hc with
      | 0, hc => exact hc
      | 1, hc => exact hc)
theorem at0_in (w1 : World) (g : Nat) (h : Blk w1 g 3 #[.int .i64 0, .int .i64 4]) : NiIn w1 (some ⟨g, 0, none⟩) [0, 4] := by
  refine Or.inr ⟨g, 0, rfl, h.lt, fun j hj k c hc => ?_⟩
  have hj : j < 2 := hj
  match j, hj with
  | 0, _ => exact h.cv (0 + 0 * 1 + k) c (by
      match k, hc with
      | 0, hc => exact hc)
  | 1, _ => exact h.cv (0 + 1 * 1 + k) c (by
      match k, hc with
      | 0, hc => exact hc)
set_option maxHeartbeats 6400000 in
theorem listed_any (w : World) : Calls Tryd.prog 14 #[] w fun e w' => e = .returned (.bool true) ∧ Below w.heap.size w w' := by
  obtain ⟨i0, hi, hz0, hz1, hz2⟩ := info_parts Tryd.tlParts
  have HW : Hid (∀ (a : Option Addr) (W : World), TlIn W a list0 → Calls Tryd.prog 17 #[.slice a 2 2] W fun e w' => ∃ er, e = .returned (.tuple #[.string ⟨#[2, 2, 97, 98, 254, 0, 0, 0]⟩, er]) ∧ ErrAs w' er 0 (-1) ∧ Below W.heap.size W w') := fun a W h =>
    tlWrite_any a 2 list0 2 (by decide) (by decide +kernel) (by decide) [2, 2, 97, 98, 254, 0, 0, 0] 0 (-1) (Or.inl ⟨rfl, list0_write.symm, rfl, rfl⟩) W h
  have HR : Hid (∀ (W : World), Calls Tryd.prog 15 #[.string ⟨#[2, 2, 97, 98, 254, 0, 0, 0]⟩] W fun e w' => ∃ v1 v2 er, e = .returned (.tuple #[v1, v2, .int .i64 6, er]) ∧ OwnTl w' W.heap.size v1 list0 ∧ OwnNat w' W.heap.size v2 [0, 4] ∧ ErrAs w' er 0 (-1) ∧ Below W.heap.size W w') := fun W =>
    tlRead_any ⟨#[2, 2, 97, 98, 254, 0, 0, 0]⟩ W (by decide) (.ok list0 [0, 4] 6) list0_read
  have HE1 : Hid (∀ (a1 a2 : Option Addr) (c1 : Nat) (W : World), TlIn W a1 list0 → TlIn W a2 list0 → Calls Tryd.prog 35 #[.slice a1 2 c1, .slice a2 2 2] W fun e w' => e = .returned (.bool true) ∧ Below W.heap.size W w') := fun a1 a2 c1 W h1 h2 => eqTls_any a1 c1 a2 2 list0 W h1 h2 (by decide)
  have HE2 : Hid (∀ (a1 a2 : Option Addr) (c1 : Nat) (W : World), NiIn W a1 [0, 4] → NiIn W a2 [0, 4] → Calls Tryd.prog 36 #[.slice a1 2 c1, .slice a2 2 2] W fun e w' => e = .returned (.bool true) ∧ Below W.heap.size W w') := fun a1 a2 c1 W h1 h2 => eqNis_any a1 c1 a2 2 [0, 4] W h1 h2 (by decide)
  go_enter Tryd.func14, Tryd.ntmps14
  have B1 : Below w.heap.size w (w.alloc (.cells #[.int .i64 1, .string ⟨#[97, 98]⟩, .int .i64 127, .string ⟨#[]⟩] 51)) := (Below.refl _ _).alloc (Nat.le_refl _) _
  have I1 := list0_in w _ w.heap.size (Blk.new w 51 #[.int .i64 1, .string ⟨#[97, 98]⟩, .int .i64 127, .string ⟨#[]⟩])
  go_wp2_with fail
  refine (HW.out _ _ I1).mono ?_
  rintro e w2 ⟨er, rfl, hp2, b2⟩
  have B2 := B1.trans (b2.mono B1.size)
  rcases hp2 with ⟨rfl, -, -⟩ | ⟨q, -⟩
  rotate_left
  · exact absurd rfl q
  go_wp2_with fail
  refine (HR.out _).mono ?_
  rintro e w3 ⟨v1, v2, er, rfl, O1, O2, hp3, b3⟩
  have B3 := B2.trans (b3.mono B2.size)
  rcases hp3 with ⟨rfl, -, -⟩ | ⟨q, -⟩
  rotate_left
  · exact absurd rfl q
  obtain ⟨a1, c1, hv1, J1⟩ := O1.inL
  subst hv1
  obtain ⟨a2, c2, hv2, J2⟩ := O2.inL
  subst hv2
  clear O1 O2 B1 B2 I1 b2 b3
  have B4 := B3.alloc B3.size (.cells #[.int .i64 1, .string ⟨#[97, 98]⟩, .int .i64 127, .string ⟨#[]⟩] 51)
  have hb4 : Below w3.heap.size w3 (w3.alloc (.cells #[.int .i64 1, .string ⟨#[97, 98]⟩, .int .i64 127, .string ⟨#[]⟩] 51)) := (Below.refl _ _).alloc (Nat.le_refl _) _
  have I4 := list0_in w _ w3.heap.size (Blk.new w3 51 #[.int .i64 1, .string ⟨#[97, 98]⟩, .int .i64 127, .string ⟨#[]⟩])
  have J14 := J1.below hb4
  have J24 := J2.below hb4
  have el : list0.length = 2 := rfl
  simp only [el, List.length_cons, List.length_nil, Nat.zero_add, Nat.reduceAdd]
  go_wp2_with fail
  refine (HE1.out _ _ _ _ J14 I4).mono ?_
  rintro e w5 ⟨rfl, b5⟩
  have J25 := J24.below b5
  have B5 := B4.trans (b5.mono B4.size)
  have B6 := B5.alloc B5.size (.cells #[.int .i64 0, .int .i64 4] 3)
  have hb6 : Below w5.heap.size w5 (w5.alloc (.cells #[.int .i64 0, .int .i64 4] 3)) := (Below.refl _ _).alloc (Nat.le_refl _) _
  have I6 := at0_in _ w5.heap.size (Blk.new w5 3 #[.int .i64 0, .int .i64 4])
  have J26 := J25.below hb6
  go_wp2_with fail
  refine (HE2.out _ _ _ _ J26 I6).mono ?_
  rintro e w7 ⟨rfl, b7⟩
  go_wp2
  go_ret
  exact ⟨rfl, B6.trans (b7.mono B6.size)⟩



end Go.Proofs.YtcijhmbimbejfaaDoor

namespace Go.Proofs.YtcijhmbimbejfaaDoor.lldpOrder
open Go.RowKit
attribute [local go_sem ↓] Go.wp_at_zero Go.wp_at_succ
set_option linter.unusedSimpArgs false
set_option linter.unusedVariables false
set_option maxRecDepth 100000

set_option maxHeartbeats 3200000 in
theorem walk (x : Ld) (q : LdA) (z : Int) (w : World) (h : LdIn w x q) (hr : rgLd x) :
    Calls Tryd.prog 5 #[.agg (ldC x q), .int .i64 z] w fun e w' => e = .returned (.bool true) ∧ Below w.heap.size w w' := by
  have hnn : ∀ w : World, (binOp BinOp.eql 35 .nilIface .nilIface).run Tryd.prog w = .ok (.bool true) w := fun _ => by kernel_rfl
  have HLg := Lib.hid (fun W => large_any x q W)
  cases hok : okLd x with
  | false =>
    have HW := Lib.hid (fun (W : World) (h : LdIn W x q) => by
      have r := ldWrite_any x q W h hr
      unfold ldX ldE at r
      rw [hok] at r
      exact r)
    simp only [Bool.false_eq_true, if_false] at HW
    clear hok hr
    go_enter Tryd.func5, Tryd.ntmps5
    go_upto_region 1 with (refine box_blk 29 (ldC x q) (by rfl) (by rfl) rfl ?_; intro w1 HV1 B1)
    generalize hV : w.heap.size = V at *
    go_wp2_with fail
    refine (told_any _).mono ?_
    rintro e w2 ⟨rfl, k2⟩
    have HV2 := HV1.kept k2
    have B2 := B1.trans (k2.mono (by have := B1.size; omega))
    clear HV1 B1 k2
    go_wp2_with fail
    refine (listed_any _).mono ?_
    rintro e w3 ⟨rfl, k3⟩
    have HV3 := HV2.kept k3
    have B3 := B2.trans (k3.mono (by have := B2.size; omega))
    clear HV2 B2 k3
    go_wp2_with (refine load_blk (k := 0) 29 (ldC x q) (by rfl) rfl rfl HV3 (by kernel_rfl) (by kernel_rfl) rfl ?_)
    refine (HLg.out _).mono ?_
    rintro e w4 ⟨⟨b, rfl⟩, k4⟩
    have HV4 := HV3.kept k4
    have B4 := B3.trans (k4.mono (by have := B3.size; omega))
    clear HV3 B3 k4
    cases b with
    | true =>
      go_wp2
      go_ret
      exact ⟨rfl, by rw [hV]; exact B4⟩
    | false =>
      have I4 := h.below (by rw [hV]; exact B4)
      go_wp2_with (refine load_blk (k := 0) 29 (ldC x q) (by rfl) rfl rfl HV4 (by kernel_rfl) (by kernel_rfl) rfl ?_)
      refine (HW.out _ I4).mono ?_
      rintro e w5 ⟨rfl, k5⟩
      go_wp2
      go_ret
      exact ⟨rfl, by rw [hV]; exact B4.trans (k5.mono (by have := B4.size; omega))⟩
  | true =>
    have HW := Lib.hid (fun (W : World) (h : LdIn W x q) => by
      have r := ldWrite_any x q W h (okLd_rg _ hok)
      unfold ldX ldE at r
      rw [hok, if_pos rfl, if_pos rfl] at r
      exact r)
    have hall := ldTls_ok x hok
    have HTR : Hid (∀ W : World, Calls Tryd.prog 15 #[.string ⟨(ldW x).toArray⟩] W fun e' w' => ∃ v1 v2 er, e' = .returned (.tuple #[v1, v2, .int .i64 ((tlWs (ldTls x)).length : Nat), er]) ∧ OwnTl w' W.heap.size v1 (ldTls x) ∧ OwnNat w' W.heap.size v2 (offs 0 (ldTls x)) ∧ ErrAs w' er 0 (-1) ∧ Below W.heap.size W w') := fun W => tlRead_any ⟨(ldW x).toArray⟩ W (by rw [bysz]; have := ldW_le x hok; omega) (.ok (ldTls x) (offs 0 (ldTls x)) (tlWs (ldTls x)).length) (by unfold ldW; exact rdAll_wrote _ hall)
    have hn := ldTls_le x hok
    have hn3 : 3 ≤ (ldTls x).length := by rw [ldTls_len]; omega
    obtain ⟨L, hL⟩ : ∃ L, L = ldTls x := ⟨_, rfl⟩
    have HSW : Hid (∀ (r : Nat) (h : 3 + r + 1 < L.length), L[3 + r].k ≠ L[3 + r + 1].k → rdLd (tlWrite (swpT L (3 + r))) = .ok x ∧ (∀ t ∈ swpT L (3 + r), okTl t = true)) := by subst hL; exact rd_swp x hok
    rw [← hL] at HTR hn hn3
    have HS := Lib.hid (fun (p : LdA) (W : World) (h1 : LdIn W x q) (h2 : LdIn W x p) => sameLd_any x q p W h1 h2 (okLd_len _ hok))
    clear hr hok hall
    generalize (⟨(ldW x).toArray⟩ : ByteArray) = s at *
    clear hL
    generalize (tlWs L).length = fin at *
    go_enter Tryd.func5, Tryd.ntmps5
    go_upto_region 1 with (refine box_blk 29 (ldC x q) (by rfl) (by rfl) rfl ?_; intro w1 HV1 B1)
    generalize hV : w.heap.size = V at *
    go_wp2_with fail
    refine (told_any _).mono ?_
    rintro e w2 ⟨rfl, k2⟩
    have HV2 := HV1.kept k2
    have B2 := B1.trans (k2.mono (by have := B1.size; omega))
    clear HV1 B1 k2
    go_wp2_with fail
    refine (listed_any _).mono ?_
    rintro e w3 ⟨rfl, k3⟩
    have HV3 := HV2.kept k3
    have B3 := B2.trans (k3.mono (by have := B2.size; omega))
    clear HV2 B2 k3
    go_wp2_with (refine load_blk (k := 0) 29 (ldC x q) (by rfl) rfl rfl HV3 (by kernel_rfl) (by kernel_rfl) rfl ?_)
    refine (HLg.out _).mono ?_
    rintro e w4 ⟨⟨b, rfl⟩, k4⟩
    have HV4 := HV3.kept k4
    have B4 := B3.trans (k4.mono (by have := B3.size; omega))
    clear HV3 B3 k4
    cases b with
    | true =>
      go_wp2
      go_ret
      exact ⟨rfl, by rw [hV]; exact B4⟩
    | false =>
      have I4 := h.below (by rw [hV]; exact B4)
      go_wp2_with (refine load_blk (k := 0) 29 (ldC x q) (by rfl) rfl rfl HV4 (by kernel_rfl) (by kernel_rfl) rfl ?_)
      refine (HW.out _ I4).mono ?_
      rintro e w5 ⟨rfl, k5⟩
      have HV5 := HV4.kept k5
      have B5 := B4.trans (k5.mono (by have := B4.size; omega))
      have hV5 := HV5.lt
      clear HV4 B4 k5 I4
      go_wp2_with fail
      refine (HTR.out _).mono ?_
      rintro e w6 ⟨v1, v2, er, rfl, HO, HN, HE, k6⟩
      have her : er = .nilIface := by
        rcases HE with ⟨h, -⟩ | ⟨h, -⟩
        · exact h
        · exact absurd rfl h
      subst her
      have HV6 := HV5.kept k6
      have B6 := B5.trans (k6.mono (by have := B5.size; omega))
      obtain ⟨g, cap, C, rfl, hg, HC, hC⟩ := HO.row (by intro q; rw [q] at hn3; simp at hn3)
      have hgV : V < g := Nat.lt_of_lt_of_le hV5 hg
      clear HV5 B5 k6 HO HN HE hV5 hg
      by_cases h5 : L.length < 5
      · have q5 : decide ((L.length : Int) < 5) = true := decide_eq_true (by omega)
        have q6 : decide (L.length < 5) = true := decide_eq_true h5
        go_wp2
        go_ret
        exact ⟨rfl, by rw [hV]; exact B6⟩
      · have q5 : decide ((L.length : Int) < 5) = false := decide_eq_false (by omega)
        have q6 : decide (L.length < 5) = false := decide_eq_false h5
        obtain ⟨m, hm⟩ : ∃ m, L.length - 4 = m := ⟨_, rfl⟩
        have hm1 : (L.length : Int) - 4 = (m : Int) := by omega
        have hm2 : 1 ≤ m ∧ m ≤ 43 := by omega
        have HP := Lib.hid (fun W => pick_any z m W hm2.1 (by omega))
        go_wp2_with fail
        refine (HP.out _).mono ?_
        rintro e w7 ⟨r, rfl, hrm, rfl⟩
        have hi : 3 + r + 1 < L.length := by omega
        obtain ⟨i, hi3⟩ : ∃ i, i = 3 + r := ⟨_, rfl⟩
        have hir : (3 : Int) + (r : Int) = (i : Int) := by omega
        obtain ⟨j, hj⟩ : ∃ j, j = i + 1 := ⟨_, rfl⟩
        have hij : (i : Int) + 1 = (j : Int) := by omega
        have hjl : j < L.length := by omega
        have hil : i < L.length := by omega
        have a1 : (i : Int) < (L.length : Int) := by omega
        have wj : IntKind.i64.wrap (j : Int) = (j : Int) := by rw [IntKind.wrap_i64]; omega
        have wi : IntKind.i64.wrap (i : Int) = (i : Int) := by rw [IntKind.wrap_i64]; omega
        have a2 : (j : Int) < (L.length : Int) := by omega
        have a3 : (0 : Int) ≤ (i : Int) := by omega
        have a4 : (0 : Int) ≤ (j : Int) := by omega
        have hSW := HSW.out r hi
        have e1 : swpT L (3 + r) = (L.set i L[j]).set j L[i] := by
          subst hi3 hj
          unfold swpT
          rw [List.getD_eq_getElem?_getD, List.getD_eq_getElem?_getD, List.getElem?_eq_getElem hi, List.getElem?_eq_getElem (by omega)]
          rfl
        have e2 : L[3 + r] = L[i] := by simp only [hi3]
        have e3 : L[3 + r + 1] = L[j] := by simp only [hj, hi3]
        rw [e1, e2, e3] at hSW
        replace hSW := Lib.hid hSW
        have cu := HC.cv (i * 2) (.int .i64 L[i].k) (by have := hC.2 i hil 0 (by decide); rw [Nat.add_zero] at this; exact this)
        have cv := HC.cv (j * 2) (.int .i64 L[j].k) (by have := hC.2 j hjl 0 (by decide); rw [Nat.add_zero] at this; exact this)
        have xu := Lib.hid (hC.at i hil)
        have xv := Lib.hid (hC.at j hjl)
        have hC1 := hC.put i hil L[j]
        have hC2 := hC1.put j (by simpa using hjl) L[i]
        have z1 := Lib.hid (hC.size i hil L[j])
        have z2 := Lib.hid (hC1.size j (by simpa using hjl) L[i])
        have hLl : Hid (((L.set i L[j]).set j L[i]).length = L.length) := by show _ = _; simp
        replace hC2 := Lib.hid hC2
        clear e1 e2 e3 hi3 hi hrm HSW hm hm2 hC hC1 hj
        generalize L[i] = u at *
        generalize L[j] = v at *
        clear hjl hil
        go_upto_region 14 with (fail)
        refine wp_region_noPanic ?_
        refine wp_region_held_drew (S := fun w' => w'.cell? ⟨g, i * 2, none⟩ = some (.int .i64 u.k) ∧ w'.cell? ⟨g, j * 2, none⟩ = some (.int .i64 v.k)) (by kernel_rfl) ?_ (fun hHeld => ?_)
        · exact ⟨cu, cv⟩
        refine wpAnyH_take (i := 0) (v := ?_) rfl (by kernel_rfl) (by kernel_rfl) (by kernel_rfl) (fun _ _ _ h => h) (Or.inl ⟨by rfl, ?_⟩) (by assumption) ?_
        rotate_left
        · (intro w hSw; (try dsimp only at hSw); go_simp; (try with_reducible rfl))
        (try simp only [Act.put, List.getElem_toArray, List.getElem_cons_zero, List.getElem_cons_succ, List.setIfInBounds_toArray, List.set_cons_zero, List.set_cons_succ])
        refine wpAnyH_take (i := 1) (v := ?_) rfl (by kernel_rfl) (by kernel_rfl) (by kernel_rfl) (fun _ _ _ h => h) (Or.inl ⟨by rfl, ?_⟩) (by assumption) ?_
        rotate_left
        · (intro w hSw; (try dsimp only at hSw); go_simp; (try with_reducible rfl))
        (try simp only [Act.put, List.getElem_toArray, List.getElem_cons_zero, List.getElem_cons_succ, List.setIfInBounds_toArray, List.set_cons_zero, List.set_cons_succ])
        refine wpAnyH_take (i := 2) (v := ?_) rfl (by kernel_rfl) (by kernel_rfl) (by kernel_rfl) (fun _ _ _ h => h) (Or.inl ⟨by rfl, ?_⟩) (by assumption) ?_
        rotate_left
        · (intro w hSw; (try dsimp only at hSw); go_simp; (try with_reducible rfl))
        (try simp only [Act.put, List.getElem_toArray, List.getElem_cons_zero, List.getElem_cons_succ, List.setIfInBounds_toArray, List.set_cons_zero, List.set_cons_succ])
        refine wpAnyH_take (i := 3) (v := ?_) rfl (by kernel_rfl) (by kernel_rfl) (by kernel_rfl) (fun _ _ _ h => h) (Or.inl ⟨by rfl, ?_⟩) (by assumption) ?_
        rotate_left
        · (intro w hSw; (try dsimp only at hSw); go_simp; (try with_reducible rfl))
        (try simp only [Act.put, List.getElem_toArray, List.getElem_cons_zero, List.getElem_cons_succ, List.setIfInBounds_toArray, List.set_cons_zero, List.set_cons_succ])
        refine wpAnyH_take (i := 4) (v := .int .i64 u.k) rfl (by kernel_rfl) (by kernel_rfl) (by kernel_rfl) (fun _ _ _ h => h) (Or.inl ⟨by rfl, fun w hSw => by have c := hSw.1; (try dsimp only at c); go_simp⟩) (by assumption) ?_
        (try simp only [Act.put, List.getElem_toArray, List.getElem_cons_zero, List.getElem_cons_succ, List.setIfInBounds_toArray, List.set_cons_zero, List.set_cons_succ])
        refine wpAnyH_take (i := 5) (v := ?_) rfl (by kernel_rfl) (by kernel_rfl) (by kernel_rfl) (fun _ _ _ h => h) (Or.inl ⟨by rfl, ?_⟩) (by assumption) ?_
        rotate_left
        · (intro w hSw; (try dsimp only at hSw); go_simp; (try with_reducible rfl))
        (try simp only [Act.put, List.getElem_toArray, List.getElem_cons_zero, List.getElem_cons_succ, List.setIfInBounds_toArray, List.set_cons_zero, List.set_cons_succ])
        refine wpAnyH_take (i := 6) (v := ?_) rfl (by kernel_rfl) (by kernel_rfl) (by kernel_rfl) (fun _ _ _ h => h) (Or.inl ⟨by rfl, ?_⟩) (by assumption) ?_
        rotate_left
        · (intro w hSw; (try dsimp only at hSw); go_simp; (try with_reducible rfl))
        (try simp only [Act.put, List.getElem_toArray, List.getElem_cons_zero, List.getElem_cons_succ, List.setIfInBounds_toArray, List.set_cons_zero, List.set_cons_succ])
        refine wpAnyH_take (i := 7) (v := ?_) rfl (by kernel_rfl) (by kernel_rfl) (by kernel_rfl) (fun _ _ _ h => h) (Or.inl ⟨by rfl, ?_⟩) (by assumption) ?_
        rotate_left
        · (intro w hSw; (try dsimp only at hSw); go_simp; (try with_reducible rfl))
        (try simp only [Act.put, List.getElem_toArray, List.getElem_cons_zero, List.getElem_cons_succ, List.setIfInBounds_toArray, List.set_cons_zero, List.set_cons_succ])
        refine wpAnyH_take (i := 8) (v := ?_) rfl (by kernel_rfl) (by kernel_rfl) (by kernel_rfl) (fun _ _ _ h => h) (Or.inl ⟨by rfl, ?_⟩) (by assumption) ?_
        rotate_left
        · (intro w hSw; (try dsimp only at hSw); go_simp; (try with_reducible rfl))
        (try simp only [Act.put, List.getElem_toArray, List.getElem_cons_zero, List.getElem_cons_succ, List.setIfInBounds_toArray, List.set_cons_zero, List.set_cons_succ])
        refine wpAnyH_take (i := 9) (v := ?_) rfl (by kernel_rfl) (by kernel_rfl) (by kernel_rfl) (fun _ _ _ h => h) (Or.inl ⟨by rfl, ?_⟩) (by assumption) ?_
        rotate_left
        · (intro w hSw; (try dsimp only at hSw); go_simp; (try with_reducible rfl))
        (try simp only [Act.put, List.getElem_toArray, List.getElem_cons_zero, List.getElem_cons_succ, List.setIfInBounds_toArray, List.set_cons_zero, List.set_cons_succ])
        refine wpAnyH_take (i := 10) (v := .int .i64 v.k) rfl (by kernel_rfl) (by kernel_rfl) (by kernel_rfl) (fun _ _ _ h => h) (Or.inl ⟨by rfl, fun w hSw => by have c := hSw.2; (try dsimp only at c); go_simp⟩) (by assumption) ?_
        (try simp only [Act.put, List.getElem_toArray, List.getElem_cons_zero, List.getElem_cons_succ, List.setIfInBounds_toArray, List.set_cons_zero, List.set_cons_succ])
        refine wpAnyH_take (i := 11) (v := ?_) rfl (by kernel_rfl) (by kernel_rfl) (by kernel_rfl) (fun _ _ _ h => h) (Or.inl ⟨by rfl, ?_⟩) (by assumption) ?_
        rotate_left
        · (intro w hSw; (try dsimp only at hSw); go_simp; (try with_reducible rfl))
        (try simp only [Act.put, List.getElem_toArray, List.getElem_cons_zero, List.getElem_cons_succ, List.setIfInBounds_toArray, List.set_cons_zero, List.set_cons_succ])
        refine wpAnyH_done (by kernel_rfl) ?_ _
        refine NoPanic.normal ?_
        have HVd := HV6.drew
        have Bd := Below.drew B6
        have HCd := HC.drew
        clear HV6 B6 HC cu cv
        generalize w6.drew = w7 at *
        by_cases hk : u.k = v.k
        · have hk1 : (u.k == v.k) = true := by simpa using hk
          go_wp2
          go_ret
          exact ⟨rfl, by rw [hV]; exact Bd⟩
        · have hk1 : (u.k == v.k) = false := by simpa using hk
          obtain ⟨hX, hA⟩ := hSW.out hk
          obtain ⟨LL, hLL⟩ : ∃ LL, LL = (L.set i v).set j u := ⟨_, rfl⟩
          rw [← hLL] at hX hA hLl hC2
          have HR := Lib.hid (fun (W : World) => ldRead_ok ⟨(tlWrite LL).toArray⟩ W (by rw [bysz]; have := tlWs_le LL hA; unfold tlWrite; rw [List.length_append]; have := hLl.out; simp; omega) x (by simpa using hX))
          have HTW := Lib.hid (fun (a : Option Addr) (c : Nat) (W : World) (h : TlIn W a LL) => tlWrite_any a c LL LL.length (Nat.le_refl _) (fun y hy => hA y (List.mem_of_mem_take hy)) (by have := hLl.out; omega) (tlWrite LL) 0 (-1) (Or.inl ⟨rfl, rfl, rfl, rfl⟩) W h)
          rw [hLl.out] at HTW
          clear hLL hX hA hSW hk
          go_upto_region 16 with (fail)
          refine wp_region_noPanic ?_
          refine wp_region_S (fun w' => Blk w' g 51 C) (fun k => k == 15) (by kernel_rfl) (HCd) (fun hHeld => ?_)
          refine wpAnyS_take0 (i := 0) (v := ?_) rfl (by kernel_rfl) (by kernel_rfl) (by kernel_rfl) (by rfl) (fun _ _ _ h => h) (by rfl) ?_ (by assumption) ?_
          rotate_left
          · intro w; go_simp; (try with_reducible rfl)
          (try simp only [Act.put, List.getElem_toArray, List.getElem_cons_zero, List.getElem_cons_succ, List.setIfInBounds_toArray, List.set_cons_zero, List.set_cons_succ])
          refine wpAnyS_take0 (i := 1) (v := ?_) rfl (by kernel_rfl) (by kernel_rfl) (by kernel_rfl) (by rfl) (fun _ _ _ h => h) (by rfl) ?_ (by assumption) ?_
          rotate_left
          · intro w; go_simp; (try with_reducible rfl)
          (try simp only [Act.put, List.getElem_toArray, List.getElem_cons_zero, List.getElem_cons_succ, List.setIfInBounds_toArray, List.set_cons_zero, List.set_cons_succ])
          refine wpAnyS_take0 (i := 2) (v := ?_) rfl (by kernel_rfl) (by kernel_rfl) (by kernel_rfl) (by rfl) (fun _ _ _ h => h) (by rfl) ?_ (by assumption) ?_
          rotate_left
          · intro w; go_simp; (try with_reducible rfl)
          (try simp only [Act.put, List.getElem_toArray, List.getElem_cons_zero, List.getElem_cons_succ, List.setIfInBounds_toArray, List.set_cons_zero, List.set_cons_succ])
          refine wpAnyS_take0 (i := 3) (v := ?_) rfl (by kernel_rfl) (by kernel_rfl) (by kernel_rfl) (by rfl) (fun _ _ _ h => h) (by rfl) ?_ (by assumption) ?_
          rotate_left
          · intro w; go_simp; (try with_reducible rfl)
          (try simp only [Act.put, List.getElem_toArray, List.getElem_cons_zero, List.getElem_cons_succ, List.setIfInBounds_toArray, List.set_cons_zero, List.set_cons_succ])
          refine wpAnyS_take0 (i := 4) (v := ?_) rfl (by kernel_rfl) (by kernel_rfl) (by kernel_rfl) (by rfl) (fun _ _ _ h => h) (by rfl) ?_ (by assumption) ?_
          rotate_left
          · intro w; go_simp; (try with_reducible rfl)
          (try simp only [Act.put, List.getElem_toArray, List.getElem_cons_zero, List.getElem_cons_succ, List.setIfInBounds_toArray, List.set_cons_zero, List.set_cons_succ])
          refine wpAnyS_take0 (i := 5) (v := ?_) rfl (by kernel_rfl) (by kernel_rfl) (by kernel_rfl) (by rfl) (fun _ _ _ h => h) (by rfl) ?_ (by assumption) ?_
          rotate_left
          · intro w; go_simp; (try with_reducible rfl)
          (try simp only [Act.put, List.getElem_toArray, List.getElem_cons_zero, List.getElem_cons_succ, List.setIfInBounds_toArray, List.set_cons_zero, List.set_cons_succ])
          refine wpAnyS_take0 (i := 6) (v := ?_) rfl (by kernel_rfl) (by kernel_rfl) (by kernel_rfl) (by rfl) (fun _ _ _ h => h) (by rfl) ?_ (by assumption) ?_
          rotate_left
          · intro w; go_simp; (try with_reducible rfl)
          (try simp only [Act.put, List.getElem_toArray, List.getElem_cons_zero, List.getElem_cons_succ, List.setIfInBounds_toArray, List.set_cons_zero, List.set_cons_succ])
          refine wpAnyS_take0 (i := 7) (v := ?_) rfl (by kernel_rfl) (by kernel_rfl) (by kernel_rfl) (by rfl) (fun _ _ _ h => h) (by rfl) ?_ (by assumption) ?_
          rotate_left
          · intro w; go_simp; (try with_reducible rfl)
          (try simp only [Act.put, List.getElem_toArray, List.getElem_cons_zero, List.getElem_cons_succ, List.setIfInBounds_toArray, List.set_cons_zero, List.set_cons_succ])
          refine wpAnyS_take0 (i := 8) (v := ?_) rfl (by kernel_rfl) (by kernel_rfl) (by kernel_rfl) (by rfl) (fun _ _ _ h => h) (by rfl) ?_ (by assumption) ?_
          rotate_left
          · intro w; go_simp; (try with_reducible rfl)
          (try simp only [Act.put, List.getElem_toArray, List.getElem_cons_zero, List.getElem_cons_succ, List.setIfInBounds_toArray, List.set_cons_zero, List.set_cons_succ])
          refine wpAnyS_take (i := 9) (v := .agg (tlC v)) rfl (by kernel_rfl) (by kernel_rfl) (by kernel_rfl) (by rfl) (by kernel_rfl) (fun _ _ _ h => h) (Or.inl ⟨by rfl, fun w hSw => exec_load_blk (k := j * 2) 51 (tlC v) rfl rfl hSw (by kernel_rfl) (by kernel_rfl) xv.out⟩) (by assumption) ?_
          (try simp only [Act.put, List.getElem_toArray, List.getElem_cons_zero, List.getElem_cons_succ, List.setIfInBounds_toArray, List.set_cons_zero, List.set_cons_succ])
          refine wpAnyS_take0 (i := 10) (v := ?_) rfl (by kernel_rfl) (by kernel_rfl) (by kernel_rfl) (by rfl) (fun _ _ _ h => h) (by rfl) ?_ (by assumption) ?_
          rotate_left
          · intro w; go_simp; (try with_reducible rfl)
          (try simp only [Act.put, List.getElem_toArray, List.getElem_cons_zero, List.getElem_cons_succ, List.setIfInBounds_toArray, List.set_cons_zero, List.set_cons_succ])
          refine wpAnyS_take0 (i := 11) (v := ?_) rfl (by kernel_rfl) (by kernel_rfl) (by kernel_rfl) (by rfl) (fun _ _ _ h => h) (by rfl) ?_ (by assumption) ?_
          rotate_left
          · intro w; go_simp; (try with_reducible rfl)
          (try simp only [Act.put, List.getElem_toArray, List.getElem_cons_zero, List.getElem_cons_succ, List.setIfInBounds_toArray, List.set_cons_zero, List.set_cons_succ])
          refine wpAnyS_take0 (i := 12) (v := ?_) rfl (by kernel_rfl) (by kernel_rfl) (by kernel_rfl) (by rfl) (fun _ _ _ h => h) (by rfl) ?_ (by assumption) ?_
          rotate_left
          · intro w; go_simp; (try with_reducible rfl)
          (try simp only [Act.put, List.getElem_toArray, List.getElem_cons_zero, List.getElem_cons_succ, List.setIfInBounds_toArray, List.set_cons_zero, List.set_cons_succ])
          refine wpAnyS_take (i := 13) (v := .agg (tlC u)) rfl (by kernel_rfl) (by kernel_rfl) (by kernel_rfl) (by rfl) (by kernel_rfl) (fun _ _ _ h => h) (Or.inl ⟨by rfl, fun w hSw => exec_load_blk (k := i * 2) 51 (tlC u) rfl rfl hSw (by kernel_rfl) (by kernel_rfl) xu.out⟩) (by assumption) ?_
          (try simp only [Act.put, List.getElem_toArray, List.getElem_cons_zero, List.getElem_cons_succ, List.setIfInBounds_toArray, List.set_cons_zero, List.set_cons_succ])
          refine wpAnyS_take0 (i := 14) (v := ?_) rfl (by kernel_rfl) (by kernel_rfl) (by kernel_rfl) (by rfl) (fun _ _ _ h => h) (by rfl) ?_ (by assumption) ?_
          rotate_left
          · intro w; go_simp; (try with_reducible rfl)
          (try simp only [Act.put, List.getElem_toArray, List.getElem_cons_zero, List.getElem_cons_succ, List.setIfInBounds_toArray, List.set_cons_zero, List.set_cons_succ])
          refine wpAnyS_last (r := 15) (by kernel_rfl) rfl (by rfl) (by rfl) (fun K hK => ?_)
          (try simp only [List.getElem_toArray, List.getElem_cons_zero, List.getElem_cons_succ])
          refine wp_store_op (k := i * 2) 51 (.agg (tlC v)) (putTl C i v) (by rfl) rfl rfl (show Blk w7.drew g 51 C from HCd) (by kernel_rfl) z1.out (by rfl) rfl (fun w8 HC8 b8 g8 => ?_)
          have HV8 := Blk.grown (w := w7.drew) HVd g8 (by simp; omega)
          have B8 : Below V w w8 := (Below.drew Bd).trans (b8.mono (Nat.le_of_lt hgV))
          refine hK _ _ ?_
          clear hK K
          (try simp only [Act.put, List.getElem_toArray, List.getElem_cons_zero, List.getElem_cons_succ, List.setIfInBounds_toArray, List.set_cons_zero, List.set_cons_succ])
          refine wpAny_take (i := 16) (v := ?_) rfl (by kernel_rfl) (by kernel_rfl) (by kernel_rfl) (fun _ _ _ h => h) (Or.inl ⟨by rfl, ?_⟩) ?_
          rotate_left
          · intro w; go_simp; (try with_reducible rfl)
          (try simp only [Act.put, List.getElem_toArray, List.getElem_cons_zero, List.getElem_cons_succ, List.setIfInBounds_toArray, List.set_cons_zero, List.set_cons_succ])
          refine wpAny_one (r := 17) (by kernel_rfl) rfl (by rfl) (fun K hK => ?_)
          (try simp only [List.getElem_toArray, List.getElem_cons_zero, List.getElem_cons_succ])
          refine wp_store_op (k := j * 2) 51 (.agg (tlC u)) (putTl (putTl C i v) j u) (by rfl) rfl rfl HC8 (by kernel_rfl) z2.out (by rfl) rfl (fun w9 HC9 b9 g9 => ?_)
          have HV9 := HV8.grown g9 (by simp; omega)
          have B9 : Below V w w9 := B8.trans (b9.mono (Nat.le_of_lt hgV))
          refine hK _ _ ?_
          clear hK K
          (try simp only [Act.put, List.getElem_toArray, List.getElem_cons_zero, List.getElem_cons_succ, List.setIfInBounds_toArray, List.set_cons_zero, List.set_cons_succ])
          refine wpAny_done (by kernel_rfl) ?_ _
          refine NoPanic.normal ?_
          have HT9 := RowIs.inL HC9 hC2.out
          clear HC8 HV8 B8 HC9 b8 b9 g8 g9 HVd Bd HCd
          go_wp2_with fail
          refine (HTW.out _ _ _ HT9).mono ?_
          rintro e w10 ⟨er, rfl, HE, k10⟩
          have her : er = .nilIface := by
            rcases HE with ⟨h, -⟩ | ⟨h, -⟩
            · exact h
            · exact absurd rfl h
          subst her
          have HV10 := HV9.kept k10
          have B10 := B9.trans (k10.mono (by have := B9.size; omega))
          clear HV9 B9 k10 HE HT9
          go_wp2_with fail
          refine (HR.out _).mono ?_
          rintro e w11 ⟨p, rfl, J11, k11⟩
          have HV11 := HV10.kept k11
          have B11 := B10.trans (k11.mono (by have := B10.size; omega))
          clear HV10 B10 k11
          go_upto_region 19 with (first
            | (refine alloc_blk 29 (ldC zLd zLdA) (by rfl) rfl Tryd.ldZero ?_)
            | (refine store_blk (k := 0) 29 (.agg (ldC x p)) (ldC x p) (by rfl) rfl rfl rfl (Blk.new w11 _ _) (by kernel_rfl) (Nat.le_of_eq rfl) (by rfl) (st_whole _ _ rfl) ?_; intro w12 HN12 b12 g12))
          (try simp only [Act.put, List.setIfInBounds_toArray, List.set_cons_zero, List.set_cons_succ])
          have k12 : Below w11.heap.size w11 w12 := ((Below.refl _ _).alloc (Nat.le_refl _) _).trans b12
          have HV12 := HV11.kept k12
          have J12 := J11.below k12
          have B12 := B11.trans (k12.mono (by have := B11.size; omega))
          have I12 := h.below (by rw [hV]; exact B12)
          clear HV11 J11 B11 b12 g12 k12
          generalize w11.heap.size = U at *
          go_wp2_with (first
            | (refine load_blk (k := 0) 29 (ldC x q) (by rfl) rfl rfl HV12 (by kernel_rfl) (by kernel_rfl) rfl ?_)
            | (refine load_blk (k := 0) 29 (ldC x p) (by rfl) rfl rfl HN12 (by kernel_rfl) (by kernel_rfl) rfl ?_))
          refine (HS.out _ _ I12 J12).mono ?_
          rintro e w13 ⟨rfl, k13⟩
          go_wp2
          go_ret
          exact ⟨rfl, by rw [hV]; exact B12.trans (k13.mono (by have := B12.size; omega))⟩

end Go.Proofs.YtcijhmbimbejfaaDoor.lldpOrder

namespace Go.Proofs.YtcijhmbimbejfaaDoor
open Go.RowKit Go.WideShapes Go.ChangeShapes

/-- The specification is met: one result, which reads as told; the arguments and the named variables read as they did; old memory is as it was. -/
theorem met_below {P : Program} {H : Type} {enc : TypeId × Value → H} {f : Func} {s : ChangeSpec} {apart fresh handsOn again : Bool} {W W' : World} {args : Array Value} {v : Value} {ds gs : List (DataW H)} {places : List MemPlace}
    (whole : DataW.Whole enc P f.params.toList s.vars apart W args.toList ds gs places)
    (results : ∀ (b : Nat) (sp : Nat → Bool) (hd : Bool), DataW.TrodAll enc P W' b sp hd f.resultTypes.toList (v.resultList f.resultTypes.size) (s.fn H (ds ++ gs)).results [])
    (arguments : ∀ sp : Nat → Bool, (∀ p ∈ places, sp p.block = true) → DataW.TrodAll enc P W' 0 sp true f.params.toList args.toList (s.fn H (ds ++ gs)).args places)
    (variables : ∀ sp : Nat → Bool, DataW.TrodVars enc P W' sp s.vars (s.fn H (ds ++ gs)).vars [])
    (below : Below W.heap.size W W')
    (formed : ∀ (j : Nat) (t : TypeId) (r : Value), f.resultTypes[j]? = some t → (v.resultList f.resultTypes.size)[j]? = some r → Value.okWide P W' .any 0 t r) :
    s.post enc P f apart fresh handsOn again W args v W' := by
  have old : ∀ p ∈ places, p.block < W.heap.size := fun p hp => whole.lt p hp
  have oldB : ∀ p ∈ places, (fun b => decide (b < W.heap.size)) p.block = true := fun p hp => decide_eq_true (old p hp)
  obtain ⟨_, _, _, _, _, unfrozen, once⟩ := id whole
  refine ⟨ds, gs, places, [], places, [], whole, results _ _ _, arguments _ oldB, variables _, below.frame _, fun _ => ⟨formed, _, _, ([] ++ places) ++ [], ⟨[] ++ places, [], trodAll_append (arguments _ fun _ _ => rfl) (results _ _ _), variables _, rfl, fun b off hp => ?_, fun ha => by simpa using once ha⟩, fun p hp _ => by simpa using hp⟩⟩
  have hin : MemPlace.cell b off ∈ places := by simpa using hp
  exact (below.frozen (p := ⟨b, off, none⟩) (old _ hin)).trans (unfrozen b off hin)

end Go.Proofs.YtcijhmbimbejfaaDoor

namespace Go.Proofs.YtcijhmbimbejfaaDoor
open Go.ChangeShapes Go.WideShapes Go.ChangeAt Go.RowKit

theorem own : ownKnob Tryd.prog.godebug = none := by kernel_rfl

/-- The cells that a flat datum of integers lays. -/
def cellsOfDatum : DataW Unit → Array Value
  | .agg l => (l.map fun d => match d with | .lit (.int k n) => Value.int k n | _ => .int .u8 0).toArray
  | _ => #[]

/-- The door's own heap, and Go's own table beside it. -/
noncomputable def laidWorld (os : Os) : World :=
  let w0 := World.doorLaid Tryd.prog 400 os
  { w0 with heap := w0.heap.modify 0 fun | .cells _ t fr => .cells (cellsOfDatum Go.Pinned.utf8First) t fr | o => o }

end Go.Proofs.YtcijhmbimbejfaaDoor

namespace Go.Proofs.YtcijhmbimbejfaaDoor
open Go.ChangeShapes Go.WideShapes Go.ChangeAt Go.RowKit Go.Deep Go.Joins
set_option linter.unusedVariables false

theorem listW2 {α : Type} (l : List α) (h : l.length = 2) : ∃ c0 c1, l = [c0, c1] := by
  match l, h with
  | [c0, c1], _ => exact ⟨c0, c1, rfl⟩
theorem listW3 {α : Type} (l : List α) (h : l.length = 3) : ∃ c0 c1 c2, l = [c0, c1, c2] := by
  match l, h with
  | [c0, c1, c2], _ => exact ⟨c0, c1, c2, rfl⟩
theorem listW4 {α : Type} (l : List α) (h : l.length = 4) : ∃ c0 c1 c2 c3, l = [c0, c1, c2, c3] := by
  match l, h with
  | [c0, c1, c2, c3], _ => exact ⟨c0, c1, c2, c3, rfl⟩
theorem listW5 {α : Type} (l : List α) (h : l.length = 5) : ∃ c0 c1 c2 c3 c4, l = [c0, c1, c2, c3, c4] := by
  match l, h with
  | [c0, c1, c2, c3, c4], _ => exact ⟨c0, c1, c2, c3, c4, rfl⟩
theorem listW9 {α : Type} (l : List α) (h : l.length = 9) : ∃ c0 c1 c2 c3 c4 c5 c6 c7 c8, l = [c0, c1, c2, c3, c4, c5, c6, c7, c8] := by
  match l, h with
  | [c0, c1, c2, c3, c4, c5, c6, c7, c8], _ => exact ⟨c0, c1, c2, c3, c4, c5, c6, c7, c8, rfl⟩
theorem listW11 {α : Type} (l : List α) (h : l.length = 11) : ∃ c0 c1 c2 c3 c4 c5 c6 c7 c8 c9 c10, l = [c0, c1, c2, c3, c4, c5, c6, c7, c8, c9, c10] := by
  match l, h with
  | [c0, c1, c2, c3, c4, c5, c6, c7, c8, c9, c10], _ => exact ⟨c0, c1, c2, c3, c4, c5, c6, c7, c8, c9, c10, rfl⟩
set_option maxRecDepth 100000 in
theorem nm_trod {H : Type} {enc : TypeId × Value → H} {W : World} {base fuel : Nat} {sp : Nat → Bool} {held : Bool} {c0 c1 : Value} {y : DataW H × List MemPlace}
    (h : DataW.trod enc Tryd.prog W base sp held fuel 23 [c0, c1] = some y) : ∃ x : Nm, rgNm x ∧ [c0, c1] = (nmC x).toList := by
  have _h2 : Tryd.prog.cellsOf 3 = 1 := by kernel_rfl
  have _h3 : Tryd.prog.cellsOf 9 = 1 := by kernel_rfl
  obtain ⟨xs, n, _, hx, _, hlen, hg⟩ := DataW.trod_struct Tryd.underlying23 h
  obtain ⟨y0, y1, rfl⟩ := listW2 xs hlen
  have g0 := hg 0 _ rfl
  have g1 := hg 1 _ rfl
  obtain ⟨x0, e0, _, wf0⟩ := DataW.trod_int Tryd.underlying3 g0
  obtain rfl : c0 = .int .i64 x0 := (List.cons.inj (show [c0] = [.int .i64 x0] from e0)).1
  obtain ⟨x1, e1, q1, sb1⟩ := DataW.trod_string Tryd.underlying9 g1
  obtain rfl : c1 = .string x1 := (List.cons.inj (show [c1] = [.string x1] from e1)).1
  exact ⟨⟨x0, x1⟩, ⟨bounds_i64 wf0, sb1⟩, rfl⟩

set_option maxRecDepth 100000 in
theorem cp_trod {H : Type} {enc : TypeId × Value → H} {W : World} {base fuel : Nat} {sp : Nat → Bool} {held : Bool} {c0 c1 : Value} {y : DataW H × List MemPlace}
    (h : DataW.trod enc Tryd.prog W base sp held fuel 65 [c0, c1] = some y) : ∃ x : Cp, rgCp x ∧ [c0, c1] = (cpC x).toList := by
  have _h2 : Tryd.prog.cellsOf 3 = 1 := by kernel_rfl
  have _h3 : Tryd.prog.cellsOf 9 = 1 := by kernel_rfl
  obtain ⟨xs, n, _, hx, _, hlen, hg⟩ := DataW.trod_struct Tryd.underlying65 h
  obtain ⟨y0, y1, rfl⟩ := listW2 xs hlen
  have g0 := hg 0 _ rfl
  have g1 := hg 1 _ rfl
  obtain ⟨x0, e0, _, wf0⟩ := DataW.trod_int Tryd.underlying3 g0
  obtain rfl : c0 = .int .i64 x0 := (List.cons.inj (show [c0] = [.int .i64 x0] from e0)).1
  obtain ⟨x1, e1, _, wf1⟩ := DataW.trod_int Tryd.underlying3 g1
  obtain rfl : c1 = .int .i64 x1 := (List.cons.inj (show [c1] = [.int .i64 x1] from e1)).1
  exact ⟨⟨x0, x1⟩, ⟨bounds_i64 wf0, bounds_i64 wf1⟩, rfl⟩

/- A cell that reads as a list of capabilities. -/
set_option maxRecDepth 100000 in
theorem cps_cell {H : Type} {enc : TypeId × Value → H} {W : World} {fuel : Nat} {z0 : Value} {y : DataW H × List MemPlace}
    (hf : DataW.trod enc Tryd.prog W 0 (fun _ => true) true fuel 25 [z0] = some y) : ∃ (a : Option Addr) (c : Nat) (l : List Cp), z0 = .slice a l.length c ∧ l.length ≤ c ∧ c ≤ maxLen ∧ CpIn W a l ∧ (∀ x ∈ l, rgCp x) ∧ (l = [] ∨ ∃ es sp, y.1 = .slice es sp ∧ l.length ≤ es.length + sp.length) := by
  have hs : Tryd.prog.underlying 25 = some (.slice 65) := by kernel_rfl
  have hc3 : Tryd.prog.cellsOf 65 = 2 := by kernel_rfl
  rcases open_slice hs hf with ⟨hc, hx⟩ | ⟨b, n, c, m, k, D, Pl, hc, hb, hl, hm, hmm, hx, hall⟩
  · simp at hc
    subst hc
    exact ⟨none, 0, [], rfl, Nat.le_refl _, by decide, Or.inl rfl, by simp, Or.inl rfl⟩
  · simp at hc
    subst hc
    have hlm : n ≤ m := by rw [hmm]; split <;> omega
    have hw : ∃ es sp, y.1 = .slice es sp ∧ es.length + sp.length = m := by
      rw [hx]
      refine ⟨_, _, rfl, ?_⟩
      simp
      omega
    have each : ∀ i, i < n → ∃ t : Cp, rgCp t ∧ ∀ (j : Nat) (x : Value), (cpC t)[j]? = some x → W.cell? (b.add (i * 2 + j)) = some x := by
      intro i hi
      obtain ⟨cs', h1, h2⟩ := hall i (by omega)
      rw [hc3] at h1
      obtain ⟨_, hlen, hcell⟩ := World.cells?_some h1
      obtain ⟨c0, c1, rfl⟩ := listW2 cs' hlen
      obtain ⟨t, ht, he⟩ := cp_trod h2
      refine ⟨t, ht, fun j x hj => ?_⟩
      have hj2 : j < 2 := (Array.getElem?_eq_some_iff.1 hj).1
      have g := hcell j (by omega)
      rw [add_add] at g
      rw [g]
      have e2 : ([c0, c1] : List Value)[j]? = some x := by rw [he]; simpa using hj
      exact e2
    obtain ⟨z, hz⟩ := choose_lt each
    obtain ⟨bb, bo, bs⟩ := b
    rcases Nat.eq_zero_or_pos n with rfl | q0
    · exact ⟨some ⟨bb, bo, bs⟩, c, [], rfl, hl, hm, Or.inl rfl, by simp, Or.inl rfl⟩
    have h0 := (hz 0 q0).2 0 _ rfl
    have hspot : bs = none := by simpa [Addr.add] using World.cell?_spot h0
    subst hspot
    refine ⟨some ⟨bb, bo, none⟩, c, (List.range n).map z, by simp, by simpa using hl, hm, Or.inr ⟨bb, bo, rfl, ?_, fun j hj k x hx => ?_⟩, ?_, Or.inr (by obtain ⟨es, sp, h1, h2⟩ := hw; exact ⟨es, sp, h1, by simp; omega⟩)⟩
    · have := World.block_lt_of_cell? W _ h0
      simpa [Addr.add] using this
    · have hj' : j < n := by simpa using hj
      simp only [List.getElem_map, List.getElem_range] at hx
      have e0 := (hz j hj').2 k x hx
      rw [add_plain] at e0
      rw [Nat.add_assoc]
      exact e0
    · intro v hv
      obtain ⟨j, hj, rfl⟩ := List.mem_map.1 hv
      exact (hz j (List.mem_range.1 hj)).1


set_option maxRecDepth 100000 in
theorem mg_trod {H : Type} {enc : TypeId × Value → H} {W : World} {base fuel : Nat} {sp : Nat → Bool} {held : Bool} {c0 c1 c2 c3 c4 : Value} {y : DataW H × List MemPlace}
    (h : DataW.trod enc Tryd.prog W base sp held fuel 68 [c0, c1, c2, c3, c4] = some y) : ∃ x : Mg, rgMg x ∧ [c0, c1, c2, c3, c4] = (mgC x).toList := by
  have _h2 : Tryd.prog.cellsOf 3 = 1 := by kernel_rfl
  have _h3 : Tryd.prog.cellsOf 9 = 1 := by kernel_rfl
  have _h4 : Tryd.prog.cellsOf 23 = 2 := by kernel_rfl
  obtain ⟨xs, n, _, hx, _, hlen, hg⟩ := DataW.trod_struct Tryd.underlying68 h
  obtain ⟨y0, y1, y2, y3, rfl⟩ := listW4 xs hlen
  have g0 := hg 0 _ rfl
  have g1 := hg 1 _ rfl
  have g2 := hg 2 _ rfl
  have g3 := hg 3 _ rfl
  obtain ⟨z0, rz0, ez0⟩ := nm_trod g0
  simp only [nmC, List.cons.injEq, and_true] at ez0
  obtain ⟨rfl, rfl⟩ := ez0
  obtain ⟨x1, e1, _, wf1⟩ := DataW.trod_int Tryd.underlying3 g1
  obtain rfl : c2 = .int .i64 x1 := (List.cons.inj (show [c2] = [.int .i64 x1] from e1)).1
  obtain ⟨x2, e2, _, wf2⟩ := DataW.trod_int Tryd.underlying3 g2
  obtain rfl : c3 = .int .i64 x2 := (List.cons.inj (show [c3] = [.int .i64 x2] from e2)).1
  obtain ⟨x3, e3, q3, sb3⟩ := DataW.trod_string Tryd.underlying9 g3
  obtain rfl : c4 = .string x3 := (List.cons.inj (show [c4] = [.string x3] from e3)).1
  exact ⟨⟨z0.su, z0.id, x1, x2, x3⟩, ⟨rz0.1, bounds_i64 wf1, bounds_i64 wf2, rz0.2, sb3⟩, rfl⟩

/- A cell that reads as a list of ways to manage. -/
set_option maxRecDepth 100000 in
theorem mgs_cell {H : Type} {enc : TypeId × Value → H} {W : World} {fuel : Nat} {z0 : Value} {y : DataW H × List MemPlace}
    (hf : DataW.trod enc Tryd.prog W 0 (fun _ => true) true fuel 26 [z0] = some y) : ∃ (a : Option Addr) (c : Nat) (l : List Mg), z0 = .slice a l.length c ∧ l.length ≤ c ∧ c ≤ maxLen ∧ MgIn W a l ∧ (∀ x ∈ l, rgMg x) ∧ (l = [] ∨ ∃ es sp, y.1 = .slice es sp ∧ l.length ≤ es.length + sp.length) := by
  have hs : Tryd.prog.underlying 26 = some (.slice 68) := by kernel_rfl
  have hc3 : Tryd.prog.cellsOf 68 = 5 := by kernel_rfl
  rcases open_slice hs hf with ⟨hc, hx⟩ | ⟨b, n, c, m, k, D, Pl, hc, hb, hl, hm, hmm, hx, hall⟩
  · simp at hc
    subst hc
    exact ⟨none, 0, [], rfl, Nat.le_refl _, by decide, Or.inl rfl, by simp, Or.inl rfl⟩
  · simp at hc
    subst hc
    have hlm : n ≤ m := by rw [hmm]; split <;> omega
    have hw : ∃ es sp, y.1 = .slice es sp ∧ es.length + sp.length = m := by
      rw [hx]
      refine ⟨_, _, rfl, ?_⟩
      simp
      omega
    have each : ∀ i, i < n → ∃ t : Mg, rgMg t ∧ ∀ (j : Nat) (x : Value), (mgC t)[j]? = some x → W.cell? (b.add (i * 5 + j)) = some x := by
      intro i hi
      obtain ⟨cs', h1, h2⟩ := hall i (by omega)
      rw [hc3] at h1
      obtain ⟨_, hlen, hcell⟩ := World.cells?_some h1
      obtain ⟨c0, c1, c2, c3, c4, rfl⟩ := listW5 cs' hlen
      obtain ⟨t, ht, he⟩ := mg_trod h2
      refine ⟨t, ht, fun j x hj => ?_⟩
      have hj2 : j < 5 := (Array.getElem?_eq_some_iff.1 hj).1
      have g := hcell j (by omega)
      rw [add_add] at g
      rw [g]
      have e2 : ([c0, c1, c2, c3, c4] : List Value)[j]? = some x := by rw [he]; simpa using hj
      exact e2
    obtain ⟨z, hz⟩ := choose_lt each
    obtain ⟨bb, bo, bs⟩ := b
    rcases Nat.eq_zero_or_pos n with rfl | q0
    · exact ⟨some ⟨bb, bo, bs⟩, c, [], rfl, hl, hm, Or.inl rfl, by simp, Or.inl rfl⟩
    have h0 := (hz 0 q0).2 0 _ rfl
    have hspot : bs = none := by simpa [Addr.add] using World.cell?_spot h0
    subst hspot
    refine ⟨some ⟨bb, bo, none⟩, c, (List.range n).map z, by simp, by simpa using hl, hm, Or.inr ⟨bb, bo, rfl, ?_, fun j hj k x hx => ?_⟩, ?_, Or.inr (by obtain ⟨es, sp, h1, h2⟩ := hw; exact ⟨es, sp, h1, by simp; omega⟩)⟩
    · have := World.block_lt_of_cell? W _ h0
      simpa [Addr.add] using this
    · have hj' : j < n := by simpa using hj
      simp only [List.getElem_map, List.getElem_range] at hx
      have e0 := (hz j hj').2 k x hx
      rw [add_plain] at e0
      rw [Nat.add_assoc]
      exact e0
    · intro v hv
      obtain ⟨j, hj, rfl⟩ := List.mem_map.1 hv
      exact (hz j (List.mem_range.1 hj)).1


set_option maxRecDepth 100000 in
theorem og_trod {H : Type} {enc : TypeId × Value → H} {W : World} {base fuel : Nat} {sp : Nat → Bool} {held : Bool} {c0 c1 c2 : Value} {y : DataW H × List MemPlace}
    (h : DataW.trod enc Tryd.prog W base sp held fuel 31 [c0, c1, c2] = some y) : ∃ x : Og, rgOg x ∧ [c0, c1, c2] = (ogC x).toList := by
  have _h2 : Tryd.prog.cellsOf 3 = 1 := by kernel_rfl
  have _h3 : Tryd.prog.cellsOf 9 = 1 := by kernel_rfl
  obtain ⟨xs, n, _, hx, _, hlen, hg⟩ := DataW.trod_struct Tryd.underlying31 h
  obtain ⟨y0, y1, y2, rfl⟩ := listW3 xs hlen
  have g0 := hg 0 _ rfl
  have g1 := hg 1 _ rfl
  have g2 := hg 2 _ rfl
  obtain ⟨x0, e0, _, wf0⟩ := DataW.trod_int Tryd.underlying3 g0
  obtain rfl : c0 = .int .i64 x0 := (List.cons.inj (show [c0] = [.int .i64 x0] from e0)).1
  obtain ⟨x1, e1, _, wf1⟩ := DataW.trod_int Tryd.underlying3 g1
  obtain rfl : c1 = .int .i64 x1 := (List.cons.inj (show [c1] = [.int .i64 x1] from e1)).1
  obtain ⟨x2, e2, q2, sb2⟩ := DataW.trod_string Tryd.underlying9 g2
  obtain rfl : c2 = .string x2 := (List.cons.inj (show [c2] = [.string x2] from e2)).1
  exact ⟨⟨x0, x1, x2⟩, ⟨bounds_i64 wf0, bounds_i64 wf1, sb2⟩, rfl⟩

/- A cell that reads as a list of what organisations tell. -/
set_option maxRecDepth 100000 in
theorem ogs_cell {H : Type} {enc : TypeId × Value → H} {W : World} {fuel : Nat} {z0 : Value} {y : DataW H × List MemPlace}
    (hf : DataW.trod enc Tryd.prog W 0 (fun _ => true) true fuel 27 [z0] = some y) : ∃ (a : Option Addr) (c : Nat) (l : List Og), z0 = .slice a l.length c ∧ l.length ≤ c ∧ c ≤ maxLen ∧ OgIn W a l ∧ (∀ x ∈ l, rgOg x) ∧ (l = [] ∨ ∃ es sp, y.1 = .slice es sp ∧ l.length ≤ es.length + sp.length) := by
  have hs : Tryd.prog.underlying 27 = some (.slice 31) := by kernel_rfl
  have hc3 : Tryd.prog.cellsOf 31 = 3 := by kernel_rfl
  rcases open_slice hs hf with ⟨hc, hx⟩ | ⟨b, n, c, m, k, D, Pl, hc, hb, hl, hm, hmm, hx, hall⟩
  · simp at hc
    subst hc
    exact ⟨none, 0, [], rfl, Nat.le_refl _, by decide, Or.inl rfl, by simp, Or.inl rfl⟩
  · simp at hc
    subst hc
    have hlm : n ≤ m := by rw [hmm]; split <;> omega
    have hw : ∃ es sp, y.1 = .slice es sp ∧ es.length + sp.length = m := by
      rw [hx]
      refine ⟨_, _, rfl, ?_⟩
      simp
      omega
    have each : ∀ i, i < n → ∃ t : Og, rgOg t ∧ ∀ (j : Nat) (x : Value), (ogC t)[j]? = some x → W.cell? (b.add (i * 3 + j)) = some x := by
      intro i hi
      obtain ⟨cs', h1, h2⟩ := hall i (by omega)
      rw [hc3] at h1
      obtain ⟨_, hlen, hcell⟩ := World.cells?_some h1
      obtain ⟨c0, c1, c2, rfl⟩ := listW3 cs' hlen
      obtain ⟨t, ht, he⟩ := og_trod h2
      refine ⟨t, ht, fun j x hj => ?_⟩
      have hj2 : j < 3 := (Array.getElem?_eq_some_iff.1 hj).1
      have g := hcell j (by omega)
      rw [add_add] at g
      rw [g]
      have e2 : ([c0, c1, c2] : List Value)[j]? = some x := by rw [he]; simpa using hj
      exact e2
    obtain ⟨z, hz⟩ := choose_lt each
    obtain ⟨bb, bo, bs⟩ := b
    rcases Nat.eq_zero_or_pos n with rfl | q0
    · exact ⟨some ⟨bb, bo, bs⟩, c, [], rfl, hl, hm, Or.inl rfl, by simp, Or.inl rfl⟩
    have h0 := (hz 0 q0).2 0 _ rfl
    have hspot : bs = none := by simpa [Addr.add] using World.cell?_spot h0
    subst hspot
    refine ⟨some ⟨bb, bo, none⟩, c, (List.range n).map z, by simp, by simpa using hl, hm, Or.inr ⟨bb, bo, rfl, ?_, fun j hj k x hx => ?_⟩, ?_, Or.inr (by obtain ⟨es, sp, h1, h2⟩ := hw; exact ⟨es, sp, h1, by simp; omega⟩)⟩
    · have := World.block_lt_of_cell? W _ h0
      simpa [Addr.add] using this
    · have hj' : j < n := by simpa using hj
      simp only [List.getElem_map, List.getElem_range] at hx
      have e0 := (hz j hj').2 k x hx
      rw [add_plain] at e0
      rw [Nat.add_assoc]
      exact e0
    · intro v hv
      obtain ⟨j, hj, rfl⟩ := List.mem_map.1 hv
      exact (hz j (List.mem_range.1 hj)).1


theorem listW1 {α : Type} (l : List α) (h : l.length = 1) : ∃ c0, l = [c0] := by
  match l, h with
  | [c0], _ => exact ⟨c0, rfl⟩
theorem st_trod {H : Type} {enc : TypeId × Value → H} {W : World} {base fuel : Nat} {sp : Nat → Bool} {held : Bool} {c0 : Value} {y : DataW H × List MemPlace}
    (h : DataW.trod enc Tryd.prog W base sp held fuel 9 [c0] = some y) : ∃ x : ByteArray, x.size ≤ maxLen ∧ [c0] = (stC x).toList := by
  obtain ⟨x1, e1, q1, sb1⟩ := DataW.trod_string Tryd.underlying9 h
  obtain rfl : c0 = .string x1 := (List.cons.inj (show [c0] = [.string x1] from e1)).1
  exact ⟨x1, sb1, rfl⟩
/- A cell that reads as a list of capabilities. -/
set_option maxRecDepth 100000 in
theorem sts_cell {H : Type} {enc : TypeId × Value → H} {W : World} {fuel : Nat} {z0 : Value} {y : DataW H × List MemPlace}
    (hf : DataW.trod enc Tryd.prog W 0 (fun _ => true) true fuel 24 [z0] = some y) : ∃ (a : Option Addr) (c : Nat) (l : List ByteArray), z0 = .slice a l.length c ∧ l.length ≤ c ∧ c ≤ maxLen ∧ StIn W a l ∧ (∀ x ∈ l, x.size ≤ maxLen) ∧ (l = [] ∨ ∃ es sp, y.1 = .slice es sp ∧ l.length ≤ es.length + sp.length) := by
  have hs : Tryd.prog.underlying 24 = some (.slice 9) := by kernel_rfl
  have hc3 : Tryd.prog.cellsOf 9 = 1 := by kernel_rfl
  rcases open_slice hs hf with ⟨hc, hx⟩ | ⟨b, n, c, m, k, D, Pl, hc, hb, hl, hm, hmm, hx, hall⟩
  · simp at hc
    subst hc
    exact ⟨none, 0, [], rfl, Nat.le_refl _, by decide, Or.inl rfl, by simp, Or.inl rfl⟩
  · simp at hc
    subst hc
    have hlm : n ≤ m := by rw [hmm]; split <;> omega
    have hw : ∃ es sp, y.1 = .slice es sp ∧ es.length + sp.length = m := by
      rw [hx]
      refine ⟨_, _, rfl, ?_⟩
      simp
      omega
    have each : ∀ i, i < n → ∃ t : ByteArray, t.size ≤ maxLen ∧ ∀ (j : Nat) (x : Value), (stC t)[j]? = some x → W.cell? (b.add (i * 1 + j)) = some x := by
      intro i hi
      obtain ⟨cs', h1, h2⟩ := hall i (by omega)
      rw [hc3] at h1
      obtain ⟨_, hlen, hcell⟩ := World.cells?_some h1
      obtain ⟨c0, rfl⟩ := listW1 cs' hlen
      obtain ⟨t, ht, he⟩ := st_trod h2
      refine ⟨t, ht, fun j x hj => ?_⟩
      have hj2 : j < 1 := (Array.getElem?_eq_some_iff.1 hj).1
      have g := hcell j (by omega)
      rw [add_add] at g
      rw [g]
      have e2 : ([c0] : List Value)[j]? = some x := by rw [he]; simpa using hj
      exact e2
    obtain ⟨z, hz⟩ := choose_lt each
    obtain ⟨bb, bo, bs⟩ := b
    rcases Nat.eq_zero_or_pos n with rfl | q0
    · exact ⟨some ⟨bb, bo, bs⟩, c, [], rfl, hl, hm, Or.inl rfl, by simp, Or.inl rfl⟩
    have h0 := (hz 0 q0).2 0 _ rfl
    have hspot : bs = none := by simpa [Addr.add] using World.cell?_spot h0
    subst hspot
    refine ⟨some ⟨bb, bo, none⟩, c, (List.range n).map z, by simp, by simpa using hl, hm, Or.inr ⟨bb, bo, rfl, ?_, fun j hj k x hx => ?_⟩, ?_, Or.inr (by obtain ⟨es, sp, h1, h2⟩ := hw; exact ⟨es, sp, h1, by simp; omega⟩)⟩
    · have := World.block_lt_of_cell? W _ h0
      simpa [Addr.add] using this
    · have hj' : j < n := by simpa using hj
      simp only [List.getElem_map, List.getElem_range] at hx
      have e0 := (hz j hj').2 k x hx
      rw [add_plain] at e0
      rw [Nat.add_assoc]
      exact e0
    · intro v hv
      obtain ⟨j, hj, rfl⟩ := List.mem_map.1 hv
      exact (hz j (List.mem_range.1 hj)).1



/-- Lists as long as may be reached. -/
def lenL (x : Ld) : Prop := x.de.length ≤ 140737488355328 ∧ x.ho.length ≤ 140737488355328 ∧ x.sy.length ≤ 140737488355328 ∧ x.ca.length ≤ 140737488355328 ∧ x.ma.length ≤ 140737488355328 ∧ x.og.length ≤ 140737488355328
theorem weights_ofL {H : Type} {P : Program} {ts : List TypeId} {ds : List (DataW H)} (h : (DataW.weightsEach P ts ds).all (· ≤ reachBytes) = true) {j : Nat} {t : TypeId} {d : DataW H} (ht : ts[j]? = some t) (hd : ds[j]? = some d) : ∀ n ∈ d.weights P t, n ≤ reachBytes := fun m hm => by
  have := List.all_eq_true.1 h m (DataW.weights_mem_each ht hd m hm)
  simpa using this
set_option maxRecDepth 100000 in
theorem open_og {H : Type} {enc : TypeId × Value → H} {W : World} {base : Nat} {v : Value} {d : DataW H} {p : List MemPlace} (hval : Value.okWide Tryd.prog W .any base 31 v)
    (h : DataW.Trod enc Tryd.prog W 0 (fun _ => true) true 31 v d p) : ∃ x : Og, rgOg x ∧ v = .agg (ogC x) := by
  have hcn : Tryd.prog.cellsOf 31 = 3 := by kernel_rfl
  obtain ⟨cs, rfl, hsz⟩ := okWide_struct Tryd.underlying31 hval
  rw [hcn] at hsz
  obtain ⟨l⟩ := cs
  obtain ⟨c0, c1, c2, rfl⟩ := listW3 l hsz
  obtain ⟨fuel, hf⟩ := h
  have h : DataW.trod enc Tryd.prog W 0 (fun _ => true) true fuel 31 [c0, c1, c2] = some (d, p) := by simpa [Value.cells] using hf
  obtain ⟨x, hr, he⟩ := og_trod h
  refine ⟨x, hr, ?_⟩
  rw [he]
set_option maxRecDepth 100000 in
theorem open_ld {H : Type} {enc : TypeId × Value → H} {W : World} {base : Nat} {v : Value} {d : DataW H} {p : List MemPlace} (hval : Value.okWide Tryd.prog W .any base 29 v)
    (h : DataW.Trod enc Tryd.prog W 0 (fun _ => true) true 29 v d p) : ∃ (x : Ld) (q : LdA), (rgLd x ∧ LdIn W x q ∧ ((∀ k ∈ d.weights Tryd.prog 29, k ≤ reachBytes) → lenL x) ∧ (∀ y ∈ x.de, y.size ≤ maxLen) ∧ (∀ y ∈ x.ho, y.size ≤ maxLen) ∧ (∀ y ∈ x.sy, y.size ≤ maxLen)) ∧ v = .agg (ldC x q) := by
  have hcn : Tryd.prog.cellsOf 29 = 11 := by kernel_rfl
  have _h1 : Tryd.prog.cellsOf 23 = 2 := by kernel_rfl
  have _h2 : Tryd.prog.cellsOf 3 = 1 := by kernel_rfl
  have _h3 : Tryd.prog.cellsOf 24 = 1 := by kernel_rfl
  have _h4 : Tryd.prog.cellsOf 25 = 1 := by kernel_rfl
  have _h5 : Tryd.prog.cellsOf 26 = 1 := by kernel_rfl
  have _h6 : Tryd.prog.cellsOf 27 = 1 := by kernel_rfl
  obtain ⟨cs, rfl, hsz⟩ := okWide_struct Tryd.underlying29 hval
  rw [hcn] at hsz
  obtain ⟨l⟩ := cs
  obtain ⟨c0, c1, c2, c3, c4, c5, c6, c7, c8, c9, c10, rfl⟩ := listW11 l hsz
  obtain ⟨fuel, hf⟩ := h
  have h : DataW.trod enc Tryd.prog W 0 (fun _ => true) true fuel 29 [c0, c1, c2, c3, c4, c5, c6, c7, c8, c9, c10] = some (d, p) := by simpa [Value.cells] using hf
  obtain ⟨xs, n, _, hx, _, hlen, hg⟩ := DataW.trod_struct Tryd.underlying29 h
  obtain ⟨y0, y1, y2, y3, y4, y5, y6, y7, y8, rfl⟩ := listW9 xs hlen
  have g0 := hg 0 _ rfl
  have g1 := hg 1 _ rfl
  have g2 := hg 2 _ rfl
  have g3 := hg 3 _ rfl
  have g4 := hg 4 _ rfl
  have g5 := hg 5 _ rfl
  have g6 := hg 6 _ rfl
  have g7 := hg 7 _ rfl
  have g8 := hg 8 _ rfl
  obtain ⟨z0, rz0, ez0⟩ := nm_trod g0
  simp only [nmC, List.cons.injEq, and_true] at ez0
  obtain ⟨rfl, rfl⟩ := ez0
  obtain ⟨z1, rz1, ez1⟩ := nm_trod g1
  simp only [nmC, List.cons.injEq, and_true] at ez1
  obtain ⟨rfl, rfl⟩ := ez1
  obtain ⟨x2, e2, _, wf2⟩ := DataW.trod_int Tryd.underlying3 g2
  obtain rfl : c4 = .int .i64 x2 := (List.cons.inj (show [c4] = [.int .i64 x2] from e2)).1
  obtain ⟨a3, k3, l3, rfl, hlc3, hcm3, hin3, hall3, hwt3⟩ := sts_cell g3
  obtain ⟨a4, k4, l4, rfl, hlc4, hcm4, hin4, hall4, hwt4⟩ := sts_cell g4
  obtain ⟨a5, k5, l5, rfl, hlc5, hcm5, hin5, hall5, hwt5⟩ := sts_cell g5
  obtain ⟨a6, k6, l6, rfl, hlc6, hcm6, hin6, hall6, hwt6⟩ := cps_cell g6
  obtain ⟨a7, k7, l7, rfl, hlc7, hcm7, hin7, hall7, hwt7⟩ := mgs_cell g7
  obtain ⟨a8, k8, l8, rfl, hlc8, hcm8, hin8, hall8, hwt8⟩ := ogs_cell g8
  have hw : (∀ k ∈ d.weights Tryd.prog 29, k ≤ reachBytes) → lenL ⟨z0, z1, x2, l3, l4, l5, l6, l7, l8⟩ := fun hw => by
    simp only [Prod.mk.injEq] at hx
    have hd : d = .agg [y0.1, y1.1, y2.1, y3.1, y4.1, y5.1, y6.1, y7.1, y8.1] := hx.1
    rw [hd] at hw
    have hW : DataW.weights Tryd.prog 29 (.agg [y0.1, y1.1, y2.1, y3.1, y4.1, y5.1, y6.1, y7.1, y8.1]) = DataW.weightsEach Tryd.prog [23, 23, 3, 24, 24, 24, 25, 26, 27] [y0.1, y1.1, y2.1, y3.1, y4.1, y5.1, y6.1, y7.1, y8.1] := by
      rw [DataW.weights, Tryd.underlying29]
      rfl
    rw [hW] at hw
    have hr : reachBytes ≤ 140737488355328 := by decide
    have n3 : l3.length ≤ 140737488355328 := by
      have hs : Tryd.prog.underlying 24 = some (.slice 9) := by kernel_rfl
      have hby : 1 ≤ Tryd.prog.bytesOf 9 := of_decide_eq_true (by kernel_rfl)
      rcases hwt3 with h0 | ⟨es, sp, hy, hl⟩
      · rw [h0]; exact Nat.zero_le _
      · have h1 := hw ((es.length + sp.length) * Tryd.prog.bytesOf 9) (DataW.weights_mem_each (j := 3) rfl rfl _ (by rw [hy]; simp [DataW.weights, hs]))
        have h2 : (es.length + sp.length) * 1 ≤ (es.length + sp.length) * Tryd.prog.bytesOf 9 := Nat.mul_le_mul_left _ hby
        omega
    have n4 : l4.length ≤ 140737488355328 := by
      have hs : Tryd.prog.underlying 24 = some (.slice 9) := by kernel_rfl
      have hby : 1 ≤ Tryd.prog.bytesOf 9 := of_decide_eq_true (by kernel_rfl)
      rcases hwt4 with h0 | ⟨es, sp, hy, hl⟩
      · rw [h0]; exact Nat.zero_le _
      · have h1 := hw ((es.length + sp.length) * Tryd.prog.bytesOf 9) (DataW.weights_mem_each (j := 4) rfl rfl _ (by rw [hy]; simp [DataW.weights, hs]))
        have h2 : (es.length + sp.length) * 1 ≤ (es.length + sp.length) * Tryd.prog.bytesOf 9 := Nat.mul_le_mul_left _ hby
        omega
    have n5 : l5.length ≤ 140737488355328 := by
      have hs : Tryd.prog.underlying 24 = some (.slice 9) := by kernel_rfl
      have hby : 1 ≤ Tryd.prog.bytesOf 9 := of_decide_eq_true (by kernel_rfl)
      rcases hwt5 with h0 | ⟨es, sp, hy, hl⟩
      · rw [h0]; exact Nat.zero_le _
      · have h1 := hw ((es.length + sp.length) * Tryd.prog.bytesOf 9) (DataW.weights_mem_each (j := 5) rfl rfl _ (by rw [hy]; simp [DataW.weights, hs]))
        have h2 : (es.length + sp.length) * 1 ≤ (es.length + sp.length) * Tryd.prog.bytesOf 9 := Nat.mul_le_mul_left _ hby
        omega
    have n6 : l6.length ≤ 140737488355328 := by
      have hs : Tryd.prog.underlying 25 = some (.slice 65) := by kernel_rfl
      have hby : 1 ≤ Tryd.prog.bytesOf 65 := of_decide_eq_true (by kernel_rfl)
      rcases hwt6 with h0 | ⟨es, sp, hy, hl⟩
      · rw [h0]; exact Nat.zero_le _
      · have h1 := hw ((es.length + sp.length) * Tryd.prog.bytesOf 65) (DataW.weights_mem_each (j := 6) rfl rfl _ (by rw [hy]; simp [DataW.weights, hs]))
        have h2 : (es.length + sp.length) * 1 ≤ (es.length + sp.length) * Tryd.prog.bytesOf 65 := Nat.mul_le_mul_left _ hby
        omega
    have n7 : l7.length ≤ 140737488355328 := by
      have hs : Tryd.prog.underlying 26 = some (.slice 68) := by kernel_rfl
      have hby : 1 ≤ Tryd.prog.bytesOf 68 := of_decide_eq_true (by kernel_rfl)
      rcases hwt7 with h0 | ⟨es, sp, hy, hl⟩
      · rw [h0]; exact Nat.zero_le _
      · have h1 := hw ((es.length + sp.length) * Tryd.prog.bytesOf 68) (DataW.weights_mem_each (j := 7) rfl rfl _ (by rw [hy]; simp [DataW.weights, hs]))
        have h2 : (es.length + sp.length) * 1 ≤ (es.length + sp.length) * Tryd.prog.bytesOf 68 := Nat.mul_le_mul_left _ hby
        omega
    have n8 : l8.length ≤ 140737488355328 := by
      have hs : Tryd.prog.underlying 27 = some (.slice 31) := by kernel_rfl
      have hby : 1 ≤ Tryd.prog.bytesOf 31 := of_decide_eq_true (by kernel_rfl)
      rcases hwt8 with h0 | ⟨es, sp, hy, hl⟩
      · rw [h0]; exact Nat.zero_le _
      · have h1 := hw ((es.length + sp.length) * Tryd.prog.bytesOf 31) (DataW.weights_mem_each (j := 8) rfl rfl _ (by rw [hy]; simp [DataW.weights, hs]))
        have h2 : (es.length + sp.length) * 1 ≤ (es.length + sp.length) * Tryd.prog.bytesOf 31 := Nat.mul_le_mul_left _ hby
        omega
    exact ⟨n3, n4, n5, n6, n7, n8⟩
  exact ⟨⟨z0, z1, x2, l3, l4, l5, l6, l7, l8⟩, ⟨(a3, k3), (a4, k4), (a5, k5), (a6, k6), (a7, k7), (a8, k8)⟩, ⟨⟨rz0, rz1, bounds_i64 wf2, hall6, hall7, hall8, Nat.le_trans hlc3 hcm3, Nat.le_trans hlc4 hcm4, Nat.le_trans hlc5 hcm5, Nat.le_trans hlc6 hcm6, Nat.le_trans hlc7 hcm7, Nat.le_trans hlc8 hcm8⟩, ⟨hin3, hin4, hin5, hin6, hin7, hin8⟩, hw, hall3, hall4, hall5⟩, rfl⟩

end Go.Proofs.YtcijhmbimbejfaaDoor

namespace Go.Proofs.YtcijhmbimbejfaaDoor.lldpOrder
open Go.ChangeShapes Go.WideShapes Go.ChangeAt Go.RowKit
set_option linter.unusedVariables false

theorem laidOut_ : laidOutB Tryd.prog = true := by kernel_rfl
/-- An announcement of nothing. -/
def argL : Value := .agg #[.int .i64 0, .string ⟨#[]⟩, .int .i64 0, .string ⟨#[]⟩, .int .i64 0, .slice none 0 0, .slice none 0 0, .slice none 0 0, .slice none 0 0, .slice none 0 0, .slice none 0 0]


theorem laid_met (os : Os) : laidMetH Tryd.prog Rows.lldpOrderRow.laid ((laidWorld os).forCall (fun _ _ => 0) ⟨#[], #[argL, .int .i64 0], []⟩).memory :=
  laidMetH_of_parts3 (fuel := 8) (laidMet_of_run' 8 (by kernel_rfl) (by kernel_rfl)) (by kernel_rfl) (by kernel_rfl)
theorem reads (os : Os) {H : Type} (enc : TypeId × Value → H) : ∃ places, DataW.whole enc Tryd.prog ((laidWorld os).forCall (fun _ _ => 0) ⟨#[], #[argL, .int .i64 0], []⟩).memory Tryd.f5.params.toList Rows.lldpOrderSpec.vars false #[argL, Value.int .i64 0].toList 8 = some ([.agg [.agg [.lit (.int .i64 0), .lit (.string [])], .agg [.lit (.int .i64 0), .lit (.string [])], .lit (.int .i64 0), .nil, .nil, .nil, .nil, .nil, .nil], .lit (.int .i64 0)], [], places) :=
  ⟨[], by kernel_rfl⟩

set_option maxRecDepth 100000 in
theorem lifted (os : Os) (started : os.Started) (H : Type) (enc : TypeId × Value → H) (F : Stop.Interp) :
    ReturnsInHanded {} Tryd.checked os 5 .any ((OpenSpec.ofChange Rows.lldpOrderSpec).preRow enc Tryd.prog Tryd.f5 Rows.lldpOrderRow.domain false Rows.lldpOrderRow.laid) (((OpenSpec.ofChange Rows.lldpOrderSpec).at F).post enc Tryd.prog Tryd.f5 false true false false) := by
  obtain ⟨places, hx⟩ := reads os enc
  refine returnsInHanded_of_row (C := Tryd.checked) (s := OpenSpec.ofChange Rows.lldpOrderSpec) own started (by kernel_rfl) Tryd.func5
    (witness_row_at (enc := enc) (C := Tryd.checked) false (laidWorld os) #[argL, .int .i64 0] rfl (by kernel_rfl) (by kernel_rfl) (by kernel_rfl)
      (OpenSpec.preRow_of_cond 8 hx (by kernel_rfl) (fun k hk => by cases hk) (by kernel_rfl) (laid_met os))) ?_
  intro W base args ds gs before hval0 hW _ _ hSz hL hsh _
  have hval : ∀ (j : Nat) t v, Tryd.f5.params[j]? = some t → args[j]? = some v → Value.okWide Tryd.prog W .any base t v := hval0
  have hW' := hW
  obtain ⟨p, q, hA0, hV, rfl, hfz, hnd⟩ := hW
  have hA : DataW.TrodAll enc Tryd.prog W 0 (fun _ => true) true Tryd.f5.params.toList args.toList ds p := hA0
  rw [Tryd.params5] at hA hval
  obtain ⟨v0, vs0, d0, ds0, p0, q0, hargs, rfl, rfl, h0, r0⟩ := trodAll_cons hA
  obtain ⟨v1, vs1, d1, ds1, p1, q1, rfl, rfl, rfl, h1, r1⟩ := trodAll_cons r0
  obtain ⟨rfl, rfl, rfl⟩ := trodAll_nil r1
  obtain rfl : args = #[v0, v1] := by cases args; simp_all
  obtain ⟨rfl, rfl⟩ := trodVars_none hV
  obtain ⟨a1, rfl, rfl, rfl, w1⟩ := open_int Tryd.underlying3 (hval 1 3 v1 rfl rfl) h1
  clear hA0
  simp only [List.append_nil] at hW'
  have hlt := hW'.lt
  obtain ⟨x0, q0, hh0, hv0⟩ := open_ld (hval 0 29 v0 rfl rfl) h0
  subst hv0
  refine (walk x0 q0 a1 W hh0.2.1 hh0.1).mono fun e W' ⟨he, hb⟩ => ?_
  subst he
  exact ⟨_, rfl, met_below hW' (fun _ _ _ => (trodAll_cons_mk (shut_bool Tryd.underlying4 _) trodAll_mk0)) (fun sp hsp => by have r := (trodAll_cons_mk (WideElems.Trod_stays laidOut_ (by kernel_rfl) (of_decide_eq_true (by kernel_rfl)) h0 (fun x hx => hb.same (hlt x (by simp [hx]))) (fun x hx => hsp x (by simp [hx]))) (trodAll_cons_mk (shut_int Tryd.underlying3 w1) trodAll_mk0)); simp only [List.append_nil] at r; exact r) (fun _ => rfl) hb
    (ok_one (by kernel_rfl) rfl (okWide_bool_mk Tryd.underlying4 _))⟩

theorem said : Rows.LldpOrderSaid :=
  OpenClaim.holds_of_cond 5 Tryd.f5 rfl rfl rfl rfl rfl rfl rfl ⟨rfl, rfl, rfl, rfl, rfl⟩ rfl rfl rfl rfl rfl (by kernel_rfl) Tryd.func5 (by kernel_rfl)
    (of_decide_eq_true (by kernel_rfl)) (by unfold Func.isWrapper; first | (rw [if_pos (by decide +kernel)]; kernel_rfl) | (rw [if_neg (by decide +kernel)]; exact ⟨rfl, rfl⟩))
    (fun os started H enc _ F => by rw [OpenClaim.pre_eq_preRow]; exact lifted os started H enc F)

theorem plain (f : FuncId) (fn : Func) (hf : Tryd.pinned.checked.prog.funcNamed "switchyard/switchyardkeep.LldpOrder" = some f) (hfn : Tryd.pinned.checked.prog.funcs[f]? = some fn) :
    false = Tryd.pinned.checked.prog.looks [] ∧ ∀ (j : Nat) t, fn.params[j]? = some t → Tryd.pinned.checked.prog.wantsStandIn t = false := by
  obtain rfl : f = 5 := Option.some.inj ((show Tryd.prog.funcNamed "switchyard/switchyardkeep.LldpOrder" = some 5 by kernel_rfl).symm.trans hf) |>.symm
  obtain rfl : fn = Tryd.f5 := (Option.some.inj (Tryd.func5.symm.trans hfn)).symm
  refine ⟨by kernel_rfl, fun j t ht => ?_⟩
  rw [Tryd.params5] at ht
  have hm : t ∈ #[29, 3] := Array.mem_of_getElem? ht
  simp only [List.mem_toArray, List.mem_cons, List.not_mem_nil, or_false] at hm
  rcases hm with rfl | rfl
  · exact (show Tryd.prog.wantsStandIn 29 = false by kernel_rfl)
  · exact (show Tryd.prog.wantsStandIn 3 = false by kernel_rfl)

theorem card : Rows.LldpOrderCardSaid :=
  Claim7.holds_tied_plain_at .later [] _ _ _ _ said (fun _ h => by cases h) (by kernel_rfl) (fun _ h => by cases h) lldpOrder_row_tie rfl ⟨rfl, rfl⟩ (by kernel_rfl) rfl plain (by kernel_rfl)
#print axioms card

end Go.Proofs.YtcijhmbimbejfaaDoor.lldpOrder

