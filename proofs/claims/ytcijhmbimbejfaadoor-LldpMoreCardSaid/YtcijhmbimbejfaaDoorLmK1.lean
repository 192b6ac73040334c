/- The card of switchyardkeep.LldpMore: for every argument it returns true, and the arguments read as they did; what its row lists of package-level variables is tied to the program's text. -/
import Derived.Test.YtcijhmbimbejfaaDoorLsK10
import Derived.Test.YtcijhmbimbejfaaDoorLsK3
import Derived.Test.YtcijhmbimbejfaaDoorLsK4
import Derived.Test.YtcijhmbimbejfaaDoorLsK5
import Derived.Test.YtcijhmbimbejfaaDoorLsK7
import Derived.Test.YtcijhmbimbejfaaDoorLsK8
import Derived.Deep.AppendSrc
import Derived.Lib.AppendZeros
import Derived.Below
import Derived.ChangeSame
import Derived.Test.YtcijhmbimbejfaaDoorRows
import Derived.Test.YtcijhmbimbejfaaDoorCards
import Derived.Test.YtcijhmbimbejfaaDoorTie
import Derived.ProofKit
import Derived.OpenShut
import Derived.LaidHandle
import Derived.LaidMore
import Derived.LaidSub
import Derived.Deep.DeepHandedRow
import Derived.Lib.LaidTab
import Derived.WideKeyArgs
import Derived.WideShapes
import Derived.SizedLaws
import Derived.Lib.SmallJoins
import Derived.Deep.SlicePairs
namespace Go.Proofs.YtcijhmbimbejfaaDoor
open Go.RowKit
attribute [local go_sem ↓] Go.wp_at_zero Go.wp_at_succ
set_option linter.unusedSimpArgs false
set_option linter.unusedVariables false
set_option maxRecDepth 100000

/-- With one organisation more. -/
def morL (x : Ld) (y : Og) : Ld := { x with og := x.og ++ [y] }
theorem mor_tls (x : Ld) (y : Og) : ldTls (morL x y) = ldTls x ++ [ogTl y] := by
  simp [ldTls, morL, ldHead, List.append_assoc]
theorem mor_W (x : Ld) (y : Og) : ldW (morL x y) = tlWs (ldTls x) ++ (tlW (ogTl y) ++ [0, 0]) := by
  unfold ldW tlWrite
  rw [mor_tls, tlWs_app, tlWs_cons, List.append_assoc]
  simp [tlWs]
theorem mor_less {x : Ld} {y : Og} (h : okLd x = false) : okLd (morL x y) = false := by
  cases hm : okLd (morL x y) with
  | false => rfl
  | true =>
    rw [← h]
    unfold okLd morL at hm
    unfold okLd
    simp only [Bool.and_eq_true, decide_eq_true_eq, List.all_eq_true, List.length_append, List.length_singleton] at hm ⊢
    obtain ⟨h1, h2, h3, h4, h5, h6, h7, h8, h9, h10, h11⟩ := hm
    have q : (okNm x.ch && (okNm x.po && (fitI 2 x.tt && (few okSt x.de && (few okSt x.ho && (few okSt x.sy && (few okCp x.ca && (decide ((x.ma.length : Int) ≤ 20) && (x.ma.all okMg && (decide ((x.og.length : Int) ≤ 20) && x.og.all okOg)))))))))) = true := by
      simp only [Bool.and_eq_true, decide_eq_true_eq, List.all_eq_true]
      exact ⟨h1, h2, h3, h4, h5, h6, h7, h8, h9, by omega, fun z hz => h11 z (by simp [hz])⟩
    exact q.symm
theorem mor_why {x : Ld} {y : Og} (h : okLd x = true) (hm : okLd (morL x y) = false) : 20 < x.og.length + 1 ∨ y.ou < 0 ∨ 16777216 ≤ y.ou ∨ y.su < 0 ∨ 255 < y.su ∨ 507 < y.nf.size := by
  by_cases c : 20 < x.og.length + 1 ∨ y.ou < 0 ∨ 16777216 ≤ y.ou ∨ y.su < 0 ∨ 255 < y.su ∨ 507 < y.nf.size
  · exact c
  · exfalso
    have hy : okOg y = true := by
      unfold okOg fitI
      have e1 : (256 : Int) ^ 1 = 256 := by decide
      have e3 : (256 : Int) ^ 3 = 16777216 := by decide
      simp only [e1, e3, Bool.and_eq_true, decide_eq_true_eq]
      omega
    unfold okLd at h
    simp only [Bool.and_eq_true, decide_eq_true_eq, List.all_eq_true] at h
    obtain ⟨h1, h2, h3, h4, h5, h6, h7, h8, h9, h10, h11⟩ := h
    have : okLd (morL x y) = true := by
      unfold okLd morL
      simp only [Bool.and_eq_true, decide_eq_true_eq, List.all_eq_true, List.length_append, List.length_singleton]
      refine ⟨h1, h2, h3, h4, h5, h6, h7, h8, h9, by omega, fun z hz => ?_⟩
      rcases List.mem_append.1 hz with hz | hz
      · exact h11 z hz
      · rw [List.mem_singleton.1 hz]; exact hy
    rw [this] at hm
    cases hm
theorem mor_rg {x : Ld} {y : Og} (h : rgLd x) (hy : rgOg y) (hl : x.og.length ≤ 90000) : rgLd (morL x y) := by
  obtain ⟨h1, h2, h3, h4, h5, h6, h7, h8, h9, h10, h11, h12⟩ := h
  refine ⟨h1, h2, h3, h4, h5, fun z hz => ?_, h7, h8, h9, h10, h11, ?_⟩
  · rcases List.mem_append.1 hz with hz | hz
    · exact h6 z hz
    · rw [List.mem_singleton.1 hz]; exact hy
  · show (x.og ++ [y]).length ≤ maxLen
    rw [List.length_append]
    unfold maxLen
    simp
    omega
theorem ogTl_W (y : Og) : ∃ P : List UInt8, P.length = 6 ∧ tlW (ogTl y) = P ++ y.nf.data.toList := by
  refine ⟨putL (hdT (ogTl y)) 2 ++ (putL y.ou.toNat 3 ++ putL y.su.toNat 1), by simp [putL_length], ?_⟩
  unfold tlW ogTl ogW
  simp [List.append_assoc]
theorem more_facts (x : Ld) (y : Og) : (ldW (morL x y)).length = (ldW x).length + 6 + y.nf.size ∧ (ldW (morL x y)).take ((ldW x).length - 2) = (ldW x).take ((ldW x).length - 2) ∧ Lib.hasSuffix (ldW (morL x y)) (y.nf.data.toList ++ [0, 0]) = true ∧ 2 < (ldW x).length := by
  obtain ⟨P, hP, hW⟩ := ogTl_W y
  have hx : ldW x = tlWs (ldTls x) ++ [0, 0] := rfl
  have hlx : (ldW x).length = (tlWs (ldTls x)).length + 2 := by rw [hx]; simp
  have h3 : 0 < (tlWs (ldTls x)).length := by
    rw [ldTls_rest, tlWs_cons, List.length_append, tlW_len]
    omega
  refine ⟨?_, ?_, ?_, by omega⟩
  · rw [mor_W, hW, hlx]
    simp [hP]
    omega
  · rw [mor_W, hlx, hx, Nat.add_sub_cancel, take_l _ _ _ rfl, take_l _ _ _ rfl]
  · rw [mor_W, hW]
    unfold Lib.hasSuffix
    rw [List.isSuffixOf_iff_suffix]
    exact ⟨tlWs (ldTls x) ++ P, by simp [List.append_assoc]⟩

end Go.Proofs.YtcijhmbimbejfaaDoor

namespace Go.Proofs.YtcijhmbimbejfaaDoor
open Go.RowKit
attribute [local go_sem ↓] Go.wp_at_zero Go.wp_at_succ
set_option linter.unusedSimpArgs false
set_option linter.unusedVariables false
set_option maxRecDepth 100000

set_option maxHeartbeats 1600000 in
theorem large_any (x : Ld) (q : LdA) (w : World) :
    Calls Tryd.prog 7 #[.agg (ldC x q)] w fun e w' => (∃ b, e = .returned (.bool b)) ∧ Below w.heap.size w w' := by
  go_enter Tryd.func7, Tryd.ntmps7
  go_upto_region 1 with (refine box_blk 29 (ldC x q) (by rfl) (by rfl) rfl ?_; intro w1 HA1 B1)
  generalize hgg : w.heap.size = g at *
  have c5 := HA1.cv 5 (.slice q.de.1 x.de.length q.de.2) rfl
  have c6 := HA1.cv 6 (.slice q.ho.1 x.ho.length q.ho.2) rfl
  have c7 := HA1.cv 7 (.slice q.sy.1 x.sy.length q.sy.2) rfl
  have c8 := HA1.cv 8 (.slice q.ca.1 x.ca.length q.ca.2) rfl
  have c9 := HA1.cv 9 (.slice q.ma.1 x.ma.length q.ma.2) rfl
  have c10 := HA1.cv 10 (.slice q.og.1 x.og.length q.og.2) rfl
  generalize x.de.length = n1 at *
  generalize x.ho.length = n2 at *
  generalize x.sy.length = n3 at *
  generalize x.ca.length = n4 at *
  generalize x.ma.length = n5 at *
  generalize x.og.length = n6 at *
  go_wp2
  go_ret
  exact ⟨⟨_, rfl⟩, by rw [hgg]; exact B1⟩
theorem wrap_sum {n1 n2 n3 n4 n5 n6 : Nat} (h1 : n1 ≤ 140737488355328) (h2 : n2 ≤ 140737488355328) (h3 : n3 ≤ 140737488355328) (h4 : n4 ≤ 140737488355328) (h5 : n5 ≤ 140737488355328) (h6 : n6 ≤ 140737488355328) :
    wrap64 (wrap64 (wrap64 (wrap64 (wrap64 ((n5 : Int) + (n6 : Int)) + (n1 : Int)) + (n2 : Int)) + (n3 : Int)) + (n4 : Int)) = (n5 : Int) + (n6 : Int) + (n1 : Int) + (n2 : Int) + (n3 : Int) + (n4 : Int) := by
  have e : ∀ x : Int, 0 ≤ x → x ≤ 9000000000000000000 → wrap64 x = x := fun x h0 h1 => by unfold wrap64; omega
  rw [e ((n5 : Int) + (n6 : Int)) (by omega) (by omega), e ((n5 : Int) + (n6 : Int) + (n1 : Int)) (by omega) (by omega), e ((n5 : Int) + (n6 : Int) + (n1 : Int) + (n2 : Int)) (by omega) (by omega), e ((n5 : Int) + (n6 : Int) + (n1 : Int) + (n2 : Int) + (n3 : Int)) (by omega) (by omega), e ((n5 : Int) + (n6 : Int) + (n1 : Int) + (n2 : Int) + (n3 : Int) + (n4 : Int)) (by omega) (by omega)]
set_option maxHeartbeats 1600000 in
theorem large_le (x : Ld) (q : LdA) (w : World) (h : x.de.length ≤ 140737488355328 ∧ x.ho.length ≤ 140737488355328 ∧ x.sy.length ≤ 140737488355328 ∧ x.ca.length ≤ 140737488355328 ∧ x.ma.length ≤ 140737488355328 ∧ x.og.length ≤ 140737488355328) :
    Calls Tryd.prog 7 #[.agg (ldC x q)] w fun e w' => (∃ b, e = .returned (.bool b) ∧ (b = false → x.og.length ≤ 60)) ∧ Below w.heap.size w w' := by
  have HH := Lib.hid h
  clear h
  go_enter Tryd.func7, Tryd.ntmps7
  go_upto_region 1 with (refine box_blk 29 (ldC x q) (by rfl) (by rfl) rfl ?_; intro w1 HA1 B1)
  generalize hgg : w.heap.size = g at *
  have c5 := HA1.cv 5 (.slice q.de.1 x.de.length q.de.2) rfl
  have c6 := HA1.cv 6 (.slice q.ho.1 x.ho.length q.ho.2) rfl
  have c7 := HA1.cv 7 (.slice q.sy.1 x.sy.length q.sy.2) rfl
  have c8 := HA1.cv 8 (.slice q.ca.1 x.ca.length q.ca.2) rfl
  have c9 := HA1.cv 9 (.slice q.ma.1 x.ma.length q.ma.2) rfl
  have c10 := HA1.cv 10 (.slice q.og.1 x.og.length q.og.2) rfl
  generalize x.de.length = n1 at *
  generalize x.ho.length = n2 at *
  generalize x.sy.length = n3 at *
  generalize x.ca.length = n4 at *
  generalize x.ma.length = n5 at *
  generalize hn6 : x.og.length = n6 at *
  have HN6 := Lib.hid hn6
  clear hn6
  go_wp2
  go_ret
  refine ⟨⟨_, rfl, fun hb => ?_⟩, by rw [hgg]; exact B1⟩
  obtain ⟨h1, h2, h3, h4, h5, h6⟩ := HH.out
  have hb := of_decide_eq_false hb
  rw [wrap_sum h1 h2 h3 h4 h5 h6] at hb
  rw [HN6.out]
  omega
/-- The cells of a block begin with these records. -/
def RowIs (C : Array Value) (l : List Tl) : Prop := l.length * 2 ≤ C.size ∧ ∀ j (hj : j < l.length), ∀ k, k < 2 → C[j * 2 + k]? = (tlC l[j])[k]?
theorem OwnTl.row {w : World} {base : Nat} {v : Value} {l : List Tl} (h : OwnTl w base v l) (hl : l ≠ []) : ∃ g cap C, v = .slice (some ⟨g, 0, none⟩) l.length cap ∧ base ≤ g ∧ Blk w g 51 C ∧ RowIs C l := by
  rcases h with h | ⟨-, g, cap, rfl, h1, h2⟩
  · exact absurd h.1 hl
  · rcases h2 with ⟨h3, -⟩ | ⟨g1, cap1, cur, e1, e2, e3, e4, e5, e6, e7⟩
    · cases h3
    · cases e1
      refine ⟨g, cap, cur, rfl, e2, e3, by rw [e6]; exact Nat.mul_le_mul_right 2 e4, fun j hj k hk => ?_⟩
      have h3 := tlR_get l j hj k hk
      rw [← e7, List.getElem?_take] at h3
      rw [if_pos (by omega)] at h3
      rw [← h3]
      simp
theorem RowIs.inL {w : World} {g : Nat} {T : TypeId} {C : Array Value} {l : List Tl} (hB : Blk w g T C) (h : RowIs C l) : TlIn w (some ⟨g, 0, none⟩) l := by
  refine Or.inr ⟨g, 0, rfl, hB.lt, fun j hj k c hc => ?_⟩
  have hk : k < 2 := (Array.getElem?_eq_some_iff.1 hc).1
  have := h.2 j hj k hk
  rw [Nat.zero_add]
  exact hB.cv (j * 2 + k) c (this.trans hc)
def putTl (C : Array Value) (i : Nat) (y : Tl) : Array Value := (C.toList.take (i * 2) ++ (Value.agg (tlC y)).cells.toList ++ C.toList.drop (i * 2 + (Value.agg (tlC y)).cells.toList.length)).toArray
theorem tlC_cl (y : Tl) : (Value.agg (tlC y)).cells.toList = [.int .i64 y.k, .string y.t] := rfl
theorem putTl_size (C : Array Value) (i : Nat) (y : Tl) (h : i * 2 + 2 ≤ C.size) : (putTl C i y).size = C.size := by
  unfold putTl
  rw [tlC_cl]
  simp
  omega
theorem putTl_get (C : Array Value) (i : Nat) (y : Tl) (h : i * 2 + 2 ≤ C.size) (j k : Nat) (hk : k < 2) : (putTl C i y)[j * 2 + k]? = if j = i then (tlC y)[k]? else C[j * 2 + k]? := by
  unfold putTl
  rw [tlC_cl, List.getElem?_toArray]
  have hl : (C.toList.take (i * 2)).length = i * 2 := by rw [List.length_take]; simp; omega
  by_cases hj : j = i
  · subst hj
    rw [if_pos rfl, List.getElem?_append_left (by rw [List.length_append, hl]; simp; omega), List.getElem?_append_right (by omega), hl, show j * 2 + k - j * 2 = k by omega]
    have : k = 0 ∨ k = 1 := by omega
    rcases this with rfl | rfl <;> rfl
  · rw [if_neg hj]
    by_cases hlt : j < i
    · rw [List.getElem?_append_left (by rw [List.length_append, hl]; simp; omega), List.getElem?_append_left (by omega), List.getElem?_take, if_pos (by omega)]
      simp
    · rw [List.getElem?_append_right (by rw [List.length_append, hl]; simp; omega), List.length_append, hl, List.getElem?_drop]
      simp only [List.length_cons, List.length_nil]
      rw [show i * 2 + (0 + 1 + 1) + (j * 2 + k - (i * 2 + (0 + 1 + 1))) = j * 2 + k by omega]
      simp
theorem RowIs.put {C : Array Value} {l : List Tl} (h : RowIs C l) (i : Nat) (hi : i < l.length) (y : Tl) : RowIs (putTl C i y) (l.set i y) := by
  have hz : i * 2 + 2 ≤ C.size := by have := h.1; omega
  refine ⟨by rw [putTl_size C i y hz, List.length_set]; exact h.1, fun j hj k hk => ?_⟩
  rw [List.length_set] at hj
  rw [putTl_get C i y hz j k hk, List.getElem_set]
  by_cases hji : j = i
  · subst hji
    rw [if_pos rfl, if_pos rfl]
  · rw [if_neg hji, if_neg (fun q => hji q.symm)]
    exact h.2 j hj k hk
theorem RowIs.at {C : Array Value} {l : List Tl} (h : RowIs C l) (i : Nat) (hi : i < l.length) : (C.toList.drop (i * 2)).take 2 = (tlC l[i]).toList := by
  have hz : i * 2 + 2 ≤ C.size := by have := h.1; omega
  apply List.ext_getElem?
  intro k
  rw [List.getElem?_take]
  by_cases hk : k < 2
  · rw [if_pos hk, List.getElem?_drop]
    have := h.2 i hi k hk
    simpa using this
  · rw [if_neg hk, List.getElem?_eq_none (by show (tlC l[i]).toList.length ≤ k; rw [tlC_len]; omega)]
theorem RowIs.size {C : Array Value} {l : List Tl} (h : RowIs C l) (i : Nat) (hi : i < l.length) (y : Tl) : i * 2 + (Value.agg (tlC y)).cells.toList.length ≤ C.size := by
  have := h.1
  show i * 2 + 2 ≤ _
  omega
/-- Two neighbours change places. -/
theorem swap_list {α : Type} (a b : List α) (u v : α) : ((a ++ u :: v :: b).set a.length v).set (a.length + 1) u = a ++ v :: u :: b := by
  rw [List.set_append_right _ _ (Nat.le_refl _), Nat.sub_self, List.set_append_right _ _ (by omega), show a.length + 1 - a.length = 1 by omega]
  rfl
theorem split2 {α : Type} (l : List α) (i : Nat) (h : i + 1 < l.length) : ∃ a b, l = a ++ l[i] :: l[i + 1] :: b ∧ a.length = i := by
  refine ⟨l.take i, l.drop (i + 2), ?_, by rw [List.length_take]; omega⟩
  rw [← List.drop_eq_getElem_cons (by omega), ← List.drop_eq_getElem_cons (by omega), List.take_append_drop]

end Go.Proofs.YtcijhmbimbejfaaDoor

namespace Go.Proofs.YtcijhmbimbejfaaDoor
open Go.RowKit
attribute [local go_sem ↓] Go.wp_at_zero Go.wp_at_succ
set_option linter.unusedSimpArgs false
set_option linter.unusedVariables false
set_option maxRecDepth 100000

/-- A row of one's own, made or not; it may be empty. -/
def RowOg (w : World) (base : Nat) (v : Value) (l : List Og) : Prop := (∃ a c, v = .slice a l.length c) ∧ w.ownsRow base 31 3 v l.length (ogR l)
theorem RowOg.inL {w : World} {base : Nat} {v : Value} {l : List Og} (h : RowOg w base v l) : ∃ a c, v = .slice a l.length c ∧ OgIn w a l := by
  obtain ⟨⟨a, c, rfl⟩, h2⟩ := h
  refine ⟨a, c, rfl, ?_⟩
  rcases h2.2 with ⟨_, h3⟩ | ⟨g, cap, cur, e1, e2, e3, e4, e5, e6, e7⟩
  · exact Or.inl (List.eq_nil_of_length_eq_zero h3)
  · cases e1
    exact Or.inr ⟨g, 0, rfl, (Array.getElem?_eq_some_iff.1 e3).1, og_own rfl h2⟩
theorem RowOg.kept {w w' : World} {base : Nat} {v : Value} {l : List Og} (h : RowOg w base v l) (hb : Below w.heap.size w w') : RowOg w' base v l :=
  ⟨h.1, h.2.kept (show w.grownBy w' none from ⟨hb.os, hb.tape, hb.output, hb.size, fun k hk _ => hb.block k hk⟩) (by cases hv : v.ownBlock <;> simp)⟩
theorem OwnOg.row {w : World} {base : Nat} {v : Value} {l : List Og} (h : OwnOg w base v l) : RowOg w base v l := by
  rcases h with ⟨rfl, rfl⟩ | ⟨h1, g, cap, rfl, h2⟩
  · exact ⟨⟨none, 0, rfl⟩, World.ownsRow_nil w base _ 3⟩
  · exact ⟨⟨_, _, rfl⟩, h2⟩
theorem RowOg.own {w : World} {base : Nat} {v : Value} {l : List Og} (h : RowOg w base v l) (hv : l = [] → v = .slice none 0 0) : OwnOg w base v l := by
  by_cases hl : l = []
  · exact Or.inl ⟨hl, hv hl⟩
  · rcases h.2.2 with ⟨_, h3⟩ | ⟨g, cap, cur, e1, e2, e3, e4, e5, e6, e7⟩
    · exact absurd (List.eq_nil_of_length_eq_zero h3) hl
    · exact Or.inr ⟨hl, g, cap, e1, h.2⟩
set_option maxHeartbeats 1600000 in
/-- Many come behind. -/
theorem many_og {o : Oper} {a : Act} {w : World} {K : Act → World → Prop} {Q : Exit → Act → World → Prop} {s x : Operand} {base : Nat} {v : Value} {l l2 : List Og} {a2 : Option Addr} {c2 : Nat}
    (ho : o.op = .call { callee := .builtin .append, args := #[s, x], argTypes := #[27, 27] }) (hs : a.eval s = v) (hx : a.eval x = .slice a2 l2.length c2)
    (hO : RowOg w base v l) (hI : OgIn w a2 l2) (hlen : l.length + l2.length ≤ 100000) (hbase : base ≤ w.heap.size)
    (h : ∀ v' w', RowOg w' base v' (l ++ l2) → (l ++ l2 = [] → v' = v) → Below base w w' → w.grownBy w' v.ownBlock → K (a.put o.dst v') w') : Oper.wp Tryd.prog o a w K Q := by
  obtain ⟨i0, hi, hz0, hz1, hz2⟩ := info_parts Tryd.ogParts
  by_cases hl2 : l2 = []
  · subst hl2
    obtain ⟨⟨a1, c1, rfl⟩, hown⟩ := hO
    have hr : (Builtin.append_ #[27, 27] o.type #[.slice a1 l.length c1, .slice a2 0 c2]).run Tryd.prog w = .ok (.slice a1 l.length c1) w := by
      have hsrc : Src Tryd.prog i0.size 27 (.slice a2 0 c2) 0 [] w := by
        cases a2 with
        | none => exact Src.ofNil w Tryd.underlying27 c2
        | some ad => exact Src.ofSlice w Tryd.underlying27 ad 0 c2 [] (by simp) (fun j u hj => by simp at hj) (fun u hu => by cases hu)
      rcases hown.2 with ⟨e1, h3⟩ | ⟨g, cap, cur, e1, e2, e3, e4, e5, e6, e7⟩
      · simp only [Value.slice.injEq] at e1
        obtain ⟨rfl, e2, rfl⟩ := e1
        have hcl := hsrc.cells
        rw [e2]
        simp [Builtin.append_, run_underlying Tryd.underlying27, sizeOf, typeInfo, hi, Builtin.lenOf]
        cases a2 <;> simp [Builtin.firstCells] at hcl ⊢
        simp [hcl]
      · simp only [Value.slice.injEq] at e1
        obtain ⟨rfl, _, rfl⟩ := e1
        have h5 := run_append_room_src (P := Tryd.prog) w 27 27 o.type 31 i0 Tryd.underlying27 hi g 0 l.length c1 (.slice a2 0 c2) 0 [] hsrc (by omega) (fun j hj => by simp at hj) (fun j hj => by simp at hj)
        simpa [World.setCells] using h5
    refine Lib.wp_append_run w s x _ _ ho _ _ hs hx _ _ hr (h _ _ ?_ (fun _ => rfl) (Below.refl _ _) (World.grownBy.refl _ _))
    rw [List.append_nil]
    exact ⟨⟨a1, c1, rfl⟩, hown⟩
  · rcases hI with hI | ⟨b, lo, rfl, hb, hat⟩
    · exact absurd hI hl2
    have hpos : 0 < l2.length := List.length_pos_iff.2 hl2
    have hown := hO.2
    refine wp_append_lies w s x _ ho base 31 i0 (.agg (ogC zOg)) 3 32 Tryd.underlying27 hi hz0 hz1 hz2 rfl (by decide) v l.length (ogR l) hs hown ⟨b, lo, none⟩ l2.length c2 (ogR l2) hx (ogR_len l2) (ogAt_news hat) (ogR_cells l2) hpos (by unfold maxLen; omega) (by omega) hbase _ rfl ?_
    intro g cap w' hown2 hgrow hatg hlt
    refine h _ _ ⟨⟨_, _, by rw [List.length_append]⟩, ?_⟩ (fun q => absurd (List.append_eq_nil_iff.1 q).2 hl2) ((Below.refl base w).grown hgrow hbase (fun q hq => ?_)) hgrow
    · rw [ogR_append, List.length_append]
      exact hown2
    · rcases hown.2 with ⟨rfl, _⟩ | ⟨g1, cap1, cur1, rfl, e2, _⟩
      · simp [Value.ownBlock] at hq
      · simp [Value.ownBlock] at hq
        omega
theorem manyL_og {ops : Array Oper} {rest : List Oper} {o : Oper} {a : Act} {w : World} {Q : Exit → Act → World → Prop} {s x : Operand} {base : Nat} {v : Value} {l l2 : List Og} {a2 : Option Addr} {c2 : Nat} (hg : o.guard = none)
    (ho : o.op = .call { callee := .builtin .append, args := #[s, x], argTypes := #[27, 27] }) (hs : a.eval s = v) (hx : a.eval x = .slice a2 l2.length c2)
    (hO : RowOg w base v l) (hI : OgIn w a2 l2) (hlen : l.length + l2.length ≤ 100000) (hbase : base ≤ w.heap.size)
    (h : ∀ v' w', RowOg w' base v' (l ++ l2) → (l ++ l2 = [] → v' = v) → Below base w w' → w.grownBy w' v.ownBlock → wpList Tryd.prog ops Q rest (a.put o.dst v') w') : wpList Tryd.prog ops Q (o :: rest) a w :=
  wpList_plain hg fun _ hK => many_og ho hs hx hO hI hlen hbase fun v' w' h1 h2 h3 h4 => hK _ _ (h v' w' h1 h2 h3 h4)
set_option maxHeartbeats 3200000 in
theorem cloneOg_any (a : Option Addr) (c : Nat) (l : List Og) (w : World) (h : OgIn w a l) (hl : l.length ≤ 90000) :
    Calls Tryd.prog 9 #[.slice a l.length c] w fun e w' => (∃ v, e = .returned v ∧ RowOg w' w.heap.size v l) ∧ Below w.heap.size w w' := by
  cases a with
  | none =>
    have hl0 : l = [] := by
      rcases h with h | ⟨b, o, h, -⟩
      · exact h
      · cases h
    subst hl0
    have hnil : ∀ W, (binOp BinOp.eql 27 (.slice none 0 c) (.slice none 0 0)).run Tryd.prog W = .ok (.bool true) W := fun W => by kernel_rfl
    go_enter Tryd.func9, Tryd.ntmps9
    go_wp2
    go_ret
    exact ⟨⟨_, rfl, ⟨⟨none, 0, rfl⟩, World.ownsRow_nil w _ _ 3⟩⟩, Below.refl _ _⟩
  | some ad =>
    have hnil : ∀ W, (binOp BinOp.eql 27 (.slice (some ad) l.length c) (.slice none 0 0)).run Tryd.prog W = .ok (.bool false) W := fun W => by kernel_rfl
    have hown := World.ownsRow_made (base := w.heap.size) (e := 31) (size := 3) w #[] 0 (Nat.le_refl _) (by unfold maxLen; omega) rfl
    have B1 : Below w.heap.size w (w.alloc (.cells #[] 31)) := (Below.refl _ _).alloc (Nat.le_refl _) _
    have h1 := h.below B1
    have HR : RowOg (w.alloc (.cells #[] 31)) w.heap.size (.slice (some ⟨w.heap.size, 0, none⟩) 0 0) [] := ⟨⟨_, _, rfl⟩, hown⟩
    have hs1 : w.heap.size ≤ (w.alloc (.cells #[] 31)).heap.size := by simp
    clear hown
    go_enter Tryd.func9, Tryd.ntmps9
    go_wp2_with (refine manyL_og (l := []) (l2 := l) rfl rfl rfl rfl HR h1 (by simp; omega) hs1 ?_; intro v2 w2 HR2 e2 b2 g2)
    go_ret
    rw [List.nil_append] at HR2
    exact ⟨⟨_, rfl, HR2⟩, B1.trans b2⟩

end Go.Proofs.YtcijhmbimbejfaaDoor

namespace Go.Proofs.YtcijhmbimbejfaaDoor.lldpMore
open Go.RowKit
attribute [local go_sem ↓] Go.wp_at_zero Go.wp_at_succ
set_option linter.unusedSimpArgs false
set_option linter.unusedVariables false
set_option maxRecDepth 100000

theorem drewL {w : World} {x : Ld} {q : LdA} (h : LdIn w x q) : LdIn w.drew x q := ⟨h.1.drew, h.2.1.drew, h.2.2.1.drew, h.2.2.2.1.drew, h.2.2.2.2.1.drew, h.2.2.2.2.2.drew⟩
theorem cut0 (l : List UInt8) (k : Nat) : (⟨l.toArray⟩ : ByteArray).extract 0 k = ⟨(l.take k).toArray⟩ := by
  apply ByteArray.ext
  apply Array.toList_inj.1
  rw [extract_list]
  simp
theorem og_one {w : World} {g : Nat} {y : Og} (h : Blk w g 31 (ogC y)) (hlt : g < w.heap.size) : OgIn w (some ⟨g, 0, none⟩) [y] := Or.inr ⟨g, 0, rfl, hlt, fun j hj => by
  have hj0 : j = 0 := by simpa using hj
  subst hj0
  intro k c hc
  simp only [Nat.zero_mul, Nat.zero_add]
  exact h.cv k c hc⟩
set_option maxHeartbeats 6400000 in
theorem walk_err (x : Ld) (q : LdA) (y : Og) (hok : okLd x = false) (hom : okLd (morL x y) = false)
    (w : World) (h0 : LdIn w x q) (hr : rgLd x) (hy : rgOg y) (hl : x.de.length ≤ 140737488355328 ∧ x.ho.length ≤ 140737488355328 ∧ x.sy.length ≤ 140737488355328 ∧ x.ca.length ≤ 140737488355328 ∧ x.ma.length ≤ 140737488355328 ∧ x.og.length ≤ 140737488355328) :
    Calls Tryd.prog 3 #[.agg (ldC x q), .agg (ogC y)] w fun e w' => e = .returned (.bool true) ∧ Below w.heap.size w w' := by
  have HLg := Lib.hid (fun W => large_le x q W hl)
  have HCl := Lib.hid (fun (W : World) (h : LdIn W x q) => fun (hg : x.og.length ≤ 90000) => cloneOg_any q.og.1 q.og.2 x.og W h.2.2.2.2.2 hg)
  have HW1 := Lib.hid (fun (_u : Unit) (W : World) (h : LdIn W x q) => by
    have r := ldWrite_any x q W h hr
    unfold ldX ldE at r
    rw [hok] at r
    simp only [Bool.false_eq_true, if_false] at r
    exact r)
  have HW2 := Lib.hid (fun (hg : x.og.length ≤ 90000) (q' : LdA) (W : World) (h : LdIn W (morL x y) q') => by
    have r := ldWrite_any (morL x y) q' W h (mor_rg hr hy hg)
    unfold ldX ldE at r
    rw [hom] at r
    simp only [Bool.false_eq_true, if_false] at r
    exact r)
  clear hr hy hl hok hom
  go_enter Tryd.func3, Tryd.ntmps3
  go_upto_region 1 with (first
    | (refine box_blk 29 (ldC x q) (by rfl) (by rfl) rfl ?_; intro w1 HV1 B1)
    | (refine box_blk 31 (ogC y) (by rfl) (by rfl) rfl ?_; intro w2 HG2 k2))
  have HV2 := HV1.kept k2
  have B2 := B1.trans (k2.mono B1.size)
  have hVG : w.heap.size < w1.heap.size := HV1.lt
  obtain ⟨V, hV⟩ : ∃ V, V = w.heap.size := ⟨_, rfl⟩
  generalize w1.heap.size = G at *
  rw [← hV] at HV2 hVG
  rw [← hV]
  clear hV HV1 B1 k2
  go_wp2_with fail
  refine (told_any _).mono ?_
  rintro e w3 ⟨rfl, k3⟩
  have HV3 := HV2.kept k3
  have HG3 := HG2.kept k3
  have B3 := B2.trans (k3.mono B2.size)
  clear HV2 HG2 B2 k3
  go_wp2_with (refine load_blk (k := 0) 29 (ldC x q) (by rfl) rfl rfl HV3 (by kernel_rfl) (by kernel_rfl) rfl ?_)
  refine (HLg.out _).mono ?_
  rintro e w4 ⟨⟨b, rfl, hbl⟩, k4⟩
  have HV4 := HV3.kept k4
  have HG4 := HG3.kept k4
  have B4 := B3.trans (k4.mono B3.size)
  have d4 := HG4.cv 2 (.string y.nf) rfl
  clear HV3 HG3 B3 k4
  cases b with
  | true =>
    go_wp2
    go_ret
    exact ⟨rfl, B4⟩
  | false =>
    have hog := Lib.hid (hbl rfl)
    clear hbl
    by_cases h6 : 600 < y.nf.size
    · have q1 : decide ((600 : Int) < (y.nf.size : Int)) = true := decide_eq_true (by omega)
      have q2 : decide (600 < y.nf.size) = true := decide_eq_true h6
      go_wp2
      go_ret
      exact ⟨rfl, B4⟩
    · have q1 : decide ((600 : Int) < (y.nf.size : Int)) = false := decide_eq_false (by omega)
      have q2 : decide (600 < y.nf.size) = false := decide_eq_false h6
      have I4 := h0.below B4
      go_wp2_with (refine load_blk (k := 0) 29 (ldC x q) (by rfl) rfl rfl HV4 (by kernel_rfl) (by kernel_rfl) rfl ?_)
      refine (HW1.out () _ I4).mono ?_
      rintro e w5 ⟨rfl, k5⟩
      have HV5 := HV4.kept k5
      have HG5 := HG4.kept k5
      have B5 := B4.trans (k5.mono B4.size)
      clear HV4 HG4 B4 k5 d4 I4 q1 q2
      go_upto_region 7 with (first
        | (refine load_blk (k := 0) 29 (ldC x q) (by rfl) rfl rfl HV5 (by kernel_rfl) (by kernel_rfl) rfl ?_)
        | (refine alloc_blk 29 (ldC zLd zLdA) (by rfl) rfl Tryd.ldZero ?_)
        | (refine store_blk (k := 0) 29 (.agg (ldC x q)) (ldC x q) (by rfl) rfl rfl rfl (Blk.new w5 _ _) (by kernel_rfl) (Nat.le_of_eq rfl) (by rfl) (st_whole _ _ rfl) ?_; intro w6 HM6 b6 g6))
      (try simp only [Act.put, List.setIfInBounds_toArray, List.set_cons_zero, List.set_cons_succ])
      have k6 : Below w5.heap.size w5 w6 := ((Below.refl _ _).alloc (Nat.le_refl _) _).trans b6
      have HV6 := HV5.kept k6
      have HG6 := HG5.kept k6
      have B6 := B5.trans (k6.mono B5.size)
      have hM6w : w.heap.size ≤ w5.heap.size := B5.size
      have hVM : V < w5.heap.size := HV5.lt
      have hGM : G < w5.heap.size := HG5.lt
      clear HV5 HG5 B5 b6 g6 k6
      generalize w5.heap.size = M at *
      have hV6 := B6.size
      have hV6l := HV6.lt
      have hG6l := HG6.lt
      have hM6l := HM6.lt
      have I6 := h0.below B6
      have cg6 := HV6.cv 10 (.slice q.og.1 x.og.length q.og.2) rfl
      refine wp_region_noPanic ?_
      refine wp_region_held_drew (S := fun w' => w'.cell? ⟨V, 10, none⟩ = some (.slice q.og.1 x.og.length q.og.2) ∧ Blk w' G 31 (ogC y)) (by kernel_rfl) ?_ (fun hHeld => ?_)
      · exact ⟨cg6, HG6⟩
      refine wpAnyH_take (i := 0) (v := ?_) rfl (by kernel_rfl) (by kernel_rfl) (by kernel_rfl) (fun _ _ _ h => h) (Or.inl ⟨by rfl, ?_⟩) (by assumption) ?_
      rotate_left
      · (intro w hSw; (try dsimp only at hSw); go_simp; (try with_reducible rfl))
      (try simp only [Act.put, List.getElem_toArray, List.getElem_cons_zero, List.getElem_cons_succ, List.setIfInBounds_toArray, List.set_cons_zero, List.set_cons_succ])
      refine wpAnyH_take (i := 1) (v := .slice q.og.1 x.og.length q.og.2) rfl (by kernel_rfl) (by kernel_rfl) (by kernel_rfl) (fun _ _ _ h => h) (Or.inl ⟨by rfl, fun w hSw => by have c := hSw.1; (try dsimp only at c); go_simp⟩) (by assumption) ?_
      (try simp only [Act.put, List.getElem_toArray, List.getElem_cons_zero, List.getElem_cons_succ, List.setIfInBounds_toArray, List.set_cons_zero, List.set_cons_succ])
      refine wpAnyH_take (i := 3) (v := .agg (ogC y)) rfl (by kernel_rfl) (by kernel_rfl) (by kernel_rfl) (fun _ _ _ h => h) (Or.inl ⟨by rfl, fun w hSw => exec_load_blk (k := 0) 31 (ogC y) rfl rfl hSw.2 (by kernel_rfl) (by kernel_rfl) rfl⟩) (by assumption) ?_
      (try simp only [Act.put, List.getElem_toArray, List.getElem_cons_zero, List.getElem_cons_succ, List.setIfInBounds_toArray, List.set_cons_zero, List.set_cons_succ])
      refine wpAnyH_ready (rs := [2, 4]) (by kernel_rfl) (by simp) ?_
      refine AllReadyH.cons rfl (fun K hK => ?_) (AllReadyH.cons rfl (fun K hK => ?_) AllReadyH.nil)
      · simp only [List.getElem_toArray, List.getElem_cons_zero, List.getElem_cons_succ]
        go_simp
        with_reducible refine (HCl.out w6.drew (drewL I6) (by have := hog.out; omega)).mono ?_
        rintro e w7 ⟨⟨v7, rfl, HR7⟩, k7⟩
        replace k7 : Below w6.heap.size w6 w7 := ((Below.refl _ w6).drew).trans k7
        have HV7 := HV6.kept k7
        have HG7 := HG6.kept k7
        have HM7 := HM6.kept k7
        have B7 := B6.trans (k7.mono hV6)
        have hs7 := k7.size
        have cg7 := HV7.cv 10 (.slice q.og.1 x.og.length q.og.2) rfl
        refine hK.out _ _ ?_ (fun hHeld => ?_)
        · exact ⟨cg7, HG7⟩
        clear hK K
        (try simp only [Act.put, List.getElem_toArray, List.getElem_cons_zero, List.getElem_cons_succ, List.setIfInBounds_toArray, List.set_cons_zero, List.set_cons_succ])
        refine wpAnyH_ready (rs := [4]) (by kernel_rfl) (by simp) ?_
        refine AllReadyH.cons rfl (fun K hK => ?_) AllReadyH.nil
        simp only [List.getElem_toArray, List.getElem_cons_zero, List.getElem_cons_succ]
        rw [if_pos (by rfl)]
        refine slice_og y rfl rfl (fun w8 HS8 k8 l8 => ?_)
        have HV8 := HV7.kept k8
        have HG8 := HG7.kept k8
        have HM8 := HM7.kept k8
        have B8 := B7.trans (k8.mono (by omega))
        have HR8 := HR7.kept k8
        have hs8 := k8.size
        have cg8 := HV8.cv 10 (.slice q.og.1 x.og.length q.og.2) rfl
        have hb8 : w6.drew.heap.size ≤ w8.heap.size := Nat.le_trans (show w6.heap.size ≤ w7.heap.size from hs7) hs8
        have IS8 := og_one HS8 l8
        refine hK.out _ _ ?_ (fun hHeld => ?_)
        · exact ⟨cg8, HG8⟩
        clear hK K
        (try simp only [Act.put, List.getElem_toArray, List.getElem_cons_zero, List.getElem_cons_succ, List.setIfInBounds_toArray, List.set_cons_zero, List.set_cons_succ])
        refine wpAnyH_ready (rs := [5]) (by kernel_rfl) (by simp) ?_
        refine AllReadyH.cons rfl (fun K hK => ?_) AllReadyH.nil
        simp only [List.getElem_toArray, List.getElem_cons_zero, List.getElem_cons_succ]
        rw [if_pos (by rfl)]
        refine many_og (l := x.og) (l2 := [y]) rfl rfl rfl HR8 IS8 (by have := hog.out; simp; omega) hb8 (fun v9 w9 HR9 e9 k9 g9 => ?_)
        have hlo : w6.heap.size ≤ w6.drew.heap.size := Nat.le_refl _
        have HV9 := HV8.below k9 (show V < w6.drew.heap.size from Nat.lt_of_lt_of_le hV6l hlo)
        have HG9 := HG8.below k9 (show G < w6.drew.heap.size from Nat.lt_of_lt_of_le hG6l hlo)
        have HM9 := HM8.below k9 (show M < w6.drew.heap.size from Nat.lt_of_lt_of_le hM6l hlo)
        have B9 := B8.trans (k9.mono (show w.heap.size ≤ w6.drew.heap.size from Nat.le_trans hV6 hlo))
        obtain ⟨a9, c9, rfl, IR9⟩ := HR9.inL
        have HRo9 := HR9.own (fun q => by simp at q)
        have cg9 := HV9.cv 10 (.slice q.og.1 x.og.length q.og.2) rfl
        refine hK.out _ _ ?_ (fun hHeld => ?_)
        · exact ⟨cg9, HG9⟩
        clear hK K
        (try simp only [Act.put, List.getElem_toArray, List.getElem_cons_zero, List.getElem_cons_succ, List.setIfInBounds_toArray, List.set_cons_zero, List.set_cons_succ])
        refine wpAnyH_take (i := 6) (v := ?_) rfl (by kernel_rfl) (by kernel_rfl) (by kernel_rfl) (fun _ _ _ h => h) (Or.inl ⟨by rfl, ?_⟩) (by assumption) ?_
        rotate_left
        · (intro w hSw; (try dsimp only at hSw); go_simp; (try with_reducible rfl))
        (try simp only [Act.put, List.getElem_toArray, List.getElem_cons_zero, List.getElem_cons_succ, List.setIfInBounds_toArray, List.set_cons_zero, List.set_cons_succ])
        refine wpAnyH_ready (rs := [7]) (by kernel_rfl) (by simp) ?_
        refine AllReadyH.cons rfl (fun K hK => ?_) AllReadyH.nil
        simp only [List.getElem_toArray, List.getElem_cons_zero, List.getElem_cons_succ]
        rw [if_pos (by rfl)]
        refine wp_store_op (k := 10) 27 (.slice a9 (x.og ++ [y]).length c9) (ldC (morL x y) ⟨q.de, q.ho, q.sy, q.ca, q.ma, (a9, c9)⟩) (by rfl) rfl rfl HM9 (by kernel_rfl) (show (10 + 1 : Nat) ≤ 11 by decide) (by rfl) rfl (fun w10 HM10 b10 g10 => ?_)
        have HV10 := HV9.grown g10 (by simp; omega)
        have HG10 := HG9.grown g10 (by simp; omega)
        have B10 := B9.trans (b10.mono hM6w)
        have HRo10 := HRo9.other HM9 (by decide) g10
        have cg10 := HV10.cv 10 (.slice q.og.1 x.og.length q.og.2) rfl
        refine hK.out _ _ ?_ (fun hHeld => ?_)
        · exact ⟨cg10, HG10⟩
        clear hK K
        (try simp only [Act.put, List.getElem_toArray, List.getElem_cons_zero, List.getElem_cons_succ, List.setIfInBounds_toArray, List.set_cons_zero, List.set_cons_succ])
        refine wpAnyH_done (by kernel_rfl) ?_ _
        refine NoPanic.normal ?_
        obtain ⟨a', c', e', IR10⟩ := HRo10.inL
        cases e'
        have I10 : LdIn w10 (morL x y) ⟨q.de, q.ho, q.sy, q.ca, q.ma, (a9, c9)⟩ := by
          have i := h0.below B10
          exact ⟨i.1, i.2.1, i.2.2.1, i.2.2.2.1, i.2.2.2.2.1, IR10⟩
        clear HV9 HG9 HM9 B9 IR9 HRo9 HRo10 k9 g9 b10 g10 IR10 HV8 HG8 HM8 B8 HR8 HS8 IS8 hs8 cg8 cg9 cg10 HV6 HG6 HM6 B6 I6 cg6 hb8 HV7 HG7 HM7 B7 cg7
        obtain ⟨q', hq'⟩ : ∃ q' : LdA, q' = ⟨q.de, q.ho, q.sy, q.ca, q.ma, (a9, c9)⟩ := ⟨_, rfl⟩
        rw [← hq'] at I10 HM10
        have hqo : Hid (q'.og = (a9, c9)) := by rw [hq']; rfl
        clear hq'
        go_wp2_with (refine load_blk (k := 0) 29 (ldC (morL x y) q') (by rfl) rfl rfl HM10 (by kernel_rfl) (by kernel_rfl) rfl ?_)
        refine (HW2.out (by have := hog.out; omega) _ _ I10).mono ?_
        rintro e w11 ⟨rfl, k11⟩
        have B11 := B10.trans (k11.mono B10.size)
        go_wp2
        go_ret
        exact ⟨rfl, B11⟩
      · simp only [List.getElem_toArray, List.getElem_cons_zero, List.getElem_cons_succ]
        rw [if_pos (by rfl)]
        refine slice_og y rfl rfl (fun w7 HS7 k7 l7 => ?_)
        replace k7 : Below w6.heap.size w6 w7 := ((Below.refl _ w6).drew).trans k7
        have HV7 := HV6.kept k7
        have HG7 := HG6.kept k7
        have HM7 := HM6.kept k7
        have B7 := B6.trans (k7.mono hV6)
        have hs7 := k7.size
        have cg7 := HV7.cv 10 (.slice q.og.1 x.og.length q.og.2) rfl
        have I7 := I6.below k7
        refine hK.out _ _ ?_ (fun hHeld => ?_)
        · exact ⟨cg7, HG7⟩
        clear hK K
        (try simp only [Act.put, List.getElem_toArray, List.getElem_cons_zero, List.getElem_cons_succ, List.setIfInBounds_toArray, List.set_cons_zero, List.set_cons_succ])
        refine wpAnyH_ready (rs := [2]) (by kernel_rfl) (by simp) ?_
        refine AllReadyH.cons rfl (fun K hK => ?_) AllReadyH.nil
        simp only [List.getElem_toArray, List.getElem_cons_zero, List.getElem_cons_succ]
        go_simp
        with_reducible refine (HCl.out w7 I7 (by have := hog.out; omega)).mono ?_
        rintro e w8 ⟨⟨v7, rfl, HR8⟩, k8⟩
        have HV8 := HV7.kept k8
        have HG8 := HG7.kept k8
        have HM8 := HM7.kept k8
        have B8 := B7.trans (k8.mono (by omega))
        have HS8 := HS7.kept k8
        have hs8 := k8.size
        have cg8 := HV8.cv 10 (.slice q.og.1 x.og.length q.og.2) rfl
        have hb8 : w7.heap.size ≤ w8.heap.size := hs8
        have IS8 := og_one HS8 (Nat.lt_of_lt_of_le l7 hs8)
        refine hK.out _ _ ?_ (fun hHeld => ?_)
        · exact ⟨cg8, HG8⟩
        clear hK K
        (try simp only [Act.put, List.getElem_toArray, List.getElem_cons_zero, List.getElem_cons_succ, List.setIfInBounds_toArray, List.set_cons_zero, List.set_cons_succ])
        refine wpAnyH_ready (rs := [5]) (by kernel_rfl) (by simp) ?_
        refine AllReadyH.cons rfl (fun K hK => ?_) AllReadyH.nil
        simp only [List.getElem_toArray, List.getElem_cons_zero, List.getElem_cons_succ]
        rw [if_pos (by rfl)]
        refine many_og (l := x.og) (l2 := [y]) rfl rfl rfl HR8 IS8 (by have := hog.out; simp; omega) hb8 (fun v9 w9 HR9 e9 k9 g9 => ?_)
        have hlo : w6.heap.size ≤ w7.heap.size := hs7
        have HV9 := HV8.below k9 (show V < w7.heap.size from Nat.lt_of_lt_of_le hV6l hlo)
        have HG9 := HG8.below k9 (show G < w7.heap.size from Nat.lt_of_lt_of_le hG6l hlo)
        have HM9 := HM8.below k9 (show M < w7.heap.size from Nat.lt_of_lt_of_le hM6l hlo)
        have B9 := B8.trans (k9.mono (show w.heap.size ≤ w7.heap.size from Nat.le_trans hV6 hlo))
        obtain ⟨a9, c9, rfl, IR9⟩ := HR9.inL
        have HRo9 := HR9.own (fun q => by simp at q)
        have cg9 := HV9.cv 10 (.slice q.og.1 x.og.length q.og.2) rfl
        refine hK.out _ _ ?_ (fun hHeld => ?_)
        · exact ⟨cg9, HG9⟩
        clear hK K
        (try simp only [Act.put, List.getElem_toArray, List.getElem_cons_zero, List.getElem_cons_succ, List.setIfInBounds_toArray, List.set_cons_zero, List.set_cons_succ])
        refine wpAnyH_take (i := 6) (v := ?_) rfl (by kernel_rfl) (by kernel_rfl) (by kernel_rfl) (fun _ _ _ h => h) (Or.inl ⟨by rfl, ?_⟩) (by assumption) ?_
        rotate_left
        · (intro w hSw; (try dsimp only at hSw); go_simp; (try with_reducible rfl))
        (try simp only [Act.put, List.getElem_toArray, List.getElem_cons_zero, List.getElem_cons_succ, List.setIfInBounds_toArray, List.set_cons_zero, List.set_cons_succ])
        refine wpAnyH_ready (rs := [7]) (by kernel_rfl) (by simp) ?_
        refine AllReadyH.cons rfl (fun K hK => ?_) AllReadyH.nil
        simp only [List.getElem_toArray, List.getElem_cons_zero, List.getElem_cons_succ]
        rw [if_pos (by rfl)]
        refine wp_store_op (k := 10) 27 (.slice a9 (x.og ++ [y]).length c9) (ldC (morL x y) ⟨q.de, q.ho, q.sy, q.ca, q.ma, (a9, c9)⟩) (by rfl) rfl rfl HM9 (by kernel_rfl) (show (10 + 1 : Nat) ≤ 11 by decide) (by rfl) rfl (fun w10 HM10 b10 g10 => ?_)
        have HV10 := HV9.grown g10 (by simp; omega)
        have HG10 := HG9.grown g10 (by simp; omega)
        have B10 := B9.trans (b10.mono hM6w)
        have HRo10 := HRo9.other HM9 (by decide) g10
        have cg10 := HV10.cv 10 (.slice q.og.1 x.og.length q.og.2) rfl
        refine hK.out _ _ ?_ (fun hHeld => ?_)
        · exact ⟨cg10, HG10⟩
        clear hK K
        (try simp only [Act.put, List.getElem_toArray, List.getElem_cons_zero, List.getElem_cons_succ, List.setIfInBounds_toArray, List.set_cons_zero, List.set_cons_succ])
        refine wpAnyH_done (by kernel_rfl) ?_ _
        refine NoPanic.normal ?_
        obtain ⟨a', c', e', IR10⟩ := HRo10.inL
        cases e'
        have I10 : LdIn w10 (morL x y) ⟨q.de, q.ho, q.sy, q.ca, q.ma, (a9, c9)⟩ := by
          have i := h0.below B10
          exact ⟨i.1, i.2.1, i.2.2.1, i.2.2.2.1, i.2.2.2.2.1, IR10⟩
        clear HV9 HG9 HM9 B9 IR9 HRo9 HRo10 k9 g9 b10 g10 IR10 HV8 HG8 HM8 B8 HR8 HS8 IS8 hs8 cg8 cg9 cg10 HV6 HG6 HM6 B6 I6 cg6 hb8 HV7 HG7 HM7 B7 cg7
        obtain ⟨q', hq'⟩ : ∃ q' : LdA, q' = ⟨q.de, q.ho, q.sy, q.ca, q.ma, (a9, c9)⟩ := ⟨_, rfl⟩
        rw [← hq'] at I10 HM10
        have hqo : Hid (q'.og = (a9, c9)) := by rw [hq']; rfl
        clear hq'
        go_wp2_with (refine load_blk (k := 0) 29 (ldC (morL x y) q') (by rfl) rfl rfl HM10 (by kernel_rfl) (by kernel_rfl) rfl ?_)
        refine (HW2.out (by have := hog.out; omega) _ _ I10).mono ?_
        rintro e w11 ⟨rfl, k11⟩
        have B11 := B10.trans (k11.mono B10.size)
        go_wp2
        go_ret
        exact ⟨rfl, B11⟩
set_option maxHeartbeats 6400000 in
theorem walk_why (x : Ld) (q : LdA) (y : Og) (hok : okLd x = true) (hom : okLd (morL x y) = false)
    (w : World) (h0 : LdIn w x q) (hr : rgLd x) (hy : rgOg y) (hl : x.de.length ≤ 140737488355328 ∧ x.ho.length ≤ 140737488355328 ∧ x.sy.length ≤ 140737488355328 ∧ x.ca.length ≤ 140737488355328 ∧ x.ma.length ≤ 140737488355328 ∧ x.og.length ≤ 140737488355328) :
    Calls Tryd.prog 3 #[.agg (ldC x q), .agg (ogC y)] w fun e w' => e = .returned (.bool true) ∧ Below w.heap.size w w' := by
  have HLg := Lib.hid (fun W => large_le x q W hl)
  have HCl := Lib.hid (fun (W : World) (h : LdIn W x q) => fun (hg : x.og.length ≤ 90000) => cloneOg_any q.og.1 q.og.2 x.og W h.2.2.2.2.2 hg)
  have HW1 := Lib.hid (fun (_u : Unit) (W : World) (h : LdIn W x q) => by
    have r := ldWrite_any x q W h hr
    unfold ldX ldE at r
    rw [hok] at r
    simp only [if_true] at r
    exact r)
  have HW2 := Lib.hid (fun (hg : x.og.length ≤ 90000) (q' : LdA) (W : World) (h : LdIn W (morL x y) q') => by
    have r := ldWrite_any (morL x y) q' W h (mor_rg hr hy hg)
    unfold ldX ldE at r
    rw [hom] at r
    simp only [Bool.false_eq_true, if_false] at r
    exact r)
  have hwhy := Lib.hid (mor_why hok hom)
  clear hr hy hl hok hom
  go_enter Tryd.func3, Tryd.ntmps3
  go_upto_region 1 with (first
    | (refine box_blk 29 (ldC x q) (by rfl) (by rfl) rfl ?_; intro w1 HV1 B1)
    | (refine box_blk 31 (ogC y) (by rfl) (by rfl) rfl ?_; intro w2 HG2 k2))
  have HV2 := HV1.kept k2
  have B2 := B1.trans (k2.mono B1.size)
  have hVG : w.heap.size < w1.heap.size := HV1.lt
  obtain ⟨V, hV⟩ : ∃ V, V = w.heap.size := ⟨_, rfl⟩
  generalize w1.heap.size = G at *
  rw [← hV] at HV2 hVG
  rw [← hV]
  clear hV HV1 B1 k2
  go_wp2_with fail
  refine (told_any _).mono ?_
  rintro e w3 ⟨rfl, k3⟩
  have HV3 := HV2.kept k3
  have HG3 := HG2.kept k3
  have B3 := B2.trans (k3.mono B2.size)
  clear HV2 HG2 B2 k3
  go_wp2_with (refine load_blk (k := 0) 29 (ldC x q) (by rfl) rfl rfl HV3 (by kernel_rfl) (by kernel_rfl) rfl ?_)
  refine (HLg.out _).mono ?_
  rintro e w4 ⟨⟨b, rfl, hbl⟩, k4⟩
  have HV4 := HV3.kept k4
  have HG4 := HG3.kept k4
  have B4 := B3.trans (k4.mono B3.size)
  have d4 := HG4.cv 2 (.string y.nf) rfl
  clear HV3 HG3 B3 k4
  cases b with
  | true =>
    go_wp2
    go_ret
    exact ⟨rfl, B4⟩
  | false =>
    have hog := Lib.hid (hbl rfl)
    clear hbl
    by_cases h6 : 600 < y.nf.size
    · have q1 : decide ((600 : Int) < (y.nf.size : Int)) = true := decide_eq_true (by omega)
      have q2 : decide (600 < y.nf.size) = true := decide_eq_true h6
      go_wp2
      go_ret
      exact ⟨rfl, B4⟩
    · have q1 : decide ((600 : Int) < (y.nf.size : Int)) = false := decide_eq_false (by omega)
      have q2 : decide (600 < y.nf.size) = false := decide_eq_false h6
      have I4 := h0.below B4
      go_wp2_with (refine load_blk (k := 0) 29 (ldC x q) (by rfl) rfl rfl HV4 (by kernel_rfl) (by kernel_rfl) rfl ?_)
      refine (HW1.out () _ I4).mono ?_
      rintro e w5 ⟨rfl, k5⟩
      have HV5 := HV4.kept k5
      have HG5 := HG4.kept k5
      have B5 := B4.trans (k5.mono B4.size)
      clear HV4 HG4 B4 k5 d4 I4 q1 q2
      go_upto_region 7 with (first
        | (refine load_blk (k := 0) 29 (ldC x q) (by rfl) rfl rfl HV5 (by kernel_rfl) (by kernel_rfl) rfl ?_)
        | (refine alloc_blk 29 (ldC zLd zLdA) (by rfl) rfl Tryd.ldZero ?_)
        | (refine store_blk (k := 0) 29 (.agg (ldC x q)) (ldC x q) (by rfl) rfl rfl rfl (Blk.new w5 _ _) (by kernel_rfl) (Nat.le_of_eq rfl) (by rfl) (st_whole _ _ rfl) ?_; intro w6 HM6 b6 g6))
      (try simp only [Act.put, List.setIfInBounds_toArray, List.set_cons_zero, List.set_cons_succ])
      have k6 : Below w5.heap.size w5 w6 := ((Below.refl _ _).alloc (Nat.le_refl _) _).trans b6
      have HV6 := HV5.kept k6
      have HG6 := HG5.kept k6
      have B6 := B5.trans (k6.mono B5.size)
      have hM6w : w.heap.size ≤ w5.heap.size := B5.size
      have hVM : V < w5.heap.size := HV5.lt
      have hGM : G < w5.heap.size := HG5.lt
      clear HV5 HG5 B5 b6 g6 k6
      generalize w5.heap.size = M at *
      have hV6 := B6.size
      have hV6l := HV6.lt
      have hG6l := HG6.lt
      have hM6l := HM6.lt
      have I6 := h0.below B6
      have cg6 := HV6.cv 10 (.slice q.og.1 x.og.length q.og.2) rfl
      refine wp_region_noPanic ?_
      refine wp_region_held_drew (S := fun w' => w'.cell? ⟨V, 10, none⟩ = some (.slice q.og.1 x.og.length q.og.2) ∧ Blk w' G 31 (ogC y)) (by kernel_rfl) ?_ (fun hHeld => ?_)
      · exact ⟨cg6, HG6⟩
      refine wpAnyH_take (i := 0) (v := ?_) rfl (by kernel_rfl) (by kernel_rfl) (by kernel_rfl) (fun _ _ _ h => h) (Or.inl ⟨by rfl, ?_⟩) (by assumption) ?_
      rotate_left
      · (intro w hSw; (try dsimp only at hSw); go_simp; (try with_reducible rfl))
      (try simp only [Act.put, List.getElem_toArray, List.getElem_cons_zero, List.getElem_cons_succ, List.setIfInBounds_toArray, List.set_cons_zero, List.set_cons_succ])
      refine wpAnyH_take (i := 1) (v := .slice q.og.1 x.og.length q.og.2) rfl (by kernel_rfl) (by kernel_rfl) (by kernel_rfl) (fun _ _ _ h => h) (Or.inl ⟨by rfl, fun w hSw => by have c := hSw.1; (try dsimp only at c); go_simp⟩) (by assumption) ?_
      (try simp only [Act.put, List.getElem_toArray, List.getElem_cons_zero, List.getElem_cons_succ, List.setIfInBounds_toArray, List.set_cons_zero, List.set_cons_succ])
      refine wpAnyH_take (i := 3) (v := .agg (ogC y)) rfl (by kernel_rfl) (by kernel_rfl) (by kernel_rfl) (fun _ _ _ h => h) (Or.inl ⟨by rfl, fun w hSw => exec_load_blk (k := 0) 31 (ogC y) rfl rfl hSw.2 (by kernel_rfl) (by kernel_rfl) rfl⟩) (by assumption) ?_
      (try simp only [Act.put, List.getElem_toArray, List.getElem_cons_zero, List.getElem_cons_succ, List.setIfInBounds_toArray, List.set_cons_zero, List.set_cons_succ])
      refine wpAnyH_ready (rs := [2, 4]) (by kernel_rfl) (by simp) ?_
      refine AllReadyH.cons rfl (fun K hK => ?_) (AllReadyH.cons rfl (fun K hK => ?_) AllReadyH.nil)
      · simp only [List.getElem_toArray, List.getElem_cons_zero, List.getElem_cons_succ]
        go_simp
        with_reducible refine (HCl.out w6.drew (drewL I6) (by have := hog.out; omega)).mono ?_
        rintro e w7 ⟨⟨v7, rfl, HR7⟩, k7⟩
        replace k7 : Below w6.heap.size w6 w7 := ((Below.refl _ w6).drew).trans k7
        have HV7 := HV6.kept k7
        have HG7 := HG6.kept k7
        have HM7 := HM6.kept k7
        have B7 := B6.trans (k7.mono hV6)
        have hs7 := k7.size
        have cg7 := HV7.cv 10 (.slice q.og.1 x.og.length q.og.2) rfl
        refine hK.out _ _ ?_ (fun hHeld => ?_)
        · exact ⟨cg7, HG7⟩
        clear hK K
        (try simp only [Act.put, List.getElem_toArray, List.getElem_cons_zero, List.getElem_cons_succ, List.setIfInBounds_toArray, List.set_cons_zero, List.set_cons_succ])
        refine wpAnyH_ready (rs := [4]) (by kernel_rfl) (by simp) ?_
        refine AllReadyH.cons rfl (fun K hK => ?_) AllReadyH.nil
        simp only [List.getElem_toArray, List.getElem_cons_zero, List.getElem_cons_succ]
        rw [if_pos (by rfl)]
        refine slice_og y rfl rfl (fun w8 HS8 k8 l8 => ?_)
        have HV8 := HV7.kept k8
        have HG8 := HG7.kept k8
        have HM8 := HM7.kept k8
        have B8 := B7.trans (k8.mono (by omega))
        have HR8 := HR7.kept k8
        have hs8 := k8.size
        have cg8 := HV8.cv 10 (.slice q.og.1 x.og.length q.og.2) rfl
        have hb8 : w6.drew.heap.size ≤ w8.heap.size := Nat.le_trans (show w6.heap.size ≤ w7.heap.size from hs7) hs8
        have IS8 := og_one HS8 l8
        refine hK.out _ _ ?_ (fun hHeld => ?_)
        · exact ⟨cg8, HG8⟩
        clear hK K
        (try simp only [Act.put, List.getElem_toArray, List.getElem_cons_zero, List.getElem_cons_succ, List.setIfInBounds_toArray, List.set_cons_zero, List.set_cons_succ])
        refine wpAnyH_ready (rs := [5]) (by kernel_rfl) (by simp) ?_
        refine AllReadyH.cons rfl (fun K hK => ?_) AllReadyH.nil
        simp only [List.getElem_toArray, List.getElem_cons_zero, List.getElem_cons_succ]
        rw [if_pos (by rfl)]
        refine many_og (l := x.og) (l2 := [y]) rfl rfl rfl HR8 IS8 (by have := hog.out; simp; omega) hb8 (fun v9 w9 HR9 e9 k9 g9 => ?_)
        have hlo : w6.heap.size ≤ w6.drew.heap.size := Nat.le_refl _
        have HV9 := HV8.below k9 (show V < w6.drew.heap.size from Nat.lt_of_lt_of_le hV6l hlo)
        have HG9 := HG8.below k9 (show G < w6.drew.heap.size from Nat.lt_of_lt_of_le hG6l hlo)
        have HM9 := HM8.below k9 (show M < w6.drew.heap.size from Nat.lt_of_lt_of_le hM6l hlo)
        have B9 := B8.trans (k9.mono (show w.heap.size ≤ w6.drew.heap.size from Nat.le_trans hV6 hlo))
        obtain ⟨a9, c9, rfl, IR9⟩ := HR9.inL
        have HRo9 := HR9.own (fun q => by simp at q)
        have cg9 := HV9.cv 10 (.slice q.og.1 x.og.length q.og.2) rfl
        refine hK.out _ _ ?_ (fun hHeld => ?_)
        · exact ⟨cg9, HG9⟩
        clear hK K
        (try simp only [Act.put, List.getElem_toArray, List.getElem_cons_zero, List.getElem_cons_succ, List.setIfInBounds_toArray, List.set_cons_zero, List.set_cons_succ])
        refine wpAnyH_take (i := 6) (v := ?_) rfl (by kernel_rfl) (by kernel_rfl) (by kernel_rfl) (fun _ _ _ h => h) (Or.inl ⟨by rfl, ?_⟩) (by assumption) ?_
        rotate_left
        · (intro w hSw; (try dsimp only at hSw); go_simp; (try with_reducible rfl))
        (try simp only [Act.put, List.getElem_toArray, List.getElem_cons_zero, List.getElem_cons_succ, List.setIfInBounds_toArray, List.set_cons_zero, List.set_cons_succ])
        refine wpAnyH_ready (rs := [7]) (by kernel_rfl) (by simp) ?_
        refine AllReadyH.cons rfl (fun K hK => ?_) AllReadyH.nil
        simp only [List.getElem_toArray, List.getElem_cons_zero, List.getElem_cons_succ]
        rw [if_pos (by rfl)]
        refine wp_store_op (k := 10) 27 (.slice a9 (x.og ++ [y]).length c9) (ldC (morL x y) ⟨q.de, q.ho, q.sy, q.ca, q.ma, (a9, c9)⟩) (by rfl) rfl rfl HM9 (by kernel_rfl) (show (10 + 1 : Nat) ≤ 11 by decide) (by rfl) rfl (fun w10 HM10 b10 g10 => ?_)
        have HV10 := HV9.grown g10 (by simp; omega)
        have HG10 := HG9.grown g10 (by simp; omega)
        have B10 := B9.trans (b10.mono hM6w)
        have HRo10 := HRo9.other HM9 (by decide) g10
        have cg10 := HV10.cv 10 (.slice q.og.1 x.og.length q.og.2) rfl
        refine hK.out _ _ ?_ (fun hHeld => ?_)
        · exact ⟨cg10, HG10⟩
        clear hK K
        (try simp only [Act.put, List.getElem_toArray, List.getElem_cons_zero, List.getElem_cons_succ, List.setIfInBounds_toArray, List.set_cons_zero, List.set_cons_succ])
        refine wpAnyH_done (by kernel_rfl) ?_ _
        refine NoPanic.normal ?_
        obtain ⟨a', c', e', IR10⟩ := HRo10.inL
        cases e'
        have I10 : LdIn w10 (morL x y) ⟨q.de, q.ho, q.sy, q.ca, q.ma, (a9, c9)⟩ := by
          have i := h0.below B10
          exact ⟨i.1, i.2.1, i.2.2.1, i.2.2.2.1, i.2.2.2.2.1, IR10⟩
        clear HV9 HG9 HM9 B9 IR9 HRo9 HRo10 k9 g9 b10 g10 IR10 HV8 HG8 HM8 B8 HR8 HS8 IS8 hs8 cg8 cg9 cg10 HV6 HG6 HM6 B6 I6 cg6 hb8 HV7 HG7 HM7 B7 cg7
        obtain ⟨q', hq'⟩ : ∃ q' : LdA, q' = ⟨q.de, q.ho, q.sy, q.ca, q.ma, (a9, c9)⟩ := ⟨_, rfl⟩
        rw [← hq'] at I10 HM10
        have hqo : Hid (q'.og = (a9, c9)) := by rw [hq']; rfl
        clear hq'
        go_wp2_with (refine load_blk (k := 0) 29 (ldC (morL x y) q') (by rfl) rfl rfl HM10 (by kernel_rfl) (by kernel_rfl) rfl ?_)
        refine (HW2.out (by have := hog.out; omega) _ _ I10).mono ?_
        rintro e w11 ⟨rfl, k11⟩
        have B11 := B10.trans (k11.mono B10.size)
        go_upto_region 12 with (fail)
        have HG11 := HG10.kept k11
        have HM11 := HM10.kept k11
        have d0 := HG11.cv 0 (.int .i64 y.ou) rfl
        have d1 := HG11.cv 1 (.int .i64 y.su) rfl
        have d2 := HG11.cv 2 (.string y.nf) rfl
        have d3 := HM11.cv 10 (.slice q'.og.1 (morL x y).og.length q'.og.2) rfl
        have hwy := hwhy.out
        have hmo : (morL x y).og.length = x.og.length + 1 := by simp [morL]
        rw [← hmo] at hwy
        clear hmo HG10 HM10 HV10 I10 HG11 HM11 B10 k11
        generalize (morL x y).og.length = N at *
        generalize y.ou = ou at *
        generalize y.su = su at *
        generalize y.nf = nf at *
        by_cases c0 : 20 < N
        · have f0_0 : decide ((20 : Int) < (N : Int)) = true := decide_eq_true (by omega)
          have f0_1 : decide (20 < N) = true := decide_eq_true (by omega)
          clear hwy
          go_wp2
          go_ret
          exact ⟨rfl, B11⟩
        · have f0_0 : decide ((20 : Int) < (N : Int)) = false := decide_eq_false (by omega)
          have f0_1 : decide (20 < N) = false := decide_eq_false (by omega)
          by_cases c1 : ou < 0
          · have f1_0 : decide (ou < (0 : Int)) = true := decide_eq_true (by omega)
            clear hwy
            go_wp2
            go_ret
            exact ⟨rfl, B11⟩
          · have f1_0 : decide (ou < (0 : Int)) = false := decide_eq_false (by omega)
            by_cases c2 : 16777216 ≤ ou
            · have f2_0 : decide ((16777216 : Int) ≤ ou) = true := decide_eq_true (by omega)
              clear hwy
              go_wp2
              go_ret
              exact ⟨rfl, B11⟩
            · have f2_0 : decide ((16777216 : Int) ≤ ou) = false := decide_eq_false (by omega)
              by_cases c3 : su < 0
              · have f3_0 : decide (su < (0 : Int)) = true := decide_eq_true (by omega)
                clear hwy
                go_wp2
                go_ret
                exact ⟨rfl, B11⟩
              · have f3_0 : decide (su < (0 : Int)) = false := decide_eq_false (by omega)
                by_cases c4 : 255 < su
                · have f4_0 : decide ((255 : Int) < su) = true := decide_eq_true (by omega)
                  clear hwy
                  go_wp2
                  go_ret
                  exact ⟨rfl, B11⟩
                · have f4_0 : decide ((255 : Int) < su) = false := decide_eq_false (by omega)
                  have c5 : 507 < nf.size := by omega
                  have f5_0 : decide ((507 : Int) < (nf.size : Int)) = true := decide_eq_true (by omega)
                  have f5_1 : decide (507 < nf.size) = true := decide_eq_true (by omega)
                  clear hwy c5
                  go_wp2
                  go_ret
                  exact ⟨rfl, B11⟩
      · simp only [List.getElem_toArray, List.getElem_cons_zero, List.getElem_cons_succ]
        rw [if_pos (by rfl)]
        refine slice_og y rfl rfl (fun w7 HS7 k7 l7 => ?_)
        replace k7 : Below w6.heap.size w6 w7 := ((Below.refl _ w6).drew).trans k7
        have HV7 := HV6.kept k7
        have HG7 := HG6.kept k7
        have HM7 := HM6.kept k7
        have B7 := B6.trans (k7.mono hV6)
        have hs7 := k7.size
        have cg7 := HV7.cv 10 (.slice q.og.1 x.og.length q.og.2) rfl
        have I7 := I6.below k7
        refine hK.out _ _ ?_ (fun hHeld => ?_)
        · exact ⟨cg7, HG7⟩
        clear hK K
        (try simp only [Act.put, List.getElem_toArray, List.getElem_cons_zero, List.getElem_cons_succ, List.setIfInBounds_toArray, List.set_cons_zero, List.set_cons_succ])
        refine wpAnyH_ready (rs := [2]) (by kernel_rfl) (by simp) ?_
        refine AllReadyH.cons rfl (fun K hK => ?_) AllReadyH.nil
        simp only [List.getElem_toArray, List.getElem_cons_zero, List.getElem_cons_succ]
        go_simp
        with_reducible refine (HCl.out w7 I7 (by have := hog.out; omega)).mono ?_
        rintro e w8 ⟨⟨v7, rfl, HR8⟩, k8⟩
        have HV8 := HV7.kept k8
        have HG8 := HG7.kept k8
        have HM8 := HM7.kept k8
        have B8 := B7.trans (k8.mono (by omega))
        have HS8 := HS7.kept k8
        have hs8 := k8.size
        have cg8 := HV8.cv 10 (.slice q.og.1 x.og.length q.og.2) rfl
        have hb8 : w7.heap.size ≤ w8.heap.size := hs8
        have IS8 := og_one HS8 (Nat.lt_of_lt_of_le l7 hs8)
        refine hK.out _ _ ?_ (fun hHeld => ?_)
        · exact ⟨cg8, HG8⟩
        clear hK K
        (try simp only [Act.put, List.getElem_toArray, List.getElem_cons_zero, List.getElem_cons_succ, List.setIfInBounds_toArray, List.set_cons_zero, List.set_cons_succ])
        refine wpAnyH_ready (rs := [5]) (by kernel_rfl) (by simp) ?_
        refine AllReadyH.cons rfl (fun K hK => ?_) AllReadyH.nil
        simp only [List.getElem_toArray, List.getElem_cons_zero, List.getElem_cons_succ]
        rw [if_pos (by rfl)]
        refine many_og (l := x.og) (l2 := [y]) rfl rfl rfl HR8 IS8 (by have := hog.out; simp; omega) hb8 (fun v9 w9 HR9 e9 k9 g9 => ?_)
        have hlo : w6.heap.size ≤ w7.heap.size := hs7
        have HV9 := HV8.below k9 (show V < w7.heap.size from Nat.lt_of_lt_of_le hV6l hlo)
        have HG9 := HG8.below k9 (show G < w7.heap.size from Nat.lt_of_lt_of_le hG6l hlo)
        have HM9 := HM8.below k9 (show M < w7.heap.size from Nat.lt_of_lt_of_le hM6l hlo)
        have B9 := B8.trans (k9.mono (show w.heap.size ≤ w7.heap.size from Nat.le_trans hV6 hlo))
        obtain ⟨a9, c9, rfl, IR9⟩ := HR9.inL
        have HRo9 := HR9.own (fun q => by simp at q)
        have cg9 := HV9.cv 10 (.slice q.og.1 x.og.length q.og.2) rfl
        refine hK.out _ _ ?_ (fun hHeld => ?_)
        · exact ⟨cg9, HG9⟩
        clear hK K
        (try simp only [Act.put, List.getElem_toArray, List.getElem_cons_zero, List.getElem_cons_succ, List.setIfInBounds_toArray, List.set_cons_zero, List.set_cons_succ])
        refine wpAnyH_take (i := 6) (v := ?_) rfl (by kernel_rfl) (by kernel_rfl) (by kernel_rfl) (fun _ _ _ h => h) (Or.inl ⟨by rfl, ?_⟩) (by assumption) ?_
        rotate_left
        · (intro w hSw; (try dsimp only at hSw); go_simp; (try with_reducible rfl))
        (try simp only [Act.put, List.getElem_toArray, List.getElem_cons_zero, List.getElem_cons_succ, List.setIfInBounds_toArray, List.set_cons_zero, List.set_cons_succ])
        refine wpAnyH_ready (rs := [7]) (by kernel_rfl) (by simp) ?_
        refine AllReadyH.cons rfl (fun K hK => ?_) AllReadyH.nil
        simp only [List.getElem_toArray, List.getElem_cons_zero, List.getElem_cons_succ]
        rw [if_pos (by rfl)]
        refine wp_store_op (k := 10) 27 (.slice a9 (x.og ++ [y]).length c9) (ldC (morL x y) ⟨q.de, q.ho, q.sy, q.ca, q.ma, (a9, c9)⟩) (by rfl) rfl rfl HM9 (by kernel_rfl) (show (10 + 1 : Nat) ≤ 11 by decide) (by rfl) rfl (fun w10 HM10 b10 g10 => ?_)
        have HV10 := HV9.grown g10 (by simp; omega)
        have HG10 := HG9.grown g10 (by simp; omega)
        have B10 := B9.trans (b10.mono hM6w)
        have HRo10 := HRo9.other HM9 (by decide) g10
        have cg10 := HV10.cv 10 (.slice q.og.1 x.og.length q.og.2) rfl
        refine hK.out _ _ ?_ (fun hHeld => ?_)
        · exact ⟨cg10, HG10⟩
        clear hK K
        (try simp only [Act.put, List.getElem_toArray, List.getElem_cons_zero, List.getElem_cons_succ, List.setIfInBounds_toArray, List.set_cons_zero, List.set_cons_succ])
        refine wpAnyH_done (by kernel_rfl) ?_ _
        refine NoPanic.normal ?_
        obtain ⟨a', c', e', IR10⟩ := HRo10.inL
        cases e'
        have I10 : LdIn w10 (morL x y) ⟨q.de, q.ho, q.sy, q.ca, q.ma, (a9, c9)⟩ := by
          have i := h0.below B10
          exact ⟨i.1, i.2.1, i.2.2.1, i.2.2.2.1, i.2.2.2.2.1, IR10⟩
        clear HV9 HG9 HM9 B9 IR9 HRo9 HRo10 k9 g9 b10 g10 IR10 HV8 HG8 HM8 B8 HR8 HS8 IS8 hs8 cg8 cg9 cg10 HV6 HG6 HM6 B6 I6 cg6 hb8 HV7 HG7 HM7 B7 cg7
        obtain ⟨q', hq'⟩ : ∃ q' : LdA, q' = ⟨q.de, q.ho, q.sy, q.ca, q.ma, (a9, c9)⟩ := ⟨_, rfl⟩
        rw [← hq'] at I10 HM10
        have hqo : Hid (q'.og = (a9, c9)) := by rw [hq']; rfl
        clear hq'
        go_wp2_with (refine load_blk (k := 0) 29 (ldC (morL x y) q') (by rfl) rfl rfl HM10 (by kernel_rfl) (by kernel_rfl) rfl ?_)
        refine (HW2.out (by have := hog.out; omega) _ _ I10).mono ?_
        rintro e w11 ⟨rfl, k11⟩
        have B11 := B10.trans (k11.mono B10.size)
        go_upto_region 12 with (fail)
        have HG11 := HG10.kept k11
        have HM11 := HM10.kept k11
        have d0 := HG11.cv 0 (.int .i64 y.ou) rfl
        have d1 := HG11.cv 1 (.int .i64 y.su) rfl
        have d2 := HG11.cv 2 (.string y.nf) rfl
        have d3 := HM11.cv 10 (.slice q'.og.1 (morL x y).og.length q'.og.2) rfl
        have hwy := hwhy.out
        have hmo : (morL x y).og.length = x.og.length + 1 := by simp [morL]
        rw [← hmo] at hwy
        clear hmo HG10 HM10 HV10 I10 HG11 HM11 B10 k11
        generalize (morL x y).og.length = N at *
        generalize y.ou = ou at *
        generalize y.su = su at *
        generalize y.nf = nf at *
        by_cases c0 : 20 < N
        · have f0_0 : decide ((20 : Int) < (N : Int)) = true := decide_eq_true (by omega)
          have f0_1 : decide (20 < N) = true := decide_eq_true (by omega)
          clear hwy
          go_wp2
          go_ret
          exact ⟨rfl, B11⟩
        · have f0_0 : decide ((20 : Int) < (N : Int)) = false := decide_eq_false (by omega)
          have f0_1 : decide (20 < N) = false := decide_eq_false (by omega)
          by_cases c1 : ou < 0
          · have f1_0 : decide (ou < (0 : Int)) = true := decide_eq_true (by omega)
            clear hwy
            go_wp2
            go_ret
            exact ⟨rfl, B11⟩
          · have f1_0 : decide (ou < (0 : Int)) = false := decide_eq_false (by omega)
            by_cases c2 : 16777216 ≤ ou
            · have f2_0 : decide ((16777216 : Int) ≤ ou) = true := decide_eq_true (by omega)
              clear hwy
              go_wp2
              go_ret
              exact ⟨rfl, B11⟩
            · have f2_0 : decide ((16777216 : Int) ≤ ou) = false := decide_eq_false (by omega)
              by_cases c3 : su < 0
              · have f3_0 : decide (su < (0 : Int)) = true := decide_eq_true (by omega)
                clear hwy
                go_wp2
                go_ret
                exact ⟨rfl, B11⟩
              · have f3_0 : decide (su < (0 : Int)) = false := decide_eq_false (by omega)
                by_cases c4 : 255 < su
                · have f4_0 : decide ((255 : Int) < su) = true := decide_eq_true (by omega)
                  clear hwy
                  go_wp2
                  go_ret
                  exact ⟨rfl, B11⟩
                · have f4_0 : decide ((255 : Int) < su) = false := decide_eq_false (by omega)
                  have c5 : 507 < nf.size := by omega
                  have f5_0 : decide ((507 : Int) < (nf.size : Int)) = true := decide_eq_true (by omega)
                  have f5_1 : decide (507 < nf.size) = true := decide_eq_true (by omega)
                  clear hwy c5
                  go_wp2
                  go_ret
                  exact ⟨rfl, B11⟩
set_option maxHeartbeats 6400000 in
theorem walk_ok (x : Ld) (q : LdA) (y : Og) (hok : okLd x = true) (hom : okLd (morL x y) = true)
    (w : World) (h0 : LdIn w x q) (hr : rgLd x) (hy : rgOg y) (hl : x.de.length ≤ 140737488355328 ∧ x.ho.length ≤ 140737488355328 ∧ x.sy.length ≤ 140737488355328 ∧ x.ca.length ≤ 140737488355328 ∧ x.ma.length ≤ 140737488355328 ∧ x.og.length ≤ 140737488355328) :
    Calls Tryd.prog 3 #[.agg (ldC x q), .agg (ogC y)] w fun e w' => e = .returned (.bool true) ∧ Below w.heap.size w w' := by
  have HLg := Lib.hid (fun W => large_le x q W hl)
  have HCl := Lib.hid (fun (W : World) (h : LdIn W x q) => fun (hg : x.og.length ≤ 90000) => cloneOg_any q.og.1 q.og.2 x.og W h.2.2.2.2.2 hg)
  have HW1 := Lib.hid (fun (_u : Unit) (W : World) (h : LdIn W x q) => by
    have r := ldWrite_any x q W h hr
    unfold ldX ldE at r
    rw [hok] at r
    simp only [if_true] at r
    exact r)
  have HW2 := Lib.hid (fun (hg : x.og.length ≤ 90000) (q' : LdA) (W : World) (h : LdIn W (morL x y) q') => by
    have r := ldWrite_any (morL x y) q' W h (mor_rg hr hy hg)
    unfold ldX ldE at r
    rw [hom] at r
    simp only [if_true] at r
    exact r)
  obtain ⟨m1, m2, m3, m4⟩ := more_facts x y
  have hox := ldW_le x hok
  have hom2 := ldW_le (morL x y) hom
  have hfz := m1
  have hz1 : (⟨(ldW x).toArray⟩ : ByteArray).size = (ldW x).length := bysz _
  have hz2 : (⟨(ldW (morL x y)).toArray⟩ : ByteArray).size = (ldW (morL x y)).length := bysz _
  obtain ⟨k, hk⟩ : ∃ k, k = (ldW x).length - 2 := ⟨_, rfl⟩
  rw [← hk] at m2
  have hx1 : (⟨(ldW x).toArray⟩ : ByteArray).extract 0 k = ⟨((ldW x).take k).toArray⟩ := by
    exact cut0 _ k
  have hx2 : (⟨(ldW (morL x y)).toArray⟩ : ByteArray).extract 0 k = ⟨((ldW x).take k).toArray⟩ := by
    rw [← m2]
    exact cut0 _ k
  have HHS := Lib.hid (fun (W : World) => by
    have r := Tryd.strings_HasSuffix ⟨(ldW (morL x y)).toArray⟩ ⟨(y.nf.data.toList ++ [0, 0]).toArray⟩ W (by rw [hz2]; omega)
    have e : Lib.hasSuffix (⟨(ldW (morL x y)).toArray⟩ : ByteArray).data.toList (⟨(y.nf.data.toList ++ [0, 0]).toArray⟩ : ByteArray).data.toList = true := m3
    rw [e] at r
    exact r)
  have hadd : ∀ W, (Op.stringOp .add y.nf ⟨#[0, 0]⟩).run Tryd.prog W = .ok (.string ⟨(y.nf.data.toList ++ [0, 0]).toArray⟩) W := fun W => by
    have q := run_string_add_lists (P := Tryd.prog) W y.nf.data.toList [0, 0] (by simp; omega) (by decide)
    rw [byT] at q
    exact q
  have a1 : ((ldW x).length : Int) - 2 = (k : Int) := by omega
  have a2 : (k : Int) ≤ ((ldW x).length : Int) := by omega
  have a3 : (k : Int) ≤ ((ldW (morL x y)).length : Int) := by omega
  have a4 : (0 : Int) ≤ (k : Int) := by omega
  have a5 : decide ((2 : Int) < ((ldW x).length : Int)) = true := decide_eq_true (by omega)
  have a6 : decide (2 < (ldW x).length) = true := decide_eq_true m4
  obtain ⟨u, hu⟩ : ∃ u, u = (ldW x).length + 6 := ⟨_, rfl⟩
  have a7 : ((ldW x).length : Int) + 6 = (u : Int) := by omega
  have a8 : (u : Int) + (y.nf.size : Int) = ((ldW (morL x y)).length : Int) := by omega
  have a9 : k ≤ (ldW x).length := by omega
  have a10 : k ≤ (ldW (morL x y)).length := by omega
  have a11 : u ≤ 40000 := by omega
  rw [← hz1] at a1 a2 a5 a6 a7 a9
  rw [← hz2] at a3 a8 a10
  have b1 : (⟨(ldW x).toArray⟩ : ByteArray).size ≤ 40000 := by omega
  have b2 : (⟨(ldW (morL x y)).toArray⟩ : ByteArray).size ≤ 40000 := by omega
  clear m1 m2 m3 m4 hox hom2 hz1 hz2 hk hu hfz
  generalize (⟨((ldW x).take k).toArray⟩ : ByteArray) = zz at *
  generalize (⟨(y.nf.data.toList ++ [0, 0]).toArray⟩ : ByteArray) = gg at *
  generalize (⟨(ldW (morL x y)).toArray⟩ : ByteArray) = tt at *
  generalize (⟨(ldW x).toArray⟩ : ByteArray) = ss at *
  have w1 : IntKind.i64.wrap (tt.size : Int) = (tt.size : Int) := by rw [IntKind.wrap_i64] <;> omega
  have w2 : IntKind.i64.wrap (u : Int) = (u : Int) := by rw [IntKind.wrap_i64] <;> omega
  have w3 : IntKind.i64.wrap (k : Int) = (k : Int) := by rw [IntKind.wrap_i64] <;> omega
  have w7 : ((tt.size : Int) == (tt.size : Int)) = true := by simp
  have hzz : (zz.toList == zz.toList) = true := beq_iff_eq.2 rfl
  clear hr hy hl hok hom
  go_enter Tryd.func3, Tryd.ntmps3
  go_upto_region 1 with (first
    | (refine box_blk 29 (ldC x q) (by rfl) (by rfl) rfl ?_; intro w1 HV1 B1)
    | (refine box_blk 31 (ogC y) (by rfl) (by rfl) rfl ?_; intro w2 HG2 k2))
  have HV2 := HV1.kept k2
  have B2 := B1.trans (k2.mono B1.size)
  have hVG : w.heap.size < w1.heap.size := HV1.lt
  obtain ⟨V, hV⟩ : ∃ V, V = w.heap.size := ⟨_, rfl⟩
  generalize w1.heap.size = G at *
  rw [← hV] at HV2 hVG
  rw [← hV]
  clear hV HV1 B1 k2
  go_wp2_with fail
  refine (told_any _).mono ?_
  rintro e w3 ⟨rfl, k3⟩
  have HV3 := HV2.kept k3
  have HG3 := HG2.kept k3
  have B3 := B2.trans (k3.mono B2.size)
  clear HV2 HG2 B2 k3
  go_wp2_with (refine load_blk (k := 0) 29 (ldC x q) (by rfl) rfl rfl HV3 (by kernel_rfl) (by kernel_rfl) rfl ?_)
  refine (HLg.out _).mono ?_
  rintro e w4 ⟨⟨b, rfl, hbl⟩, k4⟩
  have HV4 := HV3.kept k4
  have HG4 := HG3.kept k4
  have B4 := B3.trans (k4.mono B3.size)
  have d4 := HG4.cv 2 (.string y.nf) rfl
  clear HV3 HG3 B3 k4
  cases b with
  | true =>
    go_wp2
    go_ret
    exact ⟨rfl, B4⟩
  | false =>
    have hog := Lib.hid (hbl rfl)
    clear hbl
    by_cases h6 : 600 < y.nf.size
    · have q1 : decide ((600 : Int) < (y.nf.size : Int)) = true := decide_eq_true (by omega)
      have q2 : decide (600 < y.nf.size) = true := decide_eq_true h6
      go_wp2
      go_ret
      exact ⟨rfl, B4⟩
    · have q1 : decide ((600 : Int) < (y.nf.size : Int)) = false := decide_eq_false (by omega)
      have q2 : decide (600 < y.nf.size) = false := decide_eq_false h6
      have I4 := h0.below B4
      go_wp2_with (refine load_blk (k := 0) 29 (ldC x q) (by rfl) rfl rfl HV4 (by kernel_rfl) (by kernel_rfl) rfl ?_)
      refine (HW1.out () _ I4).mono ?_
      rintro e w5 ⟨rfl, k5⟩
      have HV5 := HV4.kept k5
      have HG5 := HG4.kept k5
      have B5 := B4.trans (k5.mono B4.size)
      clear HV4 HG4 B4 k5 d4 I4 q1 q2
      go_upto_region 7 with (first
        | (refine load_blk (k := 0) 29 (ldC x q) (by rfl) rfl rfl HV5 (by kernel_rfl) (by kernel_rfl) rfl ?_)
        | (refine alloc_blk 29 (ldC zLd zLdA) (by rfl) rfl Tryd.ldZero ?_)
        | (refine store_blk (k := 0) 29 (.agg (ldC x q)) (ldC x q) (by rfl) rfl rfl rfl (Blk.new w5 _ _) (by kernel_rfl) (Nat.le_of_eq rfl) (by rfl) (st_whole _ _ rfl) ?_; intro w6 HM6 b6 g6))
      (try simp only [Act.put, List.setIfInBounds_toArray, List.set_cons_zero, List.set_cons_succ])
      have k6 : Below w5.heap.size w5 w6 := ((Below.refl _ _).alloc (Nat.le_refl _) _).trans b6
      have HV6 := HV5.kept k6
      have HG6 := HG5.kept k6
      have B6 := B5.trans (k6.mono B5.size)
      have hM6w : w.heap.size ≤ w5.heap.size := B5.size
      have hVM : V < w5.heap.size := HV5.lt
      have hGM : G < w5.heap.size := HG5.lt
      clear HV5 HG5 B5 b6 g6 k6
      generalize w5.heap.size = M at *
      have hV6 := B6.size
      have hV6l := HV6.lt
      have hG6l := HG6.lt
      have hM6l := HM6.lt
      have I6 := h0.below B6
      have cg6 := HV6.cv 10 (.slice q.og.1 x.og.length q.og.2) rfl
      refine wp_region_noPanic ?_
      refine wp_region_held_drew (S := fun w' => w'.cell? ⟨V, 10, none⟩ = some (.slice q.og.1 x.og.length q.og.2) ∧ Blk w' G 31 (ogC y)) (by kernel_rfl) ?_ (fun hHeld => ?_)
      · exact ⟨cg6, HG6⟩
      refine wpAnyH_take (i := 0) (v := ?_) rfl (by kernel_rfl) (by kernel_rfl) (by kernel_rfl) (fun _ _ _ h => h) (Or.inl ⟨by rfl, ?_⟩) (by assumption) ?_
      rotate_left
      · (intro w hSw; (try dsimp only at hSw); go_simp; (try with_reducible rfl))
      (try simp only [Act.put, List.getElem_toArray, List.getElem_cons_zero, List.getElem_cons_succ, List.setIfInBounds_toArray, List.set_cons_zero, List.set_cons_succ])
      refine wpAnyH_take (i := 1) (v := .slice q.og.1 x.og.length q.og.2) rfl (by kernel_rfl) (by kernel_rfl) (by kernel_rfl) (fun _ _ _ h => h) (Or.inl ⟨by rfl, fun w hSw => by have c := hSw.1; (try dsimp only at c); go_simp⟩) (by assumption) ?_
      (try simp only [Act.put, List.getElem_toArray, List.getElem_cons_zero, List.getElem_cons_succ, List.setIfInBounds_toArray, List.set_cons_zero, List.set_cons_succ])
      refine wpAnyH_take (i := 3) (v := .agg (ogC y)) rfl (by kernel_rfl) (by kernel_rfl) (by kernel_rfl) (fun _ _ _ h => h) (Or.inl ⟨by rfl, fun w hSw => exec_load_blk (k := 0) 31 (ogC y) rfl rfl hSw.2 (by kernel_rfl) (by kernel_rfl) rfl⟩) (by assumption) ?_
      (try simp only [Act.put, List.getElem_toArray, List.getElem_cons_zero, List.getElem_cons_succ, List.setIfInBounds_toArray, List.set_cons_zero, List.set_cons_succ])
      refine wpAnyH_ready (rs := [2, 4]) (by kernel_rfl) (by simp) ?_
      refine AllReadyH.cons rfl (fun K hK => ?_) (AllReadyH.cons rfl (fun K hK => ?_) AllReadyH.nil)
      · simp only [List.getElem_toArray, List.getElem_cons_zero, List.getElem_cons_succ]
        go_simp
        with_reducible refine (HCl.out w6.drew (drewL I6) (by have := hog.out; omega)).mono ?_
        rintro e w7 ⟨⟨v7, rfl, HR7⟩, k7⟩
        replace k7 : Below w6.heap.size w6 w7 := ((Below.refl _ w6).drew).trans k7
        have HV7 := HV6.kept k7
        have HG7 := HG6.kept k7
        have HM7 := HM6.kept k7
        have B7 := B6.trans (k7.mono hV6)
        have hs7 := k7.size
        have cg7 := HV7.cv 10 (.slice q.og.1 x.og.length q.og.2) rfl
        refine hK.out _ _ ?_ (fun hHeld => ?_)
        · exact ⟨cg7, HG7⟩
        clear hK K
        (try simp only [Act.put, List.getElem_toArray, List.getElem_cons_zero, List.getElem_cons_succ, List.setIfInBounds_toArray, List.set_cons_zero, List.set_cons_succ])
        refine wpAnyH_ready (rs := [4]) (by kernel_rfl) (by simp) ?_
        refine AllReadyH.cons rfl (fun K hK => ?_) AllReadyH.nil
        simp only [List.getElem_toArray, List.getElem_cons_zero, List.getElem_cons_succ]
        rw [if_pos (by rfl)]
        refine slice_og y rfl rfl (fun w8 HS8 k8 l8 => ?_)
        have HV8 := HV7.kept k8
        have HG8 := HG7.kept k8
        have HM8 := HM7.kept k8
        have B8 := B7.trans (k8.mono (by omega))
        have HR8 := HR7.kept k8
        have hs8 := k8.size
        have cg8 := HV8.cv 10 (.slice q.og.1 x.og.length q.og.2) rfl
        have hb8 : w6.drew.heap.size ≤ w8.heap.size := Nat.le_trans (show w6.heap.size ≤ w7.heap.size from hs7) hs8
        have IS8 := og_one HS8 l8
        refine hK.out _ _ ?_ (fun hHeld => ?_)
        · exact ⟨cg8, HG8⟩
        clear hK K
        (try simp only [Act.put, List.getElem_toArray, List.getElem_cons_zero, List.getElem_cons_succ, List.setIfInBounds_toArray, List.set_cons_zero, List.set_cons_succ])
        refine wpAnyH_ready (rs := [5]) (by kernel_rfl) (by simp) ?_
        refine AllReadyH.cons rfl (fun K hK => ?_) AllReadyH.nil
        simp only [List.getElem_toArray, List.getElem_cons_zero, List.getElem_cons_succ]
        rw [if_pos (by rfl)]
        refine many_og (l := x.og) (l2 := [y]) rfl rfl rfl HR8 IS8 (by have := hog.out; simp; omega) hb8 (fun v9 w9 HR9 e9 k9 g9 => ?_)
        have hlo : w6.heap.size ≤ w6.drew.heap.size := Nat.le_refl _
        have HV9 := HV8.below k9 (show V < w6.drew.heap.size from Nat.lt_of_lt_of_le hV6l hlo)
        have HG9 := HG8.below k9 (show G < w6.drew.heap.size from Nat.lt_of_lt_of_le hG6l hlo)
        have HM9 := HM8.below k9 (show M < w6.drew.heap.size from Nat.lt_of_lt_of_le hM6l hlo)
        have B9 := B8.trans (k9.mono (show w.heap.size ≤ w6.drew.heap.size from Nat.le_trans hV6 hlo))
        obtain ⟨a9, c9, rfl, IR9⟩ := HR9.inL
        have HRo9 := HR9.own (fun q => by simp at q)
        have cg9 := HV9.cv 10 (.slice q.og.1 x.og.length q.og.2) rfl
        refine hK.out _ _ ?_ (fun hHeld => ?_)
        · exact ⟨cg9, HG9⟩
        clear hK K
        (try simp only [Act.put, List.getElem_toArray, List.getElem_cons_zero, List.getElem_cons_succ, List.setIfInBounds_toArray, List.set_cons_zero, List.set_cons_succ])
        refine wpAnyH_take (i := 6) (v := ?_) rfl (by kernel_rfl) (by kernel_rfl) (by kernel_rfl) (fun _ _ _ h => h) (Or.inl ⟨by rfl, ?_⟩) (by assumption) ?_
        rotate_left
        · (intro w hSw; (try dsimp only at hSw); go_simp; (try with_reducible rfl))
        (try simp only [Act.put, List.getElem_toArray, List.getElem_cons_zero, List.getElem_cons_succ, List.setIfInBounds_toArray, List.set_cons_zero, List.set_cons_succ])
        refine wpAnyH_ready (rs := [7]) (by kernel_rfl) (by simp) ?_
        refine AllReadyH.cons rfl (fun K hK => ?_) AllReadyH.nil
        simp only [List.getElem_toArray, List.getElem_cons_zero, List.getElem_cons_succ]
        rw [if_pos (by rfl)]
        refine wp_store_op (k := 10) 27 (.slice a9 (x.og ++ [y]).length c9) (ldC (morL x y) ⟨q.de, q.ho, q.sy, q.ca, q.ma, (a9, c9)⟩) (by rfl) rfl rfl HM9 (by kernel_rfl) (show (10 + 1 : Nat) ≤ 11 by decide) (by rfl) rfl (fun w10 HM10 b10 g10 => ?_)
        have HV10 := HV9.grown g10 (by simp; omega)
        have HG10 := HG9.grown g10 (by simp; omega)
        have B10 := B9.trans (b10.mono hM6w)
        have HRo10 := HRo9.other HM9 (by decide) g10
        have cg10 := HV10.cv 10 (.slice q.og.1 x.og.length q.og.2) rfl
        refine hK.out _ _ ?_ (fun hHeld => ?_)
        · exact ⟨cg10, HG10⟩
        clear hK K
        (try simp only [Act.put, List.getElem_toArray, List.getElem_cons_zero, List.getElem_cons_succ, List.setIfInBounds_toArray, List.set_cons_zero, List.set_cons_succ])
        refine wpAnyH_done (by kernel_rfl) ?_ _
        refine NoPanic.normal ?_
        obtain ⟨a', c', e', IR10⟩ := HRo10.inL
        cases e'
        have I10 : LdIn w10 (morL x y) ⟨q.de, q.ho, q.sy, q.ca, q.ma, (a9, c9)⟩ := by
          have i := h0.below B10
          exact ⟨i.1, i.2.1, i.2.2.1, i.2.2.2.1, i.2.2.2.2.1, IR10⟩
        clear HV9 HG9 HM9 B9 IR9 HRo9 HRo10 k9 g9 b10 g10 IR10 HV8 HG8 HM8 B8 HR8 HS8 IS8 hs8 cg8 cg9 cg10 HV6 HG6 HM6 B6 I6 cg6 hb8 HV7 HG7 HM7 B7 cg7
        obtain ⟨q', hq'⟩ : ∃ q' : LdA, q' = ⟨q.de, q.ho, q.sy, q.ca, q.ma, (a9, c9)⟩ := ⟨_, rfl⟩
        rw [← hq'] at I10 HM10
        have hqo : Hid (q'.og = (a9, c9)) := by rw [hq']; rfl
        clear hq'
        go_wp2_with (refine load_blk (k := 0) 29 (ldC (morL x y) q') (by rfl) rfl rfl HM10 (by kernel_rfl) (by kernel_rfl) rfl ?_)
        refine (HW2.out (by have := hog.out; omega) _ _ I10).mono ?_
        rintro e w11 ⟨rfl, k11⟩
        have B11 := B10.trans (k11.mono B10.size)
        have HG11 := HG10.kept k11
        have d2 := HG11.cv 2 (.string y.nf) rfl
        clear HG10 HM10 HV10 I10 B10 k11
        generalize y.nf = f at *
        go_upto_region 13 with (fail)
        refine wp_region_noPanic ?_
        refine wp_region_held_drew (S := fun w' => w'.cell? ⟨G, 2, none⟩ = some (.string f)) (by kernel_rfl) ?_ (fun hHeld => ?_)
        · exact d2
        refine wpAnyH_take (i := 0) (v := ?_) rfl (by kernel_rfl) (by kernel_rfl) (by kernel_rfl) (fun _ _ _ h => h) (Or.inl ⟨by rfl, ?_⟩) (by assumption) ?_
        rotate_left
        · (intro w hSw; (try dsimp only at hSw); go_simp; (try with_reducible rfl))
        (try simp only [Act.put, List.getElem_toArray, List.getElem_cons_zero, List.getElem_cons_succ, List.setIfInBounds_toArray, List.set_cons_zero, List.set_cons_succ])
        refine wpAnyH_take (i := 1) (v := ?_) rfl (by kernel_rfl) (by kernel_rfl) (by kernel_rfl) (fun _ _ _ h => h) (Or.inl ⟨by rfl, ?_⟩) (by assumption) ?_
        rotate_left
        · (intro w hSw; (try dsimp only at hSw); go_simp; (try with_reducible rfl))
        (try simp only [Act.put, List.getElem_toArray, List.getElem_cons_zero, List.getElem_cons_succ, List.setIfInBounds_toArray, List.set_cons_zero, List.set_cons_succ])
        refine wpAnyH_take (i := 2) (v := ?_) rfl (by kernel_rfl) (by kernel_rfl) (by kernel_rfl) (fun _ _ _ h => h) (Or.inl ⟨by rfl, ?_⟩) (by assumption) ?_
        rotate_left
        · (intro w hSw; (try dsimp only at hSw); go_simp; (try with_reducible rfl))
        (try simp only [Act.put, List.getElem_toArray, List.getElem_cons_zero, List.getElem_cons_succ, List.setIfInBounds_toArray, List.set_cons_zero, List.set_cons_succ])
        refine wpAnyH_take (i := 3) (v := ?_) rfl (by kernel_rfl) (by kernel_rfl) (by kernel_rfl) (fun _ _ _ h => h) (Or.inl ⟨by rfl, ?_⟩) (by assumption) ?_
        rotate_left
        · (intro w hSw; (try dsimp only at hSw); go_simp; (try with_reducible rfl))
        (try simp only [Act.put, List.getElem_toArray, List.getElem_cons_zero, List.getElem_cons_succ, List.setIfInBounds_toArray, List.set_cons_zero, List.set_cons_succ])
        refine wpAnyH_take (i := 4) (v := ?_) rfl (by kernel_rfl) (by kernel_rfl) (by kernel_rfl) (fun _ _ _ h => h) (Or.inl ⟨by rfl, ?_⟩) (by assumption) ?_
        rotate_left
        · (intro w hSw; (try dsimp only at hSw); go_simp; (try with_reducible rfl))
        (try simp only [Act.put, List.getElem_toArray, List.getElem_cons_zero, List.getElem_cons_succ, List.setIfInBounds_toArray, List.set_cons_zero, List.set_cons_succ])
        refine wpAnyH_take (i := 5) (v := ?_) rfl (by kernel_rfl) (by kernel_rfl) (by kernel_rfl) (fun _ _ _ h => h) (Or.inl ⟨by rfl, ?_⟩) (by assumption) ?_
        rotate_left
        · (intro w hSw; (try dsimp only at hSw); go_simp; (try with_reducible rfl))
        (try simp only [Act.put, List.getElem_toArray, List.getElem_cons_zero, List.getElem_cons_succ, List.setIfInBounds_toArray, List.set_cons_zero, List.set_cons_succ])
        refine wpAnyH_take (i := 6) (v := ?_) rfl (by kernel_rfl) (by kernel_rfl) (by kernel_rfl) (fun _ _ _ h => h) (Or.inl ⟨by rfl, ?_⟩) (by assumption) ?_
        rotate_left
        · (intro w hSw; (try dsimp only at hSw); go_simp; (try with_reducible rfl))
        (try simp only [Act.put, List.getElem_toArray, List.getElem_cons_zero, List.getElem_cons_succ, List.setIfInBounds_toArray, List.set_cons_zero, List.set_cons_succ])
        refine wpAnyH_take (i := 7) (v := ?_) rfl (by kernel_rfl) (by kernel_rfl) (by kernel_rfl) (fun _ _ _ h => h) (Or.inl ⟨by rfl, ?_⟩) (by assumption) ?_
        rotate_left
        · (intro w hSw; (try dsimp only at hSw); go_simp; (try with_reducible rfl))
        (try simp only [Act.put, List.getElem_toArray, List.getElem_cons_zero, List.getElem_cons_succ, List.setIfInBounds_toArray, List.set_cons_zero, List.set_cons_succ])
        refine wpAnyH_take (i := 8) (v := ?_) rfl (by kernel_rfl) (by kernel_rfl) (by kernel_rfl) (fun _ _ _ h => h) (Or.inl ⟨by rfl, ?_⟩) (by assumption) ?_
        rotate_left
        · (intro w hSw; (try dsimp only at hSw); go_simp; (try with_reducible rfl))
        (try simp only [Act.put, List.getElem_toArray, List.getElem_cons_zero, List.getElem_cons_succ, List.setIfInBounds_toArray, List.set_cons_zero, List.set_cons_succ])
        refine wpAnyH_take (i := 9) (v := ?_) rfl (by kernel_rfl) (by kernel_rfl) (by kernel_rfl) (fun _ _ _ h => h) (Or.inl ⟨by rfl, ?_⟩) (by assumption) ?_
        rotate_left
        · (intro w hSw; (try dsimp only at hSw); go_simp; (try with_reducible rfl))
        (try simp only [Act.put, List.getElem_toArray, List.getElem_cons_zero, List.getElem_cons_succ, List.setIfInBounds_toArray, List.set_cons_zero, List.set_cons_succ])
        refine wpAnyH_take (i := 10) (v := .string f) rfl (by kernel_rfl) (by kernel_rfl) (by kernel_rfl) (fun _ _ _ h => h) (Or.inl ⟨by rfl, fun w hSw => by (try dsimp only at hSw); go_simp⟩) (by assumption) ?_
        (try simp only [Act.put, List.getElem_toArray, List.getElem_cons_zero, List.getElem_cons_succ, List.setIfInBounds_toArray, List.set_cons_zero, List.set_cons_succ])
        refine wpAnyH_take (i := 11) (v := ?_) rfl (by kernel_rfl) (by kernel_rfl) (by kernel_rfl) (fun _ _ _ h => h) (Or.inl ⟨by rfl, ?_⟩) (by assumption) ?_
        rotate_left
        · (intro w hSw; (try dsimp only at hSw); go_simp; (try with_reducible rfl))
        (try simp only [Act.put, List.getElem_toArray, List.getElem_cons_zero, List.getElem_cons_succ, List.setIfInBounds_toArray, List.set_cons_zero, List.set_cons_succ])
        refine wpAnyH_take (i := 12) (v := ?_) rfl (by kernel_rfl) (by kernel_rfl) (by kernel_rfl) (fun _ _ _ h => h) (Or.inl ⟨by rfl, ?_⟩) (by assumption) ?_
        rotate_left
        · (intro w hSw; (try dsimp only at hSw); go_simp; (try with_reducible rfl))
        (try simp only [Act.put, List.getElem_toArray, List.getElem_cons_zero, List.getElem_cons_succ, List.setIfInBounds_toArray, List.set_cons_zero, List.set_cons_succ])
        refine wpAnyH_take (i := 13) (v := ?_) rfl (by kernel_rfl) (by kernel_rfl) (by kernel_rfl) (fun _ _ _ h => h) (Or.inl ⟨by rfl, ?_⟩) (by assumption) ?_
        rotate_left
        · (intro w hSw; (try dsimp only at hSw); go_simp; (try with_reducible rfl))
        (try simp only [Act.put, List.getElem_toArray, List.getElem_cons_zero, List.getElem_cons_succ, List.setIfInBounds_toArray, List.set_cons_zero, List.set_cons_succ])
        refine wpAnyH_take (i := 14) (v := ?_) rfl (by kernel_rfl) (by kernel_rfl) (by kernel_rfl) (fun _ _ _ h => h) (Or.inl ⟨by rfl, ?_⟩) (by assumption) ?_
        rotate_left
        · (intro w hSw; (try dsimp only at hSw); go_simp; (try with_reducible rfl))
        (try simp only [Act.put, List.getElem_toArray, List.getElem_cons_zero, List.getElem_cons_succ, List.setIfInBounds_toArray, List.set_cons_zero, List.set_cons_succ])
        refine wpAnyH_take (i := 15) (v := ?_) rfl (by kernel_rfl) (by kernel_rfl) (by kernel_rfl) (fun _ _ _ h => h) (Or.inl ⟨by rfl, ?_⟩) (by assumption) ?_
        rotate_left
        · (intro w hSw; (try dsimp only at hSw); go_simp; (try with_reducible rfl))
        (try simp only [Act.put, List.getElem_toArray, List.getElem_cons_zero, List.getElem_cons_succ, List.setIfInBounds_toArray, List.set_cons_zero, List.set_cons_succ])
        refine wpAnyH_take (i := 16) (v := ?_) rfl (by kernel_rfl) (by kernel_rfl) (by kernel_rfl) (fun _ _ _ h => h) (Or.inl ⟨by rfl, ?_⟩) (by assumption) ?_
        rotate_left
        · (intro w hSw; (try dsimp only at hSw); go_simp; (try with_reducible rfl))
        (try simp only [Act.put, List.getElem_toArray, List.getElem_cons_zero, List.getElem_cons_succ, List.setIfInBounds_toArray, List.set_cons_zero, List.set_cons_succ])
        refine wpAnyH_take (i := 17) (v := ?_) rfl (by kernel_rfl) (by kernel_rfl) (by kernel_rfl) (fun _ _ _ h => h) (Or.inl ⟨by rfl, ?_⟩) (by assumption) ?_
        rotate_left
        · (intro w hSw; (try dsimp only at hSw); go_simp; (try with_reducible rfl))
        (try simp only [Act.put, List.getElem_toArray, List.getElem_cons_zero, List.getElem_cons_succ, List.setIfInBounds_toArray, List.set_cons_zero, List.set_cons_succ])
        refine wpAnyH_take (i := 18) (v := ?_) rfl (by kernel_rfl) (by kernel_rfl) (by kernel_rfl) (fun _ _ _ h => h) (Or.inl ⟨by rfl, ?_⟩) (by assumption) ?_
        rotate_left
        · (intro w hSw; (try dsimp only at hSw); go_simp; (try with_reducible rfl))
        (try simp only [Act.put, List.getElem_toArray, List.getElem_cons_zero, List.getElem_cons_succ, List.setIfInBounds_toArray, List.set_cons_zero, List.set_cons_succ])
        refine wpAnyH_take (i := 19) (v := ?_) rfl (by kernel_rfl) (by kernel_rfl) (by kernel_rfl) (fun _ _ _ h => h) (Or.inl ⟨by rfl, ?_⟩) (by assumption) ?_
        rotate_left
        · (intro w hSw; (try dsimp only at hSw); go_simp; (try with_reducible rfl))
        (try simp only [Act.put, List.getElem_toArray, List.getElem_cons_zero, List.getElem_cons_succ, List.setIfInBounds_toArray, List.set_cons_zero, List.set_cons_succ])
        refine wpAnyH_take (i := 20) (v := ?_) rfl (by kernel_rfl) (by kernel_rfl) (by kernel_rfl) (fun _ _ _ h => h) (Or.inl ⟨by rfl, ?_⟩) (by assumption) ?_
        rotate_left
        · (intro w hSw; (try dsimp only at hSw); go_simp; (try with_reducible rfl))
        (try simp only [Act.put, List.getElem_toArray, List.getElem_cons_zero, List.getElem_cons_succ, List.setIfInBounds_toArray, List.set_cons_zero, List.set_cons_succ])
        refine wpAnyH_take (i := 21) (v := ?_) rfl (by kernel_rfl) (by kernel_rfl) (by kernel_rfl) (fun _ _ _ h => h) (Or.inl ⟨by rfl, ?_⟩) (by assumption) ?_
        rotate_left
        · (intro w hSw; (try dsimp only at hSw); go_simp; (try with_reducible rfl))
        (try simp only [Act.put, List.getElem_toArray, List.getElem_cons_zero, List.getElem_cons_succ, List.setIfInBounds_toArray, List.set_cons_zero, List.set_cons_succ])
        refine wpAnyH_take (i := 22) (v := ?_) rfl (by kernel_rfl) (by kernel_rfl) (by kernel_rfl) (fun _ _ _ h => h) (Or.inl ⟨by rfl, ?_⟩) (by assumption) ?_
        rotate_left
        · (intro w hSw; (try dsimp only at hSw); go_simp; (try with_reducible rfl))
        (try simp only [Act.put, List.getElem_toArray, List.getElem_cons_zero, List.getElem_cons_succ, List.setIfInBounds_toArray, List.set_cons_zero, List.set_cons_succ])
        refine wpAnyH_take (i := 23) (v := ?_) rfl (by kernel_rfl) (by kernel_rfl) (by kernel_rfl) (fun _ _ _ h => h) (Or.inl ⟨by rfl, ?_⟩) (by assumption) ?_
        rotate_left
        · (intro w hSw; (try dsimp only at hSw); go_simp; (try with_reducible rfl))
        (try simp only [Act.put, List.getElem_toArray, List.getElem_cons_zero, List.getElem_cons_succ, List.setIfInBounds_toArray, List.set_cons_zero, List.set_cons_succ])
        refine wpAnyH_take (i := 24) (v := ?_) rfl (by kernel_rfl) (by kernel_rfl) (by kernel_rfl) (fun _ _ _ h => h) (Or.inl ⟨by rfl, ?_⟩) (by assumption) ?_
        rotate_left
        · (intro w hSw; (try dsimp only at hSw); go_simp; (try with_reducible rfl))
        (try simp only [Act.put, List.getElem_toArray, List.getElem_cons_zero, List.getElem_cons_succ, List.setIfInBounds_toArray, List.set_cons_zero, List.set_cons_succ])
        refine wpAnyH_take (i := 25) (v := ?_) rfl (by kernel_rfl) (by kernel_rfl) (by kernel_rfl) (fun _ _ _ h => h) (Or.inl ⟨by rfl, ?_⟩) (by assumption) ?_
        rotate_left
        · (intro w hSw; (try dsimp only at hSw); go_simp; (try with_reducible rfl))
        (try simp only [Act.put, List.getElem_toArray, List.getElem_cons_zero, List.getElem_cons_succ, List.setIfInBounds_toArray, List.set_cons_zero, List.set_cons_succ])
        refine wpAnyH_take (i := 26) (v := ?_) rfl (by kernel_rfl) (by kernel_rfl) (by kernel_rfl) (fun _ _ _ h => h) (Or.inl ⟨by rfl, ?_⟩) (by assumption) ?_
        rotate_left
        · (intro w hSw; (try dsimp only at hSw); go_simp; (try with_reducible rfl))
        (try simp only [Act.put, List.getElem_toArray, List.getElem_cons_zero, List.getElem_cons_succ, List.setIfInBounds_toArray, List.set_cons_zero, List.set_cons_succ])
        refine wpAnyH_take (i := 27) (v := ?_) rfl (by kernel_rfl) (by kernel_rfl) (by kernel_rfl) (fun _ _ _ h => h) (Or.inl ⟨by rfl, ?_⟩) (by assumption) ?_
        rotate_left
        · (intro w hSw; (try dsimp only at hSw); go_simp; (try with_reducible rfl))
        (try simp only [Act.put, List.getElem_toArray, List.getElem_cons_zero, List.getElem_cons_succ, List.setIfInBounds_toArray, List.set_cons_zero, List.set_cons_succ])
        refine wpAnyH_take (i := 28) (v := ?_) rfl (by kernel_rfl) (by kernel_rfl) (by kernel_rfl) (fun _ _ _ h => h) (Or.inl ⟨by rfl, ?_⟩) (by assumption) ?_
        rotate_left
        · (intro w hSw; (try dsimp only at hSw); go_simp; (try with_reducible rfl))
        (try simp only [Act.put, List.getElem_toArray, List.getElem_cons_zero, List.getElem_cons_succ, List.setIfInBounds_toArray, List.set_cons_zero, List.set_cons_succ])
        refine wpAnyH_take (i := 29) (v := ?_) rfl (by kernel_rfl) (by kernel_rfl) (by kernel_rfl) (fun _ _ _ h => h) (Or.inl ⟨by rfl, ?_⟩) (by assumption) ?_
        rotate_left
        · (intro w hSw; (try dsimp only at hSw); go_simp; (try with_reducible rfl))
        (try simp only [Act.put, List.getElem_toArray, List.getElem_cons_zero, List.getElem_cons_succ, List.setIfInBounds_toArray, List.set_cons_zero, List.set_cons_succ])
        refine wpAnyH_take (i := 30) (v := ?_) rfl (by kernel_rfl) (by kernel_rfl) (by kernel_rfl) (fun _ _ _ h => h) (Or.inl ⟨by rfl, ?_⟩) (by assumption) ?_
        rotate_left
        · (intro w hSw; (try dsimp only at hSw); go_simp; (try with_reducible rfl))
        (try simp only [Act.put, List.getElem_toArray, List.getElem_cons_zero, List.getElem_cons_succ, List.setIfInBounds_toArray, List.set_cons_zero, List.set_cons_succ])
        refine wpAnyH_take (i := 31) (v := .string f) rfl (by kernel_rfl) (by kernel_rfl) (by kernel_rfl) (fun _ _ _ h => h) (Or.inl ⟨by rfl, fun w hSw => by (try dsimp only at hSw); go_simp⟩) (by assumption) ?_
        (try simp only [Act.put, List.getElem_toArray, List.getElem_cons_zero, List.getElem_cons_succ, List.setIfInBounds_toArray, List.set_cons_zero, List.set_cons_succ])
        refine wpAnyH_take (i := 32) (v := ?_) rfl (by kernel_rfl) (by kernel_rfl) (by kernel_rfl) (fun _ _ _ h => h) (Or.inl ⟨by rfl, ?_⟩) (by assumption) ?_
        rotate_left
        · (intro w hSw; (try dsimp only at hSw); go_simp; (try with_reducible rfl))
        (try simp only [Act.put, List.getElem_toArray, List.getElem_cons_zero, List.getElem_cons_succ, List.setIfInBounds_toArray, List.set_cons_zero, List.set_cons_succ])
        refine wpAnyH_ready (rs := [33]) (by kernel_rfl) (by simp) ?_
        refine AllReadyH.cons rfl (fun K hK => ?_) AllReadyH.nil
        simp only [List.getElem_toArray, List.getElem_cons_zero, List.getElem_cons_succ]
        go_simp
        with_reducible refine (HHS.out _).mono ?_
        rintro e w12 ⟨rfl, rfl⟩
        refine hK.out _ _ ?_ (fun hHeld => ?_)
        · exact d2
        clear hK K
        (try simp only [Act.put, List.getElem_toArray, List.getElem_cons_zero, List.getElem_cons_succ, List.setIfInBounds_toArray, List.set_cons_zero, List.set_cons_succ])
        refine wpAnyH_take (i := 34) (v := ?_) rfl (by kernel_rfl) (by kernel_rfl) (by kernel_rfl) (fun _ _ _ h => h) (Or.inl ⟨by rfl, ?_⟩) (by assumption) ?_
        rotate_left
        · (intro w hSw; (try dsimp only at hSw); go_simp; (try with_reducible rfl))
        (try simp only [Act.put, List.getElem_toArray, List.getElem_cons_zero, List.getElem_cons_succ, List.setIfInBounds_toArray, List.set_cons_zero, List.set_cons_succ])
        refine wpAnyH_take (i := 35) (v := ?_) rfl (by kernel_rfl) (by kernel_rfl) (by kernel_rfl) (fun _ _ _ h => h) (Or.inl ⟨by rfl, ?_⟩) (by assumption) ?_
        rotate_left
        · (intro w hSw; (try dsimp only at hSw); go_simp; (try with_reducible rfl))
        (try simp only [Act.put, List.getElem_toArray, List.getElem_cons_zero, List.getElem_cons_succ, List.setIfInBounds_toArray, List.set_cons_zero, List.set_cons_succ])
        refine wpAnyH_done (by kernel_rfl) ?_ _
        refine NoPanic.normal ?_
        go_wp2
        go_ret
        exact ⟨rfl, Below.drew B11⟩
      · simp only [List.getElem_toArray, List.getElem_cons_zero, List.getElem_cons_succ]
        rw [if_pos (by rfl)]
        refine slice_og y rfl rfl (fun w7 HS7 k7 l7 => ?_)
        replace k7 : Below w6.heap.size w6 w7 := ((Below.refl _ w6).drew).trans k7
        have HV7 := HV6.kept k7
        have HG7 := HG6.kept k7
        have HM7 := HM6.kept k7
        have B7 := B6.trans (k7.mono hV6)
        have hs7 := k7.size
        have cg7 := HV7.cv 10 (.slice q.og.1 x.og.length q.og.2) rfl
        have I7 := I6.below k7
        refine hK.out _ _ ?_ (fun hHeld => ?_)
        · exact ⟨cg7, HG7⟩
        clear hK K
        (try simp only [Act.put, List.getElem_toArray, List.getElem_cons_zero, List.getElem_cons_succ, List.setIfInBounds_toArray, List.set_cons_zero, List.set_cons_succ])
        refine wpAnyH_ready (rs := [2]) (by kernel_rfl) (by simp) ?_
        refine AllReadyH.cons rfl (fun K hK => ?_) AllReadyH.nil
        simp only [List.getElem_toArray, List.getElem_cons_zero, List.getElem_cons_succ]
        go_simp
        with_reducible refine (HCl.out w7 I7 (by have := hog.out; omega)).mono ?_
        rintro e w8 ⟨⟨v7, rfl, HR8⟩, k8⟩
        have HV8 := HV7.kept k8
        have HG8 := HG7.kept k8
        have HM8 := HM7.kept k8
        have B8 := B7.trans (k8.mono (by omega))
        have HS8 := HS7.kept k8
        have hs8 := k8.size
        have cg8 := HV8.cv 10 (.slice q.og.1 x.og.length q.og.2) rfl
        have hb8 : w7.heap.size ≤ w8.heap.size := hs8
        have IS8 := og_one HS8 (Nat.lt_of_lt_of_le l7 hs8)
        refine hK.out _ _ ?_ (fun hHeld => ?_)
        · exact ⟨cg8, HG8⟩
        clear hK K
        (try simp only [Act.put, List.getElem_toArray, List.getElem_cons_zero, List.getElem_cons_succ, List.setIfInBounds_toArray, List.set_cons_zero, List.set_cons_succ])
        refine wpAnyH_ready (rs := [5]) (by kernel_rfl) (by simp) ?_
        refine AllReadyH.cons rfl (fun K hK => ?_) AllReadyH.nil
        simp only [List.getElem_toArray, List.getElem_cons_zero, List.getElem_cons_succ]
        rw [if_pos (by rfl)]
        refine many_og (l := x.og) (l2 := [y]) rfl rfl rfl HR8 IS8 (by have := hog.out; simp; omega) hb8 (fun v9 w9 HR9 e9 k9 g9 => ?_)
        have hlo : w6.heap.size ≤ w7.heap.size := hs7
        have HV9 := HV8.below k9 (show V < w7.heap.size from Nat.lt_of_lt_of_le hV6l hlo)
        have HG9 := HG8.below k9 (show G < w7.heap.size from Nat.lt_of_lt_of_le hG6l hlo)
        have HM9 := HM8.below k9 (show M < w7.heap.size from Nat.lt_of_lt_of_le hM6l hlo)
        have B9 := B8.trans (k9.mono (show w.heap.size ≤ w7.heap.size from Nat.le_trans hV6 hlo))
        obtain ⟨a9, c9, rfl, IR9⟩ := HR9.inL
        have HRo9 := HR9.own (fun q => by simp at q)
        have cg9 := HV9.cv 10 (.slice q.og.1 x.og.length q.og.2) rfl
        refine hK.out _ _ ?_ (fun hHeld => ?_)
        · exact ⟨cg9, HG9⟩
        clear hK K
        (try simp only [Act.put, List.getElem_toArray, List.getElem_cons_zero, List.getElem_cons_succ, List.setIfInBounds_toArray, List.set_cons_zero, List.set_cons_succ])
        refine wpAnyH_take (i := 6) (v := ?_) rfl (by kernel_rfl) (by kernel_rfl) (by kernel_rfl) (fun _ _ _ h => h) (Or.inl ⟨by rfl, ?_⟩) (by assumption) ?_
        rotate_left
        · (intro w hSw; (try dsimp only at hSw); go_simp; (try with_reducible rfl))
        (try simp only [Act.put, List.getElem_toArray, List.getElem_cons_zero, List.getElem_cons_succ, List.setIfInBounds_toArray, List.set_cons_zero, List.set_cons_succ])
        refine wpAnyH_ready (rs := [7]) (by kernel_rfl) (by simp) ?_
        refine AllReadyH.cons rfl (fun K hK => ?_) AllReadyH.nil
        simp only [List.getElem_toArray, List.getElem_cons_zero, List.getElem_cons_succ]
        rw [if_pos (by rfl)]
        refine wp_store_op (k := 10) 27 (.slice a9 (x.og ++ [y]).length c9) (ldC (morL x y) ⟨q.de, q.ho, q.sy, q.ca, q.ma, (a9, c9)⟩) (by rfl) rfl rfl HM9 (by kernel_rfl) (show (10 + 1 : Nat) ≤ 11 by decide) (by rfl) rfl (fun w10 HM10 b10 g10 => ?_)
        have HV10 := HV9.grown g10 (by simp; omega)
        have HG10 := HG9.grown g10 (by simp; omega)
        have B10 := B9.trans (b10.mono hM6w)
        have HRo10 := HRo9.other HM9 (by decide) g10
        have cg10 := HV10.cv 10 (.slice q.og.1 x.og.length q.og.2) rfl
        refine hK.out _ _ ?_ (fun hHeld => ?_)
        · exact ⟨cg10, HG10⟩
        clear hK K
        (try simp only [Act.put, List.getElem_toArray, List.getElem_cons_zero, List.getElem_cons_succ, List.setIfInBounds_toArray, List.set_cons_zero, List.set_cons_succ])
        refine wpAnyH_done (by kernel_rfl) ?_ _
        refine NoPanic.normal ?_
        obtain ⟨a', c', e', IR10⟩ := HRo10.inL
        cases e'
        have I10 : LdIn w10 (morL x y) ⟨q.de, q.ho, q.sy, q.ca, q.ma, (a9, c9)⟩ := by
          have i := h0.below B10
          exact ⟨i.1, i.2.1, i.2.2.1, i.2.2.2.1, i.2.2.2.2.1, IR10⟩
        clear HV9 HG9 HM9 B9 IR9 HRo9 HRo10 k9 g9 b10 g10 IR10 HV8 HG8 HM8 B8 HR8 HS8 IS8 hs8 cg8 cg9 cg10 HV6 HG6 HM6 B6 I6 cg6 hb8 HV7 HG7 HM7 B7 cg7
        obtain ⟨q', hq'⟩ : ∃ q' : LdA, q' = ⟨q.de, q.ho, q.sy, q.ca, q.ma, (a9, c9)⟩ := ⟨_, rfl⟩
        rw [← hq'] at I10 HM10
        have hqo : Hid (q'.og = (a9, c9)) := by rw [hq']; rfl
        clear hq'
        go_wp2_with (refine load_blk (k := 0) 29 (ldC (morL x y) q') (by rfl) rfl rfl HM10 (by kernel_rfl) (by kernel_rfl) rfl ?_)
        refine (HW2.out (by have := hog.out; omega) _ _ I10).mono ?_
        rintro e w11 ⟨rfl, k11⟩
        have B11 := B10.trans (k11.mono B10.size)
        have HG11 := HG10.kept k11
        have d2 := HG11.cv 2 (.string y.nf) rfl
        clear HG10 HM10 HV10 I10 B10 k11
        generalize y.nf = f at *
        go_upto_region 13 with (fail)
        refine wp_region_noPanic ?_
        refine wp_region_held_drew (S := fun w' => w'.cell? ⟨G, 2, none⟩ = some (.string f)) (by kernel_rfl) ?_ (fun hHeld => ?_)
        · exact d2
        refine wpAnyH_take (i := 0) (v := ?_) rfl (by kernel_rfl) (by kernel_rfl) (by kernel_rfl) (fun _ _ _ h => h) (Or.inl ⟨by rfl, ?_⟩) (by assumption) ?_
        rotate_left
        · (intro w hSw; (try dsimp only at hSw); go_simp; (try with_reducible rfl))
        (try simp only [Act.put, List.getElem_toArray, List.getElem_cons_zero, List.getElem_cons_succ, List.setIfInBounds_toArray, List.set_cons_zero, List.set_cons_succ])
        refine wpAnyH_take (i := 1) (v := ?_) rfl (by kernel_rfl) (by kernel_rfl) (by kernel_rfl) (fun _ _ _ h => h) (Or.inl ⟨by rfl, ?_⟩) (by assumption) ?_
        rotate_left
        · (intro w hSw; (try dsimp only at hSw); go_simp; (try with_reducible rfl))
        (try simp only [Act.put, List.getElem_toArray, List.getElem_cons_zero, List.getElem_cons_succ, List.setIfInBounds_toArray, List.set_cons_zero, List.set_cons_succ])
        refine wpAnyH_take (i := 2) (v := ?_) rfl (by kernel_rfl) (by kernel_rfl) (by kernel_rfl) (fun _ _ _ h => h) (Or.inl ⟨by rfl, ?_⟩) (by assumption) ?_
        rotate_left
        · (intro w hSw; (try dsimp only at hSw); go_simp; (try with_reducible rfl))
        (try simp only [Act.put, List.getElem_toArray, List.getElem_cons_zero, List.getElem_cons_succ, List.setIfInBounds_toArray, List.set_cons_zero, List.set_cons_succ])
        refine wpAnyH_take (i := 3) (v := ?_) rfl (by kernel_rfl) (by kernel_rfl) (by kernel_rfl) (fun _ _ _ h => h) (Or.inl ⟨by rfl, ?_⟩) (by assumption) ?_
        rotate_left
        · (intro w hSw; (try dsimp only at hSw); go_simp; (try with_reducible rfl))
        (try simp only [Act.put, List.getElem_toArray, List.getElem_cons_zero, List.getElem_cons_succ, List.setIfInBounds_toArray, List.set_cons_zero, List.set_cons_succ])
        refine wpAnyH_take (i := 4) (v := ?_) rfl (by kernel_rfl) (by kernel_rfl) (by kernel_rfl) (fun _ _ _ h => h) (Or.inl ⟨by rfl, ?_⟩) (by assumption) ?_
        rotate_left
        · (intro w hSw; (try dsimp only at hSw); go_simp; (try with_reducible rfl))
        (try simp only [Act.put, List.getElem_toArray, List.getElem_cons_zero, List.getElem_cons_succ, List.setIfInBounds_toArray, List.set_cons_zero, List.set_cons_succ])
        refine wpAnyH_take (i := 5) (v := ?_) rfl (by kernel_rfl) (by kernel_rfl) (by kernel_rfl) (fun _ _ _ h => h) (Or.inl ⟨by rfl, ?_⟩) (by assumption) ?_
        rotate_left
        · (intro w hSw; (try dsimp only at hSw); go_simp; (try with_reducible rfl))
        (try simp only [Act.put, List.getElem_toArray, List.getElem_cons_zero, List.getElem_cons_succ, List.setIfInBounds_toArray, List.set_cons_zero, List.set_cons_succ])
        refine wpAnyH_take (i := 6) (v := ?_) rfl (by kernel_rfl) (by kernel_rfl) (by kernel_rfl) (fun _ _ _ h => h) (Or.inl ⟨by rfl, ?_⟩) (by assumption) ?_
        rotate_left
        · (intro w hSw; (try dsimp only at hSw); go_simp; (try with_reducible rfl))
        (try simp only [Act.put, List.getElem_toArray, List.getElem_cons_zero, List.getElem_cons_succ, List.setIfInBounds_toArray, List.set_cons_zero, List.set_cons_succ])
        refine wpAnyH_take (i := 7) (v := ?_) rfl (by kernel_rfl) (by kernel_rfl) (by kernel_rfl) (fun _ _ _ h => h) (Or.inl ⟨by rfl, ?_⟩) (by assumption) ?_
        rotate_left
        · (intro w hSw; (try dsimp only at hSw); go_simp; (try with_reducible rfl))
        (try simp only [Act.put, List.getElem_toArray, List.getElem_cons_zero, List.getElem_cons_succ, List.setIfInBounds_toArray, List.set_cons_zero, List.set_cons_succ])
        refine wpAnyH_take (i := 8) (v := ?_) rfl (by kernel_rfl) (by kernel_rfl) (by kernel_rfl) (fun _ _ _ h => h) (Or.inl ⟨by rfl, ?_⟩) (by assumption) ?_
        rotate_left
        · (intro w hSw; (try dsimp only at hSw); go_simp; (try with_reducible rfl))
        (try simp only [Act.put, List.getElem_toArray, List.getElem_cons_zero, List.getElem_cons_succ, List.setIfInBounds_toArray, List.set_cons_zero, List.set_cons_succ])
        refine wpAnyH_take (i := 9) (v := ?_) rfl (by kernel_rfl) (by kernel_rfl) (by kernel_rfl) (fun _ _ _ h => h) (Or.inl ⟨by rfl, ?_⟩) (by assumption) ?_
        rotate_left
        · (intro w hSw; (try dsimp only at hSw); go_simp; (try with_reducible rfl))
        (try simp only [Act.put, List.getElem_toArray, List.getElem_cons_zero, List.getElem_cons_succ, List.setIfInBounds_toArray, List.set_cons_zero, List.set_cons_succ])
        refine wpAnyH_take (i := 10) (v := .string f) rfl (by kernel_rfl) (by kernel_rfl) (by kernel_rfl) (fun _ _ _ h => h) (Or.inl ⟨by rfl, fun w hSw => by (try dsimp only at hSw); go_simp⟩) (by assumption) ?_
        (try simp only [Act.put, List.getElem_toArray, List.getElem_cons_zero, List.getElem_cons_succ, List.setIfInBounds_toArray, List.set_cons_zero, List.set_cons_succ])
        refine wpAnyH_take (i := 11) (v := ?_) rfl (by kernel_rfl) (by kernel_rfl) (by kernel_rfl) (fun _ _ _ h => h) (Or.inl ⟨by rfl, ?_⟩) (by assumption) ?_
        rotate_left
        · (intro w hSw; (try dsimp only at hSw); go_simp; (try with_reducible rfl))
        (try simp only [Act.put, List.getElem_toArray, List.getElem_cons_zero, List.getElem_cons_succ, List.setIfInBounds_toArray, List.set_cons_zero, List.set_cons_succ])
        refine wpAnyH_take (i := 12) (v := ?_) rfl (by kernel_rfl) (by kernel_rfl) (by kernel_rfl) (fun _ _ _ h => h) (Or.inl ⟨by rfl, ?_⟩) (by assumption) ?_
        rotate_left
        · (intro w hSw; (try dsimp only at hSw); go_simp; (try with_reducible rfl))
        (try simp only [Act.put, List.getElem_toArray, List.getElem_cons_zero, List.getElem_cons_succ, List.setIfInBounds_toArray, List.set_cons_zero, List.set_cons_succ])
        refine wpAnyH_take (i := 13) (v := ?_) rfl (by kernel_rfl) (by kernel_rfl) (by kernel_rfl) (fun _ _ _ h => h) (Or.inl ⟨by rfl, ?_⟩) (by assumption) ?_
        rotate_left
        · (intro w hSw; (try dsimp only at hSw); go_simp; (try with_reducible rfl))
        (try simp only [Act.put, List.getElem_toArray, List.getElem_cons_zero, List.getElem_cons_succ, List.setIfInBounds_toArray, List.set_cons_zero, List.set_cons_succ])
        refine wpAnyH_take (i := 14) (v := ?_) rfl (by kernel_rfl) (by kernel_rfl) (by kernel_rfl) (fun _ _ _ h => h) (Or.inl ⟨by rfl, ?_⟩) (by assumption) ?_
        rotate_left
        · (intro w hSw; (try dsimp only at hSw); go_simp; (try with_reducible rfl))
        (try simp only [Act.put, List.getElem_toArray, List.getElem_cons_zero, List.getElem_cons_succ, List.setIfInBounds_toArray, List.set_cons_zero, List.set_cons_succ])
        refine wpAnyH_take (i := 15) (v := ?_) rfl (by kernel_rfl) (by kernel_rfl) (by kernel_rfl) (fun _ _ _ h => h) (Or.inl ⟨by rfl, ?_⟩) (by assumption) ?_
        rotate_left
        · (intro w hSw; (try dsimp only at hSw); go_simp; (try with_reducible rfl))
        (try simp only [Act.put, List.getElem_toArray, List.getElem_cons_zero, List.getElem_cons_succ, List.setIfInBounds_toArray, List.set_cons_zero, List.set_cons_succ])
        refine wpAnyH_take (i := 16) (v := ?_) rfl (by kernel_rfl) (by kernel_rfl) (by kernel_rfl) (fun _ _ _ h => h) (Or.inl ⟨by rfl, ?_⟩) (by assumption) ?_
        rotate_left
        · (intro w hSw; (try dsimp only at hSw); go_simp; (try with_reducible rfl))
        (try simp only [Act.put, List.getElem_toArray, List.getElem_cons_zero, List.getElem_cons_succ, List.setIfInBounds_toArray, List.set_cons_zero, List.set_cons_succ])
        refine wpAnyH_take (i := 17) (v := ?_) rfl (by kernel_rfl) (by kernel_rfl) (by kernel_rfl) (fun _ _ _ h => h) (Or.inl ⟨by rfl, ?_⟩) (by assumption) ?_
        rotate_left
        · (intro w hSw; (try dsimp only at hSw); go_simp; (try with_reducible rfl))
        (try simp only [Act.put, List.getElem_toArray, List.getElem_cons_zero, List.getElem_cons_succ, List.setIfInBounds_toArray, List.set_cons_zero, List.set_cons_succ])
        refine wpAnyH_take (i := 18) (v := ?_) rfl (by kernel_rfl) (by kernel_rfl) (by kernel_rfl) (fun _ _ _ h => h) (Or.inl ⟨by rfl, ?_⟩) (by assumption) ?_
        rotate_left
        · (intro w hSw; (try dsimp only at hSw); go_simp; (try with_reducible rfl))
        (try simp only [Act.put, List.getElem_toArray, List.getElem_cons_zero, List.getElem_cons_succ, List.setIfInBounds_toArray, List.set_cons_zero, List.set_cons_succ])
        refine wpAnyH_take (i := 19) (v := ?_) rfl (by kernel_rfl) (by kernel_rfl) (by kernel_rfl) (fun _ _ _ h => h) (Or.inl ⟨by rfl, ?_⟩) (by assumption) ?_
        rotate_left
        · (intro w hSw; (try dsimp only at hSw); go_simp; (try with_reducible rfl))
        (try simp only [Act.put, List.getElem_toArray, List.getElem_cons_zero, List.getElem_cons_succ, List.setIfInBounds_toArray, List.set_cons_zero, List.set_cons_succ])
        refine wpAnyH_take (i := 20) (v := ?_) rfl (by kernel_rfl) (by kernel_rfl) (by kernel_rfl) (fun _ _ _ h => h) (Or.inl ⟨by rfl, ?_⟩) (by assumption) ?_
        rotate_left
        · (intro w hSw; (try dsimp only at hSw); go_simp; (try with_reducible rfl))
        (try simp only [Act.put, List.getElem_toArray, List.getElem_cons_zero, List.getElem_cons_succ, List.setIfInBounds_toArray, List.set_cons_zero, List.set_cons_succ])
        refine wpAnyH_take (i := 21) (v := ?_) rfl (by kernel_rfl) (by kernel_rfl) (by kernel_rfl) (fun _ _ _ h => h) (Or.inl ⟨by rfl, ?_⟩) (by assumption) ?_
        rotate_left
        · (intro w hSw; (try dsimp only at hSw); go_simp; (try with_reducible rfl))
        (try simp only [Act.put, List.getElem_toArray, List.getElem_cons_zero, List.getElem_cons_succ, List.setIfInBounds_toArray, List.set_cons_zero, List.set_cons_succ])
        refine wpAnyH_take (i := 22) (v := ?_) rfl (by kernel_rfl) (by kernel_rfl) (by kernel_rfl) (fun _ _ _ h => h) (Or.inl ⟨by rfl, ?_⟩) (by assumption) ?_
        rotate_left
        · (intro w hSw; (try dsimp only at hSw); go_simp; (try with_reducible rfl))
        (try simp only [Act.put, List.getElem_toArray, List.getElem_cons_zero, List.getElem_cons_succ, List.setIfInBounds_toArray, List.set_cons_zero, List.set_cons_succ])
        refine wpAnyH_take (i := 23) (v := ?_) rfl (by kernel_rfl) (by kernel_rfl) (by kernel_rfl) (fun _ _ _ h => h) (Or.inl ⟨by rfl, ?_⟩) (by assumption) ?_
        rotate_left
        · (intro w hSw; (try dsimp only at hSw); go_simp; (try with_reducible rfl))
        (try simp only [Act.put, List.getElem_toArray, List.getElem_cons_zero, List.getElem_cons_succ, List.setIfInBounds_toArray, List.set_cons_zero, List.set_cons_succ])
        refine wpAnyH_take (i := 24) (v := ?_) rfl (by kernel_rfl) (by kernel_rfl) (by kernel_rfl) (fun _ _ _ h => h) (Or.inl ⟨by rfl, ?_⟩) (by assumption) ?_
        rotate_left
        · (intro w hSw; (try dsimp only at hSw); go_simp; (try with_reducible rfl))
        (try simp only [Act.put, List.getElem_toArray, List.getElem_cons_zero, List.getElem_cons_succ, List.setIfInBounds_toArray, List.set_cons_zero, List.set_cons_succ])
        refine wpAnyH_take (i := 25) (v := ?_) rfl (by kernel_rfl) (by kernel_rfl) (by kernel_rfl) (fun _ _ _ h => h) (Or.inl ⟨by rfl, ?_⟩) (by assumption) ?_
        rotate_left
        · (intro w hSw; (try dsimp only at hSw); go_simp; (try with_reducible rfl))
        (try simp only [Act.put, List.getElem_toArray, List.getElem_cons_zero, List.getElem_cons_succ, List.setIfInBounds_toArray, List.set_cons_zero, List.set_cons_succ])
        refine wpAnyH_take (i := 26) (v := ?_) rfl (by kernel_rfl) (by kernel_rfl) (by kernel_rfl) (fun _ _ _ h => h) (Or.inl ⟨by rfl, ?_⟩) (by assumption) ?_
        rotate_left
        · (intro w hSw; (try dsimp only at hSw); go_simp; (try with_reducible rfl))
        (try simp only [Act.put, List.getElem_toArray, List.getElem_cons_zero, List.getElem_cons_succ, List.setIfInBounds_toArray, List.set_cons_zero, List.set_cons_succ])
        refine wpAnyH_take (i := 27) (v := ?_) rfl (by kernel_rfl) (by kernel_rfl) (by kernel_rfl) (fun _ _ _ h => h) (Or.inl ⟨by rfl, ?_⟩) (by assumption) ?_
        rotate_left
        · (intro w hSw; (try dsimp only at hSw); go_simp; (try with_reducible rfl))
        (try simp only [Act.put, List.getElem_toArray, List.getElem_cons_zero, List.getElem_cons_succ, List.setIfInBounds_toArray, List.set_cons_zero, List.set_cons_succ])
        refine wpAnyH_take (i := 28) (v := ?_) rfl (by kernel_rfl) (by kernel_rfl) (by kernel_rfl) (fun _ _ _ h => h) (Or.inl ⟨by rfl, ?_⟩) (by assumption) ?_
        rotate_left
        · (intro w hSw; (try dsimp only at hSw); go_simp; (try with_reducible rfl))
        (try simp only [Act.put, List.getElem_toArray, List.getElem_cons_zero, List.getElem_cons_succ, List.setIfInBounds_toArray, List.set_cons_zero, List.set_cons_succ])
        refine wpAnyH_take (i := 29) (v := ?_) rfl (by kernel_rfl) (by kernel_rfl) (by kernel_rfl) (fun _ _ _ h => h) (Or.inl ⟨by rfl, ?_⟩) (by assumption) ?_
        rotate_left
        · (intro w hSw; (try dsimp only at hSw); go_simp; (try with_reducible rfl))
        (try simp only [Act.put, List.getElem_toArray, List.getElem_cons_zero, List.getElem_cons_succ, List.setIfInBounds_toArray, List.set_cons_zero, List.set_cons_succ])
        refine wpAnyH_take (i := 30) (v := ?_) rfl (by kernel_rfl) (by kernel_rfl) (by kernel_rfl) (fun _ _ _ h => h) (Or.inl ⟨by rfl, ?_⟩) (by assumption) ?_
        rotate_left
        · (intro w hSw; (try dsimp only at hSw); go_simp; (try with_reducible rfl))
        (try simp only [Act.put, List.getElem_toArray, List.getElem_cons_zero, List.getElem_cons_succ, List.setIfInBounds_toArray, List.set_cons_zero, List.set_cons_succ])
        refine wpAnyH_take (i := 31) (v := .string f) rfl (by kernel_rfl) (by kernel_rfl) (by kernel_rfl) (fun _ _ _ h => h) (Or.inl ⟨by rfl, fun w hSw => by (try dsimp only at hSw); go_simp⟩) (by assumption) ?_
        (try simp only [Act.put, List.getElem_toArray, List.getElem_cons_zero, List.getElem_cons_succ, List.setIfInBounds_toArray, List.set_cons_zero, List.set_cons_succ])
        refine wpAnyH_take (i := 32) (v := ?_) rfl (by kernel_rfl) (by kernel_rfl) (by kernel_rfl) (fun _ _ _ h => h) (Or.inl ⟨by rfl, ?_⟩) (by assumption) ?_
        rotate_left
        · (intro w hSw; (try dsimp only at hSw); go_simp; (try with_reducible rfl))
        (try simp only [Act.put, List.getElem_toArray, List.getElem_cons_zero, List.getElem_cons_succ, List.setIfInBounds_toArray, List.set_cons_zero, List.set_cons_succ])
        refine wpAnyH_ready (rs := [33]) (by kernel_rfl) (by simp) ?_
        refine AllReadyH.cons rfl (fun K hK => ?_) AllReadyH.nil
        simp only [List.getElem_toArray, List.getElem_cons_zero, List.getElem_cons_succ]
        go_simp
        with_reducible refine (HHS.out _).mono ?_
        rintro e w12 ⟨rfl, rfl⟩
        refine hK.out _ _ ?_ (fun hHeld => ?_)
        · exact d2
        clear hK K
        (try simp only [Act.put, List.getElem_toArray, List.getElem_cons_zero, List.getElem_cons_succ, List.setIfInBounds_toArray, List.set_cons_zero, List.set_cons_succ])
        refine wpAnyH_take (i := 34) (v := ?_) rfl (by kernel_rfl) (by kernel_rfl) (by kernel_rfl) (fun _ _ _ h => h) (Or.inl ⟨by rfl, ?_⟩) (by assumption) ?_
        rotate_left
        · (intro w hSw; (try dsimp only at hSw); go_simp; (try with_reducible rfl))
        (try simp only [Act.put, List.getElem_toArray, List.getElem_cons_zero, List.getElem_cons_succ, List.setIfInBounds_toArray, List.set_cons_zero, List.set_cons_succ])
        refine wpAnyH_take (i := 35) (v := ?_) rfl (by kernel_rfl) (by kernel_rfl) (by kernel_rfl) (fun _ _ _ h => h) (Or.inl ⟨by rfl, ?_⟩) (by assumption) ?_
        rotate_left
        · (intro w hSw; (try dsimp only at hSw); go_simp; (try with_reducible rfl))
        (try simp only [Act.put, List.getElem_toArray, List.getElem_cons_zero, List.getElem_cons_succ, List.setIfInBounds_toArray, List.set_cons_zero, List.set_cons_succ])
        refine wpAnyH_done (by kernel_rfl) ?_ _
        refine NoPanic.normal ?_
        go_wp2
        go_ret
        exact ⟨rfl, Below.drew B11⟩
theorem walk (x : Ld) (q : LdA) (y : Og)
    (w : World) (h0 : LdIn w x q) (hr : rgLd x) (hy : rgOg y) (hl : x.de.length ≤ 140737488355328 ∧ x.ho.length ≤ 140737488355328 ∧ x.sy.length ≤ 140737488355328 ∧ x.ca.length ≤ 140737488355328 ∧ x.ma.length ≤ 140737488355328 ∧ x.og.length ≤ 140737488355328) :
    Calls Tryd.prog 3 #[.agg (ldC x q), .agg (ogC y)] w fun e w' => e = .returned (.bool true) ∧ Below w.heap.size w w' := by
  cases hok : okLd x with
  | false => exact walk_err x q y hok (mor_less hok) w h0 hr hy hl
  | true =>
    cases hom : okLd (morL x y) with
    | false => exact walk_why x q y hok hom w h0 hr hy hl
    | true => exact walk_ok x q y hok hom w h0 hr hy hl

end Go.Proofs.YtcijhmbimbejfaaDoor.lldpMore

namespace Go.Proofs.YtcijhmbimbejfaaDoor
open Go.RowKit Go.WideShapes Go.ChangeShapes

/-- The specification is met: one result, which reads as told; the arguments and the named variables read as they did; old memory is as it was. -/
theorem met_below {P : Program} {H : Type} {enc : TypeId × Value → H} {f : Func} {s : ChangeSpec} {apart fresh handsOn again : Bool} {W W' : World} {args : Array Value} {v : Value} {ds gs : List (DataW H)} {places : List MemPlace}
    (whole : DataW.Whole enc P f.params.toList s.vars apart W args.toList ds gs places)
    (results : ∀ (b : Nat) (sp : Nat → Bool) (hd : Bool), DataW.TrodAll enc P W' b sp hd f.resultTypes.toList (v.resultList f.resultTypes.size) (s.fn H (ds ++ gs)).results [])
    (arguments : ∀ sp : Nat → Bool, (∀ p ∈ places, sp p.block = true) → DataW.TrodAll enc P W' 0 sp true f.params.toList args.toList (s.fn H (ds ++ gs)).args places)
    (variables : ∀ sp : Nat → Bool, DataW.TrodVars enc P W' sp s.vars (s.fn H (ds ++ gs)).vars [])
    (below : Below W.heap.size W W')
    (formed : ∀ (j : Nat) (t : TypeId) (r : Value), f.resultTypes[j]? = some t → (v.resultList f.resultTypes.size)[j]? = some r → Value.okWide P W' .any 0 t r) :
    s.post enc P f apart fresh handsOn again W args v W' := by
  have old : ∀ p ∈ places, p.block < W.heap.size := fun p hp => whole.lt p hp
  have oldB : ∀ p ∈ places, (fun b => decide (b < W.heap.size)) p.block = true := fun p hp => decide_eq_true (old p hp)
  obtain ⟨_, _, _, _, _, unfrozen, once⟩ := id whole
  refine ⟨ds, gs, places, [], places, [], whole, results _ _ _, arguments _ oldB, variables _, below.frame _, fun _ => ⟨formed, _, _, ([] ++ places) ++ [], ⟨[] ++ places, [], trodAll_append (arguments _ fun _ _ => rfl) (results _ _ _), variables _, rfl, fun b off hp => ?_, fun ha => by simpa using once ha⟩, fun p hp _ => by simpa using hp⟩⟩
  have hin : MemPlace.cell b off ∈ places := by simpa using hp
  exact (below.frozen (p := ⟨b, off, none⟩) (old _ hin)).trans (unfrozen b off hin)

end Go.Proofs.YtcijhmbimbejfaaDoor

namespace Go.Proofs.YtcijhmbimbejfaaDoor
open Go.ChangeShapes Go.WideShapes Go.ChangeAt Go.RowKit

theorem own : ownKnob Tryd.prog.godebug = none := by kernel_rfl

/-- The cells that a flat datum of integers lays. -/
def cellsOfDatum : DataW Unit → Array Value
  | .agg l => (l.map fun d => match d with | .lit (.int k n) => Value.int k n | _ => .int .u8 0).toArray
  | _ => #[]

/-- The door's own heap, and Go's own table beside it. -/
noncomputable def laidWorld (os : Os) : World :=
  let w0 := World.doorLaid Tryd.prog 400 os
  { w0 with heap := w0.heap.modify 0 fun | .cells _ t fr => .cells (cellsOfDatum Go.Pinned.utf8First) t fr | o => o }

end Go.Proofs.YtcijhmbimbejfaaDoor

namespace Go.Proofs.YtcijhmbimbejfaaDoor
open Go.ChangeShapes Go.WideShapes Go.ChangeAt Go.RowKit Go.Deep Go.Joins
set_option linter.unusedVariables false

theorem listW2 {α : Type} (l : List α) (h : l.length = 2) : ∃ c0 c1, l = [c0, c1] := by
  match l, h with
  | [c0, c1], _ => exact ⟨c0, c1, rfl⟩
theorem listW3 {α : Type} (l : List α) (h : l.length = 3) : ∃ c0 c1 c2, l = [c0, c1, c2] := by
  match l, h with
  | [c0, c1, c2], _ => exact ⟨c0, c1, c2, rfl⟩
theorem listW4 {α : Type} (l : List α) (h : l.length = 4) : ∃ c0 c1 c2 c3, l = [c0, c1, c2, c3] := by
  match l, h with
  | [c0, c1, c2, c3], _ => exact ⟨c0, c1, c2, c3, rfl⟩
theorem listW5 {α : Type} (l : List α) (h : l.length = 5) : ∃ c0 c1 c2 c3 c4, l = [c0, c1, c2, c3, c4] := by
  match l, h with
  | [c0, c1, c2, c3, c4], _ => exact ⟨c0, c1, c2, c3, c4, rfl⟩
theorem listW9 {α : Type} (l : List α) (h : l.length = 9) : ∃ c0 c1 c2 c3 c4 c5 c6 c7 c8, l = [c0, c1, c2, c3, c4, c5, c6, c7, c8] := by
  match l, h with
  | [c0, c1, c2, c3, c4, c5, c6, c7, c8], _ => exact ⟨c0, c1, c2, c3, c4, c5, c6, c7, c8, rfl⟩
theorem listW11 {α : Type} (l : List α) (h : l.length = 11) : ∃ c0 c1 c2 c3 c4 c5 c6 c7 c8 c9 c10, l = [c0, c1, c2, c3, c4, c5, c6, c7, c8, c9, c10] := by
  match l, h with
  | [c0, c1, c2, c3, c4, c5, c6, c7, c8, c9, c10], _ => exact ⟨c0, c1, c2, c3, c4, c5, c6, c7, c8, c9, c10, rfl⟩
set_option maxRecDepth 100000 in
theorem nm_trod {H : Type} {enc : TypeId × Value → H} {W : World} {base fuel : Nat} {sp : Nat → Bool} {held : Bool} {c0 c1 : Value} {y : DataW H × List MemPlace}
    (h : DataW.trod enc Tryd.prog W base sp held fuel 23 [c0, c1] = some y) : ∃ x : Nm, rgNm x ∧ [c0, c1] = (nmC x).toList := by
  have _h2 : Tryd.prog.cellsOf 3 = 1 := by kernel_rfl
  have _h3 : Tryd.prog.cellsOf 9 = 1 := by kernel_rfl
  obtain ⟨xs, n, _, hx, _, hlen, hg⟩ := DataW.trod_struct Tryd.underlying23 h
  obtain ⟨y0, y1, rfl⟩ := listW2 xs hlen
  have g0 := hg 0 _ rfl
  have g1 := hg 1 _ rfl
  obtain ⟨x0, e0, _, wf0⟩ := DataW.trod_int Tryd.underlying3 g0
  obtain rfl : c0 = .int .i64 x0 := (List.cons.inj (show [c0] = [.int .i64 x0] from e0)).1
  obtain ⟨x1, e1, q1, sb1⟩ := DataW.trod_string Tryd.underlying9 g1
  obtain rfl : c1 = .string x1 := (List.cons.inj (show [c1] = [.string x1] from e1)).1
  exact ⟨⟨x0, x1⟩, ⟨bounds_i64 wf0, sb1⟩, rfl⟩

set_option maxRecDepth 100000 in
theorem cp_trod {H : Type} {enc : TypeId × Value → H} {W : World} {base fuel : Nat} {sp : Nat → Bool} {held : Bool} {c0 c1 : Value} {y : DataW H × List MemPlace}
    (h : DataW.trod enc Tryd.prog W base sp held fuel 65 [c0, c1] = some y) : ∃ x : Cp, rgCp x ∧ [c0, c1] = (cpC x).toList := by
  have _h2 : Tryd.prog.cellsOf 3 = 1 := by kernel_rfl
  have _h3 : Tryd.prog.cellsOf 9 = 1 := by kernel_rfl
  obtain ⟨xs, n, _, hx, _, hlen, hg⟩ := DataW.trod_struct Tryd.underlying65 h
  obtain ⟨y0, y1, rfl⟩ := listW2 xs hlen
  have g0 := hg 0 _ rfl
  have g1 := hg 1 _ rfl
  obtain ⟨x0, e0, _, wf0⟩ := DataW.trod_int Tryd.underlying3 g0
  obtain rfl : c0 = .int .i64 x0 := (List.cons.inj (show [c0] = [.int .i64 x0] from e0)).1
  obtain ⟨x1, e1, _, wf1⟩ := DataW.trod_int Tryd.underlying3 g1
  obtain rfl : c1 = .int .i64 x1 := (List.cons.inj (show [c1] = [.int .i64 x1] from e1)).1
  exact ⟨⟨x0, x1⟩, ⟨bounds_i64 wf0, bounds_i64 wf1⟩, rfl⟩

/- A cell that reads as a list of capabilities. -/
set_option maxRecDepth 100000 in
theorem cps_cell {H : Type} {enc : TypeId × Value → H} {W : World} {fuel : Nat} {z0 : Value} {y : DataW H × List MemPlace}
    (hf : DataW.trod enc Tryd.prog W 0 (fun _ => true) true fuel 25 [z0] = some y) : ∃ (a : Option Addr) (c : Nat) (l : List Cp), z0 = .slice a l.length c ∧ l.length ≤ c ∧ c ≤ maxLen ∧ CpIn W a l ∧ (∀ x ∈ l, rgCp x) ∧ (l = [] ∨ ∃ es sp, y.1 = .slice es sp ∧ l.length ≤ es.length + sp.length) := by
  have hs : Tryd.prog.underlying 25 = some (.slice 65) := by kernel_rfl
  have hc3 : Tryd.prog.cellsOf 65 = 2 := by kernel_rfl
  rcases open_slice hs hf with ⟨hc, hx⟩ | ⟨b, n, c, m, k, D, Pl, hc, hb, hl, hm, hmm, hx, hall⟩
  · simp at hc
    subst hc
    exact ⟨none, 0, [], rfl, Nat.le_refl _, by decide, Or.inl rfl, by simp, Or.inl rfl⟩
  · simp at hc
    subst hc
    have hlm : n ≤ m := by rw [hmm]; split <;> omega
    have hw : ∃ es sp, y.1 = .slice es sp ∧ es.length + sp.length = m := by
      rw [hx]
      refine ⟨_, _, rfl, ?_⟩
      simp
      omega
    have each : ∀ i, i < n → ∃ t : Cp, rgCp t ∧ ∀ (j : Nat) (x : Value), (cpC t)[j]? = some x → W.cell? (b.add (i * 2 + j)) = some x := by
      intro i hi
      obtain ⟨cs', h1, h2⟩ := hall i (by omega)
      rw [hc3] at h1
      obtain ⟨_, hlen, hcell⟩ := World.cells?_some h1
      obtain ⟨c0, c1, rfl⟩ := listW2 cs' hlen
      obtain ⟨t, ht, he⟩ := cp_trod h2
      refine ⟨t, ht, fun j x hj => ?_⟩
      have hj2 : j < 2 := (Array.getElem?_eq_some_iff.1 hj).1
      have g := hcell j (by omega)
      rw [add_add] at g
      rw [g]
      have e2 : ([c0, c1] : List Value)[j]? = some x := by rw [he]; simpa using hj
      exact e2
    obtain ⟨z, hz⟩ := choose_lt each
    obtain ⟨bb, bo, bs⟩ := b
    rcases Nat.eq_zero_or_pos n with rfl | q0
    · exact ⟨some ⟨bb, bo, bs⟩, c, [], rfl, hl, hm, Or.inl rfl, by simp, Or.inl rfl⟩
    have h0 := (hz 0 q0).2 0 _ rfl
    have hspot : bs = none := by simpa [Addr.add] using World.cell?_spot h0
    subst hspot
    refine ⟨some ⟨bb, bo, none⟩, c, (List.range n).map z, by simp, by simpa using hl, hm, Or.inr ⟨bb, bo, rfl, ?_, fun j hj k x hx => ?_⟩, ?_, Or.inr (by obtain ⟨es, sp, h1, h2⟩ := hw; exact ⟨es, sp, h1, by simp; omega⟩)⟩
    · have := World.block_lt_of_cell? W _ h0
      simpa [Addr.add] using this
    · have hj' : j < n := by simpa using hj
      simp only [List.getElem_map, List.getElem_range] at hx
      have e0 := (hz j hj').2 k x hx
      rw [add_plain] at e0
      rw [Nat.add_assoc]
      exact e0
    · intro v hv
      obtain ⟨j, hj, rfl⟩ := List.mem_map.1 hv
      exact (hz j (List.mem_range.1 hj)).1


set_option maxRecDepth 100000 in
theorem mg_trod {H : Type} {enc : TypeId × Value → H} {W : World} {base fuel : Nat} {sp : Nat → Bool} {held : Bool} {c0 c1 c2 c3 c4 : Value} {y : DataW H × List MemPlace}
    (h : DataW.trod enc Tryd.prog W base sp held fuel 68 [c0, c1, c2, c3, c4] = some y) : ∃ x : Mg, rgMg x ∧ [c0, c1, c2, c3, c4] = (mgC x).toList := by
  have _h2 : Tryd.prog.cellsOf 3 = 1 := by kernel_rfl
  have _h3 : Tryd.prog.cellsOf 9 = 1 := by kernel_rfl
  have _h4 : Tryd.prog.cellsOf 23 = 2 := by kernel_rfl
  obtain ⟨xs, n, _, hx, _, hlen, hg⟩ := DataW.trod_struct Tryd.underlying68 h
  obtain ⟨y0, y1, y2, y3, rfl⟩ := listW4 xs hlen
  have g0 := hg 0 _ rfl
  have g1 := hg 1 _ rfl
  have g2 := hg 2 _ rfl
  have g3 := hg 3 _ rfl
  obtain ⟨z0, rz0, ez0⟩ := nm_trod g0
  simp only [nmC, List.cons.injEq, and_true] at ez0
  obtain ⟨rfl, rfl⟩ := ez0
  obtain ⟨x1, e1, _, wf1⟩ := DataW.trod_int Tryd.underlying3 g1
  obtain rfl : c2 = .int .i64 x1 := (List.cons.inj (show [c2] = [.int .i64 x1] from e1)).1
  obtain ⟨x2, e2, _, wf2⟩ := DataW.trod_int Tryd.underlying3 g2
  obtain rfl : c3 = .int .i64 x2 := (List.cons.inj (show [c3] = [.int .i64 x2] from e2)).1
  obtain ⟨x3, e3, q3, sb3⟩ := DataW.trod_string Tryd.underlying9 g3
  obtain rfl : c4 = .string x3 := (List.cons.inj (show [c4] = [.string x3] from e3)).1
  exact ⟨⟨z0.su, z0.id, x1, x2, x3⟩, ⟨rz0.1, bounds_i64 wf1, bounds_i64 wf2, rz0.2, sb3⟩, rfl⟩

/- A cell that reads as a list of ways to manage. -/
set_option maxRecDepth 100000 in
theorem mgs_cell {H : Type} {enc : TypeId × Value → H} {W : World} {fuel : Nat} {z0 : Value} {y : DataW H × List MemPlace}
    (hf : DataW.trod enc Tryd.prog W 0 (fun _ => true) true fuel 26 [z0] = some y) : ∃ (a : Option Addr) (c : Nat) (l : List Mg), z0 = .slice a l.length c ∧ l.length ≤ c ∧ c ≤ maxLen ∧ MgIn W a l ∧ (∀ x ∈ l, rgMg x) ∧ (l = [] ∨ ∃ es sp, y.1 = .slice es sp ∧ l.length ≤ es.length + sp.length) := by
  have hs : Tryd.prog.underlying 26 = some (.slice 68) := by kernel_rfl
  have hc3 : Tryd.prog.cellsOf 68 = 5 := by kernel_rfl
  rcases open_slice hs hf with ⟨hc, hx⟩ | ⟨b, n, c, m, k, D, Pl, hc, hb, hl, hm, hmm, hx, hall⟩
  · simp at hc
    subst hc
    exact ⟨none, 0, [], rfl, Nat.le_refl _, by decide, Or.inl rfl, by simp, Or.inl rfl⟩
  · simp at hc
    subst hc
    have hlm : n ≤ m := by rw [hmm]; split <;> omega
    have hw : ∃ es sp, y.1 = .slice es sp ∧ es.length + sp.length = m := by
      rw [hx]
      refine ⟨_, _, rfl, ?_⟩
      simp
      omega
    have each : ∀ i, i < n → ∃ t : Mg, rgMg t ∧ ∀ (j : Nat) (x : Value), (mgC t)[j]? = some x → W.cell? (b.add (i * 5 + j)) = some x := by
      intro i hi
      obtain ⟨cs', h1, h2⟩ := hall i (by omega)
      rw [hc3] at h1
      obtain ⟨_, hlen, hcell⟩ := World.cells?_some h1
      obtain ⟨c0, c1, c2, c3, c4, rfl⟩ := listW5 cs' hlen
      obtain ⟨t, ht, he⟩ := mg_trod h2
      refine ⟨t, ht, fun j x hj => ?_⟩
      have hj2 : j < 5 := (Array.getElem?_eq_some_iff.1 hj).1
      have g := hcell j (by omega)
      rw [add_add] at g
      rw [g]
      have e2 : ([c0, c1, c2, c3, c4] : List Value)[j]? = some x := by rw [he]; simpa using hj
      exact e2
    obtain ⟨z, hz⟩ := choose_lt each
    obtain ⟨bb, bo, bs⟩ := b
    rcases Nat.eq_zero_or_pos n with rfl | q0
    · exact ⟨some ⟨bb, bo, bs⟩, c, [], rfl, hl, hm, Or.inl rfl, by simp, Or.inl rfl⟩
    have h0 := (hz 0 q0).2 0 _ rfl
    have hspot : bs = none := by simpa [Addr.add] using World.cell?_spot h0
    subst hspot
    refine ⟨some ⟨bb, bo, none⟩, c, (List.range n).map z, by simp, by simpa using hl, hm, Or.inr ⟨bb, bo, rfl, ?_, fun j hj k x hx => ?_⟩, ?_, Or.inr (by obtain ⟨es, sp, h1, h2⟩ := hw; exact ⟨es, sp, h1, by simp; omega⟩)⟩
    · have := World.block_lt_of_cell? W _ h0
      simpa [Addr.add] using this
    · have hj' : j < n := by simpa using hj
      simp only [List.getElem_map, List.getElem_range] at hx
      have e0 := (hz j hj').2 k x hx
      rw [add_plain] at e0
      rw [Nat.add_assoc]
      exact e0
    · intro v hv
      obtain ⟨j, hj, rfl⟩ := List.mem_map.1 hv
      exact (hz j (List.mem_range.1 hj)).1


set_option maxRecDepth 100000 in
theorem og_trod {H : Type} {enc : TypeId × Value → H} {W : World} {base fuel : Nat} {sp : Nat → Bool} {held : Bool} {c0 c1 c2 : Value} {y : DataW H × List MemPlace}
    (h : DataW.trod enc Tryd.prog W base sp held fuel 31 [c0, c1, c2] = some y) : ∃ x : Og, rgOg x ∧ [c0, c1, c2] = (ogC x).toList := by
  have _h2 : Tryd.prog.cellsOf 3 = 1 := by kernel_rfl
  have _h3 : Tryd.prog.cellsOf 9 = 1 := by kernel_rfl
  obtain ⟨xs, n, _, hx, _, hlen, hg⟩ := DataW.trod_struct Tryd.underlying31 h
  obtain ⟨y0, y1, y2, rfl⟩ := listW3 xs hlen
  have g0 := hg 0 _ rfl
  have g1 := hg 1 _ rfl
  have g2 := hg 2 _ rfl
  obtain ⟨x0, e0, _, wf0⟩ := DataW.trod_int Tryd.underlying3 g0
  obtain rfl : c0 = .int .i64 x0 := (List.cons.inj (show [c0] = [.int .i64 x0] from e0)).1
  obtain ⟨x1, e1, _, wf1⟩ := DataW.trod_int Tryd.underlying3 g1
  obtain rfl : c1 = .int .i64 x1 := (List.cons.inj (show [c1] = [.int .i64 x1] from e1)).1
  obtain ⟨x2, e2, q2, sb2⟩ := DataW.trod_string Tryd.underlying9 g2
  obtain rfl : c2 = .string x2 := (List.cons.inj (show [c2] = [.string x2] from e2)).1
  exact ⟨⟨x0, x1, x2⟩, ⟨bounds_i64 wf0, bounds_i64 wf1, sb2⟩, rfl⟩

/- A cell that reads as a list of what organisations tell. -/
set_option maxRecDepth 100000 in
theorem ogs_cell {H : Type} {enc : TypeId × Value → H} {W : World} {fuel : Nat} {z0 : Value} {y : DataW H × List MemPlace}
    (hf : DataW.trod enc Tryd.prog W 0 (fun _ => true) true fuel 27 [z0] = some y) : ∃ (a : Option Addr) (c : Nat) (l : List Og), z0 = .slice a l.length c ∧ l.length ≤ c ∧ c ≤ maxLen ∧ OgIn W a l ∧ (∀ x ∈ l, rgOg x) ∧ (l = [] ∨ ∃ es sp, y.1 = .slice es sp ∧ l.length ≤ es.length + sp.length) := by
  have hs : Tryd.prog.underlying 27 = some (.slice 31) := by kernel_rfl
  have hc3 : Tryd.prog.cellsOf 31 = 3 := by kernel_rfl
  rcases open_slice hs hf with ⟨hc, hx⟩ | ⟨b, n, c, m, k, D, Pl, hc, hb, hl, hm, hmm, hx, hall⟩
  · simp at hc
    subst hc
    exact ⟨none, 0, [], rfl, Nat.le_refl _, by decide, Or.inl rfl, by simp, Or.inl rfl⟩
  · simp at hc
    subst hc
    have hlm : n ≤ m := by rw [hmm]; split <;> omega
    have hw : ∃ es sp, y.1 = .slice es sp ∧ es.length + sp.length = m := by
      rw [hx]
      refine ⟨_, _, rfl, ?_⟩
      simp
      omega
    have each : ∀ i, i < n → ∃ t : Og, rgOg t ∧ ∀ (j : Nat) (x : Value), (ogC t)[j]? = some x → W.cell? (b.add (i * 3 + j)) = some x := by
      intro i hi
      obtain ⟨cs', h1, h2⟩ := hall i (by omega)
      rw [hc3] at h1
      obtain ⟨_, hlen, hcell⟩ := World.cells?_some h1
      obtain ⟨c0, c1, c2, rfl⟩ := listW3 cs' hlen
      obtain ⟨t, ht, he⟩ := og_trod h2
      refine ⟨t, ht, fun j x hj => ?_⟩
      have hj2 : j < 3 := (Array.getElem?_eq_some_iff.1 hj).1
      have g := hcell j (by omega)
      rw [add_add] at g
      rw [g]
      have e2 : ([c0, c1, c2] : List Value)[j]? = some x := by rw [he]; simpa using hj
      exact e2
    obtain ⟨z, hz⟩ := choose_lt each
    obtain ⟨bb, bo, bs⟩ := b
    rcases Nat.eq_zero_or_pos n with rfl | q0
    · exact ⟨some ⟨bb, bo, bs⟩, c, [], rfl, hl, hm, Or.inl rfl, by simp, Or.inl rfl⟩
    have h0 := (hz 0 q0).2 0 _ rfl
    have hspot : bs = none := by simpa [Addr.add] using World.cell?_spot h0
    subst hspot
    refine ⟨some ⟨bb, bo, none⟩, c, (List.range n).map z, by simp, by simpa using hl, hm, Or.inr ⟨bb, bo, rfl, ?_, fun j hj k x hx => ?_⟩, ?_, Or.inr (by obtain ⟨es, sp, h1, h2⟩ := hw; exact ⟨es, sp, h1, by simp; omega⟩)⟩
    · have := World.block_lt_of_cell? W _ h0
      simpa [Addr.add] using this
    · have hj' : j < n := by simpa using hj
      simp only [List.getElem_map, List.getElem_range] at hx
      have e0 := (hz j hj').2 k x hx
      rw [add_plain] at e0
      rw [Nat.add_assoc]
      exact e0
    · intro v hv
      obtain ⟨j, hj, rfl⟩ := List.mem_map.1 hv
      exact (hz j (List.mem_range.1 hj)).1


theorem listW1 {α : Type} (l : List α) (h : l.length = 1) : ∃ c0, l = [c0] := by
  match l, h with
  | [c0], _ => exact ⟨c0, rfl⟩
theorem st_trod {H : Type} {enc : TypeId × Value → H} {W : World} {base fuel : Nat} {sp : Nat → Bool} {held : Bool} {c0 : Value} {y : DataW H × List MemPlace}
    (h : DataW.trod enc Tryd.prog W base sp held fuel 9 [c0] = some y) : ∃ x : ByteArray, x.size ≤ maxLen ∧ [c0] = (stC x).toList := by
  obtain ⟨x1, e1, q1, sb1⟩ := DataW.trod_string Tryd.underlying9 h
  obtain rfl : c0 = .string x1 := (List.cons.inj (show [c0] = [.string x1] from e1)).1
  exact ⟨x1, sb1, rfl⟩
/- A cell that reads as a list of capabilities. -/
set_option maxRecDepth 100000 in
theorem sts_cell {H : Type} {enc : TypeId × Value → H} {W : World} {fuel : Nat} {z0 : Value} {y : DataW H × List MemPlace}
    (hf : DataW.trod enc Tryd.prog W 0 (fun _ => true) true fuel 24 [z0] = some y) : ∃ (a : Option Addr) (c : Nat) (l : List ByteArray), z0 = .slice a l.length c ∧ l.length ≤ c ∧ c ≤ maxLen ∧ StIn W a l ∧ (∀ x ∈ l, x.size ≤ maxLen) ∧ (l = [] ∨ ∃ es sp, y.1 = .slice es sp ∧ l.length ≤ es.length + sp.length) := by
  have hs : Tryd.prog.underlying 24 = some (.slice 9) := by kernel_rfl
  have hc3 : Tryd.prog.cellsOf 9 = 1 := by kernel_rfl
  rcases open_slice hs hf with ⟨hc, hx⟩ | ⟨b, n, c, m, k, D, Pl, hc, hb, hl, hm, hmm, hx, hall⟩
  · simp at hc
    subst hc
    exact ⟨none, 0, [], rfl, Nat.le_refl _, by decide, Or.inl rfl, by simp, Or.inl rfl⟩
  · simp at hc
    subst hc
    have hlm : n ≤ m := by rw [hmm]; split <;> omega
    have hw : ∃ es sp, y.1 = .slice es sp ∧ es.length + sp.length = m := by
      rw [hx]
      refine ⟨_, _, rfl, ?_⟩
      simp
      omega
    have each : ∀ i, i < n → ∃ t : ByteArray, t.size ≤ maxLen ∧ ∀ (j : Nat) (x : Value), (stC t)[j]? = some x → W.cell? (b.add (i * 1 + j)) = some x := by
      intro i hi
      obtain ⟨cs', h1, h2⟩ := hall i (by omega)
      rw [hc3] at h1
      obtain ⟨_, hlen, hcell⟩ := World.cells?_some h1
      obtain ⟨c0, rfl⟩ := listW1 cs' hlen
      obtain ⟨t, ht, he⟩ := st_trod h2
      refine ⟨t, ht, fun j x hj => ?_⟩
      have hj2 : j < 1 := (Array.getElem?_eq_some_iff.1 hj).1
      have g := hcell j (by omega)
      rw [add_add] at g
      rw [g]
      have e2 : ([c0] : List Value)[j]? = some x := by rw [he]; simpa using hj
      exact e2
    obtain ⟨z, hz⟩ := choose_lt each
    obtain ⟨bb, bo, bs⟩ := b
    rcases Nat.eq_zero_or_pos n with rfl | q0
    · exact ⟨some ⟨bb, bo, bs⟩, c, [], rfl, hl, hm, Or.inl rfl, by simp, Or.inl rfl⟩
    have h0 := (hz 0 q0).2 0 _ rfl
    have hspot : bs = none := by simpa [Addr.add] using World.cell?_spot h0
    subst hspot
    refine ⟨some ⟨bb, bo, none⟩, c, (List.range n).map z, by simp, by simpa using hl, hm, Or.inr ⟨bb, bo, rfl, ?_, fun j hj k x hx => ?_⟩, ?_, Or.inr (by obtain ⟨es, sp, h1, h2⟩ := hw; exact ⟨es, sp, h1, by simp; omega⟩)⟩
    · have := World.block_lt_of_cell? W _ h0
      simpa [Addr.add] using this
    · have hj' : j < n := by simpa using hj
      simp only [List.getElem_map, List.getElem_range] at hx
      have e0 := (hz j hj').2 k x hx
      rw [add_plain] at e0
      rw [Nat.add_assoc]
      exact e0
    · intro v hv
      obtain ⟨j, hj, rfl⟩ := List.mem_map.1 hv
      exact (hz j (List.mem_range.1 hj)).1



/-- Lists as long as may be reached. -/
def lenL (x : Ld) : Prop := x.de.length ≤ 140737488355328 ∧ x.ho.length ≤ 140737488355328 ∧ x.sy.length ≤ 140737488355328 ∧ x.ca.length ≤ 140737488355328 ∧ x.ma.length ≤ 140737488355328 ∧ x.og.length ≤ 140737488355328
theorem weights_ofL {H : Type} {P : Program} {ts : List TypeId} {ds : List (DataW H)} (h : (DataW.weightsEach P ts ds).all (· ≤ reachBytes) = true) {j : Nat} {t : TypeId} {d : DataW H} (ht : ts[j]? = some t) (hd : ds[j]? = some d) : ∀ n ∈ d.weights P t, n ≤ reachBytes := fun m hm => by
  have := List.all_eq_true.1 h m (DataW.weights_mem_each ht hd m hm)
  simpa using this
set_option maxRecDepth 100000 in
theorem open_og {H : Type} {enc : TypeId × Value → H} {W : World} {base : Nat} {v : Value} {d : DataW H} {p : List MemPlace} (hval : Value.okWide Tryd.prog W .any base 31 v)
    (h : DataW.Trod enc Tryd.prog W 0 (fun _ => true) true 31 v d p) : ∃ x : Og, rgOg x ∧ v = .agg (ogC x) := by
  have hcn : Tryd.prog.cellsOf 31 = 3 := by kernel_rfl
  obtain ⟨cs, rfl, hsz⟩ := okWide_struct Tryd.underlying31 hval
  rw [hcn] at hsz
  obtain ⟨l⟩ := cs
  obtain ⟨c0, c1, c2, rfl⟩ := listW3 l hsz
  obtain ⟨fuel, hf⟩ := h
  have h : DataW.trod enc Tryd.prog W 0 (fun _ => true) true fuel 31 [c0, c1, c2] = some (d, p) := by simpa [Value.cells] using hf
  obtain ⟨x, hr, he⟩ := og_trod h
  refine ⟨x, hr, ?_⟩
  rw [he]
set_option maxRecDepth 100000 in
theorem open_ld {H : Type} {enc : TypeId × Value → H} {W : World} {base : Nat} {v : Value} {d : DataW H} {p : List MemPlace} (hval : Value.okWide Tryd.prog W .any base 29 v)
    (h : DataW.Trod enc Tryd.prog W 0 (fun _ => true) true 29 v d p) : ∃ (x : Ld) (q : LdA), (rgLd x ∧ LdIn W x q ∧ ((∀ k ∈ d.weights Tryd.prog 29, k ≤ reachBytes) → lenL x) ∧ (∀ y ∈ x.de, y.size ≤ maxLen) ∧ (∀ y ∈ x.ho, y.size ≤ maxLen) ∧ (∀ y ∈ x.sy, y.size ≤ maxLen)) ∧ v = .agg (ldC x q) := by
  have hcn : Tryd.prog.cellsOf 29 = 11 := by kernel_rfl
  have _h1 : Tryd.prog.cellsOf 23 = 2 := by kernel_rfl
  have _h2 : Tryd.prog.cellsOf 3 = 1 := by kernel_rfl
  have _h3 : Tryd.prog.cellsOf 24 = 1 := by kernel_rfl
  have _h4 : Tryd.prog.cellsOf 25 = 1 := by kernel_rfl
  have _h5 : Tryd.prog.cellsOf 26 = 1 := by kernel_rfl
  have _h6 : Tryd.prog.cellsOf 27 = 1 := by kernel_rfl
  obtain ⟨cs, rfl, hsz⟩ := okWide_struct Tryd.underlying29 hval
  rw [hcn] at hsz
  obtain ⟨l⟩ := cs
  obtain ⟨c0, c1, c2, c3, c4, c5, c6, c7, c8, c9, c10, rfl⟩ := listW11 l hsz
  obtain ⟨fuel, hf⟩ := h
  have h : DataW.trod enc Tryd.prog W 0 (fun _ => true) true fuel 29 [c0, c1, c2, c3, c4, c5, c6, c7, c8, c9, c10] = some (d, p) := by simpa [Value.cells] using hf
  obtain ⟨xs, n, _, hx, _, hlen, hg⟩ := DataW.trod_struct Tryd.underlying29 h
  obtain ⟨y0, y1, y2, y3, y4, y5, y6, y7, y8, rfl⟩ := listW9 xs hlen
  have g0 := hg 0 _ rfl
  have g1 := hg 1 _ rfl
  have g2 := hg 2 _ rfl
  have g3 := hg 3 _ rfl
  have g4 := hg 4 _ rfl
  have g5 := hg 5 _ rfl
  have g6 := hg 6 _ rfl
  have g7 := hg 7 _ rfl
  have g8 := hg 8 _ rfl
  obtain ⟨z0, rz0, ez0⟩ := nm_trod g0
  simp only [nmC, List.cons.injEq, and_true] at ez0
  obtain ⟨rfl, rfl⟩ := ez0
  obtain ⟨z1, rz1, ez1⟩ := nm_trod g1
  simp only [nmC, List.cons.injEq, and_true] at ez1
  obtain ⟨rfl, rfl⟩ := ez1
  obtain ⟨x2, e2, _, wf2⟩ := DataW.trod_int Tryd.underlying3 g2
  obtain rfl : c4 = .int .i64 x2 := (List.cons.inj (show [c4] = [.int .i64 x2] from e2)).1
  obtain ⟨a3, k3, l3, rfl, hlc3, hcm3, hin3, hall3, hwt3⟩ := sts_cell g3
  obtain ⟨a4, k4, l4, rfl, hlc4, hcm4, hin4, hall4, hwt4⟩ := sts_cell g4
  obtain ⟨a5, k5, l5, rfl, hlc5, hcm5, hin5, hall5, hwt5⟩ := sts_cell g5
  obtain ⟨a6, k6, l6, rfl, hlc6, hcm6, hin6, hall6, hwt6⟩ := cps_cell g6
  obtain ⟨a7, k7, l7, rfl, hlc7, hcm7, hin7, hall7, hwt7⟩ := mgs_cell g7
  obtain ⟨a8, k8, l8, rfl, hlc8, hcm8, hin8, hall8, hwt8⟩ := ogs_cell g8
  have hw : (∀ k ∈ d.weights Tryd.prog 29, k ≤ reachBytes) → lenL ⟨z0, z1, x2, l3, l4, l5, l6, l7, l8⟩ := fun hw => by
    simp only [Prod.mk.injEq] at hx
    have hd : d = .agg [y0.1, y1.1, y2.1, y3.1, y4.1, y5.1, y6.1, y7.1, y8.1] := hx.1
    rw [hd] at hw
    have hW : DataW.weights Tryd.prog 29 (.agg [y0.1, y1.1, y2.1, y3.1, y4.1, y5.1, y6.1, y7.1, y8.1]) = DataW.weightsEach Tryd.prog [23, 23, 3, 24, 24, 24, 25, 26, 27] [y0.1, y1.1, y2.1, y3.1, y4.1, y5.1, y6.1, y7.1, y8.1] := by
      rw [DataW.weights, Tryd.underlying29]
      rfl
    rw [hW] at hw
    have hr : reachBytes ≤ 140737488355328 := by decide
    have n3 : l3.length ≤ 140737488355328 := by
      have hs : Tryd.prog.underlying 24 = some (.slice 9) := by kernel_rfl
      have hby : 1 ≤ Tryd.prog.bytesOf 9 := of_decide_eq_true (by kernel_rfl)
      rcases hwt3 with h0 | ⟨es, sp, hy, hl⟩
      · rw [h0]; exact Nat.zero_le _
      · have h1 := hw ((es.length + sp.length) * Tryd.prog.bytesOf 9) (DataW.weights_mem_each (j := 3) rfl rfl _ (by rw [hy]; simp [DataW.weights, hs]))
        have h2 : (es.length + sp.length) * 1 ≤ (es.length + sp.length) * Tryd.prog.bytesOf 9 := Nat.mul_le_mul_left _ hby
        omega
    have n4 : l4.length ≤ 140737488355328 := by
      have hs : Tryd.prog.underlying 24 = some (.slice 9) := by kernel_rfl
      have hby : 1 ≤ Tryd.prog.bytesOf 9 := of_decide_eq_true (by kernel_rfl)
      rcases hwt4 with h0 | ⟨es, sp, hy, hl⟩
      · rw [h0]; exact Nat.zero_le _
      · have h1 := hw ((es.length + sp.length) * Tryd.prog.bytesOf 9) (DataW.weights_mem_each (j := 4) rfl rfl _ (by rw [hy]; simp [DataW.weights, hs]))
        have h2 : (es.length + sp.length) * 1 ≤ (es.length + sp.length) * Tryd.prog.bytesOf 9 := Nat.mul_le_mul_left _ hby
        omega
    have n5 : l5.length ≤ 140737488355328 := by
      have hs : Tryd.prog.underlying 24 = some (.slice 9) := by kernel_rfl
      have hby : 1 ≤ Tryd.prog.bytesOf 9 := of_decide_eq_true (by kernel_rfl)
      rcases hwt5 with h0 | ⟨es, sp, hy, hl⟩
      · rw [h0]; exact Nat.zero_le _
      · have h1 := hw ((es.length + sp.length) * Tryd.prog.bytesOf 9) (DataW.weights_mem_each (j := 5) rfl rfl _ (by rw [hy]; simp [DataW.weights, hs]))
        have h2 : (es.length + sp.length) * 1 ≤ (es.length + sp.length) * Tryd.prog.bytesOf 9 := Nat.mul_le_mul_left _ hby
        omega
    have n6 : l6.length ≤ 140737488355328 := by
      have hs : Tryd.prog.underlying 25 = some (.slice 65) := by kernel_rfl
      have hby : 1 ≤ Tryd.prog.bytesOf 65 := of_decide_eq_true (by kernel_rfl)
      rcases hwt6 with h0 | ⟨es, sp, hy, hl⟩
      · rw [h0]; exact Nat.zero_le _
      · have h1 := hw ((es.length + sp.length) * Tryd.prog.bytesOf 65) (DataW.weights_mem_each (j := 6) rfl rfl _ (by rw [hy]; simp [DataW.weights, hs]))
        have h2 : (es.length + sp.length) * 1 ≤ (es.length + sp.length) * Tryd.prog.bytesOf 65 := Nat.mul_le_mul_left _ hby
        omega
    have n7 : l7.length ≤ 140737488355328 := by
      have hs : Tryd.prog.underlying 26 = some (.slice 68) := by kernel_rfl
      have hby : 1 ≤ Tryd.prog.bytesOf 68 := of_decide_eq_true (by kernel_rfl)
      rcases hwt7 with h0 | ⟨es, sp, hy, hl⟩
      · rw [h0]; exact Nat.zero_le _
      · have h1 := hw ((es.length + sp.length) * Tryd.prog.bytesOf 68) (DataW.weights_mem_each (j := 7) rfl rfl _ (by rw [hy]; simp [DataW.weights, hs]))
        have h2 : (es.length + sp.length) * 1 ≤ (es.length + sp.length) * Tryd.prog.bytesOf 68 := Nat.mul_le_mul_left _ hby
        omega
    have n8 : l8.length ≤ 140737488355328 := by
      have hs : Tryd.prog.underlying 27 = some (.slice 31) := by kernel_rfl
      have hby : 1 ≤ Tryd.prog.bytesOf 31 := of_decide_eq_true (by kernel_rfl)
      rcases hwt8 with h0 | ⟨es, sp, hy, hl⟩
      · rw [h0]; exact Nat.zero_le _
      · have h1 := hw ((es.length + sp.length) * Tryd.prog.bytesOf 31) (DataW.weights_mem_each (j := 8) rfl rfl _ (by rw [hy]; simp [DataW.weights, hs]))
        have h2 : (es.length + sp.length) * 1 ≤ (es.length + sp.length) * Tryd.prog.bytesOf 31 := Nat.mul_le_mul_left _ hby
        omega
    exact ⟨n3, n4, n5, n6, n7, n8⟩
  exact ⟨⟨z0, z1, x2, l3, l4, l5, l6, l7, l8⟩, ⟨(a3, k3), (a4, k4), (a5, k5), (a6, k6), (a7, k7), (a8, k8)⟩, ⟨⟨rz0, rz1, bounds_i64 wf2, hall6, hall7, hall8, Nat.le_trans hlc3 hcm3, Nat.le_trans hlc4 hcm4, Nat.le_trans hlc5 hcm5, Nat.le_trans hlc6 hcm6, Nat.le_trans hlc7 hcm7, Nat.le_trans hlc8 hcm8⟩, ⟨hin3, hin4, hin5, hin6, hin7, hin8⟩, hw, hall3, hall4, hall5⟩, rfl⟩

end Go.Proofs.YtcijhmbimbejfaaDoor

namespace Go.Proofs.YtcijhmbimbejfaaDoor.lldpMore
open Go.ChangeShapes Go.WideShapes Go.ChangeAt Go.RowKit
set_option linter.unusedVariables false

theorem laidOut_ : laidOutB Tryd.prog = true := by kernel_rfl
/-- An announcement of nothing. -/
def argL : Value := .agg #[.int .i64 0, .string ⟨#[]⟩, .int .i64 0, .string ⟨#[]⟩, .int .i64 0, .slice none 0 0, .slice none 0 0, .slice none 0 0, .slice none 0 0, .slice none 0 0, .slice none 0 0]


theorem laid_met (os : Os) : laidMetH Tryd.prog Rows.lldpMoreRow.laid ((laidWorld os).forCall (fun _ _ => 0) ⟨#[], #[argL, .agg #[.int .i64 0, .int .i64 0, .string ⟨#[]⟩]], []⟩).memory :=
  laidMetH_of_parts3 (fuel := 8) (laidMet_of_run' 8 (by kernel_rfl) (by kernel_rfl)) (by kernel_rfl) (by kernel_rfl)
theorem reads (os : Os) {H : Type} (enc : TypeId × Value → H) : ∃ places, DataW.whole enc Tryd.prog ((laidWorld os).forCall (fun _ _ => 0) ⟨#[], #[argL, .agg #[.int .i64 0, .int .i64 0, .string ⟨#[]⟩]], []⟩).memory Tryd.f3.params.toList Rows.lldpMoreSpec.vars false #[argL, Value.agg #[.int .i64 0, .int .i64 0, .string ⟨#[]⟩]].toList 8 = some ([.agg [.agg [.lit (.int .i64 0), .lit (.string [])], .agg [.lit (.int .i64 0), .lit (.string [])], .lit (.int .i64 0), .nil, .nil, .nil, .nil, .nil, .nil], .agg [.lit (.int .i64 0), .lit (.int .i64 0), .lit (.string [])]], [], places) :=
  ⟨[], by kernel_rfl⟩

set_option maxRecDepth 100000 in
theorem lifted (os : Os) (started : os.Started) (H : Type) (enc : TypeId × Value → H) (F : Stop.Interp) :
    ReturnsInHanded {} Tryd.checked os 3 .any ((OpenSpec.ofChange Rows.lldpMoreSpec).preRow enc Tryd.prog Tryd.f3 Rows.lldpMoreRow.domain false Rows.lldpMoreRow.laid) (((OpenSpec.ofChange Rows.lldpMoreSpec).at F).post enc Tryd.prog Tryd.f3 false true false false) := by
  obtain ⟨places, hx⟩ := reads os enc
  refine returnsInHanded_of_row (C := Tryd.checked) (s := OpenSpec.ofChange Rows.lldpMoreSpec) own started (by kernel_rfl) Tryd.func3
    (witness_row_at (enc := enc) (C := Tryd.checked) false (laidWorld os) #[argL, .agg #[.int .i64 0, .int .i64 0, .string ⟨#[]⟩]] rfl (by kernel_rfl) (by kernel_rfl) (by kernel_rfl)
      (OpenSpec.preRow_of_cond 8 hx (by kernel_rfl) (fun k hk => by cases hk) (by kernel_rfl) (laid_met os))) ?_
  intro W base args ds gs before hval0 hW _ _ hSz hL hsh _
  have hval : ∀ (j : Nat) t v, Tryd.f3.params[j]? = some t → args[j]? = some v → Value.okWide Tryd.prog W .any base t v := hval0
  have hW' := hW
  obtain ⟨p, q, hA0, hV, rfl, hfz, hnd⟩ := hW
  have hA : DataW.TrodAll enc Tryd.prog W 0 (fun _ => true) true Tryd.f3.params.toList args.toList ds p := hA0
  rw [Tryd.params3] at hA hval
  obtain ⟨v0, vs0, d0, ds0, p0, q0, hargs, rfl, rfl, h0, r0⟩ := trodAll_cons hA
  obtain ⟨v1, vs1, d1, ds1, p1, q1, rfl, rfl, rfl, h1, r1⟩ := trodAll_cons r0
  obtain ⟨rfl, rfl, rfl⟩ := trodAll_nil r1
  obtain rfl : args = #[v0, v1] := by cases args; simp_all
  obtain ⟨rfl, rfl⟩ := trodVars_none hV
  clear hA0
  simp only [List.append_nil] at hW'
  have hlt := hW'.lt
  obtain ⟨x0, q0, hh0, hv0⟩ := open_ld (hval 0 29 v0 rfl rfl) h0
  obtain ⟨x1, hh1, hv1⟩ := open_og (hval 1 31 v1 rfl rfl) h1
  subst hv0
  subst hv1
  refine (walk x0 q0 x1 W hh0.2.1 hh0.1 hh1 (hh0.2.2.1 (weights_ofL (j := 0) hSz rfl rfl))).mono fun e W' ⟨he, hb⟩ => ?_
  subst he
  exact ⟨_, rfl, met_below hW' (fun _ _ _ => (trodAll_cons_mk (shut_bool Tryd.underlying4 _) trodAll_mk0)) (fun sp hsp => by have r := (trodAll_cons_mk (WideElems.Trod_stays laidOut_ (by kernel_rfl) (of_decide_eq_true (by kernel_rfl)) h0 (fun x hx => hb.same (hlt x (by simp [hx]))) (fun x hx => hsp x (by simp [hx]))) (trodAll_cons_mk (WideElems.Trod_stays laidOut_ (by kernel_rfl) (of_decide_eq_true (by kernel_rfl)) h1 (fun x hx => hb.same (hlt x (by simp [hx]))) (fun x hx => hsp x (by simp [hx]))) trodAll_mk0)); simp only [List.append_nil] at r; exact r) (fun _ => rfl) hb
    (ok_one (by kernel_rfl) rfl (okWide_bool_mk Tryd.underlying4 _))⟩

theorem said : Rows.LldpMoreSaid :=
  OpenClaim.holds_of_cond 3 Tryd.f3 rfl rfl rfl rfl rfl rfl rfl ⟨rfl, rfl, rfl, rfl, rfl⟩ rfl rfl rfl rfl rfl (by kernel_rfl) Tryd.func3 (by kernel_rfl)
    (of_decide_eq_true (by kernel_rfl)) (by unfold Func.isWrapper; first | (rw [if_pos (by decide +kernel)]; kernel_rfl) | (rw [if_neg (by decide +kernel)]; exact ⟨rfl, rfl⟩))
    (fun os started H enc _ F => by rw [OpenClaim.pre_eq_preRow]; exact lifted os started H enc F)

theorem plain (f : FuncId) (fn : Func) (hf : Tryd.pinned.checked.prog.funcNamed "switchyard/switchyardkeep.LldpMore" = some f) (hfn : Tryd.pinned.checked.prog.funcs[f]? = some fn) :
    false = Tryd.pinned.checked.prog.looks [] ∧ ∀ (j : Nat) t, fn.params[j]? = some t → Tryd.pinned.checked.prog.wantsStandIn t = false := by
  obtain rfl : f = 3 := Option.some.inj ((show Tryd.prog.funcNamed "switchyard/switchyardkeep.LldpMore" = some 3 by kernel_rfl).symm.trans hf) |>.symm
  obtain rfl : fn = Tryd.f3 := (Option.some.inj (Tryd.func3.symm.trans hfn)).symm
  refine ⟨by kernel_rfl, fun j t ht => ?_⟩
  rw [Tryd.params3] at ht
  have hm : t ∈ #[29, 31] := Array.mem_of_getElem? ht
  simp only [List.mem_toArray, List.mem_cons, List.not_mem_nil, or_false] at hm
  rcases hm with rfl | rfl
  · exact (show Tryd.prog.wantsStandIn 29 = false by kernel_rfl)
  · exact (show Tryd.prog.wantsStandIn 31 = false by kernel_rfl)

theorem card : Rows.LldpMoreCardSaid :=
  Claim7.holds_tied_plain_at .later [] _ _ _ _ said (fun _ h => by cases h) (by kernel_rfl) (fun _ h => by cases h) lldpMore_row_tie rfl ⟨rfl, rfl⟩ (by kernel_rfl) rfl plain (by kernel_rfl)
#print axioms card

end Go.Proofs.YtcijhmbimbejfaaDoor.lldpMore

