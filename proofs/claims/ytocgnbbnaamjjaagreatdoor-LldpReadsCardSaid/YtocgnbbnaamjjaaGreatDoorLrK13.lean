/- Texts one behind the other. The reference's parts. The reference's LldpRead: how often a kind was seen, by its map. None or some behind an own row. What a record adds to what was told so far: appends, at every kind of record. A region that draws its order: loads that must come before the region's own stores to the same place (S), beside loads of what the region leaves as it was (T): ahead of an operation of D both hold, behind it T alone. Capabilities: none is on that there is not, bit by bit. The reference on the parts of an announcement. The reference's capsRight. The reference's TlvRead: its door. The reference's cursor: what is thrown, eaten, counted, asked for. (apart: noughts_ok, noughts_bad) -/
import Derived.Test.YtocgnbbnaamjjaaGreatDoorLrK1
import Derived.Test.YtocgnbbnaamjjaaGreatDoorLrK10
import Derived.Test.YtocgnbbnaamjjaaGreatDoorLrK11
import Derived.Test.YtocgnbbnaamjjaaGreatDoorLrK12
import Derived.Test.YtocgnbbnaamjjaaGreatDoorLrK2
import Derived.Test.YtocgnbbnaamjjaaGreatDoorLrK4
import Derived.Test.YtocgnbbnaamjjaaGreatDoorLrK5
import Derived.Test.YtocgnbbnaamjjaaGreatDoorLrK7
import Derived.Test.YtocgnbbnaamjjaaGreatDoorLrK8
import Derived.Test.YtocgnbbnaamjjaaGreatDoorLrK9
import Derived.Deep.RegionHeld3
import Derived.Maps.Own
import Derived.Maps.OwnOps
import Derived.Maps.OwnSet
import Derived.Deep.AppendSrc
import Derived.Lib.AppendZeros
import Derived.Laws.BitsAllLaws
import Derived.Lib.QuoteBits
namespace Go.Proofs.YtocgnbbnaamjjaaGreatDoor
open Go.RowKit
attribute [local go_sem ↓] Go.wp_at_zero Go.wp_at_succ
set_option linter.unusedSimpArgs false
set_option linter.unusedVariables false
set_option maxRecDepth 100000

/-- The rows of a unit, own since D. -/
def LdTail (w : World) (D : Nat) (x : Ld) (q : LdA) : Prop := OwnSt w D (.slice q.de.1 x.de.length q.de.2) x.de ∧ OwnSt w D (.slice q.ho.1 x.ho.length q.ho.2) x.ho ∧ OwnSt w D (.slice q.sy.1 x.sy.length q.sy.2) x.sy ∧ OwnCp w D (.slice q.ca.1 x.ca.length q.ca.2) x.ca ∧ OwnMg w D (.slice q.ma.1 x.ma.length q.ma.2) x.ma ∧ OwnOg w D (.slice q.og.1 x.og.length q.og.2) x.og

/-- What parts gives, with its form. -/
def PtV (k : Int) (s : ByteArray) (y : Ld) (b : Bool) : Prop := k ∈ ([1, 2, 3, 4, 5, 6, 7, 8, 127] : List Int) → b = formK k s.data.toList ∧ (b = true → y = addLd zLd ⟨k, s⟩)

def PtQ (k : Int) (s : ByteArray) (w : World) (e : Ending) (w' : World) : Prop := ∃ y q b, e = .returned (.tuple #[.agg (ldC y q), .bool b]) ∧ LdTail w' w.heap.size y q ∧ PtV k s y b ∧ Below w.heap.size w w'

theorem LdAc.tail {w : World} {D B : Nat} {x : Ld} (h : LdAc w D B x) : ∃ q, Blk w B 29 (ldC x q) ∧ LdTail w D x q := h

/-- Both of parts$1's answers in one. -/
theorem pt_all {F T L D : Nat} {s : ByteArray} {k : Int} (w : World) (HF : Blk w F 32 (ftC 0 (-1))) (HT : Blk w T 80 (tlC ⟨k, s⟩)) (HL : Blk w L 29 (ldC zLd zLdA)) (hs : s.size ≤ 100000) (hDF : D ≤ F) (hDL : D ≤ L) :
    Calls Tryz.prog 32 #[.pointer (some ⟨F, 0, none⟩), .pointer (some ⟨T, 0, none⟩), .pointer (some ⟨L, 0, none⟩)] w (fun e w' => e = .returned (.tuple #[]) ∧ Below D w w' ∧ ∃ e pl y q, Blk w' F 32 (ftC e pl) ∧ Blk w' L 29 (ldC y q) ∧ LdTail w' D y q ∧ PtV k s y (e == 0)) := by
  by_cases hk : k ∈ ([1, 2, 3, 4, 5, 6, 7, 8, 127] : List Int)
  · refine (pt_known hk w HF HT HL hs hDF hDL).mono ?_
    rintro r w2 ⟨rfl, b2, ⟨hf, HF2, q, HL2, ho⟩ | ⟨hf, ⟨e, pl, he, HF2⟩, y, q, HL2, ho⟩⟩
    · exact ⟨rfl, b2, 0, -1, _, q, HF2, HL2, ho, fun _ => ⟨by rw [hf]; rfl, fun _ => rfl⟩⟩
    · refine ⟨rfl, b2, e, pl, y, q, HF2, HL2, ho, fun _ => ⟨?_, fun h => ?_⟩⟩
      · rw [hf]; simp [he]
      · simp [he] at h
  · refine (pt_n0 hk w HF HT HL hs hDF hDL).mono ?_
    rintro r w2 ⟨rfl, b2, ⟨e, pl, HF2⟩, y, q, HL2, ho⟩
    exact ⟨rfl, b2, e, pl, y, q, HF2, HL2, ho, fun h => absurd h hk⟩

theorem LdTail.kept {w w' : World} {D : Nat} {x : Ld} {q : LdA} (h : LdTail w D x q) (b : Below w.heap.size w w') : LdTail w' D x q := ⟨h.1.kept b, h.2.1.kept b, h.2.2.1.kept b, h.2.2.2.1.kept b, h.2.2.2.2.1.kept b, h.2.2.2.2.2.kept b⟩

theorem LdTail.other {w w' : World} {D X : Nat} {T : TypeId} {C : Array Value} {x : Ld} {q : LdA} (h : LdTail w D x q) (hB : Blk w X T C) (ht : T ∉ ([9, 86, 89, 111] : List TypeId)) (g : w.grownBy w' (some X)) : LdTail w' D x q := by
  simp only [List.mem_cons, List.not_mem_nil, or_false, not_or] at ht
  exact ⟨h.1.other hB ht.1 g, h.2.1.other hB ht.1 g, h.2.2.1.other hB ht.1 g, h.2.2.2.1.other hB ht.2.1 g, h.2.2.2.2.1.other hB ht.2.2.1 g, h.2.2.2.2.2.other hB ht.2.2.2 g⟩

set_option maxHeartbeats 3200000 in
theorem parts_any {s : ByteArray} {k : Int} (w : World) (hs : s.size ≤ 100000) : Calls Tryz.prog 10 #[.agg (tlC ⟨k, s⟩)] w (PtQ k s w) := by
  have hmf : ∀ (fn : Fn) (first cap : Array Value) (w : World), (Instr.makeFunc fn first cap).run Tryz.prog w = .ok (.func fn first cap) w := fun _ _ _ _ => rfl
  go_enter Tryz.func10, Tryz.ntmps10
  go_upto_region 1 with (first | (refine box_blk 80 (tlC ⟨k, s⟩) (by rfl) (by rfl) rfl ?_; intro w1 HT1 b1) | (refine alloc_blk 29 (ldC zLd zLdA) (by rfl) rfl Tryz.ldZero ?_))
  have HT0 := HT1.alloc (.cells (ldC zLd zLdA) 29)
  have HL0 := Blk.new w1 29 (ldC zLd zLdA)
  have B0 := b1.alloc b1.size (.cells (ldC zLd zLdA) 29)
  have hwL : w.heap.size < w1.heap.size := HT1.lt
  clear HT1 b1
  generalize w1.alloc (.cells (ldC zLd zLdA) 29) = w1a at *
  generalize w1.heap.size = L at *
  go_wp2_with fail
  refine (good_any _).mono ?_
  rintro e0 w2 ⟨rfl, b2⟩
  have HT2 := HT0.kept b2
  have HL2 := HL0.kept b2
  have B2 := B0.trans (b2.mono B0.size)
  have hz2 := b2.size
  clear HT0 HL0 B0
  have HT3 := HT2.alloc (.cells (ftC 0 0) 32)
  have HL3 := HL2.alloc (.cells (ftC 0 0) 32)
  have HF3 := Blk.new w2 32 (ftC 0 0)
  have B3 := B2.alloc B2.size (.cells (ftC 0 0) 32)
  have hF : L < w2.heap.size := HL2.lt
  go_upto_region 2 with (first | (refine alloc_blk 32 (ftC 0 0) (by rfl) rfl Tryz.ftZero ?_) | (refine store_blk (k := 0) 32 (.agg (ftC 0 (-1))) (ftC 0 (-1)) (by rfl) rfl rfl rfl HF3 (by kernel_rfl) (by exact Nat.le_refl 2) rfl rfl (fun w4 HF4 b4 g4 => ?_)))
  have HT4 := HT3.grown g4 (by simp; omega)
  have HL4 := HL3.grown g4 (by simp; omega)
  have B4 : Below w.heap.size w w4 := B3.trans (b4.mono (by omega))
  clear HT2 HL2 B2 HT3 HL3 HF3 B3 b4 g4
  generalize w2.heap.size = F at *
  go_wp2_with fail
  replace hwL : w.heap.size ≤ L := by omega
  have hwF : w.heap.size ≤ F := by omega
  refine (pt_all w4 HF4 HT4 HL4 hs hwF hwL).mono ?_
  rintro r w5 ⟨rfl, b5, e, pl, y, q, HF5, HL5, HO5, hv⟩
  have B5 := B4.trans b5
  have hz5 : w.heap.size ≤ w5.heap.size := B5.size
  clear HF4 HT4 HL4 B4 b5 hmf
  have HL5d := HL5.drew
  have HF5d := HF5.drew
  have HO5d : LdTail w5.drew w.heap.size y q := HO5
  have B5d := B5.drew
  go_upto_region 3 with (fail)
  refine wp_region_noPanic ?_
  refine wp_region_held_drew (S := fun w' => Blk w' L 29 (ldC y q) ∧ Blk w' F 32 (ftC e pl)) (by kernel_rfl) ?_ (fun hHeld => ?_)
  · exact ⟨HL5, HF5⟩
  refine wpAnyH_take (i := 0) (v := .agg (ldC y q)) rfl (by kernel_rfl) (by kernel_rfl) (by kernel_rfl) (fun _ _ _ h => h) (Or.inl ⟨by rfl, fun w hSw => exec_load_blk (k := 0) 29 (ldC y q) rfl rfl hSw.1 (by kernel_rfl) (by kernel_rfl) rfl⟩) (by assumption) ?_
  (try simp only [Act.put, List.getElem_toArray, List.getElem_cons_zero, List.getElem_cons_succ, List.setIfInBounds_toArray, List.set_cons_zero, List.set_cons_succ])
  refine wpAnyH_take (i := 1) (v := .agg (ftC e pl)) rfl (by kernel_rfl) (by kernel_rfl) (by kernel_rfl) (fun _ _ _ h => h) (Or.inl ⟨by rfl, fun w hSw => exec_load_blk (k := 0) 32 (ftC e pl) rfl rfl hSw.2 (by kernel_rfl) (by kernel_rfl) rfl⟩) (by assumption) ?_
  (try simp only [Act.put, List.getElem_toArray, List.getElem_cons_zero, List.getElem_cons_succ, List.setIfInBounds_toArray, List.set_cons_zero, List.set_cons_succ])
  refine wpAnyH_ready (rs := [2]) (by kernel_rfl) (by simp) ?_
  refine AllReadyH.cons rfl (fun K hK => ?_) AllReadyH.nil
  simp only [List.getElem_toArray, List.getElem_cons_zero, List.getElem_cons_succ]
  go_simp
  refine (is_any e pl _).mono ?_
  rintro r w6 ⟨rfl, b6⟩
  have HL6 := HL5d.kept b6
  have HF6 := HF5d.kept b6
  have HO6 := HO5d.kept b6
  have B6 := B5d.trans (b6.mono hz5)
  refine hK.out _ _ ?_ (fun hHeld => ?_)
  · exact ⟨HL6, HF6⟩
  clear hK K
  (try simp only [Act.put, List.getElem_toArray, List.getElem_cons_zero, List.getElem_cons_succ, List.setIfInBounds_toArray, List.set_cons_zero, List.set_cons_succ])
  refine wpAnyH_ready (rs := [3]) (by kernel_rfl) (by simp) ?_
  refine AllReadyH.cons rfl (fun K hK => ?_) AllReadyH.nil
  simp only [List.getElem_toArray, List.getElem_cons_zero, List.getElem_cons_succ]
  rw [if_pos (by rfl)]
  refine wp_store_op (k := 0) 29 (.agg (ldC y q)) (ldC y q) (by rfl) rfl rfl HL6 (by kernel_rfl) (show (11 : Nat) ≤ 11 from Nat.le_refl 11) (by rfl) (st_whole _ _ rfl) (fun w7 HL7 b7 g7 => ?_)
  have HF7 := HF6.grown g7 (by simp; omega)
  have HO7 := HO6.other HL6 (by decide) g7
  have B7 := B6.trans (b7.mono hwL)
  refine hK.out _ _ ?_ (fun hHeld => ?_)
  · exact ⟨HL7, HF7⟩
  clear hK K
  (try simp only [Act.put, List.getElem_toArray, List.getElem_cons_zero, List.getElem_cons_succ, List.setIfInBounds_toArray, List.set_cons_zero, List.set_cons_succ])
  refine wpAnyH_take (i := 4) (v := ?_) rfl (by kernel_rfl) (by kernel_rfl) (by kernel_rfl) (fun _ _ _ h => h) (Or.inl ⟨by rfl, ?_⟩) (by assumption) ?_
  rotate_left
  · (intro w hSw; (try dsimp only at hSw); go_simp; (try with_reducible rfl))
  (try simp only [Act.put, List.getElem_toArray, List.getElem_cons_zero, List.getElem_cons_succ, List.setIfInBounds_toArray, List.set_cons_zero, List.set_cons_succ])
  refine wpAnyH_done (by kernel_rfl) ?_ _
  refine NoPanic.normal ?_
  go_wp2_with fail
  refine bodyPost_ret (results_blk_tmp rfl rfl HL7 (by kernel_rfl) (by kernel_rfl)) rfl ?_
  exact ⟨y, q, _, rfl, HO7, hv, B7⟩

end Go.Proofs.YtocgnbbnaamjjaaGreatDoor

namespace Go.Proofs.YtocgnbbnaamjjaaGreatDoor
open Go.RowKit Go.Maps
set_option linter.unusedVariables false
set_option maxRecDepth 100000

theorem lawI : Keyed Tryz.prog 3 := int_keyed Tryz.underlying3

theorem zeroI (w : World) : (zeroValue 3).run Tryz.prog w = .ok (.int .i64 0) w := by kernel_rfl

/-- Block B counts the kinds of l. -/
def Seen (w : World) (B : Nat) (l : List Tl) : Prop := ∃ D : DataW Unit, w.ownsMap Tryz.prog 3 (plainElem Tryz.prog 3) B l.length D ∧ ∀ k : Int, D.atKey (.int .i64 k) (.lit (.int .i64 0)) = .lit (.int .i64 (cntK k l : Nat))

theorem Seen.made (w : World) : Seen (w.alloc (.map #[] 0)) w.heap.size [] := ⟨_, World.ownsMap_made _ _ _ _, fun k => by rw [WideAt.atKey_none _ (by simp)]; rfl⟩

theorem Seen.lt {w : World} {B : Nat} {l : List Tl} (h : Seen w B l) : B < w.heap.size := by obtain ⟨D, h, -⟩ := h; exact h.lt

theorem Seen.kept {w w' : World} {B : Nat} {l : List Tl} (h : Seen w B l) (b : Below w.heap.size w w') : Seen w' B l := by
  have hl := h.lt
  obtain ⟨D, ⟨es, clock, hb, r⟩, r2⟩ := h
  exact ⟨D, ⟨es, clock, (b.block B hl).trans hb, r⟩, r2⟩

theorem Seen.grown {w w' : World} {B : Nat} {X : Option Nat} {l : List Tl} (h : Seen w B l) (g : w.grownBy w' X) (hn : some B ≠ X) : Seen w' B l := by
  obtain ⟨D, h, r⟩ := h
  exact ⟨D, h.kept g hn, r⟩

theorem Seen.other {w w' : World} {B X : Nat} {T : TypeId} {C : Array Value} {l : List Tl} (h : Seen w B l) (hB : Blk w X T C) (g : w.grownBy w' (some X)) : Seen w' B l := by
  refine h.grown g ?_
  obtain ⟨D, ⟨es, clock, hb, r⟩, r2⟩ := h
  intro e
  cases e
  have := hb.symm.trans hB
  cases this

theorem Seen.drew {w : World} {B : Nat} {l : List Tl} (h : Seen w B l) : Seen w.drew B l := h

theorem wf_i64 {k : Int} (h : -9223372036854775808 ≤ k ∧ k ≤ 9223372036854775807) : (Lit.int .i64 k).wf = true := by
  show (decide (IntKind.i64.min ≤ k) && decide (k ≤ IntKind.i64.max)) = true
  have h1 : IntKind.i64.min = -9223372036854775808 := by decide
  have h2 : IntKind.i64.max = 9223372036854775807 := by decide
  rw [h1, h2, decide_eq_true h.1, decide_eq_true h.2]
  rfl

theorem seen_look {ops : Array Oper} {rest : List Oper} {o : Oper} {a : Act} {w : World} {Q : Exit → Act → World → Prop} {m x : Operand} {B : Nat} {k : Int} {l : List Tl} (hw : Region.wanted o (yielded ops a.tmps) = true) (ho : o.op = .lookup 78 m x false)
    (hm : a.eval m = .map (some B)) (hx : a.eval x = .int .i64 k) (hS : Seen w B l) (hk : -9223372036854775808 ≤ k ∧ k ≤ 9223372036854775807) (h : wpList Tryz.prog ops Q rest (a.put o.dst (.int .i64 (cntK k l : Nat))) w) : wpList Tryz.prog ops Q (o :: rest) a w :=
  wpList_step fun K hK => by
    rw [if_pos hw]
    obtain ⟨D, hown, hat⟩ := hS
    obtain ⟨c, hrun, hc, hwc⟩ := hown.lookup_int lawI Tryz.underlying78 Tryz.underlying3 (zeroI _) (keyOf_int_mk Tryz.underlying3 (wf_i64 hk))
    rw [hat k] at hc
    cases hc
    unfold Oper.wp
    simp [execOp, ho, hm, hx, hrun, Result.andThen]
    exact hK _ _ h

theorem seen_put {ops : Array Oper} {rest : List Oper} {o : Oper} {a : Act} {w : World} {Q : Exit → Act → World → Prop} {m x v : Operand} {B : Nat} {t : Tl} {l : List Tl} (hg : o.guard = none) (ho : o.op = .mapUpdate 78 m x v)
    (hm : a.eval m = .map (some B)) (hx : a.eval x = .int .i64 t.k) (hv : a.eval v = .int .i64 ((cntK t.k l : Nat) + 1)) (hS : Seen w B l) (hk : -9223372036854775808 ≤ t.k ∧ t.k ≤ 9223372036854775807) (hl : l.length ≤ 100000)
    (h : ∀ w', Seen w' B (l ++ [t]) → w.grownBy w' (some B) → wpList Tryz.prog ops Q rest (a.put o.dst undef) w') : wpList Tryz.prog ops Q (o :: rest) a w := by
  obtain ⟨D, hown, hat⟩ := hS
  have hc : cntK t.k l ≤ l.length := List.countP_le_length
  refine wpList_mapUpdate_own w hg m x v _ ho 3 3 lawI Tryz.underlying78 _ B l.length D hm hown (by unfold maxLen; omega) _ _ _ hx hv (keyOf_int_mk Tryz.underlying3 (wf_i64 hk)) _ [] (plainElem_int Tryz.underlying3 (wf_i64 (by omega))) fun w' ho' g => h w' ⟨_, by rw [List.length_append]; exact ho', fun k => ?_⟩ g
  by_cases e : k = t.k
  · subst e
    rw [atKey_put_same hown.isMap (by trivial), cntK_app, cntK_cons]
    simp [cntK]
  · rw [atKey_put_other (by intro h; cases h; exact e rfl), hat k, cntK_app, cntK_cons, if_neg (Ne.symm e)]
    simp [cntK]

end Go.Proofs.YtocgnbbnaamjjaaGreatDoor

namespace Go.Proofs.YtocgnbbnaamjjaaGreatDoor
open Go.RowKit
attribute [local go_sem ↓] Go.wp_at_zero Go.wp_at_succ
set_option linter.unusedSimpArgs false
set_option linter.unusedVariables false
set_option maxRecDepth 100000

set_option maxHeartbeats 1600000 in
theorem none_st {o : Oper} {a : Act} {w : World} {K : Act → World → Prop} {Q : Exit → Act → World → Prop} {s x : Operand} {base : Nat} {v : Value} {l : List ByteArray} {a2 : Option Addr} {c2 : Nat}
    (ho : o.op = .call { callee := .builtin .append, args := #[s, x], argTypes := #[24, 24] }) (hs : a.eval s = v) (hx : a.eval x = .slice a2 0 c2)
    (hO : OwnSt w base v l) (h : K (a.put o.dst v) w) : Oper.wp Tryz.prog o a w K Q := by
  obtain ⟨i0, hi, hz0, hz1, hz2⟩ := info_parts Tryz.svParts
  have hsrc : Src Tryz.prog i0.size 24 (.slice a2 0 c2) 0 [] w := by
    cases a2 with
    | none => exact Src.ofNil w Tryz.underlying24 c2
    | some ad => exact Src.ofSlice w Tryz.underlying24 ad 0 c2 [] (by simp) (fun j u hj => by simp at hj) (fun u hu => by cases hu)
  have hr : (Builtin.append_ #[24, 24] o.type #[v, .slice a2 0 c2]).run Tryz.prog w = .ok v w := by
    rcases hO with ⟨rfl, rfl⟩ | ⟨hne, g, cap, rfl, hown⟩
    · have hcl := hsrc.cells
      simp [Builtin.append_, run_underlying Tryz.underlying24, sizeOf, typeInfo, hi, Builtin.lenOf]
      cases a2 <;> simp [Builtin.firstCells] at hcl ⊢
      simp [hcl]
    · have hgc : l.length ≤ cap := by
        rcases hown.2 with ⟨h1, -⟩ | ⟨g1, cap1, cur1, e1, e2, e3, e4, e5, e6, e7⟩
        · cases h1
        · cases e1
          omega
      have h5 := run_append_room_src (P := Tryz.prog) w 24 24 o.type 9 i0 Tryz.underlying24 hi g 0 l.length cap (.slice a2 0 c2) 0 [] hsrc (by omega) (fun j hj => by simp at hj) (fun j hj => by simp at hj)
      simpa [World.setCells] using h5
  exact Lib.wp_append_run w s x _ _ ho _ _ hs hx _ _ hr h

set_option maxHeartbeats 1600000 in
theorem some_st {o : Oper} {a : Act} {w : World} {K : Act → World → Prop} {Q : Exit → Act → World → Prop} {s x : Operand} {base : Nat} {v : Value} {l l2 : List ByteArray} {a2 : Option Addr} {c2 : Nat}
    (ho : o.op = .call { callee := .builtin .append, args := #[s, x], argTypes := #[24, 24] }) (hs : a.eval s = v) (hx : a.eval x = .slice a2 l2.length c2)
    (hO : OwnSt w base v l) (hI : StIn w a2 l2) (hl2 : l2 ≠ []) (hlen : l.length + l2.length ≤ 100000) (hbase : base ≤ w.heap.size)
    (h : ∀ v' w', OwnSt w' base v' (l ++ l2) → Below base w w' → w.grownBy w' v.ownBlock → K (a.put o.dst v') w') : Oper.wp Tryz.prog o a w K Q := by
  obtain ⟨i0, hi, hz0, hz1, hz2⟩ := info_parts Tryz.svParts
  rcases hI with hI | ⟨b, lo, rfl, hb, hat⟩
  · exact absurd hI hl2
  have hpos : 0 < l2.length := List.length_pos_iff.2 hl2
  have hown : w.ownsRow base 9 1 v l.length (stR l) := by
    rcases hO with ⟨rfl, rfl⟩ | ⟨hne, g, cap, rfl, hown⟩
    · exact World.ownsRow_nil w base _ 1
    · exact hown
  refine wp_append_lies w s x _ ho base 9 i0 (.string ⟨#[]⟩) 1 16 Tryz.underlying24 hi hz0 hz1 hz2 rfl (by decide) v l.length (stR l) hs hown ⟨b, lo, none⟩ l2.length c2 (stR l2) hx (stR_len l2) (stAt_news hat) (stR_cells l2) hpos (by unfold maxLen; omega) (by omega) hbase _ rfl ?_
  intro g cap w' hown2 hgrow hatg hlt
  refine h _ _ (Or.inr ⟨by simp [hl2], g, cap, by rw [List.length_append], ?_⟩) ((Below.refl base w).grown hgrow hbase (fun q hq => ?_)) hgrow
  · rw [stR_append, List.length_append]
    exact hown2
  · rcases hown.2 with ⟨rfl, _⟩ | ⟨g1, cap1, cur1, rfl, e2, _⟩
    · simp [Value.ownBlock] at hq
    · simp [Value.ownBlock] at hq
      omega

set_option maxHeartbeats 1600000 in
theorem none_cp {o : Oper} {a : Act} {w : World} {K : Act → World → Prop} {Q : Exit → Act → World → Prop} {s x : Operand} {base : Nat} {v : Value} {l : List Cp} {a2 : Option Addr} {c2 : Nat}
    (ho : o.op = .call { callee := .builtin .append, args := #[s, x], argTypes := #[25, 25] }) (hs : a.eval s = v) (hx : a.eval x = .slice a2 0 c2)
    (hO : OwnCp w base v l) (h : K (a.put o.dst v) w) : Oper.wp Tryz.prog o a w K Q := by
  obtain ⟨i0, hi, hz0, hz1, hz2⟩ := info_parts Tryz.cpParts
  have hsrc : Src Tryz.prog i0.size 25 (.slice a2 0 c2) 0 [] w := by
    cases a2 with
    | none => exact Src.ofNil w Tryz.underlying25 c2
    | some ad => exact Src.ofSlice w Tryz.underlying25 ad 0 c2 [] (by simp) (fun j u hj => by simp at hj) (fun u hu => by cases hu)
  have hr : (Builtin.append_ #[25, 25] o.type #[v, .slice a2 0 c2]).run Tryz.prog w = .ok v w := by
    rcases hO with ⟨rfl, rfl⟩ | ⟨hne, g, cap, rfl, hown⟩
    · have hcl := hsrc.cells
      simp [Builtin.append_, run_underlying Tryz.underlying25, sizeOf, typeInfo, hi, Builtin.lenOf]
      cases a2 <;> simp [Builtin.firstCells] at hcl ⊢
      simp [hcl]
    · have hgc : l.length ≤ cap := by
        rcases hown.2 with ⟨h1, -⟩ | ⟨g1, cap1, cur1, e1, e2, e3, e4, e5, e6, e7⟩
        · cases h1
        · cases e1
          omega
      have h5 := run_append_room_src (P := Tryz.prog) w 25 25 o.type 86 i0 Tryz.underlying25 hi g 0 l.length cap (.slice a2 0 c2) 0 [] hsrc (by omega) (fun j hj => by simp at hj) (fun j hj => by simp at hj)
      simpa [World.setCells] using h5
  exact Lib.wp_append_run w s x _ _ ho _ _ hs hx _ _ hr h

set_option maxHeartbeats 1600000 in
theorem some_cp {o : Oper} {a : Act} {w : World} {K : Act → World → Prop} {Q : Exit → Act → World → Prop} {s x : Operand} {base : Nat} {v : Value} {l l2 : List Cp} {a2 : Option Addr} {c2 : Nat}
    (ho : o.op = .call { callee := .builtin .append, args := #[s, x], argTypes := #[25, 25] }) (hs : a.eval s = v) (hx : a.eval x = .slice a2 l2.length c2)
    (hO : OwnCp w base v l) (hI : CpIn w a2 l2) (hl2 : l2 ≠ []) (hlen : l.length + l2.length ≤ 100000) (hbase : base ≤ w.heap.size)
    (h : ∀ v' w', OwnCp w' base v' (l ++ l2) → Below base w w' → w.grownBy w' v.ownBlock → K (a.put o.dst v') w') : Oper.wp Tryz.prog o a w K Q := by
  obtain ⟨i0, hi, hz0, hz1, hz2⟩ := info_parts Tryz.cpParts
  rcases hI with hI | ⟨b, lo, rfl, hb, hat⟩
  · exact absurd hI hl2
  have hpos : 0 < l2.length := List.length_pos_iff.2 hl2
  have hown : w.ownsRow base 86 2 v l.length (cpR l) := by
    rcases hO with ⟨rfl, rfl⟩ | ⟨hne, g, cap, rfl, hown⟩
    · exact World.ownsRow_nil w base _ 2
    · exact hown
  refine wp_append_lies w s x _ ho base 86 i0 (.agg (cpC zCp)) 2 16 Tryz.underlying25 hi hz0 hz1 hz2 rfl (by decide) v l.length (cpR l) hs hown ⟨b, lo, none⟩ l2.length c2 (cpR l2) hx (cpR_len l2) (cpAt_news hat) (cpR_cells l2) hpos (by unfold maxLen; omega) (by omega) hbase _ rfl ?_
  intro g cap w' hown2 hgrow hatg hlt
  refine h _ _ (Or.inr ⟨by simp [hl2], g, cap, by rw [List.length_append], ?_⟩) ((Below.refl base w).grown hgrow hbase (fun q hq => ?_)) hgrow
  · rw [cpR_append, List.length_append]
    exact hown2
  · rcases hown.2 with ⟨rfl, _⟩ | ⟨g1, cap1, cur1, rfl, e2, _⟩
    · simp [Value.ownBlock] at hq
    · simp [Value.ownBlock] at hq
      omega

set_option maxHeartbeats 1600000 in
theorem none_mg {o : Oper} {a : Act} {w : World} {K : Act → World → Prop} {Q : Exit → Act → World → Prop} {s x : Operand} {base : Nat} {v : Value} {l : List Mg} {a2 : Option Addr} {c2 : Nat}
    (ho : o.op = .call { callee := .builtin .append, args := #[s, x], argTypes := #[26, 26] }) (hs : a.eval s = v) (hx : a.eval x = .slice a2 0 c2)
    (hO : OwnMg w base v l) (h : K (a.put o.dst v) w) : Oper.wp Tryz.prog o a w K Q := by
  obtain ⟨i0, hi, hz0, hz1, hz2⟩ := info_parts Tryz.mgParts
  have hsrc : Src Tryz.prog i0.size 26 (.slice a2 0 c2) 0 [] w := by
    cases a2 with
    | none => exact Src.ofNil w Tryz.underlying26 c2
    | some ad => exact Src.ofSlice w Tryz.underlying26 ad 0 c2 [] (by simp) (fun j u hj => by simp at hj) (fun u hu => by cases hu)
  have hr : (Builtin.append_ #[26, 26] o.type #[v, .slice a2 0 c2]).run Tryz.prog w = .ok v w := by
    rcases hO with ⟨rfl, rfl⟩ | ⟨hne, g, cap, rfl, hown⟩
    · have hcl := hsrc.cells
      simp [Builtin.append_, run_underlying Tryz.underlying26, sizeOf, typeInfo, hi, Builtin.lenOf]
      cases a2 <;> simp [Builtin.firstCells] at hcl ⊢
      simp [hcl]
    · have hgc : l.length ≤ cap := by
        rcases hown.2 with ⟨h1, -⟩ | ⟨g1, cap1, cur1, e1, e2, e3, e4, e5, e6, e7⟩
        · cases h1
        · cases e1
          omega
      have h5 := run_append_room_src (P := Tryz.prog) w 26 26 o.type 89 i0 Tryz.underlying26 hi g 0 l.length cap (.slice a2 0 c2) 0 [] hsrc (by omega) (fun j hj => by simp at hj) (fun j hj => by simp at hj)
      simpa [World.setCells] using h5
  exact Lib.wp_append_run w s x _ _ ho _ _ hs hx _ _ hr h

set_option maxHeartbeats 1600000 in
theorem some_mg {o : Oper} {a : Act} {w : World} {K : Act → World → Prop} {Q : Exit → Act → World → Prop} {s x : Operand} {base : Nat} {v : Value} {l l2 : List Mg} {a2 : Option Addr} {c2 : Nat}
    (ho : o.op = .call { callee := .builtin .append, args := #[s, x], argTypes := #[26, 26] }) (hs : a.eval s = v) (hx : a.eval x = .slice a2 l2.length c2)
    (hO : OwnMg w base v l) (hI : MgIn w a2 l2) (hl2 : l2 ≠ []) (hlen : l.length + l2.length ≤ 100000) (hbase : base ≤ w.heap.size)
    (h : ∀ v' w', OwnMg w' base v' (l ++ l2) → Below base w w' → w.grownBy w' v.ownBlock → K (a.put o.dst v') w') : Oper.wp Tryz.prog o a w K Q := by
  obtain ⟨i0, hi, hz0, hz1, hz2⟩ := info_parts Tryz.mgParts
  rcases hI with hI | ⟨b, lo, rfl, hb, hat⟩
  · exact absurd hI hl2
  have hpos : 0 < l2.length := List.length_pos_iff.2 hl2
  have hown : w.ownsRow base 89 5 v l.length (mgR l) := by
    rcases hO with ⟨rfl, rfl⟩ | ⟨hne, g, cap, rfl, hown⟩
    · exact World.ownsRow_nil w base _ 5
    · exact hown
  refine wp_append_lies w s x _ ho base 89 i0 (.agg (mgC zMg)) 5 56 Tryz.underlying26 hi hz0 hz1 hz2 rfl (by decide) v l.length (mgR l) hs hown ⟨b, lo, none⟩ l2.length c2 (mgR l2) hx (mgR_len l2) (mgAt_news hat) (mgR_cells l2) hpos (by unfold maxLen; omega) (by omega) hbase _ rfl ?_
  intro g cap w' hown2 hgrow hatg hlt
  refine h _ _ (Or.inr ⟨by simp [hl2], g, cap, by rw [List.length_append], ?_⟩) ((Below.refl base w).grown hgrow hbase (fun q hq => ?_)) hgrow
  · rw [mgR_append, List.length_append]
    exact hown2
  · rcases hown.2 with ⟨rfl, _⟩ | ⟨g1, cap1, cur1, rfl, e2, _⟩
    · simp [Value.ownBlock] at hq
    · simp [Value.ownBlock] at hq
      omega

set_option maxHeartbeats 1600000 in
theorem none_og {o : Oper} {a : Act} {w : World} {K : Act → World → Prop} {Q : Exit → Act → World → Prop} {s x : Operand} {base : Nat} {v : Value} {l : List Og} {a2 : Option Addr} {c2 : Nat}
    (ho : o.op = .call { callee := .builtin .append, args := #[s, x], argTypes := #[27, 27] }) (hs : a.eval s = v) (hx : a.eval x = .slice a2 0 c2)
    (hO : OwnOg w base v l) (h : K (a.put o.dst v) w) : Oper.wp Tryz.prog o a w K Q := by
  obtain ⟨i0, hi, hz0, hz1, hz2⟩ := info_parts Tryz.ogParts
  have hsrc : Src Tryz.prog i0.size 27 (.slice a2 0 c2) 0 [] w := by
    cases a2 with
    | none => exact Src.ofNil w Tryz.underlying27 c2
    | some ad => exact Src.ofSlice w Tryz.underlying27 ad 0 c2 [] (by simp) (fun j u hj => by simp at hj) (fun u hu => by cases hu)
  have hr : (Builtin.append_ #[27, 27] o.type #[v, .slice a2 0 c2]).run Tryz.prog w = .ok v w := by
    rcases hO with ⟨rfl, rfl⟩ | ⟨hne, g, cap, rfl, hown⟩
    · have hcl := hsrc.cells
      simp [Builtin.append_, run_underlying Tryz.underlying27, sizeOf, typeInfo, hi, Builtin.lenOf]
      cases a2 <;> simp [Builtin.firstCells] at hcl ⊢
      simp [hcl]
    · have hgc : l.length ≤ cap := by
        rcases hown.2 with ⟨h1, -⟩ | ⟨g1, cap1, cur1, e1, e2, e3, e4, e5, e6, e7⟩
        · cases h1
        · cases e1
          omega
      have h5 := run_append_room_src (P := Tryz.prog) w 27 27 o.type 111 i0 Tryz.underlying27 hi g 0 l.length cap (.slice a2 0 c2) 0 [] hsrc (by omega) (fun j hj => by simp at hj) (fun j hj => by simp at hj)
      simpa [World.setCells] using h5
  exact Lib.wp_append_run w s x _ _ ho _ _ hs hx _ _ hr h

set_option maxHeartbeats 1600000 in
theorem some_og {o : Oper} {a : Act} {w : World} {K : Act → World → Prop} {Q : Exit → Act → World → Prop} {s x : Operand} {base : Nat} {v : Value} {l l2 : List Og} {a2 : Option Addr} {c2 : Nat}
    (ho : o.op = .call { callee := .builtin .append, args := #[s, x], argTypes := #[27, 27] }) (hs : a.eval s = v) (hx : a.eval x = .slice a2 l2.length c2)
    (hO : OwnOg w base v l) (hI : OgIn w a2 l2) (hl2 : l2 ≠ []) (hlen : l.length + l2.length ≤ 100000) (hbase : base ≤ w.heap.size)
    (h : ∀ v' w', OwnOg w' base v' (l ++ l2) → Below base w w' → w.grownBy w' v.ownBlock → K (a.put o.dst v') w') : Oper.wp Tryz.prog o a w K Q := by
  obtain ⟨i0, hi, hz0, hz1, hz2⟩ := info_parts Tryz.ogParts
  rcases hI with hI | ⟨b, lo, rfl, hb, hat⟩
  · exact absurd hI hl2
  have hpos : 0 < l2.length := List.length_pos_iff.2 hl2
  have hown : w.ownsRow base 111 3 v l.length (ogR l) := by
    rcases hO with ⟨rfl, rfl⟩ | ⟨hne, g, cap, rfl, hown⟩
    · exact World.ownsRow_nil w base _ 3
    · exact hown
  refine wp_append_lies w s x _ ho base 111 i0 (.agg (ogC zOg)) 3 32 Tryz.underlying27 hi hz0 hz1 hz2 rfl (by decide) v l.length (ogR l) hs hown ⟨b, lo, none⟩ l2.length c2 (ogR l2) hx (ogR_len l2) (ogAt_news hat) (ogR_cells l2) hpos (by unfold maxLen; omega) (by omega) hbase _ rfl ?_
  intro g cap w' hown2 hgrow hatg hlt
  refine h _ _ (Or.inr ⟨by simp [hl2], g, cap, by rw [List.length_append], ?_⟩) ((Below.refl base w).grown hgrow hbase (fun q hq => ?_)) hgrow
  · rw [ogR_append, List.length_append]
    exact hown2
  · rcases hown.2 with ⟨rfl, _⟩ | ⟨g1, cap1, cur1, rfl, e2, _⟩
    · simp [Value.ownBlock] at hq
    · simp [Value.ownBlock] at hq
      omega

end Go.Proofs.YtocgnbbnaamjjaaGreatDoor

namespace Go.Proofs.YtocgnbbnaamjjaaGreatDoor
open Go.RowKit
attribute [local go_sem ↓] Go.wp_at_zero Go.wp_at_succ
set_option linter.unusedSimpArgs false
set_option linter.unusedVariables false
set_option maxRecDepth 100000

/-- None, or some behind none: nothing that was there changes. -/
theorem app_st {o : Oper} {a : Act} {w : World} {K : Act → World → Prop} {Q : Exit → Act → World → Prop} {s x : Operand} {base : Nat} {v : Value} {l l2 : List ByteArray} {a2 : Option Addr} {c2 : Nat}
    (ho : o.op = .call { callee := .builtin .append, args := #[s, x], argTypes := #[24, 24] }) (hs : a.eval s = v) (hx : a.eval x = .slice a2 l2.length c2)
    (hO : OwnSt w base v l) (hI : StIn w a2 l2) (hd : l2 = [] ∨ l = []) (hl : l2.length ≤ 100000) (hbase : base ≤ w.heap.size)
    (h : ∀ v' w', OwnSt w' base v' (l ++ l2) → Below w.heap.size w w' → K (a.put o.dst v') w') : Oper.wp Tryz.prog o a w K Q := by
  by_cases e : l2 = []
  · subst e
    exact none_st ho hs hx hO (h v w (by rw [List.append_nil]; exact hO) (Below.refl _ _))
  · obtain rfl : l = [] := hd.resolve_left e
    refine some_st ho hs hx hO hI e (by simpa using hl) hbase (fun v' w' h1 h2 h3 => h v' w' h1 ?_)
    have hv : v = .slice none 0 0 := by
      rcases hO with ⟨_, q⟩ | ⟨q, _⟩
      · exact q
      · exact absurd rfl q
    subst hv
    have h3' : w.grownBy w' none := h3
    exact ⟨h3'.os, h3'.tape, h3'.output, h3'.size, fun k hk => h3'.block k hk (by simp)⟩

/-- None, or some behind none: nothing that was there changes. -/
theorem app_cp {o : Oper} {a : Act} {w : World} {K : Act → World → Prop} {Q : Exit → Act → World → Prop} {s x : Operand} {base : Nat} {v : Value} {l l2 : List Cp} {a2 : Option Addr} {c2 : Nat}
    (ho : o.op = .call { callee := .builtin .append, args := #[s, x], argTypes := #[25, 25] }) (hs : a.eval s = v) (hx : a.eval x = .slice a2 l2.length c2)
    (hO : OwnCp w base v l) (hI : CpIn w a2 l2) (hd : l2 = [] ∨ l = []) (hl : l2.length ≤ 100000) (hbase : base ≤ w.heap.size)
    (h : ∀ v' w', OwnCp w' base v' (l ++ l2) → Below w.heap.size w w' → K (a.put o.dst v') w') : Oper.wp Tryz.prog o a w K Q := by
  by_cases e : l2 = []
  · subst e
    exact none_cp ho hs hx hO (h v w (by rw [List.append_nil]; exact hO) (Below.refl _ _))
  · obtain rfl : l = [] := hd.resolve_left e
    refine some_cp ho hs hx hO hI e (by simpa using hl) hbase (fun v' w' h1 h2 h3 => h v' w' h1 ?_)
    have hv : v = .slice none 0 0 := by
      rcases hO with ⟨_, q⟩ | ⟨q, _⟩
      · exact q
      · exact absurd rfl q
    subst hv
    have h3' : w.grownBy w' none := h3
    exact ⟨h3'.os, h3'.tape, h3'.output, h3'.size, fun k hk => h3'.block k hk (by simp)⟩

theorem seen_mg {w w' : World} {base B : Nat} {v : Value} {l : List Mg} {ts : List Tl} (hO : OwnMg w base v l) (g : w.grownBy w' v.ownBlock) (h : Seen w B ts) : Seen w' B ts := by
  rcases hO.blk with e | ⟨b, C, e, _, hb⟩
  · rw [e] at g
    exact h.grown g (by simp)
  · rw [e] at g
    exact h.other hb g

theorem app_mg {o : Oper} {a : Act} {w : World} {K : Act → World → Prop} {Q : Exit → Act → World → Prop} {s x : Operand} {base : Nat} {v : Value} {l l2 : List Mg} {a2 : Option Addr} {c2 : Nat}
    (ho : o.op = .call { callee := .builtin .append, args := #[s, x], argTypes := #[26, 26] }) (hs : a.eval s = v) (hx : a.eval x = .slice a2 l2.length c2)
    (hO : OwnMg w base v l) (hI : MgIn w a2 l2) (hl : l.length + l2.length ≤ 100000) (hbase : base ≤ w.heap.size)
    (h : ∀ v' w', OwnMg w' base v' (l ++ l2) → Below base w w' → (∀ X T C, Blk w X T C → T ≠ 89 → Blk w' X T C) → (∀ B ts, Seen w B ts → Seen w' B ts) → (l2 = [] → w' = w) → K (a.put o.dst v') w') : Oper.wp Tryz.prog o a w K Q := by
  by_cases e : l2 = []
  · subst e
    exact none_mg ho hs hx hO (h v w (by rw [List.append_nil]; exact hO) (Below.refl _ _) (fun X T C hX _ => hX) (fun B ts hB => hB) (fun _ => rfl))
  · exact some_mg ho hs hx hO hI e hl hbase (fun v' w' h1 h2 h3 => h v' w' h1 h2 (fun X T C hX hT => keep_Mg hO h3 hX hT) (fun B ts hB => seen_mg hO h3 hB) (fun q => absurd q e))

theorem seen_og {w w' : World} {base B : Nat} {v : Value} {l : List Og} {ts : List Tl} (hO : OwnOg w base v l) (g : w.grownBy w' v.ownBlock) (h : Seen w B ts) : Seen w' B ts := by
  rcases hO.blk with e | ⟨b, C, e, _, hb⟩
  · rw [e] at g
    exact h.grown g (by simp)
  · rw [e] at g
    exact h.other hb g

theorem app_og {o : Oper} {a : Act} {w : World} {K : Act → World → Prop} {Q : Exit → Act → World → Prop} {s x : Operand} {base : Nat} {v : Value} {l l2 : List Og} {a2 : Option Addr} {c2 : Nat}
    (ho : o.op = .call { callee := .builtin .append, args := #[s, x], argTypes := #[27, 27] }) (hs : a.eval s = v) (hx : a.eval x = .slice a2 l2.length c2)
    (hO : OwnOg w base v l) (hI : OgIn w a2 l2) (hl : l.length + l2.length ≤ 100000) (hbase : base ≤ w.heap.size)
    (h : ∀ v' w', OwnOg w' base v' (l ++ l2) → Below base w w' → (∀ X T C, Blk w X T C → T ≠ 111 → Blk w' X T C) → (∀ B ts, Seen w B ts → Seen w' B ts) → (l2 = [] → w' = w) → K (a.put o.dst v') w') : Oper.wp Tryz.prog o a w K Q := by
  by_cases e : l2 = []
  · subst e
    exact none_og ho hs hx hO (h v w (by rw [List.append_nil]; exact hO) (Below.refl _ _) (fun X T C hX _ => hX) (fun B ts hB => hB) (fun _ => rfl))
  · exact some_og ho hs hx hO hI e hl hbase (fun v' w' h1 h2 h3 => h v' w' h1 h2 (fun X T C hX hT => keep_Og hO h3 hX hT) (fun B ts hB => seen_og hO h3 hB) (fun q => absurd q e))

/-- The cells of what was told, the rows' values by name. -/
def ldV (x : Ld) (v1 v2 v3 v4 v5 v6 : Value) : Array Value := #[.int .i64 x.ch.su, .string x.ch.id, .int .i64 x.po.su, .string x.po.id, .int .i64 x.tt, v1, v2, v3, v4, v5, v6]

def LdRows (w : World) (D : Nat) (x : Ld) (v1 v2 v3 v4 v5 v6 : Value) : Prop := OwnSt w D v1 x.de ∧ OwnSt w D v2 x.ho ∧ OwnSt w D v3 x.sy ∧ OwnCp w D v4 x.ca ∧ OwnMg w D v5 x.ma ∧ OwnOg w D v6 x.og

theorem LdAc.vals {w : World} {D B : Nat} {x : Ld} (h : LdAc w D B x) : ∃ v1 v2 v3 v4 v5 v6, Blk w B 29 (ldV x v1 v2 v3 v4 v5 v6) ∧ LdRows w D x v1 v2 v3 v4 v5 v6 := by
  obtain ⟨q, hB, h1, h2, h3, h4, h5, h6⟩ := h
  exact ⟨_, _, _, _, _, _, hB, h1, h2, h3, h4, h5, h6⟩

theorem LdAc.ofVals {w : World} {D B : Nat} {x y : Ld} {v1 v2 v3 v4 v5 v6 : Value} (hB : Blk w B 29 (ldV y v1 v2 v3 v4 v5 v6)) (h : LdRows w D x v1 v2 v3 v4 v5 v6) (h1 : y.ch = x.ch) (h2 : y.po = x.po) (h3 : y.tt = x.tt) : LdAc w D B x := by
  obtain ⟨r1, r2, r3, r4, r5, r6⟩ := h
  obtain ⟨a1, c1, rfl, -⟩ := r1.inL
  obtain ⟨a2, c2, rfl, -⟩ := r2.inL
  obtain ⟨a3, c3, rfl, -⟩ := r3.inL
  obtain ⟨a4, c4, rfl, -⟩ := r4.inL
  obtain ⟨a5, c5, rfl, -⟩ := r5.inL
  obtain ⟨a6, c6, rfl, -⟩ := r6.inL
  unfold ldV at hB
  rw [h1, h2, h3] at hB
  exact ⟨⟨(a1, c1), (a2, c2), (a3, c3), (a4, c4), (a5, c5), (a6, c6)⟩, hB, r1, r2, r3, r4, r5, r6⟩

/-- The first three, so far. -/
def lead3 (kn : Nat) (X y : Ld) : Ld := ⟨if kn = 1 then y.ch else X.ch, if kn = 2 then y.po else X.po, if kn = 3 then y.tt else X.tt, X.de, X.ho, X.sy, X.ca, X.ma, X.og⟩

/-- What a record adds. -/
theorem addLd_parts (X : Ld) (kn : Nat) (t : ByteArray) (h1 : 1 ≤ kn) (h : kn ≤ 8 ∨ kn = 127) : addLd X ⟨(kn : Int), t⟩ = ⟨(lead3 kn X (addLd zLd ⟨(kn : Int), t⟩)).ch, (lead3 kn X (addLd zLd ⟨(kn : Int), t⟩)).po, (lead3 kn X (addLd zLd ⟨(kn : Int), t⟩)).tt,
    X.de ++ (addLd zLd ⟨(kn : Int), t⟩).de, X.ho ++ (addLd zLd ⟨(kn : Int), t⟩).ho, X.sy ++ (addLd zLd ⟨(kn : Int), t⟩).sy, X.ca ++ (addLd zLd ⟨(kn : Int), t⟩).ca, X.ma ++ (addLd zLd ⟨(kn : Int), t⟩).ma, X.og ++ (addLd zLd ⟨(kn : Int), t⟩).og⟩ := by
  rcases h with h | rfl
  · rcases (show kn = 1 ∨ kn = 2 ∨ kn = 3 ∨ kn = 4 ∨ kn = 5 ∨ kn = 6 ∨ kn = 7 ∨ kn = 8 by omega) with rfl | rfl | rfl | rfl | rfl | rfl | rfl | rfl
    · show addLd X ⟨1, t⟩ = _; rw [show ((1 : Nat) : Int) = 1 from rfl, addLd1, addLd1]; simp [lead3, zLd]
    · show addLd X ⟨2, t⟩ = _; rw [show ((2 : Nat) : Int) = 2 from rfl, addLd2, addLd2]; simp [lead3, zLd]
    · show addLd X ⟨3, t⟩ = _; rw [show ((3 : Nat) : Int) = 3 from rfl, addLd3, addLd3]; simp [lead3, zLd]
    · show addLd X ⟨4, t⟩ = _; rw [show ((4 : Nat) : Int) = 4 from rfl, addLd4, addLd4]; simp [lead3, zLd]
    · show addLd X ⟨5, t⟩ = _; rw [show ((5 : Nat) : Int) = 5 from rfl, addLd5, addLd5]; simp [lead3, zLd]
    · show addLd X ⟨6, t⟩ = _; rw [show ((6 : Nat) : Int) = 6 from rfl, addLd6, addLd6]; simp [lead3, zLd]
    · show addLd X ⟨7, t⟩ = _; rw [show ((7 : Nat) : Int) = 7 from rfl, addLd7, addLd7]; simp [lead3, zLd]
    · show addLd X ⟨8, t⟩ = _; rw [show ((8 : Nat) : Int) = 8 from rfl, addLd8, addLd8]; simp [lead3, zLd]
  · show addLd X ⟨127, t⟩ = _; rw [show ((127 : Nat) : Int) = 127 from rfl, addLdo, addLdo]; simp [lead3, zLd]

/-- What kind adds what. -/
theorem addLd_which (kn : Nat) (t : ByteArray) (h1 : 1 ≤ kn) (h : kn ≤ 8 ∨ kn = 127) : ∀ y, y = addLd zLd ⟨(kn : Int), t⟩ → (kn = 4 ∨ y.de = []) ∧ (kn = 5 ∨ y.ho = []) ∧ (kn = 6 ∨ y.sy = []) ∧ (kn = 7 ∨ y.ca = []) ∧ (kn = 8 ∨ y.ma = []) ∧ (kn = 127 ∨ y.og = []) ∧ y.de.length ≤ 1 ∧ y.ho.length ≤ 1 ∧ y.sy.length ≤ 1 ∧ y.ca.length ≤ 1 ∧ y.ma.length ≤ 1 ∧ y.og.length ≤ 1 := by
  rintro y rfl
  rcases h with h | rfl
  · rcases (show kn = 1 ∨ kn = 2 ∨ kn = 3 ∨ kn = 4 ∨ kn = 5 ∨ kn = 6 ∨ kn = 7 ∨ kn = 8 by omega) with rfl | rfl | rfl | rfl | rfl | rfl | rfl | rfl
    · rw [show ((1 : Nat) : Int) = 1 from rfl, addLd1]; simp [zLd]
    · rw [show ((2 : Nat) : Int) = 2 from rfl, addLd2]; simp [zLd]
    · rw [show ((3 : Nat) : Int) = 3 from rfl, addLd3]; simp [zLd]
    · rw [show ((4 : Nat) : Int) = 4 from rfl, addLd4]; simp [zLd]
    · rw [show ((5 : Nat) : Int) = 5 from rfl, addLd5]; simp [zLd]
    · rw [show ((6 : Nat) : Int) = 6 from rfl, addLd6]; simp [zLd]
    · rw [show ((7 : Nat) : Int) = 7 from rfl, addLd7]; simp [zLd]
    · rw [show ((8 : Nat) : Int) = 8 from rfl, addLd8]; simp [zLd]
  · rw [show ((127 : Nat) : Int) = 127 from rfl, addLdo]; simp [zLd]

theorem OwnSt.belowD {w w' : World} {base : Nat} {v : Value} {l : List ByteArray} (h : OwnSt w base v l) (K : ∀ X T C, Blk w X T C → T ≠ 89 → Blk w' X T C) : OwnSt w' base v l := h.stay (fun X C hX => K X _ C hX (by decide))

theorem LdRows.kept {w w' : World} {D : Nat} {x : Ld} {v1 v2 v3 v4 v5 v6 : Value} (h : LdRows w D x v1 v2 v3 v4 v5 v6) (b : Below w.heap.size w w') : LdRows w' D x v1 v2 v3 v4 v5 v6 :=
  ⟨h.1.kept b, h.2.1.kept b, h.2.2.1.kept b, h.2.2.2.1.kept b, h.2.2.2.2.1.kept b, h.2.2.2.2.2.kept b⟩

/-- A block of another type is written. -/
theorem LdRows.cell {w w' : World} {D B : Nat} {x : Ld} {v1 v2 v3 v4 v5 v6 : Value} {C : Array Value} (h : LdRows w D x v1 v2 v3 v4 v5 v6) (hB : Blk w B 29 C) (g : w.grownBy w' (some B)) : LdRows w' D x v1 v2 v3 v4 v5 v6 :=
  ⟨h.1.other hB (by decide) g, h.2.1.other hB (by decide) g, h.2.2.1.other hB (by decide) g, h.2.2.2.1.other hB (by decide) g, h.2.2.2.2.1.other hB (by decide) g, h.2.2.2.2.2.other hB (by decide) g⟩

theorem vrd_formed {t : Tl} {i c : Nat} (h : vrd t i c = 0) : formK t.k (txT t) = true ∧ (i < 3 → t.k = i + 1) ∧ (t.k ≤ 8 ∨ t.k = 127) ∧ (t.k < 8 → c = 0) := by
  obtain ⟨a, b, d, e, f, g⟩ := (vrd_zero t i c).1 h
  exact ⟨e, a, b, d⟩

end Go.Proofs.YtocgnbbnaamjjaaGreatDoor

namespace Go.Proofs.YtocgnbbnaamjjaaGreatDoor
open Go
set_option linter.unusedVariables false
set_option linter.unusedSimpArgs false

section
variable {P : Program} {ops : Array Oper} {Q : Exit → Act → World → Prop} {md : Region.Mode} {S T : World → Prop} {D : Nat → Bool}

def wpAnyT (P : Program) (md : Region.Mode) (ops : Array Oper) (Q : Exit → Act → World → Prop) (S T : World → Prop) (D : Nat → Bool) : Nat → Array Bool → Act → World → Prop
  | 0, listed, a, w => Region.ready md ops listed = [] ∧ Q .normal a w
  | fuel + 1, listed, a, w =>
    (Region.ready md ops listed = [] → Q .normal a w) ∧
    ∀ i ∈ Region.ready md ops listed, wpOp P ops Q i (fun a' w' => (D i = true → T w' ∧ wpAnyH P md ops Q T fuel (listed.setIfInBounds i true) a' w') ∧ (D i = false → (S w' ∧ T w') ∧ wpAnyT P md ops Q S T D fuel (listed.setIfInBounds i true) a' w')) a w

theorem wpAny_of_T : ∀ (fuel : Nat) (listed : Array Bool) (a : Act) (w : World), wpAnyT P md ops Q S T D fuel listed a w → wpAny P md ops Q fuel listed a w
  | 0, _, _, _, h => h
  | fuel + 1, _, _, _, h => ⟨h.1, fun i hi => wpOp_mono (fun a' w' h' => by
      cases hD : D i with
      | true => exact wpAny_of_held fuel _ a' w' (h'.1 hD).2
      | false => exact wpAny_of_T fuel _ a' w' (h'.2 hD).2) (h.2 i hi)⟩

theorem wpAnyT_first {i : Nat} {oi : Oper} {v : Value} (hi : ops[i]? = some oi) (hsel : ∀ (j : Nat) (o : Oper) cs b, ops[j]? = some o → o.op ≠ .select cs b)
    (hQ : ∀ c a w, Q (.panic c) (a.put oi.dst v) w → Q (.panic c) a w) (hDi : D i = false)
    (hD : ∀ j oj, ops[j]? = some oj → D j = true → ∃ e ∈ oj.after, Region.binds md e = true ∧ e.on = i) :
    ∀ (fuel : Nat) (listed : Array Bool) (a : Act) (w : World),
      (∀ j oj, ops[j]? = some oj → j ≠ i → listed.getD j true = false → (∀ e ∈ oj.after, Region.binds md e = true → e.on ≠ i) → oi.apart ops oj = true) →
      i ∈ Region.ready md ops listed → YieldsIf P ops S oi v a → S w ∧ T w →
      wpAnyT P md ops Q S T D fuel (listed.setIfInBounds i true) (a.put oi.dst v) w → wpAnyT P md ops Q S T D (fuel + 1) listed a w := by
  intro fuel
  induction fuel with
  | zero =>
    intro listed a w _ hr hy hS H
    refine ⟨fun h => (by rw [h] at hr; cases hr), fun j hj => ?_⟩
    by_cases hji : j = i
    · subst hji
      exact hy.wpOp hi hS.1 ⟨fun h => (by rw [hDi] at h; cases h), fun _ => ⟨hS, H⟩⟩
    · have := ready_mono hj hji
      rw [H.1] at this
      cases this
  | succ fuel ih =>
    intro listed a w hfree hr hy hS H
    refine ⟨fun h => (by rw [h] at hr; cases hr), fun j hj => ?_⟩
    by_cases hji : j = i
    · subst hji
      exact hy.wpOp hi hS.1 ⟨fun h => (by rw [hDi] at h; cases h), fun _ => ⟨hS, H⟩⟩
    · have h1 := H.2 j (ready_mono hj hji)
      obtain ⟨hjun, oj, hoj, hall⟩ := mem_ready.1 hj
      have hnot : ∀ e ∈ oj.after, Region.binds md e = true → e.on ≠ i := fun e he hb heq => by
        have h1 := hall e he hb
        have h0 := (mem_ready.1 hr).1
        rw [heq] at h1
        rcases Nat.lt_or_ge i listed.size with h' | h'
        · simp [h'] at h0 h1; rw [h0] at h1; cases h1
        · simp [Array.getElem?_eq_none h'] at h1
      have hDj : D j = false := by
        cases hq : D j with
        | false => rfl
        | true =>
          obtain ⟨e, he, hb, heq⟩ := hD j oj hoj hq
          exact absurd heq (hnot e he hb)
      have h1' : wpOp P ops Q j (fun a' w' => (S w' ∧ T w') ∧ wpAnyT P md ops Q S T D fuel ((listed.setIfInBounds i true).setIfInBounds j true) a' w') (a.put oi.dst v) w := wpOp_mono (fun a' w' h => h.2 hDj) h1
      have h2 := wpOp_putIf hoj (hfree j oj hoj hji hjun hnot) (fun cs b => hsel i oi cs b hi) (fun cs b => hsel j oj cs b hoj) hQ hy h1'
      have hfree' : ∀ k ok, ops[k]? = some ok → k ≠ i → (listed.setIfInBounds j true).getD k true = false →
          (∀ e ∈ ok.after, Region.binds md e = true → e.on ≠ i) → oi.apart ops ok = true := fun k ok hk hki hun hno => by
        refine hfree k ok hk hki ?_ hno
        by_cases hjk : j = k
        · subst hjk; exact hjun
        · rw [getD_set_ne true hjk] at hun; exact hun
      refine wpOp_mono (fun a' w' h3 => ⟨fun h => (by rw [hDj] at h; cases h), fun _ => ⟨h3.2.1, ih (listed.setIfInBounds j true) a' w' hfree' (ready_mono hr (Ne.symm hji)) h3.1 h3.2.1 ?_⟩⟩) h2
      rw [Array.setIfInBounds_comm _ _ hji]
      exact h3.2.2

theorem wpAnyT_firstT {i : Nat} {oi : Oper} {v : Value} (hi : ops[i]? = some oi) (hsel : ∀ (j : Nat) (o : Oper) cs b, ops[j]? = some o → o.op ≠ .select cs b)
    (hQ : ∀ c a w, Q (.panic c) (a.put oi.dst v) w → Q (.panic c) a w) (hDi : D i = false) :
    ∀ (fuel : Nat) (listed : Array Bool) (a : Act) (w : World),
      (∀ j oj, ops[j]? = some oj → j ≠ i → listed.getD j true = false → (∀ e ∈ oj.after, Region.binds md e = true → e.on ≠ i) → oi.apart ops oj = true) →
      i ∈ Region.ready md ops listed → YieldsIf P ops T oi v a → S w ∧ T w →
      wpAnyT P md ops Q S T D fuel (listed.setIfInBounds i true) (a.put oi.dst v) w → wpAnyT P md ops Q S T D (fuel + 1) listed a w := by
  intro fuel
  induction fuel with
  | zero =>
    intro listed a w _ hr hy hS H
    refine ⟨fun h => (by rw [h] at hr; cases hr), fun j hj => ?_⟩
    by_cases hji : j = i
    · subst hji
      exact hy.wpOp hi hS.2 ⟨fun h => (by rw [hDi] at h; cases h), fun _ => ⟨hS, H⟩⟩
    · have := ready_mono hj hji
      rw [H.1] at this
      cases this
  | succ fuel ih =>
    intro listed a w hfree hr hy hS H
    refine ⟨fun h => (by rw [h] at hr; cases hr), fun j hj => ?_⟩
    by_cases hji : j = i
    · subst hji
      exact hy.wpOp hi hS.2 ⟨fun h => (by rw [hDi] at h; cases h), fun _ => ⟨hS, H⟩⟩
    · have h1 := H.2 j (ready_mono hj hji)
      obtain ⟨hjun, oj, hoj, hall⟩ := mem_ready.1 hj
      have hnot : ∀ e ∈ oj.after, Region.binds md e = true → e.on ≠ i := fun e he hb heq => by
        have h1 := hall e he hb
        have h0 := (mem_ready.1 hr).1
        rw [heq] at h1
        rcases Nat.lt_or_ge i listed.size with h' | h'
        · simp [h'] at h0 h1; rw [h0] at h1; cases h1
        · simp [Array.getElem?_eq_none h'] at h1
      have h2 := wpOp_putIf hoj (hfree j oj hoj hji hjun hnot) (fun cs b => hsel i oi cs b hi) (fun cs b => hsel j oj cs b hoj) hQ hy h1
      have hfree' : ∀ k ok, ops[k]? = some ok → k ≠ i → (listed.setIfInBounds j true).getD k true = false →
          (∀ e ∈ ok.after, Region.binds md e = true → e.on ≠ i) → oi.apart ops ok = true := fun k ok hk hki hun hno => by
        refine hfree k ok hk hki ?_ hno
        by_cases hjk : j = k
        · subst hjk; exact hjun
        · rw [getD_set_ne true hjk] at hun; exact hun
      refine wpOp_mono (fun a' w' h3 => ⟨fun hDj => ?_, fun hDj => ?_⟩) h2
      · refine ⟨(h3.2.1 hDj).1, wpAnyH_first hi hsel hQ fuel (listed.setIfInBounds j true) a' w' hfree' (ready_mono hr (Ne.symm hji)) h3.1 (h3.2.1 hDj).1 ?_⟩
        rw [Array.setIfInBounds_comm _ _ hji]
        exact (h3.2.1 hDj).2
      · refine ⟨(h3.2.2 hDj).1, ih (listed.setIfInBounds j true) a' w' hfree' (ready_mono hr (Ne.symm hji)) h3.1 (h3.2.2 hDj).1 ?_⟩
        rw [Array.setIfInBounds_comm _ _ hji]
        exact (h3.2.2 hDj).2

theorem wpAnyT_take {i : Nat} {oi : Oper} {v : Value} {fuel : Nat} {listed : Array Bool} {a : Act} {w : World} (hi : ops[i]? = some oi)
    (hs : Region.noSelect ops = true) (hf : Region.free md ops listed i = true) (hr : (Region.ready md ops listed).contains i = true) (hDi : D i = false) (hD : waitsD md ops D i = true)
    (hQ : ∀ c a w, Q (.panic c) (a.put oi.dst v) w → Q (.panic c) a w) (hy : YieldsIf P ops S oi v a) (hS : S w ∧ T w)
    (h : wpAnyT P md ops Q S T D fuel (listed.setIfInBounds i true) (a.put oi.dst v) w) : wpAnyT P md ops Q S T D (fuel + 1) listed a w :=
  wpAnyT_first hi (Region.noSelect_spec hs) hQ hDi (waitsD_spec hD) fuel listed a w (Region.free_spec hi hf) (by simpa using hr) hy hS h

theorem wpAnyT_takeT {i : Nat} {oi : Oper} {v : Value} {fuel : Nat} {listed : Array Bool} {a : Act} {w : World} (hi : ops[i]? = some oi)
    (hs : Region.noSelect ops = true) (hf : Region.free md ops listed i = true) (hr : (Region.ready md ops listed).contains i = true) (hDi : D i = false)
    (hQ : ∀ c a w, Q (.panic c) (a.put oi.dst v) w → Q (.panic c) a w) (hy : YieldsIf P ops T oi v a) (hS : S w ∧ T w)
    (h : wpAnyT P md ops Q S T D fuel (listed.setIfInBounds i true) (a.put oi.dst v) w) : wpAnyT P md ops Q S T D (fuel + 1) listed a w :=
  wpAnyT_firstT hi (Region.noSelect_spec hs) hQ hDi fuel listed a w (Region.free_spec hi hf) (by simpa using hr) hy hS h

/-- The only one that may come up. -/
theorem wpAnyT_one {r : Nat} {o : Oper} {fuel : Nat} {listed : Array Bool} {a : Act} {w : World} (hr : Region.ready md ops listed = [r]) (ho : ops[r]? = some o) (hw : Region.wanted o (yielded ops a.tmps) = true) (hD : D r = false)
    (h : ∀ K : Act → World → Prop, (∀ a' w', S w' ∧ T w' → (S w' ∧ T w' → wpAnyT P md ops Q S T D fuel (listed.setIfInBounds r true) a' w') → K a' w') → o.wp P a w K Q) : wpAnyT P md ops Q S T D (fuel + 1) listed a w := by
  refine ⟨fun h0 => (by rw [hr] at h0; cases h0), fun i hi => ?_⟩
  rw [hr] at hi
  obtain rfl := List.mem_singleton.1 hi
  unfold wpOp
  simp only [ho, hw, if_true]
  exact Or.inl (h _ fun a' w' h1 h2 => ⟨fun q => (by rw [hD] at q; cases q), fun _ => ⟨h1, h2 h1⟩⟩)

theorem wpAnyT_last {r : Nat} {o : Oper} {fuel : Nat} {listed : Array Bool} {a : Act} {w : World} (hr : Region.ready md ops listed = [r]) (ho : ops[r]? = some o) (hw : Region.wanted o (yielded ops a.tmps) = true) (hD : D r = true)
    (h : ∀ K : Act → World → Prop, (∀ a' w', T w' → (T w' → wpAnyH P md ops Q T fuel (listed.setIfInBounds r true) a' w') → K a' w') → o.wp P a w K Q) : wpAnyT P md ops Q S T D (fuel + 1) listed a w := by
  refine ⟨fun h0 => (by rw [hr] at h0; cases h0), fun i hi => ?_⟩
  rw [hr] at hi
  obtain rfl := List.mem_singleton.1 hi
  unfold wpOp
  simp only [ho, hw, if_true]
  exact Or.inl (h _ fun a' w' h1 h2 => ⟨fun _ => ⟨h1, h2 h1⟩, fun q => (by rw [hD] at q; cases q)⟩)

theorem wp_region_T {id : Nat} {a : Act} {w : World} (S T : World → Prop) (D : Nat → Bool) (hm : P.follows .mixedOrders = true) (h0 : S w.drew ∧ T w.drew)
    (h : S w.drew ∧ T w.drew → wpAnyT P .any ops Q S T D ops.size (Array.replicate ops.size false) a w.drew) : (Code.region id ops true).wp P Q a w :=
  wp_region_any hm (wpAny_of_T _ _ _ _ (h h0))
end

end Go.Proofs.YtocgnbbnaamjjaaGreatDoor

namespace Go.Proofs.YtocgnbbnaamjjaaGreatDoor
open Go

/-- A bit that is on and that there is not. -/
def capB (h o j : Nat) : Bool := (o / 2 ^ j % 2 == 1) && (h / 2 ^ j % 2 == 0)

theorem andNot_zero (o h : Nat) (ho : o < 65536) (hh : h < 65536) : (bits .andNot .i64 (o : Int) (h : Int) == 0) = (List.range 16).all fun j => !capB h o j := by
  have e : bits .andNot .i64 (o : Int) (h : Int) = ((o &&& (2 ^ 64 - (h + 1)) : Nat) : Int) := by
    show IntKind.i64.wrap ((BitVec.ofInt 64 (o : Int) &&& ~~~BitVec.ofInt 64 (h : Int)).toNat : Int) = _
    rw [BitVec.toNat_and, BitVec.toNat_not, ofInt_u64 o (by omega), ofInt_u64 h (by omega)]
    have e2 : 2 ^ 64 - 1 - h = 2 ^ 64 - (h + 1) := by omega
    rw [e2]
    have hle : o &&& (2 ^ 64 - (h + 1)) ≤ o := Nat.and_le_left
    exact Lib.wrap_i64_small _ (by omega)
  rw [e]
  have key : (o &&& (2 ^ 64 - (h + 1)) = 0) ↔ ∀ j, j < 16 → capB h o j = false := by
    constructor
    · intro hz j hj
      have t : (o &&& (2 ^ 64 - (h + 1))).testBit j = false := by rw [hz]; exact Nat.zero_testBit j
      rw [Nat.testBit_and, Nat.testBit_two_pow_sub_succ (by omega), Nat.testBit_eq_decide_div_mod_eq, Nat.testBit_eq_decide_div_mod_eq] at t
      have hj64 : decide (j < 64) = true := decide_eq_true (by omega)
      rw [hj64, Bool.true_and] at t
      unfold capB
      by_cases h1 : o / 2 ^ j % 2 = 1
      · by_cases h2 : h / 2 ^ j % 2 = 1
        · simp [h1, h2]
        · simp [h1, h2] at t
      · simp [h1]
    · intro hall
      refine Nat.eq_of_testBit_eq fun j => ?_
      rw [Nat.zero_testBit, Nat.testBit_and, Nat.testBit_two_pow_sub_succ (by omega)]
      by_cases hj : j < 16
      · have := hall j hj
        unfold capB at this
        rw [Nat.testBit_eq_decide_div_mod_eq, Nat.testBit_eq_decide_div_mod_eq]
        by_cases h1 : o / 2 ^ j % 2 = 1
        · by_cases h2 : h / 2 ^ j % 2 = 1
          · simp [h1, h2]
          · have h3 : h / 2 ^ j % 2 = 0 := by omega
            simp [h1, h3] at this
        · simp [h1]
      · have : o.testBit j = false := Nat.testBit_lt_two_pow (Nat.lt_of_lt_of_le (show o < 2 ^ 16 by omega) (Nat.pow_le_pow_right (by decide) (by omega)))
        rw [this, Bool.false_and]
  by_cases hz : o &&& (2 ^ 64 - (h + 1)) = 0
  · rw [hz]
    have := key.1 hz
    symm
    show _ = true
    rw [List.all_eq_true]
    intro j hj
    rw [this j (List.mem_range.1 hj)]
    rfl
  · have h1 : ((o &&& (2 ^ 64 - (h + 1)) : Nat) : Int) ≠ 0 := by omega
    have h2 : (((o &&& (2 ^ 64 - (h + 1)) : Nat) : Int) == 0) = false := by
      rw [Bool.eq_false_iff]
      intro q
      exact h1 (by simpa using q)
    rw [h2]
    symm
    rw [Bool.eq_false_iff]
    intro q
    rw [List.all_eq_true] at q
    refine hz (key.2 fun j hj => ?_)
    have := q j (List.mem_range.2 hj)
    simpa using this

end Go.Proofs.YtocgnbbnaamjjaaGreatDoor

namespace Go.Proofs.YtocgnbbnaamjjaaGreatDoor
open Go.RowKit
attribute [local go_sem ↓] Go.wp_at_zero Go.wp_at_succ
set_option linter.unusedSimpArgs false
set_option linter.unusedVariables false
set_option maxRecDepth 100000

theorem withinRf_any (x a b : Int) (w : World) : Calls Tryz.prog 14 #[.int .i64 x, .int .i64 a, .int .i64 b] w fun e w' => e = .returned (.bool (wthn x a b)) ∧ Below w.heap.size w w' := by
  unfold wthn
  by_cases h1 : a ≤ x
  · have d1 : decide (a ≤ x) = true := decide_eq_true h1
    obtain ⟨d2, hd⟩ : ∃ d2, decide (x ≤ b) = d2 := ⟨_, rfl⟩
    rw [d1, Bool.true_and]
    go_enter Tryz.func14, Tryz.ntmps14
    go_wp2
    go_ret
    exact ⟨by rw [hd]; rfl, Below.refl _ _⟩
  · have d1 : decide (a ≤ x) = false := decide_eq_false h1
    rw [d1, Bool.false_and]
    go_enter Tryz.func14, Tryz.ntmps14
    go_wp2
    go_ret
    exact ⟨rfl, Below.refl _ _⟩

/-- The reference's own words for what may be. -/
def okMgR (x : Mg) : Bool := wthn x.asb 0 255 && (wthn x.ai.size 1 31 && (wthn x.fs 1 3 && (wthn x.fi 0 4294967295 && decide ((x.oid.size : Int) ≤ 128))))

def okOgR (x : Og) : Bool := wthn x.ou 0 16777215 && (wthn x.su 0 255 && decide ((x.nf.size : Int) ≤ 507))

def okCpR (x : Cp) : Bool := wthn x.h 0 65535 && (wthn x.o 0 65535 && (List.range 16).all fun j => !capB x.h.toNat x.o.toNat j)

theorem fit_wthn (n : Nat) (m v : Int) (h : (256 : Int) ^ n = m + 1) : fitI n v = wthn v 0 m := by
  unfold fitI wthn
  rw [h]
  have : decide (v < m + 1) = decide (v ≤ m) := by
    by_cases q : v ≤ m
    · rw [decide_eq_true q, decide_eq_true (by omega)]
    · rw [decide_eq_false q, decide_eq_false (by omega)]
  rw [this]

theorem okMgR_eq (x : Mg) : okMgR x = okMg x := by
  unfold okMgR okMg
  rw [fit_wthn 1 255 _ (by decide), fit_wthn 4 4294967295 _ (by decide)]

theorem okOgR_eq (x : Og) : okOgR x = okOg x := by
  unfold okOgR okOg
  rw [fit_wthn 1 255 _ (by decide), fit_wthn 3 16777215 _ (by decide)]

theorem okCpR_eq (x : Cp) : okCpR x = okCp x := by
  unfold okCpR okCp
  simp only [List.all_cons, List.all_nil, Bool.and_true]
  rw [fit_wthn 2 65535 _ (by decide), fit_wthn 2 65535 _ (by decide), ← Bool.and_assoc]
  cases h1 : wthn x.h 0 65535 with
  | false => simp
  | true =>
    cases h2 : wthn x.o 0 65535 with
    | false => simp
    | true =>
      simp only [wthn, Bool.and_eq_true, decide_eq_true_eq] at h1 h2
      obtain ⟨xh, xo⟩ := x
      dsimp only at h1 h2 ⊢
      obtain ⟨H, rfl⟩ := Int.eq_ofNat_of_zero_le h1.1
      obtain ⟨O, rfl⟩ := Int.eq_ofNat_of_zero_le h2.1
      rw [andNot_zero O H (by omega) (by omega)]
      rfl

theorem nameRight_any (x : Nm) (w : World) : Calls Tryz.prog 11 #[.agg (nmC x)] w fun e w' => e = .returned (.bool (okNm x)) ∧ Below w.heap.size w w' := by
  have HA0 := Blk.new w 23 (nmC x)
  have B0 : Below w.heap.size w (w.alloc (.cells (nmC x) 23)) := (Below.refl _ _).alloc (Nat.le_refl _) _
  have H1 := Lib.hid (fun W => withinRf_any x.su 1 7 W)
  have H2 := Lib.hid (fun W => withinRf_any x.id.size 1 255 W)
  unfold okNm
  generalize wthn x.id.size 1 255 = x2 at *
  generalize wthn x.su 1 7 = x1 at *
  cases x1 with
  | false =>
    simp only [Bool.true_and, Bool.false_and]
    go_enter Tryz.func11, Tryz.ntmps11
    go_upto_region 1 with (fail)
    generalize hw0 : (w.alloc (.cells (nmC x) 23)) = w0 at *
    clear hw0
    have c0_0 := HA0.cv 0 (.int .i64 x.su) rfl
    go_wp2_with fail
    refine (H1.out _).mono ?_
    rintro e w1 ⟨rfl, k1⟩
    have HA1 := HA0.kept k1
    have B1 := B0.trans (k1.mono B0.size)
    go_wp2
    go_ret
    exact ⟨rfl, B1⟩
  | true =>
    simp only [Bool.true_and]
    go_enter Tryz.func11, Tryz.ntmps11
    go_upto_region 1 with (fail)
    generalize hw0 : (w.alloc (.cells (nmC x) 23)) = w0 at *
    clear hw0
    have c0_0 := HA0.cv 0 (.int .i64 x.su) rfl
    go_wp2_with fail
    refine (H1.out _).mono ?_
    rintro e w1 ⟨rfl, k1⟩
    have HA1 := HA0.kept k1
    have B1 := B0.trans (k1.mono B0.size)
    have c1_1 := HA1.cv 1 (.string x.id) rfl
    go_wp2_with fail
    refine (H2.out _).mono ?_
    rintro e w2 ⟨rfl, k2⟩
    have HA2 := HA1.kept k2
    have B2 := B1.trans (k2.mono B1.size)
    go_wp2
    go_ret
    exact ⟨rfl, B2⟩

set_option maxHeartbeats 1600000 in
theorem manageRight_any (x : Mg) (w : World) : Calls Tryz.prog 13 #[.agg (mgC x)] w fun e w' => e = .returned (.bool (okMgR x)) ∧ Below w.heap.size w w' := by
  have HA0 := Blk.new w 89 (mgC x)
  have B0 : Below w.heap.size w (w.alloc (.cells (mgC x) 89)) := (Below.refl _ _).alloc (Nat.le_refl _) _
  have H1 := Lib.hid (fun W => withinRf_any x.asb 0 255 W)
  have H2 := Lib.hid (fun W => withinRf_any x.ai.size 1 31 W)
  have H3 := Lib.hid (fun W => withinRf_any x.fs 1 3 W)
  have H4 := Lib.hid (fun W => withinRf_any x.fi 0 4294967295 W)
  unfold okMgR
  obtain ⟨x5, hx5⟩ : ∃ x5, decide ((x.oid.size : Int) ≤ 128) = x5 := ⟨_, rfl⟩
  rw [hx5]
  generalize wthn x.fi 0 4294967295 = x4 at *
  generalize wthn x.fs 1 3 = x3 at *
  generalize wthn x.ai.size 1 31 = x2 at *
  generalize wthn x.asb 0 255 = x1 at *
  cases x1 with
  | false =>
    simp only [Bool.true_and, Bool.false_and]
    go_enter Tryz.func13, Tryz.ntmps13
    go_upto_region 1 with (fail)
    generalize hw0 : (w.alloc (.cells (mgC x) 89)) = w0 at *
    clear hw0
    have c0_0 := HA0.cv 0 (.int .i64 x.asb) rfl
    go_wp2_with fail
    refine (H1.out _).mono ?_
    rintro e w1 ⟨rfl, k1⟩
    have HA1 := HA0.kept k1
    have B1 := B0.trans (k1.mono B0.size)
    go_wp2
    go_ret
    exact ⟨rfl, B1⟩
  | true =>
    cases x2 with
    | false =>
      simp only [Bool.true_and, Bool.false_and]
      go_enter Tryz.func13, Tryz.ntmps13
      go_upto_region 1 with (fail)
      generalize hw0 : (w.alloc (.cells (mgC x) 89)) = w0 at *
      clear hw0
      have c0_0 := HA0.cv 0 (.int .i64 x.asb) rfl
      go_wp2_with fail
      refine (H1.out _).mono ?_
      rintro e w1 ⟨rfl, k1⟩
      have HA1 := HA0.kept k1
      have B1 := B0.trans (k1.mono B0.size)
      have c1_1 := HA1.cv 1 (.string x.ai) rfl
      go_wp2_with fail
      refine (H2.out _).mono ?_
      rintro e w2 ⟨rfl, k2⟩
      have HA2 := HA1.kept k2
      have B2 := B1.trans (k2.mono B1.size)
      go_wp2
      go_ret
      exact ⟨rfl, B2⟩
    | true =>
      cases x3 with
      | false =>
        simp only [Bool.true_and, Bool.false_and]
        go_enter Tryz.func13, Tryz.ntmps13
        go_upto_region 1 with (fail)
        generalize hw0 : (w.alloc (.cells (mgC x) 89)) = w0 at *
        clear hw0
        have c0_0 := HA0.cv 0 (.int .i64 x.asb) rfl
        go_wp2_with fail
        refine (H1.out _).mono ?_
        rintro e w1 ⟨rfl, k1⟩
        have HA1 := HA0.kept k1
        have B1 := B0.trans (k1.mono B0.size)
        have c1_1 := HA1.cv 1 (.string x.ai) rfl
        go_wp2_with fail
        refine (H2.out _).mono ?_
        rintro e w2 ⟨rfl, k2⟩
        have HA2 := HA1.kept k2
        have B2 := B1.trans (k2.mono B1.size)
        have c2_2 := HA2.cv 2 (.int .i64 x.fs) rfl
        go_wp2_with fail
        refine (H3.out _).mono ?_
        rintro e w3 ⟨rfl, k3⟩
        have HA3 := HA2.kept k3
        have B3 := B2.trans (k3.mono B2.size)
        go_wp2
        go_ret
        exact ⟨rfl, B3⟩
      | true =>
        cases x4 with
        | false =>
          simp only [Bool.true_and, Bool.false_and]
          go_enter Tryz.func13, Tryz.ntmps13
          go_upto_region 1 with (fail)
          generalize hw0 : (w.alloc (.cells (mgC x) 89)) = w0 at *
          clear hw0
          have c0_0 := HA0.cv 0 (.int .i64 x.asb) rfl
          go_wp2_with fail
          refine (H1.out _).mono ?_
          rintro e w1 ⟨rfl, k1⟩
          have HA1 := HA0.kept k1
          have B1 := B0.trans (k1.mono B0.size)
          have c1_1 := HA1.cv 1 (.string x.ai) rfl
          go_wp2_with fail
          refine (H2.out _).mono ?_
          rintro e w2 ⟨rfl, k2⟩
          have HA2 := HA1.kept k2
          have B2 := B1.trans (k2.mono B1.size)
          have c2_2 := HA2.cv 2 (.int .i64 x.fs) rfl
          go_wp2_with fail
          refine (H3.out _).mono ?_
          rintro e w3 ⟨rfl, k3⟩
          have HA3 := HA2.kept k3
          have B3 := B2.trans (k3.mono B2.size)
          have c3_3 := HA3.cv 3 (.int .i64 x.fi) rfl
          go_wp2_with fail
          refine (H4.out _).mono ?_
          rintro e w4 ⟨rfl, k4⟩
          have HA4 := HA3.kept k4
          have B4 := B3.trans (k4.mono B3.size)
          go_wp2
          go_ret
          exact ⟨rfl, B4⟩
        | true =>
          simp only [Bool.true_and]
          go_enter Tryz.func13, Tryz.ntmps13
          go_upto_region 1 with (fail)
          generalize hw0 : (w.alloc (.cells (mgC x) 89)) = w0 at *
          clear hw0
          have c0_0 := HA0.cv 0 (.int .i64 x.asb) rfl
          go_wp2_with fail
          refine (H1.out _).mono ?_
          rintro e w1 ⟨rfl, k1⟩
          have HA1 := HA0.kept k1
          have B1 := B0.trans (k1.mono B0.size)
          have c1_1 := HA1.cv 1 (.string x.ai) rfl
          go_wp2_with fail
          refine (H2.out _).mono ?_
          rintro e w2 ⟨rfl, k2⟩
          have HA2 := HA1.kept k2
          have B2 := B1.trans (k2.mono B1.size)
          have c2_2 := HA2.cv 2 (.int .i64 x.fs) rfl
          go_wp2_with fail
          refine (H3.out _).mono ?_
          rintro e w3 ⟨rfl, k3⟩
          have HA3 := HA2.kept k3
          have B3 := B2.trans (k3.mono B2.size)
          have c3_3 := HA3.cv 3 (.int .i64 x.fi) rfl
          go_wp2_with fail
          refine (H4.out _).mono ?_
          rintro e w4 ⟨rfl, k4⟩
          have HA4 := HA3.kept k4
          have B4 := B3.trans (k4.mono B3.size)
          have c4_4 := HA4.cv 4 (.string x.oid) rfl
          go_wp2
          go_ret
          exact ⟨rfl, B4⟩




end Go.Proofs.YtocgnbbnaamjjaaGreatDoor

namespace Go.Proofs.YtocgnbbnaamjjaaGreatDoor
open Go.RowKit
attribute [local go_sem ↓] Go.wp_at_zero Go.wp_at_succ
set_option linter.unusedSimpArgs false
set_option linter.unusedVariables false
set_option maxRecDepth 100000

set_option maxHeartbeats 6400000 in
theorem capsRight_any (x : Cp) (w : World) : Calls Tryz.prog 12 #[.agg (cpC x)] w fun e w' => e = .returned (.bool (okCpR x)) ∧ Below w.heap.size w w' := by
  obtain ⟨h, o⟩ := x
  have HA0 := Blk.new w 86 (cpC ⟨h, o⟩)
  have B0 : Below w.heap.size w (w.alloc (.cells (cpC ⟨h, o⟩) 86)) := (Below.refl _ _).alloc (Nat.le_refl _) _
  have H1 := Lib.hid (fun W => withinRf_any h 0 65535 W)
  have H2 := Lib.hid (fun W => withinRf_any o 0 65535 W)
  unfold okCpR
  dsimp only
  cases hx1 : wthn h 0 65535 with
  | false =>
    rw [hx1] at H1
    simp only [Bool.false_and]
    clear hx1
    go_enter Tryz.func12, Tryz.ntmps12
    go_upto_region 1 with (fail)
    generalize (w.alloc (.cells (cpC ⟨h, o⟩) 86)) = w0 at *
    have c0 := HA0.cv 0 (.int .i64 h) rfl
    go_wp2_with fail
    refine (H1.out _).mono ?_
    rintro e w1 ⟨rfl, k1⟩
    have hb1 : (!false) = true := rfl
    go_wp2
    go_ret
    exact ⟨rfl, B0.trans (k1.mono B0.size)⟩
  | true =>
    cases hx2 : wthn o 0 65535 with
    | false =>
      rw [hx1] at H1
      rw [hx2] at H2
      simp only [Bool.false_and, Bool.true_and]
      clear hx1 hx2
      go_enter Tryz.func12, Tryz.ntmps12
      go_upto_region 1 with (fail)
      generalize (w.alloc (.cells (cpC ⟨h, o⟩) 86)) = w0 at *
      have c0 := HA0.cv 0 (.int .i64 h) rfl
      have hb1 : (!false) = true := rfl
      have hb2 : (!true) = false := rfl
      go_wp2_with fail
      refine (H1.out _).mono ?_
      rintro e w1 ⟨rfl, k1⟩
      have HA1 := HA0.kept k1
      have B1 := B0.trans (k1.mono B0.size)
      clear HA0 B0 c0 k1
      have c1 := HA1.cv 1 (.int .i64 o) rfl
      go_wp2_with fail
      refine (H2.out _).mono ?_
      rintro e w2 ⟨rfl, k2⟩
      go_wp2
      go_ret
      exact ⟨rfl, B1.trans (k2.mono B1.size)⟩
    | true =>
      rw [hx1] at H1
      rw [hx2] at H2
      simp only [Bool.true_and]
      simp only [wthn, Bool.and_eq_true, decide_eq_true_eq] at hx1 hx2
      obtain ⟨H, rfl⟩ := Int.eq_ofNat_of_zero_le hx1.1
      obtain ⟨O, rfl⟩ := Int.eq_ofNat_of_zero_le hx2.1
      have hH : H < 65536 := by omega
      have hO : O < 65536 := by omega
      have hgoal : Hid (∀ r : Bool, (r = true ↔ ∀ j, j < 16 → capB H O j = false) → ((List.range 16).all fun j => !capB ((H : Nat) : Int).toNat ((O : Nat) : Int).toNat j) = r) := fun r hr => by
        rw [Int.toNat_natCast, Int.toNat_natCast]
        cases r with
        | true =>
          rw [List.all_eq_true]
          intro j hj
          rw [hr.1 rfl j (List.mem_range.1 hj)]
          rfl
        | false =>
          rw [Bool.eq_false_iff]
          intro q
          rw [List.all_eq_true] at q
          have := hr.2 fun j hj => by
            have := q j (List.mem_range.2 hj)
            simpa using this
          cases this
      generalize ((List.range 16).all fun j => !capB ((H : Nat) : Int).toNat ((O : Nat) : Int).toNat j) = R at *
      clear hx1 hx2
      go_enter Tryz.func12, Tryz.ntmps12
      go_upto_region 1 with (fail)
      generalize (w.alloc (.cells (cpC ⟨(H : Int), (O : Int)⟩) 86)) = w0 at *
      have c0 := HA0.cv 0 (.int .i64 H) rfl
      have hb2 : (!true) = false := rfl
      go_wp2_with fail
      refine (H1.out _).mono ?_
      rintro e w1 ⟨rfl, k1⟩
      have HA1 := HA0.kept k1
      have B1 := B0.trans (k1.mono B0.size)
      clear HA0 B0 c0 k1
      have c1 := HA1.cv 1 (.int .i64 O) rfl
      go_wp2_with fail
      refine (H2.out _).mono ?_
      rintro e w2 ⟨rfl, k2⟩
      have HA2 := HA1.kept k2
      have B2 := B1.trans (k2.mono B1.size)
      clear HA1 B1 c1 k2 H1 H2
      go_wp2_with fail
      go_loopw [3] (fun i wr => ∃ j : Nat, j ≤ 16 ∧ i = .int .i64 ((2 ^ j : Nat) : Int) ∧ wr = w2 ∧ ∀ k, k < j → capB H O k = false) (fun i _ => 65536 * 2 - (intOf i).toNat)
      case atStart => exact ⟨0, by omega, rfl, rfl, fun k hk => by omega⟩
      case round =>
        obtain ⟨j, hj, rfl, hw, hall⟩ := hrel
        replace hw := hw.symm
        subst hw
        by_cases hj16 : j = 16
        · subst hj16
          have e16 : ((2 ^ 16 : Nat) : Int) = 65536 := by decide
          rw [e16]
          obtain rfl : R = true := hgoal.out true ⟨fun _ => hall, fun _ => rfl⟩
          clear hall hgoal
          go_wp2
          go_ret
          exact ⟨rfl, B2⟩
        · have hjl : j < 16 := by omega
          obtain ⟨X, hX⟩ : ∃ X, X = 2 ^ j := ⟨_, rfl⟩
          have hXp : 0 < X := by rw [hX]; exact Nat.two_pow_pos j
          have hXl : X ≤ 32768 := by
            rw [hX]
            exact Nat.le_trans (Nat.pow_le_pow_right (by decide) (show j ≤ 15 by omega)) (by decide)
          have hX2 : Hid (X * 2 = 2 ^ (j + 1)) := by show _ = _; rw [hX, Nat.pow_succ]
          have q1 : (X : Int) < 65536 := by omega
          have q2 : decide ((X : Int) < 65536) = true := decide_eq_true q1
          have q3 : ¬ (X : Int) = 0 := by omega
          have q4 : IntKind.i64.wrap ((X : Int) * 2) = ((X * 2 : Nat) : Int) := by rw [IntKind.wrap_i64] <;> omega
          have hcb : capB H O j = ((O / X % 2 == 1) && (H / X % 2 == 0)) := by unfold capB; rw [← hX]
          rw [← hX]
          have hOX : O / X ≤ O := Nat.div_le_self _ _
          have hHX : H / X ≤ H := Nat.div_le_self _ _
          have t1 : Int.tdiv (O : Int) (X : Int) = ((O / X : Nat) : Int) := rfl
          have t2 : Int.tdiv (H : Int) (X : Int) = ((H / X : Nat) : Int) := rfl
          have u1 : (O : Int) / (X : Int) = ((O / X : Nat) : Int) := rfl
          have u2 : (H : Int) / (X : Int) = ((H / X : Nat) : Int) := rfl
          generalize O / X = a at *
          generalize H / X = b at *
          have v1 : IntKind.i64.wrap (a : Int) = (a : Int) := by rw [IntKind.wrap_i64] <;> omega
          have v2 : IntKind.i64.wrap (b : Int) = (b : Int) := by rw [IntKind.wrap_i64] <;> omega
          have c0 := HA2.cv 0 (.int .i64 H) rfl
          have c1 := HA2.cv 1 (.int .i64 O) rfl
          clear hX
          by_cases g1 : a % 2 = 1
          · have s1 : Int.tmod (a : Int) 2 = 1 := by rw [Int.tmod_eq_emod_of_nonneg (by omega)]; omega
            have s1' : (a : Int) % 2 = 1 := by omega
            by_cases g2 : b % 2 = 0
            · have s2 : Int.tmod (b : Int) 2 = 0 := by rw [Int.tmod_eq_emod_of_nonneg (by omega)]; omega
              have s2' : (b : Int) % 2 = 0 := by omega
              obtain rfl : R = false := hgoal.out false ⟨fun q => absurd q (by decide), fun q => by
                have := q j hjl
                rw [hcb, g1, g2] at this
                cases this⟩
              clear hall hgoal hcb
              go_wp2
              go_ret
              exact ⟨rfl, B2⟩
            · have s2 : Int.tmod (b : Int) 2 = 1 := by rw [Int.tmod_eq_emod_of_nonneg (by omega)]; omega
              have s2' : (b : Int) % 2 = 1 := by omega
              have hno : capB H O j = false := by rw [hcb]; simp [g2]
              clear hcb
              have hall2 : Hid (∀ k, k < j + 1 → capB H O k = false) := fun k hk => by
                rcases Nat.lt_or_ge k j with h' | h'
                · exact hall k h'
                · obtain rfl : k = j := by omega
                  exact hno
              clear hall hno hgoal
              go_wp2
              go_roundw
              case rel => exact ⟨j + 1, by omega, by rw [← hX2.out]; first | rfl | simp, trivial, hall2.out⟩
              case measure => simp [intOf]; omega
          · have s1 : Int.tmod (a : Int) 2 = 0 := by rw [Int.tmod_eq_emod_of_nonneg (by omega)]; omega
            have s1' : (a : Int) % 2 = 0 := by omega
            have hno : capB H O j = false := by rw [hcb]; simp [g1]
            clear hcb
            have hall2 : Hid (∀ k, k < j + 1 → capB H O k = false) := fun k hk => by
              rcases Nat.lt_or_ge k j with h' | h'
              · exact hall k h'
              · obtain rfl : k = j := by omega
                exact hno
            clear hall hno hgoal
            go_wp2
            go_roundw
            case rel => exact ⟨j + 1, by omega, by rw [← hX2.out]; first | rfl | simp, trivial, hall2.out⟩
            case measure => simp [intOf]; omega

end Go.Proofs.YtocgnbbnaamjjaaGreatDoor

namespace Go.Proofs.YtocgnbbnaamjjaaGreatDoor
open Go.RowKit
attribute [local go_sem ↓] Go.wp_at_zero Go.wp_at_succ
set_option linter.unusedSimpArgs false
set_option linter.unusedVariables false
set_option maxRecDepth 100000

theorem exec_build_blkT {P : Program} {a : Act} {o : Oper} {w : World} {t : TypeId} {parts : Array (Nat × Operand)} (X : Array Value) (ho : o.op = .build t parts)
    (hf : P.built t (parts.map fun (i, x) => (i, a.eval x)).toList = some X) : (execOp a.eval o).run P w = .ok (.value (.agg X)) w := by
  have h1 := run_build (P := P) w t (parts.map fun (i, x) => (i, a.eval x)) X hf
  unfold execOp
  simp only [ho, Sem.run_bind, Result.andThen_ok, h1, Sem.run_pure]

/-- One cell, loaded by its type. -/
theorem run_load_one {P : Program} {w : World} {B : Nat} {T t : TypeId} {v : Value} (hB : Blk w B T #[v]) (hu : (match P.underlying t with | some (.struct _) | some (.array _ _) => true | some _ => false | none => true) = false) : (loadVar t ⟨B, 0, none⟩).run P w = .ok v w := by
  have hc := hB.cv 0 v rfl
  cases hd : P.underlying t with
  | none => simp [hd] at hu
  | some d => cases d <;> simp [hd] at hu <;> simp [loadVar, isAgg, run_underlying hd, hc]

theorem results_cells4 {P : Program} {fn : Func} {tmps : Array Value} {w : World} {a t b u c x d y A B C D : Nat} {T U V : TypeId} {X : TypeId} {v1 v2 v3 : Value} {Y : Array Value} (h : fn.results = #[.cell a t, .cell b u, .cell c x, .cell d y])
    (ha : tmps.getD a undef = .pointer (some ⟨A, 0, none⟩)) (hb : tmps.getD b undef = .pointer (some ⟨B, 0, none⟩)) (hc : tmps.getD c undef = .pointer (some ⟨C, 0, none⟩)) (hd : tmps.getD d undef = .pointer (some ⟨D, 0, none⟩))
    (hA : Blk w A T #[v1]) (hB : Blk w B U #[v2]) (hC : Blk w C V #[v3]) (hD : Blk w D X Y)
    (h1 : (match P.underlying t with | some (.struct _) | some (.array _ _) => true | some _ => false | none => true) = false) (h2 : (match P.underlying u with | some (.struct _) | some (.array _ _) => true | some _ => false | none => true) = false) (h3 : (match P.underlying x with | some (.struct _) | some (.array _ _) => true | some _ => false | none => true) = false)
    (hu : (match P.underlying y with | some (.struct _) | some (.array _ _) => true | _ => false) = true) (hn : (P.info? y).map (·.size) = some Y.size) :
    (results fn tmps).run P w = .ok (.tuple #[v1, v2, v3, .agg Y]) w := by
  have e1 := run_load_one (P := P) hA h1
  have e2 := run_load_one (P := P) hB h2
  have e3 := run_load_one (P := P) hC h3
  have e4 := run_load_blk (P := P) w D 0 X y Y Y hD hu hn (by rw [List.drop_zero]; exact List.take_of_length_le (by simp))
  rw [Array.getD_eq_getD_getElem?] at ha hb hc hd
  simp only [results, h]
  simp [ha, hb, hc, hd, asAddr, e1, e2, e3, e4]

theorem tl_clo_ok (E A B C : Nat) (pl : Int) (w : World) (HE : Blk w E 32 (ftC 0 pl)) :
    CallsD Tryz.prog 26 #[.pointer (some ⟨E, 0, none⟩), .pointer (some ⟨A, 0, none⟩), .pointer (some ⟨B, 0, none⟩), .pointer (some ⟨C, 0, none⟩)] .returning w fun r u' w' => u' = .returning ∧ (r = .returned (.tuple #[]) ∧ Below w.heap.size w w') := by
  go_enter_d Tryz.func26, Tryz.ntmps26
  go_wp2_with (refine load_blk (k := 0) 32 (ftC 0 pl) (by rfl) rfl rfl HE (by kernel_rfl) (by kernel_rfl) rfl ?_)
  refine (is_any 0 pl _).mono ?_
  rintro e w2 ⟨rfl, b2⟩
  go_wp2
  go_end0
  exact ⟨rfl, b2⟩

theorem tl_clo_bad (E A B C : Nat) (e pl : Int) (v1 v2 v3 : Value) (w : World) (he : e ≠ 0) (HE : Blk w E 32 (ftC e pl)) (HA : Blk w A 73 #[v1]) (HB : Blk w B 74 #[v2]) (HC : Blk w C 3 #[v3]) (hn : A ≠ B ∧ A ≠ C ∧ A ≠ E ∧ B ≠ C ∧ B ≠ E ∧ C ≠ E) (D : Nat) (hD : D ≤ A ∧ D ≤ B ∧ D ≤ C ∧ D ≤ w.heap.size) :
    CallsD Tryz.prog 26 #[.pointer (some ⟨E, 0, none⟩), .pointer (some ⟨A, 0, none⟩), .pointer (some ⟨B, 0, none⟩), .pointer (some ⟨C, 0, none⟩)] .returning w fun r u' w' => u' = .returning ∧ (r = .returned (.tuple #[]) ∧ Blk w' A 73 #[.slice none 0 0] ∧ Blk w' B 74 #[.slice none 0 0] ∧ Blk w' C 3 #[.int .i64 0] ∧ Blk w' E 32 (ftC e pl) ∧ Below D w w') := by
  have h1 : (e == 0) = false := by simp [he]
  obtain ⟨n1, n2, n3, n4, n5, n6⟩ := hn
  obtain ⟨d1, d2, d3, d4⟩ := hD
  clear he
  go_enter_d Tryz.func26, Tryz.ntmps26
  go_wp2_with (refine load_blk (k := 0) 32 (ftC e pl) (by rfl) rfl rfl HE (by kernel_rfl) (by kernel_rfl) rfl ?_)
  refine (is_any e pl _).mono ?_
  rintro r w2 ⟨rfl, b2⟩
  have HA2 := HA.kept b2
  have HB2 := HB.kept b2
  have HC2 := HC.kept b2
  have HE2 := HE.kept b2
  have hs2 := b2.size
  have D2 : Below D w w2 := b2.mono d4
  go_wp2_with (first
    | (refine store_blk (k := 0) 73 (.slice none 0 0) #[.slice none 0 0] (by rfl) rfl rfl rfl HA2 (by kernel_rfl) (by exact Nat.le_refl 1) (by rfl) rfl ?_; intro w3 HA3 b3 g3; have HB3 := HB2.grown g3 (by simp; omega); have HC3 := HC2.grown g3 (by simp; omega); have HE3 := HE2.grown g3 (by simp; omega); have D3 := D2.trans (b3.mono d1))
    | (refine store_blk (k := 0) 74 (.slice none 0 0) #[.slice none 0 0] (by rfl) rfl rfl rfl HB3 (by kernel_rfl) (by exact Nat.le_refl 1) (by rfl) rfl ?_; intro w4 HB4 b4 g4; have HA4 := HA3.grown g4 (by simp; omega); have HC4 := HC3.grown g4 (by simp; omega); have HE4 := HE3.grown g4 (by simp; omega); have D4 := D3.trans (b4.mono d2))
    | (refine store_blk (k := 0) 3 (.int .i64 0) #[.int .i64 0] (by rfl) rfl rfl rfl HC4 (by kernel_rfl) (by exact Nat.le_refl 1) (by rfl) rfl ?_; intro w5 HC5 b5 g5; have HA5 := HA4.grown g5 (by simp; omega); have HB5 := HB4.grown g5 (by simp; omega); have HE5 := HE4.grown g5 (by simp; omega); have D5 := D4.trans (b5.mono d3)))
  go_end0
  exact ⟨rfl, HA5, HB5, HC5, HE5, D5⟩

/-- Behind what was thrown. -/
theorem tl_door_bad {Q : Ending → World → Prop} {w0 w : World} {tmps : Array Value} {A B C E : Nat} {v1 v2 v3 : Value} {e0 pl0 e pl : Int} (hQ : ∀ w', Below w0.heap.size w0 w' → Q (.returned (.tuple #[.slice none 0 0, .slice none 0 0, .int .i64 0, .agg (ftC e pl)])) w')
    (ht2 : tmps.getD 2 undef = .pointer (some ⟨A, 0, none⟩)) (ht3 : tmps.getD 3 undef = .pointer (some ⟨B, 0, none⟩)) (ht4 : tmps.getD 4 undef = .pointer (some ⟨C, 0, none⟩)) (ht5 : tmps.getD 5 undef = .pointer (some ⟨E, 0, none⟩)) (he : e ≠ 0)
    (HA : Blk w A 73 #[v1]) (HB : Blk w B 74 #[v2]) (HC : Blk w C 3 #[v3]) (HE : Blk w E 32 (ftC e0 pl0)) (hn : A ≠ B ∧ A ≠ C ∧ A ≠ E ∧ B ≠ C ∧ B ≠ E ∧ C ≠ E) (hA : w0.heap.size ≤ A ∧ w0.heap.size ≤ B ∧ w0.heap.size ≤ C ∧ w0.heap.size ≤ E) (hb : Below w0.heap.size w0 w) :
    Leaves Tryz.prog Tryz.f8 tmps Q
      [{ target := .fn (.func 27) #[], args := #[.pointer (some ⟨E, 0, none⟩)] }, { target := .fn (.func 26) #[.pointer (some ⟨E, 0, none⟩), .pointer (some ⟨A, 0, none⟩), .pointer (some ⟨B, 0, none⟩), .pointer (some ⟨C, 0, none⟩)], args := #[] }] (.panicking (Thrown e pl)) w := by
  obtain ⟨n1, n2, n3, n4, n5, n6⟩ := hn
  obtain ⟨d1, d2, d3, d4⟩ := hA
  refine leaves_cons (f := 27) (args := #[.pointer (some ⟨E, 0, none⟩)]) (by simp [Thrown]) (by simp [go_sem]) ?_
  refine (caught_thrown E e0 pl0 e pl [] w HE).mono ?_
  rintro r u' w2 ⟨rfl, rfl, HE2, g2⟩
  have HA2 := HA.grown g2 (by simp; omega)
  have HB2 := HB.grown g2 (by simp; omega)
  have HC2 := HC.grown g2 (by simp; omega)
  have b2 : Below w0.heap.size w0 w2 := hb.grown g2 hb.size (fun k e => by cases e; exact d4)
  refine leaves_cons (f := 26) (args := #[.pointer (some ⟨E, 0, none⟩), .pointer (some ⟨A, 0, none⟩), .pointer (some ⟨B, 0, none⟩), .pointer (some ⟨C, 0, none⟩)]) (by simp [settle]) (by simp [go_sem]) ?_
  refine (tl_clo_bad E A B C e pl v1 v2 v3 w2 he HE2 HA2 HB2 HC2 ⟨n1, n2, n3, n4, n5, n6⟩ w0.heap.size ⟨d1, d2, d3, b2.size⟩).mono ?_
  rintro r u' w3 ⟨rfl, rfl, HA3, HB3, HC3, HE3, b3⟩
  exact ⟨_, results_cells4 rfl ht2 ht3 ht4 ht5 HA3 HB3 HC3 HE3 (by kernel_rfl) (by kernel_rfl) (by kernel_rfl) (by kernel_rfl) (by kernel_rfl), hQ _ (b2.trans b3)⟩

/-- Where nothing was thrown. -/
theorem tl_door_ok {Q : Ending → World → Prop} {w0 w : World} {tmps : Array Value} {A B C E : Nat} {v1 v2 v3 : Value} {pl : Int} (hQ : ∀ w', Below w.heap.size w w' → Below w0.heap.size w0 w' → Q (.returned (.tuple #[v1, v2, v3, .agg (ftC 0 pl)])) w')
    (ht2 : tmps.getD 2 undef = .pointer (some ⟨A, 0, none⟩)) (ht3 : tmps.getD 3 undef = .pointer (some ⟨B, 0, none⟩)) (ht4 : tmps.getD 4 undef = .pointer (some ⟨C, 0, none⟩)) (ht5 : tmps.getD 5 undef = .pointer (some ⟨E, 0, none⟩))
    (HA : Blk w A 73 #[v1]) (HB : Blk w B 74 #[v2]) (HC : Blk w C 3 #[v3]) (HE : Blk w E 32 (ftC 0 pl)) (hb : Below w0.heap.size w0 w) :
    Leaves Tryz.prog Tryz.f8 tmps Q
      [{ target := .fn (.func 27) #[], args := #[.pointer (some ⟨E, 0, none⟩)] }, { target := .fn (.func 26) #[.pointer (some ⟨E, 0, none⟩), .pointer (some ⟨A, 0, none⟩), .pointer (some ⟨B, 0, none⟩), .pointer (some ⟨C, 0, none⟩)], args := #[] }] .returning w := by
  refine leaves_cons (f := 27) (args := #[.pointer (some ⟨E, 0, none⟩)]) (by simp) (by simp [go_sem]) ?_
  refine (caught_idle ⟨E, 0, none⟩ w).mono ?_
  rintro r u' w2 ⟨rfl, rfl, rfl⟩
  refine leaves_cons (f := 26) (args := #[.pointer (some ⟨E, 0, none⟩), .pointer (some ⟨A, 0, none⟩), .pointer (some ⟨B, 0, none⟩), .pointer (some ⟨C, 0, none⟩)]) (by simp [settle]) (by simp [go_sem]) ?_
  refine (tl_clo_ok E A B C pl w2 HE).mono ?_
  rintro r u' w3 ⟨rfl, rfl, b3⟩
  exact ⟨_, results_cells4 rfl ht2 ht3 ht4 ht5 (HA.kept b3) (HB.kept b3) (HC.kept b3) (HE.kept b3) (by kernel_rfl) (by kernel_rfl) (by kernel_rfl) (by kernel_rfl) (by kernel_rfl), hQ _ b3 (hb.trans (b3.mono hb.size))⟩

theorem leaves_congrT {P : Program} {fn : Func} {tmps tmps' : Array Value} {R : Ending → World → Prop} (h : results fn tmps = results fn tmps') : ∀ (ds : List Deferred) (u : FrameMode) (w : World), Leaves P fn tmps R ds u w → Leaves P fn tmps' R ds u w := by
  intro ds
  induction ds with
  | nil =>
    intro u w hl
    cases u with
    | run => exact hl
    | returning =>
      obtain ⟨v, hr, hR⟩ := hl
      exact ⟨v, h ▸ hr, hR⟩
    | panicking c => exact hl
  | cons d ds ih =>
    intro u w hl
    obtain ⟨h1, fv, cap, f, args, h2, h3, h4⟩ := hl
    refine ⟨h1, fv, cap, f, args, h2, h3, h4.mono ?_⟩
    intro e u' w' hh
    cases e with
    | returned v => exact ih _ _ hh
    | panicked c => exact ih _ _ hh
    | outgrown => exact hh

theorem leaves_put4 {P : Program} {fn : Func} {R : Ending → World → Prop} {a b x y : Nat} {t u p q : TypeId} (h : fn.results = #[.cell a t, .cell b u, .cell x p, .cell y q]) {A : Act} {d : Option Nat} {v : Value} {c : List PanicEntry} {w : World} (h1 : d ≠ some a ∧ d ≠ some b ∧ d ≠ some x ∧ d ≠ some y)
    (hl : Leaves P fn (A.put d v).tmps R (A.put d v).defers (.panicking c) w) : Leaves P fn A.tmps R A.defers (.panicking c) w := by
  obtain ⟨g1, g2, g3, g4⟩ := h1
  cases d with
  | none => exact hl
  | some d =>
    have n1 : d ≠ a := fun q => g1 (by rw [q])
    have n2 : d ≠ b := fun q => g2 (by rw [q])
    have n3 : d ≠ x := fun q => g3 (by rw [q])
    have n4 : d ≠ y := fun q => g4 (by rw [q])
    refine leaves_congrT ?_ _ _ _ hl
    show results fn (A.tmps.setIfInBounds d v) = _
    simp only [results, h]
    simp [Array.getElem?_setIfInBounds, n1, n2, n3, n4]

end Go.Proofs.YtocgnbbnaamjjaaGreatDoor

namespace Go.Proofs.YtocgnbbnaamjjaaGreatDoor
open Go.RowKit
attribute [local go_sem ↓] Go.wp_at_zero Go.wp_at_succ
set_option linter.unusedSimpArgs false
set_option linter.unusedVariables false
set_option maxRecDepth 100000

/-- Only noughts are left. -/
theorem noughts_ok {w : World} {c p off : Nat} {s : ByteArray} (h : Cur w c s p off) (hp : p ≤ s.size) (hz : ∀ (j : Nat) b, p ≤ j → s.data.toList[j]? = some b → b = 0) (hb : off + s.size ≤ 281474976710656) :
    Calls Tryz.prog 30 #[.pointer (some ⟨c, 0, none⟩)] w fun r w' => r = .returned (.tuple #[]) ∧ w.grownBy w' (some c) := by
  have hlt := h.lt
  have HZ := Lib.hid hz
  clear hz
  go_enter Tryz.func30, Tryz.ntmps30
  go_wp2_with fail
  go_loopw [2] (fun _ wr => ∃ k : Nat, p ≤ k ∧ k ≤ s.size ∧ Cur wr c s k off ∧ w.grownBy wr (some c)) (fun _ wr => s.size - curAt wr c)
  case atStart => exact ⟨p, Nat.le_refl _, hp, h, World.grownBy.refl _ _⟩
  case round =>
    obtain ⟨k, hk, hks, hr, hg⟩ := hrel
    have c0 := hr.cv 0 (.string s) rfl
    have c1 := hr.cv 1 (.int .i64 k) rfl
    have z1 := hr.fz 1
    have HM := Lib.hid hr.at
    by_cases hlt2 : k < s.size
    · have hI : (0 : Int) ≤ (k : Int) := by omega
      have hks2 : k < s.size := by omega
      have hI2 : (k : Int) < (s.size : Int) := by omega
      have ht : ((s[k].toNat : Int) != 0) = false := by rw [HZ.out k s[k] hk (by rw [Array.getElem?_toList]; exact Array.getElem?_eq_getElem _)]; rfl
      have HS : Hid (Cur (wr.setCell ⟨c, 1, none⟩ (.int .i64 ((k + 1 : Nat) : Int))) c s (k + 1) off) := hr.set ((k + 1 : Nat) : Int)
      have HG := Lib.hid (grownBy_trans hg (grownC wr c 1 (.int .i64 ((k + 1 : Nat) : Int))))
      go_wp2
      go_region
      go_wp2
      go_region
      go_wp2
      go_roundw
      case rel => exact ⟨k + 1, by omega, by omega, HS.out, HG.out.os, HG.out.tape, HG.out.output, HG.out.size, HG.out.block⟩
      case measure =>
        have e2 := Cur.at HS.out
        have e3 : curAt wr c = k := HM.out
        show s.size - curAt (wr.setCell ⟨c, 1, none⟩ (.int .i64 ((k + 1 : Nat) : Int))) c < s.size - curAt wr c
        rw [e2, e3]
        omega
    · have HG := Lib.hid hg
      go_wp2
      go_region
      go_wp2
      go_end0
      exact ⟨rfl, HG.out.os, HG.out.tape, HG.out.output, HG.out.size, HG.out.block⟩

/-- Another byte, and where. -/
theorem noughts_bad {w : World} {c p off m : Nat} {s : ByteArray} (h : Cur w c s p off) (hp : p ≤ m) (hms : m < s.size) (hz : ∀ (j : Nat) b, p ≤ j → j < m → s.data.toList[j]? = some b → b = 0) (hm : s[m] ≠ 0) (hb : off + s.size ≤ 281474976710656) :
    Calls Tryz.prog 30 #[.pointer (some ⟨c, 0, none⟩)] w fun r w' => r = .panicked (Thrown 15 (off + m)) ∧ w.grownBy w' (some c) := by
  have hlt := h.lt
  have HZ := Lib.hid hz
  clear hz
  go_enter Tryz.func30, Tryz.ntmps30
  go_wp2_with fail
  go_loopw [2] (fun _ wr => ∃ k : Nat, p ≤ k ∧ k ≤ m ∧ Cur wr c s k off ∧ w.grownBy wr (some c)) (fun _ wr => s.size - curAt wr c)
  case atStart => exact ⟨p, Nat.le_refl _, hp, h, World.grownBy.refl _ _⟩
  case round =>
    obtain ⟨k, hk, hks, hr, hg⟩ := hrel
    have c0 := hr.cv 0 (.string s) rfl
    have c1 := hr.cv 1 (.int .i64 k) rfl
    have z1 := hr.fz 1
    have HM := Lib.hid hr.at
    by_cases hlt2 : k < m
    · have hI : (0 : Int) ≤ (k : Int) := by omega
      have hks2 : k < s.size := by omega
      have hI2 : (k : Int) < (s.size : Int) := by omega
      have ht : ((s[k].toNat : Int) != 0) = false := by rw [HZ.out k s[k] hk hlt2 (by rw [Array.getElem?_toList]; exact Array.getElem?_eq_getElem _)]; rfl
      have HS : Hid (Cur (wr.setCell ⟨c, 1, none⟩ (.int .i64 ((k + 1 : Nat) : Int))) c s (k + 1) off) := hr.set ((k + 1 : Nat) : Int)
      have HG := Lib.hid (grownBy_trans hg (grownC wr c 1 (.int .i64 ((k + 1 : Nat) : Int))))
      go_wp2
      go_region
      go_wp2
      go_region
      go_wp2
      go_roundw
      case rel => exact ⟨k + 1, by omega, by omega, HS.out, HG.out.os, HG.out.tape, HG.out.output, HG.out.size, HG.out.block⟩
      case measure =>
        have e2 := Cur.at HS.out
        have e3 : curAt wr c = k := HM.out
        show s.size - curAt (wr.setCell ⟨c, 1, none⟩ (.int .i64 ((k + 1 : Nat) : Int))) c < s.size - curAt wr c
        rw [e2, e3]
        omega
    · obtain rfl : k = m := by omega
      have hI : (0 : Int) ≤ (k : Int) := by omega
      have hI2 : (k : Int) < (s.size : Int) := by omega
      have ht : ((s[k].toNat : Int) != 0) = true := by
        apply bne_iff_ne.2
        intro e
        exact hm (UInt8.toNat_inj.1 (by show _ = 0; omega))
      have hbl : off + k ≤ 281474976710656 := by omega
      have HG := Lib.hid hg
      go_wp2
      go_region
      go_wp2
      go_region
      go_wp2_with fail
      refine (throw_any (show Cur wr.drew.drew c s k off from hr) 15 k (by omega) (by omega)).mono ?_
      rintro e w2 ⟨rfl, rfl⟩
      go_wp2
      exact ⟨rfl, rfl, HG.out.os, HG.out.tape, HG.out.output, HG.out.size, HG.out.block⟩

end Go.Proofs.YtocgnbbnaamjjaaGreatDoor

