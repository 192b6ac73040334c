/- A row of bytes of one's own, whatever of it is frozen behind its cells: a byte is appended. -/
import Derived.Test.YtlfeholphngilaaGreatDoorProg
import Derived.Test.YtlfeholphngilaaGreatDoorRow
import Derived.Lib.FrozenHead2
import Derived.Laws.AppendOwn
namespace Go.Proofs.YtlfeholphngilaaGreatDoor
open Go.RowKit
set_option linter.unusedVariables false

def RowB (w : World) (base : Nat) (v : Value) (l : List UInt8) : Prop :=
  ∃ g cap cur fz, v = .slice (some ⟨g, 0, none⟩) l.length cap ∧ base ≤ g ∧ w.heap[g]? = some (.cells cur 5 fz) ∧ (fz.2 ≤ l.length ∨ cur.size ≤ fz.1) ∧ l.length ≤ cap ∧ cap ≤ maxLen ∧ cur.size = cap ∧ ∀ (k : Nat) (x : UInt8), l[k]? = some x → cur[k]? = some (.int .u8 (x.toNat : Int))
/-- These bytes lie in block g from its head on. -/
def ByAt (w : World) (g : Nat) (l : List UInt8) : Prop := g < w.heap.size ∧ ∀ (k : Nat) (x : UInt8), l[k]? = some x → w.cell? ⟨g, k, none⟩ = some (.int .u8 (x.toNat : Int))
theorem ByAt.below {w w' : World} {g B : Nat} {l : List UInt8} (h : ByAt w g l) (hb : Below B w w') (hg : g < B) : ByAt w' g l := by
  refine ⟨Nat.lt_of_lt_of_le h.1 hb.size, fun j v hv => ?_⟩
  have hc := h.2 j v hv
  have hk : w'.heap[g]? = w.heap[g]? := hb.block g hg
  unfold World.cell? at hc ⊢
  simp only at hc ⊢
  rw [hk]
  exact hc
theorem RowB.at {w : World} {base : Nat} {v : Value} {l : List UInt8} (h : RowB w base v l) : ∃ g cap, v = .slice (some ⟨g, 0, none⟩) l.length cap ∧ base ≤ g ∧ l.length ≤ cap ∧ cap ≤ maxLen ∧ ByAt w g l := by
  obtain ⟨g, cap, cur, fz, rfl, hb, hg, hf, hc, hm, hs, hx⟩ := h
  exact ⟨g, cap, rfl, hb, hc, hm, (Array.getElem?_eq_some_iff.1 hg).1, fun k x hk => by simp [World.cell?, hg, hx k x hk]⟩
theorem RowB.own {w : World} {base : Nat} {v : Value} {l : List UInt8} (h : RowB w base v l) : ∀ k, v.ownBlock = some k → base ≤ k ∧ k < w.heap.size := by
  obtain ⟨g, cap, cur, fz, rfl, hb, hg, hf, hc, hm, hs, hx⟩ := h
  intro k hk
  simp [Value.ownBlock] at hk
  subst hk
  exact ⟨hb, (Array.getElem?_eq_some_iff.1 hg).1⟩
theorem RowB.alloc {w : World} {base : Nat} {v : Value} {l : List UInt8} (h : RowB w base v l) (o : Obj) : RowB (w.alloc o) base v l := by
  obtain ⟨g, cap, cur, fz, rfl, hb, hg, hf, hc, hm, hs, hx⟩ := h
  exact ⟨g, cap, cur, fz, rfl, hb, (heap_alloc_old w _ (Array.getElem?_eq_some_iff.1 hg).1).trans hg, hf, hc, hm, hs, hx⟩
theorem bytesRow_size (s : ByteArray) (c : Nat) (h : s.size ≤ c) : (bytesRow s c).size = c := by
  unfold bytesRow
  simp
  omega
theorem RowB.new (w : World) (s : ByteArray) (base : Nat) (hb : base ≤ w.heap.size) (hm : s.size ≤ maxLen) :
    RowB ((w.alloc (.cells (bytesRow s (grownCap w s.size 0 5)) 5 ((bytesRow s (grownCap w s.size 0 5)).size, (bytesRow s (grownCap w s.size 0 5)).size + 1))).drew) base
      (.slice (some ⟨w.heap.size, 0, none⟩) s.size (grownCap w s.size 0 5)) s.data.toList := by
  have hge := grownCap_ge w s.size 0 5
  have hle := grownCap_le_maxLen w s.size 0 5 hm
  have hsz := bytesRow_size s _ hge
  have hl : s.data.toList.length = s.size := by simp
  refine ⟨w.heap.size, _, bytesRow s (grownCap w s.size 0 5), _, by rw [hl], hb, heap_alloc_new w _, Or.inr (Nat.le_refl _), by rw [hl]; exact hge, hle, hsz, fun k x hx => ?_⟩
  have hk : k < s.data.size := by
    have := (List.getElem?_eq_some_iff.1 hx).1
    simpa using this
  rw [Array.getElem?_toList] at hx
  rw [bytesRow, Array.getElem?_append_left (by simpa using hk), Array.getElem?_map, hx]
  rfl
theorem Tryz.byteParts : (Tryz.prog.info? 5).map (fun i => (i.zero, i.size, i.bytes)) = some (some (.int .u8 0), 1, 1) := by kernel_rfl

theorem run_append_byte {w : World} {base : Nat} {v : Value} {l : List UInt8} (ty : TypeId) (h : RowB w base v l) (a : Addr) (c : Nat) (b : UInt8) (hb : w.cell? a = some (.int .u8 (b.toNat : Int))) (hn : l.length ≤ 1000000000) (hbase : base ≤ w.heap.size) :
    ∃ v' w', (Builtin.append_ #[35, 35] ty #[v, .slice (some a) 1 c]).run Tryz.prog w = .ok v' w' ∧ RowB w' base v' (l ++ [b]) ∧ w.grownBy w' v.ownBlock := by
  obtain ⟨i, hi, hz, hs1, hb1⟩ := info_parts Tryz.byteParts
  obtain ⟨g, cap, cur, fz, rfl, hbg, hg, hf, hc, hm, hs, hx⟩ := h
  have ht : Tryz.prog.underlying 35 = some (.slice 5) := Tryz.underlying35
  have hnews : ∀ (j : Nat) (u : Value), ([Value.int .u8 (b.toNat : Int)] : List Value)[j]? = some u → w.cell? (a.add j) = some u := by
    intro j u hu
    have hj : j = 0 := by
      rcases Nat.eq_zero_or_pos j with q | q
      · exact q
      · rw [List.getElem?_eq_none (by simp; omega)] at hu; cases hu
    subst hj
    simp at hu
    subst hu
    rw [show a.add 0 = a by unfold Addr.add; cases a; split <;> simp_all]
    exact hb
  have hlen : (l ++ [b]).length = l.length + 1 := by simp
  by_cases hroom : l.length + 1 ≤ cap
  · have hfc := run_firstCells_some (P := Tryz.prog) w i.size 1 a 1 c [Value.int .u8 (b.toNat : Int)] (by rw [hs1]; rfl) hnews
    have hadd : (⟨g, l.length, none⟩ : Addr).add 0 = ⟨g, l.length, none⟩ := rfl
    have hadd2 : (⟨g, 0, none⟩ : Addr).add l.length = ⟨g, l.length, none⟩ := by unfold Addr.add; split <;> simp_all
    have hlt : l.length < cur.size := by omega
    have hcell : w.cell? ⟨g, l.length, none⟩ = some cur[l.length] := by simp [World.cell?, hg, hlt]
    have hfro : w.frozen? ⟨g, l.length, none⟩ = false := by
      obtain ⟨lo, hi'⟩ := fz
      simp only [World.frozen?, hg, Bool.and_eq_false_iff, decide_eq_false_iff_not]
      simp only at hf
      omega
    have hst : (storeCells ⟨g, l.length, none⟩ [Value.int .u8 (b.toNat : Int)] 0).run Tryz.prog w = .ok () (w.setRow g (cur.setIfInBounds l.length (.int .u8 (b.toNat : Int)))) := by
      have h1 : (store ⟨g, l.length, none⟩ (.int .u8 (b.toNat : Int))).run Tryz.prog w = .ok () (w.setRow g (cur.setIfInBounds l.length (.int .u8 (b.toNat : Int)))) := by
        rw [run_store Tryz.prog w _ _ _ rfl, hcell]
        simp [hfro, setCell_eq_setRow w g l.length cur 5 fz _ hg]
      simp [storeCells, hadd, h1]
    refine ⟨.slice (some ⟨g, 0, none⟩) (l.length + 1) cap, w.setRow g (cur.setIfInBounds l.length (.int .u8 (b.toNat : Int))), ?_, ⟨g, cap, cur.setIfInBounds l.length (.int .u8 (b.toNat : Int)), fz, by rw [hlen], hbg, setRow_heap w g cur _ _ _ hg, ?_, by rw [hlen]; exact hroom, hm, by simpa using hs, ?_⟩, ⟨rfl, rfl, rfl, by simp, fun k _ hk => setRow_other w g k _ (fun e => hk (by simp [Value.ownBlock, e]))⟩⟩
    · simp [Builtin.append_, run_underlying ht, sizeOf, typeInfo, hi, hs1, Builtin.lenOf, hroom, hadd2]
      simp [hs1] at hfc
      simp [hfc, hst]
    · rcases hf with hf | hf
      · left; rw [hlen]; omega
      · right; simpa using hf
    · intro k x hk
      rw [Array.getElem?_setIfInBounds]
      by_cases e : l.length = k
      · subst e
        simp at hk
        subst hk
        simp [hlt]
      · rw [if_neg e]
        refine hx k x ?_
        have : k < (l ++ [b]).length := (List.getElem?_eq_some_iff.1 hk).1
        rwa [List.getElem?_append_left (by rw [hlen] at this; omega)] at hk
  · have hxs : (l.map fun b => Value.int .u8 (b.toNat : Int)).length = l.length * i.size := by rw [hs1, List.length_map, Nat.mul_one]
    have holds : ∀ (j : Nat) (u : Value), (l.map fun b => Value.int .u8 (b.toNat : Int))[j]? = some u → w.cell? ((⟨g, 0, none⟩ : Addr).add j) = some u := by
      intro j u hu
      rw [List.getElem?_map] at hu
      cases hq : l[j]? with
      | none => rw [hq] at hu; cases hu
      | some x =>
        rw [hq] at hu
        simp at hu
        subst hu
        have hadd : (⟨g, 0, none⟩ : Addr).add j = ⟨g, j, none⟩ := by unfold Addr.add; split <;> simp_all
        rw [hadd]
        simp [World.cell?, hg, hx j x hq]
    have hr := run_append_grow (P := Tryz.prog) w 35 ty 5 i (.int .u8 0) ht hi hz ⟨g, 0, none⟩ l.length cap _ hxs holds a 1 c [Value.int .u8 (b.toNat : Int)] (by rw [hs1]; rfl) hnews (by omega) (by omega) (growslice_fits (by omega) (by rw [hb1]; omega))
    have hge := grownCap_ge w (l.length + 1) cap 5
    have hcm2 : grownCap w (l.length + 1) cap 5 ≤ maxLen := grownCap_le_maxLen w (l.length + 1) cap 5 (by unfold maxLen; omega)
    refine ⟨_, _, hr, ⟨w.heap.size, _, _, (0, 0), by rw [hlen], hbase, heap_alloc_new w.drew _, Or.inl (Nat.zero_le _), by rw [hlen]; exact hge, hcm2, ?_, ?_⟩, ⟨rfl, rfl, rfl, by simp, fun k hk _ => heap_alloc_old w.drew _ hk⟩⟩
    · have hz1 : (Value.int IntKind.u8 0).cells.size = 1 := rfl
      simp [size_zeroCells, hz1]
      omega
    · intro k x hk
      have hk2 : k < l.length + 1 := by rw [← hlen]; exact (List.getElem?_eq_some_iff.1 hk).1
      by_cases e : k = l.length
      · subst e
        simp at hk
        subst hk
        simp [Array.getElem?_append]
      · have hkl : k < l.length := by omega
        rw [List.getElem?_append_left hkl] at hk
        rw [List.getElem?_eq_getElem hkl] at hk
        have e2 : l[k] = x := by simpa using hk
        simp [Array.getElem?_append, hkl, Nat.lt_succ_of_lt hkl, e2]

theorem append_byte {w : World} {ops : Array Oper} {rest : List Oper} {o : Oper} {a : Act} {Q : Exit → Act → World → Prop} (hgd : o.guard = none) (s x : Operand)
    (ho : o.op = .call { callee := .builtin .append, args := #[s, x], argTypes := #[35, 35] }) (base : Nat) (v : Value) (l : List UInt8) (hs : a.eval s = v) (h : RowB w base v l)
    (ad : Addr) (c : Nat) (b : UInt8) (u : Value) (hu : u = .int .u8 (b.toNat : Int)) (hx : a.eval x = .slice (some ad) 1 c) (hb : ∀ (j : Nat) (z : Value), [u][j]? = some z → w.cell? (ad.add j) = some z) (hn : l.length ≤ 1000000000) (hbase : base ≤ w.heap.size)
    (hk : ∀ v' w', RowB w' base v' (l ++ [b]) → w.grownBy w' v.ownBlock → wpList Tryz.prog ops Q rest (a.put o.dst v') w') : wpList Tryz.prog ops Q (o :: rest) a w := by
  refine wpList_plain hgd fun K hK => ?_
  subst hu
  have hb0 : w.cell? ad = some (.int .u8 (b.toNat : Int)) := by
    have q := hb 0 _ rfl
    rwa [show ad.add 0 = ad by unfold Addr.add; cases ad; split <;> simp_all] at q
  obtain ⟨v', w', hr, h2, h3⟩ := run_append_byte o.type h ad c b hb0 hn hbase
  unfold Oper.wp execOp
  simp only [ho, resolve, invoke, builtin, Sem.run_bind, Sem.run_pure, Result.andThen_ok, List.map_toArray, List.map_cons, List.map_nil, hs, hx, hr]
  exact hK _ _ (hk v' w' h2 h3)
theorem RowB.wle {w0 w w' : World} {base B : Nat} {v : Value} {l : List UInt8} (h : RowB w base v l) (hB : Below B w0 w) (hg : w.grownBy w' v.ownBlock) (hb : B ≤ base) (hs : B ≤ w.heap.size) : Below B w0 w' :=
  hB.grown hg hs (fun q hq => Nat.le_trans hb (h.own q hq).1)

end Go.Proofs.YtlfeholphngilaaGreatDoor
