/- mvrp.Read: what stays as it is from round to round. -/
import Derived.Test.YtikjpcnfldkifaaDoorMvIter
namespace Go.Proofs.YtikjpcnfldkifaaDoor
open Go.RowKit
set_option linter.unusedVariables false
set_option maxRecDepth 100000

/-- Objects that reading never writes. -/
def okO (o : Obj) : Prop := ∀ C T F, o = Obj.cells C T F → T = 128 ∨ T = 3

theorem okO_loop (r : Loop) : okO (.loop r) := fun _ _ _ h => by cases h

theorem okO_mark (d : Option (List Deferred)) : okO (.deferred d) := fun _ _ _ h => by cases h

theorem okO_rd (v : Value) : okO (.cells #[v] 128 (0, 0)) := fun _ _ _ h => by cases h; exact Or.inl rfl

theorem okO_int (v : Value) : okO (.cells #[v] 3 (0, 0)) := fun _ _ _ h => by cases h; exact Or.inr rfl

structure MvW (obs : List (Nat × Obj)) (w0 W : World) : Prop where
  be : Below w0.heap.size w0 W
  ob : ∀ p ∈ obs, W.heap[p.1]? = some p.2 ∧ okO p.2

theorem MvW.of {obs : List (Nat × Obj)} {w0 W W' : World} (h : MvW obs w0 W) (hb : Below W.heap.size W W') : MvW obs w0 W' := ⟨h.be.trans (hb.mono h.be.size), fun p hp => ⟨loop_below (h.ob p hp).1 hb, (h.ob p hp).2⟩⟩

theorem MvW.grown {obs : List (Nat × Obj)} {w0 W W' : World} {B : Nat} {T : TypeId} {C : Array Value} (h : MvW obs w0 W) (hg : W.grownBy W' (some B)) (hB : Blk W B T C) (h1 : T ≠ 128) (h2 : T ≠ 3) (hw : w0.heap.size ≤ B) : MvW obs w0 W' :=
  ⟨h.be.grown hg h.be.size (fun k e => by cases e; exact hw), fun p hp => ⟨by
    obtain ⟨hk, ho⟩ := h.ob p hp
    refine (hg.block p.1 (Array.getElem?_eq_some_iff.1 hk).1 ?_).trans hk
    intro e
    have e : p.1 = B := by simpa using e
    have q : W.heap[B]? = some (.cells C T (0, 0)) := hB
    rw [e, q] at hk
    injection hk with hk
    rcases ho _ _ _ hk.symm with r | r
    · exact h1 r
    · exact h2 r, (h.ob p hp).2⟩⟩

theorem MvW.put {obs : List (Nat × Obj)} {w0 W : World} {l : Nat} {o : Obj} (o' : Obj) (h : MvW obs w0 W) (hl : w0.heap.size ≤ l) (hk : W.heap[l]? = some o) (hno : ∀ p ∈ obs, p.1 ≠ l) : MvW obs w0 (W.putObj l o') :=
  ⟨h.be.trans (belowPut o' hl hk), fun p hp => ⟨(World.putObj_heap_other (hno p hp)).trans (h.ob p hp).1, (h.ob p hp).2⟩⟩

theorem MvW.cons {obs : List (Nat × Obj)} {w0 W : World} {k : Nat} {o : Obj} (h : MvW obs w0 W) (hk : W.heap[k]? = some o) (ho : okO o) : MvW ((k, o) :: obs) w0 W := ⟨h.be, fun p hp => by
  rcases List.mem_cons.1 hp with rfl | hp
  · exact ⟨hk, ho⟩
  · exact h.ob p hp⟩

theorem MvW.tail {p : Nat × Obj} {obs : List (Nat × Obj)} {w0 W : World} (h : MvW (p :: obs) w0 W) : MvW obs w0 W := ⟨h.be, fun q hq => h.ob q (List.mem_cons_of_mem _ hq)⟩

theorem MvW.head {k : Nat} {o : Obj} {obs : List (Nat × Obj)} {w0 W : World} (h : MvW ((k, o) :: obs) w0 W) : W.heap[k]? = some o := (h.ob (k, o) List.mem_cons_self).1

/-- The loop's record is another. -/
theorem MvW.turn {l : Nat} {r r' : Loop} {obs : List (Nat × Obj)} {w0 W : World} (h : MvW ((l, .loop r) :: obs) w0 W) (hl : w0.heap.size ≤ l) (hno : ∀ p ∈ obs, p.1 ≠ l) : MvW ((l, .loop r') :: obs) w0 (W.putObj l (.loop r')) :=
  (h.tail.put _ hl h.head hno).cons (World.putObj_heap_same (Array.getElem?_eq_some_iff.1 h.head).1) (okO_loop r')

theorem rd_blk {w : World} {g : Nat} {s : ByteArray} {off : Nat} {st : RSt} (h : RdT w g s off st) : ∃ C, Blk w g 181 C := by
  obtain ⟨f, hr, _⟩ := h
  exact ⟨_, hr⟩

theorem MvW.reads {obs : List (Nat × Obj)} {w0 W W' : World} {g : Nat} {s : ByteArray} {st : RSt} (h : MvW obs w0 W) (hr : RdT W g s 0 st) (hg : W.grownBy W' (some g)) (hw : w0.heap.size ≤ g) : MvW obs w0 W' := by
  obtain ⟨C, hB⟩ := rd_blk hr
  exact h.grown hg hB (by decide) (by decide) hw

theorem rdT_keepC {w w' : World} {g : Nat} {s : ByteArray} {off : Nat} {st : RSt} (h : RdT w g s off st) (hk : KeepC w w') : RdT w' g s off st := by
  obtain ⟨f, hr, hf⟩ := h
  refine ⟨f, hk.same _ _ _ _ hr, ?_⟩
  rcases hf with hf | ⟨he, q, hq, hf⟩
  · exact Or.inl hf
  · exact Or.inr ⟨he, q, hq, hk.same _ _ _ _ hf⟩

theorem OwnMh.keepC {w w' : World} {base : Nat} {v : Value} {l : List MvH} (h : OwnMh w base v l) (hk : KeepC w w') : OwnMh w' base v l := by
  rcases h with h | ⟨h1, g, cap, rfl, h2⟩
  · exact Or.inl h
  · exact Or.inr ⟨h1, g, cap, rfl, hk.owns h2⟩

theorem OwnIv.keepC {w w' : World} {base : Nat} {v : Value} {l : List Int} (h : OwnIv w base v l) (hk : KeepC w w') : OwnIv w' base v l := by
  rcases h with h | ⟨h1, g, cap, rfl, h2⟩
  · exact Or.inl h
  · exact Or.inr ⟨h1, g, cap, rfl, hk.owns h2⟩

/-- Attributes of one's own, each with its events. -/
structure OwnAs (w : World) (base : Nat) (v : Value) (hs : List MvH) : Prop where
  row : OwnMh w base v hs
  ev : ∀ h ∈ hs, OwnIv w base (.slice h.a h.x.ev.length h.c) h.x.ev

theorem OwnAs.nil (w : World) (base : Nat) : OwnAs w base (.slice none 0 0) [] := ⟨OwnMh.nil w base, by simp⟩

theorem OwnAs.keepC {w w' : World} {base : Nat} {v : Value} {hs : List MvH} (h : OwnAs w base v hs) (hk : KeepC w w') : OwnAs w' base v hs := ⟨h.row.keepC hk, fun x hx => (h.ev x hx).keepC hk⟩

theorem OwnAs.kept {w w' : World} {base : Nat} {v : Value} {hs : List MvH} (h : OwnAs w base v hs) (hb : Below w.heap.size w w') : OwnAs w' base v hs := h.keepC (KeepC.of hb)

theorem OwnAs.grown {w w' : World} {base : Nat} {v : Value} {hs : List MvH} {g : Nat} (h : OwnAs w base v hs) (hg : w.grownBy w' (some g)) (hlt : g < base) : OwnAs w' base v hs :=
  ⟨h.row.grown hg (fun q e => by cases e; exact hlt), fun x hx => (h.ev x hx).grown hg (fun q e => by cases e; exact hlt)⟩

theorem OwnAs.other {w w' : World} {base B : Nat} {v : Value} {hs : List MvH} {T : TypeId} {C : Array Value} (h : OwnAs w base v hs) (hB : Blk w B T C) (h1 : T ≠ 36) (h2 : T ≠ 3) (hg : w.grownBy w' (some B)) : OwnAs w' base v hs :=
  ⟨h.row.other hB h1 hg, fun x hx => (h.ev x hx).other hB h2 hg⟩

theorem OwnAs.mono {w : World} {base b : Nat} {v : Value} {hs : List MvH} (h : OwnAs w base v hs) (hb : b ≤ base) : OwnAs w b v hs := ⟨h.row.mono hb, fun x hx => (h.ev x hx).mono hb⟩

theorem mh_blk {w w' : World} {v : Value} {l : List MvH} {base B : Nat} {T : TypeId} {C : Array Value} (hO : OwnMh w base v l) (hg : w.grownBy w' v.ownBlock) (h : Blk w B T C) (hT : T ≠ 36) : Blk w' B T C := by
  rcases hO.blk with e | ⟨g, C2, e, _, hB⟩
  · rw [e] at hg
    exact h.grown hg (by simp)
  · rw [e] at hg
    refine h.grown hg ?_
    intro e2
    obtain rfl : B = g := by simpa using e2
    have h1 : w.heap[B]? = some (.cells C T (0, 0)) := h
    have h2 : w.heap[B]? = some (.cells C2 36 (0, 0)) := hB
    rw [h1] at h2
    injection h2 with h2
    injection h2 with _ h2
    exact hT h2

theorem below_of_none {w w' : World} (hg : w.grownBy w' none) : Below w.heap.size w w' := ⟨hg.os, hg.tape, hg.output, hg.size, fun k hk => hg.block k hk (by simp)⟩

theorem mh_rd {w w' : World} {v : Value} {l : List MvH} {base gr off : Nat} {s : ByteArray} {st : RSt} (hO : OwnMh w base v l) (hg : w.grownBy w' v.ownBlock) (h : RdT w gr s off st) : RdT w' gr s off st := by
  rcases hO.blk with e | ⟨g, C, e, _, hB⟩
  · rw [e] at hg
    exact h.below (below_of_none hg)
  · rw [e] at hg
    exact h.other hB (by decide) (by decide) hg

theorem mh_iv {w w' : World} {v u : Value} {l : List MvH} {m : List Int} {base B : Nat} (hO : OwnMh w base v l) (hg : w.grownBy w' v.ownBlock) (h : OwnIv w B u m) : OwnIv w' B u m := by
  rcases hO.blk with e | ⟨g, C, e, _, hB⟩
  · rw [e] at hg
    exact h.kept (below_of_none hg)
  · rw [e] at hg
    exact h.other hB (by decide) hg

theorem mh_W {w0 w w' : World} {v : Value} {l : List MvH} {base : Nat} {obs : List (Nat × Obj)} (hO : OwnMh w base v l) (hg : w.grownBy w' v.ownBlock) (h : MvW obs w0 w) (hb : w0.heap.size ≤ base) : MvW obs w0 w' := by
  rcases hO.blk with e | ⟨g, C, e, hge, hB⟩
  · rw [e] at hg
    exact h.of (below_of_none hg)
  · rw [e] at hg
    exact h.grown hg hB (by decide) (by decide) (by omega)

/-- In a round: one comes behind. -/
theorem appendR_mh {F : Fence} {n : Nat} {ops : Array Oper} {rest : List Oper} {o : Oper} {a : Act} {w : World} {Q : Exit → Act → World → Prop} {s x : Operand} {base G : Nat} {v : Value} {l : List MvH} (y : MvH) (hg : o.guard = none)
    (ho : o.op = .call { callee := .builtin .append, args := #[s, x], argTypes := #[22, 22] }) (hs : a.eval s = v) (hx : a.eval x = .slice (some ⟨G, 0, none⟩) 1 1)
    (hO : OwnMh w base v l) (hG : Blk w G 36 (mvC y)) (hlen : l.length ≤ 100000) (hbase : base ≤ w.heap.size)
    (h : ∀ v' w', OwnMh w' base v' (l ++ [y]) → w.grownBy w' v.ownBlock → wpListIn F n Tryd.prog ops Q rest (a.put o.dst v') w') : wpListIn F n Tryd.prog ops Q (o :: rest) a w := by
  obtain ⟨i0, hi, hz0, hz1, hz2⟩ := info_parts Tryd.mhParts
  have hnews : ∀ (j : Nat) u, (mvC y).toList[j]? = some u → w.cell? ((⟨G, 0, none⟩ : Addr).add j) = some u := fun j u hu => by
    rw [Addr.add_lit, Nat.zero_add]
    exact hG.cv j u (by simpa using hu)
  have hnb : ∀ {v' : Value} {w' : World} {k : Nat} {xs : List Value}, w'.ownsRow base 36 3 v' (k + 1) xs → ∃ g cap, v' = .slice (some ⟨g, 0, none⟩) (k + 1) cap := fun h => ownsRow_succ h
  rcases hO with ⟨rfl, rfl⟩ | ⟨hne, g, cap, rfl, hown⟩
  · refine wpListIn_append_own w hg s x _ ho base 36 i0 (.agg (mvC zMvH)) 3 40 Tryd.underlying22 hi hz0 hz1 hz2 rfl (by decide) (.slice none 0 0) 0 [] hs (World.ownsRow_nil w base _ 3) ⟨G, 0, none⟩ 1 1 (mvC y).toList hx rfl hnews (mvC_cells y) (by unfold maxLen; omega) (by decide) hbase ?_
    intro v' w' hown hgrow _
    obtain ⟨g, cap, rfl⟩ := hnb hown
    refine h _ _ (Or.inr ⟨by simp, g, cap, rfl, ?_⟩) hgrow
    rw [List.nil_append, mvR_one]
    exact hown
  · refine wpListIn_append_own w hg s x _ ho base 36 i0 (.agg (mvC zMvH)) 3 40 Tryd.underlying22 hi hz0 hz1 hz2 rfl (by decide) (.slice (some ⟨g, 0, none⟩) l.length cap) l.length (mvR l) hs hown ⟨G, 0, none⟩ 1 1 (mvC y).toList hx rfl hnews (mvC_cells y) (by unfold maxLen; omega) (by omega) hbase ?_
    intro v' w' hown2 hgrow _
    obtain ⟨g', cap', rfl⟩ := hnb hown2
    refine h _ _ (Or.inr ⟨by simp, g', cap', by rw [List.length_append]; rfl, ?_⟩) hgrow
    rw [mvR_snoc, List.length_append]
    exact hown2

theorem sliceR_mh {F : Fence} {n : Nat} {ops : Array Oper} {rest : List Oper} {o : Oper} {a : Act} {w : World} {Q : Exit → Act → World → Prop} {x : Operand} (y : MvH) (hw : Region.wanted o (yielded ops a.tmps) = true) (ho : o.op = .buildSlice 22 1 #[(0, x)]) (hx : a.eval x = .agg (mvC y))
    (h : ∀ w1, Blk w1 w.heap.size 36 (mvC y) → Below w.heap.size w w1 → wpListIn F n Tryd.prog ops Q rest (a.put o.dst (.slice (some ⟨w.heap.size, 0, none⟩) 1 1)) w1) : wpListIn F n Tryd.prog ops Q (o :: rest) a w := by
  obtain ⟨i0, hi, hz0, hz1, hz2⟩ := info_parts Tryd.mhParts
  refine sliceR 22 36 1 _ hw ho (mvC y) i0 (.agg (mvC zMvH)) Tryd.underlying22 hi hz0 (by rw [hz1]; decide) (by rw [hz1]; decide) (by rw [hz1]; simp only [List.map_toArray, List.map_cons, List.map_nil, hx]; exact fill_mh y) (h _ (Blk.new w _ _) ((Below.refl _ _).alloc (Nat.le_refl _) _))

/-- What is read, and what is wrong. -/
def MvR.recs : MvR → List Mv
  | .bad _ _ => []
  | .ok l => l

def MvR.er : MvR → Int
  | .bad e _ => e
  | .ok _ => 0

def MvR.pl : MvR → Int
  | .bad _ p => p
  | .ok _ => -1

theorem xs_snoc (hs : List MvH) (h : MvH) : xs (hs ++ [h]) = xs hs ++ [h.x] := by simp [xs]

end Go.Proofs.YtikjpcnfldkifaaDoor
