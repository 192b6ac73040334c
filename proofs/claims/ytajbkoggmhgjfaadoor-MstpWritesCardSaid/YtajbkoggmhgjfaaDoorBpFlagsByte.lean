/- The reference's FlagsByte: a map literal of six weights, laid, written, ranged over. -/
import Derived.Test.YtajbkoggmhgjfaaDoorBp
import Derived.Maps.Own
import Derived.Maps.RangeRun
import Derived.Deep.Cut
namespace Go.Proofs.YtajbkoggmhgjfaaDoor
open Go.RowKit Go.MapKept Go.ChangeMaps
attribute [local go_sem ↓] Go.wp_at_zero Go.wp_at_succ
set_option linter.unusedSimpArgs false
set_option linter.unusedVariables false
set_option maxRecDepth 100000

/-- The same world, with another object in one block. -/
def putO (w : World) (B : Nat) (o : Obj) : World := { w with heap := w.heap.setIfInBounds B o }
theorem putO_at {w : World} {B : Nat} (o : Obj) (h : B < w.heap.size) : (putO w B o).heap[B]? = some o := by simp [putO, h]
theorem putO_other {w : World} {B i : Nat} (o : Obj) (h : B ≠ i) : (putO w B o).heap[i]? = w.heap[i]? := by
  show (w.heap.setIfInBounds B o)[i]? = _
  rw [Array.getElem?_setIfInBounds_ne h]
theorem putO_below {C : Nat} {w0 w : World} {B : Nat} (o : Obj) (h : Below C w0 w) (hB : C ≤ B) : Below C w0 (putO w B o) :=
  ⟨h.os, h.tape, h.output, by simp [putO]; exact h.size, fun i hi => by
    rw [putO_other o (by omega)]
    exact h.block i hi⟩
theorem ltO {w : World} {B : Nat} {o : Obj} (h : w.heap[B]? = some o) : B < w.heap.size := (Array.getElem?_eq_some_iff.1 h).1
theorem key_int (x : Int) : IsKey (.int .i64) (.int .i64 x) := rfl

/-- The entries, as they are laid. -/
def ent (x : Int) (b : Bool) (k : Nat) : MapEntry := ⟨.int .i64 x, .bool b, k⟩

theorem ins_at {w : World} {B : Nat} (es : Array MapEntry) (c : Nat) (x : Int) (b : Bool) (h : w.heap[B]? = some (.map es c)) (hf : Instr.findNow (.int .i64) (.int .i64 x) es.toList 0 = some none) :
    (Instr.mapUpdate 145 (.map (some B)) (.int .i64 x) (.bool b)).run Tryd.prog w = .ok () (putO w B (.map (es.push (ent x b c)) (c + 1))) := by
  simp [Instr.mapUpdate, run_underlying Tryd.underlying145, MapKept.run_getObj_map h, run_checkKey Tryd.underlying3 (key_int x), run_findKey Tryd.underlying3 hf, MapKept.run_setObj_map _ h, Result.andThen, putO, ent]

def es6 (f : Fl) : Array MapEntry := #[ent 1 f.ch 0, ent 2 f.pr 1, ent 16 f.le 2, ent 32 f.pa 3, ent 64 f.ag 4, ent 128 f.ac 5]

/-- What the literal leaves of a world. -/
theorem lit6 (f : Fl) (w : World) : ∃ w1 w2 w3 w4 w5 w6 w7 : World, w1 = w.alloc (.map #[] 0) ∧
    (Instr.mapUpdate 145 (.map (some w.heap.size)) (.int .i64 1) (.bool f.ch)).run Tryd.prog w1 = .ok () w2 ∧
    (Instr.mapUpdate 145 (.map (some w.heap.size)) (.int .i64 2) (.bool f.pr)).run Tryd.prog w2 = .ok () w3 ∧
    (Instr.mapUpdate 145 (.map (some w.heap.size)) (.int .i64 16) (.bool f.le)).run Tryd.prog w3 = .ok () w4 ∧
    (Instr.mapUpdate 145 (.map (some w.heap.size)) (.int .i64 32) (.bool f.pa)).run Tryd.prog w4 = .ok () w5 ∧
    (Instr.mapUpdate 145 (.map (some w.heap.size)) (.int .i64 64) (.bool f.ag)).run Tryd.prog w5 = .ok () w6 ∧
    (Instr.mapUpdate 145 (.map (some w.heap.size)) (.int .i64 128) (.bool f.ac)).run Tryd.prog w6 = .ok () w7 ∧
    w7.heap[w.heap.size]? = some (.map (es6 f) 6) ∧
    Below w.heap.size w w2 ∧ Below w.heap.size w w3 ∧ Below w.heap.size w w4 ∧ Below w.heap.size w w5 ∧ Below w.heap.size w w6 ∧ Below w.heap.size w w7 := by
  have m1 : (w.alloc (.map #[] 0)).heap[w.heap.size]? = some (.map #[] 0) := heap_alloc_new w _
  have b1 : Below w.heap.size w (w.alloc (.map #[] 0)) := (Below.refl _ _).alloc (Nat.le_refl _) _
  have r1 := ins_at _ _ 1 f.ch m1 rfl
  have m2 := putO_at (.map ((#[] : Array MapEntry).push (ent 1 f.ch 0)) (0 + 1)) (ltO m1)
  have b2 := putO_below (.map ((#[] : Array MapEntry).push (ent 1 f.ch 0)) (0 + 1)) b1 (Nat.le_refl _)
  have r2 := ins_at _ _ 2 f.pr m2 rfl
  have m3 := putO_at (.map (((#[] : Array MapEntry).push (ent 1 f.ch 0)).push (ent 2 f.pr 1)) (1 + 1)) (ltO m2)
  have b3 := putO_below (.map (((#[] : Array MapEntry).push (ent 1 f.ch 0)).push (ent 2 f.pr 1)) (1 + 1)) b2 (Nat.le_refl _)
  have r3 := ins_at _ _ 16 f.le m3 rfl
  have m4 := putO_at (.map ((((#[] : Array MapEntry).push (ent 1 f.ch 0)).push (ent 2 f.pr 1)).push (ent 16 f.le 2)) (2 + 1)) (ltO m3)
  have b4 := putO_below (.map ((((#[] : Array MapEntry).push (ent 1 f.ch 0)).push (ent 2 f.pr 1)).push (ent 16 f.le 2)) (2 + 1)) b3 (Nat.le_refl _)
  have r4 := ins_at _ _ 32 f.pa m4 rfl
  have m5 := putO_at (.map (((((#[] : Array MapEntry).push (ent 1 f.ch 0)).push (ent 2 f.pr 1)).push (ent 16 f.le 2)).push (ent 32 f.pa 3)) (3 + 1)) (ltO m4)
  have b5 := putO_below (.map (((((#[] : Array MapEntry).push (ent 1 f.ch 0)).push (ent 2 f.pr 1)).push (ent 16 f.le 2)).push (ent 32 f.pa 3)) (3 + 1)) b4 (Nat.le_refl _)
  have r5 := ins_at _ _ 64 f.ag m5 rfl
  have m6 := putO_at (.map ((((((#[] : Array MapEntry).push (ent 1 f.ch 0)).push (ent 2 f.pr 1)).push (ent 16 f.le 2)).push (ent 32 f.pa 3)).push (ent 64 f.ag 4)) (4 + 1)) (ltO m5)
  have b6 := putO_below (.map ((((((#[] : Array MapEntry).push (ent 1 f.ch 0)).push (ent 2 f.pr 1)).push (ent 16 f.le 2)).push (ent 32 f.pa 3)).push (ent 64 f.ag 4)) (4 + 1)) b5 (Nat.le_refl _)
  have r6 := ins_at _ _ 128 f.ac m6 rfl
  have m7 := putO_at (.map (((((((#[] : Array MapEntry).push (ent 1 f.ch 0)).push (ent 2 f.pr 1)).push (ent 16 f.le 2)).push (ent 32 f.pa 3)).push (ent 64 f.ag 4)).push (ent 128 f.ac 5)) (5 + 1)) (ltO m6)
  have b7 := putO_below (.map (((((((#[] : Array MapEntry).push (ent 1 f.ch 0)).push (ent 2 f.pr 1)).push (ent 16 f.le 2)).push (ent 32 f.pa 3)).push (ent 64 f.ag 4)).push (ent 128 f.ac 5)) (5 + 1)) b6 (Nat.le_refl _)
  exact ⟨_, _, _, _, _, _, _, rfl, r1, r2, r3, r4, r5, r6, m7, b2, b3, b4, b5, b6, b7⟩

/-- What an entry adds. -/
def wtE (e : MapEntry) : Int := match e.key, e.val with | .int _ x, .bool true => x | _, _ => 0
/-- The same entries, with what they add. -/
def esW (f : Fl) : List MapEntry := (es6 f).toList.map fun e => { e with val := .int .i64 (wtE e) }
theorem esW_born (f : Fl) : (esW f).map (·.born) = [0, 1, 2, 3, 4, 5] := rfl
theorem es6_born (f : Fl) : (es6 f).toList.map (·.born) = [0, 1, 2, 3, 4, 5] := rfl
theorem es6_old (f : Fl) : ∀ x ∈ (es6 f).toList, x.born < 6 := by
  intro x hx
  simp only [es6, List.mem_cons, List.not_mem_nil, or_false] at hx
  rcases hx with rfl | rfl | rfl | rfl | rfl | rfl
  · exact (show (0 : Nat) < 6 by decide)
  · exact (show (1 : Nat) < 6 by decide)
  · exact (show (2 : Nat) < 6 by decide)
  · exact (show (3 : Nat) < 6 by decide)
  · exact (show (4 : Nat) < 6 by decide)
  · exact (show (5 : Nat) < 6 by decide)
theorem es6_form (f : Fl) : ∀ e ∈ (es6 f).toList, ∃ x b, e.key = .int .i64 x ∧ e.val = .bool b ∧ wtE e = (if b then x else 0) ∧ 0 ≤ x ∧ x ≤ 128 := by
  intro e he
  simp only [es6, List.mem_cons, List.not_mem_nil, or_false] at he
  rcases he with rfl | rfl | rfl | rfl | rfl | rfl
  · exact ⟨1, f.ch, rfl, rfl, by cases f.ch <;> rfl, by decide, by decide⟩
  · exact ⟨2, f.pr, rfl, rfl, by cases f.pr <;> rfl, by decide, by decide⟩
  · exact ⟨16, f.le, rfl, rfl, by cases f.le <;> rfl, by decide, by decide⟩
  · exact ⟨32, f.pa, rfl, rfl, by cases f.pa <;> rfl, by decide, by decide⟩
  · exact ⟨64, f.ag, rfl, rfl, by cases f.ag <;> rfl, by decide, by decide⟩
  · exact ⟨128, f.ac, rfl, rfl, by cases f.ac <;> rfl, by decide, by decide⟩
/-- What has been added. -/
def smW (f : Fl) (seen : Array Nat) : Int := seenSum (esW f) seen
theorem smW_none (f : Fl) : smW f #[] = 0 := seenSum_none _
theorem smW_push (f : Fl) (seen : Array Nat) (e : MapEntry) (he : e ∈ (es6 f).toList) (hs : seen.contains e.born = false) : smW f (seen.push e.born) = smW f seen + wtE e :=
  seenSum_push seen { e with val := .int .i64 (wtE e) } hs (esW f) (by rw [esW_born]; decide) (List.mem_map.2 ⟨e, he, rfl⟩)
theorem smW_all (f : Fl) (seen : Array Nat) (h : ∀ x ∈ (es6 f).toList, seen.contains x.born = true) : smW f seen = f.ch.toNat + 2 * f.pr.toNat + 16 * f.le.toNat + 32 * f.pa.toNat + 64 * f.ag.toNat + 128 * f.ac.toNat := by
  have h1 := seenSum_full seen (esW f) (fun x hx => by
    obtain ⟨e, he, rfl⟩ := List.mem_map.1 hx
    exact h e he)
  unfold smW
  rw [h1]
  have e : (esW f).map (fun e => valOf e.val) = [wtE (ent 1 f.ch 0), wtE (ent 2 f.pr 1), wtE (ent 16 f.le 2), wtE (ent 32 f.pa 3), wtE (ent 64 f.ag 4), wtE (ent 128 f.ac 5)] := rfl
  rw [e]
  cases f.ch <;> cases f.pr <;> cases f.le <;> cases f.pa <;> cases f.ag <;> cases f.ac <;> rfl
theorem wr_add (a x : Int) : wrap64 (wrap64 a + x) = wrap64 (a + x) := by
  unfold wrap64
  omega
/-- A block's iterator turned. -/
theorem setB_at {w : World} {B : Nat} (o : Obj) (h : B < w.heap.size) : (setBlock w B o).heap[B]? = some o := by simp [setBlock, h]
theorem setB_other {w : World} {B i : Nat} (o : Obj) (h : B ≠ i) : (setBlock w B o).heap[i]? = w.heap[i]? := by
  show (w.heap.setIfInBounds B o)[i]? = _
  rw [Array.getElem?_setIfInBounds_ne h]
theorem setB_below {C : Nat} {w0 w : World} {B : Nat} (o : Obj) (h : Below C w0 w) (hB : C ≤ B) : Below C w0 (setBlock w B o) :=
  ⟨h.os, h.tape, h.output, by simp [setBlock]; exact h.size, fun i hi => by
    rw [setB_other o (by omega)]
    exact h.block i hi⟩
/-- The loop under way. -/
def Ran (f : Fl) (B r : Nat) (seen : Array Nat) (w0 w : World) : Prop := w.heap[B]? = some (.map (es6 f) 6) ∧ w.heap[r]? = some (.mapIter (some B) 6 seen 6) ∧ Below B w0 w
def leftN (f : Fl) (r : Nat) (w : World) : Nat := (leftOf (es6 f) (w.iterSeen r)).size
theorem Ran.left {f : Fl} {B r : Nat} {seen : Array Nat} {w0 w : World} (h : Ran f B r seen w0 w) : leftN f r w = (leftOf (es6 f) seen).size := by
  unfold leftN World.iterSeen
  rw [h.2.1]
theorem Ran.next {f : Fl} {B r : Nat} {seen : Array Nat} {w0 w : World} (h : Ran f B r seen w0 w) (hr : B < r) (e : MapEntry) (w1 : World) (h1 : w1 = w ∨ w1 = w.drew) : Ran f B r (seen.push e.born) w0 (setBlock w1 r (.mapIter (some B) 6 (seen.push e.born) 6)) := by
  have hw : Ran f B r seen w0 w1 := by
    rcases h1 with rfl | rfl
    · exact h
    · exact ⟨h.1, h.2.1, h.2.2.drew⟩
  have hlt : r < w1.heap.size := ltO hw.2.1
  exact ⟨(setB_other _ (by omega)).trans hw.1, setB_at _ hlt, setB_below _ hw.2.2 (by omega)⟩

set_option maxHeartbeats 3200000 in
theorem flagsByte_any (f : Fl) (h : okF f = true) (w : World) :
    Calls Tryd.prog 20 #[.agg (flC f)] w fun e w' => e = .returned (.int .i64 (byF f)) ∧ Below w.heap.size w w' := by
  obtain ⟨h0, h1⟩ := okF_all h
  have HE : Hid (∀ seen : Array Nat, (∀ x ∈ (es6 f).toList, seen.contains x.born = true) → wrap64 (f.ro * 4 + smW f seen) = (byF f : Int)) := by
    intro seen hs
    rw [smW_all f seen hs]
    have hb := byF_lt f h
    unfold byF at hb ⊢
    unfold wrap64
    omega
  have HA := Blk.new w 23 (flC f)
  have B0 : Below w.heap.size w (w.alloc (.cells (flC f) 23)) := (Below.refl _ _).alloc (Nat.le_refl _) _
  go_enter Tryd.func20, Tryd.ntmps20
  go_upto_region 1 with (fail)
  generalize (w.alloc (.cells (flC f) 23)) = w0 at *
  obtain ⟨w1, w2, w3, w4, w5, w6, w7, e1, r1, r2, r3, r4, r5, r6, m7, b2, b3, b4, b5, b6, b7⟩ := lit6 f w0
  subst e1
  have c2 := HA.cv 2 (.int .i64 f.ro) rfl
  have c0 := (HA.alloc (.map #[] 0)).cv 0 (.bool f.ch) rfl
  have c1 := (HA.kept b2).cv 1 (.bool f.pr) rfl
  have c3 := (HA.kept b3).cv 3 (.bool f.le) rfl
  have c4 := (HA.kept b4).cv 4 (.bool f.pa) rfl
  have c5 := (HA.kept b5).cv 5 (.bool f.ag) rfl
  have c6' := (HA.kept b6).cv 6 (.bool f.ac) rfl
  have hmm := @run_makeMap Tryd.prog
  have hrg := run_range_map (P := Tryd.prog) w7 145 3 4 w0.heap.size (es6 f) 6 Tryd.underlying145 m7
  have hBr : w0.heap.size < w7.heap.size := ltO m7
  have R0 : Ran f w0.heap.size w7.heap.size #[] w0 (w7.alloc (.mapIter (some w0.heap.size) 6 #[] 6)) := ⟨(heap_alloc_old _ _ hBr).trans m7, heap_alloc_new _ _, b7.alloc (Nat.le_of_lt hBr) _⟩
  have hw0 : w.heap.size ≤ w0.heap.size := B0.size
  clear b2 b3 b4 b5 b6 b7 m7 HA
  go_wp2
  generalize w7.alloc (.mapIter (some w0.heap.size) 6 #[] 6) = w8 at *
  generalize w7.heap.size = r at *
  clear r1 r2 r3 r4 r5 r6 c0 c1 c2 c3 c4 c5 c6' hrg hmm
  go_loopw [3] (fun a wr => ∃ seen : Array Nat, Ran f w0.heap.size r seen w0 wr ∧ a = .int .i64 (wrap64 (f.ro * 4 + smW f seen))) (fun _ wr => leftN f r wr)
  case atStart => exact ⟨#[], R0, by rw [smW_none, Int.add_zero, show wrap64 (f.ro * 4) = f.ro * 4 by unfold wrap64; omega]⟩
  case round =>
    obtain ⟨seen, R, rfl⟩ := hrel
    have law := run_next_at (P := Tryd.prog) wr 0 r w0.heap.size 6 6 seen (es6 f) 6 R.2.1 R.1 (es6_old f) (Nat.le_refl _)
    rcases law with ⟨hl, hrun⟩ | ⟨e, he, w1, hw1, hrun⟩
    · have hnx : ∀ ty, (Instr.next (.pointer (some ⟨r, 0, none⟩)) false ty).run Tryd.prog wr = _ := fun _ => hrun
      have HX := Lib.hid (HE.out seen (all_seen _ _ hl))
      go_wp2
      go_ret
      exact ⟨by rw [HX.out]; rfl, B0.trans (R.2.2.mono hw0)⟩
    · have hmem := mem_left he
      obtain ⟨x, b, ek, ev, ew, x0, x1⟩ := es6_form f e hmem.1
      have HP := Lib.hid (smW_push f seen e hmem.1 hmem.2)
      have R1 := R.next hBr e w1 hw1
      have HL := Lib.hid (left_shrinks (es6 f) seen e he)
      have hen := run_entry_at (P := Tryd.prog) _ r w0.heap.size 6 seen (es6 f) 6 e R1.2.1 R1.1 hmem.1 (by rw [es6_born]; decide)
      rw [ek, ev] at hrun hen
      have HM := Lib.hid R.left
      have HM1 := Lib.hid R1.left
      have HW := Lib.hid ew
      have hnx : ∀ ty, (Instr.next (.pointer (some ⟨r, 0, none⟩)) false ty).run Tryd.prog wr = _ := fun _ => hrun
      clear hmem ek ev ew he R hrun hw1
      generalize setBlock w1 r (.mapIter (some w0.heap.size) 6 (seen.push e.born) 6) = w9 at *
      cases b
      · go_wp2
        go_roundw
        case rel => exact ⟨_, R1, by rw [HP.out, HW.out]; simp⟩
        case measure => rw [HM.out, HM1.out]; exact HL.out
      · go_wp2
        go_roundw
        case rel => exact ⟨_, R1, by rw [HP.out, HW.out, ← Int.add_assoc, if_pos rfl]; exact congrArg (Value.int IntKind.i64) (wr_add _ x)⟩
        case measure => rw [HM.out, HM1.out]; exact HL.out

end Go.Proofs.YtajbkoggmhgjfaaDoor
