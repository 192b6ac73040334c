/- A frame, plainly; frame.innerHead, Head, inner, isType, leadsToSnap, upTo, isLlc, isSnap at every argument. -/
import Derived.Test.YtdceggekhhflgaaTagStack
import Derived.BigQuiet
import Derived.Deep.QuietTactic
import Derived.Deep.RegionHeld3
import Derived.Deep.DrawnRows
import Derived.IntWalk
namespace Go.Proofs.Ytdceggekhhflgaa
open Go.RowKit

/-- A frame, plainly: addresses, tags and where they lie, numbers, body. -/
structure Fr where
  d : Nat → Nat
  s : Nat → Nat
  ta : Option Addr
  tl : List Tg
  tc : Nat
  k : Int
  t : Int
  da : Int
  sa : Int
  ct : Int
  ou : Int
  pi : Int
  bo : ByteArray

/-- Its cells. -/
def frC (f : Fr) : Array Value := #[.int .u8 (f.d 0), .int .u8 (f.d 1), .int .u8 (f.d 2), .int .u8 (f.d 3), .int .u8 (f.d 4), .int .u8 (f.d 5), .int .u8 (f.s 0), .int .u8 (f.s 1), .int .u8 (f.s 2), .int .u8 (f.s 3), .int .u8 (f.s 4), .int .u8 (f.s 5),
  .slice f.ta f.tl.length f.tc, .int .i64 f.k, .int .i64 f.t, .int .i64 f.da, .int .i64 f.sa, .int .i64 f.ct, .int .i64 f.ou, .int .i64 f.pi, .string f.bo]

def frV (f : Fr) : Value := .agg (frC f)

/-- A frame that the laws look at: its tags are there, and it is no heavy one. -/
structure FrIn (w : World) (f : Fr) : Prop where
  tags : TagsIn w f.ta f.tl
  few : f.tl.length ≤ 20
  cap : f.tl.length ≤ f.tc
  short : f.bo.size ≤ 3000

theorem FrIn.below {w w' : World} {f : Fr} (h : FrIn w f) (hb : Below w.heap.size w w') : FrIn w' f := ⟨h.tags.below hb, h.few, h.cap, h.short⟩

/-- It lies in a block of its own. -/
def HasF (w : World) (B : Nat) (f : Fr) : Prop := w.heap[B]? = some (.cells (frC f) 36 (0, 0))

theorem HasF.c {w : World} {B : Nat} {f : Fr} (h : HasF w B f) (j : Nat) : w.cell? ⟨B, j, none⟩ = (frC f)[j]? := Joins.cell_of_block h j

theorem HasF.lt {w : World} {B : Nat} {f : Fr} (h : HasF w B f) : B < w.heap.size := (Array.getElem?_eq_some_iff.1 h).1

theorem HasF.below {w w' : World} {B C : Nat} {f : Fr} (h : HasF w B f) (hb : Below C w w') (hC : B < C) : HasF w' B f := (hb.block _ hC).trans h

theorem HasF.drew {w : World} {B : Nat} {f : Fr} (h : HasF w B f) : HasF w.drew B f := h

theorem HasF.new (w : World) (f : Fr) : HasF (w.alloc (.cells (frC f) 36)) w.heap.size f := heap_alloc_new w _

theorem Try.frSize : (Try.prog.info? 36).map (·.size) = some 21 := by kernel_rfl

/-- A whole frame is loaded, at a step of a region that draws its order. -/
theorem exec_load_fr {a : Act} {o : Oper} {w : World} {x : Operand} {B : Nat} (f : Fr) (ho : o.op = .load 36 x) (hx : a.eval x = .pointer (some ⟨B, 0, none⟩)) (hF : HasF w B f) :
    (execOp a.eval o).run Try.prog w = .ok (.value (.agg #[.int .u8 (f.d 0), .int .u8 (f.d 1), .int .u8 (f.d 2), .int .u8 (f.d 3), .int .u8 (f.d 4), .int .u8 (f.d 5), .int .u8 (f.s 0), .int .u8 (f.s 1), .int .u8 (f.s 2), .int .u8 (f.s 3), .int .u8 (f.s 4), .int .u8 (f.s 5), .slice f.ta f.tl.length f.tc, .int .i64 f.k, .int .i64 f.t, .int .i64 f.da, .int .i64 f.sa, .int .i64 f.ct, .int .i64 f.ou, .int .i64 f.pi, .string f.bo])) w := by
  have h := run_loadVar_row (P := Try.prog) w B 36 36 (frC f) (0, 0) _ hF Try.underlying36 rfl Try.frSize
  unfold frC at h
  unfold execOp
  simp only [ho, hx, Instr.loadAt, Instr.sureAddr, Sem.run_bind, Sem.run_pure, Result.andThen_ok, h]

/-- .. at a step of one that doesn't. -/
theorem load_fr {ops : Array Oper} {rest : List Oper} {o : Oper} {a : Act} {w : World} {Q : Exit → Act → World → Prop} (x : Operand) (f : Fr) (B : Nat) (hw : Region.wanted o (yielded ops a.tmps) = true) (ho : o.op = .load 36 x) (hx : a.eval x = .pointer (some ⟨B, 0, none⟩)) (hF : HasF w B f)
    (h : wpList Try.prog ops Q rest (a.put o.dst (.agg #[.int .u8 (f.d 0), .int .u8 (f.d 1), .int .u8 (f.d 2), .int .u8 (f.d 3), .int .u8 (f.d 4), .int .u8 (f.d 5), .int .u8 (f.s 0), .int .u8 (f.s 1), .int .u8 (f.s 2), .int .u8 (f.s 3), .int .u8 (f.s 4), .int .u8 (f.s 5), .slice f.ta f.tl.length f.tc, .int .i64 f.k, .int .i64 f.t, .int .i64 f.da, .int .i64 f.sa, .int .i64 f.ct, .int .i64 f.ou, .int .i64 f.pi, .string f.bo])) w) : wpList Try.prog ops Q (o :: rest) a w :=
  wpList_step fun K hK => by
    rw [if_pos hw]
    have h1 := run_loadVar_row (P := Try.prog) w B 36 36 (frC f) (0, 0) _ hF Try.underlying36 rfl Try.frSize
    unfold frC at h1
    unfold Oper.wp execOp
    simp only [ho, hx, Instr.loadAt, Instr.sureAddr, Sem.run_bind, Sem.run_pure, Result.andThen_ok, h1]
    exact hK _ _ h

def hdI (k : Int) : Int := if k = 2 then 3 else if k = 3 then 8 else 0

theorem hdI_le (k : Int) : 0 ≤ hdI k ∧ hdI k ≤ 8 := by unfold hdI; split <;> (try split) <;> omega

theorem innerHead_any (k : Int) (w : World) :
    Calls Try.prog 72 #[.int .i64 k] w fun e w' => e = .returned (.int .i64 (hdI k)) ∧ w' = w := by
  by_cases h2 : k = 2
  · subst h2
    go_enter Try.func72, Try.ntmps72
    go_wp2
    go_ret
    exact ⟨rfl, rfl⟩
  · by_cases h3 : k = 3
    · subst h3
      go_enter Try.func72, Try.ntmps72
      go_wp2
      go_ret
      exact ⟨rfl, rfl⟩
    · have e2 : (k == 2) = false := beq_eq_false_iff_ne.2 h2
      have e3 : (k == 3) = false := beq_eq_false_iff_ne.2 h3
      have HH : Hid (hdI k = 0) := by show _ = _; unfold hdI; rw [if_neg h2, if_neg h3]
      go_enter Try.func72, Try.ntmps72
      go_wp2
      go_ret
      exact ⟨by rw [HH.out]; rfl, rfl⟩

def typB (n : Int) : Bool := decide (1536 ≤ n) && (decide (n ≤ 65535) && ((n != 33024) && (n != 34984)))

theorem isType_any (n : Int) (w : World) :
    Calls Try.prog 58 #[.int .i64 n] w fun e w' => e = .returned (.bool (typB n)) ∧ w = w' := by
  unfold typB
  cases h1 : decide (1536 ≤ n) <;> cases h2 : decide (n ≤ 65535) <;> cases h3 : (n != 33024) <;> cases h4 : (n != 34984)
  all_goals (
    go_enter Try.func58, Try.ntmps58
    go_wp2
    go_ret
    exact ⟨rfl, rfl⟩)

def leadB (a b c : Int) : Bool := (a == 170) && ((b == 170) && (c == 3))

theorem leads_any (a b c : Int) (w : World) :
    Calls Try.prog 73 #[.int .i64 a, .int .i64 b, .int .i64 c] w fun e w' => e = .returned (.bool (leadB a b c)) ∧ w = w' := by
  unfold leadB
  cases h1 : (a == 170) <;> cases h2 : (b == 170) <;> cases h3 : (c == 3)
  all_goals (
    go_enter Try.func73, Try.ntmps73
    go_wp2
    go_ret
    exact ⟨rfl, rfl⟩)

def upB (m : Int) (l : List Int) : Bool := l.all fun x => decide (0 ≤ x) && decide (x ≤ m)

theorem ints_new (W : World) (l : List Int) (T : TypeId) (j : Nat) (x : Int) (h : l[j]? = some x) : (W.alloc (.cells (l.map (Value.int .i64)).toArray T)).cell? ⟨W.heap.size, j, none⟩ = some (.int .i64 x) := by
  rw [World.cell?_alloc_at _ _ _ _ rfl]
  simp [h]

theorem upTo_any (m : Int) (l : List Int) (b c : Nat) (w : World) (hl : l.length ≤ 1000) (hc : ∀ (j : Nat) (x : Int), l[j]? = some x → w.cell? ⟨b, j, none⟩ = some (.int .i64 x)) :
    Calls Try.prog 59 #[.int .i64 m, .slice (some ⟨b, 0, none⟩) l.length c] w fun e w' => e = .returned (.bool (upB m l)) ∧ w = w' := by
  have HC := Lib.hid hc
  clear hc
  go_enter Try.func59, Try.ntmps59
  go_wp2
  go_loop [9] (fun i => ∃ k : Nat, k ≤ l.length ∧ i = .int .i64 k ∧ upB m l = upB m (l.drop k)) (fun i => l.length - (intOf i).toNat)
  case atStart => exact ⟨0, by omega, rfl, rfl⟩
  case round =>
    obtain ⟨k, hk, rfl, hu⟩ := hrel
    have HU := Lib.hid hu
    clear hu
    by_cases hlt : k < l.length
    · have hcell := HC.out k _ (List.getElem?_eq_getElem hlt)
      have HD : Hid (upB m (l.drop k) = ((decide (0 ≤ l[k]) && decide (l[k] ≤ m)) && upB m (l.drop (k + 1)))) := by
        show _ = _
        rw [List.drop_eq_getElem_cons hlt]
        rfl
      generalize l[k] = x at *
      have b1 : (k : Int) < (l.length : Int) := by omega
      by_cases h0 : 0 ≤ x
      · by_cases hm : x ≤ m
        · have d1 : decide (x < 0) = false := decide_eq_false (by omega)
          have d2 : decide (m < x) = false := decide_eq_false (by omega)
          have HB : Hid ((decide (0 ≤ x) && decide (x ≤ m)) = true) := by show _ = _; rw [decide_eq_true h0, decide_eq_true hm]; rfl
          go_wp2
          go_round
          case rel => exact ⟨k + 1, by omega, by go_num, by rw [HU.out, HD.out, HB.out]; rfl⟩
          case measure => simp [intOf]; omega
        · have d1 : decide (x < 0) = false := decide_eq_false (by omega)
          have d2 : decide (m < x) = true := decide_eq_true (by omega)
          have HB : Hid ((decide (0 ≤ x) && decide (x ≤ m)) = false) := by show _ = _; rw [decide_eq_true h0, decide_eq_false hm]; rfl
          go_wp2
          go_ret
          exact ⟨by rw [HU.out, HD.out, HB.out]; rfl, rfl⟩
      · have d1 : decide (x < 0) = true := decide_eq_true (by omega)
        have HB : Hid ((decide (0 ≤ x) && decide (x ≤ m)) = false) := by show _ = _; rw [decide_eq_false h0]; rfl
        go_wp2
        go_ret
        exact ⟨by rw [HU.out, HD.out, HB.out]; rfl, rfl⟩
    · have HE : Hid (upB m l = true) := by
        show _ = _
        rw [HU.out, List.drop_of_length_le (by omega)]
        rfl
      go_wp2
      go_ret
      exact ⟨by rw [HE.out]; rfl, rfl⟩

theorem inner_any (f : Fr) (w : World) (hs : f.bo.size ≤ 3000) :
    Calls Try.prog 61 #[frV f] w fun e w' => e = .returned (.int .i64 (hdI f.k + f.bo.size)) ∧ Below w.heap.size w w' := by
  have hb0 : Below w.heap.size w (w.alloc (.cells (frC f) 36)) := (Below.refl _ _).alloc (Nat.le_refl _) _
  have hd := hdI_le f.k
  unfold frV frC at *
  go_enter Try.func61, Try.ntmps61
  go_wp2
  go_quiet ((go_at_call 72; with_reducible exact Calls.quiet_of_same (innerHead_any _ _)))
  go_wp2
  go_ret
  exact ⟨rfl, hb0.os, hb0.tape, hb0.output, hb0.size, hb0.block⟩

theorem head_any (f : Fr) (w : World) (hs : f.tl.length ≤ 20) :
    Calls Try.prog 57 #[frV f] w fun e w' => e = .returned (.int .i64 (14 + 4 * f.tl.length + hdI f.k)) ∧ Below w.heap.size w w' := by
  have hb0 : Below w.heap.size w (w.alloc (.cells (frC f) 36)) := (Below.refl _ _).alloc (Nat.le_refl _) _
  have hd := hdI_le f.k
  unfold frV frC at *
  go_enter Try.func57, Try.ntmps57
  go_wp2
  go_quiet ((go_at_call 72; with_reducible exact Calls.quiet_of_same (innerHead_any _ _)))
  go_wp2
  go_ret
  refine ⟨?_, hb0.os, hb0.tape, hb0.output, hb0.size, hb0.block⟩
  show Ending.returned (.int .i64 (12 + 4 * (f.tl.length : Int) + 2 + hdI f.k)) = _
  rw [show 12 + 4 * (f.tl.length : Int) + 2 + hdI f.k = 14 + 4 * (f.tl.length : Int) + hdI f.k by omega]

def llcB (f : Fr) : Bool := upB 255 [f.da, f.sa, f.ct] && !leadB f.da f.sa f.ct

def snapB (f : Fr) : Bool := upB 16777215 [f.ou] && upB 65535 [f.pi]

theorem isLlc_any (f : Fr) (w : World) :
    Calls Try.prog 60 #[frV f] w fun e w' => e = .returned (.bool (llcB f)) ∧ Below w.heap.size w w' := by
  have hb0 : Below w.heap.size w (w.alloc (.cells (frC f) 36)) := (Below.refl _ _).alloc (Nat.le_refl _) _
  have hb1 := hb0.alloc (by simp) (.cells #[.int .i64 f.da, .int .i64 f.sa, .int .i64 f.ct] 3)
  clear hb0
  have HU : Hid (∀ (W : World) (b : Nat), b = W.heap.size → Calls Try.prog 59 #[.int .i64 255, .slice (some ⟨b, 0, none⟩) 3 3] (W.alloc (.cells #[.int .i64 f.da, .int .i64 f.sa, .int .i64 f.ct] 3)) fun e w' => e = .returned (.bool (upB 255 [f.da, f.sa, f.ct])) ∧ (W.alloc (.cells #[.int .i64 f.da, .int .i64 f.sa, .int .i64 f.ct] 3)) = w') := fun W b hb => by
    rw [hb]
    exact upTo_any 255 [f.da, f.sa, f.ct] W.heap.size 3 _ (by simp) (ints_new W [f.da, f.sa, f.ct] _)
  unfold llcB
  unfold frV frC at *
  go_enter Try.func60, Try.ntmps60
  go_wp2_with fail
  refine (HU.out _ _ (by simp)).mono ?_
  rintro e w1 ⟨rfl, hw1⟩
  subst hw1
  cases h1 : upB 255 [f.da, f.sa, f.ct] with
  | false =>
    go_wp2
    go_ret
    exact ⟨by rw [h1]; rfl, hb1⟩
  | true =>
    go_wp2_with fail
    refine (leads_any _ _ _ _).mono ?_
    rintro e w2 ⟨rfl, rfl⟩
    go_wp2
    go_ret
    exact ⟨by rw [h1]; rfl, hb1⟩

theorem isSnap_any (f : Fr) (w : World) :
    Calls Try.prog 62 #[frV f] w fun e w' => e = .returned (.bool (snapB f)) ∧ Below w.heap.size w w' := by
  have hb0 : Below w.heap.size w (w.alloc (.cells (frC f) 36)) := (Below.refl _ _).alloc (Nat.le_refl _) _
  have hb1 := hb0.alloc (by simp) (.cells #[.int .i64 f.ou] 3)
  have hb2 := hb1.alloc (by simp; omega) (.cells #[.int .i64 f.pi] 3)
  clear hb0
  have HU : Hid (∀ (W : World) (b : Nat), b = W.heap.size → Calls Try.prog 59 #[.int .i64 16777215, .slice (some ⟨b, 0, none⟩) 1 1] (W.alloc (.cells #[.int .i64 f.ou] 3)) fun e w' => e = .returned (.bool (upB 16777215 [f.ou])) ∧ (W.alloc (.cells #[.int .i64 f.ou] 3)) = w') := fun W b hb => by
    rw [hb]
    exact upTo_any 16777215 [f.ou] W.heap.size 1 _ (by simp) (ints_new W [f.ou] _)
  have HP : Hid (∀ (W : World) (b : Nat), b = W.heap.size → Calls Try.prog 59 #[.int .i64 65535, .slice (some ⟨b, 0, none⟩) 1 1] (W.alloc (.cells #[.int .i64 f.pi] 3)) fun e w' => e = .returned (.bool (upB 65535 [f.pi])) ∧ (W.alloc (.cells #[.int .i64 f.pi] 3)) = w') := fun W b hb => by
    rw [hb]
    exact upTo_any 65535 [f.pi] W.heap.size 1 _ (by simp) (ints_new W [f.pi] _)
  unfold snapB
  unfold frV frC at *
  go_enter Try.func62, Try.ntmps62
  go_wp2_with fail
  refine (HU.out _ _ (by simp)).mono ?_
  rintro e w1 ⟨rfl, hw1⟩
  subst hw1
  cases h1 : upB 16777215 [f.ou] with
  | false =>
    go_wp2
    go_ret
    exact ⟨by rw [h1]; rfl, hb1⟩
  | true =>
    go_wp2_with fail
    refine (HP.out _ _ (by simp)).mono ?_
    rintro e w2 ⟨rfl, hw2⟩
    subst hw2
    go_wp2
    go_ret
    exact ⟨by rw [h1]; rfl, hb2⟩

end Go.Proofs.Ytdceggekhhflgaa
