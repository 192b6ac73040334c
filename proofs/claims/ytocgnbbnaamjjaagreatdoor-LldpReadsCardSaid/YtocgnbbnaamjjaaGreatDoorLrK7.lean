/- Texts one behind the other. Rows of numbers of one's own. The small functions that the laws share: pick (some number below n) and wired (a fact on package wire). (*wire.Reader).Zeros at every argument. A wire.Reader beside the plain answer: what Bytes, Num, Fail, Zeros and Err do in any state. (apart: zrR, leadT_le, zrR_le) How many noughts stand ahead: each of them is one, and the next byte is none. 13.1: records plainly: how they are read. tlv.readHead, tlv.Read at every text. 13.1: one round of reading, plainly. 13.1: there and back, plainly. -/
import Derived.Test.YtocgnbbnaamjjaaGreatDoorLrK1
import Derived.Test.YtocgnbbnaamjjaaGreatDoorLrK4
import Derived.Test.YtocgnbbnaamjjaaGreatDoorLrK5
import Derived.Deep.AppendLies
import Derived.Deep.RegionHeld3
import Derived.Great.BuildSlice
import Derived.Lib.TrimByte
namespace Go.Proofs.YtocgnbbnaamjjaaGreatDoor
open Go.RowKit
attribute [local go_sem ↓] Go.wp_at_zero Go.wp_at_succ
set_option linter.unusedSimpArgs false
set_option linter.unusedVariables false
set_option maxRecDepth 100000

def niC (x : Nat) : Array Value := #[.int .i64 (x : Nat)]

def NiAt (w : World) (b o : Nat) (l : List Nat) : Prop := ∀ j (hj : j < l.length), CellsAt w b (o + j * 1) (niC l[j])

def NiIn (w : World) (a : Option Addr) (l : List Nat) : Prop := l = [] ∨ ∃ b o, a = some ⟨b, o, none⟩ ∧ b < w.heap.size ∧ NiAt w b o l

theorem NiAt.below {w w' : World} {b o D : Nat} {l : List Nat} (h : NiAt w b o l) (hb : Below D w w') (hB : b < D) : NiAt w' b o l := fun j hj => (h j hj).below hb hB

theorem NiIn.below {w w' : World} {a : Option Addr} {l : List Nat} (h : NiIn w a l) (hb : Below w.heap.size w w') : NiIn w' a l := by
  rcases h with h | ⟨b, o, h1, h2, h3⟩
  · exact Or.inl h
  · exact Or.inr ⟨b, o, h1, Nat.lt_of_lt_of_le h2 hb.size, fun j hj => (h3 j hj).below hb h2⟩

theorem NiIn.drew {w : World} {a : Option Addr} {l : List Nat} (h : NiIn w a l) : NiIn w.drew a l := h

theorem NiIn.at {w : World} {a : Option Addr} {l : List Nat} (h : NiIn w a l) {k : Nat} (hk : k < l.length) : ∃ b o, a = some ⟨b, o, none⟩ ∧ b < w.heap.size ∧ NiAt w b o l := by
  rcases h with rfl | h
  · simp at hk
  · exact h

/-- A list that lay somewhere ahead lies there still. -/
theorem NiIn.late {w0 w w' : World} {a : Option Addr} {l : List Nat} (h : NiIn w a l) (h0 : NiIn w0 a l) (hb : Below w0.heap.size w w') : NiIn w' a l := by
  rcases h with h | ⟨b, o, e1, e2, e3⟩
  · exact Or.inl h
  · rcases h0 with h0 | ⟨b0, o0, f1, f2, f3⟩
    · exact Or.inl h0
    · rw [e1] at f1
      cases f1
      exact Or.inr ⟨b, o, e1, Nat.lt_of_lt_of_le e2 hb.size, e3.below hb f2⟩

/-- The cells of numbers, one behind the other. -/
def niR (l : List Nat) : List Value := l.flatMap fun v => (niC v).toList

theorem niR_cons (v : Nat) (l : List Nat) : niR (v :: l) = (niC v).toList ++ niR l := by simp [niR]

theorem niR_append (l m : List Nat) : niR (l ++ m) = niR l ++ niR m := by simp [niR]

theorem niR_one (v : Nat) : niR [v] = (niC v).toList := by simp [niR]

theorem niC_len (v : Nat) : (niC v).toList.length = 1 := rfl

theorem niR_len (l : List Nat) : (niR l).length = l.length * 1 := by
  induction l with
  | nil => rfl
  | cons v l ih => rw [niR_cons, List.length_append, ih, niC_len, List.length_cons]; omega

theorem niR_get : ∀ (l : List Nat) (j : Nat) (hj : j < l.length) (k : Nat), k < 1 → (niR l)[j * 1 + k]? = (niC l[j])[k]?
  | [], j, hj, _, _ => by simp at hj
  | v :: l, 0, _, k, hk => by
    rw [niR_cons, List.getElem?_append_left (by rw [niC_len]; omega)]
    simp
  | v :: l, j + 1, hj, k, hk => by
    have ih := niR_get l j (by simpa using hj) k hk
    rw [niR_cons, List.getElem?_append_right (by rw [niC_len]; omega), niC_len, show (j + 1) * 1 + k - 1 = j * 1 + k by omega, ih]
    rfl

theorem niC_cells (v : Nat) : ∀ u ∈ (niC v).toList, u.oneCell' = true := by
  intro u hu
  simp only [niC, List.mem_cons, List.not_mem_nil, or_false] at hu
  rcases hu with rfl <;> rfl

theorem niR_cells (l : List Nat) : ∀ u ∈ niR l, u.oneCell' = true := by
  intro u hu
  unfold niR at hu
  obtain ⟨v, _, hv⟩ := List.mem_flatMap.1 hu
  exact niC_cells v u hv

theorem niAt_news {w : World} {b o : Nat} {l : List Nat} (h : NiAt w b o l) : ∀ (q : Nat) u, (niR l)[q]? = some u → w.cell? ((⟨b, o, none⟩ : Addr).add q) = some u := by
  intro q u hu
  have hq : q < l.length * 1 := by
    rw [← niR_len]
    exact (List.getElem?_eq_some_iff.1 hu).1
  have hj : q / 1 < l.length := by omega
  have e : q = q / 1 * 1 + q % 1 := by omega
  rw [e, niR_get l (q / 1) hj (q % 1) (by omega)] at hu
  have := h (q / 1) hj (q % 1) u hu
  rw [e, Addr.add_lit, ← Nat.add_assoc]
  exact this

theorem ni_own {w : World} {base g cap n : Nat} {T : TypeId} {l : List Nat} (hn : n = l.length) (h : w.ownsRow base T 1 (.slice (some ⟨g, 0, none⟩) n cap) n (niR l)) : NiAt w g 0 l := by
  subst hn
  intro j hj k c hc
  have hk : k < 1 := (Array.getElem?_eq_some_iff.1 hc).1
  have h2 := h.cellAt (j * 1 + k) (by omega)
  rw [niR_get l j hj k hk, hc] at h2
  rw [Nat.zero_add]
  exact h2

/-- A row of numbers of one's own: none, or a block from base on. -/
def OwnNat (w : World) (base : Nat) (v : Value) (l : List Nat) : Prop := (l = [] ∧ v = .slice none 0 0) ∨ (l ≠ [] ∧ ∃ g cap, v = .slice (some ⟨g, 0, none⟩) l.length cap ∧ w.ownsRow base 3 1 v l.length (niR l))

theorem OwnNat.nil (w : World) (base : Nat) : OwnNat w base (.slice none 0 0) [] := Or.inl ⟨rfl, rfl⟩

theorem OwnNat.kept {w w' : World} {base : Nat} {v : Value} {l : List Nat} (h : OwnNat w base v l) (hb : Below w.heap.size w w') : OwnNat w' base v l := by
  rcases h with h | ⟨h1, g, cap, rfl, h2⟩
  · exact Or.inl h
  · exact Or.inr ⟨h1, g, cap, rfl, h2.kept (show w.grownBy w' none from ⟨hb.os, hb.tape, hb.output, hb.size, fun k hk _ => hb.block k hk⟩) (Or.inr (by simp [Value.ownBlock]))⟩

theorem OwnNat.alloc {w : World} {base : Nat} {v : Value} {l : List Nat} (h : OwnNat w base v l) (o : Obj) : OwnNat (w.alloc o) base v l := h.kept ((Below.refl _ _).alloc (Nat.le_refl _) o)

theorem OwnNat.inL {w : World} {base : Nat} {v : Value} {l : List Nat} (h : OwnNat w base v l) : ∃ a c, v = .slice a l.length c ∧ NiIn w a l := by
  rcases h with ⟨rfl, rfl⟩ | ⟨h1, g, cap, rfl, h2⟩
  · exact ⟨none, 0, rfl, Or.inl rfl⟩
  · exact ⟨some ⟨g, 0, none⟩, cap, rfl, Or.inr ⟨g, 0, rfl, (h2.lt g rfl).2, ni_own rfl h2⟩⟩

theorem niR_snoc (l : List Nat) (x : Nat) : niR (l ++ [x]) = niR l ++ (niC x).toList := by rw [niR_append, niR_one]

/-- Another block is written. -/
theorem OwnNat.grown {w w' : World} {base : Nat} {v : Value} {l : List Nat} {row : Option Nat} (h : OwnNat w base v l) (hg : w.grownBy w' row) (hr : ∀ g, row = some g → g < base) : OwnNat w' base v l := by
  rcases h with h | ⟨h1, g, cap, rfl, h2⟩
  · exact Or.inl h
  · refine Or.inr ⟨h1, g, cap, rfl, h2.kept hg ?_⟩
    right
    intro e
    have h3 := (h2.lt g rfl).1
    have := hr g (by rw [← e]; simp [Value.ownBlock])
    omega

theorem OwnNat.mono {w : World} {base B : Nat} {v : Value} {l : List Nat} (h : OwnNat w base v l) (hB : B ≤ base) : OwnNat w B v l := by
  rcases h with h | ⟨h1, g, cap, rfl, h2, h3⟩
  · exact Or.inl h
  · refine Or.inr ⟨h1, g, cap, rfl, h2, ?_⟩
    rcases h3 with h3 | ⟨g', cap', cur, e1, e2, e3⟩
    · exact Or.inl h3
    · exact Or.inr ⟨g', cap', cur, e1, Nat.le_trans hB e2, e3⟩

/-- Its block. -/
theorem OwnNat.blk {w : World} {base : Nat} {v : Value} {l : List Nat} (h : OwnNat w base v l) : v.ownBlock = none ∨ ∃ g C, v.ownBlock = some g ∧ base ≤ g ∧ Blk w g 3 C := by
  rcases h with ⟨rfl, rfl⟩ | ⟨h1, g, cap, rfl, h2⟩
  · exact Or.inl rfl
  · rcases h2.2 with ⟨h3, -⟩ | ⟨g1, cap1, cur1, e1, e2, e3, -⟩
    · cases h3
    · cases e1
      exact Or.inr ⟨g, cur1, rfl, e2, e3⟩

/-- A block of another type is written. -/
theorem OwnNat.other {w w' : World} {base B : Nat} {v : Value} {l : List Nat} {T : TypeId} {C : Array Value} (h : OwnNat w base v l) (hB : Blk w B T C) (hT : T ≠ 3) (hg : w.grownBy w' (some B)) : OwnNat w' base v l := by
  have hb := h.blk
  rcases h with h | ⟨h1, g, cap, rfl, h2⟩
  · exact Or.inl h
  · refine Or.inr ⟨h1, g, cap, rfl, h2.kept hg ?_⟩
    right
    intro e
    rcases hb with hb | ⟨g1, C1, e1, e2, e3⟩
    · rw [hb] at e; cases e
    · rw [e1] at e
      cases e
      have h3 : w.heap[B]? = some (.cells C T (0, 0)) := hB
      have h4 : w.heap[B]? = some (.cells C1 3 (0, 0)) := e3
      rw [h3] at h4
      injection h4 with h4
      injection h4 with _ h5
      exact hT h5

theorem Tryz.niParts : (Tryz.prog.info? 3).map (fun i => (i.zero, i.size, i.bytes)) = some (some (.int .i64 0), 1, 8) := by kernel_rfl

theorem fill_ni (v : Nat) : Instr.fill (fun i => some (i * 1, 1)) ((Array.range (1 * 1)).map ((Value.int .i64 0).cells[· % (Value.int .i64 0).cells.size]!)) [(0, .int .i64 (v : Nat))] = some (niC v) := by kernel_rfl

/-- One comes behind. -/
theorem append_ni {o : Oper} {a : Act} {w : World} {K : Act → World → Prop} {Q : Exit → Act → World → Prop} {s x : Operand} {base G : Nat} {v : Value} {l : List Nat} (y : Nat)
    (ho : o.op = .call { callee := .builtin .append, args := #[s, x], argTypes := #[74, 74] }) (hs : a.eval s = v) (hx : a.eval x = .slice (some ⟨G, 0, none⟩) 1 1)
    (hO : OwnNat w base v l) (hG : Blk w G 3 (niC y)) (hlen : l.length ≤ 100000) (hbase : base ≤ w.heap.size)
    (h : ∀ v' w', OwnNat w' base v' (l ++ [y]) → Below base w w' → w.grownBy w' v.ownBlock → K (a.put o.dst v') w') : Oper.wp Tryz.prog o a w K Q := by
  obtain ⟨i0, hi, hz0, hz1, hz2⟩ := info_parts Tryz.niParts
  have hnews : ∀ (j : Nat) u, (niC y).toList[j]? = some u → w.cell? ((⟨G, 0, none⟩ : Addr).add j) = some u := fun j u hu => by
    rw [Addr.add_lit, Nat.zero_add]
    exact hG.cv j u (by simpa using hu)
  rcases hO with ⟨rfl, rfl⟩ | ⟨hne, g, cap, rfl, hown⟩
  · refine wp_append_lies w s x _ ho base 3 i0 (.int .i64 0) 1 8 Tryz.underlying74 hi hz0 hz1 hz2 rfl (by decide) (.slice none 0 0) 0 [] hs (World.ownsRow_nil w base _ 1) ⟨G, 0, none⟩ 1 1 (niC y).toList hx rfl hnews (niC_cells y) (by decide) (by unfold maxLen; omega) (by decide) hbase _ rfl ?_
    intro g cap w' hown hgrow hat hlt
    refine h _ _ (Or.inr ⟨by simp, g, cap, rfl, ?_⟩) ((Below.refl base w).grown hgrow hbase (fun q hq => by simp [Value.ownBlock] at hq)) hgrow
    rw [List.nil_append, niR_one]
    exact hown
  · have hown' := hown
    refine wp_append_lies w s x _ ho base 3 i0 (.int .i64 0) 1 8 Tryz.underlying74 hi hz0 hz1 hz2 rfl (by decide) (.slice (some ⟨g, 0, none⟩) l.length cap) l.length (niR l) hs hown ⟨G, 0, none⟩ 1 1 (niC y).toList hx rfl hnews (niC_cells y) (by decide) (by unfold maxLen; omega) (by omega) hbase _ rfl ?_
    intro g' cap' w' hown2 hgrow hat hlt
    obtain ⟨cur, hB, hge⟩ : ∃ cur, Blk w g 3 cur ∧ base ≤ g := by
      rcases hown'.2 with ⟨h1, -⟩ | ⟨g1, cap1, cur1, e1, e2, e3, -⟩
      · cases h1
      · cases e1
        exact ⟨cur1, e3, e2⟩
    refine h _ _ (Or.inr ⟨by simp, g', cap', by rw [List.length_append]; rfl, ?_⟩) ((Below.refl base w).grown hgrow hbase (fun q hq => by cases hq; exact hge)) hgrow
    rw [niR_snoc, List.length_append]
    exact hown2

/-- Of one alone. -/
theorem slice_ni {o : Oper} {a : Act} {w : World} {K : Act → World → Prop} {Q : Exit → Act → World → Prop} {x : Operand} (y : Nat) (ho : o.op = .buildSlice 74 1 #[(0, x)]) (hx : a.eval x = .int .i64 (y : Nat))
    (h : ∀ w1, Blk w1 w.heap.size 3 (niC y) → Below w.heap.size w w1 → w.heap.size < w1.heap.size → K (a.put o.dst (.slice (some ⟨w.heap.size, 0, none⟩) 1 1)) w1) : Oper.wp Tryz.prog o a w K Q := by
  obtain ⟨i0, hi, hz0, hz1, hz2⟩ := info_parts Tryz.niParts
  refine wp_buildSlice 74 3 1 _ ho (niC y) i0 (.int .i64 0) Tryz.underlying74 hi hz0 (by rw [hz1]; decide) (by rw [hz1]; decide) (by rw [hz1]; simp only [List.map_toArray, List.map_cons, List.map_nil, hx]; exact fill_ni y) (h _ (Blk.new w _ _) ((Below.refl _ _).alloc (Nat.le_refl _) _) (Blk.new w _ _).lt)

theorem sliceL_ni {ops : Array Oper} {rest : List Oper} {o : Oper} {a : Act} {w : World} {Q : Exit → Act → World → Prop} {x : Operand} (y : Nat) (hg : o.guard = none) (ho : o.op = .buildSlice 74 1 #[(0, x)]) (hx : a.eval x = .int .i64 (y : Nat))
    (h : ∀ w1, Blk w1 w.heap.size 3 (niC y) → Below w.heap.size w w1 → w.heap.size < w1.heap.size → wpList Tryz.prog ops Q rest (a.put o.dst (.slice (some ⟨w.heap.size, 0, none⟩) 1 1)) w1) : wpList Tryz.prog ops Q (o :: rest) a w :=
  wpList_plain hg fun _ hK => slice_ni y ho hx fun w1 hB hb hs => hK _ _ (h w1 hB hb hs)

theorem appendL_ni {ops : Array Oper} {rest : List Oper} {o : Oper} {a : Act} {w : World} {Q : Exit → Act → World → Prop} {s x : Operand} {base G : Nat} {v : Value} {l : List Nat} (y : Nat) (hg : o.guard = none)
    (ho : o.op = .call { callee := .builtin .append, args := #[s, x], argTypes := #[74, 74] }) (hs : a.eval s = v) (hx : a.eval x = .slice (some ⟨G, 0, none⟩) 1 1)
    (hO : OwnNat w base v l) (hG : Blk w G 3 (niC y)) (hlen : l.length ≤ 100000) (hbase : base ≤ w.heap.size)
    (h : ∀ v' w', OwnNat w' base v' (l ++ [y]) → Below base w w' → w.grownBy w' v.ownBlock → wpList Tryz.prog ops Q rest (a.put o.dst v') w') : wpList Tryz.prog ops Q (o :: rest) a w :=
  wpList_plain hg fun _ hK => append_ni y ho hs hx hO hG hlen hbase fun v' w' h1 h2 h3 => hK _ _ (h v' w' h1 h2 h3)

end Go.Proofs.YtocgnbbnaamjjaaGreatDoor

namespace Go.Proofs.YtocgnbbnaamjjaaGreatDoor
open Go.RowKit

/-- What 'pick' comes to. -/
theorem pick_val (a : Int) (n : Nat) (h1 : 1 ≤ n) (hn : n ≤ 281474976710656) : ∃ r : Nat, wrap64 ((IntKind.u64.wrap a).tmod (n : Int)) = (r : Int) ∧ r < n := by
  have hw := wrap_u64_nonneg a
  have e : (IntKind.u64.wrap a).tmod (n : Int) = IntKind.u64.wrap a % (n : Int) := Int.tmod_eq_emod_of_nonneg hw
  have h0 := Int.emod_nonneg (IntKind.u64.wrap a) (show (n : Int) ≠ 0 by omega)
  have h2 := Int.emod_lt_of_pos (IntKind.u64.wrap a) (show (0 : Int) < n by omega)
  rw [e]
  generalize IntKind.u64.wrap a % (n : Int) = z at h0 h2
  refine ⟨z.toNat, ?_, by omega⟩
  unfold wrap64
  omega



theorem grown_below {B g : Nat} {a w w' : World} (h : Below B a w) (hg : w.grownBy w' (some g)) (hB : B ≤ w.heap.size) (hr : B ≤ g) : Below B a w' :=
  h.grown hg hB fun k e => by cases e; exact hr



end Go.Proofs.YtocgnbbnaamjjaaGreatDoor

namespace Go.Proofs.YtocgnbbnaamjjaaGreatDoor
open Go.RowKit

/-- How many noughts stand ahead. -/
def lead (l : List UInt8) : Nat := l.length - (Lib.trimLeftB l 0).length

theorem trim_le (l : List UInt8) : (Lib.trimLeftB l 0).length ≤ l.length := by
  induction l with
  | nil => exact Nat.le_refl _
  | cons b l ih =>
    show ((b :: l).dropWhile (· == 0)).length ≤ _
    have ih' : (l.dropWhile (· == 0)).length ≤ l.length := ih
    cases hb : (b == 0) with
    | true => simp only [List.dropWhile, hb, List.length_cons]; omega
    | false => simp only [List.dropWhile, hb, List.length_cons]; omega

theorem trim_drop (l : List UInt8) : Lib.trimLeftB l 0 = l.drop (lead l) := by
  induction l with
  | nil => rfl
  | cons b l ih =>
    have hl := trim_le l
    cases hb : (b == 0) with
    | true =>
      have e : Lib.trimLeftB (b :: l) 0 = Lib.trimLeftB l 0 := by
        show (b :: l).dropWhile (· == 0) = l.dropWhile (· == 0)
        simp only [List.dropWhile, hb]
      have e2 : lead (b :: l) = lead l + 1 := by unfold lead; rw [e, List.length_cons]; omega
      rw [e, e2, List.drop_succ_cons]
      exact ih
    | false =>
      have e : Lib.trimLeftB (b :: l) 0 = b :: l := by
        show (b :: l).dropWhile (· == 0) = b :: l
        simp only [List.dropWhile, hb]
      have e2 : lead (b :: l) = 0 := by unfold lead; rw [e]; omega
      rw [e, e2, List.drop_zero]

set_option maxHeartbeats 800000 in
/-- Zeros, nothing noted yet, only noughts are left. -/
theorem zeros_clean {g : Nat} {s : ByteArray} {a : Int} (w : World) (h : Rd w g s a none) (ha : 0 ≤ a) (hb : a + s.size ≤ 281474976710656) (hz : Lib.trimLeftB s.data.toList 0 = []) :
    Calls Tryz.prog 37 #[.pointer (some ⟨g, 0, none⟩)] w fun e w' => e = .returned (.bool true) ∧
      Rd w' g (s.extract s.size s.size) (a + s.size) none ∧ w.grownBy w' (some g) := by
  have h0 := h.c0
  go_enter Tryz.func37, Tryz.ntmps37
  go_wp2_with fail
  refine (Tryz.strings_TrimLeft_one s 0 (by decide) _).mono ?_
  rintro e w' ⟨rfl, rfl⟩
  rw [hz]
  go_wp2_with fail
  refine (bytes_read s.size _ h (Nat.le_refl _) ha hb).mono ?_
  rintro e w2 ⟨rfl, hr, hg⟩
  have h2 := hr.c2
  go_wp2
  go_ret
  exact ⟨rfl, hr, hg⟩

set_option maxHeartbeats 800000 in
/-- Zeros, nothing noted yet, something else is left, too. -/
theorem zeros_spoilt {g : Nat} {s : ByteArray} {a : Int} (w : World) (h : Rd w g s a none) (ha : 0 ≤ a) (hb : a + s.size ≤ 281474976710656) (hz : Lib.trimLeftB s.data.toList 0 ≠ []) :
    Calls Tryz.prog 37 #[.pointer (some ⟨g, 0, none⟩)] w fun e w' => e = .returned (.bool false) ∧
      ∃ p, w.heap.size ≤ p ∧ Rd w' g (s.extract (lead s.data.toList) s.size) (a + lead s.data.toList) (some ⟨p, 0, none⟩) ∧ Flt w' p 15 (a + lead s.data.toList) ∧ w.grownBy w' (some g) := by
  have h0 := h.c0
  have hle := trim_le s.data.toList
  have hsz : s.data.toList.length = s.size := by simp
  have hld : lead s.data.toList = s.size - (Lib.trimLeftB s.data.toList 0).length := by unfold lead; rw [hsz]
  have hne : (Lib.trimLeftB s.data.toList 0).isEmpty = false := by
    cases hq : Lib.trimLeftB s.data.toList 0 with
    | nil => exact absurd hq hz
    | cons b r => rfl
  rw [hsz] at hle
  have HD := Lib.hid hld
  have HE := Lib.hid hne
  clear hld hsz hne hz
  go_enter Tryz.func37, Tryz.ntmps37
  go_wp2_with fail
  refine (Tryz.strings_TrimLeft_one s 0 (by decide) _).mono ?_
  rintro e w' ⟨rfl, hw⟩
  subst hw
  generalize Lib.trimLeftB s.data.toList 0 = t at *
  obtain ⟨k, hk⟩ : ∃ k, k = lead s.data.toList := ⟨_, rfl⟩
  rw [← hk] at HD
  have HK := Lib.hid hk
  clear hk
  go_wp2_with fail
  rw [show (s.size : Int) - t.length = ((k : Nat) : Int) by rw [HD.out]; omega]
  refine (bytes_read k _ h (by rw [HD.out]; omega) ha hb).mono ?_
  rintro e w2 ⟨rfl, hr, hg⟩
  have h1 := hr.c1
  have h2 := HE.out
  go_wp2_with fail
  refine (fail_first _ _ _ hr).mono ?_
  rintro e w3 ⟨rfl, hr3, hf3, hg3⟩
  have h3 := hr3.c2
  have hg' := grownBy_trans hg hg3
  have hs := hg.size
  go_wp2
  go_ret
  rw [← HK.out]
  exact ⟨rfl, _, hs, hr3, hf3, hg'⟩

/-- Zeros, something noted already. -/
theorem zeros_noted {g : Nat} {s : ByteArray} {a : Int} {p : Addr} (w : World) (h : Rd w g s a (some p)) :
    Calls Tryz.prog 37 #[.pointer (some ⟨g, 0, none⟩)] w fun e w' => e = .returned (.bool false) ∧ w = w' := by
  have h0 := h.c0
  have h1 := h.c1
  have h2 := h.c2
  go_enter Tryz.func37, Tryz.ntmps37
  go_wp2_with fail
  refine (Tryz.strings_TrimLeft_one s 0 (by decide) _).mono ?_
  rintro e w' ⟨rfl, hw⟩
  subst hw
  go_wp2_with fail
  refine (bytes_noted _ _ h).mono ?_
  rintro e w2 ⟨rfl, rfl⟩
  cases hq : Lib.trimLeftB s.data.toList 0 with
  | nil =>
    go_wp2
    go_ret
    exact ⟨rfl, rfl⟩
  | cons b r =>
    go_wp2_with fail
    refine (fail_noted _ _ _ h).mono ?_
    rintro e w2 ⟨rfl, rfl⟩
    go_wp2
    go_ret
    exact ⟨rfl, rfl⟩

end Go.Proofs.YtocgnbbnaamjjaaGreatDoor

namespace Go.Proofs.YtocgnbbnaamjjaaGreatDoor
open Go.RowKit
set_option linter.unusedVariables false

/-- Only noughts are left. -/
def zrR (s : List UInt8) (off : Nat) (st : RSt) : Bool × RSt :=
  if st.2.1 ≠ 0 then (false, st)
  else if st.1 + lead (s.drop st.1) = s.length then (true, s.length, st.2)
  else (false, st.1 + lead (s.drop st.1), 15, (off : Int) + (st.1 + lead (s.drop st.1) : Nat))

theorem leadT_le (l : List UInt8) : lead l ≤ l.length := by unfold lead; omega

theorem zrR_le (s : List UInt8) (off : Nat) (st : RSt) (h : st.1 ≤ s.length) : (zrR s off st).2.1 ≤ s.length := by
  have h3 := leadT_le (s.drop st.1)
  rw [List.length_drop] at h3
  unfold zrR
  split
  · exact h
  · split
    · exact Nat.le_refl _
    · show st.1 + lead (s.drop st.1) ≤ s.length
      omega

theorem zrR_bad (s : List UInt8) (off : Nat) (st : RSt) (h : st.2.1 ≠ 0) : zrR s off st = (false, st) := by unfold zrR; rw [if_pos h]

theorem zrR_no (s : List UInt8) (off : Nat) (st : RSt) (h : (zrR s off st).1 = false) : (zrR s off st).2.2.1 ≠ 0 := by
  unfold zrR at h ⊢
  split
  · assumption
  · rename_i h1
    rw [if_neg h1] at h
    split
    · rename_i h2
      rw [if_pos h2] at h
      cases h
    · exact (show (15 : Int) ≠ 0 by decide)

theorem zrR_yes (s : List UInt8) (off : Nat) (st : RSt) (h : (zrR s off st).1 = true) : st.2.1 = 0 ∧ st.1 + lead (s.drop st.1) = s.length ∧ (zrR s off st).2 = (s.length, st.2) := by
  unfold zrR at h ⊢
  by_cases h1 : st.2.1 ≠ 0
  · rw [if_pos h1] at h; cases h
  · rw [if_neg h1] at h ⊢
    by_cases h2 : st.1 + lead (s.drop st.1) = s.length
    · rw [if_pos h2]
      exact ⟨by simpa using h1, h2, rfl⟩
    · rw [if_neg h2] at h; cases h

theorem zeros_t {g : Nat} {s : ByteArray} {off : Nat} (st : RSt) (w : World) (h : RdT w g s off st) (hp : st.1 ≤ s.size) (hb : off + s.size ≤ 281474976710656) :
    Calls Tryz.prog 37 #[.pointer (some ⟨g, 0, none⟩)] w fun e w' => e = .returned (.bool (zrR s.data.toList off st).1) ∧
      RdT w' g s off (zrR s.data.toList off st).2 ∧ w.grownBy w' (some g) := by
  obtain ⟨p, e0, pl⟩ := st
  obtain ⟨f, hr, hf⟩ := h
  have hz := restT_size s p hp
  have hLs : s.data.toList.length = s.size := by simp
  have hp' : p ≤ s.size := hp
  have hdl : (s.data.toList.drop p).length = s.size - p := by rw [List.length_drop, hLs]
  have htl : (s.extract p s.size).data.toList = s.data.toList.drop p := Lib.extract_to_end _ _
  rcases hf with ⟨h0, rfl⟩ | ⟨h0, q, rfl, hq⟩
  · have h0' : e0 = 0 := h0
    subst h0'
    by_cases hc : Lib.trimLeftB (s.data.toList.drop p) 0 = []
    · have hl : lead (s.data.toList.drop p) = s.size - p := by unfold lead; rw [hc, hdl]; simp
      have HS : zrR s.data.toList off (p, 0, pl) = (true, s.size, 0, pl) := by
        simp only [zrR, hl]
        rw [if_neg (by decide), if_pos (by rw [hLs]; omega), hLs]
      rw [HS]
      refine (zeros_clean w hr (by show (0 : Int) ≤ (off : Int) + (p : Int); omega) (by rw [hz]; show (off : Int) + (p : Int) + _ ≤ _; omega) (by rw [htl]; exact hc)).mono ?_
      rintro e w' ⟨rfl, hr', hg⟩
      refine ⟨rfl, ⟨none, ?_, Or.inl ⟨rfl, rfl⟩⟩, hg⟩
      have e1 := extract_extract s p (s.size - p)
      have e2 : (off : Int) + (s.size : Int) = (off : Int) + (p : Int) + ((s.extract p s.size).size : Int) := by rw [hz]; omega
      have e3 : (s.extract p s.size).extract (s.extract p s.size).size (s.extract p s.size).size = s.extract s.size s.size := by rw [show p + (s.size - p) = s.size by omega, ← hz] at e1; exact e1
      show Rd w' g (s.extract s.size s.size) ((off : Int) + (s.size : Int)) none
      rw [e2, ← e3]
      exact hr'
    · have hne : ¬ p + lead (s.data.toList.drop p) = s.data.toList.length := by
        intro q
        have hle := trim_le (s.data.toList.drop p)
        have : (Lib.trimLeftB (s.data.toList.drop p) 0).length = 0 := by unfold lead at q; rw [hdl] at q hle; rw [hLs] at q; omega
        exact hc (List.eq_nil_of_length_eq_zero this)
      have HS : zrR s.data.toList off (p, 0, pl) = (false, p + lead (s.data.toList.drop p), 15, (off : Int) + (p + lead (s.data.toList.drop p) : Nat)) := by
        simp only [zrR]
        rw [if_neg (by decide), if_neg hne]
      rw [HS]
      refine (zeros_spoilt w hr (by show (0 : Int) ≤ (off : Int) + (p : Int); omega) (by rw [hz]; show (off : Int) + (p : Int) + _ ≤ _; omega) (by rw [htl]; exact hc)).mono ?_
      rintro e w' ⟨rfl, q, hq, hr', hf', hg⟩
      rw [htl] at hr' hf'
      have e2 : (off : Int) + ((p + lead (s.data.toList.drop p) : Nat) : Int) = (off : Int) + (p : Int) + (lead (s.data.toList.drop p) : Int) := by omega
      refine ⟨rfl, ⟨some ⟨q, 0, none⟩, ?_, Or.inr ⟨(show (15 : Int) ≠ 0 by decide), q, rfl, ?_⟩⟩, hg⟩
      · have e1 := extract_extract s p (lead (s.data.toList.drop p))
        show Rd w' g (s.extract (p + lead (s.data.toList.drop p)) s.size) ((off : Int) + ((p + lead (s.data.toList.drop p) : Nat) : Int)) _
        rw [e2, ← e1]
        exact hr'
      · show Flt w' q 15 ((off : Int) + ((p + lead (s.data.toList.drop p) : Nat) : Int))
        rw [e2]
        exact hf'
  · have h0' : e0 ≠ 0 := h0
    have HS : zrR s.data.toList off (p, e0, pl) = (false, p, e0, pl) := by simp [zrR, h0']
    rw [HS]
    refine (zeros_noted w hr).mono ?_
    rintro e w' ⟨rfl, rfl⟩
    exact ⟨rfl, ⟨_, hr, Or.inr ⟨h0, q, rfl, hq⟩⟩, World.grownBy.refl _ _⟩


end Go.Proofs.YtocgnbbnaamjjaaGreatDoor

namespace Go.Proofs.YtocgnbbnaamjjaaGreatDoor
open Go.RowKit

theorem lead_cons0 (l : List UInt8) : lead (0 :: l) = lead l + 1 := by
  have hl := trim_le l
  have e : Lib.trimLeftB (0 :: l) 0 = Lib.trimLeftB l 0 := by
    show (0 :: l).dropWhile (· == 0) = l.dropWhile (· == 0)
    simp [List.dropWhile]
  unfold lead
  rw [e, List.length_cons]
  omega

theorem lead_cons1 (b : UInt8) (l : List UInt8) (h : b ≠ 0) : lead (b :: l) = 0 := by
  have hb : (b == 0) = false := by simp [h]
  have e : Lib.trimLeftB (b :: l) 0 = b :: l := by
    show (b :: l).dropWhile (· == 0) = b :: l
    simp only [List.dropWhile, hb]
  unfold lead
  rw [e]
  omega

theorem lead_spec (l : List UInt8) : (∀ (j : Nat) b, j < lead l → l[j]? = some b → b = 0) ∧ (∀ b, l[lead l]? = some b → b ≠ 0) := by
  induction l with
  | nil => exact ⟨fun j b hj => by simp [lead, Lib.trimLeftB] at hj, fun b hb => by simp at hb⟩
  | cons x l ih =>
    by_cases hx : x = 0
    · subst hx
      rw [lead_cons0]
      refine ⟨fun j b hj hb => ?_, fun b hb => ?_⟩
      · cases j with
        | zero => simpa using hb.symm
        | succ j => exact ih.1 j b (by omega) (by simpa using hb)
      · exact ih.2 b (by simpa using hb)
    · rw [lead_cons1 x l hx]
      exact ⟨fun j b hj => by omega, fun b hb => by simp at hb; rw [← hb]; exact hx⟩

/-- Behind p only noughts, or another byte at m. -/
theorem zrR_ways (s : ByteArray) (p : Nat) (pl : Int) (hp : p ≤ s.size) :
    ((∀ (j : Nat) b, p ≤ j → s.data.toList[j]? = some b → b = 0) ∧ zrR s.data.toList 0 (p, 0, pl) = (true, s.data.toList.length, 0, pl)) ∨
    (∃ m, ∃ hm : m < s.size, p ≤ m ∧ (∀ (j : Nat) b, p ≤ j → j < m → s.data.toList[j]? = some b → b = 0) ∧ s[m] ≠ 0 ∧ zrR s.data.toList 0 (p, 0, pl) = (false, m, 15, (m : Int))) := by
  obtain ⟨h1, h2⟩ := lead_spec (s.data.toList.drop p)
  have hL : s.data.toList.length = s.size := by simp
  have hle := leadT_le (s.data.toList.drop p)
  rw [List.length_drop, hL] at hle
  by_cases hc : p + lead (s.data.toList.drop p) = s.data.toList.length
  · refine Or.inl ⟨fun j b hj hb => ?_, ?_⟩
    · have hjl : j < s.data.toList.length := (List.getElem?_eq_some_iff.1 hb).1
      exact h1 (j - p) b (by omega) (by rw [List.getElem?_drop, show p + (j - p) = j by omega]; exact hb)
    · simp only [zrR]
      rw [if_neg (by decide), if_pos hc]
  · have hm : p + lead (s.data.toList.drop p) < s.size := by omega
    refine Or.inr ⟨p + lead (s.data.toList.drop p), hm, by omega, fun j b hj hj2 hb => ?_, ?_, ?_⟩
    · exact h1 (j - p) b (by omega) (by rw [List.getElem?_drop, show p + (j - p) = j by omega]; exact hb)
    · exact h2 _ (by rw [List.getElem?_drop, Array.getElem?_toList]; exact Array.getElem?_eq_getElem hm)
    · simp only [zrR]
      rw [if_neg (by decide), if_neg hc]
      simp

end Go.Proofs.YtocgnbbnaamjjaaGreatDoor

namespace Go.Proofs.YtocgnbbnaamjjaaGreatDoor
set_option linter.unusedVariables false

inductive TlR where
  | bad (e : Int) (p : Nat)
  | ok (l : List Tl) (a : List Nat) (e : Nat)

def hdN (s : List UInt8) (p : Nat) : Nat := beN ((s.drop p).take 2)

def tlAt (s : List UInt8) (p : Nat) : Tl := ⟨(hdN s p / 512 : Nat), ⟨((s.drop (p + 2)).take (hdN s p % 512)).toArray⟩⟩

def rdTl (s : List UInt8) : Nat → Nat → List Tl → List Nat → TlR
  | 0, p, _, _ => .bad 7 p
  | f + 1, p, l, a =>
    if s.length < p + 2 then .bad 7 p
    else if hdN s p < 512 then
      if hdN s p ≠ 0 then .bad 3 p
      else if p + 2 + lead (s.drop (p + 2)) = s.length then .ok l a p
      else .bad 15 (p + 2 + lead (s.drop (p + 2)))
    else if s.length < p + 2 + hdN s p % 512 then .bad 7 (p + 2)
    else rdTl s f (p + 2 + hdN s p % 512) (l ++ [tlAt s p]) (a ++ [p])

def rdAll (s : List UInt8) : TlR := rdTl s (s.length + 1) 0 [] []

theorem hdN_lt (s : List UInt8) (p : Nat) : hdN s p < 65536 := by
  unfold hdN
  have h := beN_lt ((s.drop p).take 2)
  have h2 : ((s.drop p).take 2).length ≤ 2 := by rw [List.length_take]; omega
  have h3 : 256 ^ ((s.drop p).take 2).length ≤ 256 ^ 2 := Nat.pow_le_pow_right (by decide) h2
  omega
section
variable {s : List UInt8} {f p : Nat} {l : List Tl} {a : List Nat}

theorem rd_miss (h : s.length < p + 2) : rdTl s (f + 1) p l a = .bad 7 p := by rw [rdTl, if_pos h]

theorem rd_form (h : ¬ s.length < p + 2) (h1 : hdN s p < 512) (h2 : hdN s p ≠ 0) : rdTl s (f + 1) p l a = .bad 3 p := by rw [rdTl, if_neg h, if_pos h1, if_pos h2]

theorem rd_end (h : ¬ s.length < p + 2) (h2 : hdN s p = 0) (h3 : p + 2 + lead (s.drop (p + 2)) = s.length) : rdTl s (f + 1) p l a = .ok l a p := by rw [rdTl, if_neg h, if_pos (by omega), if_neg (by omega), if_pos h3]

theorem rd_spoilt (h : ¬ s.length < p + 2) (h2 : hdN s p = 0) (h3 : ¬ p + 2 + lead (s.drop (p + 2)) = s.length) : rdTl s (f + 1) p l a = .bad 15 (p + 2 + lead (s.drop (p + 2))) := by rw [rdTl, if_neg h, if_pos (by omega), if_neg (by omega), if_neg h3]

theorem rd_cut (h : ¬ s.length < p + 2) (h1 : ¬ hdN s p < 512) (h2 : s.length < p + 2 + hdN s p % 512) : rdTl s (f + 1) p l a = .bad 7 (p + 2) := by rw [rdTl, if_neg h, if_neg h1, if_pos h2]

theorem rd_step (h : ¬ s.length < p + 2) (h1 : ¬ hdN s p < 512) (h2 : ¬ s.length < p + 2 + hdN s p % 512) : rdTl s (f + 1) p l a = rdTl s f (p + 2 + hdN s p % 512) (l ++ [tlAt s p]) (a ++ [p]) := by rw [rdTl, if_neg h, if_neg h1, if_neg h2]
end

theorem tlAt_size (s : List UInt8) (p : Nat) (h : ¬ s.length < p + 2 + hdN s p % 512) : (tlAt s p).t.size = hdN s p % 512 := by
  show (((s.drop (p + 2)).take (hdN s p % 512)).toArray).size = _
  simp
  omega

theorem tlAt_ok (s : List UInt8) (p : Nat) (h1 : ¬ hdN s p < 512) (h : ¬ s.length < p + 2 + hdN s p % 512) : okTl (tlAt s p) = true := by
  have h2 := tlAt_size s p h
  have h3 := hdN_lt s p
  have h4 : (tlAt s p).k = ((hdN s p / 512 : Nat) : Int) := rfl
  simp only [okTl, Bool.and_eq_true, decide_eq_true_eq, h2, h4]
  omega

theorem putL_addT (n : Nat) : ∀ m X : Nat, putL (m * 256 ^ n + X) n = putL X n := by
  induction n with
  | zero => intro m X; rfl
  | succ n ih =>
    intro m X
    have e1 : m * 256 ^ (n + 1) + X = X + 256 ^ n * (m * 256) := by rw [Nat.pow_succ, Nat.mul_comm m, Nat.mul_assoc, Nat.mul_comm 256 m, Nat.add_comm]
    have e2 : (m * 256 ^ (n + 1) + X) / 256 ^ n % 256 = X / 256 ^ n % 256 := by
      rw [e1, Nat.add_mul_div_left _ _ (Nat.pow_pos (by decide))]
      omega
    have e3 : putL (m * 256 ^ (n + 1) + X) n = putL X n := by
      rw [show m * 256 ^ (n + 1) + X = (m * 256) * 256 ^ n + X by rw [Nat.pow_succ, Nat.mul_comm (256 ^ n) 256, Nat.mul_assoc]]
      exact ih _ _
    show UInt8.ofNat ((m * 256 ^ (n + 1) + X) / 256 ^ n % 256) :: putL (m * 256 ^ (n + 1) + X) n = UInt8.ofNat (X / 256 ^ n % 256) :: putL X n
    rw [e2, e3]

theorem putL_beNT (l : List UInt8) : putL (beN l) l.length = l := by
  induction l with
  | nil => rfl
  | cons b l ih =>
    have hl := beN_lt l
    have hb := b.toNat_lt
    rw [beN_cons, List.length_cons]
    show UInt8.ofNat ((b.toNat * 256 ^ l.length + beN l) / 256 ^ l.length % 256) :: putL (b.toNat * 256 ^ l.length + beN l) l.length = b :: l
    rw [putL_addT, ih, Nat.mul_comm, Nat.mul_add_div (Nat.pow_pos (by decide)), Nat.div_eq_of_lt hl, Nat.add_zero, Nat.mod_eq_of_lt hb]
    simp

theorem take_take_drop (s : List UInt8) (p n m : Nat) : (s.drop p).take (n + m) = (s.drop p).take n ++ (s.drop (p + n)).take m := by
  rw [List.take_add, List.drop_drop]

/-- A record that is read is written so. -/
theorem tlW_at (s : List UInt8) (p : Nat) (h0 : ¬ s.length < p + 2) (h : ¬ s.length < p + 2 + hdN s p % 512) : tlW (tlAt s p) = (s.drop p).take (2 + hdN s p % 512) := by
  have h2 := tlAt_size s p h
  have e : hdT (tlAt s p) = hdN s p := by
    unfold hdT
    rw [h2]
    show 512 * (((hdN s p / 512 : Nat) : Int)).toNat + _ = _
    omega
  have hl : ((s.drop p).take 2).length = 2 := by rw [List.length_take, List.length_drop]; omega
  unfold tlW
  rw [e, take_take_drop]
  congr 1
  have q := putL_beNT ((s.drop p).take 2)
  rw [hl] at q
  exact q

theorem lead_zero (l : List UInt8) (h : lead l = l.length) : ∀ b ∈ l, b = 0 := by
  intro b hb
  obtain ⟨j, hj⟩ := List.getElem?_of_mem hb
  have hl := (List.getElem?_eq_some_iff.1 hj).1
  exact (lead_spec l).1 j b (by omega) hj

/-- What is read may be, is written so, and begins where it is told. -/
theorem rd_was (s : List UInt8) : ∀ (f p : Nat) (l : List Tl) (a : List Nat) (m : List Tl) (b : List Nat) (e : Nat), rdTl s f p l a = .ok m b e →
    ∃ n, m = l ++ n ∧ b = a ++ offs p n ∧ (∀ x ∈ n, okTl x = true) ∧ tlWs n = (s.drop p).take (e - p) ∧ p ≤ e ∧ e + 2 ≤ s.length ∧ hdN s e = 0 ∧ (∀ c ∈ s.drop (e + 2), c = 0)
  | 0, p, l, a, m, b, e, h => by cases h
  | f + 1, p, l, a, m, b, e, h => by
    by_cases h0 : s.length < p + 2
    · rw [rd_miss h0] at h; cases h
    by_cases h1 : hdN s p < 512
    · by_cases h2 : hdN s p ≠ 0
      · rw [rd_form h0 h1 h2] at h; cases h
      · have h2 : hdN s p = 0 := by omega
        by_cases h3 : p + 2 + lead (s.drop (p + 2)) = s.length
        · rw [rd_end h0 h2 h3] at h
          cases h
          exact ⟨[], by simp, by simp [offs], by simp, by simp [tlWs], by omega, by omega, h2, lead_zero _ (by rw [List.length_drop]; omega)⟩
        · rw [rd_spoilt h0 h2 h3] at h; cases h
    · by_cases h2 : s.length < p + 2 + hdN s p % 512
      · rw [rd_cut h0 h1 h2] at h; cases h
      · rw [rd_step h0 h1 h2] at h
        obtain ⟨n, rfl, rfl, q3, q4, q5, q6, q7, q8⟩ := rd_was s f _ _ _ _ _ _ h
        have hz := tlAt_size s p h2
        refine ⟨tlAt s p :: n, by simp, by simp [offs, hz], ?_, ?_, by omega, q6, q7, q8⟩
        · intro x hx
          rcases List.mem_cons.1 hx with rfl | hx
          · exact tlAt_ok s p h1 h2
          · exact q3 x hx
        · have e1 : e - p = (2 + hdN s p % 512) + (e - (p + 2 + hdN s p % 512)) := by omega
          rw [tlWs_cons, q4, tlW_at s p h0 h2, e1, take_take_drop s p (2 + hdN s p % 512) (e - (p + 2 + hdN s p % 512)), ← Nat.add_assoc p 2]

/-- What is written is read. -/
theorem rd_wrote (s : List UInt8) : ∀ (n : List Tl) (f p : Nat) (l : List Tl) (a : List Nat), (∀ x ∈ n, okTl x = true) → s.drop p = tlWs n ++ [0, 0] → n.length < f → p ≤ s.length →
    rdTl s f p l a = .ok (l ++ n) (a ++ offs p n) (p + (tlWs n).length)
  | [], f + 1, p, l, a, _, hs, _, hp => by
    have hl : s.length = p + 2 := by have := congrArg List.length hs; simp [tlWs] at this; omega
    have h2 : hdN s p = 0 := by unfold hdN; rw [hs]; rfl
    have h3 : s.drop (p + 2) = [] := List.drop_eq_nil_of_le (by omega)
    rw [rd_end (by omega) h2 (by rw [h3, hl]; rfl)]
    simp [tlWs, offs]
  | x :: n, f + 1, p, l, a, hok, hs, hf, hp => by
    have hx := hok x (by simp)
    have ho := okTl_all hx
    have hlt := hdT_lt hx
    rw [tlWs_cons, List.append_assoc] at hs
    have hlen := congrArg List.length hs
    simp only [List.length_drop, List.length_append, tlW_len] at hlen
    have hh : hdN s p = hdT x := by
      unfold hdN
      rw [hs]
      unfold tlW
      rw [List.append_assoc, List.take_append_of_le_length (by rw [putL_length]; omega), List.take_of_length_le (by rw [putL_length]; omega), beN_putL_fits _ _ (by omega)]
    have e1 : hdT x % 512 = x.t.size := by unfold hdT; omega
    have e2 : hdT x / 512 = x.k.toNat := by unfold hdT; omega
    have hd : s.drop (p + 2 + x.t.size) = tlWs n ++ [0, 0] := by
      rw [Nat.add_assoc, ← List.drop_drop, hs, ← tlW_len x, List.drop_append_of_le_length (Nat.le_refl _), List.drop_length, List.nil_append]
    have ht : tlAt s p = x := by
      unfold tlAt
      rw [hh, e1, e2]
      have hd2 : s.drop (p + 2) = x.t.data.toList ++ (tlWs n ++ [0, 0]) := by
        rw [← List.drop_drop, hs]
        unfold tlW
        rw [List.append_assoc, List.drop_append_of_le_length (by rw [putL_length]; omega), List.drop_eq_nil_of_le (by rw [putL_length]; omega), List.nil_append]
      rw [hd2, List.take_append_of_le_length (by simp), List.take_of_length_le (by simp)]
      obtain ⟨k, t⟩ := x
      have : ((k.toNat : Nat) : Int) = k := by have := ho.1; simp only at this; omega
      simp only [this]
    rw [rd_step (by omega) (by rw [hh]; unfold hdT; omega) (by rw [hh, e1]; omega), hh, e1, ht, rd_wrote s n f (p + 2 + x.t.size) _ _ (fun y hy => hok y (by simp [hy])) hd (by simpa using hf) (by omega)]
    rw [tlWs_cons, List.length_append, tlW_len]
    simp only [List.append_assoc, List.cons_append, List.nil_append, offs]
    rw [show p + (2 + x.t.size + (tlWs n).length) = p + 2 + x.t.size + (tlWs n).length by omega]

end Go.Proofs.YtocgnbbnaamjjaaGreatDoor

namespace Go.Proofs.YtocgnbbnaamjjaaGreatDoor
open Go.RowKit
attribute [local go_sem ↓] Go.wp_at_zero Go.wp_at_succ
set_option linter.unusedSimpArgs false
set_option linter.unusedVariables false
set_option maxRecDepth 100000

/-- Behind a head. -/
def hdS (l : List UInt8) (st : RSt) : RSt := if nmV l 0 st 2 / 512 = 0 ∧ nmV l 0 st 2 % 512 ≠ 0 then flR (nmS l 0 st 2) 3 st.1 else nmS l 0 st 2

theorem readHead_t {g : Nat} {s : ByteArray} (st : RSt) (w : World) (h : RdT w g s 0 st) (hp : st.1 ≤ s.size) (hb : s.size ≤ 281474976710656) :
    Calls Tryz.prog 36 #[.pointer (some ⟨g, 0, none⟩)] w fun e w' => e = .returned (.tuple #[.int .i64 (nmV s.data.toList 0 st 2 / 512 : Nat), .int .i64 (nmV s.data.toList 0 st 2 % 512 : Nat)]) ∧ RdT w' g s 0 (hdS s.data.toList st) ∧ w.grownBy w' (some g) := by
  have HA := Lib.hid (atT st w h)
  have HN := Lib.hid (numK_t st 2 (by decide) w h hp (by omega))
  have HF : Hid (∀ (W : World), RdT W g s 0 (nmS s.data.toList 0 st 2) → Calls Tryz.prog 49 #[.pointer (some ⟨g, 0, none⟩), .int .i64 3, .int .i64 (st.1 : Nat)] W fun e w' => e = .returned (.tuple #[]) ∧ RdT w' g s 0 (flR (nmS s.data.toList 0 st 2) 3 st.1) ∧ W.grownBy w' (some g)) := fun W h => fail_t _ 3 st.1 (by decide) W h
  have hlt : nmV s.data.toList 0 st 2 < 65536 := nmV_lt _ _ _ 2
  have e0 : ((0 : Nat) : Int) + (st.1 : Int) = ((st.1 : Nat) : Int) := by omega
  unfold hdS
  generalize nmS s.data.toList 0 st 2 = st1 at *
  generalize nmV s.data.toList 0 st 2 = n at *
  rw [e0] at HA
  generalize st.1 = p at *
  clear hp h e0
  obtain ⟨K, hK⟩ : ∃ K, n / 512 = K := ⟨_, rfl⟩
  obtain ⟨Z, hZ⟩ : ∃ Z, n % 512 = Z := ⟨_, rfl⟩
  have k1 : (n : Int) / 512 = (K : Int) := by omega
  have k2 : (n : Int).tdiv 512 = (K : Int) := by rw [Int.tdiv_eq_ediv_of_nonneg (by omega)]; omega
  have k3 : (n : Int).tmod 512 = (Z : Int) := by rw [Int.tmod_eq_emod_of_nonneg (by omega)]; omega
  have k4 : (n : Int) % 512 = (Z : Int) := by omega
  have k5 : (0 : Int) ≤ (K : Int) := by omega
  have k6 : (K : Int) < 128 := by omega
  rw [hK, hZ]
  clear hK hZ
  by_cases hk0 : K = 0
  · by_cases hz0 : Z = 0
    · rw [if_neg (fun q => q.2 hz0)]
      have d1 : ((K : Int) == 0) = true := by simp [hk0]
      have d2 : ((Z : Int) == 0) = true := by simp [hz0]
      have d3 : ((Z : Int) != 0) = false := by simp [hz0]
      clear HF hk0 hz0
      go_enter Tryz.func36, Tryz.ntmps36
      go_wp2_with fail
      refine HA.out.mono ?_
      rintro e w1 ⟨rfl, rfl⟩
      go_wp2_with fail
      refine HN.out.mono ?_
      rintro e w2 ⟨rfl, HR2, g2⟩
      go_wp2
      go_ret2
      exact ⟨rfl, HR2, g2⟩
    · rw [if_pos ⟨hk0, hz0⟩]
      have d1 : ((K : Int) == 0) = true := by simp [hk0]
      have d2 : ((Z : Int) == 0) = false := by simp [hz0]
      have d3 : ((Z : Int) != 0) = true := by simp [hz0]
      clear hk0 hz0
      go_enter Tryz.func36, Tryz.ntmps36
      go_wp2_with fail
      refine HA.out.mono ?_
      rintro e w1 ⟨rfl, rfl⟩
      go_wp2_with fail
      refine HN.out.mono ?_
      rintro e w2 ⟨rfl, HR2, g2⟩
      go_wp2_with fail
      refine (HF.out _ HR2).mono ?_
      rintro e w3 ⟨rfl, HR3, g3⟩
      go_wp2
      go_ret2
      exact ⟨rfl, HR3, grownBy_trans g2 g3⟩
  · rw [if_neg (fun q => hk0 q.1)]
    have d1 : ((K : Int) == 0) = false := by simp [hk0]
    clear HF hk0
    go_enter Tryz.func36, Tryz.ntmps36
    go_wp2_with fail
    refine HA.out.mono ?_
    rintro e w1 ⟨rfl, rfl⟩
    go_wp2_with fail
    refine HN.out.mono ?_
    rintro e w2 ⟨rfl, HR2, g2⟩
    go_wp2
    go_ret2
    exact ⟨rfl, HR2, g2⟩


end Go.Proofs.YtocgnbbnaamjjaaGreatDoor

namespace Go.Proofs.YtocgnbbnaamjjaaGreatDoor
set_option linter.unusedVariables false

def TlR.recs : TlR → List Tl
  | .bad _ _ => []
  | .ok l _ _ => l

def TlR.offs : TlR → List Nat
  | .bad _ _ => []
  | .ok _ a _ => a

def TlR.fin : TlR → Nat
  | .bad _ _ => 0
  | .ok _ _ e => e

def TlR.er : TlR → Int
  | .bad e _ => e
  | .ok _ _ _ => 0

def TlR.pl : TlR → Int
  | .bad _ p => p
  | .ok _ _ _ => -1

/-- What holds ahead of each round. -/
def RdInv (S : List UInt8) (R : TlR) (st : RSt) (l : List Tl) (a : List Nat) : Prop := st.1 ≤ S.length ∧ ((st.2 = (0, -1) ∧ (∃ f, rdTl S f st.1 l a = R ∧ S.length + 1 - st.1 ≤ f) ∧ 2 * l.length ≤ st.1) ∨ (∃ x : Nat, st.2.1 ≠ 0 ∧ st.2.2 = (x : Int) ∧ R = .bad st.2.1 x))

/-- The record that is read next. -/
def nxT (S : List UInt8) (st : RSt) : Tl := ⟨(nmV S 0 st 2 / 512 : Nat), ⟨(tkN S 0 (hdS S st) (nmV S 0 st 2 % 512 : Nat) false).1.toArray⟩⟩

def nxS (S : List UInt8) (st : RSt) : RSt := (tkN S 0 (hdS S st) (nmV S 0 st 2 % 512 : Nat) false).2

theorem hdS_le (S : List UInt8) (st : RSt) (h : st.1 ≤ S.length) : (hdS S st).1 ≤ S.length := by
  unfold hdS
  split
  · exact flR_le S _ _ _ (nmS_le S 0 st 2 h)
  · exact nmS_le S 0 st 2 h

theorem rd_round (S : List UInt8) (R : TlR) (st : RSt) (l : List Tl) (a : List Nat) (h : RdInv S R st l a) :
    (nmV S 0 st 2 / 512 = 0 ∧ (zrR S 0 (hdS S st)).1 = false ∧ (zrR S 0 (hdS S st)).2.2.1 ≠ 0 ∧ R.recs = [] ∧ R.offs = [] ∧ R.fin = 0 ∧ R.er = (zrR S 0 (hdS S st)).2.2.1 ∧ R.pl = (zrR S 0 (hdS S st)).2.2.2) ∨
    (nmV S 0 st 2 / 512 = 0 ∧ (zrR S 0 (hdS S st)).1 = true ∧ R = .ok l a st.1) ∨
    (nmV S 0 st 2 / 512 ≠ 0 ∧ 2 * l.length ≤ S.length ∧ st.2.1 = 0 ∧ RdInv S R (nxS S st) (l ++ [nxT S st]) (a ++ [st.1]) ∧ ((nxS S st).2.1 ≠ 0 ∨ st.1 < (nxS S st).1)) := by
  obtain ⟨p, e, x⟩ := st
  obtain ⟨hp, h⟩ := h
  have hp : p ≤ S.length := hp
  rcases h with ⟨hst, ⟨f, hR, hf⟩, hl⟩ | ⟨x', he, hx, hR⟩
  · simp only [Prod.mk.injEq] at hst
    obtain ⟨rfl, rfl⟩ := hst
    have hl : 2 * l.length ≤ p := hl
    obtain ⟨f, rfl⟩ : ∃ f', f = f' + 1 := ⟨f - 1, by have hf : S.length + 1 - p ≤ f := hf; omega⟩
    have hf : S.length + 1 - p ≤ f + 1 := hf
    have hR : rdTl S (f + 1) p l a = R := hR
    by_cases h0 : S.length < p + 2
    · left
      have e1 : nmS S 0 (p, 0, -1) 2 = (p, 7, (p : Int)) := nm_miss S (p, 0, -1) 2 (by decide) (by decide) rfl (by show ¬ p + 2 ≤ S.length; omega) hp
      have e2 : nmV S 0 (p, 0, -1) 2 = 0 := by
        unfold nmV
        rw [show (2 : Int) = ((2 : Nat) : Int) from rfl, tkN_miss S 0 (p, 0, -1) 2 true rfl (by show ¬ p + 2 ≤ S.length; omega) hp (by decide)]
        rfl
      have e3 : hdS S (p, 0, -1) = (p, 7, (p : Int)) := by unfold hdS; rw [e1, e2]; rfl
      rw [rd_miss h0] at hR
      subst hR
      rw [e2, e3, zrR_bad S 0 (p, 7, (p : Int)) (show (7 : Int) ≠ 0 by decide)]
      exact ⟨rfl, rfl, (by decide : (7 : Int) ≠ 0), rfl, rfl, rfl, rfl, rfl⟩
    · have g1 : nmS S 0 (p, 0, -1) 2 = (p + 2, 0, -1) ∧ nmV S 0 (p, 0, -1) 2 = beN ((S.drop p).take 2) := nm_go S (p, 0, -1) 2 (by decide) (by decide) rfl (by show p + 2 ≤ S.length; omega)
      obtain ⟨e1, e2⟩ := g1
      have e2 : nmV S 0 (p, 0, -1) 2 = hdN S p := e2
      have hn := hdN_lt S p
      by_cases h1 : hdN S p < 512
      · have e4 : hdN S p / 512 = 0 := by omega
        by_cases h2 : hdN S p ≠ 0
        · left
          have e3 : hdS S (p, 0, -1) = (p + 2, 3, (p : Int)) := by
            unfold hdS
            rw [e1, e2, if_pos ⟨e4, by omega⟩]
            rfl
          rw [rd_form h0 h1 h2] at hR
          subst hR
          rw [e2, e3, zrR_bad S 0 (p + 2, 3, (p : Int)) (show (3 : Int) ≠ 0 by decide)]
          exact ⟨e4, rfl, (by decide : (3 : Int) ≠ 0), rfl, rfl, rfl, rfl, rfl⟩
        · have h2 : hdN S p = 0 := by omega
          have e3 : hdS S (p, 0, -1) = (p + 2, 0, -1) := by
            unfold hdS
            rw [e1, e2, if_neg (fun q => q.2 (by omega))]
          by_cases h3 : p + 2 + lead (S.drop (p + 2)) = S.length
          · right; left
            rw [rd_end h0 h2 h3] at hR
            rw [e2, e3]
            have q : zrR S 0 (p + 2, 0, -1) = (true, S.length, (0, -1)) := by
              unfold zrR
              rw [if_neg (show ¬ (0 : Int) ≠ 0 by decide), if_pos h3]
            rw [q]
            exact ⟨e4, rfl, hR.symm⟩
          · left
            rw [rd_spoilt h0 h2 h3] at hR
            subst hR
            have q : zrR S 0 (p + 2, 0, -1) = (false, p + 2 + lead (S.drop (p + 2)), 15, ((0 : Nat) : Int) + (p + 2 + lead (S.drop (p + 2)) : Nat)) := by
              unfold zrR
              rw [if_neg (show ¬ (0 : Int) ≠ 0 by decide), if_neg h3]
            rw [e2, e3, q]
            refine ⟨e4, rfl, (by decide : (15 : Int) ≠ 0), rfl, rfl, rfl, rfl, ?_⟩
            show ((p + 2 + lead (S.drop (p + 2)) : Nat) : Int) = ((0 : Nat) : Int) + (p + 2 + lead (S.drop (p + 2)) : Nat)
            omega
      · right; right
        have e4 : hdN S p / 512 ≠ 0 := by omega
        have e3 : hdS S (p, 0, -1) = (p + 2, 0, -1) := by
          unfold hdS
          rw [e1, e2, if_neg (fun q => e4 q.1)]
        refine ⟨by rw [e2]; exact e4, by omega, rfl, ?_⟩
        by_cases h2 : S.length < p + 2 + hdN S p % 512
        · have q := tkN_miss S 0 (p + 2, 0, -1) (hdN S p % 512) false rfl (by show ¬ p + 2 + hdN S p % 512 ≤ S.length; omega) (by show p + 2 ≤ S.length; omega) (fun q => by cases q)
          rw [rd_cut h0 h1 h2] at hR
          have e5 : nxS S (p, 0, -1) = (p + 2, 7, ((0 : Nat) : Int) + (p + 2 : Nat)) := by
            unfold nxS
            rw [e2, e3, q]
          rw [e5]
          refine ⟨⟨by show p + 2 ≤ S.length; omega, Or.inr ⟨p + 2, (by decide : (7 : Int) ≠ 0), ?_, hR.symm⟩⟩, Or.inl (by decide : (7 : Int) ≠ 0)⟩
          show ((0 : Nat) : Int) + (p + 2 : Nat) = ((p + 2 : Nat) : Int)
          omega
        · have q := tkN_go S 0 (p + 2, 0, -1) (hdN S p % 512) false rfl (by show p + 2 + hdN S p % 512 ≤ S.length; omega) (fun q => by cases q)
          rw [rd_step h0 h1 h2] at hR
          have e5 : nxS S (p, 0, -1) = (p + 2 + hdN S p % 512, 0, -1) := by
            unfold nxS
            rw [e2, e3, q]
          have e6 : nxT S (p, 0, -1) = tlAt S p := by
            unfold nxT tlAt
            rw [e2, e3, q]
          rw [e5, e6]
          refine ⟨⟨by show p + 2 + hdN S p % 512 ≤ S.length; omega, Or.inl ⟨rfl, ⟨f, hR, by show S.length + 1 - (p + 2 + hdN S p % 512) ≤ f; omega⟩, ?_⟩⟩, Or.inr (by show p < p + 2 + hdN S p % 512; omega)⟩
          show 2 * (l ++ [tlAt S p]).length ≤ p + 2 + hdN S p % 512
          simp
          omega
  · left
    have he : e ≠ 0 := he
    have e1 : nmS S 0 (p, e, x) 2 = (p, e, x) := nm_bad S (p, e, x) 2 he
    have e2 : nmV S 0 (p, e, x) 2 = 0 := by
      unfold nmV
      rw [tkN_bad S 0 (p, e, x) 2 true he]
      rfl
    have e3 : hdS S (p, e, x) = (p, e, x) := by unfold hdS; rw [e1, e2]; rfl
    have hx : x = (x' : Int) := hx
    have hR : R = .bad e x' := hR
    subst hR
    rw [e2, e3, zrR_bad S 0 (p, e, x) he]
    exact ⟨rfl, rfl, he, rfl, rfl, rfl, rfl, hx.symm⟩

theorem inv_start (S : List UInt8) : RdInv S (rdAll S) (0, 0, -1) [] [] := ⟨Nat.zero_le _, Or.inl ⟨rfl, ⟨S.length + 1, rfl, by show S.length + 1 - 0 ≤ _; omega⟩, by simp⟩⟩

end Go.Proofs.YtocgnbbnaamjjaaGreatDoor

namespace Go.Proofs.YtocgnbbnaamjjaaGreatDoor
set_option linter.unusedVariables false

theorem offs_get : ∀ (l : List Tl) (p k : Nat) (hk : k < l.length), (offs p l)[k]'(by rw [offs_len]; exact hk) = p + (tlWs (l.take k)).length
  | x :: l, p, 0, _ => by simp [offs, tlWs]
  | x :: l, p, k + 1, hk => by
    have hk' : k < l.length := by simpa using hk
    have ih := offs_get l (p + 2 + x.t.size) k hk'
    have e : (offs p (x :: l))[k + 1]'(by rw [offs_len]; exact hk) = (offs (p + 2 + x.t.size) l)[k]'(by rw [offs_len]; exact hk') := rfl
    rw [e, ih, List.take_succ_cons, tlWs_cons, List.length_append, tlW_len]
    omega

/-- Where each ends, the next begins, or the end. -/
theorem offs_next (l : List Tl) (k : Nat) (hk : k < l.length) : (offs 0 l)[k]'(by rw [offs_len]; exact hk) + 2 + l[k].t.size = 0 + (tlWs (l.take (k + 1))).length := by
  rw [offs_get l 0 k hk, tlWs_take l k hk, List.length_append, tlW_len]
  omega

theorem rdAll_wrote (l : List Tl) (h : ∀ x ∈ l, okTl x = true) : rdAll (tlWrite l) = .ok l (offs 0 l) (tlWs l).length := by
  have hl : ∀ (l : List Tl), l.length ≤ (tlWs l).length := fun l => by
    induction l with
    | nil => simp [tlWs]
    | cons x l ih => rw [tlWs_cons, List.length_append, tlW_len, List.length_cons]; omega
  have h2 := hl l
  have q := rd_wrote (tlWrite l) l ((tlWrite l).length + 1) 0 [] [] h rfl (by unfold tlWrite; rw [List.length_append]; simp; omega) (Nat.zero_le _)
  rw [List.nil_append, List.nil_append, Nat.zero_add] at q
  exact q

theorem wrote_rdAll (s : List UInt8) (m : List Tl) (b : List Nat) (e : Nat) (h : rdAll s = .ok m b e) : (∀ x ∈ m, okTl x = true) ∧ tlWrite m = s.take (e + 2) ∧ (tlWrite m).length = e + 2 ∧ 2 * m.length ≤ s.length ∧ b = offs 0 m ∧ e + 2 ≤ s.length ∧ (∀ c ∈ s.drop (e + 2), c = 0) := by
  obtain ⟨n, q1, q2, q3, q4, q5, q6, q7, q8⟩ := rd_was s _ _ _ _ _ _ _ h
  rw [List.nil_append] at q1 q2
  subst q1
  rw [List.drop_zero, Nat.sub_zero] at q4
  have hl : ∀ (l : List Tl), 2 * l.length ≤ (tlWs l).length := fun l => by
    induction l with
    | nil => simp [tlWs]
    | cons x l ih => rw [tlWs_cons, List.length_append, tlW_len, List.length_cons]; omega
  have h1 := hl m
  have h2 := congrArg List.length q4
  rw [List.length_take] at h2
  have h3 : (s.drop e).take 2 = [0, 0] := by
    have l2 : ((s.drop e).take 2).length = 2 := by rw [List.length_take, List.length_drop]; omega
    have q := putL_beNT ((s.drop e).take 2)
    rw [l2] at q
    have q7' : beN ((s.drop e).take 2) = 0 := q7
    rw [q7'] at q
    exact q.symm
  have h4 : tlWrite m = s.take (e + 2) := by
    unfold tlWrite
    rw [q4, List.take_add, h3]
  refine ⟨q3, h4, by rw [h4, List.length_take]; omega, by omega, q2, q6, q8⟩

theorem rd_bad_ne (s : List UInt8) : ∀ (f p : Nat) (l : List Tl) (a : List Nat) (e : Int) (x : Nat), rdTl s f p l a = .bad e x → e ≠ 0
  | 0, p, l, a, e, x, h => by cases h; decide
  | f + 1, p, l, a, e, x, h => by
    by_cases h0 : s.length < p + 2
    · rw [rd_miss h0] at h; cases h; decide
    by_cases h1 : hdN s p < 512
    · by_cases h2 : hdN s p ≠ 0
      · rw [rd_form h0 h1 h2] at h; cases h; decide
      · have h2 : hdN s p = 0 := by omega
        by_cases h3 : p + 2 + lead (s.drop (p + 2)) = s.length
        · rw [rd_end h0 h2 h3] at h; cases h
        · rw [rd_spoilt h0 h2 h3] at h; cases h; decide
    · by_cases h2 : s.length < p + 2 + hdN s p % 512
      · rw [rd_cut h0 h1 h2] at h; cases h; decide
      · rw [rd_step h0 h1 h2] at h
        exact rd_bad_ne s f _ _ _ e x h

theorem bad_recs {s : List UInt8} {e : Int} {p : Nat} (h : rdAll s = .bad e p) : (rdAll s).recs = [] := by rw [h]; rfl

end Go.Proofs.YtocgnbbnaamjjaaGreatDoor

