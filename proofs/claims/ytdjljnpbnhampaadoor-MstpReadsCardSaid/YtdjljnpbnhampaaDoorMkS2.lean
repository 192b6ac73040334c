/- The card of switchyardlaw.MstpReads: for every argument it returns true, and the arguments read as they did; what its row lists of package-level variables is tied to the program's text. -/
import Derived.Test.YtdjljnpbnhampaaDoorMkS1
import Derived.Test.YtdjljnpbnhampaaDoorBpOf
import Derived.Deep.CutBlock
import Derived.Test.YtdjljnpbnhampaaDoorFlt
import Derived.LaidEql
import Derived.Stop.Asserts
import Derived.RowKitTokens
import Derived.Lib.Hide
import Derived.Test.YtdjljnpbnhampaaDoorSameV
import Derived.Below
import Derived.ChangeSame
import Derived.Test.YtdjljnpbnhampaaDoorRows
import Derived.Test.YtdjljnpbnhampaaDoorCards
import Derived.Test.YtdjljnpbnhampaaDoorTie
import Derived.ProofKit
import Derived.OpenShut
import Derived.LaidHandle
import Derived.LaidMore
import Derived.LaidSub
import Derived.Deep.DeepHandedRow
import Derived.Lib.LaidTab
namespace Go.Proofs.YtdjljnpbnhampaaDoor
open Go.RowKit
attribute [local go_sem ↓] Go.wp_at_zero Go.wp_at_succ
set_option linter.unusedSimpArgs false
set_option linter.unusedVariables false
set_option maxRecDepth 100000

theorem numAt_lt2 (s : ByteArray) (p : Nat) : numAt s p 2 < 65536 := by
  unfold numAt
  have h := beN_lt ((s.data.toList.drop p).take 2)
  have h2 : ((s.data.toList.drop p).take 2).length ≤ 2 := by rw [List.length_take]; omega
  have h3 : 256 ^ ((s.data.toList.drop p).take 2).length ≤ 256 ^ 2 := Nat.pow_le_pow_right (by decide) h2
  omega

theorem mE_0 (s : ByteArray)  (h : s.size < 4) : allE s = some (7, 0) := by
  have q : mE s = some (7, 0) := by unfold mE; rw [if_pos h]
  unfold allE; rw [if_pos (by rw [q]; rfl), q]

theorem mE_1 (s : ByteArray) (h0 : ¬ s.size < 4) (h : ¬ hdAt s = [0, 0, 3, 2]) : allE s = some (3, 0) := by
  have q : mE s = some (3, 0) := by unfold mE; rw [if_neg h0, if_pos h]
  unfold allE; rw [if_pos (by rw [q]; rfl), q]

theorem mE_2 (s : ByteArray) (h0 : ¬ s.size < 4) (h1 : hdAt s = [0, 0, 3, 2]) (e : Int) (x : Nat) (h : bdE s.size 4 (pzAt s 25) = some (e, x)) : allE s = some (e, x) := by
  have q : mE s = some (e, x) := by unfold mE; rw [if_neg h0, if_neg (fun q => q h1), if_pos (by rw [h]; rfl), h]
  unfold allE; rw [if_pos (by rw [q]; rfl), q]

theorem mE_3 (s : ByteArray) (h0 : ¬ s.size < 4) (h1 : hdAt s = [0, 0, 3, 2]) (h2 : bdE s.size 4 (pzAt s 25) = none) (h : s.size < 36) : allE s = some (7, 35) := by
  have q : mE s = some (7, 35) := by unfold mE; rw [if_neg h0, if_neg (fun q => q h1), if_neg (by rw [h2]; decide), if_pos h]
  unfold allE; rw [if_pos (by rw [q]; rfl), q]

theorem mE_4 (s : ByteArray) (h0 : ¬ s.size < 4) (h1 : hdAt s = [0, 0, 3, 2]) (h2 : bdE s.size 4 (pzAt s 25) = none) (h3 : ¬ s.size < 36) (h : ¬ bsAt s 35 1 = [0]) : allE s = some (3, 35) := by
  have q : mE s = some (3, 35) := by unfold mE; rw [if_neg h0, if_neg (fun q => q h1), if_neg (by rw [h2]; decide), if_neg h3, if_pos h]
  unfold allE; rw [if_pos (by rw [q]; rfl), q]

theorem mE_5 (s : ByteArray) (h0 : ¬ s.size < 4) (h1 : hdAt s = [0, 0, 3, 2]) (h2 : bdE s.size 4 (pzAt s 25) = none) (h3 : ¬ s.size < 36) (h4 : bsAt s 35 1 = [0]) (h : s.size < 38) : allE s = some (7, 36) := by
  have q : mE s = some (7, 36) := by unfold mE; rw [if_neg h0, if_neg (fun q => q h1), if_neg (by rw [h2]; decide), if_neg h3, if_neg (fun q => q h4), if_pos h]
  unfold allE; rw [if_pos (by rw [q]; rfl), q]

theorem mE_6 (s : ByteArray) (h0 : ¬ s.size < 4) (h1 : hdAt s = [0, 0, 3, 2]) (h2 : bdE s.size 4 (pzAt s 25) = none) (h3 : ¬ s.size < 36) (h4 : bsAt s 35 1 = [0]) (h5 : ¬ s.size < 38) (h : ¬ okLen (numAt s 36 2) = true) : allE s = some (2, 36) := by
  have q : mE s = some (2, 36) := by unfold mE; rw [if_neg h0, if_neg (fun q => q h1), if_neg (by rw [h2]; decide), if_neg h3, if_neg (fun q => q h4), if_neg h5, if_pos h]
  unfold allE; rw [if_pos (by rw [q]; rfl), q]

theorem mE_7 (s : ByteArray) (h0 : ¬ s.size < 4) (h1 : hdAt s = [0, 0, 3, 2]) (h2 : bdE s.size 4 (pzAt s 25) = none) (h3 : ¬ s.size < 36) (h4 : bsAt s 35 1 = [0]) (h5 : ¬ s.size < 38) (h6 : okLen (numAt s 36 2) = true) (h : s.size < 39) : allE s = some (7, 38) := by
  have q : mE s = some (7, 38) := by unfold mE; rw [if_neg h0, if_neg (fun q => q h1), if_neg (by rw [h2]; decide), if_neg h3, if_neg (fun q => q h4), if_neg h5, if_neg (fun q => q h6), if_pos h]
  unfold allE; rw [if_pos (by rw [q]; rfl), q]

theorem mE_8 (s : ByteArray) (h0 : ¬ s.size < 4) (h1 : hdAt s = [0, 0, 3, 2]) (h2 : bdE s.size 4 (pzAt s 25) = none) (h3 : ¬ s.size < 36) (h4 : bsAt s 35 1 = [0]) (h5 : ¬ s.size < 38) (h6 : okLen (numAt s 36 2) = true) (h7 : ¬ s.size < 39) (h : ¬ bsAt s 38 1 = [0]) : allE s = some (3, 38) := by
  have q : mE s = some (3, 38) := by unfold mE; rw [if_neg h0, if_neg (fun q => q h1), if_neg (by rw [h2]; decide), if_neg h3, if_neg (fun q => q h4), if_neg h5, if_neg (fun q => q h6), if_neg h7, if_pos h]
  unfold allE; rw [if_pos (by rw [q]; rfl), q]

theorem mE_9 (s : ByteArray) (h0 : ¬ s.size < 4) (h1 : hdAt s = [0, 0, 3, 2]) (h2 : bdE s.size 4 (pzAt s 25) = none) (h3 : ¬ s.size < 36) (h4 : bsAt s 35 1 = [0]) (h5 : ¬ s.size < 38) (h6 : okLen (numAt s 36 2) = true) (h7 : ¬ s.size < 39) (h8 : bsAt s 38 1 = [0]) (h : s.size < 71) : allE s = some (7, 39) := by
  have q : mE s = some (7, 39) := by unfold mE; rw [if_neg h0, if_neg (fun q => q h1), if_neg (by rw [h2]; decide), if_neg h3, if_neg (fun q => q h4), if_neg h5, if_neg (fun q => q h6), if_neg h7, if_neg (fun q => q h8), if_pos h]
  unfold allE; rw [if_pos (by rw [q]; rfl), q]

theorem mE_10 (s : ByteArray) (h0 : ¬ s.size < 4) (h1 : hdAt s = [0, 0, 3, 2]) (h2 : bdE s.size 4 (pzAt s 25) = none) (h3 : ¬ s.size < 36) (h4 : bsAt s 35 1 = [0]) (h5 : ¬ s.size < 38) (h6 : okLen (numAt s 36 2) = true) (h7 : ¬ s.size < 39) (h8 : bsAt s 38 1 = [0]) (h9 : ¬ s.size < 71) (h : s.size < 73) : allE s = some (7, 71) := by
  have q : mE s = some (7, 71) := by unfold mE; rw [if_neg h0, if_neg (fun q => q h1), if_neg (by rw [h2]; decide), if_neg h3, if_neg (fun q => q h4), if_neg h5, if_neg (fun q => q h6), if_neg h7, if_neg (fun q => q h8), if_neg h9, if_pos h]
  unfold allE; rw [if_pos (by rw [q]; rfl), q]

theorem mE_11 (s : ByteArray) (h0 : ¬ s.size < 4) (h1 : hdAt s = [0, 0, 3, 2]) (h2 : bdE s.size 4 (pzAt s 25) = none) (h3 : ¬ s.size < 36) (h4 : bsAt s 35 1 = [0]) (h5 : ¬ s.size < 38) (h6 : okLen (numAt s 36 2) = true) (h7 : ¬ s.size < 39) (h8 : bsAt s 38 1 = [0]) (h9 : ¬ s.size < 71) (h10 : ¬ s.size < 73) (h : s.size < 89) : allE s = some (7, 73) := by
  have q : mE s = some (7, 73) := by unfold mE; rw [if_neg h0, if_neg (fun q => q h1), if_neg (by rw [h2]; decide), if_neg h3, if_neg (fun q => q h4), if_neg h5, if_neg (fun q => q h6), if_neg h7, if_neg (fun q => q h8), if_neg h9, if_neg h10, if_pos h]
  unfold allE; rw [if_pos (by rw [q]; rfl), q]

theorem mE_12 (s : ByteArray) (h0 : ¬ s.size < 4) (h1 : hdAt s = [0, 0, 3, 2]) (h2 : bdE s.size 4 (pzAt s 25) = none) (h3 : ¬ s.size < 36) (h4 : bsAt s 35 1 = [0]) (h5 : ¬ s.size < 38) (h6 : okLen (numAt s 36 2) = true) (h7 : ¬ s.size < 39) (h8 : bsAt s 38 1 = [0]) (h9 : ¬ s.size < 71) (h10 : ¬ s.size < 73) (h11 : ¬ s.size < 89) (h : s.size < 93) : allE s = some (7, 89) := by
  have q : mE s = some (7, 89) := by unfold mE; rw [if_neg h0, if_neg (fun q => q h1), if_neg (by rw [h2]; decide), if_neg h3, if_neg (fun q => q h4), if_neg h5, if_neg (fun q => q h6), if_neg h7, if_neg (fun q => q h8), if_neg h9, if_neg h10, if_neg h11, if_pos h]
  unfold allE; rw [if_pos (by rw [q]; rfl), q]

theorem mE_13 (s : ByteArray) (h0 : ¬ s.size < 4) (h1 : hdAt s = [0, 0, 3, 2]) (h2 : bdE s.size 4 (pzAt s 25) = none) (h3 : ¬ s.size < 36) (h4 : bsAt s 35 1 = [0]) (h5 : ¬ s.size < 38) (h6 : okLen (numAt s 36 2) = true) (h7 : ¬ s.size < 39) (h8 : bsAt s 38 1 = [0]) (h9 : ¬ s.size < 71) (h10 : ¬ s.size < 73) (h11 : ¬ s.size < 89) (h12 : ¬ s.size < 93) (h : s.size < 95) : allE s = some (7, 93) := by
  have q : mE s = some (7, 93) := by unfold mE; rw [if_neg h0, if_neg (fun q => q h1), if_neg (by rw [h2]; decide), if_neg h3, if_neg (fun q => q h4), if_neg h5, if_neg (fun q => q h6), if_neg h7, if_neg (fun q => q h8), if_neg h9, if_neg h10, if_neg h11, if_neg h12, if_pos h]
  unfold allE; rw [if_pos (by rw [q]; rfl), q]

theorem mE_14 (s : ByteArray) (h0 : ¬ s.size < 4) (h1 : hdAt s = [0, 0, 3, 2]) (h2 : bdE s.size 4 (pzAt s 25) = none) (h3 : ¬ s.size < 36) (h4 : bsAt s 35 1 = [0]) (h5 : ¬ s.size < 38) (h6 : okLen (numAt s 36 2) = true) (h7 : ¬ s.size < 39) (h8 : bsAt s 38 1 = [0]) (h9 : ¬ s.size < 71) (h10 : ¬ s.size < 73) (h11 : ¬ s.size < 89) (h12 : ¬ s.size < 93) (h13 : ¬ s.size < 95) (h : s.size < 101) : allE s = some (7, 95) := by
  have q : mE s = some (7, 95) := by unfold mE; rw [if_neg h0, if_neg (fun q => q h1), if_neg (by rw [h2]; decide), if_neg h3, if_neg (fun q => q h4), if_neg h5, if_neg (fun q => q h6), if_neg h7, if_neg (fun q => q h8), if_neg h9, if_neg h10, if_neg h11, if_neg h12, if_neg h13, if_pos h]
  unfold allE; rw [if_pos (by rw [q]; rfl), q]

theorem mE_15 (s : ByteArray) (h0 : ¬ s.size < 4) (h1 : hdAt s = [0, 0, 3, 2]) (h2 : bdE s.size 4 (pzAt s 25) = none) (h3 : ¬ s.size < 36) (h4 : bsAt s 35 1 = [0]) (h5 : ¬ s.size < 38) (h6 : okLen (numAt s 36 2) = true) (h7 : ¬ s.size < 39) (h8 : bsAt s 38 1 = [0]) (h9 : ¬ s.size < 71) (h10 : ¬ s.size < 73) (h11 : ¬ s.size < 89) (h12 : ¬ s.size < 93) (h13 : ¬ s.size < 95) (h14 : ¬ s.size < 101) (h : s.size < 102) : allE s = some (7, 101) := by
  have q : mE s = some (7, 101) := by unfold mE; rw [if_neg h0, if_neg (fun q => q h1), if_neg (by rw [h2]; decide), if_neg h3, if_neg (fun q => q h4), if_neg h5, if_neg (fun q => q h6), if_neg h7, if_neg (fun q => q h8), if_neg h9, if_neg h10, if_neg h11, if_neg h12, if_neg h13, if_neg h14, if_pos h]
  unfold allE; rw [if_pos (by rw [q]; rfl), q]

theorem mE_no (s : ByteArray) (h0 : ¬ s.size < 4) (h1 : hdAt s = [0, 0, 3, 2]) (h2 : bdE s.size 4 (pzAt s 25) = none) (h3 : ¬ s.size < 36) (h4 : bsAt s 35 1 = [0]) (h5 : ¬ s.size < 38) (h6 : okLen (numAt s 36 2) = true) (h7 : ¬ s.size < 39) (h8 : bsAt s 38 1 = [0]) (h9 : ¬ s.size < 71) (h10 : ¬ s.size < 73) (h11 : ¬ s.size < 89) (h12 : ¬ s.size < 93) (h13 : ¬ s.size < 95) (h14 : ¬ s.size < 101) (h15 : ¬ s.size < 102) : allE s = insE s.size 102 (cntAt s) := by
  have q : mE s = none := by unfold mE; rw [if_neg h0, if_neg (fun q => q h1), if_neg (by rw [h2]; decide), if_neg h3, if_neg (fun q => q h4), if_neg h5, if_neg (fun q => q h6), if_neg h7, if_neg (fun q => q h8), if_neg h9, if_neg h10, if_neg h11, if_neg h12, if_neg h13, if_neg h14, if_neg h15]
  unfold allE; rw [if_neg (by rw [q]; decide)]

theorem ext_size (u : ByteArray) (m : Nat) (h : m ≤ u.size) : (u.extract 0 m).size = m := by
  rw [ByteArray.size_extract]; omega

theorem ext_split (u : ByteArray) (m : Nat) (hm : u.size = m + 1) : u.data.toList = (u.extract 0 m).data.toList ++ [u[m]] := by
  have e : (u.extract 0 m).data.toList = u.data.toList.take m := by rw [extract_list]; simp
  have hl : u.data.toList.length = m + 1 := by simp; exact hm
  rw [e]
  have h2 := List.take_append_drop m u.data.toList
  have h3 : u.data.toList.drop m = [u[m]] := by
    rw [List.drop_eq_getElem_cons (by omega), List.drop_eq_nil_of_le (by omega)]
    rfl
  rw [h3] at h2
  exact h2.symm

theorem trim_ext (u : ByteArray) (m : Nat) (hm : u.size = m + 1) (hb : u[m] = 0) : Lib.trimRightB u.data.toList 0 = Lib.trimRightB (u.extract 0 m).data.toList 0 := by
  rw [ext_split u m hm, hb]
  unfold Lib.trimRightB
  simp

theorem trim_keep (u : ByteArray) (m : Nat) (hm : u.size = m + 1) (hb : u[m] ≠ 0) : (⟨(Lib.trimRightB u.data.toList 0).toArray⟩ : ByteArray) = u := by
  have e : Lib.trimRightB u.data.toList 0 = u.data.toList := by
    rw [ext_split u m hm]
    unfold Lib.trimRightB
    simp [hb]
  rw [e]

theorem leaves_congr {P : Program} {fn : Func} {tmps tmps' : Array Value} {R : Ending → World → Prop} (h : results fn tmps = results fn tmps') : ∀ (ds : List Deferred) (u : FrameMode) (w : World), Leaves P fn tmps R ds u w → Leaves P fn tmps' R ds u w := by
  intro ds
  induction ds with
  | nil =>
    intro u w hl
    cases u with
    | run => exact hl
    | returning =>
      obtain ⟨v, hr, hR⟩ := hl
      exact ⟨v, h ▸ hr, hR⟩
    | panicking c => exact hl
  | cons d ds ih =>
    intro u w hl
    obtain ⟨h1, fv, cap, f, args, h2, h3, h4⟩ := hl
    refine ⟨h1, fv, cap, f, args, h2, h3, h4.mono ?_⟩
    intro e u' w' hh
    cases e with
    | returned v => exact ih _ _ hh
    | panicked c => exact ih _ _ hh
    | outgrown => exact hh

theorem leaves_put {P : Program} {fn : Func} {R : Ending → World → Prop} {a b : Nat} {t u : TypeId} (h : fn.results = #[.cell a t, .cell b u]) {A : Act} {d : Option Nat} {v : Value} {c : List PanicEntry} {w : World} (h1 : d ≠ some a) (h2 : d ≠ some b)
    (hl : Leaves P fn (A.put d v).tmps R (A.put d v).defers (.panicking c) w) : Leaves P fn A.tmps R A.defers (.panicking c) w := by
  cases d with
  | none => exact hl
  | some d =>
    have n1 : d ≠ a := fun q => h1 (by rw [q])
    have n2 : d ≠ b := fun q => h2 (by rw [q])
    refine leaves_congr ?_ _ _ _ hl
    show results fn (A.tmps.setIfInBounds d v) = _
    simp only [results, h]
    simp [Array.getElem?_setIfInBounds, n1, n2]

theorem in_0 {n p : Nat} (h : ¬ p + 1 ≤ n) : inE n p = some (7, p) := by unfold inE; rw [if_pos (by omega)]

theorem in_1 {n p : Nat} (h0 : p + 1 ≤ n) (h : ¬ p + 3 ≤ n) : inE n p = some (7, p + 1) := by unfold inE; rw [if_neg (by omega), if_pos (by omega)]

theorem in_2 {n p : Nat} (h0 : p + 3 ≤ n) (h : ¬ p + 9 ≤ n) : inE n p = some (7, p + 1 + 2) := by unfold inE; rw [if_neg (by omega), if_neg (by omega), if_pos (by omega)]

theorem in_3 {n p : Nat} (h0 : p + 9 ≤ n) (h : ¬ p + 13 ≤ n) : inE n p = some (7, p + 9) := by unfold inE; rw [if_neg (by omega), if_neg (by omega), if_neg (by omega), if_pos (by omega)]

theorem in_4 {n p : Nat} (h0 : p + 13 ≤ n) (h : ¬ p + 14 ≤ n) : inE n p = some (7, p + 13) := by unfold inE; rw [if_neg (by omega), if_neg (by omega), if_neg (by omega), if_neg (by omega), if_pos (by omega)]

theorem in_5 {n p : Nat} (h0 : p + 14 ≤ n) (h : ¬ p + 15 ≤ n) : inE n p = some (7, p + 14) := by unfold inE; rw [if_neg (by omega), if_neg (by omega), if_neg (by omega), if_neg (by omega), if_neg (by omega), if_pos (by omega)]

theorem in_6 {n p : Nat} (h0 : p + 15 ≤ n) (h : ¬ p + 16 ≤ n) : inE n p = some (7, p + 15) := by unfold inE; rw [if_neg (by omega), if_neg (by omega), if_neg (by omega), if_neg (by omega), if_neg (by omega), if_neg (by omega), if_pos (by omega)]

theorem insE_at {n p K k : Nat} {e : Int} {x : Nat} (h : insE n p k = none) (hk : k < K) (h2 : inE n (p + 16 * k) = some (e, x)) : insE n p K = some (e, x) := by
  induction K with
  | zero => omega
  | succ K ih =>
    by_cases q : k = K
    · subst q
      show (if (insE n p k).isSome = true then insE n p k else inE n (p + 16 * k)) = _
      rw [if_neg (by rw [h]; decide), h2]
    · have r := ih (by omega)
      show (if (insE n p K).isSome = true then insE n p K else inE n (p + 16 * K)) = _
      rw [if_pos (by rw [r]; rfl), r]

def nmLen (w : World) (A : Nat) : Nat := match w.cell? ⟨A, 31, none⟩ with | some (.string b) => b.size | _ => 0

set_option maxHeartbeats 25600000 in
theorem refMsRead_any (s : ByteArray) (w : World) (hs : s.size ≤ 3000) (Q : Ending → World → Prop)
    (hQb0 : ∀ (e : Int) (x : Nat) w', allE s = some (e, x) → e ≠ 0 → Below w.heap.size w w' → Q (.returned (.tuple #[.agg (msC zMs (.slice none 0 0)), .agg (ftC e x)])) w')
    (hQo0 : ∀ v w', allE s = none → OwnI w' w.heap.size v (insAt s 102 (cntAt s)) → Below w.heap.size w w' → Q (.returned (.tuple #[.agg (msC (msAt s) v), .agg (ftC 0 (-1))])) w') :
    Calls Tryd.prog 7 #[.string s] w Q := by
  have hQb := Lib.hid hQb0
  have hQo := Lib.hid hQo0
  clear hQb0 hQo0
  have hmf : ∀ (fn : Fn) (first cap : Array Value) (w : World), (Instr.makeFunc fn first cap).run Tryd.prog w = .ok (.func fn first cap) w := fun _ _ _ _ => rfl
  have HA0 := (Blk.new w 34 (msC zMs (.slice none 0 0))).alloc (.cells (ftC 0 0) 37)
  have HE0 : Blk ((w.alloc (.cells (msC zMs (.slice none 0 0)) 34)).alloc (.cells (ftC 0 0) 37)) (w.heap.size + 1) 37 (ftC 0 0) := by
    have h := Blk.new (w.alloc (.cells (msC zMs (.slice none 0 0)) 34)) 37 (ftC 0 0)
    simpa using h
  have B0 : Below w.heap.size w ((w.alloc (.cells (msC zMs (.slice none 0 0)) 34)).alloc (.cells (ftC 0 0) 37)) := ((Below.refl _ _).alloc (Nat.le_refl _) _).alloc (by simp) _
  go_enter_defers Tryd.func7, Tryd.ntmps7
  go_upto_region 1 with (first | (refine alloc_blk 34 (msC zMs (.slice none 0 0)) (by rfl) rfl Tryd.msZero ?_) | (refine alloc_blk 37 (ftC 0 0) (by rfl) rfl Tryd.ftZero ?_))
  generalize (w.alloc (.cells (msC zMs (.slice none 0 0)) 34)).alloc (.cells (ftC 0 0) 37) = w1 at *
  go_wp2_with fail
  refine (good_any _).mono ?_
  rintro e w2 ⟨rfl, b2⟩
  have HA2 := HA0.kept b2
  have HE2 := HE0.kept b2
  have B2 := B0.trans (b2.mono B0.size)
  clear HA0 HE0 B0 b2
  go_upto_region 4 with (first | (refine store_blk (k := 0) 37 (.agg (ftC 0 (-1))) (ftC 0 (-1)) (by rfl) rfl rfl rfl HE2 (by kernel_rfl) (by exact Nat.le_refl 2) rfl rfl (fun w3 HE3 b3 g3 => ?_)))
  have HA3 := HA2.grown g3 (by simp)
  have B3 : Below w.heap.size w w3 := B2.trans (b3.mono (by omega))
  clear HA2 HE2 B2 b3 g3
  have HA4 := HA3.alloc (.cells #[.string s, .int .i64 (0 : Nat), .int .i64 (0 : Nat)] 101)
  have HE4 := HE3.alloc (.cells #[.string s, .int .i64 (0 : Nat), .int .i64 (0 : Nat)] 101)
  have HC4 : Cur (w3.alloc (.cells #[.string s, .int .i64 (0 : Nat), .int .i64 (0 : Nat)] 101)) w3.heap.size s 0 0 := Blk.new w3 101 _
  have B4 := B3.alloc B3.size (.cells #[.string s, .int .i64 (0 : Nat), .int .i64 (0 : Nat)] 101)
  have hc4 : w.heap.size + 1 < w3.heap.size := HE3.lt
  clear HA3 HE3 B3
  go_upto_region 5 with (refine build_blk (t := 101) #[.string s, .int .i64 (0 : Nat), .int .i64 (0 : Nat)] (by rfl) rfl (by kernel_rfl) ?_)
  generalize w3.alloc (.cells #[.string s, .int .i64 0, .int .i64 0] 101) = w4 at *
  generalize w3.heap.size = c at *
  have hEc : w.heap.size + 1 < c := hc4
  clear hc4
  go_wp2_with fail
  by_cases h0 : s.size < 4
  · refine (want_bad (t := ⟨#[0, 0, 3, 2]⟩) HC4 (by show ¬ 0 + 4 ≤ _; omega) (by omega) (by decide) (by omega)).mono ?_
    rintro e wb ⟨rfl, bb⟩
    have HAb := HA4.kept bb
    have HEb := HE4.kept bb
    have Bb := B4.trans (bb.mono B4.size)
    go_wp2
    exact ms_door_bad (fun w' B' => hQb.out _ _ _ (mE_0 s  h0) (by decide) B') rfl rfl (by decide) HAb HEb (by omega) (Nat.le_refl _) (by omega) Bb
  by_cases h1 : ¬ hdAt s = [0, 0, 3, 2]
  · refine (want_form (t := ⟨#[0, 0, 3, 2]⟩) HC4 (by show 0 + 4 ≤ _; omega) h1 (by omega)).mono ?_
    rintro e wb ⟨rfl, gb⟩
    have HAb := HA4.grown gb (by simp; omega)
    have HEb := HE4.grown gb (by simp; omega)
    have Bb := grown_belowA B4 gb B4.size (by omega)
    go_wp2
    exact ms_door_bad (fun w' B' => hQb.out _ _ _ (mE_1 s h0 h1) (by decide) B') rfl rfl (by decide) HAb HEb (by omega) (Nat.le_refl _) (by omega) Bb
  replace h1 := Decidable.not_not.1 h1
  refine (want_ok (t := ⟨#[0, 0, 3, 2]⟩) HC4 (by show 0 + 4 ≤ _; omega) h1 (by omega)).mono ?_
  rintro e w5 ⟨rfl, HC5', g5⟩
  have HC5 : Cur w5 c s 4 0 := HC5'
  have HA5 := HA4.grown g5 (by simp; omega)
  have HE5 := HE4.grown g5 (by simp; omega)
  have B5 := grown_belowA B4 g5 B4.size (by omega)
  clear HA4 HE4 B4 HC4 HC5' g5
  go_wp2_with fail
  refine (cbody_any 3 HC5 (by omega) (by omega)).mono ?_
  rintro r w6 (⟨e1, x1, h2, rfl, g6⟩ | ⟨h2, rfl, HC6', g6⟩)
  · have HAb := HA5.grown g6 (by simp; omega)
    have HEb := HE5.grown g6 (by simp; omega)
    have Bb := grown_belowA B5 g6 B5.size (by omega)
    have hne : e1 ≠ 0 := bdE_not0 h2
    go_wp2
    exact ms_door_bad (fun w' B' => by have q := hQb.out _ _ _ (mE_2 s h0 h1 e1 x1 h2) hne B'; simpa using q) rfl rfl hne HAb HEb (by omega) (Nat.le_refl _) (by omega) Bb
  replace h2 : bdE s.size 4 (pzAt s 25) = none := h2
  have h35 := (bdE_full h2).1
  have HC6 : Cur w6 c s 35 0 := HC6'
  have HA6 := HA5.grown g6 (by simp; omega)
  have HE6 := HE5.grown g6 (by simp; omega)
  have B6 := grown_belowA B5 g6 B5.size (by omega)
  clear HA5 HE5 B5 HC5 HC6' g6
  generalize hX : bpAt s 4 3 = X at *
  go_wp2_with (refine store_blk (k := 0) 31 (.agg (bpC X)) (msC ⟨X, ⟨#[]⟩, 0, ⟨#[]⟩, 0, ⟨0, 0, z6b⟩, 0⟩ (.slice none 0 0)) (by rfl) rfl rfl rfl HA6 (by kernel_rfl) (show (0 + 31 : Nat) ≤ 45 by decide) (by rfl) rfl ?_; intro w7 HA7 b7 g7; have HE7 := HE6.grown g7 (by simp); have HC7 : Cur w7 c s 35 0 := Blk.grown HC6 g7 (by simp; omega); have B7 := grown_belowA B6 g7 B6.size (Nat.le_refl _))
  clear HA6 HE6 B6 HC6 b7 g7
  by_cases h3 : s.size < 36
  · refine (want_bad (t := ⟨#[0]⟩) HC7 (by show ¬ 35 + 1 ≤ _; omega) (by omega) (by decide) (by omega)).mono ?_
    rintro e wb ⟨rfl, bb⟩
    have HAb := HA7.kept bb
    have HEb := HE7.kept bb
    have Bb := B7.trans (bb.mono B7.size)
    go_wp2
    exact ms_door_bad (fun w' B' => hQb.out _ _ _ (mE_3 s h0 h1 h2 h3) (by decide) B') rfl rfl (by decide) HAb HEb (by omega) (Nat.le_refl _) (by omega) Bb
  by_cases h4 : ¬ bsAt s 35 1 = [0]
  · refine (want_form (t := ⟨#[0]⟩) HC7 (by show 35 + 1 ≤ _; omega) h4 (by omega)).mono ?_
    rintro e wb ⟨rfl, gb⟩
    have HAb := HA7.grown gb (by simp; omega)
    have HEb := HE7.grown gb (by simp; omega)
    have Bb := grown_belowA B7 gb B7.size (by omega)
    go_wp2
    exact ms_door_bad (fun w' B' => hQb.out _ _ _ (mE_4 s h0 h1 h2 h3 h4) (by decide) B') rfl rfl (by decide) HAb HEb (by omega) (Nat.le_refl _) (by omega) Bb
  replace h4 := Decidable.not_not.1 h4
  refine (want_ok (t := ⟨#[0]⟩) HC7 (by show 35 + 1 ≤ _; omega) h4 (by omega)).mono ?_
  rintro e w8 ⟨rfl, HC8', g8⟩
  have HC8 : Cur w8 c s 36 0 := HC8'
  have HA8 := HA7.grown g8 (by simp; omega)
  have HE8 := HE7.grown g8 (by simp; omega)
  have B8 := grown_belowA B7 g8 B7.size (by omega)
  clear HA7 HE7 B7 HC7 HC8' g8
  have c1 := HC8.cv 1 (.int .i64 (36 : Nat)) rfl
  go_wp2_with fail
  clear c1
  by_cases h5 : s.size < 38
  · refine (cnum_bad HC8 2 (by omega) (by omega) (by decide) (by omega)).mono ?_
    rintro e wb ⟨rfl, bb⟩
    have HAb := HA8.kept bb
    have HEb := HE8.kept bb
    have Bb := B8.trans (bb.mono B8.size)
    go_wp2
    exact ms_door_bad (fun w' B' => hQb.out _ _ _ (mE_5 s h0 h1 h2 h3 h4 h5) (by decide) B') rfl rfl (by decide) HAb HEb (by omega) (Nat.le_refl _) (by omega) Bb
  refine (cnum_ok HC8 2 (by decide) (by omega) (by omega)).mono ?_
  rintro e w9 ⟨rfl, HC9', g9⟩
  have HC9 : Cur w9 c s 38 0 := HC9'
  have HA9 := HA8.grown g9 (by simp; omega)
  have HE9 := HE8.grown g9 (by simp; omega)
  have B9 := grown_belowA B8 g9 B8.size (by omega)
  clear HA8 HE8 B8 HC8 HC9' g9
  have hV : beN ((s.data.toList.drop 36).take 2) = numAt s 36 2 := rfl
  rw [hV]
  clear hV
  by_cases h6 : ¬ okLen (numAt s 36 2) = true
  · have hbad := mE_6 s h0 h1 h2 h3 h4 h5 h6
    have hv := numAt_lt2 s 36
    generalize numAt s 36 2 = v at *
    have hor : v % 16 ≠ 0 ∨ v % 16 = 0 ∧ (decide ((64 : Int) ≤ (v : Int)) && decide ((v : Int) ≤ 1088)) = false := by
      by_cases q : v % 16 = 0
      · refine Or.inr ⟨q, ?_⟩
        by_cases a1 : 64 ≤ v
        · by_cases a2 : v ≤ 1088
          · exact absurd (by unfold okLen; simp [a1, a2, q]) h6
          · simp; omega
        · simp; omega
      · exact Or.inl q
    rcases hor with q | ⟨q, q2⟩
    · have qq : decide (Int.tmod (v : Int) 16 = 0) = false := decide_eq_false (by rw [Int.tmod_eq_emod_of_nonneg (by omega)]; omega)
      go_wp2_with fail
      refine (throw_any HC9 2 36 (by decide) (by decide)).mono ?_
      rintro e w6 ⟨rfl, rfl⟩
      go_wp2
      exact ms_door_bad (fun w' B' => hQb.out _ _ _ hbad (by decide) B') rfl rfl (by decide) HA9 HE9 (by omega) (Nat.le_refl _) (by omega) B9
    · have qq : decide (Int.tmod (v : Int) 16 = 0) = true := decide_eq_true (by rw [Int.tmod_eq_emod_of_nonneg (by omega)]; omega)
      go_wp2_with fail
      refine (within_any _ _ _ _).mono ?_
      rintro e w6 ⟨rfl, rfl⟩
      rw [q2]
      go_wp2_with fail
      refine (throw_any HC9 2 36 (by decide) (by decide)).mono ?_
      rintro e w6 ⟨rfl, rfl⟩
      go_wp2
      exact ms_door_bad (fun w' B' => hQb.out _ _ _ hbad (by decide) B') rfl rfl (by decide) HA9 HE9 (by omega) (Nat.le_refl _) (by omega) B9
  replace h6 := Decidable.not_not.1 h6
  have hv := numAt_lt2 s 36
  have hk : 64 ≤ numAt s 36 2 ∧ numAt s 36 2 ≤ 1088 ∧ numAt s 36 2 % 16 = 0 := by
    unfold okLen at h6
    simpa using h6
  obtain ⟨hk1, hk2, hk3⟩ := hk
  have hct : (numAt s 36 2 - 64) / 16 = cntAt s := rfl
  have hno := mE_no s h0 h1 h2 h3 h4 h5 h6
  have hm7 := mE_7 s h0 h1 h2 h3 h4 h5 h6
  have hm8 := mE_8 s h0 h1 h2 h3 h4 h5 h6
  have hm9 := mE_9 s h0 h1 h2 h3 h4 h5 h6
  have hm10 := mE_10 s h0 h1 h2 h3 h4 h5 h6
  have hm11 := mE_11 s h0 h1 h2 h3 h4 h5 h6
  have hm12 := mE_12 s h0 h1 h2 h3 h4 h5 h6
  have hm13 := mE_13 s h0 h1 h2 h3 h4 h5 h6
  have hm14 := mE_14 s h0 h1 h2 h3 h4 h5 h6
  have hm15 := mE_15 s h0 h1 h2 h3 h4 h5 h6
  clear h6 h0 h1 h2 h3 h4
  generalize numAt s 36 2 = v at *
  generalize cntAt s = n at *
  have qq : decide (Int.tmod (v : Int) 16 = 0) = true := decide_eq_true (by rw [Int.tmod_eq_emod_of_nonneg (by omega)]; omega)
  have q2 : (decide ((64 : Int) ≤ (v : Int)) && decide ((v : Int) ≤ 1088)) = true := by simp; omega
  go_wp2_with fail
  refine (within_any _ _ _ _).mono ?_
  rintro e w6 ⟨rfl, rfl⟩
  rw [q2]
  clear q2 qq
  go_wp2_with fail
  by_cases h7 : s.size < 39
  · refine (want_bad (t := ⟨#[0]⟩) HC9 (by show ¬ 38 + 1 ≤ _; omega) (by omega) (by decide) (by omega)).mono ?_
    rintro e wb ⟨rfl, bb⟩
    have HAb := HA9.kept bb
    have HEb := HE9.kept bb
    have Bb := B9.trans (bb.mono B9.size)
    go_wp2
    exact ms_door_bad (fun w' B' => hQb.out _ _ _ (hm7 h7) (by decide) B') rfl rfl (by decide) HAb HEb (by omega) (Nat.le_refl _) (by omega) Bb
  by_cases h8 : ¬ bsAt s 38 1 = [0]
  · refine (want_form (t := ⟨#[0]⟩) HC9 (by show 38 + 1 ≤ _; omega) h8 (by omega)).mono ?_
    rintro e wb ⟨rfl, gb⟩
    have HAb := HA9.grown gb (by simp; omega)
    have HEb := HE9.grown gb (by simp; omega)
    have Bb := grown_belowA B9 gb B9.size (by omega)
    go_wp2
    exact ms_door_bad (fun w' B' => hQb.out _ _ _ (hm8 h7 h8) (by decide) B') rfl rfl (by decide) HAb HEb (by omega) (Nat.le_refl _) (by omega) Bb
  replace h8 := Decidable.not_not.1 h8
  refine (want_ok (t := ⟨#[0]⟩) HC9 (by show 38 + 1 ≤ _; omega) h8 (by omega)).mono ?_
  rintro e w10 ⟨rfl, HC10', g10⟩
  have HC10 : Cur w10 c s 39 0 := HC10'
  have HA10 := HA9.grown g10 (by simp; omega)
  have HE10 := HE9.grown g10 (by simp; omega)
  have B10 := grown_belowA B9 g10 B9.size (by omega)
  clear HA9 HE9 B9 HC9 HC10' g10
  replace hm9 := hm9 h7 h8
  replace hm10 := hm10 h7 h8
  replace hm11 := hm11 h7 h8
  replace hm12 := hm12 h7 h8
  replace hm13 := hm13 h7 h8
  replace hm14 := hm14 h7 h8
  replace hm15 := hm15 h7 h8
  replace hno := hno h7 h8
  clear h8
  go_wp2_with fail
  by_cases h9 : s.size < 71
  · refine (eat_bad HC10 32 (by omega) (by omega) (by decide) (by omega)).mono ?_
    rintro e wb ⟨rfl, bb⟩
    have HAb := HA10.kept bb
    have HEb := HE10.kept bb
    have Bb := B10.trans (bb.mono B10.size)
    go_wp2
    exact ms_door_bad (fun w' B' => hQb.out _ _ _ (hm9 h9) (by decide) B') rfl rfl (by decide) HAb HEb (by omega) (Nat.le_refl _) (by omega) Bb
  refine (eat_ok HC10 32 (by omega) (by omega)).mono ?_
  rintro e w11 ⟨rfl, HC11', g11⟩
  have HC11 : Cur w11 c s 71 0 := HC11'
  have HA11 := HA10.grown g11 (by simp; omega)
  have HE11 := HE10.grown g11 (by simp; omega)
  have B11 := grown_belowA B10 g11 B10.size (by omega)
  clear HA10 HE10 B10 HC10 HC11' g11
  obtain ⟨l0, hl0⟩ : ∃ l0, l0 = bsAt s 39 32 := ⟨_, rfl⟩
  rw [show (s.data.toList.drop 39).take 32 = l0 from hl0.symm]
  have hl32 : l0.length ≤ 32 := by rw [hl0]; unfold bsAt; rw [List.length_take]; omega
  have Hl0 := Lib.hid hl0
  clear hl0
  go_upto_block 0 with (refine store_blk (k := 31) 9 (.string ⟨l0.toArray⟩) (msC ⟨X, ⟨l0.toArray⟩, 0, ⟨#[]⟩, 0, ⟨0, 0, z6b⟩, 0⟩ (.slice none 0 0)) (by rfl) rfl rfl rfl HA11 (by kernel_rfl) (show (31 + 1 : Nat) ≤ 45 by decide) rfl rfl ?_; intro w12 HA12 b12 g12; have HE12 := HE11.grown g12 (by simp); have HC12 : Cur w12 c s 71 0 := Blk.grown HC11 g12 (by simp; omega); have B12 := grown_belowA B11 g12 B11.size (Nat.le_refl _))
  clear HA11 HE11 B11 HC11 b12 g12
  (try simp only [Act.put, List.setIfInBounds_toArray, List.set_cons_zero, List.set_cons_succ])
  obtain ⟨nm, hnm⟩ : ∃ nm : ByteArray, nm = ⟨(Lib.trimRightB l0 0).toArray⟩ := ⟨_, rfl⟩
  have Hnm := Lib.hid hnm
  clear hnm
  go_cut [42] from 41 (fun _ wx => Blk wx w.heap.size 34 (msC ⟨X, nm, 0, ⟨#[]⟩, 0, ⟨0, 0, z6b⟩, 0⟩ (.slice none 0 0)) ∧ Blk wx (w.heap.size + 1) 37 (ftC 0 (-1)) ∧ Cur wx c s 71 0 ∧ Below w.heap.size w wx)
  case first =>
    go_wp2_with fail
    go_loopw [42] (fun _ wr => ∃ u : ByteArray, u.size ≤ 32 ∧ Hid (Lib.trimRightB u.data.toList 0 = Lib.trimRightB l0 0) ∧ Blk wr w.heap.size 34 (msC ⟨X, u, 0, ⟨#[]⟩, 0, ⟨0, 0, z6b⟩, 0⟩ (.slice none 0 0)) ∧ Blk wr (w.heap.size + 1) 37 (ftC 0 (-1)) ∧ Cur wr c s 71 0 ∧ Below w.heap.size w wr) (fun _ wr => nmLen wr w.heap.size)
    case atStart => exact ⟨⟨l0.toArray⟩, by show l0.toArray.size ≤ 32; rw [List.size_toArray]; exact hl32, rfl, HA12, HE12, HC12, B12⟩
    case round =>
      clear HA12 HE12 HC12 B12
      obtain ⟨u, hu, hT, HAr, HEr, HCr, Br⟩ := hrel
      have c31 := HAr.cv 31 (.string u) rfl
      have hM : Hid (nmLen wr w.heap.size = u.size) := by show nmLen _ _ = _; unfold nmLen; rw [c31]
      rcases Nat.eq_zero_or_pos u.size with h0 | h0
      · obtain rfl := ByteArray.size_eq_zero_iff.1 h0
        go_wp2
        go_meet
        exact ⟨by rw [Hnm.out, ← hT.out]; exact HAr, HEr, HCr, Br⟩
      · obtain ⟨m, hm⟩ : ∃ m, u.size = m + 1 := ⟨u.size - 1, by omega⟩
        have hmw : IntKind.i64.wrap ((u.size : Int) - 1) = (m : Int) := by rw [IntKind.wrap_i64] <;> omega
        have hI : (0 : Int) ≤ (m : Int) := by omega
        have hm2 : m < u.size := by omega
        have hI2 : (m : Int) < (u.size : Int) := by omega
        have hI3 : (m : Int) ≤ (u.size : Int) := by omega
        have hne : (u.toList == []) = false := by
          apply beq_eq_false_iff_ne.2
          intro q
          rw [ByteArray.toList_eq] at q
          have q2 : u.data.toList.length = 0 := by rw [q]; rfl
          have q3 : u.data.toList.length = u.size := by simp
          omega
        by_cases hb : u[m] = 0
        · have ht : ((u[m].toNat : Int) == 0) = true := by rw [hb]; rfl
          have hS : Hid (u.extract 0 m = u.extract 0 m) := rfl
          go_wp2_with (refine store_blk (k := 31) 9 (.string (u.extract 0 m)) (msC ⟨X, u.extract 0 m, 0, ⟨#[]⟩, 0, ⟨0, 0, z6b⟩, 0⟩ (.slice none 0 0)) (by rfl) rfl rfl rfl HAr (by kernel_rfl) (show (31 + 1 : Nat) ≤ 45 by decide) rfl rfl ?_; intro wy HAy by_ gy; have HEy := HEr.grown gy (by simp); have HCy : Cur wy c s 71 0 := Blk.grown HCr gy (by simp; omega); have By := grown_belowA Br gy Br.size (Nat.le_refl _))
          (try simp only [Act.put, List.setIfInBounds_toArray, List.set_cons_zero, List.set_cons_succ])
          go_roundw
          case rel =>
            have R : (u.extract 0 m).size ≤ 32 ∧ Hid (Lib.trimRightB (u.extract 0 m).data.toList 0 = Lib.trimRightB l0 0) := ⟨by rw [ext_size u m (by omega)]; omega, by show _ = _; rw [← hT.out]; exact (trim_ext u m hm hb).symm⟩
            first | exact ⟨u.extract 0 m, R.1, R.2, HAy⟩ | exact ⟨u.extract 0 m, R.1, R.2, HAy, HEy, HCy, By⟩ | exact ⟨_, _, ⟨u.extract 0 m, R.1, R.2, HAy, HEy, HCy, By⟩, rfl⟩ | exact ⟨_, _, _, ⟨u.extract 0 m, R.1, R.2, HAy, HEy, HCy, By⟩, rfl⟩
          case measure =>
            have c31' := HAy.cv 31 (.string (u.extract 0 m)) rfl
            have e1 : nmLen wy w.heap.size = m := by unfold nmLen; rw [c31']; exact ext_size u m (by omega)
            have e2 := hM.out
            show nmLen wy w.heap.size < nmLen wr w.heap.size
            rw [e1, e2]
            omega
        · have ht : ((u[m].toNat : Int) == 0) = false := by
            apply beq_eq_false_iff_ne.2
            intro q
            exact hb (UInt8.toNat_inj.1 (by simpa using q))
          go_wp2
          go_meet
          exact ⟨by rw [Hnm.out, ← hT.out, trim_keep u m hm hb]; exact HAr, HEr, HCr, Br⟩
  case rest =>
    clear HA12 HE12 HC12 B12
    obtain ⟨HA12, HE12, HC12, B12⟩ := hcut
    go_wp2_with fail
    by_cases h10 : s.size < 73
    · refine (cnum_bad HC12 2 (by omega) (by omega) (by decide) (by omega)).mono ?_
      rintro e wb ⟨rfl, bb⟩
      have HAb := HA12.kept bb
      have HEb := HE12.kept bb
      have Bb := B12.trans (bb.mono B12.size)
      go_wp2
      exact ms_door_bad (fun w' B' => hQb.out _ _ _ (hm10 h9 h10) (by decide) B') rfl rfl (by decide) HAb HEb (by omega) (Nat.le_refl _) (by omega) Bb
    refine (cnum_ok HC12 2 (by decide) (by omega) (by omega)).mono ?_
    rintro e w13 ⟨rfl, HC13', g13⟩
    have HC13 : Cur w13 c s 73 0 := HC13'
    have HA13 := HA12.grown g13 (by simp; omega)
    have HE13 := HE12.grown g13 (by simp; omega)
    have B13 := grown_belowA B12 g13 B12.size (by omega)
    clear HA12 HE12 B12 HC12 HC13' g13
    rw [show beN ((s.data.toList.drop 71).take 2) = numAt s 71 2 from rfl]
    obtain ⟨y1, hy1⟩ : ∃ y1 : Nat, y1 = numAt s 71 2 := ⟨_, rfl⟩
    rw [← hy1]
    have Hy1 := Lib.hid hy1
    clear hy1
    go_wp2_with fail
    by_cases h11 : s.size < 89
    · refine (eat_bad HC13 16 (by omega) (by omega) (by decide) (by omega)).mono ?_
      rintro e wb ⟨rfl, bb⟩
      have HAb := HA13.kept bb
      have HEb := HE13.kept bb
      have Bb := B13.trans (bb.mono B13.size)
      go_wp2
      exact ms_door_bad (fun w' B' => hQb.out _ _ _ (hm11 h9 h10 h11) (by decide) B') rfl rfl (by decide) HAb HEb (by omega) (Nat.le_refl _) (by omega) Bb
    refine (eat_ok HC13 16 (by omega) (by omega)).mono ?_
    rintro e w14 ⟨rfl, HC14', g14⟩
    have HC14 : Cur w14 c s 89 0 := HC14'
    have HA14 := HA13.grown g14 (by simp; omega)
    have HE14 := HE13.grown g14 (by simp; omega)
    have B14 := grown_belowA B13 g14 B13.size (by omega)
    clear HA13 HE13 B13 HC13 HC14' g14
    obtain ⟨y2, hy2⟩ : ∃ y2 : ByteArray, y2 = ⟨((s.data.toList.drop 73).take 16).toArray⟩ := ⟨_, rfl⟩
    rw [← hy2]
    have Hy2 := Lib.hid hy2
    clear hy2
    go_wp2_with fail
    by_cases h12 : s.size < 93
    · refine (cnum_bad HC14 4 (by omega) (by omega) (by decide) (by omega)).mono ?_
      rintro e wb ⟨rfl, bb⟩
      have HAb := HA14.kept bb
      have HEb := HE14.kept bb
      have Bb := B14.trans (bb.mono B14.size)
      go_wp2
      exact ms_door_bad (fun w' B' => hQb.out _ _ _ (hm12 h9 h10 h11 h12) (by decide) B') rfl rfl (by decide) HAb HEb (by omega) (Nat.le_refl _) (by omega) Bb
    refine (cnum_ok HC14 4 (by decide) (by omega) (by omega)).mono ?_
    rintro e w15 ⟨rfl, HC15', g15⟩
    have HC15 : Cur w15 c s 93 0 := HC15'
    have HA15 := HA14.grown g15 (by simp; omega)
    have HE15 := HE14.grown g15 (by simp; omega)
    have B15 := grown_belowA B14 g15 B14.size (by omega)
    clear HA14 HE14 B14 HC14 HC15' g15
    rw [show beN ((s.data.toList.drop 89).take 4) = numAt s 89 4 from rfl]
    obtain ⟨y3, hy3⟩ : ∃ y3 : Nat, y3 = numAt s 89 4 := ⟨_, rfl⟩
    rw [← hy3]
    have Hy3 := Lib.hid hy3
    clear hy3
    go_wp2_with fail
    by_cases h13 : s.size < 95
    · refine (cbridge_bad1 HC15 (by omega) (by omega) (by omega)).mono ?_
      rintro e wb ⟨rfl, gb⟩
      have HAb := HA15.grown gb (by simp; omega)
      have HEb := HE15.grown gb (by simp; omega)
      have Bb := grown_belowA B15 gb B15.size (by omega)
      go_wp2
      exact ms_door_bad (fun w' B' => hQb.out _ _ _ (hm13 h9 h10 h11 h12 h13) (by decide) B') rfl rfl (by decide) HAb HEb (by omega) (Nat.le_refl _) (by omega) Bb
    by_cases h14 : s.size < 101
    · refine (cbridge_bad2 HC15 (by omega) (by omega) (by omega)).mono ?_
      rintro e wb ⟨rfl, gb⟩
      have HAb := HA15.grown gb (by simp; omega)
      have HEb := HE15.grown gb (by simp; omega)
      have Bb := grown_belowA B15 gb B15.size (by omega)
      go_wp2
      exact ms_door_bad (fun w' B' => hQb.out _ _ _ (hm14 h9 h10 h11 h12 h13 h14) (by decide) B') rfl rfl (by decide) HAb HEb (by omega) (Nat.le_refl _) (by omega) Bb
    refine (cbridge_ok HC15 (by omega) (by omega)).mono ?_
    rintro e w16 ⟨rfl, HC16', g16⟩
    have HC16 : Cur w16 c s 101 0 := HC16'
    have HA16 := HA15.grown g16 (by simp; omega)
    have HE16 := HE15.grown g16 (by simp; omega)
    have B16 := grown_belowA B15 g16 B15.size (by omega)
    clear HA15 HE15 B15 HC15 HC16' g16
    obtain ⟨y4, hy4⟩ : ∃ y4 : Br, y4 = brAt s 93 := ⟨_, rfl⟩
    rw [← hy4]
    have Hy4 := Lib.hid hy4
    clear hy4
    go_wp2_with fail
    by_cases h15 : s.size < 102
    · refine (cnum_bad HC16 1 (by omega) (by omega) (by decide) (by omega)).mono ?_
      rintro e wb ⟨rfl, bb⟩
      have HAb := HA16.kept bb
      have HEb := HE16.kept bb
      have Bb := B16.trans (bb.mono B16.size)
      go_wp2
      exact ms_door_bad (fun w' B' => hQb.out _ _ _ (hm15 h9 h10 h11 h12 h13 h14 h15) (by decide) B') rfl rfl (by decide) HAb HEb (by omega) (Nat.le_refl _) (by omega) Bb
    refine (cnum_ok HC16 1 (by decide) (by omega) (by omega)).mono ?_
    rintro e w17 ⟨rfl, HC17', g17⟩
    have HC17 : Cur w17 c s 102 0 := HC17'
    have HA17 := HA16.grown g17 (by simp; omega)
    have HE17 := HE16.grown g17 (by simp; omega)
    have B17 := grown_belowA B16 g17 B16.size (by omega)
    clear HA16 HE16 B16 HC16 HC17' g17
    rw [show beN ((s.data.toList.drop 101).take 1) = numAt s 101 1 from rfl]
    obtain ⟨y5, hy5⟩ : ∃ y5 : Nat, y5 = numAt s 101 1 := ⟨_, rfl⟩
    rw [← hy5]
    have Hy5 := Lib.hid hy5
    clear hy5
    replace hno := hno h9 h10 h11 h12 h13 h14 h15
    clear hm10 hm11 hm12 hm13 hm14 hm15
    go_upto_region 17 with (first
      | (refine store_blk (k := 32) (o := ⟨none, .store 3 (.tmp 72) _, _, _, _, _⟩) 3 (.int .i64 y1) (msC ⟨X, nm, y1, ⟨#[]⟩, 0, ⟨0, 0, z6b⟩, 0⟩ (.slice none 0 0)) (by rfl) rfl rfl rfl HA17 (by kernel_rfl) (show (32 + 1 : Nat) ≤ 45 by decide) rfl rfl ?_; intro wa HAa ba ga; have HEa := HE17.grown ga (by simp); have HCa : Cur wa c s 102 0 := Blk.grown HC17 ga (by simp; omega); have Ba := grown_belowA B17 ga B17.size (Nat.le_refl _))
      | (refine store_blk (k := 33) 9 (.string y2) (msC ⟨X, nm, y1, y2, 0, ⟨0, 0, z6b⟩, 0⟩ (.slice none 0 0)) (by rfl) rfl rfl rfl HAa (by kernel_rfl) (show (33 + 1 : Nat) ≤ 45 by decide) rfl rfl ?_; intro wb HAb bb gb; have HEb := HEa.grown gb (by simp); have HCb : Cur wb c s 102 0 := Blk.grown HCa gb (by simp; omega); have Bb := grown_belowA Ba gb Ba.size (Nat.le_refl _))
      | (refine store_blk (k := 34) (o := ⟨none, .store 3 (.tmp 74) _, _, _, _, _⟩) 3 (.int .i64 y3) (msC ⟨X, nm, y1, y2, y3, ⟨0, 0, z6b⟩, 0⟩ (.slice none 0 0)) (by rfl) rfl rfl rfl HAb (by kernel_rfl) (show (34 + 1 : Nat) ≤ 45 by decide) rfl rfl ?_; intro wc2 HAc bc gc; have HEc := HEb.grown gc (by simp); have HCc : Cur wc2 c s 102 0 := Blk.grown HCb gc (by simp; omega); have Bc := grown_belowA Bb gc Bb.size (Nat.le_refl _))
      | (refine store_blk (k := 35) 27 (.agg (brC y4)) (msC ⟨X, nm, y1, y2, y3, y4, 0⟩ (.slice none 0 0)) (by rfl) rfl rfl rfl HAc (by kernel_rfl) (show (35 + 8 : Nat) ≤ 45 by decide) (by rfl) rfl ?_; intro wd HAd bd gd; have HEd := HEc.grown gd (by simp); have HCd : Cur wd c s 102 0 := Blk.grown HCc gd (by simp; omega); have Bd := grown_belowA Bc gd Bc.size (Nat.le_refl _))
      | (refine store_blk (k := 43) (o := ⟨none, .store 3 (.tmp 76) _, _, _, _, _⟩) 3 (.int .i64 y5) (msC ⟨X, nm, y1, y2, y3, y4, y5⟩ (.slice none 0 0)) (by rfl) rfl rfl rfl HAd (by kernel_rfl) (show (43 + 1 : Nat) ≤ 45 by decide) rfl rfl ?_; intro we HAe be ge; have HEe := HEd.grown ge (by simp); have HCe : Cur we c s 102 0 := Blk.grown HCd ge (by simp; omega); have Be := grown_belowA Bd ge Bd.size (Nat.le_refl _)))
    (try simp only [Act.put, List.setIfInBounds_toArray, List.set_cons_zero, List.set_cons_succ])
    clear HA17 HE17 B17 HC17 HAa HEa HCa Ba ga ba HAb HEb HCb Bb gb bb HAc HEc HCc Bc gc bc HAd HEd HCd Bd gd bd be ge
    have HX := Lib.hid hX
    clear hX
    obtain ⟨MM, hMM⟩ : ∃ MM : Ms, MM = ⟨X, nm, y1, y2, y3, y4, y5⟩ := ⟨_, rfl⟩
    rw [← hMM] at HAe
    have HMM := Lib.hid hMM
    clear hMM
    have hAB := HAe.lt
    have hEB := HEe.lt
    have hCB := HCe.lt
    obtain ⟨Bs, hBs⟩ : ∃ Bs, Bs = we.heap.size := ⟨_, rfl⟩
    rw [← hBs] at hAB hEB hCB
    have hBe : Bs ≤ we.heap.size := by omega
    have hwBs : w.heap.size ≤ Bs := by omega
    clear hBs
    obtain ⟨i0, hi, hz0, hz1, hz2⟩ := info_parts Tryd.inParts
    obtain ⟨z, hz⟩ : ∃ z, v = z + 64 := ⟨v - 64, by omega⟩
    have hqa : IntKind.i64.wrap ((v : Int) - 64) = (z : Int) := by rw [IntKind.wrap_i64] <;> omega
    have hqb : IntKind.i64.wrap (Int.tdiv (z : Int) 16) = (n : Int) := by
      rw [Int.tdiv_eq_ediv_of_nonneg (by omega), IntKind.wrap_i64] <;> omega
    have hqc : IntKind.i64.wrap ((z : Int) / 16) = (n : Int) := by rw [IntKind.wrap_i64] <;> omega
    have hn64 : n ≤ 64 := by omega
    have hs102 : 102 ≤ s.size := by omega
    have hI0 : insAt s 102 0 = [] := rfl
    clear hz hct
    go_wp2_with fail
    clear hqa hqb hqc
    go_loopw [80] (fun i wr => ∃ (k : Nat) (vv : Value), k ≤ n ∧ i = .int .i64 k ∧ 102 + 16 * k ≤ s.size ∧ Cur wr c s (102 + 16 * k) 0 ∧ Blk wr w.heap.size 34 (msC MM vv) ∧ Blk wr (w.heap.size + 1) 37 (ftC 0 (-1)) ∧ OwnI wr Bs vv (insAt s 102 k) ∧ Below w.heap.size w wr ∧ Bs ≤ wr.heap.size) (fun i _ => n - (intOf i).toNat)
    case atStart => exact ⟨0, _, by omega, rfl, by omega, HCe, HAe, HEe, Or.inl ⟨hI0, rfl⟩, Be, hBe⟩
    case round =>
      clear HCe HAe HEe Be hBe
      obtain ⟨k, vv, hk, rfl, hp, HCk, HVk, HEk, HOk, Bk, hBk⟩ := hrel
      by_cases hlt : k < n
      · have q1 : (k : Int) < (n : Int) := by omega
        have q2 : decide ((k : Int) < (n : Int)) = true := decide_eq_true q1
        have hll := insAt_len s 102 k
        have hIk := Lib.hid (insAt_succ s 102 k)
        have hnone := insE_none s.size 102 k hp
        have hAt := Lib.hid (fun e x => insE_at (n := s.size) (p := 102) (K := n) (e := e) (x := x) hnone hlt)
        clear hnone
        have hpe : 102 + 16 * (k + 1) = (102 + 16 * k) + 16 := by omega
        obtain ⟨p, hpp⟩ : ∃ p, p = 102 + 16 * k := ⟨_, rfl⟩
        rw [← hpp] at HCk hp hIk hAt hpe
        clear hpp
        have c44 := HVk.cv 44 vv rfl
        generalize insAt s 102 k = Ik at *
        go_upto_region 19 with (fail)
        refine wp_region_S (fun w' => w'.cell? ⟨w.heap.size, 44, none⟩ = some vv) (fun j => j == 19) (by kernel_rfl) (c44) (fun hHeld => ?_)
        refine wpAnyS_take0 (i := 0) (v := ?_) rfl (by kernel_rfl) (by kernel_rfl) (by kernel_rfl) (by rfl) (fun _ _ _ h => leaves_put (fn := Tryd.f7) (R := Q) (a := 2) (b := 3) rfl (by decide) (by decide) h) (by rfl) ?_ (by assumption) ?_
        rotate_left
        · intro w; go_simp; (try with_reducible rfl)
        (try simp only [Act.put, List.getElem_toArray, List.getElem_cons_zero, List.getElem_cons_succ, List.setIfInBounds_toArray, List.set_cons_zero, List.set_cons_succ])
        refine wpAnyS_take (i := 1) (v := vv) rfl (by kernel_rfl) (by kernel_rfl) (by kernel_rfl) (by rfl) (by kernel_rfl) (fun _ _ _ h => leaves_put (fn := Tryd.f7) (R := Q) (a := 2) (b := 3) rfl (by decide) (by decide) h) (Or.inl ⟨by rfl, fun w hSw => by (try dsimp only at hSw); go_simp⟩) (by assumption) ?_
        (try simp only [Act.put, List.getElem_toArray, List.getElem_cons_zero, List.getElem_cons_succ, List.setIfInBounds_toArray, List.set_cons_zero, List.set_cons_succ])
        refine wpAnyS_take0 (i := 2) (v := ?_) rfl (by kernel_rfl) (by kernel_rfl) (by kernel_rfl) (by rfl) (fun _ _ _ h => leaves_put (fn := Tryd.f7) (R := Q) (a := 2) (b := 3) rfl (by decide) (by decide) h) (by rfl) ?_ (by assumption) ?_
        rotate_left
        · intro w; go_simp; (try with_reducible rfl)
        (try simp only [Act.put, List.getElem_toArray, List.getElem_cons_zero, List.getElem_cons_succ, List.setIfInBounds_toArray, List.set_cons_zero, List.set_cons_succ])
        refine wpAnyS_take0 (i := 5) (v := ?_) rfl (by kernel_rfl) (by kernel_rfl) (by kernel_rfl) (by rfl) (fun _ _ _ h => leaves_put (fn := Tryd.f7) (R := Q) (a := 2) (b := 3) rfl (by decide) (by decide) h) (by rfl) ?_ (by assumption) ?_
        rotate_left
        · intro w; go_simp; (try with_reducible rfl)
        (try simp only [Act.put, List.getElem_toArray, List.getElem_cons_zero, List.getElem_cons_succ, List.setIfInBounds_toArray, List.set_cons_zero, List.set_cons_succ])
        refine wpAnyS_take0 (i := 7) (v := ?_) rfl (by kernel_rfl) (by kernel_rfl) (by kernel_rfl) (by rfl) (fun _ _ _ h => leaves_put (fn := Tryd.f7) (R := Q) (a := 2) (b := 3) rfl (by decide) (by decide) h) (by rfl) ?_ (by assumption) ?_
        rotate_left
        · intro w; go_simp; (try with_reducible rfl)
        (try simp only [Act.put, List.getElem_toArray, List.getElem_cons_zero, List.getElem_cons_succ, List.setIfInBounds_toArray, List.set_cons_zero, List.set_cons_succ])
        refine wpAnyS_take0 (i := 9) (v := ?_) rfl (by kernel_rfl) (by kernel_rfl) (by kernel_rfl) (by rfl) (fun _ _ _ h => leaves_put (fn := Tryd.f7) (R := Q) (a := 2) (b := 3) rfl (by decide) (by decide) h) (by rfl) ?_ (by assumption) ?_
        rotate_left
        · intro w; go_simp; (try with_reducible rfl)
        (try simp only [Act.put, List.getElem_toArray, List.getElem_cons_zero, List.getElem_cons_succ, List.setIfInBounds_toArray, List.set_cons_zero, List.set_cons_succ])
        refine wpAnyS_take0 (i := 12) (v := ?_) rfl (by kernel_rfl) (by kernel_rfl) (by kernel_rfl) (by rfl) (fun _ _ _ h => leaves_put (fn := Tryd.f7) (R := Q) (a := 2) (b := 3) rfl (by decide) (by decide) h) (by rfl) ?_ (by assumption) ?_
        rotate_left
        · intro w; go_simp; (try with_reducible rfl)
        (try simp only [Act.put, List.getElem_toArray, List.getElem_cons_zero, List.getElem_cons_succ, List.setIfInBounds_toArray, List.set_cons_zero, List.set_cons_succ])
        refine wpAnyS_take0 (i := 15) (v := ?_) rfl (by kernel_rfl) (by kernel_rfl) (by kernel_rfl) (by rfl) (fun _ _ _ h => leaves_put (fn := Tryd.f7) (R := Q) (a := 2) (b := 3) rfl (by decide) (by decide) h) (by rfl) ?_ (by assumption) ?_
        rotate_left
        · intro w; go_simp; (try with_reducible rfl)
        (try simp only [Act.put, List.getElem_toArray, List.getElem_cons_zero, List.getElem_cons_succ, List.setIfInBounds_toArray, List.set_cons_zero, List.set_cons_succ])
        refine wpAnyS_one (r := 3) (by kernel_rfl) rfl (by rfl) (by rfl) (fun K hK => ?_)
        (try simp only [List.getElem_toArray, List.getElem_cons_zero, List.getElem_cons_succ])
        have KC0 := HCk.drew
        have KV0 := HVk.drew
        have KE0 := HEk.drew
        have KO0 : OwnI wr.drew Bs vv Ik := HOk
        have C0 := Bk.drew
        have hC0 : Bs ≤ wr.drew.heap.size := hBk
        have d0 := c44
        go_simp
        go_at_call 32
        by_cases f0 : p + 1 ≤ s.size
        rotate_left
        · refine (cnum_bad KC0 1 (by omega) (by omega) (by decide) (by omega)).mono ?_
          rintro e ub ⟨rfl, bb⟩
          have HAb := KV0.kept bb
          have HEb := KE0.kept bb
          have Bb := C0.trans (bb.mono C0.size)
          exact ms_door_bad (fun w' B' => by simpa using hQb.out _ _ _ (hno.trans (hAt.out _ _ (in_0 f0))) (by decide) B') rfl rfl (by decide) HAb HEb (by omega) (Nat.le_refl _) (by omega) Bb
        refine (cnum_ok KC0 1 (by decide) (by omega) (by omega)).mono ?_
        rintro e u1 ⟨rfl, KC1', k1⟩; have KC1 : Cur u1 c s (p + 1) 0 := KC1'; have KV1 := KV0.grown k1 (by simp; omega); have KE1 := KE0.grown k1 (by simp; omega); have KO1 := KO0.grown k1 (fun q hq => by cases hq; exact hCB); have C1 := grown_belowA C0 k1 C0.size (by omega); have hC1 : Bs ≤ u1.heap.size := Nat.le_trans hC0 k1.size; have d1 := KV1.cv 44 vv rfl
        rw [show beN ((s.data.toList.drop (p)).take 1) = numAt s (p) 1 from rfl]
        obtain ⟨z0, hz0⟩ : ∃ z0 : Nat, z0 = numAt s (p) 1 := ⟨_, rfl⟩
        rw [← hz0]
        have Hz0 := Lib.hid hz0
        clear KC0 KV0 KE0 KO0 C0 hC0 d0 KC1' k1 hz0
        have bz0 : z0 < 256 := by rw [Hz0.out]; exact numAt_one s p
        refine hK _ _ ?_ (fun hHeld => ?_)
        · exact d1
        clear hK K
        (try simp only [Act.put, List.getElem_toArray, List.getElem_cons_zero, List.getElem_cons_succ, List.setIfInBounds_toArray, List.set_cons_zero, List.set_cons_succ])
        refine wpAnyS_one (r := 4) (by kernel_rfl) rfl (by rfl) (by rfl) (fun K hK => ?_)
        (try simp only [List.getElem_toArray, List.getElem_cons_zero, List.getElem_cons_succ])
        go_simp
        go_at_call 37; (refine (flagsOf_any z0 bz0 _).mono ?_); rintro e u2 ⟨rfl, k2⟩; have KC2 : Cur u2 c s (p + 1) 0 := KC1.below k2; have KV2 := KV1.kept k2; have KE2 := KE1.kept k2; have KO2 := KO1.kept k2; have C2 := C1.trans (k2.mono C1.size); have hC2 : Bs ≤ u2.heap.size := Nat.le_trans hC1 k2.size; have d2 := KV2.cv 44 vv rfl
        clear KC1 KV1 KE1 KO1 C1 hC1 d1 k2
        refine hK _ _ ?_ (fun hHeld => ?_)
        · exact d2
        clear hK K
        (try simp only [Act.put, List.getElem_toArray, List.getElem_cons_zero, List.getElem_cons_succ, List.setIfInBounds_toArray, List.set_cons_zero, List.set_cons_succ])
        refine wpAnyS_one (r := 6) (by kernel_rfl) rfl (by rfl) (by rfl) (fun K hK => ?_)
        (try simp only [List.getElem_toArray, List.getElem_cons_zero, List.getElem_cons_succ])
        go_simp
        go_at_call 36
        by_cases f1 : p + 3 ≤ s.size
        rotate_left
        · refine (cbridge_bad1 KC2 (by omega) (by omega) (by omega)).mono ?_
          rintro e ub ⟨rfl, gb⟩
          have HAb := KV2.grown gb (by simp; omega)
          have HEb := KE2.grown gb (by simp; omega)
          have Bb := grown_belowA C2 gb C2.size (by omega)
          exact ms_door_bad (fun w' B' => by simpa using hQb.out _ _ _ (hno.trans (hAt.out _ _ (in_1 (by omega) f1))) (by decide) B') rfl rfl (by decide) HAb HEb (by omega) (Nat.le_refl _) (by omega) Bb
        by_cases f2 : p + 9 ≤ s.size
        rotate_left
        · refine (cbridge_bad2 KC2 (by omega) (by omega) (by omega)).mono ?_
          rintro e ub ⟨rfl, gb⟩
          have HAb := KV2.grown gb (by simp; omega)
          have HEb := KE2.grown gb (by simp; omega)
          have Bb := grown_belowA C2 gb C2.size (by omega)
          exact ms_door_bad (fun w' B' => by simpa using hQb.out _ _ _ (hno.trans (hAt.out _ _ (in_2 (by omega) f2))) (by decide) B') rfl rfl (by decide) HAb HEb (by omega) (Nat.le_refl _) (by omega) Bb
        refine (cbridge_ok KC2 (by omega) (by omega)).mono ?_
        rintro e u3 ⟨rfl, KC3', k3⟩; have KC3 : Cur u3 c s (p + 9) 0 := KC3'; have KV3 := KV2.grown k3 (by simp; omega); have KE3 := KE2.grown k3 (by simp; omega); have KO3 := KO2.grown k3 (fun q hq => by cases hq; exact hCB); have C3 := grown_belowA C2 k3 C2.size (by omega); have hC3 : Bs ≤ u3.heap.size := Nat.le_trans hC2 k3.size; have d3 := KV3.cv 44 vv rfl
        obtain ⟨zb, hzb⟩ : ∃ zb : Br, zb = brAt s (p + 1) := ⟨_, rfl⟩
        rw [← hzb]
        have Hzb := Lib.hid hzb
        clear KC2 KV2 KE2 KO2 C2 hC2 d2 KC3' k3 hzb
        refine hK _ _ ?_ (fun hHeld => ?_)
        · exact d3
        clear hK K
        (try simp only [Act.put, List.getElem_toArray, List.getElem_cons_zero, List.getElem_cons_succ, List.setIfInBounds_toArray, List.set_cons_zero, List.set_cons_succ])
        refine wpAnyS_one (r := 8) (by kernel_rfl) rfl (by rfl) (by rfl) (fun K hK => ?_)
        (try simp only [List.getElem_toArray, List.getElem_cons_zero, List.getElem_cons_succ])
        go_simp
        go_at_call 32
        by_cases f3 : p + 13 ≤ s.size
        rotate_left
        · refine (cnum_bad KC3 4 (by omega) (by omega) (by decide) (by omega)).mono ?_
          rintro e ub ⟨rfl, bb⟩
          have HAb := KV3.kept bb
          have HEb := KE3.kept bb
          have Bb := C3.trans (bb.mono C3.size)
          exact ms_door_bad (fun w' B' => by simpa using hQb.out _ _ _ (hno.trans (hAt.out _ _ (in_3 (by omega) f3))) (by decide) B') rfl rfl (by decide) HAb HEb (by omega) (Nat.le_refl _) (by omega) Bb
        refine (cnum_ok KC3 4 (by decide) (by omega) (by omega)).mono ?_
        rintro e u4 ⟨rfl, KC4', k4⟩; have KC4 : Cur u4 c s (p + 13) 0 := KC4'; have KV4 := KV3.grown k4 (by simp; omega); have KE4 := KE3.grown k4 (by simp; omega); have KO4 := KO3.grown k4 (fun q hq => by cases hq; exact hCB); have C4 := grown_belowA C3 k4 C3.size (by omega); have hC4 : Bs ≤ u4.heap.size := Nat.le_trans hC3 k4.size; have d4 := KV4.cv 44 vv rfl
        rw [show beN ((s.data.toList.drop (p + 9)).take 4) = numAt s (p + 9) 4 from rfl]
        obtain ⟨z1, hz1⟩ : ∃ z1 : Nat, z1 = numAt s (p + 9) 4 := ⟨_, rfl⟩
        rw [← hz1]
        have Hz1 := Lib.hid hz1
        clear KC3 KV3 KE3 KO3 C3 hC3 d3 KC4' k4 hz1
        refine hK _ _ ?_ (fun hHeld => ?_)
        · exact d4
        clear hK K
        (try simp only [Act.put, List.getElem_toArray, List.getElem_cons_zero, List.getElem_cons_succ, List.setIfInBounds_toArray, List.set_cons_zero, List.set_cons_succ])
        refine wpAnyS_one (r := 10) (by kernel_rfl) rfl (by rfl) (by rfl) (fun K hK => ?_)
        (try simp only [List.getElem_toArray, List.getElem_cons_zero, List.getElem_cons_succ])
        go_simp
        go_at_call 32
        by_cases f4 : p + 14 ≤ s.size
        rotate_left
        · refine (cnum_bad KC4 1 (by omega) (by omega) (by decide) (by omega)).mono ?_
          rintro e ub ⟨rfl, bb⟩
          have HAb := KV4.kept bb
          have HEb := KE4.kept bb
          have Bb := C4.trans (bb.mono C4.size)
          exact ms_door_bad (fun w' B' => by simpa using hQb.out _ _ _ (hno.trans (hAt.out _ _ (in_4 (by omega) f4))) (by decide) B') rfl rfl (by decide) HAb HEb (by omega) (Nat.le_refl _) (by omega) Bb
        refine (cnum_ok KC4 1 (by decide) (by omega) (by omega)).mono ?_
        rintro e u5 ⟨rfl, KC5', k5⟩; have KC5 : Cur u5 c s (p + 14) 0 := KC5'; have KV5 := KV4.grown k5 (by simp; omega); have KE5 := KE4.grown k5 (by simp; omega); have KO5 := KO4.grown k5 (fun q hq => by cases hq; exact hCB); have C5 := grown_belowA C4 k5 C4.size (by omega); have hC5 : Bs ≤ u5.heap.size := Nat.le_trans hC4 k5.size; have d5 := KV5.cv 44 vv rfl
        rw [show beN ((s.data.toList.drop (p + 13)).take 1) = numAt s (p + 13) 1 from rfl]
        obtain ⟨z2, hz2⟩ : ∃ z2 : Nat, z2 = numAt s (p + 13) 1 := ⟨_, rfl⟩
        rw [← hz2]
        have Hz2 := Lib.hid hz2
        clear KC4 KV4 KE4 KO4 C4 hC4 d4 KC5' k5 hz2
        have bz2 : z2 < 256 := by rw [Hz2.out]; exact numAt_one s _
        have qz2 : IntKind.i64.wrap (Int.tdiv (z2 : Int) 16) = ((z2 / 16 : Nat) : Int) := by
          rw [Int.tdiv_eq_ediv_of_nonneg (by omega), IntKind.wrap_i64] <;> omega
        have rz2 : IntKind.i64.wrap ((z2 : Int) / 16) = ((z2 / 16 : Nat) : Int) := by rw [IntKind.wrap_i64] <;> omega
        obtain ⟨w2, hw2⟩ : ∃ w2 : Nat, z2 / 16 = w2 := ⟨_, rfl⟩
        rw [hw2] at qz2 rz2
        refine hK _ _ ?_ (fun hHeld => ?_)
        · exact d5
        clear hK K
        (try simp only [Act.put, List.getElem_toArray, List.getElem_cons_zero, List.getElem_cons_succ, List.setIfInBounds_toArray, List.set_cons_zero, List.set_cons_succ])
        refine wpAnyS_take0 (i := 11) (v := ?_) rfl (by kernel_rfl) (by kernel_rfl) (by kernel_rfl) (by rfl) (fun _ _ _ h => leaves_put (fn := Tryd.f7) (R := Q) (a := 2) (b := 3) rfl (by decide) (by decide) h) (by rfl) ?_ (by assumption) ?_
        rotate_left
        · intro w; go_simp; (try with_reducible rfl)
        (try simp only [Act.put, List.getElem_toArray, List.getElem_cons_zero, List.getElem_cons_succ, List.setIfInBounds_toArray, List.set_cons_zero, List.set_cons_succ])
        refine wpAnyS_one (r := 13) (by kernel_rfl) rfl (by rfl) (by rfl) (fun K hK => ?_)
        (try simp only [List.getElem_toArray, List.getElem_cons_zero, List.getElem_cons_succ])
        clear qz2 rz2
        go_simp
        go_at_call 32
        by_cases f5 : p + 15 ≤ s.size
        rotate_left
        · refine (cnum_bad KC5 1 (by omega) (by omega) (by decide) (by omega)).mono ?_
          rintro e ub ⟨rfl, bb⟩
          have HAb := KV5.kept bb
          have HEb := KE5.kept bb
          have Bb := C5.trans (bb.mono C5.size)
          exact ms_door_bad (fun w' B' => by simpa using hQb.out _ _ _ (hno.trans (hAt.out _ _ (in_5 (by omega) f5))) (by decide) B') rfl rfl (by decide) HAb HEb (by omega) (Nat.le_refl _) (by omega) Bb
        refine (cnum_ok KC5 1 (by decide) (by omega) (by omega)).mono ?_
        rintro e u6 ⟨rfl, KC6', k6⟩; have KC6 : Cur u6 c s (p + 15) 0 := KC6'; have KV6 := KV5.grown k6 (by simp; omega); have KE6 := KE5.grown k6 (by simp; omega); have KO6 := KO5.grown k6 (fun q hq => by cases hq; exact hCB); have C6 := grown_belowA C5 k6 C5.size (by omega); have hC6 : Bs ≤ u6.heap.size := Nat.le_trans hC5 k6.size; have d6 := KV6.cv 44 vv rfl
        rw [show beN ((s.data.toList.drop (p + 14)).take 1) = numAt s (p + 14) 1 from rfl]
        obtain ⟨z3, hz3⟩ : ∃ z3 : Nat, z3 = numAt s (p + 14) 1 := ⟨_, rfl⟩
        rw [← hz3]
        have Hz3 := Lib.hid hz3
        clear KC5 KV5 KE5 KO5 C5 hC5 d5 KC6' k6 hz3
        have bz3 : z3 < 256 := by rw [Hz3.out]; exact numAt_one s _
        have qz3 : IntKind.i64.wrap (Int.tdiv (z3 : Int) 16) = ((z3 / 16 : Nat) : Int) := by
          rw [Int.tdiv_eq_ediv_of_nonneg (by omega), IntKind.wrap_i64] <;> omega
        have rz3 : IntKind.i64.wrap ((z3 : Int) / 16) = ((z3 / 16 : Nat) : Int) := by rw [IntKind.wrap_i64] <;> omega
        obtain ⟨w3', hw3⟩ : ∃ w3' : Nat, z3 / 16 = w3' := ⟨_, rfl⟩
        rw [hw3] at qz3 rz3
        refine hK _ _ ?_ (fun hHeld => ?_)
        · exact d6
        clear hK K
        (try simp only [Act.put, List.getElem_toArray, List.getElem_cons_zero, List.getElem_cons_succ, List.setIfInBounds_toArray, List.set_cons_zero, List.set_cons_succ])
        refine wpAnyS_take0 (i := 14) (v := ?_) rfl (by kernel_rfl) (by kernel_rfl) (by kernel_rfl) (by rfl) (fun _ _ _ h => leaves_put (fn := Tryd.f7) (R := Q) (a := 2) (b := 3) rfl (by decide) (by decide) h) (by rfl) ?_ (by assumption) ?_
        rotate_left
        · intro w; go_simp; (try with_reducible rfl)
        (try simp only [Act.put, List.getElem_toArray, List.getElem_cons_zero, List.getElem_cons_succ, List.setIfInBounds_toArray, List.set_cons_zero, List.set_cons_succ])
        refine wpAnyS_one (r := 16) (by kernel_rfl) rfl (by rfl) (by rfl) (fun K hK => ?_)
        (try simp only [List.getElem_toArray, List.getElem_cons_zero, List.getElem_cons_succ])
        clear qz3 rz3
        go_simp
        go_at_call 32
        by_cases f6 : p + 16 ≤ s.size
        rotate_left
        · refine (cnum_bad KC6 1 (by omega) (by omega) (by decide) (by omega)).mono ?_
          rintro e ub ⟨rfl, bb⟩
          have HAb := KV6.kept bb
          have HEb := KE6.kept bb
          have Bb := C6.trans (bb.mono C6.size)
          exact ms_door_bad (fun w' B' => by simpa using hQb.out _ _ _ (hno.trans (hAt.out _ _ (in_6 (by omega) f6))) (by decide) B') rfl rfl (by decide) HAb HEb (by omega) (Nat.le_refl _) (by omega) Bb
        refine (cnum_ok KC6 1 (by decide) (by omega) (by omega)).mono ?_
        rintro e u7 ⟨rfl, KC7', k7⟩; have KC7 : Cur u7 c s (p + 16) 0 := KC7'; have KV7 := KV6.grown k7 (by simp; omega); have KE7 := KE6.grown k7 (by simp; omega); have KO7 := KO6.grown k7 (fun q hq => by cases hq; exact hCB); have C7 := grown_belowA C6 k7 C6.size (by omega); have hC7 : Bs ≤ u7.heap.size := Nat.le_trans hC6 k7.size; have d7 := KV7.cv 44 vv rfl
        rw [show beN ((s.data.toList.drop (p + 15)).take 1) = numAt s (p + 15) 1 from rfl]
        obtain ⟨z4, hz4⟩ : ∃ z4 : Nat, z4 = numAt s (p + 15) 1 := ⟨_, rfl⟩
        rw [← hz4]
        have Hz4 := Lib.hid hz4
        clear KC6 KV6 KE6 KO6 C6 hC6 d6 KC7' k7 hz4
        refine hK _ _ ?_ (fun hHeld => ?_)
        · exact d7
        clear hK K
        (try simp only [Act.put, List.getElem_toArray, List.getElem_cons_zero, List.getElem_cons_succ, List.setIfInBounds_toArray, List.set_cons_zero, List.set_cons_succ])
        obtain ⟨xx, hxx⟩ : ∃ xx : Ins, xx = ⟨ofF z0, zb, (z1 : Nat), (w2 : Nat), (w3' : Nat), (z4 : Nat)⟩ := ⟨_, rfl⟩
        refine wpAnyS_take0 (i := 17) (v := .agg (inC xx)) rfl (by kernel_rfl) (by kernel_rfl) (by kernel_rfl) (by rfl) (fun _ _ _ h => leaves_put (fn := Tryd.f7) (R := Q) (a := 2) (b := 3) rfl (by decide) (by decide) h) (by rfl) (fun w => by rw [hxx]; exact exec_build_blk (inC ⟨ofF z0, zb, (z1 : Nat), (w2 : Nat), (w3' : Nat), (z4 : Nat)⟩) rfl (by kernel_rfl)) (by assumption) ?_
        (try simp only [Act.put, List.getElem_toArray, List.getElem_cons_zero, List.getElem_cons_succ, List.setIfInBounds_toArray, List.set_cons_zero, List.set_cons_succ])
        have hxe : xx = inAt s p := by rw [hxx]; unfold inAt; rw [← Hz0.out, ← Hzb.out, ← Hz1.out, ← Hz2.out, ← Hz3.out, ← Hz4.out, hw2, hw3]
        clear hxx
        refine wpAnyS_one (r := 18) (by kernel_rfl) rfl (by rfl) (by rfl) (fun K hK => ?_)
        (try simp only [List.getElem_toArray, List.getElem_cons_zero, List.getElem_cons_succ])
        refine wp_buildSlice 32 111 1 _ rfl (inC xx) i0 (.agg (inC zIns)) Tryd.underlying32 hi hz0 (by rw [hz1]; decide) (by rw [hz1]; decide) (by rw [hz1]; simp only [List.map_toArray, List.map_cons, List.map_nil]; exact fill_in xx) ?_
        have KC8 : Cur (u7.alloc (.cells (inC xx) 111)) c s (p + 16) 0 := Blk.alloc KC7 _
        have KV8 := KV7.alloc (.cells (inC xx) 111)
        have KE8 := KE7.alloc (.cells (inC xx) 111)
        have KO8 := KO7.alloc (.cells (inC xx) 111)
        have KG8 := Blk.new u7 111 (inC xx)
        have C8 := C7.alloc C7.size (.cells (inC xx) 111)
        have hC8 : Bs ≤ (u7.alloc (.cells (inC xx) 111)).heap.size := Nat.le_trans hC7 (by simp)
        have e44 := KV8.cv 44 vv rfl
        generalize u7.alloc (.cells (inC xx) 111) = u8 at *
        generalize u7.heap.size = G at *
        refine hK _ _ ?_ (fun hHeld => ?_)
        · exact e44
        clear hK K
        (try simp only [Act.put, List.getElem_toArray, List.getElem_cons_zero, List.getElem_cons_succ, List.setIfInBounds_toArray, List.set_cons_zero, List.set_cons_succ])
        refine wpAnyS_last (r := 19) (by kernel_rfl) rfl (by rfl) (by rfl) (fun K hK => ?_)
        (try simp only [List.getElem_toArray, List.getElem_cons_zero, List.getElem_cons_succ])
        refine own_append xx rfl rfl rfl KO8 KG8 (by rw [hll]; omega) hC8 (fun v3 u9 KO9 b9 R9 => ?_)
        have KC9 : Cur u9 c s (p + 16) 0 := Blk.below KC8 b9 hCB
        have KV9 := KV8.below b9 hAB
        have KE9 := KE8.below b9 hEB
        have C9 := C8.trans (b9.mono hwBs)
        have hC9 := Nat.le_trans hC8 b9.size
        obtain ⟨a3, c3, hv3, -⟩ := KO9.inL
        subst hv3
        refine hK _ _ ?_
        clear hK K
        (try simp only [Act.put, List.getElem_toArray, List.getElem_cons_zero, List.getElem_cons_succ, List.setIfInBounds_toArray, List.set_cons_zero, List.set_cons_succ])
        refine wpAny_take (i := 20) (v := ?_) rfl (by kernel_rfl) (by kernel_rfl) (by kernel_rfl) (fun _ _ _ h => leaves_put (fn := Tryd.f7) (R := Q) (a := 2) (b := 3) rfl (by decide) (by decide) h) (Or.inl ⟨by rfl, ?_⟩) ?_
        rotate_left
        · intro w; go_simp; (try with_reducible rfl)
        (try simp only [Act.put, List.getElem_toArray, List.getElem_cons_zero, List.getElem_cons_succ, List.setIfInBounds_toArray, List.set_cons_zero, List.set_cons_succ])
        refine wpAny_one (r := 21) (by kernel_rfl) rfl (by rfl) (fun K hK => ?_)
        (try simp only [List.getElem_toArray, List.getElem_cons_zero, List.getElem_cons_succ])
        refine wp_store_op (k := 44) 32 (.slice a3 (Ik ++ [xx]).length c3) (msC MM (.slice a3 (Ik ++ [xx]).length c3)) (by rfl) rfl rfl KV9 (by kernel_rfl) (show (44 + 1 : Nat) ≤ 45 by decide) (by rfl) rfl (fun uA KVA bA gA => ?_)
        have KCA : Cur uA c s (p + 16) 0 := Blk.grown KC9 gA (by simp; omega)
        have KEA := KE9.grown gA (by simp)
        have KOA := KO9.grown gA (fun q hq => by cases hq; exact hAB)
        have CA := grown_belowA C9 gA C9.size (Nat.le_refl _)
        have hCA : Bs ≤ uA.heap.size := Nat.le_trans hC9 gA.size
        refine hK _ _ ?_
        clear hK K
        (try simp only [Act.put, List.getElem_toArray, List.getElem_cons_zero, List.getElem_cons_succ, List.setIfInBounds_toArray, List.set_cons_zero, List.set_cons_succ])
        refine wpAny_done (by kernel_rfl) ?_ _
        rw [hxe, ← hIk.out] at KOA KVA
        go_wp2
        go_roundw
        case rel =>
          have KCB : Cur uA c s (102 + 16 * (k + 1)) 0 := by rw [hpe]; exact KCA
          have hA1 : k + 1 ≤ n := by omega
          have hA2 : 102 + 16 * (k + 1) ≤ s.size := by omega
          exact ⟨k + 1, _, hA1, by go_num, hA2, KCB, KVA, KEA, KOA, CA, hCA⟩
        case measure => simp [intOf]; omega
      · obtain rfl : k = n := by omega
        have q2 : decide ((k : Int) < (k : Int)) = false := decide_eq_false (by omega)
        have hall : allE s = none := by rw [hno]; exact insE_none s.size 102 k hp
        have hMs : MM = msAt s := by rw [HMM.out, ← HX.out, Hnm.out, Hl0.out, Hy1.out, Hy2.out, Hy3.out, Hy4.out, Hy5.out]; rfl
        have hEnd := Lib.hid (fun vv w' => hQo.out vv w' hall)
        rw [← hMs] at hEnd
        clear hall hMs
        obtain ⟨a', c', hv', -⟩ := HOk.inL
        subst hv'
        generalize insAt s 102 k = Ik at *
        generalize hVV : Value.slice a' Ik.length c' = vs at *
        have hone : vs.oneCell' = true := by rw [← hVV]; rfl
        go_upto_region 21 with (fail)
        refine wp_region_noPanic ?_
        refine wp_region_held_drew (S := (fun w' => Blk w' w.heap.size 34 (msC MM vs) ∧ Blk w' (w.heap.size + 1) 37 (ftC 0 (-1)))) (by kernel_rfl) ?_ (fun hHeld => ?_)
        · exact ⟨HVk, HEk⟩
        refine wpAnyH_take (i := 0) (v := .agg (msC MM vs)) rfl (by kernel_rfl) (by kernel_rfl) (by kernel_rfl) (fun _ _ _ h => h) (Or.inl ⟨by rfl, fun w hSw => by subst hVV; exact exec_load_blk (k := 0) 34 (msC MM (.slice a' Ik.length c')) rfl rfl hSw.1 (by kernel_rfl) (by kernel_rfl) rfl⟩) (by assumption) ?_
        (try simp only [Act.put, List.getElem_toArray, List.getElem_cons_zero, List.getElem_cons_succ, List.setIfInBounds_toArray, List.set_cons_zero, List.set_cons_succ])
        refine wpAnyH_take (i := 1) (v := .agg (ftC 0 (-1))) rfl (by kernel_rfl) (by kernel_rfl) (by kernel_rfl) (fun _ _ _ h => h) (Or.inl ⟨by rfl, fun w hSw => exec_load_blk (k := 0) 37 (ftC 0 (-1)) rfl rfl hSw.2 (by kernel_rfl) (by kernel_rfl) rfl⟩) (by assumption) ?_
        (try simp only [Act.put, List.getElem_toArray, List.getElem_cons_zero, List.getElem_cons_succ, List.setIfInBounds_toArray, List.set_cons_zero, List.set_cons_succ])
        have Ad := HVk.drew
        have Ed := HEk.drew
        have Od : OwnI wr.drew Bs vs Ik := HOk
        have Bd := Bk.drew
        refine wpAnyH_ready (rs := [2]) (by kernel_rfl) (by simp) ?_
        refine (AllReadyH.cons rfl (fun K hK => ?_) AllReadyH.nil)
        simp only [List.getElem_toArray, List.getElem_cons_zero, List.getElem_cons_succ]
        rw [if_pos (by rfl)]
        refine wp_store_op (k := 0) 34 (.agg (msC MM vs)) (msC MM vs) (by rfl) rfl rfl Ad (by kernel_rfl) (show (45 : Nat) ≤ 45 from Nat.le_refl 45) (by subst hVV; rfl) (by subst hVV; exact st_whole _ _ rfl) (fun wA HAx bA gA => ?_)
        have HEx := Ed.grown gA (by simp)
        have Ox := Od.grown gA (fun q hq => by cases hq; exact hAB)
        have Bx := grown_belowA Bd gA Bd.size (Nat.le_refl _)
        refine hK.out _ _ ?_ (fun hHeld => ?_)
        · exact ⟨HAx, HEx⟩
        clear hK K
        (try simp only [Act.put, List.getElem_toArray, List.getElem_cons_zero, List.getElem_cons_succ, List.setIfInBounds_toArray, List.set_cons_zero, List.set_cons_succ])
        refine wpAnyH_ready (rs := [3]) (by kernel_rfl) (by simp) ?_
        refine (AllReadyH.cons rfl (fun K hK => ?_) AllReadyH.nil)
        simp only [List.getElem_toArray, List.getElem_cons_zero, List.getElem_cons_succ]
        rw [if_pos (by rfl)]
        refine wp_store_op (k := 0) 37 (.agg (ftC 0 (-1))) (ftC 0 (-1)) (by rfl) rfl rfl HEx (by kernel_rfl) (show (2 : Nat) ≤ 2 from Nat.le_refl 2) (by rfl) (st_whole _ _ rfl) (fun wB HEy bB gB => ?_)
        have HAy := HAx.grown gB (by simp)
        have Oy := Ox.grown gB (fun q hq => by cases hq; exact hEB)
        have By := grown_belowA Bx gB Bx.size (by omega)
        refine hK.out _ _ ?_ (fun hHeld => ?_)
        · exact ⟨HAy, HEy⟩
        clear hK K
        (try simp only [Act.put, List.getElem_toArray, List.getElem_cons_zero, List.getElem_cons_succ, List.setIfInBounds_toArray, List.set_cons_zero, List.set_cons_succ])
        refine wpAnyH_done (by kernel_rfl) ?_ _
        refine NoPanic.normal ?_
        go_wp2
        subst hVV
        exact ms_door_ok (fun w' b' B' => hEnd.out _ _ (OwnI.mono (Oy.kept b') hwBs) B') rfl rfl HAy HEy By

end Go.Proofs.YtdjljnpbnhampaaDoor

namespace Go.Proofs.YtdjljnpbnhampaaDoor
open Go.RowKit Go.Extern.Stop Go.Stop Go.Extern

/-! Closed facts on the entries for internal/reflectlite at this program's types. -/

theorem Tryd.rlValueOfPE (t : Addr) (w : World) : (ReflectliteValue.unpack (.iface 152 (.pointer (some t)))).run Tryd.prog w
    = .ok (.agg #[.pointer (some ⟨4, 152, none⟩), .pointer (some ⟨w.heap.size, 0, none⟩), .int .u64 150]) (w.alloc (.cells #[.pointer (some t)] 152)) := by kernel_rfl

theorem Tryd.rlTypePE (a : Addr) (w : World) : (ReflectliteValue.methodAny (ReflectliteValue.valueError "reflectlite.Value.Type" 0) (fun t _ _ _ => ReflectliteType.toType t) #[.agg #[.pointer (some ⟨4, 152, none⟩), .pointer (some a), .int .u64 150]]).run Tryd.prog w
    = .ok (.iface 221 (.agg #[.pointer (some ⟨4, 152, none⟩)])) w := by kernel_rfl

theorem Tryd.rlMethodKind (h : Value) (w : World) : (Go.method 372 221 (.agg #[h]) "Kind").run Tryd.prog w = .ok (147, h) w := by kernel_rfl

theorem Tryd.rlKindPE (w : World) : ((ReflectliteType.abiMethod fun t => (fun a : Nat => Value.int IntKind.u8 (a : Int)) <$> Rtype.kind t) #[.pointer (some ⟨4, 152, none⟩)]).run Tryd.prog w = .ok (.int .u8 22) w := by kernel_rfl

theorem Tryd.rlKindE (w : World) : ((ReflectliteType.abiMethod fun t => (fun a : Nat => Value.int IntKind.u8 (a : Int)) <$> Rtype.kind t) #[.pointer (some ⟨4, 35, none⟩)]).run Tryd.prog w = .ok (.int .u8 2) w := by kernel_rfl

theorem Tryd.rlPartsPE (a : Addr) (w : World) : (ReflectliteValue.parts (.agg #[.pointer (some ⟨4, 152, none⟩), .pointer (some a), .int .u64 150])).run Tryd.prog w = .ok (some (152, a, 150)) w := by kernel_rfl

theorem Tryd.rlIsNilPE (a p : Addr) (W : World) (ha : W.cell? a = some (.pointer (some p))) :
    (ReflectliteValue.method (ReflectliteValue.valueError "reflectlite.Value.IsNil" 0) ReflectliteValue.isNil #[.agg #[.pointer (some ⟨4, 152, none⟩), .pointer (some a), .int .u64 150]]).run Tryd.prog W = .ok (.bool false) W := by
  change Sem.run _ (ReflectliteValue.parts (.agg #[.pointer (some ⟨4, 152, none⟩), .pointer (some a), .int .u64 150]) >>= _) _ = _
  simp only [Sem.run_bind, Tryd.rlPartsPE, Result.andThen]
  simp [ReflectliteValue.isNil, loadVar, isAgg, underlying, Tryd.underlying152, ha, Result.andThen]

theorem Tryd.rlMethodElem (h : Value) (w : World) : (Go.method 372 221 (.agg #[h]) "Elem").run Tryd.prog w = .ok (160, .agg #[h]) w := by kernel_rfl

theorem Tryd.rlMethodImplements (h : Value) (w : World) : (Go.method 372 221 (.agg #[h]) "Implements").run Tryd.prog w = .ok (161, .agg #[h]) w := by kernel_rfl

theorem Tryd.rlMethodAssignableTo (h : Value) (w : World) : (Go.method 372 221 (.agg #[h]) "AssignableTo").run Tryd.prog w = .ok (158, .agg #[h]) w := by kernel_rfl

theorem Tryd.rlElemPE (w : World) : (ReflectliteType.method ReflectliteType.elem #[.agg #[.pointer (some ⟨4, 152, none⟩)]]).run Tryd.prog w = .ok (.iface 221 (.agg #[.pointer (some ⟨4, 35, none⟩)])) w := by kernel_rfl

theorem Tryd.rlImplementsE (w : World) : (ReflectliteType.relation "Implements" ReflectliteType.implements_ #[.agg #[.pointer (some ⟨4, 35, none⟩)], .iface 221 (.agg #[.pointer (some ⟨4, 41, none⟩)])]).run Tryd.prog w = .ok (.bool true) w := by kernel_rfl

theorem Tryd.rlTypeOfE (v : Value) (w : World) : (ReflectliteType.typeOf #[.iface 35 v]).run Tryd.prog w = .ok (.iface 221 (.agg #[.pointer (some ⟨4, 35, none⟩)])) w := by kernel_rfl

theorem Tryd.rlTypeOfA (v : Value) (w : World) : (ReflectliteType.typeOf #[.iface 142 v]).run Tryd.prog w = .ok (.iface 221 (.agg #[.pointer (some ⟨4, 142, none⟩)])) w := by kernel_rfl

theorem Tryd.rlAssignableEE (w : World) : (ReflectliteType.relation "AssignableTo" ReflectliteType.assignableTo #[.agg #[.pointer (some ⟨4, 35, none⟩)], .iface 221 (.agg #[.pointer (some ⟨4, 35, none⟩)])]).run Tryd.prog w = .ok (.bool true) w := by kernel_rfl

theorem Tryd.rlAssignableAE (w : World) : (ReflectliteType.relation "AssignableTo" ReflectliteType.assignableTo #[.agg #[.pointer (some ⟨4, 142, none⟩)], .iface 221 (.agg #[.pointer (some ⟨4, 35, none⟩)])]).run Tryd.prog w = .ok (.bool false) w := by kernel_rfl

theorem Tryd.rlValueOfE (x : Int) (w : World) : (ReflectliteValue.unpack (.iface 35 (.int .i64 x))).run Tryd.prog w
    = .ok (.agg #[.pointer (some ⟨4, 35, none⟩), .pointer (some ⟨w.heap.size, 0, none⟩), .int .u64 130]) (w.alloc (.cells #[.int .i64 x] 35)) := by kernel_rfl

theorem Tryd.rlElemOfPE (w : World) : (Rtype.elem? 152).run Tryd.prog w = .ok (some 35) w := by kernel_rfl

theorem Tryd.rlMkE (p : Addr) (w : World) : (ReflectliteValue.mk 35 p ReflectliteValue.flagAddr).run Tryd.prog w = .ok (.agg #[.pointer (some ⟨4, 35, none⟩), .pointer (some p), .int .u64 386]) w := by kernel_rfl

theorem Tryd.rlElemVPE (a p : Addr) (W : World) (ha : W.cell? a = some (.pointer (some p))) :
    (ReflectliteValue.method (ReflectliteValue.valueError "reflectlite.Value.Elem" 0) ReflectliteValue.elem #[.agg #[.pointer (some ⟨4, 152, none⟩), .pointer (some a), .int .u64 150]]).run Tryd.prog W
      = .ok (.agg #[.pointer (some ⟨4, 35, none⟩), .pointer (some p), .int .u64 386]) W := by
  change Sem.run _ (ReflectliteValue.parts (.agg #[.pointer (some ⟨4, 152, none⟩), .pointer (some a), .int .u64 150]) >>= _) _ = _
  simp only [Sem.run_bind, Tryd.rlPartsPE, Result.andThen]
  simp [ReflectliteValue.elem, loadVar, isAgg, underlying, Tryd.underlying152, ha, Result.andThen, Tryd.rlElemOfPE, Tryd.rlMkE]

theorem Tryd.rlPartsEa (a : Addr) (w : World) : (ReflectliteValue.parts (.agg #[.pointer (some ⟨4, 35, none⟩), .pointer (some a), .int .u64 386])).run Tryd.prog w = .ok (some (35, a, 386)) w := by kernel_rfl

theorem Tryd.rlPartsE (a : Addr) (w : World) : (ReflectliteValue.parts (.agg #[.pointer (some ⟨4, 35, none⟩), .pointer (some a), .int .u64 130])).run Tryd.prog w = .ok (some (35, a, 130)) w := by kernel_rfl

theorem Tryd.rlDirectE (w : World) : (Rtype.directlyAssignable 35 35).run Tryd.prog w = .ok true w := by kernel_rfl

theorem Tryd.rlSizeE (w : World) : (sizeOf 35).run Tryd.prog w = .ok 1 w := by kernel_rfl

theorem Tryd.rlSetE (ta b : Addr) (x : Int) (old : Value) (W : World) (hb : W.cell? b = some (.int .i64 x)) (ht : W.cell? ta = some old) (hf : W.frozen? ta = false) :
    (ReflectliteValue.set #[.agg #[.pointer (some ⟨4, 35, none⟩), .pointer (some ta), .int .u64 386], .agg #[.pointer (some ⟨4, 35, none⟩), .pointer (some b), .int .u64 130]]).run Tryd.prog W
      = .ok (.tuple #[]) (W.setCell ta (.int .i64 x)) := by
  change Sem.run _ (ReflectliteValue.parts (.agg #[.pointer (some ⟨4, 35, none⟩), .pointer (some ta), .int .u64 386]) >>= fun _ => ReflectliteValue.parts (.agg #[.pointer (some ⟨4, 35, none⟩), .pointer (some b), .int .u64 130]) >>= _) _ = _
  simp only [Sem.run_bind, Tryd.rlPartsEa, Tryd.rlPartsE, Result.andThen]
  simp [ReflectliteValue.flagAddr, loadVar, isAgg, underlying, Tryd.underlying35, hb, Result.andThen, Tryd.rlDirectE, storeVar, Value.cells, storeCells, Addr.add]
  rw [run_store Tryd.prog W ta _ _ (by rfl)]
  simp [ht, hf]

end Go.Proofs.YtdjljnpbnhampaaDoor

namespace Go.Proofs.YtdjljnpbnhampaaDoor
open Go.RowKit Go.Extern.Stop Go.Stop Go.Extern

/-- The variable errors.errorType holds the type error's handle. -/
def HasErr (w : World) : Prop := w.cell? ⟨0, 0, none⟩ = some (.iface 221 (.agg #[.pointer (some ⟨4, 41, none⟩)]))

theorem HasErr.lt {w : World} (h : HasErr w) : 0 < w.heap.size := by
  rcases Nat.lt_or_ge 0 w.heap.size with h' | h'
  · exact h'
  · have : w.cell? ⟨0, 0, none⟩ = none := by simp [World.cell?, Array.getElem?_eq_none h']
    unfold HasErr at h
    rw [this] at h
    cases h

theorem HasErr.alloc {w : World} (h : HasErr w) (o : Obj) : HasErr (w.alloc o) := (World.cell?_alloc_lt _ _ _ h.lt).trans h

theorem HasErr.below {w w' : World} (h : HasErr w) (hb : Below w.heap.size w w') : HasErr w' := (hb.cell (p := ⟨0, 0, none⟩) h.lt).trans h

theorem as_nil (t : Value) (w : World) :
    Calls Tryd.prog 69 #[.nilIface, t] w fun e w' => e = .returned (.bool false) ∧ w' = w := by
  go_enter Tryd.func69, Tryd.ntmps69
  go_wp2
  go_ret
  exact ⟨rfl, rfl⟩

set_option maxHeartbeats 4000000 in
/-- errors.As, the error is an Errno: it is found. -/
theorem as_errno (x : Int) (t : Addr) (old : Value) (w : World) (hg : HasErr w) (ht0 : w.cell? t = some old) (hf0 : w.frozen? t = false) :
    Calls Tryd.prog 69 #[.iface 35 (.int .i64 x), .iface 152 (.pointer (some t))] w fun ev w' => ev = .returned (.bool true) ∧ ∃ w1, Below w.heap.size w w1 ∧ w' = w1.setCell t (.int .i64 x) := by
  have hVO := @run_callFunc_extern Tryd.prog 97 _ (fun args => ReflectliteValue.unpack (args.getD 0 (.tuple #[]))) Tryd.func97 (by kernel_rfl) (by kernel_rfl) (by kernel_rfl) (by kernel_rfl)
  have hTy := @run_callFunc_extern Tryd.prog 98 _ (ReflectliteValue.methodAny (ReflectliteValue.valueError "reflectlite.Value.Type" 0) (fun t _ _ _ => ReflectliteType.toType t)) Tryd.func98 (by kernel_rfl) (by kernel_rfl) (by kernel_rfl) (by kernel_rfl)
  have hIN := @run_callFunc_extern Tryd.prog 99 _ (ReflectliteValue.method (ReflectliteValue.valueError "reflectlite.Value.IsNil" 0) ReflectliteValue.isNil) Tryd.func99 (by kernel_rfl) (by kernel_rfl) (by kernel_rfl) (by kernel_rfl)
  have hKi := @run_callFunc_extern Tryd.prog 147 _ (ReflectliteType.abiMethod fun t => do pure (.int .u8 (← Rtype.kind t))) Tryd.func147 (by kernel_rfl) (by kernel_rfl) (by kernel_rfl) (by kernel_rfl)
  have hEl := @run_callFunc_extern Tryd.prog 160 _ (ReflectliteType.method ReflectliteType.elem) Tryd.func160 (by kernel_rfl) (by kernel_rfl) (by kernel_rfl) (by kernel_rfl)
  have hIm := @run_callFunc_extern Tryd.prog 161 _ (ReflectliteType.relation "Implements" ReflectliteType.implements_) Tryd.func161 (by kernel_rfl) (by kernel_rfl) (by kernel_rfl) (by kernel_rfl)
  have hTO := @run_callFunc_extern Tryd.prog 115 _ ReflectliteType.typeOf Tryd.func115 (by kernel_rfl) (by kernel_rfl) (by kernel_rfl) (by kernel_rfl)
  have hAT := @run_callFunc_extern Tryd.prog 158 _ (ReflectliteType.relation "AssignableTo" ReflectliteType.assignableTo) Tryd.func158 (by kernel_rfl) (by kernel_rfl) (by kernel_rfl) (by kernel_rfl)
  have hEV := @run_callFunc_extern Tryd.prog 116 _ (ReflectliteValue.method (ReflectliteValue.valueError "reflectlite.Value.Elem" 0) ReflectliteValue.elem) Tryd.func116 (by kernel_rfl) (by kernel_rfl) (by kernel_rfl) (by kernel_rfl)
  have hSe := @run_callFunc_extern Tryd.prog 117 _ ReflectliteValue.set Tryd.func117 (by kernel_rfl) (by kernel_rfl) (by kernel_rfl) (by kernel_rfl)
  have q1 := Tryd.rlValueOfPE
  have q2 := Tryd.rlTypePE
  have q3 := Tryd.rlMethodKind
  have q4 := Tryd.rlKindPE
  have q5 := Tryd.rlKindE
  have q6 := Tryd.rlMethodElem
  have q7 := Tryd.rlMethodImplements
  have q8 := Tryd.rlMethodAssignableTo
  have q9 := Tryd.rlElemPE
  have q10 := Tryd.rlImplementsE
  have q11 := Tryd.rlTypeOfE
  have q12 := Tryd.rlAssignableEE
  have q13 := Tryd.rlValueOfE
  have n8 := Tryd.rlIsNilPE ⟨w.heap.size, 0, none⟩ t ((w.alloc (.cells #[.pointer (some t)] 152)).alloc (.cells #[.pointer (some ⟨4, 152, none⟩), .pointer (some ⟨w.heap.size, 0, none⟩), .int .u64 150] 197)) (by simp)
  have hg2 : ((w.alloc (.cells #[.pointer (some t)] 152)).alloc (.cells #[.pointer (some ⟨4, 152, none⟩), .pointer (some ⟨w.heap.size, 0, none⟩), .int .u64 150] 197)).cell? ⟨0, 0, none⟩ = some (.iface 221 (.agg #[.pointer (some ⟨4, 41, none⟩)])) := (hg.alloc _).alloc _
  have htl : t.block < w.heap.size := by
    rcases Nat.lt_or_ge t.block w.heap.size with h | h
    · exact h
    · simp [World.cell?, Array.getElem?_eq_none h] at ht0
  have el := Tryd.rlElemVPE ⟨w.heap.size, 0, none⟩ t (((w.alloc (.cells #[.pointer (some t)] 152)).alloc (.cells #[.pointer (some ⟨4, 152, none⟩), .pointer (some ⟨w.heap.size, 0, none⟩), .int .u64 150] 197)).alloc (.cells #[.pointer (some ⟨4, 152, none⟩), .pointer (some ⟨w.heap.size, 0, none⟩), .int .u64 150] 197)) (by rw [World.cell?_alloc_lt _ _ ⟨w.heap.size, 0, none⟩ (by simp; omega)]; simp)
  have st := Tryd.rlSetE t ⟨w.heap.size + 1 + 1 + 1, 0, none⟩ x old ((((w.alloc (.cells #[.pointer (some t)] 152)).alloc (.cells #[.pointer (some ⟨4, 152, none⟩), .pointer (some ⟨w.heap.size, 0, none⟩), .int .u64 150] 197)).alloc (.cells #[.pointer (some ⟨4, 152, none⟩), .pointer (some ⟨w.heap.size, 0, none⟩), .int .u64 150] 197)).alloc (.cells #[.int .i64 x] 35))
    (by rw [World.cell?_alloc_at _ _ _ _ (by simp)]; rfl)
    (by rw [World.cell?_alloc_lt _ _ t (by simp; omega), World.cell?_alloc_lt _ _ t (by simp; omega), World.cell?_alloc_lt _ _ t (by simp; omega), World.cell?_alloc_lt _ _ t htl]; exact ht0)
    (by rw [World.frozen?_alloc_old _ _ t (by simp; omega), World.frozen?_alloc_old _ _ t (by simp; omega), World.frozen?_alloc_old _ _ t (by simp; omega), World.frozen?_alloc_old _ _ t (Nat.ne_of_lt htl)]; exact hf0)
  have hB : Below w.heap.size w ((((w.alloc (.cells #[.pointer (some t)] 152)).alloc (.cells #[.pointer (some ⟨4, 152, none⟩), .pointer (some ⟨w.heap.size, 0, none⟩), .int .u64 150] 197)).alloc (.cells #[.pointer (some ⟨4, 152, none⟩), .pointer (some ⟨w.heap.size, 0, none⟩), .int .u64 150] 197)).alloc (.cells #[.int .i64 x] 35)) := ((((Below.refl _ _).alloc (Nat.le_refl _) _).alloc (by simp) _).alloc (by simp; omega) _).alloc (by simp; omega) _
  have HB := Lib.hid hB
  clear hB
  go_enter Tryd.func69, Tryd.ntmps69
  go_wp2
  refine wp_loop_rounds 1 ?_
  rw [rounds_succ]
  go_wp2
  go_ret
  exact ⟨rfl, _, HB.out, rfl⟩
/-! What is asked of an *api.At: it has no As, it has an Unwrap. -/

theorem Tryd.noAsA (v : Value) (xT : TypeId) (w : World) : (Instr.typeAssert (.iface 142 v) xT 226 true).run Tryd.prog w = .ok (.tuple #[.nilIface, .bool false]) w :=
  run_typeAssert_lacksB Tryd.underlying226 (by kernel_rfl) (by kernel_rfl) v xT w

theorem Tryd.hasUnwrapA (v : Value) (xT : TypeId) (w : World) : (Instr.typeAssert (.iface 142 v) xT 175 true).run Tryd.prog w = .ok (.tuple #[.iface 142 v, .bool true]) w :=
  run_typeAssert_hasB Tryd.underlying175 (by kernel_rfl) v xT w

theorem Tryd.methodUnwrapA (a : Addr) (w : World) : (Go.method 372 142 (.pointer (some a)) "Unwrap").run Tryd.prog w = .ok (152, .pointer (some a)) w := by kernel_rfl

theorem Tryd.nilAheadA (a : Addr) (w : World) : (Go.nilAhead 372 142 (.pointer (some a)) "Unwrap").run Tryd.prog w = .ok (some false) w := by kernel_rfl

set_option maxHeartbeats 4000000 in
/-- errors.As, the error is an *api.At: its Unwrap is asked, and is an Errno. -/
theorem as_at (p : Nat) (x y : Int) (t : Addr) (old : Value) (w : World) (hp : Flt w p x y) (hg : HasErr w) (ht0 : w.cell? t = some old) (hf0 : w.frozen? t = false) :
    Calls Tryd.prog 69 #[.iface 142 (.pointer (some ⟨p, 0, none⟩)), .iface 152 (.pointer (some t))] w fun ev w' => ev = .returned (.bool true) ∧ ∃ w1, Below w.heap.size w w1 ∧ w' = w1.setCell t (.int .i64 x) := by
  have hVO := @run_callFunc_extern Tryd.prog 97 _ (fun args => ReflectliteValue.unpack (args.getD 0 (.tuple #[]))) Tryd.func97 (by kernel_rfl) (by kernel_rfl) (by kernel_rfl) (by kernel_rfl)
  have hTy := @run_callFunc_extern Tryd.prog 98 _ (ReflectliteValue.methodAny (ReflectliteValue.valueError "reflectlite.Value.Type" 0) (fun t _ _ _ => ReflectliteType.toType t)) Tryd.func98 (by kernel_rfl) (by kernel_rfl) (by kernel_rfl) (by kernel_rfl)
  have hIN := @run_callFunc_extern Tryd.prog 99 _ (ReflectliteValue.method (ReflectliteValue.valueError "reflectlite.Value.IsNil" 0) ReflectliteValue.isNil) Tryd.func99 (by kernel_rfl) (by kernel_rfl) (by kernel_rfl) (by kernel_rfl)
  have hKi := @run_callFunc_extern Tryd.prog 147 _ (ReflectliteType.abiMethod fun t => do pure (.int .u8 (← Rtype.kind t))) Tryd.func147 (by kernel_rfl) (by kernel_rfl) (by kernel_rfl) (by kernel_rfl)
  have hEl := @run_callFunc_extern Tryd.prog 160 _ (ReflectliteType.method ReflectliteType.elem) Tryd.func160 (by kernel_rfl) (by kernel_rfl) (by kernel_rfl) (by kernel_rfl)
  have hIm := @run_callFunc_extern Tryd.prog 161 _ (ReflectliteType.relation "Implements" ReflectliteType.implements_) Tryd.func161 (by kernel_rfl) (by kernel_rfl) (by kernel_rfl) (by kernel_rfl)
  have hTO := @run_callFunc_extern Tryd.prog 115 _ ReflectliteType.typeOf Tryd.func115 (by kernel_rfl) (by kernel_rfl) (by kernel_rfl) (by kernel_rfl)
  have hAT := @run_callFunc_extern Tryd.prog 158 _ (ReflectliteType.relation "AssignableTo" ReflectliteType.assignableTo) Tryd.func158 (by kernel_rfl) (by kernel_rfl) (by kernel_rfl) (by kernel_rfl)
  have hEV := @run_callFunc_extern Tryd.prog 116 _ (ReflectliteValue.method (ReflectliteValue.valueError "reflectlite.Value.Elem" 0) ReflectliteValue.elem) Tryd.func116 (by kernel_rfl) (by kernel_rfl) (by kernel_rfl) (by kernel_rfl)
  have hSe := @run_callFunc_extern Tryd.prog 117 _ ReflectliteValue.set Tryd.func117 (by kernel_rfl) (by kernel_rfl) (by kernel_rfl) (by kernel_rfl)
  have q1 := Tryd.rlValueOfPE
  have q2 := Tryd.rlTypePE
  have q3 := Tryd.rlMethodKind
  have q4 := Tryd.rlKindPE
  have q5 := Tryd.rlKindE
  have q6 := Tryd.rlMethodElem
  have q7 := Tryd.rlMethodImplements
  have q8 := Tryd.rlMethodAssignableTo
  have q9 := Tryd.rlElemPE
  have q10 := Tryd.rlImplementsE
  have q11 := Tryd.rlTypeOfE
  have q12 := Tryd.rlAssignableEE
  have q13 := Tryd.rlValueOfE
  have q14 := Tryd.rlTypeOfA
  have q15 := Tryd.rlAssignableAE
  have q16 := Tryd.noAsA
  have q17 := Tryd.hasUnwrapA
  have q18 := Tryd.methodUnwrapA
  have q19 := Tryd.nilAheadA
  have n8 := Tryd.rlIsNilPE ⟨w.heap.size, 0, none⟩ t ((w.alloc (.cells #[.pointer (some t)] 152)).alloc (.cells #[.pointer (some ⟨4, 152, none⟩), .pointer (some ⟨w.heap.size, 0, none⟩), .int .u64 150] 197)) (by simp)
  have hg2 : ((w.alloc (.cells #[.pointer (some t)] 152)).alloc (.cells #[.pointer (some ⟨4, 152, none⟩), .pointer (some ⟨w.heap.size, 0, none⟩), .int .u64 150] 197)).cell? ⟨0, 0, none⟩ = some (.iface 221 (.agg #[.pointer (some ⟨4, 41, none⟩)])) := (hg.alloc _).alloc _
  have htl : t.block < w.heap.size := by
    rcases Nat.lt_or_ge t.block w.heap.size with h | h
    · exact h
    · simp [World.cell?, Array.getElem?_eq_none h] at ht0
  have el := Tryd.rlElemVPE ⟨w.heap.size, 0, none⟩ t (((w.alloc (.cells #[.pointer (some t)] 152)).alloc (.cells #[.pointer (some ⟨4, 152, none⟩), .pointer (some ⟨w.heap.size, 0, none⟩), .int .u64 150] 197)).alloc (.cells #[.pointer (some ⟨4, 152, none⟩), .pointer (some ⟨w.heap.size, 0, none⟩), .int .u64 150] 197)) (by rw [World.cell?_alloc_lt _ _ ⟨w.heap.size, 0, none⟩ (by simp; omega)]; simp)
  have st := Tryd.rlSetE t ⟨w.heap.size + 1 + 1 + 1, 0, none⟩ x old ((((w.alloc (.cells #[.pointer (some t)] 152)).alloc (.cells #[.pointer (some ⟨4, 152, none⟩), .pointer (some ⟨w.heap.size, 0, none⟩), .int .u64 150] 197)).alloc (.cells #[.pointer (some ⟨4, 152, none⟩), .pointer (some ⟨w.heap.size, 0, none⟩), .int .u64 150] 197)).alloc (.cells #[.int .i64 x] 35))
    (by rw [World.cell?_alloc_at _ _ _ _ (by simp)]; rfl)
    (by rw [World.cell?_alloc_lt _ _ t (by simp; omega), World.cell?_alloc_lt _ _ t (by simp; omega), World.cell?_alloc_lt _ _ t (by simp; omega), World.cell?_alloc_lt _ _ t htl]; exact ht0)
    (by rw [World.frozen?_alloc_old _ _ t (by simp; omega), World.frozen?_alloc_old _ _ t (by simp; omega), World.frozen?_alloc_old _ _ t (by simp; omega), World.frozen?_alloc_old _ _ t (Nat.ne_of_lt htl)]; exact hf0)
  have hB : Below w.heap.size w ((((w.alloc (.cells #[.pointer (some t)] 152)).alloc (.cells #[.pointer (some ⟨4, 152, none⟩), .pointer (some ⟨w.heap.size, 0, none⟩), .int .u64 150] 197)).alloc (.cells #[.pointer (some ⟨4, 152, none⟩), .pointer (some ⟨w.heap.size, 0, none⟩), .int .u64 150] 197)).alloc (.cells #[.int .i64 x] 35)) := ((((Below.refl _ _).alloc (Nat.le_refl _) _).alloc (by simp) _).alloc (by simp; omega) _).alloc (by simp; omega) _
  have hc0 : (((w.alloc (.cells #[.pointer (some t)] 152)).alloc (.cells #[.pointer (some ⟨4, 152, none⟩), .pointer (some ⟨w.heap.size, 0, none⟩), .int .u64 150] 197)).alloc (.cells #[.pointer (some ⟨4, 152, none⟩), .pointer (some ⟨w.heap.size, 0, none⟩), .int .u64 150] 197)).cell? ⟨p, 0, none⟩ = some (.int .i64 x) := (((hp.alloc _).alloc _).alloc _).c0
  have HB := Lib.hid hB
  clear hB
  go_enter Tryd.func69, Tryd.ntmps69
  go_wp2
  refine wp_loop_rounds 2 ?_
  rw [rounds_succ]
  go_wp2
  rw [rounds_succ]
  go_wp2
  go_ret
  exact ⟨rfl, _, HB.out, rfl⟩

end Go.Proofs.YtdjljnpbnhampaaDoor

namespace Go.Proofs.YtdjljnpbnhampaaDoor
open Go.RowKit Go.Extern.Stop Go.Stop Go.Extern

/-- What errors.As leaves: the target holds the Errno; nothing else that was there is changed. -/
theorem as_left {t : Addr} {x : Int} {old : Value} {w w1 : World} (hb : Below w.heap.size w w1) (ht : w.cell? t = some old) :
    (w1.setCell t (.int .i64 x)).cell? t = some (.int .i64 x) ∧ w.grownBy (w1.setCell t (.int .i64 x)) (some t.block) := by
  have hlt : t.block < w.heap.size := World.block_lt_of_cell? w t ht
  have hc : w1.cell? t = some old := (hb.cell hlt).trans ht
  refine ⟨World.cell?_setCell_same' w1 t _ (by rw [hc]; rfl), hb.os, hb.tape, hb.output, by simpa [World.setCell] using hb.size, fun k hk hne => ?_⟩
  exact (Below.heap_setCell _ _ _ _ (by intro e; exact hne (by rw [e]))).trans (hb.block k hk)

theorem tell_nil (w : World) : Calls Tryd.prog 23 #[.nilIface] w fun e w' => e = .returned (.int .i64 0) ∧ w = w' := by
  go_enter Tryd.func23, Tryd.ntmps23
  go_wp2
  go_ret
  exact ⟨rfl, rfl⟩

theorem tell_errno (x : Int) (w : World) (hg : HasErr w) : Calls Tryd.prog 23 #[.iface 35 (.int .i64 x)] w fun e w' => e = .returned (.int .i64 x) ∧ Below w.heap.size w w' := by
  go_enter Tryd.func23, Tryd.ntmps23
  go_wp2_with fail
  have hc : (w.alloc (.cells #[.int .i64 0] 35)).cell? ⟨w.heap.size, 0, none⟩ = some (.int .i64 0) := by simp
  refine (as_errno x ⟨w.heap.size, 0, none⟩ (.int .i64 0) _ (hg.alloc _) hc (by simp)).mono ?_
  rintro e w' ⟨rfl, w1, hb1, rfl⟩
  obtain ⟨h1, h2⟩ := as_left (x := x) hb1 hc
  have hB : Below w.heap.size w (w1.setCell ⟨w.heap.size, 0, none⟩ (.int .i64 x)) := ((Below.refl _ _).alloc (Nat.le_refl _) _).grown h2 (by simp) (fun k e => by cases e; exact Nat.le_refl _)
  clear hb1 h2 hc
  generalize w1.setCell ⟨w.heap.size, 0, none⟩ (.int .i64 x) = w2 at *
  go_wp2
  go_ret
  exact ⟨rfl, hB⟩

theorem tell_at (p : Nat) (x y : Int) (w : World) (hg : HasErr w) (hp : Flt w p x y) : Calls Tryd.prog 23 #[.iface 142 (.pointer (some ⟨p, 0, none⟩))] w fun e w' => e = .returned (.int .i64 x) ∧ Below w.heap.size w w' := by
  go_enter Tryd.func23, Tryd.ntmps23
  go_wp2_with fail
  have hc : (w.alloc (.cells #[.int .i64 0] 35)).cell? ⟨w.heap.size, 0, none⟩ = some (.int .i64 0) := by simp
  refine (as_at p x y ⟨w.heap.size, 0, none⟩ (.int .i64 0) _ (hp.alloc _) (hg.alloc _) hc (by simp)).mono ?_
  rintro e w' ⟨rfl, w1, hb1, rfl⟩
  obtain ⟨h1, h2⟩ := as_left (x := x) hb1 hc
  have hB : Below w.heap.size w (w1.setCell ⟨w.heap.size, 0, none⟩ (.int .i64 x)) := ((Below.refl _ _).alloc (Nat.le_refl _) _).grown h2 (by simp) (fun k e => by cases e; exact Nat.le_refl _)
  clear hb1 h2 hc
  generalize w1.setCell ⟨w.heap.size, 0, none⟩ (.int .i64 x) = w2 at *
  go_wp2
  go_ret
  exact ⟨rfl, hB⟩

theorem Tryd.noUnwrapE (v : Value) (xT : TypeId) (w : World) : (Instr.typeAssert (.iface 35 v) xT 175 true).run Tryd.prog w = .ok (.tuple #[.nilIface, .bool false]) w :=
  run_typeAssert_lacksB Tryd.underlying175 (by kernel_rfl) (by kernel_rfl) v xT w

theorem Tryd.noAtE (v : Value) (w : World) : (Instr.typeAssert (.iface 35 v) 41 142 true).run Tryd.prog w = .ok (.tuple #[.pointer none, .bool false]) w := by kernel_rfl

theorem Tryd.isAtA (v : Value) (w : World) : (Instr.typeAssert (.iface 142 v) 41 142 true).run Tryd.prog w = .ok (.tuple #[v, .bool true]) w := by kernel_rfl

theorem place_nil (w : World) : Calls Tryd.prog 48 #[.nilIface] w fun e w' => e = .returned (.tuple #[.int .i64 0, .int .i64 (-1)]) ∧ w = w' := by
  go_enter Tryd.func48, Tryd.ntmps48
  go_wp2_with fail
  refine (tell_nil _).mono ?_
  rintro e w' ⟨rfl, rfl⟩
  go_wp2
  refine wp_loop_rounds 1 ?_
  rw [rounds_succ]
  go_wp2
  go_ret2
  exact ⟨rfl, rfl⟩

set_option maxRecDepth 100000 in
theorem place_errno (x : Int) (w : World) (hg : HasErr w) : Calls Tryd.prog 48 #[.iface 35 (.int .i64 x)] w fun e w' => e = .returned (.tuple #[.int .i64 x, .int .i64 (-1)]) ∧ Below w.heap.size w w' := by
  have q := Tryd.noUnwrapE
  have q2 := Tryd.noAtE
  go_enter Tryd.func48, Tryd.ntmps48
  go_wp2_with fail
  refine (tell_errno x _ hg).mono ?_
  rintro e w' ⟨rfl, hB⟩
  go_wp2
  refine wp_loop_rounds 1 ?_
  rw [rounds_succ]
  go_wp2
  go_ret2
  exact ⟨rfl, hB⟩

set_option maxRecDepth 100000 in
theorem place_at (p : Nat) (x y : Int) (w : World) (hg : HasErr w) (hp : Flt w p x y) : Calls Tryd.prog 48 #[.iface 142 (.pointer (some ⟨p, 0, none⟩))] w fun e w' => e = .returned (.tuple #[.int .i64 x, .int .i64 y]) ∧ Below w.heap.size w w' := by
  have q2 := Tryd.isAtA
  go_enter Tryd.func48, Tryd.ntmps48
  go_wp2_with fail
  refine (tell_at p x y _ hg hp).mono ?_
  rintro e w' ⟨rfl, hB⟩
  have hc : w'.cell? ⟨p, 1, none⟩ = some (.int .i64 y) := (hB.cell (p := ⟨p, 1, none⟩) hp.lt).trans hp.c1
  go_wp2
  refine wp_loop_rounds 1 ?_
  rw [rounds_succ]
  go_wp2
  go_region
  all_goals go_wp2
  all_goals go_ret2
  all_goals exact ⟨rfl, hB.drew⟩

end Go.Proofs.YtdjljnpbnhampaaDoor

namespace Go.Proofs.YtdjljnpbnhampaaDoor
open Go.RowKit
set_option linter.unusedVariables false

theorem placed_nil (w : World) : Calls Tryd.prog 9 #[.nilIface, .agg (ftC 0 (-1))] w fun e w' => e = .returned (.bool true) ∧ Below w.heap.size w w' := by
  have hb0 : Below w.heap.size w (w.alloc (.cells (ftC 0 (-1)) 37)) := (Below.refl _ _).alloc (Nat.le_refl _) _
  unfold ftC at *
  go_enter Tryd.func9, Tryd.ntmps9
  go_wp2_with fail
  refine (place_nil _).mono ?_
  rintro e w' ⟨rfl, rfl⟩
  go_wp2
  go_ret
  exact ⟨rfl, hb0⟩

theorem placed_at (q : Nat) (x y : Int) (w : World) (hE : HasErr w) (hq : Flt w q x y) : Calls Tryd.prog 9 #[.iface 142 (.pointer (some ⟨q, 0, none⟩)), .agg (ftC x y)] w fun e w' => e = .returned (.bool true) ∧ Below w.heap.size w w' := by
  have hb0 : Below w.heap.size w (w.alloc (.cells (ftC x y) 37)) := (Below.refl _ _).alloc (Nat.le_refl _) _
  have HB := Blk.new w 37 (ftC x y)
  have hq1 := hq.below hb0
  have hE1 : HasErr (w.alloc (.cells (ftC x y) 37)) := hE.below hb0
  go_enter Tryd.func9, Tryd.ntmps9
  go_upto_region 1 with (fail)
  generalize w.alloc (.cells (ftC x y) 37) = w1 at *
  go_wp2_with fail
  refine (place_at q x y _ hE1 hq1).mono ?_
  rintro e w2 ⟨rfl, b2⟩
  have HB2 := HB.kept b2
  have c0 := HB2.cv 0 (.int .i64 x) rfl
  have c1 := HB2.cv 1 (.int .i64 y) rfl
  have e1 : (x == x) = true := by simp
  have e2 : (y == y) = true := by simp
  go_wp2
  go_ret
  exact ⟨rfl, hb0.trans (b2.mono hb0.size)⟩

theorem placed_any (er : Value) (x y : Int) (w : World) (hE : HasErr w) (h : ErrAs w er x y) : Calls Tryd.prog 9 #[er, .agg (ftC x y)] w fun e w' => e = .returned (.bool true) ∧ Below w.heap.size w w' := by
  rcases h with ⟨rfl, rfl, rfl⟩ | ⟨_, q, rfl, hf⟩
  · exact placed_nil w
  · exact placed_at q x y w hE hf

end Go.Proofs.YtdjljnpbnhampaaDoor

namespace Go.Proofs.YtdjljnpbnhampaaDoor.mstpReads
open Go.RowKit
attribute [local go_sem ↓] Go.wp_at_zero Go.wp_at_succ
set_option linter.unusedSimpArgs false
set_option linter.unusedVariables false
set_option maxRecDepth 100000

/-- A list that lay somewhere ahead lies there still. -/
theorem inIn_at {w0 w w' : World} {a : Option Addr} {l : List Ins} (h : InIn w a l) (h0 : InIn w0 a l) (hb : Below w0.heap.size w w') : InIn w' a l := by
  rcases h with h | ⟨b, o, e1, e2, e3⟩
  · exact Or.inl h
  · rcases h0 with h0 | ⟨b0, o0, f1, f2, f3⟩
    · exact Or.inl h0
    · rw [e1] at f1
      cases f1
      exact Or.inr ⟨b, o, e1, Nat.lt_of_lt_of_le e2 hb.size, e3.below hb f2⟩

set_option maxHeartbeats 6400000 in
theorem walk_some (s : ByteArray) (w : World) (hE : HasErr w) (hs : s.size ≤ 3000) (X : Ms) (l : List Ins) (hll : l.length ≤ 1000000) (x y : Int)
    (HV : Hid (∀ W, Calls Tryd.prog 7 #[.string s] W fun r w' => ∃ v, r = .returned (.tuple #[.agg (msC X v), .agg (ftC x y)]) ∧ OwnI w' W.heap.size v l ∧ Below W.heap.size W w'))
    (HW : Hid (∀ W, Calls Tryd.prog 8 #[.string s] W fun r w' => ∃ v er, r = .returned (.tuple #[.agg (msC X v), er]) ∧ OwnI w' W.heap.size v l ∧ ErrAs w' er x y ∧ Below W.heap.size W w')) :
    Calls Tryd.prog 3 #[.string s] w fun e w' => e = .returned (.bool true) ∧ Below w.heap.size w w' := by
  have h3 : decide ((3000 : Int) < (s.size : Int)) = false := decide_eq_false (by omega)
  go_enter Tryd.func3, Tryd.ntmps3
  go_wp2_with fail
  refine (HV.out _).mono ?_
  rintro e w2 ⟨v1, rfl, O1, b2⟩
  obtain ⟨a1, c1, hv1, J1⟩ := O1.inL
  subst hv1
  clear O1
  have HA3 := (Blk.new w2 34 (msC zMs (.slice none 0 0))).alloc (.cells (ftC 0 0) 37)
  have HF3 := Blk.new (w2.alloc (.cells (msC zMs (.slice none 0 0)) 34)) 37 (ftC 0 0)
  have hsz : (w2.alloc (.cells (msC zMs (.slice none 0 0)) 34)).heap.size = w2.heap.size + 1 := by simp
  have B3 : Below w.heap.size w ((w2.alloc (.cells (msC zMs (.slice none 0 0)) 34)).alloc (.cells (ftC 0 0) 37)) := (b2.alloc b2.size _).alloc (by have := b2.size; simp; omega) _
  have hs2 := b2.size
  clear b2 HV
  go_upto_region 4 with (first | (refine alloc_blk 34 (msC zMs (.slice none 0 0)) (by rfl) rfl Tryd.msZero ?_) | (refine alloc_blk 37 (ftC 0 0) (by rfl) rfl Tryd.ftZero ?_) | ((refine store_blk (k := 0) 34 (.agg (msC X (.slice a1 l.length c1))) (msC X (.slice a1 l.length c1)) (by rfl) rfl rfl rfl HA3 (by kernel_rfl) (by exact Nat.le_refl 45) rfl rfl (fun w4 HA4 b4 g4 => ?_)); have HF4 := HF3.grown g4 (by rw [hsz]; simp)) | (refine store_blk (k := 0) 37 (.agg (ftC x y)) (ftC x y) (by rfl) rfl rfl rfl HF4 (by kernel_rfl) (by exact Nat.le_refl 2) rfl rfl (fun w5 HF5 b5 g5 => ?_)))
  rw [hsz] at HF5 g5 b5
  clear hsz
  have HA5 := HA4.grown g5 (by simp)
  have B5 : Below w.heap.size w w5 := (B3.trans (b4.mono hs2)).trans (b5.mono (by omega))
  have I5 : InIn w5 a1 l := by
    have q3 := J1.below ((Below.refl _ _).alloc (Nat.le_refl _) (.cells (msC zMs (.slice none 0 0)) 34))
    have q4 := q3.below ((Below.refl _ _).alloc (Nat.le_refl _) (.cells (ftC 0 0) 37))
    have q5 := inIn_at q4 J1 b4
    exact inIn_at q5 J1 (b5.mono (by omega))
  clear HA3 HF3 HA4 B3 b4 g4 b5 g5
  go_wp2_with fail
  refine (HW.out _).mono ?_
  rintro e w6 ⟨v2, er, rfl, O2, hp6, b6⟩
  obtain ⟨a2, c2, hv2, J6⟩ := O2.inL
  subst hv2
  clear O2
  have J5 := I5.below b6
  have hlt := HF5.lt
  have HA6 := (HA5.kept b6).alloc (.cells (msC zMs (.slice none 0 0)) 34)
  have HF6 := (HF5.kept b6).alloc (.cells (msC zMs (.slice none 0 0)) 34)
  have B6a := B5.trans (b6.mono B5.size)
  have B6 := B6a.alloc B6a.size (.cells (msC zMs (.slice none 0 0)) 34)
  have hp7 := hp6.below ((Below.refl _ _).alloc (Nat.le_refl _) (.cells (msC zMs (.slice none 0 0)) 34))
  have HV6 := Blk.new w6 34 (msC zMs (.slice none 0 0))
  have hs6 := B6a.size
  have hlt6 : w2.heap.size + 1 < w6.heap.size := Nat.lt_of_lt_of_le hlt b6.size
  clear HA5 HF5 B5 b6 HW hp6 B6a
  go_upto_region 5 with (first | (refine alloc_blk 34 (msC zMs (.slice none 0 0)) (by rfl) rfl Tryd.msZero ?_) | (refine store_blk (k := 0) 34 (.agg (msC X (.slice a2 l.length c2))) (msC X (.slice a2 l.length c2)) (by rfl) rfl rfl rfl HV6 (by kernel_rfl) (by exact Nat.le_refl 45) rfl rfl (fun w7 HV7 b7 g7 => ?_)))
  have HA7 := HA6.grown g7 (by simp; omega)
  have HF7 := HF6.grown g7 (by simp; omega)
  have B7 : Below w.heap.size w w7 := B6.trans (b7.mono hs6)
  have hp8 : ErrAs w7 er x y := by
    rcases hp7 with h | ⟨he, q, hq, hf⟩
    · exact Or.inl h
    · refine Or.inr ⟨he, q, hq, hf.kept g7 ?_⟩
      intro e0
      have e0 : q = w6.heap.size := by simpa using e0
      subst e0
      have h1 : (w6.alloc (.cells (msC zMs (.slice none 0 0)) 34)).heap[w6.heap.size]? = some (.cells #[.int .i64 x, .int .i64 y] 144) := hf
      have h2 : (w6.alloc (.cells (msC zMs (.slice none 0 0)) 34)).heap[w6.heap.size]? = some (.cells (msC zMs (.slice none 0 0)) 34 (0, 0)) := HV6
      have h3 := h1.symm.trans h2
      injection h3 with h3
      injection h3 with h3 h4
      exact absurd h4 (by decide)
  have hE7 : HasErr w7 := hE.below B7
  have I7 : InIn w7 a1 l := inIn_at (J5.below ((Below.refl _ _).alloc (Nat.le_refl _) (.cells (msC zMs (.slice none 0 0)) 34))) J5 b7
  have K7 : InIn w7 a2 l := inIn_at (J6.below ((Below.refl _ _).alloc (Nat.le_refl _) (.cells (msC zMs (.slice none 0 0)) 34))) J6 b7
  clear HA6 HF6 HV6 B6 g7 b7 hp7
  go_wp2_with (refine load_blk (k := 0) 37 (ftC x y) (by rfl) rfl rfl HF7 (by kernel_rfl) (by kernel_rfl) rfl ?_)
  refine (placed_any er x y _ hE7 hp8).mono ?_
  rintro e w8 ⟨rfl, b8⟩
  have HA8 := HA7.kept b8
  have HV8 := HV7.kept b8
  have I8 := I7.below b8
  have K8 := K7.below b8
  have B8 := B7.trans (b8.mono B7.size)
  clear HA7 HF7 HV7 B7 b8 hE7 hp8
  go_wp2_with (first | (refine load_blk (B := w2.heap.size) (k := 0) 34 (msC X (.slice a1 l.length c1)) (by rfl) rfl rfl HA8 (by kernel_rfl) (by kernel_rfl) rfl ?_) | (refine load_blk (B := w6.heap.size) (k := 0) 34 (msC X (.slice a2 l.length c2)) (by rfl) rfl rfl HV8 (by kernel_rfl) (by kernel_rfl) rfl ?_) | (refine build_blk (o := ⟨some 25, _, _, _, _, _⟩) (t := 71) (vdM X (.slice a1 l.length c1)) (by rfl) rfl (by kernel_rfl) ?_) | (refine build_blk (o := ⟨some 27, _, _, _, _, _⟩) (t := 71) (vdM X (.slice a2 l.length c2)) (by rfl) rfl (by kernel_rfl) ?_))
  refine (sameVerdict_mst X a1 c1 a2 c2 l _ I8 K8 hll).mono ?_
  rintro e w9 ⟨rfl, b9⟩
  go_wp2
  go_ret
  exact ⟨rfl, B8.trans (b9.mono B8.size)⟩

theorem walk (s : ByteArray) (w : World) (hE : HasErr w) :
    Calls Tryd.prog 3 #[.string s] w fun e w' => e = .returned (.bool true) ∧ Below w.heap.size w w' := by
  by_cases hs : s.size ≤ 3000
  · rcases all_ways s with ⟨e, x, h1, h2, h3⟩ | ⟨h1, h2, h3, h4, h5, h6⟩
    · refine walk_some s w hE hs zMs [] (by decide) e x (Lib.hid fun W => refMsRead_any s W hs _ (fun e' x' w' q hne B' => ?_) (fun v w' q => ?_)) (Lib.hid fun W => (msRead_bad s W (by omega) e x h2 h3).mono ?_)
      · rw [h1] at q
        cases q
        exact ⟨_, rfl, Or.inl ⟨rfl, rfl⟩, B'⟩
      · rw [h1] at q
        cases q
      · rintro r w' ⟨er, rfl, hp, hb⟩
        exact ⟨_, er, rfl, Or.inl ⟨rfl, rfl⟩, hp, hb⟩
    · refine walk_some s w hE hs (msAt s) (insAt s 102 (cntAt s)) (by rw [insAt_len]; omega) 0 (-1) (Lib.hid fun W => refMsRead_any s W hs _ (fun e' x' w' q hne B' => ?_) (fun v w' q hO B' => ?_)) (Lib.hid fun W => (msRead_ok s W (by omega) (by rw [h4]) _ _ h5 h6).mono ?_)
      · rw [h1] at q
        cases q
      · exact ⟨v, rfl, hO, B'⟩
      · rintro r w' ⟨⟨v, rfl, hO⟩, hb⟩
        exact ⟨v, _, rfl, hO, Or.inl ⟨rfl, rfl, rfl⟩, hb⟩
  · have h3 : decide ((3000 : Int) < (s.size : Int)) = true := decide_eq_true (by omega)
    go_enter Tryd.func3, Tryd.ntmps3
    go_wp2
    go_ret
    exact ⟨rfl, Below.refl _ _⟩


end Go.Proofs.YtdjljnpbnhampaaDoor.mstpReads

namespace Go.Proofs.YtdjljnpbnhampaaDoor
open Go.RowKit Go.WideShapes Go.ChangeShapes

/-- The specification is met: one result, which reads as told; the arguments and the named variables read as they did; old memory is as it was. -/
theorem met_below {P : Program} {H : Type} {enc : TypeId × Value → H} {f : Func} {s : ChangeSpec} {apart fresh handsOn again : Bool} {W W' : World} {args : Array Value} {v : Value} {ds gs : List (DataW H)} {places : List MemPlace}
    (whole : DataW.Whole enc P f.params.toList s.vars apart W args.toList ds gs places)
    (results : ∀ (b : Nat) (sp : Nat → Bool) (hd : Bool), DataW.TrodAll enc P W' b sp hd f.resultTypes.toList (v.resultList f.resultTypes.size) (s.fn H (ds ++ gs)).results [])
    (arguments : ∀ sp : Nat → Bool, (∀ p ∈ places, sp p.block = true) → DataW.TrodAll enc P W' 0 sp true f.params.toList args.toList (s.fn H (ds ++ gs)).args places)
    (variables : ∀ sp : Nat → Bool, DataW.TrodVars enc P W' sp s.vars (s.fn H (ds ++ gs)).vars [])
    (below : Below W.heap.size W W')
    (formed : ∀ (j : Nat) (t : TypeId) (r : Value), f.resultTypes[j]? = some t → (v.resultList f.resultTypes.size)[j]? = some r → Value.okWide P W' .any 0 t r) :
    s.post enc P f apart fresh handsOn again W args v W' := by
  have old : ∀ p ∈ places, p.block < W.heap.size := fun p hp => whole.lt p hp
  have oldB : ∀ p ∈ places, (fun b => decide (b < W.heap.size)) p.block = true := fun p hp => decide_eq_true (old p hp)
  obtain ⟨_, _, _, _, _, unfrozen, once⟩ := id whole
  refine ⟨ds, gs, places, [], places, [], whole, results _ _ _, arguments _ oldB, variables _, below.frame _, fun _ => ⟨formed, _, _, ([] ++ places) ++ [], ⟨[] ++ places, [], trodAll_append (arguments _ fun _ _ => rfl) (results _ _ _), variables _, rfl, fun b off hp => ?_, fun ha => by simpa using once ha⟩, fun p hp _ => by simpa using hp⟩⟩
  have hin : MemPlace.cell b off ∈ places := by simpa using hp
  exact (below.frozen (p := ⟨b, off, none⟩) (old _ hin)).trans (unfrozen b off hin)

end Go.Proofs.YtdjljnpbnhampaaDoor

namespace Go.Proofs.YtdjljnpbnhampaaDoor
open Go.ChangeShapes Go.WideShapes Go.ChangeAt Go.RowKit

theorem own : ownKnob Tryd.prog.godebug = none := by kernel_rfl

theorem Tryd.gErr : Tryd.prog.globalNamed "errors.errorType" = some 0 := by kernel_rfl

theorem Tryd.rtRow : (Tryd.prog.cutTypes.find? (·.1 == "internal/reflectlite.rtype")).map (·.2) = some 221 := by kernel_rfl

theorem Tryd.errRow : ((List.range 272).filter fun t => Tryd.prog.rowNamed t [101, 114, 114, 111, 114]) = [41] := by kernel_rfl

theorem Tryd.typesSize : Tryd.prog.types.size = 272 := by kernel_rfl

/-- A list that holds errors.errorType with the handle of the type error says what errors.As asks. -/
theorem hasErr_of_laid {W : World} {l : List (String × DataW Unit)} (h : laidMetH Tryd.prog l W) (hm : ("errors.errorType", Rows.laid_errors_errorType) ∈ l) : HasErr W := by
  obtain ⟨_, h2⟩ := laidMetH_iff.1 h
  obtain ⟨name, u, ty, e1, e2, e3, e4, e5⟩ := h2 _ (List.mem_filter.2 ⟨hm, by kernel_rfl⟩)
  have en : name = [101, 114, 114, 111, 114] := (Option.some.inj e1).symm
  subst en
  obtain rfl := Option.some.inj (Tryd.rtRow.symm.trans e2)
  have hin : ty ∈ (List.range 272).filter fun t => Tryd.prog.rowNamed t [101, 114, 114, 111, 114] := List.mem_filter.2 ⟨List.mem_range.2 (by rw [← Tryd.typesSize]; exact e3), e4⟩
  rw [Tryd.errRow] at hin
  obtain rfl := List.mem_singleton.1 hin
  have hh : typeHandle Tryd.prog 41 = .pointer (some ⟨4, 41, none⟩) := by kernel_rfl
  rw [hh] at e5
  have hc := World.var?_cell Tryd.gErr e5 0
  unfold HasErr
  simpa using hc

/-- The cells that a flat datum of integers lays. -/
def cellsOfDatum : DataW Unit → Array Value
  | .agg l => (l.map fun d => match d with | .lit (.int k n) => Value.int k n | _ => .int .u8 0).toArray
  | _ => #[]

/-- The door's own heap, and Go's own table beside it. -/
noncomputable def laidWorld (os : Os) : World :=
  let w0 := World.doorLaid Tryd.prog 400 os
  { w0 with heap := w0.heap.modify 1 fun | .cells _ t fr => .cells (cellsOfDatum Go.Pinned.utf8First) t fr | o => o }

end Go.Proofs.YtdjljnpbnhampaaDoor

namespace Go.Proofs.YtdjljnpbnhampaaDoor.mstpReads
open Go.ChangeShapes Go.WideShapes Go.ChangeAt Go.RowKit
set_option linter.unusedVariables false

theorem laid_met (os : Os) : laidMetH Tryd.prog Rows.mstpReadsRow.laid ((laidWorld os).forCall (fun _ _ => 0) ⟨#[], #[.string ⟨#[]⟩], []⟩).memory :=
  laidMetH_of_parts3 (fuel := 8) (laidMet_of_run' 8 (by kernel_rfl) (by kernel_rfl)) (by kernel_rfl) (by kernel_rfl)

theorem reads (os : Os) {H : Type} (enc : TypeId × Value → H) : ∃ places, DataW.whole enc Tryd.prog ((laidWorld os).forCall (fun _ _ => 0) ⟨#[], #[.string ⟨#[]⟩], []⟩).memory Tryd.f3.params.toList Rows.mstpReadsSpec.vars false #[Value.string ⟨#[]⟩].toList 8 = some ([.lit (.string [])], [], places) :=
  ⟨[], by kernel_rfl⟩

set_option maxRecDepth 100000 in
theorem lifted (os : Os) (started : os.Started) (H : Type) (enc : TypeId × Value → H) (F : Stop.Interp) :
    ReturnsInHanded {} Tryd.checked os 3 .any ((OpenSpec.ofChange Rows.mstpReadsSpec).preRow enc Tryd.prog Tryd.f3 Rows.mstpReadsRow.domain false Rows.mstpReadsRow.laid) (((OpenSpec.ofChange Rows.mstpReadsSpec).at F).post enc Tryd.prog Tryd.f3 false true false false) := by
  obtain ⟨places, hx⟩ := reads os enc
  refine returnsInHanded_of_row (C := Tryd.checked) (s := OpenSpec.ofChange Rows.mstpReadsSpec) own started (by kernel_rfl) Tryd.func3
    (witness_row_at (enc := enc) (C := Tryd.checked) false (laidWorld os) #[.string ⟨#[]⟩] rfl (by kernel_rfl) (by kernel_rfl) (by kernel_rfl)
      (OpenSpec.preRow_of_cond 8 hx (by kernel_rfl) (fun k hk => by cases hk) (by kernel_rfl) (laid_met os))) ?_
  intro W base args ds gs before hval0 hW _ _ hSz hL hsh _
  have hval : ∀ (j : Nat) t v, Tryd.f3.params[j]? = some t → args[j]? = some v → Value.okWide Tryd.prog W .any base t v := hval0
  have hE := hasErr_of_laid hL (by simp [Rows.mstpReadsRow])
  have hW' := hW
  obtain ⟨p, q, hA0, hV, rfl, hfz, hnd⟩ := hW
  have hA : DataW.TrodAll enc Tryd.prog W 0 (fun _ => true) true Tryd.f3.params.toList args.toList ds p := hA0
  rw [Tryd.params3] at hA hval
  obtain ⟨v0, vs0, d0, ds0, p0, q0, hargs, rfl, rfl, h0, r0⟩ := trodAll_cons hA
  obtain ⟨rfl, rfl, rfl⟩ := trodAll_nil r0
  obtain rfl : args = #[v0] := by cases args; simp_all
  obtain ⟨rfl, rfl⟩ := trodVars_none hV
  obtain ⟨a0, rfl, rfl, rfl, w0⟩ := ChangeMaps.open_string Tryd.underlying9 (hval 0 9 v0 rfl rfl) h0
  clear hA0
  simp only [List.append_nil] at hW'
  refine (walk a0 W hE).mono fun e W' ⟨he, hb⟩ => ?_
  subst he
  exact ⟨_, rfl, met_below hW' (fun _ _ _ => (trodAll_cons_mk (shut_bool Tryd.underlying4 _) trodAll_mk0)) (fun sp _ => (trodAll_cons_mk (ChangeMaps.shut_string Tryd.underlying9 w0) trodAll_mk0)) (fun _ => rfl) hb
    (ok_one (by kernel_rfl) rfl (okWide_bool_mk Tryd.underlying4 _))⟩

theorem said : Rows.MstpReadsSaid :=
  OpenClaim.holds_of_cond 3 Tryd.f3 rfl rfl rfl rfl rfl rfl rfl ⟨rfl, rfl, rfl, rfl, rfl⟩ rfl rfl rfl rfl rfl (by kernel_rfl) Tryd.func3 (by kernel_rfl)
    (of_decide_eq_true (by kernel_rfl)) (by unfold Func.isWrapper; first | (rw [if_pos (by decide +kernel)]; kernel_rfl) | (rw [if_neg (by decide +kernel)]; exact ⟨rfl, rfl⟩))
    (fun os started H enc _ F => by rw [OpenClaim.pre_eq_preRow]; exact lifted os started H enc F)

theorem plain (f : FuncId) (fn : Func) (hf : Tryd.pinned.checked.prog.funcNamed "switchyard/switchyardlaw.MstpReads" = some f) (hfn : Tryd.pinned.checked.prog.funcs[f]? = some fn) :
    true = Tryd.pinned.checked.prog.looks [] ∧ ∀ (j : Nat) t, fn.params[j]? = some t → Tryd.pinned.checked.prog.wantsStandIn t = false := by
  obtain rfl : f = 3 := Option.some.inj ((show Tryd.prog.funcNamed "switchyard/switchyardlaw.MstpReads" = some 3 by kernel_rfl).symm.trans hf) |>.symm
  obtain rfl : fn = Tryd.f3 := (Option.some.inj (Tryd.func3.symm.trans hfn)).symm
  refine ⟨by kernel_rfl, fun j t ht => ?_⟩
  rw [Tryd.params3] at ht
  have hm : t ∈ #[9] := Array.mem_of_getElem? ht
  simp only [List.mem_toArray, List.mem_cons, List.not_mem_nil, or_false] at hm
  rcases hm with rfl
  · exact (show Tryd.prog.wantsStandIn 9 = false by kernel_rfl)

theorem card : Rows.MstpReadsCardSaid :=
  Claim7.holds_tied_plain_at .later [] _ _ _ _ said (fun _ h => by cases h) (by kernel_rfl) (fun _ h => by cases h) mstpReads_row_tie rfl ⟨rfl, rfl⟩ (by kernel_rfl) rfl plain (by kernel_rfl)
#print axioms card

end Go.Proofs.YtdjljnpbnhampaaDoor.mstpReads

