/- Texts one behind the other. Numbers of a few bytes out of a wire.Reader in any state; where it is. 16.2: a reader's states beside the plain answer: events, attributes, heads. Reading in steps, plainly: bytes that are always the same, bytes that are passed over, numbers. wire.Reader.Expect in every state of a reader; slices.Contains of no and of one text. mvrp.readHead. mvrp.split, readGroup, readEvents. mvrp.readEvents. 16.2: an attribute beside the plain answer. 16.2: messages beside the plain answer. mvrp.readAttr. mvrp.messages and attrs: the makers, and the iterators at whatever loop's body. mvrp.Read: what stays as it is from round to round. mvrp.Read at every text. switchyardkeep.wanted, lots. mvrp.goesOn at every attribute that may be. VIDs with their events as values: cells, ==, rows of one's own. 16.3: all VIDs with their events: mvrp.Each. 16.3, plainly: the fewest attributes that tell VIDs that rise. 16.3: what Pack has packed so far, in memory: a row of attributes of its own, the last one's events above all others'. The reference's cursor: what is thrown, eaten, counted, asked for. -/
import Derived.Test.YtdjljnpbnhampaaDoorMkR1
import Derived.Test.YtdjljnpbnhampaaDoorRdT
import Derived.Test.YtdjljnpbnhampaaDoorBy
import Derived.Test.YtdjljnpbnhampaaDoorMvBackM
import Derived.Test.YtdjljnpbnhampaaDoorRdZ
import Derived.Test.YtdjljnpbnhampaaDoorLeadT
import Derived.Test.YtdjljnpbnhampaaDoorPrReadG
import Derived.Test.YtdjljnpbnhampaaDoorBlk
import Derived.Test.YtdjljnpbnhampaaDoorMvS
import Derived.Test.YtdjljnpbnhampaaDoorMvRight
import Derived.Test.YtdjljnpbnhampaaDoorRF
import Derived.RangeFuncBound
import Derived.Test.YtdjljnpbnhampaaDoorMvM
import Derived.Test.YtdjljnpbnhampaaDoorCells
import Derived.Test.YtdjljnpbnhampaaDoorFits
import Derived.Test.YtdjljnpbnhampaaDoorStOp
import Derived.Deep.AppendLies
import Derived.Deep.RegionHeld3
import Derived.Great.BuildSlice
import Derived.Test.YtdjljnpbnhampaaDoorCopyT
import Derived.Lib.BufferWrite
import Derived.BigRegion
namespace Go.Proofs.YtdjljnpbnhampaaDoor
open Go.RowKit
attribute [local go_sem ↓] Go.wp_at_zero Go.wp_at_succ
set_option linter.unusedSimpArgs false
set_option linter.unusedVariables false
set_option maxRecDepth 100000

/-- A number of a few bytes, as it is read. -/
def nmV (l : List UInt8) (off : Nat) (st : RSt) (n : Int) : Nat := beN (tkN l off st n true).1

def nmS (l : List UInt8) (off : Nat) (st : RSt) (n : Int) : RSt := (tkN l off st n true).2

theorem nmV_lt (l : List UInt8) (off : Nat) (st : RSt) (n : Nat) : nmV l off st n < 256 ^ n := by
  unfold nmV
  have h := beN_lt (tkN l off st n true).1
  rcases tkN_len l off st n true with q | q
  · rw [q]; exact Nat.pow_pos (by decide)
  · rw [q] at h; exact h

theorem nmS_le (l : List UInt8) (off : Nat) (st : RSt) (n : Int) (h : st.1 ≤ l.length) : (nmS l off st n).1 ≤ l.length := tkN_le l off st n true h

theorem numK_t {g : Nat} {s : ByteArray} {off : Nat} (st : RSt) (n : Nat) (hn : n ≤ 7) (w : World) (h : RdT w g s off st) (hp : st.1 ≤ s.size) (hb : off + s.size ≤ 281474976710656) :
    Calls Tryd.prog 44 #[.pointer (some ⟨g, 0, none⟩), .int .i64 n] w fun e w' => e = .returned (.int .i64 (nmV s.data.toList off st n : Nat)) ∧
      RdT w' g s off (nmS s.data.toList off st n) ∧ w.grownBy w' (some g) := by
  have h1 := num_t st n w h hp hb
  have hl := nmV_lt s.data.toList off st n
  have h3 : 256 ^ n ≤ 256 ^ 7 := Nat.pow_le_pow_right (by decide) hn
  have e : wrap64 (beN (tkN s.data.toList off st n true).1) = ((nmV s.data.toList off st n : Nat) : Int) := by
    show wrap64 ((nmV s.data.toList off st n : Nat) : Int) = _
    unfold wrap64
    omega
  rw [e] at h1
  exact h1

theorem nm_go (l : List UInt8) (st : RSt) (n : Nat) (h1 : 1 ≤ n) (h8 : n ≤ 8) (h : st.2.1 = 0) (hn : st.1 + n ≤ l.length) : nmS l 0 st n = (st.1 + n, st.2) ∧ nmV l 0 st n = beN ((l.drop st.1).take n) := by
  have e := tkN_go l 0 st n true h hn (by intro _; omega)
  unfold nmS nmV
  rw [e]
  exact ⟨rfl, rfl⟩

theorem nm_miss (l : List UInt8) (st : RSt) (n : Nat) (h1 : 1 ≤ n) (h8 : n ≤ 8) (h : st.2.1 = 0) (hn : ¬ st.1 + n ≤ l.length) (hp : st.1 ≤ l.length) : nmS l 0 st n = (st.1, 7, (st.1 : Int)) := by
  have e := tkN_miss l 0 st n true h hn hp (by intro _; omega)
  unfold nmS
  rw [e]
  simp

theorem nm_bad (l : List UInt8) (st : RSt) (n : Int) (h : ¬ st.2.1 = 0) : nmS l 0 st n = st := by
  unfold nmS
  rw [tkN_bad l 0 st n true h]

theorem atT {g : Nat} {s : ByteArray} {off : Nat} (st : RSt) (w : World) (h : RdT w g s off st) :
    Calls Tryd.prog 77 #[.pointer (some ⟨g, 0, none⟩)] w fun e w' => e = .returned (.int .i64 ((off : Int) + (st.1 : Int))) ∧ w = w' := by
  obtain ⟨f, hr, hf⟩ := h
  exact at_any w hr

theorem errT_none {g : Nat} {s : ByteArray} {off : Nat} (st : RSt) (w : World) (h : RdT w g s off st) (he : st.2.1 = 0) :
    Calls Tryd.prog 47 #[.pointer (some ⟨g, 0, none⟩)] w fun r w' => r = .returned .nilIface ∧ w = w' := by
  obtain ⟨f, hr, hf⟩ := h
  rcases hf with ⟨h0, rfl⟩ | ⟨h0, q, rfl, hq⟩
  · exact err_none w hr
  · exact absurd he h0



/-- How far a reader is; whether it has noted something. -/
def rdPos (w : World) (g : Nat) : Nat := match w.cell? ⟨g, 1, none⟩ with | some (.int _ n) => n.toNat | _ => 0

def rdNote (w : World) (g : Nat) : Bool := match w.cell? ⟨g, 2, none⟩ with | some (.pointer (some _)) => true | _ => false

def rdLeft (n : Nat) (w : World) (g : Nat) : Nat := if rdNote w g = true then 0 else n + 1 - rdPos w g

theorem rdLeft_ok {n g p : Nat} {x : Int} {s : ByteArray} {w : World} (h : RdT w g s 0 (p, 0, x)) : rdLeft n w g = n + 1 - p := by
  obtain ⟨f, hr, hf⟩ := h
  rcases hf with ⟨_, rfl⟩ | ⟨h0, _⟩
  · have e1 : rdNote w g = false := by unfold rdNote; rw [hr.c2]
    have e2 : rdPos w g = p := by
      unfold rdPos
      rw [hr.c1]
      show (((0 : Nat) : Int) + ((p : Nat) : Int)).toNat = p
      omega
    unfold rdLeft
    rw [e1, e2]
    rfl
  · exact absurd rfl h0

theorem rdLeft_bad {n g p : Nat} {e x : Int} {s : ByteArray} {w : World} (h : RdT w g s 0 (p, e, x)) (he : e ≠ 0) : rdLeft n w g = 0 := by
  obtain ⟨f, hr, hf⟩ := h
  rcases hf with ⟨h0, _⟩ | ⟨_, q, rfl, _⟩
  · exact absurd h0 he
  · have e1 : rdNote w g = true := by unfold rdNote; rw [hr.c2]
    unfold rdLeft
    rw [if_pos e1]

end Go.Proofs.YtdjljnpbnhampaaDoor

namespace Go.Proofs.YtdjljnpbnhampaaDoor
set_option linter.unusedVariables false

theorem flR_twice (st : RSt) (e p e' p' : Int) (h : e ≠ 0) : flR (flR st e p) e' p' = flR st e p := flR_bad _ _ _ (flR_ne st e p h)

theorem flR_ok {p : Nat} {x e pl : Int} : flR (p, 0, x) e pl = (p, e, pl) := by unfold flR; simp

/-- The three events that are read next, and the state behind them. -/
def gpL (S : List UInt8) (st : RSt) : List Int := if 215 < nmV S 0 st 1 then [0, 0, 0] else trip (nmV S 0 st 1)

def gpS (S : List UInt8) (st : RSt) : RSt := if 215 < nmV S 0 st 1 then flR (nmS S 0 st 1) 2 st.1 else nmS S 0 st 1

theorem gpL_len (S : List UInt8) (st : RSt) : (gpL S st).length = 3 := by unfold gpL; split <;> rfl

theorem gpS_le (S : List UInt8) (st : RSt) (h : st.1 ≤ S.length) : (gpS S st).1 ≤ S.length := by
  unfold gpS
  split
  · exact flR_le S _ _ _ (nmS_le S 0 st 1 h)
  · exact nmS_le S 0 st 1 h

/-- Those that must be noughts. -/
def spS (st : RSt) (at' : Nat) (l : List Int) : RSt := if l.all (fun x => x == 0) = true then st else flR st 15 at'

theorem spS_nil (st : RSt) (a : Nat) : spS st a [] = st := rfl

theorem spS_snoc0 (st : RSt) (a : Nat) (l : List Int) : spS st a (l ++ [0]) = spS st a l := by unfold spS; simp

theorem spS_snoc (st : RSt) (a : Nat) (l : List Int) (x : Int) (h : x ≠ 0) : spS st a (l ++ [x]) = flR (spS st a l) 15 a := by
  have e : (l ++ [x]).all (fun x => x == 0) = false := by simp [h]
  unfold spS
  rw [e]
  simp only [Bool.false_eq_true, if_false]
  split
  · rfl
  · rw [flR_twice _ _ _ _ _ (by decide)]

theorem spS_le (S : List UInt8) (st : RSt) (a : Nat) (l : List Int) (h : st.1 ≤ S.length) : (spS st a l).1 ≤ S.length := by
  unfold spS
  split
  · exact h
  · exact flR_le S _ _ _ h

/-- What holds ahead of each byte of events. -/
def EvI (S : List UInt8) (n : Nat) (R : EvR) (st : RSt) (l : List Int) : Prop := st.1 ≤ S.length ∧ l.length ≤ n ∧ ((st.2 = (0, -1) ∧ ∃ f, rdEv S n f st.1 l = R ∧ n ≤ l.length + f) ∨ (∃ x : Nat, st.2.1 ≠ 0 ∧ st.2.2 = (x : Int) ∧ R = .bad st.2.1 x))

theorem nm1_go (S : List UInt8) (p : Nat) (x : Int) (h : p + 1 ≤ S.length) : nmS S 0 (p, 0, x) 1 = (p + 1, 0, x) ∧ nmV S 0 (p, 0, x) 1 = by1 S p := nm_go S (p, 0, x) 1 (by decide) (by decide) rfl h

theorem nmV_bad (S : List UInt8) (st : RSt) (n : Int) (h : st.2.1 ≠ 0) : nmV S 0 st n = 0 := by
  unfold nmV
  rw [tkN_bad S 0 st n true h]
  rfl

theorem nmV_miss (S : List UInt8) (p : Nat) (x : Int) (n : Nat) (h1 : 1 ≤ n) (h8 : n ≤ 8) (hn : ¬ p + n ≤ S.length) (hp : p ≤ S.length) : nmV S 0 (p, 0, x) n = 0 := by
  unfold nmV
  rw [tkN_miss S 0 (p, 0, x) n true rfl hn hp (fun _ => ⟨h1, h8⟩)]
  rfl

theorem trip0 : trip 0 = [0, 0, 0] := rfl

theorem zeros3 (k : Nat) : (([0, 0, 0] : List Int).drop k).all (fun x => x == 0) = true := by
  rw [List.all_eq_true]
  intro x hx
  have hx := List.mem_of_mem_drop hx
  simp only [List.mem_cons, List.not_mem_nil, or_false] at hx
  rcases hx with rfl | rfl | rfl <;> rfl

theorem ev_round (S : List UInt8) (n : Nat) (R : EvR) (st : RSt) (l : List Int) (h : EvI S n R st l) (hl : l.length < n) :
    EvI S n R (spS (gpS S st) st.1 ((gpL S st).drop (n - l.length))) (l ++ (gpL S st).take (n - l.length)) := by
  obtain ⟨p, e, x⟩ := st
  obtain ⟨hp, hln, h⟩ := h
  have hp : p ≤ S.length := hp
  have hlen : (l ++ (gpL S (p, e, x)).take (n - l.length)).length ≤ n := by
    rw [List.length_append, List.length_take, gpL_len]
    omega
  refine ⟨spS_le S _ _ _ (gpS_le S _ hp), hlen, ?_⟩
  rcases h with ⟨hst, f, hR, hf⟩ | ⟨x', he, hx, hR⟩
  · simp only [Prod.mk.injEq] at hst
    obtain ⟨rfl, rfl⟩ := hst
    have hR : rdEv S n f p l = R := hR
    obtain ⟨f, rfl⟩ : ∃ f', f = f' + 1 := ⟨f - 1, by omega⟩
    by_cases h1 : S.length < p + 1
    · right
      have e1 : nmS S 0 (p, 0, -1) 1 = (p, 7, (p : Int)) := nm_miss S (p, 0, -1) 1 (by decide) (by decide) rfl (by show ¬ p + 1 ≤ S.length; omega) hp
      have e2 : nmV S 0 (p, 0, -1) 1 = 0 := nmV_miss S p (-1) 1 (by decide) (by decide) (by omega) hp
      have e3 : gpS S (p, 0, -1) = (p, 7, (p : Int)) := by unfold gpS; rw [e1, e2]; rfl
      have e4 : gpL S (p, 0, -1) = [0, 0, 0] := by unfold gpL; rw [e2]; rfl
      rw [ev_miss (by omega) h1] at hR
      rw [e3, e4]
      have e5 : spS (p, 7, (p : Int)) p (([0, 0, 0] : List Int).drop (n - l.length)) = (p, 7, (p : Int)) := by unfold spS; rw [if_pos (zeros3 _)]
      rw [e5]
      exact ⟨p, (by decide : (7 : Int) ≠ 0), rfl, hR.symm⟩
    · obtain ⟨e1, e2⟩ := nm1_go S p (-1) (by omega)
      by_cases h2 : 215 < by1 S p
      · right
        have e3 : gpS S (p, 0, -1) = (p + 1, 2, (p : Int)) := by unfold gpS; rw [e1, e2, if_pos h2]; rfl
        have e4 : gpL S (p, 0, -1) = [0, 0, 0] := by unfold gpL; rw [e2, if_pos h2]
        rw [ev_range (by omega) h1 h2] at hR
        have e5 : spS (p + 1, 2, (p : Int)) p (([0, 0, 0] : List Int).drop (n - l.length)) = (p + 1, 2, (p : Int)) := by unfold spS; rw [if_pos (zeros3 _)]
        rw [e3, e4, e5]
        exact ⟨p, (by decide : (2 : Int) ≠ 0), rfl, hR.symm⟩
      · have e3 : gpS S (p, 0, -1) = (p + 1, 0, -1) := by unfold gpS; rw [e1, e2, if_neg h2]
        have e4 : gpL S (p, 0, -1) = trip (by1 S p) := by unfold gpL; rw [e2, if_neg h2]
        rw [e3, e4]
        by_cases h3 : ((trip (by1 S p)).drop (n - l.length)).all (fun x => x == 0) = false
        · right
          rw [ev_spoilt (by omega) h1 h2 h3] at hR
          have e5 : spS (p + 1, 0, -1) p ((trip (by1 S p)).drop (n - l.length)) = (p + 1, 15, (p : Int)) := by unfold spS; rw [h3]; rfl
          rw [e5]
          exact ⟨p, (by decide : (15 : Int) ≠ 0), rfl, hR.symm⟩
        · left
          have h3 : ((trip (by1 S p)).drop (n - l.length)).all (fun x => x == 0) = true := by simpa using h3
          rw [ev_step (by omega) h1 h2 h3] at hR
          have e5 : spS (p + 1, 0, -1) p ((trip (by1 S p)).drop (n - l.length)) = (p + 1, 0, -1) := by unfold spS; rw [if_pos h3]
          rw [e5]
          refine ⟨rfl, f, hR, ?_⟩
          rw [List.length_append, List.length_take, trip_len]
          omega
  · right
    have he : e ≠ 0 := he
    have e1 : nmS S 0 (p, e, x) 1 = (p, e, x) := nm_bad S (p, e, x) 1 he
    have e2 : nmV S 0 (p, e, x) 1 = 0 := nmV_bad S (p, e, x) 1 he
    have e3 : gpS S (p, e, x) = (p, e, x) := by unfold gpS; rw [e1, e2]; rfl
    have e4 : gpL S (p, e, x) = [0, 0, 0] := by unfold gpL; rw [e2]; rfl
    have e5 : spS (p, e, x) p (([0, 0, 0] : List Int).drop (n - l.length)) = (p, e, x) := by unfold spS; rw [if_pos (zeros3 _)]
    rw [e3, e4, e5]
    exact ⟨x', he, hx, hR⟩

theorem ev_final (S : List UInt8) (n : Nat) (R : EvR) (st : RSt) (l : List Int) (h : EvI S n R st l) (hl : ¬ l.length < n) : l.length = n ∧ st.1 ≤ S.length ∧ ((st.2 = (0, -1) ∧ R = .ok l st.1) ∨ (∃ x : Nat, st.2.1 ≠ 0 ∧ st.2.2 = (x : Int) ∧ R = .bad st.2.1 x)) := by
  obtain ⟨hp, hln, h⟩ := h
  refine ⟨by omega, hp, ?_⟩
  rcases h with ⟨hst, f, hR, hf⟩ | h
  · rw [ev_end (by omega)] at hR
    exact Or.inl ⟨hst, hR.symm⟩
  · exact Or.inr h

end Go.Proofs.YtdjljnpbnhampaaDoor

namespace Go.Proofs.YtdjljnpbnhampaaDoor
open Go.RowKit
set_option linter.unusedVariables false
set_option linter.unusedSimpArgs false

/-- Behind bytes that are always the same. -/
def exS (l : List UInt8) (st : RSt) (z : List UInt8) : RSt := if (tkN l 0 st (z.length : Nat) false).1 = z then (tkN l 0 st (z.length : Nat) false).2 else flR (tkN l 0 st (z.length : Nat) false).2 3 (st.1 : Int)

theorem exS_le (l : List UInt8) (st : RSt) (z : List UInt8) (h : st.1 ≤ l.length) : (exS l st z).1 ≤ l.length := by
  unfold exS
  split
  · exact tkN_le l 0 st _ false h
  · exact flR_le l _ _ _ (tkN_le l 0 st _ false h)

theorem ex_go (l : List UInt8) (st : RSt) (z : List UInt8) (h : st.2.1 = 0) (hn : st.1 + z.length ≤ l.length) (hz : (l.drop st.1).take z.length = z) : exS l st z = (st.1 + z.length, st.2) := by
  have e := tkN_go l 0 st z.length false h hn (by simp)
  unfold exS
  rw [e, if_pos hz]

theorem ex_form (l : List UInt8) (st : RSt) (z : List UInt8) (h : st.2.1 = 0) (hn : st.1 + z.length ≤ l.length) (hz : ¬ (l.drop st.1).take z.length = z) : (exS l st z).2 = (3, (st.1 : Int)) := by
  have e := tkN_go l 0 st z.length false h hn (by simp)
  unfold exS
  rw [e, if_neg hz]
  unfold flR
  rw [if_neg (by simpa using h)]

theorem ex_miss (l : List UInt8) (st : RSt) (z : List UInt8) (hz : z ≠ []) (h : st.2.1 = 0) (hn : ¬ st.1 + z.length ≤ l.length) (hp : st.1 ≤ l.length) : exS l st z = (st.1, 7, (st.1 : Int)) := by
  have e := tkN_miss l 0 st z.length false h hn hp (by simp)
  unfold exS
  rw [e, if_neg (fun q => hz q.symm), flR_bad _ 3 _ (by simp)]
  simp

theorem ex_bad (l : List UInt8) (st : RSt) (z : List UInt8) (hz : z ≠ []) (h : ¬ st.2.1 = 0) : exS l st z = st := by
  unfold exS
  rw [tkN_bad l 0 st _ false h, if_neg (fun q => hz q.symm), flR_bad st 3 _ h]

/-- This text, or another one as long. -/
def exS2 (l : List UInt8) (st : RSt) (z y : List UInt8) : RSt := if (tkN l 0 st (z.length : Nat) false).1 = z ∨ (tkN l 0 st (z.length : Nat) false).1 = y then (tkN l 0 st (z.length : Nat) false).2 else flR (tkN l 0 st (z.length : Nat) false).2 3 (st.1 : Int)

/-- What they are. -/
def exV2 (l : List UInt8) (st : RSt) (z y : List UInt8) : List UInt8 := if (tkN l 0 st (z.length : Nat) false).1 = z ∨ (tkN l 0 st (z.length : Nat) false).1 = y then (tkN l 0 st (z.length : Nat) false).1 else []

theorem exS2_le (l : List UInt8) (st : RSt) (z y : List UInt8) (h : st.1 ≤ l.length) : (exS2 l st z y).1 ≤ l.length := by
  unfold exS2
  split
  · exact tkN_le l 0 st _ false h
  · exact flR_le l _ _ _ (tkN_le l 0 st _ false h)

inductive Stp where
  | want (z : List UInt8)
  | alt (z y : List UInt8)
  | eat (n : Nat)
  | num (n : Nat)

/-- What is wrong first, and where. -/
def runP (l : List UInt8) : List Stp → Nat → Option (Int × Nat)
  | [], _ => none
  | .want z :: r, p => if l.length < p + z.length then some (7, p) else if (l.drop p).take z.length = z then runP l r (p + z.length) else some (3, p)
  | .alt z y :: r, p => if l.length < p + z.length then some (7, p) else if (l.drop p).take z.length = z ∨ (l.drop p).take z.length = y then runP l r (p + z.length) else some (3, p)
  | .eat n :: r, p => if l.length < p + n then some (7, p) else runP l r (p + n)
  | .num n :: r, p => if l.length < p + n then some (7, p) else runP l r (p + n)

/-- How many bytes. -/
def lenP : List Stp → Nat
  | [] => 0
  | .want z :: r => z.length + lenP r
  | .alt z y :: r => z.length + lenP r
  | .eat n :: r => n + lenP r
  | .num n :: r => n + lenP r

/-- What a reader notes. -/
def runS (l : List UInt8) : List Stp → RSt → RSt
  | [], st => st
  | .want z :: r, st => runS l r (exS l st z)
  | .alt z y :: r, st => runS l r (exS2 l st z y)
  | .eat n :: r, st => runS l r (tkN l 0 st (n : Nat) false).2
  | .num n :: r, st => runS l r (nmS l 0 st (n : Nat))

def okP : List Stp → Bool
  | [] => true
  | .want z :: r => !z.isEmpty && okP r
  | .alt z y :: r => !z.isEmpty && (!y.isEmpty && okP r)
  | .eat n :: r => okP r
  | .num n :: r => decide (1 ≤ n) && (decide (n ≤ 7) && okP r)

theorem runS_app (l : List UInt8) (a b : List Stp) (st : RSt) : runS l (a ++ b) st = runS l b (runS l a st) := by
  induction a generalizing st with
  | nil => rfl
  | cons x a ih => cases x <;> exact ih _

theorem runS_le (l : List UInt8) (r : List Stp) (st : RSt) (h : st.1 ≤ l.length) : (runS l r st).1 ≤ l.length := by
  induction r generalizing st with
  | nil => exact h
  | cons x r ih =>
    cases x with
    | want z => exact ih _ (exS_le l st z h)
    | alt z y => exact ih _ (exS2_le l st z y h)
    | eat n => exact ih _ (tkN_le l 0 st _ false h)
    | num n => exact ih _ (nmS_le l 0 st _ h)

/-- Once noted, always noted. -/
theorem runS_bad (l : List UInt8) (r : List Stp) (hr : okP r = true) (st : RSt) (h : ¬ st.2.1 = 0) : runS l r st = st := by
  induction r with
  | nil => rfl
  | cons x r ih =>
    cases x with
    | want z =>
      simp only [okP, Bool.and_eq_true, Bool.not_eq_true', List.isEmpty_eq_false_iff] at hr
      show runS l r (exS l st z) = st
      rw [ex_bad l st z hr.1 h]
      exact ih hr.2
    | alt z y =>
      simp only [okP, Bool.and_eq_true, Bool.not_eq_true', List.isEmpty_eq_false_iff] at hr
      show runS l r (exS2 l st z y) = st
      have e : exS2 l st z y = st := by
        unfold exS2
        rw [tkN_bad l 0 st _ false h, if_neg (fun q => q.elim (fun q => hr.1 q.symm) (fun q => hr.2.1 q.symm)), flR_bad st 3 _ h]
      rw [e]
      exact ih hr.2.2
    | eat n =>
      show runS l r (tkN l 0 st (n : Nat) false).2 = st
      rw [tkN_bad l 0 st _ false h]
      exact ih hr
    | num n =>
      simp only [okP, Bool.and_eq_true] at hr
      show runS l r (nmS l 0 st (n : Nat)) = st
      rw [nm_bad l st _ h]
      exact ih hr.2.2

/-- What a reader notes is what is wrong. -/
theorem runS_spec (l : List UInt8) (r : List Stp) (hr : okP r = true) (st : RSt) (h : st.2.1 = 0) (hp : st.1 ≤ l.length) :
    (runP l r st.1 = none ∧ runS l r st = (st.1 + lenP r, st.2) ∧ st.1 + lenP r ≤ l.length) ∨ (∃ e x, runP l r st.1 = some (e, x) ∧ e ≠ 0 ∧ (runS l r st).2 = (e, (x : Int))) := by
  have bad : ∀ (r : List Stp) (st' : RSt) (e : Int) (x : Nat), okP r = true → st'.2 = (e, (x : Int)) → e ≠ 0 → (runS l r st').2 = (e, (x : Int)) := by
    intro r st' e x hr h2 he
    rw [runS_bad l r hr st' (by rw [h2]; exact he)]
    exact h2
  induction r generalizing st with
  | nil => exact Or.inl ⟨rfl, rfl, hp⟩
  | cons x r ih =>
    cases x with
    | want z =>
      simp only [okP, Bool.and_eq_true, Bool.not_eq_true', List.isEmpty_eq_false_iff] at hr
      by_cases c : l.length < st.1 + z.length
      · refine Or.inr ⟨7, st.1, by simp only [runP]; rw [if_pos c], by decide, ?_⟩
        exact bad r _ 7 st.1 hr.2 (by rw [ex_miss l st z hr.1 h (by omega) hp]) (by decide)
      · by_cases q : (l.drop st.1).take z.length = z
        · have e := ex_go l st z h (by omega) q
          have i := ih hr.2 (exS l st z) (by rw [e]; exact h) (by rw [e]; show st.1 + z.length ≤ _; omega)
          have e1 : runP l (.want z :: r) st.1 = runP l r (exS l st z).1 := by simp only [runP]; rw [if_neg c, if_pos q, e]
          have e2 : runS l (.want z :: r) st = runS l r (exS l st z) := rfl
          rw [e1, e2]
          rcases i with ⟨i1, i2, i3⟩ | i
          · refine Or.inl ⟨i1, ?_, ?_⟩
            · rw [i2, e]
              show (st.1 + z.length + lenP r, st.2) = (st.1 + (z.length + lenP r), st.2)
              rw [Nat.add_assoc]
            · rw [e] at i3
              have i4 : st.1 + z.length + lenP r ≤ l.length := i3
              show st.1 + (z.length + lenP r) ≤ _
              omega
          · exact Or.inr i
        · refine Or.inr ⟨3, st.1, by simp only [runP]; rw [if_neg c, if_neg q], by decide, ?_⟩
          exact bad r _ 3 st.1 hr.2 (ex_form l st z h (by omega) q) (by decide)
    | alt z y =>
      simp only [okP, Bool.and_eq_true, Bool.not_eq_true', List.isEmpty_eq_false_iff] at hr
      by_cases c : l.length < st.1 + z.length
      · refine Or.inr ⟨7, st.1, by simp only [runP]; rw [if_pos c], by decide, ?_⟩
        refine bad r _ 7 st.1 hr.2.2 ?_ (by decide)
        have e := tkN_miss l 0 st z.length false h (by omega) hp (by simp)
        unfold exS2
        rw [e, if_neg (fun q => q.elim (fun q => hr.1 q.symm) (fun q => hr.2.1 q.symm)), flR_bad _ 3 _ (by simp)]
        simp
      · have e0 := tkN_go l 0 st z.length false h (by omega) (by simp)
        by_cases q : (l.drop st.1).take z.length = z ∨ (l.drop st.1).take z.length = y
        · have e : exS2 l st z y = (st.1 + z.length, st.2) := by
            unfold exS2
            rw [e0, if_pos q]
          have i := ih hr.2.2 (exS2 l st z y) (by rw [e]; exact h) (by rw [e]; show st.1 + z.length ≤ _; omega)
          have e1 : runP l (.alt z y :: r) st.1 = runP l r (exS2 l st z y).1 := by simp only [runP]; rw [if_neg c, if_pos q, e]
          have e2 : runS l (.alt z y :: r) st = runS l r (exS2 l st z y) := rfl
          rw [e1, e2]
          rcases i with ⟨i1, i2, i3⟩ | i
          · refine Or.inl ⟨i1, ?_, ?_⟩
            · rw [i2, e]
              show (st.1 + z.length + lenP r, st.2) = (st.1 + (z.length + lenP r), st.2)
              rw [Nat.add_assoc]
            · rw [e] at i3
              have i4 : st.1 + z.length + lenP r ≤ l.length := i3
              show st.1 + (z.length + lenP r) ≤ _
              omega
          · exact Or.inr i
        · refine Or.inr ⟨3, st.1, by simp only [runP]; rw [if_neg c, if_neg q], by decide, ?_⟩
          refine bad r _ 3 st.1 hr.2.2 ?_ (by decide)
          unfold exS2
          rw [e0, if_neg q]
          unfold flR
          rw [if_neg (by simpa using h)]
    | eat n =>
      have hr' : okP r = true := hr
      by_cases c : l.length < st.1 + n
      · refine Or.inr ⟨7, st.1, by simp only [runP]; rw [if_pos c], by decide, ?_⟩
        refine bad r _ 7 st.1 hr' ?_ (by decide)
        rw [tkN_miss l 0 st n false h (by omega) hp (by simp)]
        simp
      · have e : (tkN l 0 st (n : Nat) false).2 = (st.1 + n, st.2) := by rw [tkN_go l 0 st n false h (by omega) (by simp)]
        have i := ih hr' (tkN l 0 st (n : Nat) false).2 (by rw [e]; exact h) (by rw [e]; show st.1 + n ≤ _; omega)
        have e1 : runP l (.eat n :: r) st.1 = runP l r (tkN l 0 st (n : Nat) false).2.1 := by simp only [runP]; rw [if_neg c, e]
        have e2 : runS l (.eat n :: r) st = runS l r (tkN l 0 st (n : Nat) false).2 := rfl
        rw [e1, e2]
        rcases i with ⟨i1, i2, i3⟩ | i
        · refine Or.inl ⟨i1, ?_, ?_⟩
          · rw [i2, e]
            show (st.1 + n + lenP r, st.2) = (st.1 + (n + lenP r), st.2)
            rw [Nat.add_assoc]
          · rw [e] at i3
            have i4 : st.1 + n + lenP r ≤ l.length := i3
            show st.1 + (n + lenP r) ≤ _
            omega
        · exact Or.inr i
    | num n =>
      simp only [okP, Bool.and_eq_true, decide_eq_true_eq] at hr
      by_cases c : l.length < st.1 + n
      · refine Or.inr ⟨7, st.1, by simp only [runP]; rw [if_pos c], by decide, ?_⟩
        exact bad r _ 7 st.1 hr.2.2 (by rw [nm_miss l st n hr.1 (by omega) h (by omega) hp]) (by decide)
      · have e : nmS l 0 st (n : Nat) = (st.1 + n, st.2) := (nm_go l st n hr.1 (by omega) h (by omega)).1
        have i := ih hr.2.2 (nmS l 0 st (n : Nat)) (by rw [e]; exact h) (by rw [e]; show st.1 + n ≤ _; omega)
        have e1 : runP l (.num n :: r) st.1 = runP l r (nmS l 0 st (n : Nat)).1 := by simp only [runP]; rw [if_neg c, e]
        have e2 : runS l (.num n :: r) st = runS l r (nmS l 0 st (n : Nat)) := rfl
        rw [e1, e2]
        rcases i with ⟨i1, i2, i3⟩ | i
        · refine Or.inl ⟨i1, ?_, ?_⟩
          · rw [i2, e]
            show (st.1 + n + lenP r, st.2) = (st.1 + (n + lenP r), st.2)
            rw [Nat.add_assoc]
          · rw [e] at i3
            have i4 : st.1 + n + lenP r ≤ l.length := i3
            show st.1 + (n + lenP r) ≤ _
            omega
        · exact Or.inr i

/-- What is wrong first in all of it, behind which only noughts stand. -/
def allP (l : List UInt8) (r : List Stp) : Option (Int × Nat) :=
  match runP l r 0 with
  | some x => some x
  | none => if lenP r + lead (l.drop (lenP r)) = l.length then none else some (15, lenP r + lead (l.drop (lenP r)))

theorem all_ans (l : List UInt8) (r : List Stp) (hr : okP r = true) :
    (allP l r = none ∧ runP l r 0 = none ∧ lenP r ≤ l.length ∧ runS l r (0, 0, -1) = (lenP r, 0, -1) ∧ zrR l 0 (runS l r (0, 0, -1)) = (true, l.length, 0, -1)) ∨
    (∃ e x, allP l r = some (e, x) ∧ e ≠ 0 ∧ (zrR l 0 (runS l r (0, 0, -1))).1 = false ∧ (zrR l 0 (runS l r (0, 0, -1))).2.2 = (e, (x : Int))) := by
  rcases runS_spec l r hr (0, 0, -1) rfl (Nat.zero_le _) with ⟨h1, h2, h3⟩ | ⟨e, x, h1, h2, h3⟩
  · have h1' : runP l r 0 = none := h1
    rw [Nat.zero_add] at h2 h3
    by_cases c : lenP r + lead (l.drop (lenP r)) = l.length
    · refine Or.inl ⟨by unfold allP; rw [h1']; exact if_pos c, h1', h3, h2, ?_⟩
      rw [h2]
      unfold zrR
      rw [if_neg (by simp), if_pos c]
    · refine Or.inr ⟨15, lenP r + lead (l.drop (lenP r)), by unfold allP; rw [h1']; exact if_neg c, by decide, ?_, ?_⟩
      · rw [h2]
        unfold zrR
        rw [if_neg (by simp), if_neg c]
      · rw [h2]
        unfold zrR
        rw [if_neg (by simp), if_neg c]
        simp
  · have h1' : runP l r 0 = some (e, x) := h1
    have hb : zrR l 0 (runS l r (0, 0, -1)) = (false, runS l r (0, 0, -1)) := zrR_bad _ _ _ (by rw [h3]; exact h2)
    exact Or.inr ⟨e, x, by unfold allP; rw [h1'], h2, by rw [hb], by rw [hb]; exact h3⟩

/-- One step of it. -/
theorem runP_want {l z : List UInt8} {r : List Stp} {p : Nat} (h : p + z.length ≤ l.length) (hz : (l.drop p).take z.length = z) : runP l (.want z :: r) p = runP l r (p + z.length) := by
  simp only [runP]; rw [if_neg (by omega), if_pos hz]

theorem runP_wantM {l z : List UInt8} {r : List Stp} {p : Nat} (h : ¬ p + z.length ≤ l.length) : runP l (.want z :: r) p = some (7, p) := by
  simp only [runP]; rw [if_pos (by omega)]

theorem runP_wantF {l z : List UInt8} {r : List Stp} {p : Nat} (h : p + z.length ≤ l.length) (hz : ¬ (l.drop p).take z.length = z) : runP l (.want z :: r) p = some (3, p) := by
  simp only [runP]; rw [if_neg (by omega), if_neg hz]

theorem runP_alt {l z y : List UInt8} {r : List Stp} {p : Nat} (h : p + z.length ≤ l.length) (hz : (l.drop p).take z.length = z ∨ (l.drop p).take z.length = y) : runP l (.alt z y :: r) p = runP l r (p + z.length) := by
  simp only [runP]; rw [if_neg (by omega), if_pos hz]

theorem runP_altM {l z y : List UInt8} {r : List Stp} {p : Nat} (h : ¬ p + z.length ≤ l.length) : runP l (.alt z y :: r) p = some (7, p) := by
  simp only [runP]; rw [if_pos (by omega)]

theorem runP_altF {l z y : List UInt8} {r : List Stp} {p : Nat} (h : p + z.length ≤ l.length) (hz : ¬ ((l.drop p).take z.length = z ∨ (l.drop p).take z.length = y)) : runP l (.alt z y :: r) p = some (3, p) := by
  simp only [runP]; rw [if_neg (by omega), if_neg hz]

theorem runP_eat {l : List UInt8} {r : List Stp} {p n : Nat} (h : p + n ≤ l.length) : runP l (.eat n :: r) p = runP l r (p + n) := by
  simp only [runP]; rw [if_neg (by omega)]

theorem runP_eatM {l : List UInt8} {r : List Stp} {p n : Nat} (h : ¬ p + n ≤ l.length) : runP l (.eat n :: r) p = some (7, p) := by
  simp only [runP]; rw [if_pos (by omega)]

theorem runP_num {l : List UInt8} {r : List Stp} {p n : Nat} (h : p + n ≤ l.length) : runP l (.num n :: r) p = runP l r (p + n) := by
  simp only [runP]; rw [if_neg (by omega)]

theorem runP_numM {l : List UInt8} {r : List Stp} {p n : Nat} (h : ¬ p + n ≤ l.length) : runP l (.num n :: r) p = some (7, p) := by
  simp only [runP]; rw [if_pos (by omega)]

theorem allP_some {l : List UInt8} {r : List Stp} {e : Int} {x : Nat} (h : runP l r 0 = some (e, x)) : allP l r = some (e, x) := by unfold allP; rw [h]

theorem allP_none {l : List UInt8} {r : List Stp} (h : runP l r 0 = none) : allP l r = if lenP r + lead (l.drop (lenP r)) = l.length then none else some (15, lenP r + lead (l.drop (lenP r))) := by unfold allP; rw [h]

/-- Behind p only noughts, or another byte at m. -/
theorem lead_ways (s : ByteArray) (p : Nat) (hp : p ≤ s.size) :
    ((∀ (j : Nat) b, p ≤ j → s.data.toList[j]? = some b → b = 0) ∧ p + lead (s.data.toList.drop p) = s.data.toList.length) ∨
    (∃ m, ∃ hm : m < s.size, p ≤ m ∧ (∀ (j : Nat) b, p ≤ j → j < m → s.data.toList[j]? = some b → b = 0) ∧ s[m] ≠ 0 ∧ p + lead (s.data.toList.drop p) = m) := by
  rcases zrR_ways s p (-1) hp with ⟨h, e⟩ | ⟨m, hm, h1, h2, h3, e⟩
  · refine Or.inl ⟨h, ?_⟩
    by_cases c : p + lead (s.data.toList.drop p) = s.data.toList.length
    · exact c
    · unfold zrR at e
      rw [if_neg (by simp), if_neg c] at e
      simp at e
  · refine Or.inr ⟨m, hm, h1, h2, h3, ?_⟩
    by_cases c : p + lead (s.data.toList.drop p) = s.data.toList.length
    · unfold zrR at e
      rw [if_neg (by simp), if_pos c] at e
      simp at e
    · unfold zrR at e
      rw [if_neg (by simp), if_neg c] at e
      simp only [Prod.mk.injEq, true_and] at e
      exact e.1

end Go.Proofs.YtdjljnpbnhampaaDoor

namespace Go.Proofs.YtdjljnpbnhampaaDoor
open Go.RowKit
attribute [local go_sem ↓] Go.wp_at_zero Go.wp_at_succ
set_option linter.unusedSimpArgs false
set_option linter.unusedVariables false
set_option maxRecDepth 100000

theorem index_no (t : ByteArray) (w : World) :
    Calls Tryd.prog 101 #[.slice none 0 0, .string t] w fun e w' => e = .returned (.int .i64 (-1)) ∧ w = w' := by
  go_enter Tryd.func101, Tryd.ntmps101
  go_wp2_with fail
  go_loopw [8] (fun i wr => i = .int .i64 0 ∧ wr = w) (fun _ _ => 0)
  case atStart => exact ⟨rfl, rfl⟩
  case round =>
    obtain ⟨rfl, rfl⟩ := hrel
    go_wp2
    go_ret
    exact ⟨rfl, rfl⟩

theorem contains_no (t : ByteArray) (w : World) :
    Calls Tryd.prog 73 #[.slice none 0 0, .string t] w fun e w' => e = .returned (.bool false) ∧ w = w' := by
  go_enter Tryd.func73, Tryd.ntmps73
  go_wp2_with fail
  refine (index_no t _).mono ?_
  rintro e w2 ⟨rfl, rfl⟩
  go_wp2
  go_ret
  exact ⟨rfl, rfl⟩

theorem index_one (t y : ByteArray) (b : Nat) (w : World) (hc : w.cell? ⟨b, 0, none⟩ = some (.string y)) :
    Calls Tryd.prog 101 #[.slice (some ⟨b, 0, none⟩) 1 1, .string t] w fun e w' => e = .returned (.int .i64 (if t = y then 0 else -1)) ∧ w = w' := by
  by_cases c : t = y
  · subst c
    rw [if_pos rfl]
    go_enter Tryd.func101, Tryd.ntmps101
    go_wp2_with fail
    go_loopw [8] (fun i wr => i = .int .i64 0 ∧ wr = w) (fun _ _ => 0)
    case atStart => exact ⟨rfl, rfl⟩
    case round =>
      obtain ⟨rfl, rfl⟩ := hrel
      go_wp2
      go_ret
      exact ⟨rfl, rfl⟩
  · rw [if_neg c]
    have hn : (t.toList == y.toList) = false := by
      apply beq_eq_false_iff_ne.2
      rw [ByteArray.toList_eq, ByteArray.toList_eq]
      intro e
      exact c (ByteArray.ext (Array.toList_inj.1 e))
    clear c
    go_enter Tryd.func101, Tryd.ntmps101
    go_wp2_with fail
    go_loopw [8] (fun i wr => ∃ k : Nat, k ≤ 1 ∧ i = .int .i64 k ∧ wr = w) (fun i _ => 1 - (intOf i).toNat)
    case atStart => exact ⟨0, by omega, rfl, rfl⟩
    case round =>
      obtain ⟨k, hk, rfl, rfl⟩ := hrel
      by_cases hlt : k < 1
      · obtain rfl : k = 0 := by omega
        go_wp2
        go_roundw
        case rel => first | exact ⟨1, by omega, by go_num, rfl⟩ | exact ⟨1, by omega, by go_num, trivial⟩ | exact ⟨1, by omega, by go_num⟩
        case measure => simp [intOf]
      · obtain rfl : k = 1 := by omega
        go_wp2
        go_ret
        exact ⟨rfl, rfl⟩

theorem contains_one (t y : ByteArray) (b : Nat) (w : World) (hc : w.cell? ⟨b, 0, none⟩ = some (.string y)) :
    Calls Tryd.prog 73 #[.slice (some ⟨b, 0, none⟩) 1 1, .string t] w fun e w' => e = .returned (.bool (decide (t = y))) ∧ w = w' := by
  have HI := Lib.hid (index_one t y b w hc)
  by_cases c : t = y
  · rw [if_pos c] at HI
    rw [decide_eq_true c]
    clear c
    go_enter Tryd.func73, Tryd.ntmps73
    go_wp2_with fail
    refine (HI.out).mono ?_
    rintro e w2 ⟨rfl, rfl⟩
    go_wp2
    go_ret
    exact ⟨rfl, rfl⟩
  · rw [if_neg c] at HI
    rw [decide_eq_false c]
    clear c
    go_enter Tryd.func73, Tryd.ntmps73
    go_wp2_with fail
    refine (HI.out).mono ?_
    rintro e w2 ⟨rfl, rfl⟩
    go_wp2
    go_ret
    exact ⟨rfl, rfl⟩

theorem RdT.pos {w : World} {g : Nat} {s : ByteArray} {st : RSt} (h : RdT w g s 0 st) : w.cell? ⟨g, 1, none⟩ = some (.int .i64 (st.1 : Int)) := by
  obtain ⟨f, hr, _⟩ := h
  have e := hr.c1
  rw [show ((0 : Nat) : Int) + (st.1 : Int) = (st.1 : Int) by omega] at e
  exact e

/-- What they are. -/
def exV (l : List UInt8) (st : RSt) (z : List UInt8) : List UInt8 := if (tkN l 0 st (z.length : Nat) false).1 = z then (tkN l 0 st (z.length : Nat) false).1 else []

theorem exp_t {g : Nat} {s : ByteArray} (z : ByteArray) (hz : z.size ≤ 8) (st : RSt) (w : World) (h : RdT w g s 0 st) (hp : st.1 ≤ s.size) (hb : 0 + s.size ≤ 281474976710656) :
    Calls Tryd.prog 39 #[.pointer (some ⟨g, 0, none⟩), .string z, .slice none 0 0] w fun e w' => e = .returned (.string ⟨(exV s.data.toList st z.data.toList).toArray⟩) ∧ RdT w' g s 0 (exS s.data.toList st z.data.toList) ∧ w.grownBy w' (some g) := by
  have hzl : z.data.toList.length = z.size := by simp
  have HY : Hid (∀ W, RdT W g s 0 st → Calls Tryd.prog 43 #[.pointer (some ⟨g, 0, none⟩), .int .i64 (z.size : Nat)] W fun e w' => e = .returned (.string ⟨(tkN s.data.toList 0 st (z.size : Nat) false).1.toArray⟩) ∧ RdT w' g s 0 (tkN s.data.toList 0 st (z.size : Nat) false).2 ∧ W.grownBy w' (some g)) := fun W h => bytes_t st _ W h hp hb
  have HT : Hid (exS s.data.toList st z.data.toList = if (tkN s.data.toList 0 st (z.size : Nat) false).1 = z.data.toList then (tkN s.data.toList 0 st (z.size : Nat) false).2 else flR (tkN s.data.toList 0 st (z.size : Nat) false).2 3 (st.1 : Int)) := by
    show _ = _
    unfold exS
    rw [hzl]
  have HV : Hid (exV s.data.toList st z.data.toList = if (tkN s.data.toList 0 st (z.size : Nat) false).1 = z.data.toList then (tkN s.data.toList 0 st (z.size : Nat) false).1 else []) := by
    show _ = _
    unfold exV
    rw [hzl]
  have c1 := h.pos
  generalize (tkN s.data.toList 0 st (z.size : Nat) false).2 = s2 at *
  generalize exS s.data.toList st z.data.toList = s3 at *
  generalize exV s.data.toList st z.data.toList = v3 at *
  generalize (st.1 : Int) = pl at *
  obtain ⟨u, hu⟩ : ∃ u : ByteArray, u = ⟨(tkN s.data.toList 0 st (z.size : Nat) false).1.toArray⟩ := ⟨_, rfl⟩
  rw [← hu] at HY
  have hul : u.data.toList = (tkN s.data.toList 0 st (z.size : Nat) false).1 := by rw [hu]
  rw [← hul] at HT HV
  clear hul hu hp hb hzl
  by_cases c : u.data.toList = z.data.toList
  · rw [if_pos c] at HT HV
    have hT := HT.out
    subst hT
    have hc : u = z := by
      apply ByteArray.ext
      apply Array.toList_inj.1
      exact c
    subst hc
    clear c HT
    go_enter Tryd.func39, Tryd.ntmps39
    go_wp2_with fail
    refine (HY.out _ h).mono ?_
    rintro e w2 ⟨rfl, h2, g2⟩
    go_wp2
    go_ret
    exact ⟨by rw [HV.out] <;> rfl, h2, g2⟩
  · rw [if_neg c] at HT HV
    have hT := HT.out
    subst hT
    have hn : (u.toList == z.toList) = false := by
      apply beq_eq_false_iff_ne.2
      rw [ByteArray.toList_eq, ByteArray.toList_eq]
      exact c
    clear c HT
    go_enter Tryd.func39, Tryd.ntmps39
    go_wp2_with fail
    refine (HY.out _ h).mono ?_
    rintro e w2 ⟨rfl, h2, g2⟩
    go_wp2_with fail
    refine (contains_no u _).mono ?_
    rintro e w3 ⟨rfl, rfl⟩
    go_wp2_with fail
    refine (fail_t s2 3 pl (by decide) _ h2).mono ?_
    rintro e w3 ⟨rfl, h3, g3⟩
    go_wp2
    go_ret
    exact ⟨by rw [HV.out] <;> rfl, h3, grown_same g2 g3⟩

/-- This text, or one other. -/
theorem exp2_t {g b : Nat} {s : ByteArray} (z y : ByteArray) (hz : z.size ≤ 8) (st : RSt) (w : World) (h : RdT w g s 0 st) (hY : Blk w b 9 #[.string y]) (hp : st.1 ≤ s.size) (hb : 0 + s.size ≤ 281474976710656) :
    Calls Tryd.prog 39 #[.pointer (some ⟨g, 0, none⟩), .string z, .slice (some ⟨b, 0, none⟩) 1 1] w fun e w' => e = .returned (.string ⟨(exV2 s.data.toList st z.data.toList y.data.toList).toArray⟩) ∧ RdT w' g s 0 (exS2 s.data.toList st z.data.toList y.data.toList) ∧ w.grownBy w' (some g) := by
  have hzl : z.data.toList.length = z.size := by simp
  have HY : Hid (∀ W, RdT W g s 0 st → Calls Tryd.prog 43 #[.pointer (some ⟨g, 0, none⟩), .int .i64 (z.size : Nat)] W fun e w' => e = .returned (.string ⟨(tkN s.data.toList 0 st (z.size : Nat) false).1.toArray⟩) ∧ RdT w' g s 0 (tkN s.data.toList 0 st (z.size : Nat) false).2 ∧ W.grownBy w' (some g)) := fun W h => bytes_t st _ W h hp hb
  have HT : Hid (exS2 s.data.toList st z.data.toList y.data.toList = if (tkN s.data.toList 0 st (z.size : Nat) false).1 = z.data.toList ∨ (tkN s.data.toList 0 st (z.size : Nat) false).1 = y.data.toList then (tkN s.data.toList 0 st (z.size : Nat) false).2 else flR (tkN s.data.toList 0 st (z.size : Nat) false).2 3 (st.1 : Int)) := by
    show _ = _
    unfold exS2
    rw [hzl]
  have HV : Hid (exV2 s.data.toList st z.data.toList y.data.toList = if (tkN s.data.toList 0 st (z.size : Nat) false).1 = z.data.toList ∨ (tkN s.data.toList 0 st (z.size : Nat) false).1 = y.data.toList then (tkN s.data.toList 0 st (z.size : Nat) false).1 else []) := by
    show _ = _
    unfold exV2
    rw [hzl]
  have c1 := h.pos
  have HB := Lib.hid (fun (W : World) (h1 : Blk W b 9 #[.string y]) => h1.cv 0 (.string y) rfl)
  generalize (tkN s.data.toList 0 st (z.size : Nat) false).2 = s2 at *
  generalize exS2 s.data.toList st z.data.toList y.data.toList = s3 at *
  generalize exV2 s.data.toList st z.data.toList y.data.toList = v3 at *
  generalize (st.1 : Int) = pl at *
  obtain ⟨u, hu⟩ : ∃ u : ByteArray, u = ⟨(tkN s.data.toList 0 st (z.size : Nat) false).1.toArray⟩ := ⟨_, rfl⟩
  rw [← hu] at HY
  have hul : u.data.toList = (tkN s.data.toList 0 st (z.size : Nat) false).1 := by rw [hu]
  rw [← hul] at HT HV
  clear hul hu hp hb hzl
  have same : ∀ t : ByteArray, u.data.toList = t.data.toList → u = t := fun t c => by
    apply ByteArray.ext
    apply Array.toList_inj.1
    exact c
  by_cases c : u.data.toList = z.data.toList
  · rw [if_pos (Or.inl c)] at HT HV
    have hT := HT.out
    subst hT
    have hc := same z c
    subst hc
    clear c HT same
    go_enter Tryd.func39, Tryd.ntmps39
    go_wp2_with fail
    refine (HY.out _ h).mono ?_
    rintro e w2 ⟨rfl, h2, g2⟩
    go_wp2
    go_ret
    exact ⟨by rw [HV.out] <;> rfl, h2, g2⟩
  · have hn : (u.toList == z.toList) = false := by
      apply beq_eq_false_iff_ne.2
      rw [ByteArray.toList_eq, ByteArray.toList_eq]
      exact c
    by_cases d : u.data.toList = y.data.toList
    · rw [if_pos (Or.inr d)] at HT HV
      have hT := HT.out
      subst hT
      have hd := same y d
      have HC := Lib.hid (fun (W : World) (hc : W.cell? ⟨b, 0, none⟩ = some (.string y)) => contains_one u y b W hc)
      rw [decide_eq_true hd] at HC
      clear c d HT same hd
      go_enter Tryd.func39, Tryd.ntmps39
      go_wp2_with fail
      refine (HY.out _ h).mono ?_
      rintro e w2 ⟨rfl, h2, g2⟩
      have hY2 := hY.reads h (by decide : 9 ≠ 160) g2
      go_wp2_with fail
      refine (HC.out _ (HB.out _ hY2)).mono ?_
      rintro e w3 ⟨rfl, rfl⟩
      go_wp2
      go_ret
      exact ⟨by rw [HV.out] <;> rfl, h2, g2⟩
    · rw [if_neg (fun q => q.elim c d)] at HT HV
      have hT := HT.out
      subst hT
      have hd : ¬ u = y := fun q => d (by rw [q])
      have HC := Lib.hid (fun (W : World) (hc : W.cell? ⟨b, 0, none⟩ = some (.string y)) => contains_one u y b W hc)
      rw [decide_eq_false hd] at HC
      clear c d HT same hd
      go_enter Tryd.func39, Tryd.ntmps39
      go_wp2_with fail
      refine (HY.out _ h).mono ?_
      rintro e w2 ⟨rfl, h2, g2⟩
      have hY2 := hY.reads h (by decide : 9 ≠ 160) g2
      go_wp2_with fail
      refine (HC.out _ (HB.out _ hY2)).mono ?_
      rintro e w3 ⟨rfl, rfl⟩
      go_wp2_with fail
      refine (fail_t s2 3 pl (by decide) _ h2).mono ?_
      rintro e w3 ⟨rfl, h3, g3⟩
      go_wp2
      go_ret
      exact ⟨by rw [HV.out] <;> rfl, h3, grown_same g2 g3⟩

end Go.Proofs.YtdjljnpbnhampaaDoor

namespace Go.Proofs.YtdjljnpbnhampaaDoor
open Go.RowKit
attribute [local go_sem ↓] Go.wp_at_zero Go.wp_at_succ
set_option linter.unusedSimpArgs false
set_option linter.unusedVariables false
set_option maxRecDepth 100000

/-- Two bytes, one after the other; what they say; the state behind them. -/
def h1T (S : List UInt8) (st : RSt) : List UInt8 := (tkN S 0 st 1 false).1

def h1S (S : List UInt8) (st : RSt) : RSt := (tkN S 0 st 1 false).2

def h2T (S : List UInt8) (st : RSt) : List UInt8 := (tkN S 0 (h1S S st) 1 false).1

def h2S (S : List UInt8) (st : RSt) : RSt := (tkN S 0 (h1S S st) 1 false).2

def mhV (S : List UInt8) (st : RSt) : Bool := decide (h1T S st ++ h2T S st = [1, 2])

def mhS (S : List UInt8) (st : RSt) : RSt :=
  if h1T S st ++ h2T S st = [1, 2] then h2S S st else if h1T S st ++ h2T S st = [0, 0] then h2S S st
  else if h1T S st = [1] then flR (h2S S st) 3 ((st.1 + 1 : Nat) : Int) else flR (h2S S st) 5 st.1

theorem mh_len (S : List UInt8) (st : RSt) : (h1T S st).length ≤ 1 ∧ (h2T S st).length ≤ 1 := by
  have q1 := tkN_len S 0 st 1 false
  have q2 := tkN_len S 0 (h1S S st) 1 false
  constructor
  · rcases q1 with q | q
    · show (tkN S 0 st 1 false).1.length ≤ 1
      rw [show (1 : Int) = ((1 : Nat) : Int) from rfl, q]; simp
    · exact Nat.le_of_eq q
  · rcases q2 with q | q
    · show (tkN S 0 (h1S S st) 1 false).1.length ≤ 1
      rw [show (1 : Int) = ((1 : Nat) : Int) from rfl, q]; simp
    · exact Nat.le_of_eq q

theorem mhS_le (S : List UInt8) (st : RSt) (h : st.1 ≤ S.length) : (mhS S st).1 ≤ S.length := by
  have h1 : (h1S S st).1 ≤ S.length := tkN_le S 0 st 1 false h
  have h2 : (h2S S st).1 ≤ S.length := tkN_le S 0 (h1S S st) 1 false h1
  unfold mhS
  split
  · exact h2
  split
  · exact h2
  split
  · exact flR_le S _ _ _ h2
  · exact flR_le S _ _ _ h2

theorem text_eq {z : List UInt8} {t : ByteArray} (ht : t = ⟨z.toArray⟩) (l : List UInt8) : (t.toList == l) = decide (z = l) := by
  subst ht
  rw [ByteArray.toList_eq]
  show (z == l) = _
  by_cases c : z = l
  · rw [decide_eq_true c, beq_iff_eq]; exact c
  · rw [decide_eq_false c, beq_eq_false_iff_ne]; exact c

set_option maxHeartbeats 1600000 in
theorem readHead_m {g : Nat} {S : ByteArray} (st : RSt) (w : World) (h : RdT w g S 0 st) (hp : st.1 ≤ S.size) (hb : S.size ≤ 281474976710656) :
    Calls Tryd.prog 88 #[.pointer (some ⟨g, 0, none⟩)] w fun e w' => e = .returned (.bool (mhV S.data.toList st)) ∧ RdT w' g S 0 (mhS S.data.toList st) ∧ w.grownBy w' (some g) := by
  have hls : S.data.toList.length = S.size := by simp
  have e0 : ((0 : Nat) : Int) + (st.1 : Int) = ((st.1 : Nat) : Int) := by omega
  have HA := Lib.hid (atT st w h)
  rw [e0] at HA
  have hp1 : (h1S S.data.toList st).1 ≤ S.size := by rw [← hls]; exact tkN_le _ 0 st 1 false (by rw [hls]; exact hp)
  have H1 : Hid (Calls Tryd.prog 43 #[.pointer (some ⟨g, 0, none⟩), .int .i64 1] w fun e w' => e = .returned (.string ⟨(h1T S.data.toList st).toArray⟩) ∧ RdT w' g S 0 (h1S S.data.toList st) ∧ w.grownBy w' (some g)) := bytes_t st 1 w h hp (by omega)
  have H2 : Hid (∀ W, RdT W g S 0 (h1S S.data.toList st) → Calls Tryd.prog 43 #[.pointer (some ⟨g, 0, none⟩), .int .i64 1] W fun e w' => e = .returned (.string ⟨(h2T S.data.toList st).toArray⟩) ∧ RdT w' g S 0 (h2S S.data.toList st) ∧ W.grownBy w' (some g)) := fun W h => bytes_t _ 1 W h hp1 (by omega)
  have HF : Hid (∀ (e1 : Int) (pl : Nat) (W : World) (s1 : RSt), e1 ≠ 0 → RdT W g S 0 s1 → Calls Tryd.prog 61 #[.pointer (some ⟨g, 0, none⟩), .int .i64 e1, .int .i64 (pl : Nat)] W fun e w' => e = .returned (.tuple #[]) ∧ RdT w' g S 0 (flR s1 e1 (pl : Nat)) ∧ W.grownBy w' (some g)) := fun e1 pl W s1 he h => fail_t s1 e1 pl he W h
  obtain ⟨l1, l2⟩ := mh_len S.data.toList st
  have hpw : IntKind.i64.wrap ((st.1 : Nat) + 1 : Int) = ((st.1 + 1 : Nat) : Int) := by rw [IntKind.wrap_i64] <;> omega
  unfold mhV mhS
  generalize h2S S.data.toList st = s2 at *
  generalize h1S S.data.toList st = s1 at *
  generalize h1T S.data.toList st = y1 at *
  generalize h2T S.data.toList st = y2 at *
  generalize st.1 = p at *
  obtain ⟨t, ht⟩ : ∃ t : ByteArray, t = ⟨(y1 ++ y2).toArray⟩ := ⟨_, rfl⟩
  obtain ⟨t1, ht1⟩ : ∃ t : ByteArray, t = ⟨y1.toArray⟩ := ⟨_, rfl⟩
  have q12 := text_eq ht [1, 2]
  have q00 := text_eq ht [0, 0]
  have q1 := text_eq ht1 [1]
  rw [← ht1] at H1
  have p1 : ∀ W, (Op.stringOp .add t1 ⟨y2.toArray⟩).run Tryd.prog W = .ok (.string t) W := fun W => by rw [ht, ht1]; exact run_string_add_lists W y1 y2 (by omega) (by omega)
  clear ht ht1 hp hp1 e0 h l1 l2
  by_cases c12 : y1 ++ y2 = [1, 2]
  · rw [if_pos c12, decide_eq_true c12]
    rw [decide_eq_true c12] at q12
    clear c12 q00 q1 HF
    go_enter Tryd.func88, Tryd.ntmps88
    go_wp2_with fail
    refine HA.out.mono ?_
    rintro e w1 ⟨rfl, rfl⟩
    go_wp2_with fail
    refine H1.out.mono ?_
    rintro e w2 ⟨rfl, HR2, g2⟩
    go_wp2_with fail
    refine (H2.out _ HR2).mono ?_
    rintro e w3 ⟨rfl, HR3, g3'⟩
    go_wp2
    go_ret
    exact ⟨rfl, HR3, grownBy_trans g2 g3'⟩
  · rw [if_neg c12, decide_eq_false c12]
    rw [decide_eq_false c12] at q12
    by_cases c00 : y1 ++ y2 = [0, 0]
    · rw [if_pos c00]
      rw [decide_eq_true c00] at q00
      clear c12 c00 q1 HF
      go_enter Tryd.func88, Tryd.ntmps88
      go_wp2_with fail
      refine HA.out.mono ?_
      rintro e w1 ⟨rfl, rfl⟩
      go_wp2_with fail
      refine H1.out.mono ?_
      rintro e w2 ⟨rfl, HR2, g2⟩
      go_wp2_with fail
      refine (H2.out _ HR2).mono ?_
      rintro e w3 ⟨rfl, HR3, g3'⟩
      go_wp2
      go_ret
      exact ⟨rfl, HR3, grownBy_trans g2 g3'⟩
    · rw [if_neg c00]
      rw [decide_eq_false c00] at q00
      by_cases c1 : y1 = [1]
      · rw [if_pos c1]
        rw [decide_eq_true c1] at q1
        have d1 : (t1.toList != [1]) = false := by rw [bne, q1]; rfl
        have HF3 := Lib.hid (fun W h => HF.out 3 (p + 1) W s2 (by decide) h)
        clear c12 c00 c1 HF
        go_enter Tryd.func88, Tryd.ntmps88
        go_wp2_with fail
        refine HA.out.mono ?_
        rintro e w1 ⟨rfl, rfl⟩
        go_wp2_with fail
        refine H1.out.mono ?_
        rintro e w2 ⟨rfl, HR2, g2⟩
        go_wp2_with fail
        refine (H2.out _ HR2).mono ?_
        rintro e w3 ⟨rfl, HR3, g3'⟩
        go_wp2_with fail
        refine (HF3.out _ HR3).mono ?_
        rintro e w4 ⟨rfl, HR4, g4⟩
        go_wp2
        go_ret
        exact ⟨rfl, HR4, grownBy_trans (grownBy_trans g2 g3') g4⟩
      · rw [if_neg c1]
        rw [decide_eq_false c1] at q1
        have d1 : (t1.toList != [1]) = true := by rw [bne, q1]; rfl
        have HF5 := Lib.hid (fun W h => HF.out 5 p W s2 (by decide) h)
        clear c12 c00 c1 HF
        go_enter Tryd.func88, Tryd.ntmps88
        go_wp2_with fail
        refine HA.out.mono ?_
        rintro e w1 ⟨rfl, rfl⟩
        go_wp2_with fail
        refine H1.out.mono ?_
        rintro e w2 ⟨rfl, HR2, g2⟩
        go_wp2_with fail
        refine (H2.out _ HR2).mono ?_
        rintro e w3 ⟨rfl, HR3, g3'⟩
        go_wp2_with fail
        refine (HF5.out _ HR3).mono ?_
        rintro e w4 ⟨rfl, HR4, g4⟩
        go_wp2
        go_ret
        exact ⟨rfl, HR4, grownBy_trans (grownBy_trans g2 g3') g4⟩

end Go.Proofs.YtdjljnpbnhampaaDoor

namespace Go.Proofs.YtdjljnpbnhampaaDoor
open Go.RowKit
attribute [local go_sem ↓] Go.wp_at_zero Go.wp_at_succ
set_option linter.unusedSimpArgs false
set_option linter.unusedVariables false
set_option maxRecDepth 100000

def a3 (l : List Int) : Array Value := #[.int .i64 (l.getD 0 0), .int .i64 (l.getD 1 0), .int .i64 (l.getD 2 0)]

theorem split_any (n : Nat) (hn : n ≤ 215) (w : World) : Calls Tryd.prog 130 #[.int .i64 (n : Nat)] w fun e w' => e = .returned (.agg (a3 (trip n))) ∧ Below w.heap.size w w' := by
  have HZ := Blk.new w 217 #[.int .i64 0, .int .i64 0, .int .i64 0]
  have B0 : Below w.heap.size w (w.alloc (.cells #[.int .i64 0, .int .i64 0, .int .i64 0] 217)) := (Below.refl _ _).alloc (Nat.le_refl _) _
  have k1 : (n : Int).tdiv 36 = ((n / 36 : Nat) : Int) := by rw [Int.tdiv_eq_ediv_of_nonneg (by omega)]; omega
  have k2 : (n : Int).tdiv 6 = ((n / 6 : Nat) : Int) := by rw [Int.tdiv_eq_ediv_of_nonneg (by omega)]; omega
  have k3 : ((n / 6 : Nat) : Int).tmod 6 = ((n / 6 % 6 : Nat) : Int) := by rw [Int.tmod_eq_emod_of_nonneg (by omega)]; omega
  have k4 : (n : Int).tmod 6 = ((n % 6 : Nat) : Int) := by rw [Int.tmod_eq_emod_of_nonneg (by omega)]; omega
  have HE : Hid (a3 (trip n) = #[.int .i64 ((n / 36 : Nat) : Int), .int .i64 ((n / 6 % 6 : Nat) : Int), .int .i64 ((n % 6 : Nat) : Int)]) := rfl
  have k1' : (n : Int) / 36 = ((n / 36 : Nat) : Int) := by omega
  have k2' : (n : Int) / 6 = ((n / 6 : Nat) : Int) := by omega
  have k3' : ((n / 6 : Nat) : Int) % 6 = ((n / 6 % 6 : Nat) : Int) := by omega
  have k4' : (n : Int) % 6 = ((n % 6 : Nat) : Int) := by omega
  have r1 : n / 36 ≤ 5 := by omega
  have r2 : n / 6 ≤ 35 := by omega
  rw [HE.out]
  clear HE
  generalize n / 6 % 6 = n2 at *
  generalize n / 36 = n1 at *
  generalize n / 6 = n6 at *
  generalize n % 6 = n3 at *
  go_enter Tryd.func130, Tryd.ntmps130
  go_upto_region 1 with (fail)
  generalize w.alloc (.cells #[.int .i64 0, .int .i64 0, .int .i64 0] 217) = w1 at *
  go_wp2_with (first
    | (refine build_blk (t := 217) #[.int .i64 (n1 : Int), .int .i64 (n2 : Int), .int .i64 (n3 : Int)] (by rfl) rfl (by kernel_rfl) ?_)
    | (refine store_blk (k := 0) 217 (.agg #[.int .i64 (n1 : Int), .int .i64 (n2 : Int), .int .i64 (n3 : Int)]) #[.int .i64 (n1 : Int), .int .i64 (n2 : Int), .int .i64 (n3 : Int)] (by rfl) rfl rfl rfl HZ (by kernel_rfl) (by exact Nat.le_refl 3) rfl rfl (fun w7 H7 b7 g7 => ?_)))
  exact bodyPost_ret (results_blk rfl rfl H7 (by kernel_rfl) (by kernel_rfl)) rfl ⟨rfl, B0.trans b7⟩

/-- Three events are read. -/
theorem readGroup_t {g : Nat} {S : ByteArray} (st : RSt) (w : World) (h : RdT w g S 0 st) (hp : st.1 ≤ S.size) (hb : S.size ≤ 281474976710656) :
    Calls Tryd.prog 122 #[.pointer (some ⟨g, 0, none⟩)] w fun e w' => e = .returned (.agg (a3 (gpL S.data.toList st))) ∧ RdT w' g S 0 (gpS S.data.toList st) ∧ w.grownBy w' (some g) := by
  have HZ := Blk.new w 217 #[.int .i64 0, .int .i64 0, .int .i64 0]
  have B0 : Below w.heap.size w (w.alloc (.cells #[.int .i64 0, .int .i64 0, .int .i64 0] 217)) := (Below.refl _ _).alloc (Nat.le_refl _) _
  have h1 := h.below B0
  have G0 : w.grownBy (w.alloc (.cells #[.int .i64 0, .int .i64 0, .int .i64 0] 217)) (some g) := World.grownBy_alloc w _ _
  have hgl : g < w.heap.size := h.lt
  have e0 : ((0 : Nat) : Int) + (st.1 : Int) = ((st.1 : Nat) : Int) := by omega
  have HE : gpL S.data.toList st = if 215 < nmV S.data.toList 0 st 1 then [0, 0, 0] else trip (nmV S.data.toList 0 st 1) := rfl
  have HS : gpS S.data.toList st = if 215 < nmV S.data.toList 0 st 1 then flR (nmS S.data.toList 0 st 1) 2 st.1 else nmS S.data.toList 0 st 1 := rfl
  rw [HE, HS]
  clear HE HS
  have HA : Hid (∀ W, RdT W g S 0 st → Calls Tryd.prog 77 #[.pointer (some ⟨g, 0, none⟩)] W fun e w' => e = .returned (.int .i64 (st.1 : Nat)) ∧ W = w') := fun W h => by
    have q := atT st W h
    rw [e0] at q
    exact q
  have HN : Hid (∀ W, RdT W g S 0 st → Calls Tryd.prog 44 #[.pointer (some ⟨g, 0, none⟩), .int .i64 1] W fun e w' => e = .returned (.int .i64 (nmV S.data.toList 0 st 1 : Nat)) ∧ RdT w' g S 0 (nmS S.data.toList 0 st 1) ∧ W.grownBy w' (some g)) := fun W h => numK_t st 1 (by decide) W h hp (by omega)
  have HF : Hid (∀ (W : World), RdT W g S 0 (nmS S.data.toList 0 st 1) → Calls Tryd.prog 61 #[.pointer (some ⟨g, 0, none⟩), .int .i64 2, .int .i64 (st.1 : Nat)] W fun e w' => e = .returned (.tuple #[]) ∧ RdT w' g S 0 (flR (nmS S.data.toList 0 st 1) 2 st.1) ∧ W.grownBy w' (some g)) := fun W h => fail_t _ 2 st.1 (by decide) W h
  have hbn : some w.heap.size ≠ some g := by simp; omega
  generalize nmS S.data.toList 0 st 1 = st1 at *
  generalize nmV S.data.toList 0 st 1 = n at *
  generalize st.1 = p at *
  clear hp h e0
  by_cases hn : 215 < n
  · rw [if_pos hn, if_pos hn]
    have d1 : decide ((215 : Int) < (n : Int)) = true := decide_eq_true (by omega)
    go_enter Tryd.func122, Tryd.ntmps122
    go_upto_region 1 with (fail)
    generalize w.alloc (.cells #[.int .i64 0, .int .i64 0, .int .i64 0] 217) = w1 at *
    go_wp2_with fail
    refine (HA.out _ h1).mono ?_
    rintro e w2 ⟨rfl, rfl⟩
    go_wp2_with fail
    refine (HN.out _ h1).mono ?_
    rintro e w3 ⟨rfl, HR3, g3'⟩
    have HZ3 := HZ.grown g3' hbn
    go_wp2_with fail
    refine (HF.out _ HR3).mono ?_
    rintro e w4 ⟨rfl, HR4, g4⟩
    have HZ4 := HZ3.grown g4 hbn
    have G4 := grownBy_trans (grownBy_trans G0 g3') g4
    clear HA HN HF HZ HZ3 g3' g4 G0 B0 HR3 h1
    go_wp2_with (first
      | (refine build_blk (t := 217) #[.int .i64 0, .int .i64 0, .int .i64 0] (by rfl) rfl (by kernel_rfl) ?_)
      | (refine store_blk (k := 0) 217 (.agg #[.int .i64 0, .int .i64 0, .int .i64 0]) #[.int .i64 0, .int .i64 0, .int .i64 0] (by rfl) rfl rfl rfl HZ4 (by kernel_rfl) (by exact Nat.le_refl 3) rfl rfl (fun w7 H7 b7 g7 => ?_)))
    exact bodyPost_ret (results_blk rfl rfl H7 (by kernel_rfl) (by kernel_rfl)) rfl ⟨rfl, HR4.other HZ4 (by decide) (by decide) g7, grown_own G4 g7 (Nat.le_refl _)⟩
  · rw [if_neg hn, if_neg hn]
    have d1 : decide ((215 : Int) < (n : Int)) = false := decide_eq_false (by omega)
    have HSP := Lib.hid (fun W => split_any n (by omega) W)
    go_enter Tryd.func122, Tryd.ntmps122
    go_upto_region 1 with (fail)
    generalize w.alloc (.cells #[.int .i64 0, .int .i64 0, .int .i64 0] 217) = w1 at *
    go_wp2_with fail
    refine (HA.out _ h1).mono ?_
    rintro e w2 ⟨rfl, rfl⟩
    go_wp2_with fail
    refine (HN.out _ h1).mono ?_
    rintro e w3 ⟨rfl, HR3, g3'⟩
    have HZ3 := HZ.grown g3' hbn
    go_wp2_with fail
    refine (HSP.out _).mono ?_
    rintro e w4 ⟨rfl, b4⟩
    have HZ4 := HZ3.kept b4
    have HR4 := HR3.below b4
    have G4 := grown_belowT (grownBy_trans G0 g3') b4
    clear HA HN HF HZ HZ3 g3' b4 G0 B0 HR3 h1
    go_wp2_with (refine store_blk (k := 0) 217 (.agg (a3 (trip n))) (a3 (trip n)) (by rfl) rfl rfl rfl HZ4 (by kernel_rfl) (show (3 : Nat) ≤ 3 from Nat.le_refl 3) (by rfl) (st_whole _ _ rfl) (fun w7 H7 b7 g7 => ?_))
    exact bodyPost_ret (results_blk rfl rfl H7 (by kernel_rfl) (by kernel_rfl)) rfl ⟨rfl, HR4.other HZ4 (by decide) (by decide) g7, grown_own G4 g7 (Nat.le_refl _)⟩

end Go.Proofs.YtdjljnpbnhampaaDoor

namespace Go.Proofs.YtdjljnpbnhampaaDoor
open Go.RowKit
attribute [local go_sem ↓] Go.wp_at_zero Go.wp_at_succ
set_option linter.unusedSimpArgs false
set_option linter.unusedVariables false
set_option maxRecDepth 100000

def lenV : Value → Nat
  | .slice _ n _ => n
  | _ => 0

theorem three_of {l : List Int} (h : l.length = 3) : ∃ a b c, l = [a, b, c] := by
  match l, h with
  | [a, b, c], _ => exact ⟨a, b, c, rfl⟩

/-- What events end in. -/
def EvEnd (S : List UInt8) (R : EvR) (st : RSt) (l : List Int) : Prop := st.1 ≤ S.length ∧ ((st.2 = (0, -1) ∧ R = .ok l st.1) ∨ (∃ x : Nat, st.2.1 ≠ 0 ∧ st.2.2 = (x : Int) ∧ R = .bad st.2.1 x))

theorem ivAt_blk {w : World} {G : Nat} {T : TypeId} {C : Array Value} {l : List Int} (h : Blk w G T C) (hl : ∀ (j : Nat) (hj : j < l.length), C[j]? = some (.int .i64 l[j])) : IvAt w G 0 l := fun j hj k c hc => by
  have hk : k < 1 := (Array.getElem?_eq_some_iff.1 hc).1
  obtain rfl : k = 0 := by omega
  have e : c = .int .i64 l[j] := by simpa [ivC] using hc.symm
  rw [e, Nat.zero_add, Nat.mul_one, Nat.add_zero]
  exact h.cv j _ (hl j hj)

theorem ivAt_1 {w : World} {G : Nat} {T : TypeId} {x0 x1 x2 : Int} (h : Blk w G T #[.int .i64 x0, .int .i64 x1, .int .i64 x2]) : IvAt w G 0 [x0] := ivAt_blk h (fun j hj => by
  have hj : j < 1 := hj
  obtain rfl : j = 0 := by omega
  rfl)

theorem ivAt_2 {w : World} {G : Nat} {T : TypeId} {x0 x1 x2 : Int} (h : Blk w G T #[.int .i64 x0, .int .i64 x1, .int .i64 x2]) : IvAt w G 0 [x0, x1] := ivAt_blk h (fun j hj => by
  have hj : j < 2 := hj
  have hj2 : j = 0 ∨ j = 1 := by omega
  rcases hj2 with rfl | rfl <;> rfl)

theorem ivAt_3 {w : World} {G : Nat} {T : TypeId} {x0 x1 x2 : Int} (h : Blk w G T #[.int .i64 x0, .int .i64 x1, .int .i64 x2]) : IvAt w G 0 [x0, x1, x2] := ivAt_blk h (fun j hj => by
  have hj : j < 3 := hj
  have hj2 : j = 0 ∨ j = 1 ∨ j = 2 := by omega
  rcases hj2 with rfl | rfl | rfl <;> rfl)

/-- A row of one's own grows: a reader, and blocks of other types, stay. -/
theorem rdT_iv {w w' : World} {v : Value} {l : List Int} {base gr off : Nat} {s : ByteArray} {st : RSt} (hO : OwnIv w base v l) (hg : w.grownBy w' v.ownBlock) (h : RdT w gr s off st) : RdT w' gr s off st := by
  rcases hO.blk with e | ⟨g, C, e, _, hB⟩
  · rw [e] at hg
    exact h.below ⟨hg.os, hg.tape, hg.output, hg.size, fun k hk => hg.block k hk (by simp)⟩
  · rw [e] at hg
    exact h.other hB (by decide) (by decide) hg

theorem blk_iv {w w' : World} {v : Value} {l : List Int} {base B : Nat} {T : TypeId} {C : Array Value} (hO : OwnIv w base v l) (hg : w.grownBy w' v.ownBlock) (h : Blk w B T C) (hT : T ≠ 3) : Blk w' B T C := by
  rcases hO.blk with e | ⟨g, C2, e, _, hB⟩
  · rw [e] at hg
    exact h.grown hg (by simp)
  · rw [e] at hg
    refine h.grown hg ?_
    intro e2
    obtain rfl : B = g := by simpa using e2
    have h1 : w.heap[B]? = some (.cells C T (0, 0)) := h
    have h2 : w.heap[B]? = some (.cells C2 3 (0, 0)) := hB
    rw [h1] at h2
    injection h2 with h2
    injection h2 with _ h2
    exact hT h2

theorem grown_iv {w0 w w' : World} {v : Value} {l : List Int} {base g : Nat} (hO : OwnIv w base v l) (hb : w0.heap.size = base) (h : w0.grownBy w (some g)) (hg : w.grownBy w' v.ownBlock) : w0.grownBy w' (some g) := by
  rcases hO.blk with e | ⟨q, C2, e, hq, hB⟩
  · rw [e] at hg
    exact grown_then h hg (fun _ _ _ => by simp)
  · rw [e] at hg
    exact grown_own h hg (by omega)

set_option maxHeartbeats 12800000 in
theorem readEvents_t {g : Nat} {S : ByteArray} (n : Nat) (hn : n ≤ 400) (R : EvR) (st0 : RSt) (hI0 : EvI S.data.toList n R st0 []) (w : World) (h : RdT w g S 0 st0) (hb : S.size ≤ 281474976710656) :
    Calls Tryd.prog 107 #[.pointer (some ⟨g, 0, none⟩), .int .i64 (n : Nat)] w fun e w' => ∃ v l st, e = .returned v ∧ OwnIv w' w.heap.size v l ∧ l.length = n ∧ EvEnd S.data.toList R st l ∧ RdT w' g S 0 st ∧ w.grownBy w' (some g) := by
  have hls : S.data.toList.length = S.size := by simp
  have hgl := h.lt
  obtain ⟨base, hbase⟩ : ∃ base, w.heap.size = base := ⟨_, rfl⟩
  have G0 : w.grownBy w (some g) := ⟨rfl, rfl, rfl, Nat.le_refl _, fun _ _ _ => rfl⟩
  have hO0 := OwnIv.nil w base
  rw [hbase] at hgl
  go_enter Tryd.func107, Tryd.ntmps107
  go_wp2_with fail
  go_loopw [5] (fun v wr => ∃ st l, EvI S.data.toList n R st l ∧ RdT wr g S 0 st ∧ OwnIv wr base v l ∧ w.grownBy wr (some g)) (fun v _ => n - lenV v)
  case atStart => exact ⟨st0, [], hI0, h, hO0, G0⟩
  case round =>
    obtain ⟨st, l, hI, HR, HO, GW⟩ := hrel
    obtain ⟨a, c, rfl, hin⟩ := HO.inL
    have hbw : base ≤ wr.heap.size := by rw [← hbase]; exact GW.size
    by_cases hlt : l.length < n
    · have hnext := ev_round _ _ _ _ _ hI hlt
      have hp : st.1 ≤ S.size := by rw [← hls]; exact hI.1
      have q1 : (l.length : Int) < (n : Int) := by omega
      have q2 : decide ((l.length : Int) < (n : Int)) = true := decide_eq_true q1
      have e0 : ((0 : Nat) : Int) + (st.1 : Int) = ((st.1 : Nat) : Int) := by omega
      have HA := Lib.hid (atT st wr HR)
      rw [e0] at HA
      have HG : Hid (∀ W, RdT W g S 0 st → Calls Tryd.prog 122 #[.pointer (some ⟨g, 0, none⟩)] W fun e w' => e = .returned (.agg (a3 (gpL S.data.toList st))) ∧ RdT w' g S 0 (gpS S.data.toList st) ∧ W.grownBy w' (some g)) := fun W h => readGroup_t st W h hp hb
      obtain ⟨x0, x1, x2, hx⟩ := three_of (gpL_len S.data.toList st)
      have HF : Hid (∀ (W : World) (s1 : RSt), RdT W g S 0 s1 → Calls Tryd.prog 61 #[.pointer (some ⟨g, 0, none⟩), .int .i64 15, .int .i64 (st.1 : Nat)] W fun e w' => e = .returned (.tuple #[]) ∧ RdT w' g S 0 (flR s1 15 st.1) ∧ W.grownBy w' (some g)) := fun W s1 h => fail_t s1 15 st.1 (by decide) W h
      rw [hx] at hnext HG
      have HNX := Lib.hid hnext
      replace HG : Hid (∀ W, RdT W g S 0 st → Calls Tryd.prog 122 #[.pointer (some ⟨g, 0, none⟩)] W fun e w' => e = .returned (.agg #[.int .i64 x0, .int .i64 x1, .int .i64 x2]) ∧ RdT w' g S 0 (gpS S.data.toList st) ∧ W.grownBy w' (some g)) := HG
      have hO := Lib.hid HO
      clear hnext hx hI e0 hin hI0 h hO0 G0 HO
      generalize gpS S.data.toList st = st1 at *
      generalize hpp : st.1 = p at *
      clear hpp
      have hD : ((n : Int) - (l.length : Int)) = ((n - l.length : Nat) : Int) := by omega
      have hmx : n - l.length = 1 ∨ n - l.length = 2 ∨ 3 ≤ n - l.length := by omega
      obtain ⟨D, hDD⟩ : ∃ D, n - l.length = D := ⟨_, rfl⟩
      have hD1 := Lib.hid hDD
      have q3 : IntKind.i64.wrap ((n : Int) - (l.length : Int)) = ((D : Nat) : Int) := by rw [IntKind.wrap_i64] <;> omega
      have hll : l.length + 3 ≤ 100000 := by omega
      rw [hDD] at HNX hmx hD
      clear hDD
      go_wp2_with fail
      refine HA.out.mono ?_
      rintro e w2 ⟨rfl, rfl⟩
      go_wp2_with fail
      refine (HG.out _ HR).mono ?_
      rintro e w3 ⟨rfl, HR3, g3'⟩
      have HO3 := hO.out.grown g3' (fun q hq => by cases hq; omega)
      have GW3 := grownBy_trans GW g3'
      have hb3 : base ≤ w3.heap.size := Nat.le_trans hbw g3'.size
      have HZ4 := Blk.new w3 217 #[.int .i64 0, .int .i64 0, .int .i64 0]
      have b4 : Below w3.heap.size w3 (w3.alloc (.cells #[.int .i64 0, .int .i64 0, .int .i64 0] 217)) := (Below.refl _ _).alloc (Nat.le_refl _) _
      go_upto_region 5 with (refine store_blk (k := 0) 217 (.agg #[.int .i64 x0, .int .i64 x1, .int .i64 x2]) #[.int .i64 x0, .int .i64 x1, .int .i64 x2] (by rfl) rfl rfl rfl HZ4 (by kernel_rfl) (by exact Nat.le_refl 3) rfl rfl ?_; intro w5 HG5 b5 g5')
      have b35 := b4.trans b5
      have HR5 := HR3.below b35
      have HO5 := HO3.kept b35
      have GW5 := grown_belowT GW3 b35
      have hb5 : base ≤ w5.heap.size := Nat.le_trans hb3 b35.size
      obtain ⟨G, hG⟩ : ∃ G, w3.heap.size = G := ⟨_, rfl⟩
      rw [hG] at HG5
      have hbG : base ≤ G := by rw [← hG]; exact hb3
      have hgG : g < G := by omega
      clear HA HG HZ4 b4 b5 b35 g5' HR3 HO3 GW3 hb3 hO HR GW g3'
      have c0 := HG5.cv 0 (.int .i64 x0) rfl
      have c1 := HG5.cv 1 (.int .i64 x1) rfl
      have c2 := HG5.cv 2 (.int .i64 x2) rfl
      rcases hmx with rfl | rfl | hge
      · have HN2 : Hid (EvI S.data.toList n R (spS st1 p [x1, x2]) (l ++ [x0])) := HNX.out
        have hmn : min (1 : Int) 3 = 1 := by omega
        clear HNX
        go_wp2_with (refine appendNL_iv [x0] rfl rfl rfl rfl HO5 (ivAt_1 HG5) (Nat.succ_pos _) (by show l.length + 1 ≤ 100000; omega) hb5 ?_; intro v6 w6 HO6 b6 g6; have HR6 := rdT_iv HO5 g6 HR5; have HG6 := blk_iv HO5 g6 HG5 (by decide); have GW6 := grown_iv HO5 hbase GW5 g6)
        obtain ⟨a6, cp6, rfl, hn6⟩ := HO6.inL
        clear hn6
        have hlen6 : Hid ((l ++ [x0]).length = l.length + 1) := List.length_append
        generalize l ++ [x0] = l6 at *
        clear HR5 HO5 GW5 HG5 c0 c1 c2 b6 g6
        go_loopw [31] (fun i wr => ∃ k : Nat, k ≤ 2 ∧ i = .int .i64 k ∧ RdT wr g S 0 (spS st1 p (([x1, x2] : List Int).take k)) ∧ OwnIv wr base (.slice a6 l6.length cp6) l6 ∧ Blk wr G 217 #[.int .i64 x0, .int .i64 x1, .int .i64 x2] ∧ w.grownBy wr (some g)) (fun i _ => 2 - (intOf i).toNat)
        case atStart => exact ⟨0, by omega, rfl, HR6, HO6, HG6, GW6⟩
        case round =>
          obtain ⟨k, hk, rfl, HRi, HOi, HGi, GWi⟩ := hrel
          by_cases hk0 : k = 0
          · subst hk0
            have cx := HGi.cv 1 (.int .i64 x1) rfl
            have hgn : some G ≠ some g := by simp; omega
            by_cases hz : x1 = 0
            · have hnx : Hid (spS st1 p (([x1, x2] : List Int).take 1) = spS st1 p (([x1, x2] : List Int).take 0)) := by
                have q := spS_snoc0 st1 p (([x1, x2] : List Int).take 0)
                rw [← hz] at q
                exact q
              have dz : (x1 != 0) = false := by simp [hz]
              clear hz
              go_wp2
              go_roundw
              case rel => exact ⟨1, by omega, by go_num, by rw [hnx.out]; exact HRi, HOi, HGi, GWi⟩
              case measure => simp [intOf]
            · have hnx : Hid (spS st1 p (([x1, x2] : List Int).take 1) = flR (spS st1 p (([x1, x2] : List Int).take 0)) 15 p) := spS_snoc st1 p (([x1, x2] : List Int).take 0) x1 hz
              have dz : (x1 != 0) = true := by simp [hz]
              clear hz
              have HF2 := Lib.hid (HF.out _ _ HRi)
              rw [← hnx.out] at HF2
              go_wp2_with fail
              refine HF2.out.mono ?_
              rintro e wj ⟨rfl, HRj, gj⟩
              have HOj := HOi.grown gj (fun q hq => by cases hq; omega)
              have HGj := HGi.grown gj hgn
              have GWj := grownBy_trans GWi gj
              go_wp2
              go_roundw
              case rel => exact ⟨1, by omega, by go_num, HRj, HOj, HGj, GWj⟩
              case measure => simp [intOf]
          by_cases hk1 : k = 1
          · subst hk1
            have cx := HGi.cv 2 (.int .i64 x2) rfl
            have hgn : some G ≠ some g := by simp; omega
            by_cases hz : x2 = 0
            · have hnx : Hid (spS st1 p (([x1, x2] : List Int).take 2) = spS st1 p (([x1, x2] : List Int).take 1)) := by
                have q := spS_snoc0 st1 p (([x1, x2] : List Int).take 1)
                rw [← hz] at q
                exact q
              have dz : (x2 != 0) = false := by simp [hz]
              clear hz
              go_wp2
              go_roundw
              case rel => exact ⟨2, by omega, by go_num, by rw [hnx.out]; exact HRi, HOi, HGi, GWi⟩
              case measure => simp [intOf]
            · have hnx : Hid (spS st1 p (([x1, x2] : List Int).take 2) = flR (spS st1 p (([x1, x2] : List Int).take 1)) 15 p) := spS_snoc st1 p (([x1, x2] : List Int).take 1) x2 hz
              have dz : (x2 != 0) = true := by simp [hz]
              clear hz
              have HF2 := Lib.hid (HF.out _ _ HRi)
              rw [← hnx.out] at HF2
              go_wp2_with fail
              refine HF2.out.mono ?_
              rintro e wj ⟨rfl, HRj, gj⟩
              have HOj := HOi.grown gj (fun q hq => by cases hq; omega)
              have HGj := HGi.grown gj hgn
              have GWj := grownBy_trans GWi gj
              go_wp2
              go_roundw
              case rel => exact ⟨2, by omega, by go_num, HRj, HOj, HGj, GWj⟩
              case measure => simp [intOf]
          obtain rfl : k = 2 := by omega
          have hmes : n - l6.length < n - l.length := by rw [hlen6.out]; omega
          go_wp2
          go_roundw
          case rel => exact ⟨_, _, HN2.out, HRi, HOi, GWi⟩
          case measure => exact hmes
      · have HN2 : Hid (EvI S.data.toList n R (spS st1 p [x2]) (l ++ [x0, x1])) := HNX.out
        have hmn : min (2 : Int) 3 = 2 := by omega
        clear HNX
        go_wp2_with (refine appendNL_iv [x0, x1] rfl rfl rfl rfl HO5 (ivAt_2 HG5) (Nat.succ_pos _) (by show l.length + 2 ≤ 100000; omega) hb5 ?_; intro v6 w6 HO6 b6 g6; have HR6 := rdT_iv HO5 g6 HR5; have HG6 := blk_iv HO5 g6 HG5 (by decide); have GW6 := grown_iv HO5 hbase GW5 g6)
        obtain ⟨a6, cp6, rfl, hn6⟩ := HO6.inL
        clear hn6
        have hlen6 : Hid ((l ++ [x0, x1]).length = l.length + 2) := List.length_append
        generalize l ++ [x0, x1] = l6 at *
        clear HR5 HO5 GW5 HG5 c0 c1 c2 b6 g6
        go_loopw [31] (fun i wr => ∃ k : Nat, k ≤ 1 ∧ i = .int .i64 k ∧ RdT wr g S 0 (spS st1 p (([x2] : List Int).take k)) ∧ OwnIv wr base (.slice a6 l6.length cp6) l6 ∧ Blk wr G 217 #[.int .i64 x0, .int .i64 x1, .int .i64 x2] ∧ w.grownBy wr (some g)) (fun i _ => 1 - (intOf i).toNat)
        case atStart => exact ⟨0, by omega, rfl, HR6, HO6, HG6, GW6⟩
        case round =>
          obtain ⟨k, hk, rfl, HRi, HOi, HGi, GWi⟩ := hrel
          by_cases hk0 : k = 0
          · subst hk0
            have cx := HGi.cv 2 (.int .i64 x2) rfl
            have hgn : some G ≠ some g := by simp; omega
            by_cases hz : x2 = 0
            · have hnx : Hid (spS st1 p (([x2] : List Int).take 1) = spS st1 p (([x2] : List Int).take 0)) := by
                have q := spS_snoc0 st1 p (([x2] : List Int).take 0)
                rw [← hz] at q
                exact q
              have dz : (x2 != 0) = false := by simp [hz]
              clear hz
              go_wp2
              go_roundw
              case rel => exact ⟨1, by omega, by go_num, by rw [hnx.out]; exact HRi, HOi, HGi, GWi⟩
              case measure => simp [intOf]
            · have hnx : Hid (spS st1 p (([x2] : List Int).take 1) = flR (spS st1 p (([x2] : List Int).take 0)) 15 p) := spS_snoc st1 p (([x2] : List Int).take 0) x2 hz
              have dz : (x2 != 0) = true := by simp [hz]
              clear hz
              have HF2 := Lib.hid (HF.out _ _ HRi)
              rw [← hnx.out] at HF2
              go_wp2_with fail
              refine HF2.out.mono ?_
              rintro e wj ⟨rfl, HRj, gj⟩
              have HOj := HOi.grown gj (fun q hq => by cases hq; omega)
              have HGj := HGi.grown gj hgn
              have GWj := grownBy_trans GWi gj
              go_wp2
              go_roundw
              case rel => exact ⟨1, by omega, by go_num, HRj, HOj, HGj, GWj⟩
              case measure => simp [intOf]
          obtain rfl : k = 1 := by omega
          have hmes : n - l6.length < n - l.length := by rw [hlen6.out]; omega
          go_wp2
          go_roundw
          case rel => exact ⟨_, _, HN2.out, HRi, HOi, GWi⟩
          case measure => exact hmes
      · have hlt3 : ¬ ((D : Nat) : Int) < 3 := by omega
        have HN2 : Hid (EvI S.data.toList n R (spS st1 p []) (l ++ [x0, x1, x2])) := by
          have q := HNX.out
          rw [List.drop_eq_nil_of_le (by show 3 ≤ D; omega), List.take_of_length_le (by show 3 ≤ D; omega)] at q
          exact q
        have hmn : min ((D : Nat) : Int) 3 = 3 := by omega
        clear HNX
        go_wp2_with (refine appendNL_iv [x0, x1, x2] rfl rfl rfl rfl HO5 (ivAt_3 HG5) (Nat.succ_pos _) (by show l.length + 3 ≤ 100000; omega) hb5 ?_; intro v6 w6 HO6 b6 g6; have HR6 := rdT_iv HO5 g6 HR5; have HG6 := blk_iv HO5 g6 HG5 (by decide); have GW6 := grown_iv HO5 hbase GW5 g6)
        obtain ⟨a6, cp6, rfl, hn6⟩ := HO6.inL
        clear hn6
        have hlen6 : Hid ((l ++ [x0, x1, x2]).length = l.length + 3) := List.length_append
        generalize l ++ [x0, x1, x2] = l6 at *
        clear HR5 HO5 GW5 HG5 c0 c1 c2 b6 g6
        go_loopw [31] (fun i wr => ∃ k : Nat, k ≤ 0 ∧ i = .int .i64 k ∧ RdT wr g S 0 (spS st1 p (([] : List Int).take k)) ∧ OwnIv wr base (.slice a6 l6.length cp6) l6 ∧ Blk wr G 217 #[.int .i64 x0, .int .i64 x1, .int .i64 x2] ∧ w.grownBy wr (some g)) (fun i _ => 0 - (intOf i).toNat)
        case atStart => exact ⟨0, by omega, rfl, HR6, HO6, HG6, GW6⟩
        case round =>
          obtain ⟨k, hk, rfl, HRi, HOi, HGi, GWi⟩ := hrel
          obtain rfl : k = 0 := by omega
          have hmes : n - l6.length < n - l.length := by rw [hlen6.out]; omega
          go_wp2
          go_roundw
          case rel => exact ⟨_, _, HN2.out, HRi, HOi, GWi⟩
          case measure => exact hmes
    · obtain ⟨hl2, hend⟩ := ev_final _ _ _ _ _ hI hlt
      have q2 : decide ((l.length : Int) < (n : Int)) = false := decide_eq_false (by omega)
      have HE := Lib.hid hend
      have HL := Lib.hid hl2
      clear hl2 hend hI hI0 hO0
      go_wp2
      go_ret
      exact ⟨_, l, st, rfl, by rw [hbase]; exact HO, HL.out, HE.out, HR, GW⟩

end Go.Proofs.YtdjljnpbnhampaaDoor

namespace Go.Proofs.YtdjljnpbnhampaaDoor
set_option linter.unusedVariables false

/-- What holds ahead of an attribute. -/
def AtI (S : List UInt8) (R : AtR) (st : RSt) : Prop := st.1 ≤ S.length ∧ ((st.2 = (0, -1) ∧ rdAt S st.1 = R) ∨ (∃ x : Nat, st.2.1 ≠ 0 ∧ st.2.2 = (x : Int) ∧ R = .bad st.2.1 x))

/-- No attribute: the end, or an error. -/
def AtEnd (S : List UInt8) (R : AtR) (st : RSt) : Prop := st.1 ≤ S.length ∧ ((∃ q, R = .fin q ∧ st = (q, 0, -1)) ∨ (∃ x : Nat, st.2.1 ≠ 0 ∧ st.2.2 = (x : Int) ∧ R = .bad st.2.1 x))

/-- An attribute, or an error. -/
def AtOut (S : List UInt8) (R : AtR) (x : Mv) (st : RSt) : Prop := st.1 ≤ S.length ∧ ((∃ q, R = .got x q ∧ st = (q, 0, -1)) ∨ (∃ x : Nat, st.2.1 ≠ 0 ∧ st.2.2 = (x : Int) ∧ R = .bad st.2.1 x))

theorem nm2_go (S : List UInt8) (p : Nat) (x : Int) (h : p + 2 ≤ S.length) : nmS S 0 (p, 0, x) 2 = (p + 2, 0, x) ∧ nmV S 0 (p, 0, x) 2 = hdN S p := nm_go S (p, 0, x) 2 (by decide) (by decide) rfl h

theorem rdAt_go {S : List UInt8} {p : Nat} (h0 : ¬ S.length < p + 2) (h1 : ¬ hdN S p = 0) (h2 : ¬ (16384 ≤ hdN S p ∨ 400 < hdN S p % 8192)) (h3 : ¬ S.length < p + 4) : rdAt S p = match rdEv S (hdN S p % 8192) (hdN S p % 8192) (p + 4) [] with
    | .bad e q => .bad e q
    | .ok l q => if okMv ⟨decide (8192 ≤ hdN S p), (hdN S (p + 2) : Nat), l⟩ = true then .got ⟨decide (8192 ≤ hdN S p), (hdN S (p + 2) : Nat), l⟩ q else .bad 2 p := by
  unfold rdAt
  rw [if_neg h0, if_neg h1, if_neg h2, if_neg h3]
  cases rdEv S (hdN S p % 8192) (hdN S p % 8192) (p + 4) [] <;> rfl

theorem at_round (S : List UInt8) (R : AtR) (st : RSt) (h : AtI S R st) :
    (nmV S 0 st 2 = 0 ∧ AtEnd S R (nmS S 0 st 2)) ∨
    (nmV S 0 st 2 ≠ 0 ∧ (16384 ≤ nmV S 0 st 2 ∨ 400 < nmV S 0 st 2 % 8192) ∧ AtEnd S R (flR (nmS S 0 st 2) 2 st.1)) ∨
    (nmV S 0 st 2 ≠ 0 ∧ nmV S 0 st 2 < 16384 ∧ nmV S 0 st 2 % 8192 ≤ 400 ∧ (nmS S 0 st 2).1 ≤ S.length ∧ ∃ R', EvI S (nmV S 0 st 2 % 8192) R' (nmS S 0 (nmS S 0 st 2) 2) [] ∧
      ∀ l st3, EvEnd S R' st3 l → (okMv ⟨decide (8192 ≤ nmV S 0 st 2), (nmV S 0 (nmS S 0 st 2) 2 : Nat), l⟩ = true → AtOut S R ⟨decide (8192 ≤ nmV S 0 st 2), (nmV S 0 (nmS S 0 st 2) 2 : Nat), l⟩ st3) ∧
        (okMv ⟨decide (8192 ≤ nmV S 0 st 2), (nmV S 0 (nmS S 0 st 2) 2 : Nat), l⟩ = false → AtEnd S R (flR st3 2 st.1) ∧ (flR st3 2 st.1).2.1 ≠ 0)) := by
  obtain ⟨p, e, x⟩ := st
  obtain ⟨hp, h⟩ := h
  have hp : p ≤ S.length := hp
  rcases h with ⟨hst, hR⟩ | ⟨x', he, hx, hR⟩
  · simp only [Prod.mk.injEq] at hst
    obtain ⟨rfl, rfl⟩ := hst
    have hR : rdAt S p = R := hR
    by_cases h0 : S.length < p + 2
    · left
      have e1 : nmS S 0 (p, 0, -1) 2 = (p, 7, (p : Int)) := nm_miss S (p, 0, -1) 2 (by decide) (by decide) rfl (by show ¬ p + 2 ≤ S.length; omega) hp
      have e2 : nmV S 0 (p, 0, -1) 2 = 0 := nmV_miss S p (-1) 2 (by decide) (by decide) (by omega) hp
      have e3 : rdAt S p = .bad 7 p := by unfold rdAt; rw [if_pos h0]
      rw [e1, e2]
      exact ⟨rfl, hp, Or.inr ⟨p, (by decide : (7 : Int) ≠ 0), rfl, by rw [← hR, e3]⟩⟩
    · obtain ⟨e1, e2⟩ := nm2_go S p (-1) (by omega)
      rw [e1, e2]
      by_cases h1 : hdN S p = 0
      · left
        have e3 : rdAt S p = .fin (p + 2) := by unfold rdAt; rw [if_neg h0, if_pos h1]
        exact ⟨h1, by show p + 2 ≤ S.length; omega, Or.inl ⟨p + 2, by rw [← hR, e3], rfl⟩⟩
      · by_cases h2 : 16384 ≤ hdN S p ∨ 400 < hdN S p % 8192
        · right; left
          have e3 : rdAt S p = .bad 2 p := by unfold rdAt; rw [if_neg h0, if_neg h1, if_pos h2]
          have e4 : flR (p + 2, 0, -1) 2 (p : Int) = (p + 2, 2, (p : Int)) := flR_ok
          refine ⟨h1, h2, ?_⟩
          show AtEnd S R (flR (p + 2, 0, -1) 2 (p : Int))
          rw [e4]
          exact ⟨by show p + 2 ≤ S.length; omega, Or.inr ⟨p, (by decide : (2 : Int) ≠ 0), rfl, by rw [← hR, e3]⟩⟩
        · right; right
          refine ⟨h1, by omega, by omega, by show p + 2 ≤ S.length; omega, ?_⟩
          by_cases h3 : S.length < p + 4
          · have e5 : nmS S 0 (p + 2, 0, -1) 2 = (p + 2, 7, ((p + 2 : Nat) : Int)) := nm_miss S (p + 2, 0, -1) 2 (by decide) (by decide) rfl (by show ¬ p + 2 + 2 ≤ S.length; omega) (by show p + 2 ≤ S.length; omega)
            have e3 : rdAt S p = .bad 7 (p + 2) := by unfold rdAt; rw [if_neg h0, if_neg h1, if_neg h2, if_pos h3]
            rw [e5]
            refine ⟨.bad 7 (p + 2), ⟨by show p + 2 ≤ S.length; omega, Nat.zero_le _, Or.inr ⟨p + 2, (by decide : (7 : Int) ≠ 0), rfl, rfl⟩⟩, fun l st3 hE => ?_⟩
            obtain ⟨q1, q2⟩ := hE
            rcases q2 with ⟨_, q2⟩ | ⟨y, q3, q4, q5⟩
            · cases q2
            · have hRb : R = .bad st3.2.1 y := by
                rw [← hR, e3]
                injection q5 with q6 q7
                rw [q6, q7]
              refine ⟨fun _ => ⟨q1, Or.inr ⟨y, q3, q4, hRb⟩⟩, fun _ => ?_⟩
              rw [flR_bad st3 _ _ q3]
              exact ⟨⟨q1, Or.inr ⟨y, q3, q4, hRb⟩⟩, q3⟩
          · obtain ⟨e5, e6⟩ := nm2_go S (p + 2) (-1) (by omega)
            rw [e5, e6]
            have e3 := rdAt_go h0 h1 h2 h3
            refine ⟨rdEv S (hdN S p % 8192) (hdN S p % 8192) (p + 4) [], ⟨by show p + 2 + 2 ≤ S.length; omega, Nat.zero_le _, Or.inl ⟨rfl, hdN S p % 8192, rfl, by simp⟩⟩, fun l st3 hE => ?_⟩
            obtain ⟨q1, q2⟩ := hE
            obtain ⟨p3, e3', x3⟩ := st3
            rcases q2 with ⟨q2, q3⟩ | ⟨y, q3, q4, q5⟩
            · simp only [Prod.mk.injEq] at q2
              obtain ⟨rfl, rfl⟩ := q2
              rw [q3] at e3
              simp only at e3
              refine ⟨fun hk => ?_, fun hk => ?_⟩
              · rw [if_pos hk] at e3
                exact ⟨q1, Or.inl ⟨p3, by rw [← hR, e3], rfl⟩⟩
              · rw [if_neg (by rw [hk]; decide)] at e3
                have e4 : flR (p3, 0, -1) 2 (p : Int) = (p3, 2, (p : Int)) := flR_ok
                show AtEnd S R (flR (p3, 0, -1) 2 (p : Int)) ∧ (flR (p3, 0, -1) 2 (p : Int)).2.1 ≠ 0
                rw [e4]
                exact ⟨⟨q1, Or.inr ⟨p, (by decide : (2 : Int) ≠ 0), rfl, by rw [← hR, e3]⟩⟩, (by decide : (2 : Int) ≠ 0)⟩
            · rw [q5] at e3
              simp only at e3
              have hRb : R = .bad e3' y := by rw [← hR, e3]
              refine ⟨fun _ => ⟨q1, Or.inr ⟨y, q3, q4, hRb⟩⟩, fun _ => ?_⟩
              rw [flR_bad (p3, e3', x3) _ _ q3]
              exact ⟨⟨q1, Or.inr ⟨y, q3, q4, hRb⟩⟩, q3⟩
  · left
    have he : e ≠ 0 := he
    have e1 : nmS S 0 (p, e, x) 2 = (p, e, x) := nm_bad S (p, e, x) 2 he
    have e2 : nmV S 0 (p, e, x) 2 = 0 := nmV_bad S (p, e, x) 2 he
    rw [e1, e2]
    exact ⟨rfl, hp, Or.inr ⟨x', he, hx, hR⟩⟩

end Go.Proofs.YtdjljnpbnhampaaDoor

namespace Go.Proofs.YtdjljnpbnhampaaDoor
set_option linter.unusedVariables false

/-- What holds ahead of a message (none), or within the one that begins at m. -/
def MvI (S : List UInt8) (R : MvR) (mo : Option Nat) (st : RSt) (l : List Mv) : Prop :=
  st.1 ≤ S.length ∧ ((st.2 = (0, -1) ∧ l.length ≤ 40 ∧ ∃ f, rdMv S f mo st.1 l = R ∧ S.length + 1 ≤ st.1 + f) ∨ (l.length ≤ 41 ∧ ∃ x : Nat, st.2.1 ≠ 0 ∧ st.2.2 = (x : Int) ∧ R = .bad st.2.1 x))

theorem mvI_len {S : List UInt8} {R : MvR} {mo : Option Nat} {st : RSt} {l : List Mv} (h : MvI S R mo st l) : l.length ≤ 41 := by
  rcases h.2 with ⟨_, h, _⟩ | ⟨h, _⟩ <;> omega

theorem take1 {S : List UInt8} {p : Nat} (h : p + 1 ≤ S.length) : ∃ b, (S.drop p).take 1 = [b] ∧ by1 S p = b.toNat := by
  have hl : ((S.drop p).take 1).length = 1 := by rw [List.length_take, List.length_drop]; omega
  obtain ⟨b, hb⟩ := List.length_eq_one_iff.1 hl
  refine ⟨b, hb, ?_⟩
  unfold by1
  rw [hb]
  simp [beN]

theorem h1_go {S : List UInt8} {p : Nat} {x : Int} (h : p + 1 ≤ S.length) : h1T S (p, 0, x) = (S.drop p).take 1 ∧ h1S S (p, 0, x) = (p + 1, 0, x) := by
  have e := tkN_go S 0 (p, 0, x) 1 false rfl h (fun q => by cases q)
  unfold h1T h1S
  rw [show (1 : Int) = ((1 : Nat) : Int) from rfl, e]
  exact ⟨rfl, rfl⟩

theorem h1_miss {S : List UInt8} {p : Nat} {x : Int} (h : ¬ p + 1 ≤ S.length) (hp : p ≤ S.length) : h1T S (p, 0, x) = [] ∧ h1S S (p, 0, x) = (p, 7, (p : Int)) := by
  have e := tkN_miss S 0 (p, 0, x) 1 false rfl h hp (fun q => by cases q)
  unfold h1T h1S
  rw [show (1 : Int) = ((1 : Nat) : Int) from rfl, e]
  exact ⟨rfl, by simp⟩

theorem h1_bad {S : List UInt8} {st : RSt} (h : st.2.1 ≠ 0) : h1T S st = [] ∧ h1S S st = st := by
  unfold h1T h1S
  rw [tkN_bad S 0 st 1 false h]
  exact ⟨rfl, rfl⟩

theorem h2_is (S : List UInt8) (st : RSt) : h2T S st = h1T S (h1S S st) ∧ h2S S st = h1S S (h1S S st) := ⟨rfl, rfl⟩

theorem toNat_eq {b : UInt8} {n : Nat} (hn : n < 256) : b.toNat = n ↔ b = UInt8.ofNat n := by
  constructor
  · intro h
    rw [← h]
    simp
  · intro h
    rw [h, UInt8.toNat_ofNat']
    omega

theorem mhS_stuck {S : List UInt8} {st : RSt} (h : (h2S S st).2.1 ≠ 0) (hn : (h1T S st ++ h2T S st).length ≤ 1) : mhV S st = false ∧ mhS S st = h2S S st := by
  have n12 : ¬ h1T S st ++ h2T S st = [1, 2] := fun e => by rw [e] at hn; simp at hn
  have n00 : ¬ h1T S st ++ h2T S st = [0, 0] := fun e => by rw [e] at hn; simp at hn
  refine ⟨decide_eq_false n12, ?_⟩
  unfold mhS
  rw [if_neg n12, if_neg n00]
  split
  · exact flR_bad _ _ _ h
  · exact flR_bad _ _ _ h

/-- What reading ends in, behind the noughts. -/
def MvEnd (R : MvR) (z : Bool × RSt) (l : List Mv) : Prop := (z.1 = true ∧ R = .ok l) ∨ (z.1 = false ∧ z.2.2.1 ≠ 0 ∧ ∃ x : Nat, z.2.2.2 = (x : Int) ∧ R = .bad z.2.2.1 x)

theorem head_round (S : List UInt8) (R : MvR) (st : RSt) (l : List Mv) (h : MvI S R none st l) :
    (mhV S st = true → MvI S R (some st.1) (mhS S st) l ∧ st.2.1 = 0 ∧ st.1 < (mhS S st).1) ∧ (mhV S st = false → MvEnd R (zrR S 0 (mhS S st)) l) := by
  obtain ⟨p, e, x⟩ := st
  obtain ⟨hp, h⟩ := h
  have hp : p ≤ S.length := hp
  rcases h with ⟨hst, hl, f, hR, hf⟩ | ⟨hl, x', he, hx, hR⟩
  · simp only [Prod.mk.injEq] at hst
    obtain ⟨rfl, rfl⟩ := hst
    have hR : rdMv S f none p l = R := hR
    have hf : S.length + 1 ≤ p + f := hf
    obtain ⟨f, rfl⟩ : ∃ f', f = f' + 1 := ⟨f - 1, by omega⟩
    by_cases h0 : S.length < p + 1
    · obtain ⟨a1, a2⟩ := h1_miss (x := -1) (show ¬ p + 1 ≤ S.length by omega) hp
      obtain ⟨b1, b2⟩ := h1_bad (S := S) (st := (p, 7, (p : Int))) (show (7 : Int) ≠ 0 by decide)
      obtain ⟨c1, c2⟩ := h2_is S (p, 0, -1)
      rw [a2, b1] at c1
      rw [a2, b2] at c2
      obtain ⟨m1, m2⟩ := mhS_stuck (S := S) (st := (p, 0, -1)) (by rw [c2]; show (7 : Int) ≠ 0; decide) (by rw [a1, c1]; simp)
      rw [mv_miss h0] at hR
      refine ⟨fun q => (by rw [m1] at q; cases q), fun _ => ?_⟩
      rw [m2, c2, zrR_bad S 0 (p, 7, (p : Int)) (show (7 : Int) ≠ 0 by decide)]
      exact Or.inr ⟨rfl, (by decide : (7 : Int) ≠ 0), p, rfl, hR.symm⟩
    · obtain ⟨a1, a2⟩ := h1_go (x := -1) (show p + 1 ≤ S.length by omega)
      obtain ⟨b, hb, hbn⟩ := take1 (show p + 1 ≤ S.length by omega)
      rw [hb] at a1
      by_cases h1 : S.length < p + 2
      · obtain ⟨b1, b2⟩ := h1_miss (x := -1) (show ¬ p + 1 + 1 ≤ S.length by omega) (show p + 1 ≤ S.length by omega)
        obtain ⟨c1, c2⟩ := h2_is S (p, 0, -1)
        rw [a2, b1] at c1
        rw [a2, b2] at c2
        obtain ⟨m1, m2⟩ := mhS_stuck (S := S) (st := (p, 0, -1)) (by rw [c2]; show (7 : Int) ≠ 0; decide) (by rw [a1, c1]; simp)
        rw [mv_miss2 h0 h1] at hR
        refine ⟨fun q => (by rw [m1] at q; cases q), fun _ => ?_⟩
        rw [m2, c2, zrR_bad S 0 (p + 1, 7, ((p + 1 : Nat) : Int)) (show (7 : Int) ≠ 0 by decide)]
        exact Or.inr ⟨rfl, (by decide : (7 : Int) ≠ 0), p + 1, rfl, hR.symm⟩
      · obtain ⟨b1, b2⟩ := h1_go (x := -1) (show p + 1 + 1 ≤ S.length by omega)
        obtain ⟨c, hc, hcn⟩ := take1 (show p + 1 + 1 ≤ S.length by omega)
        rw [hc] at b1
        obtain ⟨c1, c2⟩ := h2_is S (p, 0, -1)
        rw [a2, b1] at c1
        rw [a2, b2] at c2
        have c2 : h2S S (p, 0, -1) = (p + 2, 0, -1) := c2
        have hT : h1T S (p, 0, -1) ++ h2T S (p, 0, -1) = [b, c] := by rw [a1, c1]; rfl
        by_cases q12 : b = 1 ∧ c = 2
        · obtain ⟨rfl, rfl⟩ := q12
          have m1 : mhV S (p, 0, -1) = true := by unfold mhV; rw [hT]; rfl
          have m2 : mhS S (p, 0, -1) = (p + 2, 0, -1) := by unfold mhS; rw [hT, if_pos rfl, c2]
          rw [mv_head (by omega) (by rw [hbn]; rfl) (by rw [hcn]; rfl)] at hR
          refine ⟨fun _ => ?_, fun q => (by rw [m1] at q; cases q)⟩
          rw [m2]
          exact ⟨⟨by show p + 2 ≤ S.length; omega, Or.inl ⟨rfl, hl, f, hR, by show S.length + 1 ≤ p + 2 + f; omega⟩⟩, rfl, by show p < p + 2; omega⟩
        · have n12 : ¬ ([b, c] : List UInt8) = [1, 2] := fun q => by
            simp only [List.cons.injEq, and_true] at q
            exact q12 q
          have m1 : mhV S (p, 0, -1) = false := by unfold mhV; rw [hT]; exact decide_eq_false n12
          refine ⟨fun q => (by rw [m1] at q; cases q), fun _ => ?_⟩
          by_cases q00 : b = 0 ∧ c = 0
          · obtain ⟨rfl, rfl⟩ := q00
            have m2 : mhS S (p, 0, -1) = (p + 2, 0, -1) := by unfold mhS; rw [hT, if_neg (by decide), if_pos rfl, c2]
            rw [m2]
            by_cases h3 : p + 2 + lead (S.drop (p + 2)) = S.length
            · rw [mv_end (by omega) (by rw [hbn]; rfl) (by rw [hcn]; rfl) h3] at hR
              have q : zrR S 0 (p + 2, 0, -1) = (true, S.length, (0, -1)) := by
                unfold zrR
                rw [if_neg (show ¬ (0 : Int) ≠ 0 by decide), if_pos h3]
              rw [q]
              exact Or.inl ⟨rfl, hR.symm⟩
            · rw [mv_spoilt (by omega) (by rw [hbn]; rfl) (by rw [hcn]; rfl) h3] at hR
              have q : zrR S 0 (p + 2, 0, -1) = (false, p + 2 + lead (S.drop (p + 2)), 15, ((0 : Nat) : Int) + (p + 2 + lead (S.drop (p + 2)) : Nat)) := by
                unfold zrR
                rw [if_neg (show ¬ (0 : Int) ≠ 0 by decide), if_neg h3]
              rw [q]
              exact Or.inr ⟨rfl, (by decide : (15 : Int) ≠ 0), p + 2 + lead (S.drop (p + 2)), by show ((0 : Nat) : Int) + _ = _; omega, hR.symm⟩
          · have n00 : ¬ ([b, c] : List UInt8) = [0, 0] := fun q => by
              simp only [List.cons.injEq, and_true] at q
              exact q00 q
            have k00 : ¬ (by1 S p = 0 ∧ by1 S (p + 1) = 0) := fun q => by
              rw [hbn, hcn] at q
              exact q00 ⟨(toNat_eq (by decide)).1 q.1, (toNat_eq (by decide)).1 q.2⟩
            by_cases q1 : b = 1
            · subst q1
              have hc2 : by1 S (p + 1) ≠ 2 := fun q => by
                rw [hcn] at q
                exact q12 ⟨rfl, (toNat_eq (by decide)).1 q⟩
              have m2 : mhS S (p, 0, -1) = (p + 2, 3, ((p + 1 : Nat) : Int)) := by
                unfold mhS
                rw [hT, if_neg n12, if_neg n00, a1, if_pos rfl, c2]
                exact flR_ok
              rw [mv_form (by omega) (by rw [hbn]; rfl) hc2] at hR
              rw [m2, zrR_bad S 0 (p + 2, 3, ((p + 1 : Nat) : Int)) (show (3 : Int) ≠ 0 by decide)]
              exact Or.inr ⟨rfl, (by decide : (3 : Int) ≠ 0), p + 1, rfl, hR.symm⟩
            · have hb1 : by1 S p ≠ 1 := fun q => by
                rw [hbn] at q
                exact q1 ((toNat_eq (by decide)).1 q)
              have m2 : mhS S (p, 0, -1) = (p + 2, 5, (p : Int)) := by
                unfold mhS
                rw [hT, if_neg n12, if_neg n00, a1, if_neg (fun q => by simp only [List.cons.injEq, and_true] at q; exact q1 q), c2]
                exact flR_ok
              rw [mv_name (by omega) k00 hb1] at hR
              rw [m2, zrR_bad S 0 (p + 2, 5, (p : Int)) (show (5 : Int) ≠ 0 by decide)]
              exact Or.inr ⟨rfl, (by decide : (5 : Int) ≠ 0), p, rfl, hR.symm⟩
  · have he : e ≠ 0 := he
    obtain ⟨a1, a2⟩ := h1_bad (S := S) (st := (p, e, x)) he
    obtain ⟨c1, c2⟩ := h2_is S (p, e, x)
    rw [a2] at c1 c2
    rw [a1] at c1
    rw [a2] at c2
    obtain ⟨m1, m2⟩ := mhS_stuck (S := S) (st := (p, e, x)) (by rw [c2]; exact he) (by rw [a1, c1]; simp)
    refine ⟨fun q => (by rw [m1] at q; cases q), fun _ => ?_⟩
    rw [m2, c2, zrR_bad S 0 (p, e, x) he]
    exact Or.inr ⟨rfl, he, x', hx, hR⟩

/-- What is read of a message next. -/
def nxA (S : List UInt8) (st : RSt) : AtR := if st.2.1 ≠ 0 then .bad st.2.1 st.2.2.toNat else rdAt S st.1

/-- Behind an attribute: there may be too many. -/
def lmS (st : RSt) (m : Nat) (n : Nat) : RSt := if 40 < n then flR st 4 m else st

theorem attr_round (S : List UInt8) (R : MvR) (m : Nat) (st : RSt) (l : List Mv) (h : MvI S R (some m) st l) :
    AtI S (nxA S st) st ∧ (∀ st', AtEnd S (nxA S st) st' → MvI S R none st' l) ∧
    (∀ x st', AtOut S (nxA S st) x st' → st'.2.1 = 0 → MvI S R (some m) (lmS st' m (l ++ [x]).length) (l ++ [x]) ∧ st.2.1 = 0 ∧ st.1 < st'.1 ∧ l.length ≤ 40) := by
  obtain ⟨p, e, x⟩ := st
  obtain ⟨hp, h⟩ := h
  have hp : p ≤ S.length := hp
  rcases h with ⟨hst, hl, f, hR, hf⟩ | ⟨hl, x', he, hx, hR⟩
  · simp only [Prod.mk.injEq] at hst
    obtain ⟨rfl, rfl⟩ := hst
    have hR : rdMv S f (some m) p l = R := hR
    have hf : S.length + 1 ≤ p + f := hf
    obtain ⟨f, rfl⟩ : ∃ f', f = f' + 1 := ⟨f - 1, by omega⟩
    have hN : nxA S (p, 0, -1) = rdAt S p := by unfold nxA; rw [if_neg (show ¬ (0 : Int) ≠ 0 by decide)]
    rw [hN]
    refine ⟨⟨hp, Or.inl ⟨rfl, rfl⟩⟩, fun st' hE => ?_, fun y st' hO h0 => ?_⟩
    · obtain ⟨q1, ⟨q, hA, rfl⟩ | ⟨z, z1, z2, hA⟩⟩ := hE
      · rw [mv_fin hA] at hR
        obtain ⟨_, _, hq⟩ := at_fin hA
        have q1 : q ≤ S.length := q1
        exact ⟨q1, Or.inl ⟨rfl, hl, f, hR, by show S.length + 1 ≤ q + f; omega⟩⟩
      · rw [mv_bad hA] at hR
        exact ⟨q1, Or.inr ⟨by omega, z, z1, z2, hR.symm⟩⟩
    · obtain ⟨q1, ⟨q, hA, rfl⟩ | ⟨z, z1, z2, hA⟩⟩ := hO
      · obtain ⟨_, hq, hqs, hq4⟩ := at_got hA
        refine ⟨?_, rfl, by show p < q; omega, hl⟩
        unfold lmS
        by_cases h40 : 40 < (l ++ [y]).length
        · rw [mv_many hA h40] at hR
          rw [if_pos h40]
          have e4 : flR (q, 0, -1) 4 (m : Int) = (q, 4, (m : Int)) := flR_ok
          rw [e4]
          exact ⟨hqs, Or.inr ⟨by rw [List.length_append]; show l.length + 1 ≤ 41; omega, m, (by decide : (4 : Int) ≠ 0), rfl, hR.symm⟩⟩
        · rw [mv_got hA h40] at hR
          rw [if_neg h40]
          exact ⟨hqs, Or.inl ⟨rfl, by omega, f, hR, by show S.length + 1 ≤ q + f; omega⟩⟩
      · exact absurd h0 z1
  · have he : e ≠ 0 := he
    have hx : x = (x' : Int) := hx
    have hN : nxA S (p, e, x) = .bad e x' := by
      unfold nxA
      rw [if_pos (show e ≠ 0 from he), hx]
      rfl
    rw [hN]
    refine ⟨⟨hp, Or.inr ⟨x', he, hx, rfl⟩⟩, fun st' hE => ?_, fun y st' hO h0 => ?_⟩
    · obtain ⟨q1, ⟨q, hA, _⟩ | ⟨z, z1, z2, hA⟩⟩ := hE
      · cases hA
      · injection hA with hA1 hA2
        refine ⟨q1, Or.inr ⟨by omega, x', z1, by rw [z2, hA2], ?_⟩⟩
        rw [hR, ← hA1]
    · obtain ⟨q1, ⟨q, hA, _⟩ | ⟨z, z1, z2, hA⟩⟩ := hO
      · cases hA
      · exact absurd h0 z1

theorem mv_start (S : List UInt8) : MvI S (rdMvs S) none (exS S (0, 0, -1) [0]) [] := by
  by_cases h0 : S.length < 1
  · have e1 := ex_miss S (0, 0, -1) [0] (by simp) rfl (by show ¬ 0 + 1 ≤ S.length; omega) (Nat.zero_le _)
    have e2 : rdMvs S = .bad 7 0 := by unfold rdMvs; rw [if_pos h0]
    rw [e1, e2]
    exact ⟨Nat.zero_le _, Or.inr ⟨by simp, 0, (by decide : (7 : Int) ≠ 0), rfl, rfl⟩⟩
  · obtain ⟨b, hb, hbn⟩ := take1 (S := S) (p := 0) (by omega)
    by_cases h1 : b = 0
    · subst h1
      have e1 := ex_go S (0, 0, -1) [0] rfl (by show 0 + 1 ≤ S.length; omega) hb
      have e2 : rdMvs S = rdMv S (S.length + 1) none 1 [] := by unfold rdMvs; rw [if_neg h0, if_neg (by rw [hbn]; decide)]
      rw [e1, e2]
      exact ⟨by show 0 + 1 ≤ S.length; omega, Or.inl ⟨rfl, by simp, S.length + 1, rfl, by show S.length + 1 ≤ 0 + 1 + (S.length + 1); omega⟩⟩
    · have hne : ¬ ((S.drop 0).take ([0] : List UInt8).length) = [0] := fun q => by
        have q : (S.drop 0).take 1 = [0] := q
        rw [hb] at q
        simp only [List.cons.injEq, and_true] at q
        exact h1 q
      have e1 := ex_form S (0, 0, -1) [0] rfl (by show 0 + 1 ≤ S.length; omega) hne
      have e3 := exS_le S (0, 0, -1) [0] (Nat.zero_le _)
      have e2 : rdMvs S = .bad 3 0 := by
        unfold rdMvs
        rw [if_neg h0, if_pos (fun q => by rw [hbn] at q; exact h1 ((toNat_eq (by decide)).1 q))]
      rw [e2]
      refine ⟨e3, Or.inr ⟨by simp, 0, ?_, ?_, ?_⟩⟩
      · rw [e1]; decide
      · rw [e1] <;> rfl
      · rw [e1] <;> rfl

end Go.Proofs.YtdjljnpbnhampaaDoor

namespace Go.Proofs.YtdjljnpbnhampaaDoor
open Go.RowKit
attribute [local go_sem ↓] Go.wp_at_zero Go.wp_at_succ
set_option linter.unusedSimpArgs false
set_option linter.unusedVariables false
set_option maxRecDepth 100000

/-- What an attribute's reading answers. -/
def AtAns (S : ByteArray) (R : AtR) (base : Nat) (hd : MvH) (more : Bool) (st : RSt) (w : World) : Prop :=
  (more = true ∧ AtOut S.data.toList R hd.x st ∧ st.2.1 = 0 ∧ OwnIv w base (.slice hd.a hd.x.ev.length hd.c) hd.x.ev) ∨ (more = false ∧ AtEnd S.data.toList R st)

theorem results_blk_tmpA {P : Program} {fn : Func} {tmps : Array Value} {w : World} {a t u B : Nat} {T : TypeId} {X : Array Value} (h : fn.results = #[.cell a t, .tmp u]) (ha : tmps.getD a undef = .pointer (some ⟨B, 0, none⟩)) (hB : Blk w B T X)
    (hu : (match P.underlying t with | some (.struct _) | some (.array _ _) => true | _ => false) = true) (hn : (P.info? t).map (·.size) = some X.size) : (results fn tmps).run P w = .ok (.tuple #[.agg X, tmps.getD u undef]) w := results_blk_tmp h ha hB hu hn

theorem RdT.otherA {w w' : World} {g B : Nat} {s : ByteArray} {st : RSt} {C : Array Value} (h : RdT w g s 0 st) (hB : Blk w B 92 C) (hg : w.grownBy w' (some B)) : RdT w' g s 0 st := h.other hB (by decide) (by decide) hg

set_option maxHeartbeats 12800000 in
theorem readAttr_t {g : Nat} {S : ByteArray} (R : AtR) (st : RSt) (hI : AtI S.data.toList R st) (w : World) (h : RdT w g S 0 st) (hb : S.size ≤ 281474976710656) :
    Calls Tryd.prog 90 #[.pointer (some ⟨g, 0, none⟩)] w fun e w' => ∃ hd more st', e = .returned (.tuple #[.agg (mvC hd), .bool more]) ∧ AtAns S R w.heap.size hd more st' w' ∧ RdT w' g S 0 st' ∧ w.grownBy w' (some g) := by
  have hls : S.data.toList.length = S.size := by simp
  have HZ := Blk.new w 92 (mvC zMvH)
  have B0 : Below w.heap.size w (w.alloc (.cells (mvC zMvH) 92)) := (Below.refl _ _).alloc (Nat.le_refl _) _
  have h1 := h.below B0
  have G0 : w.grownBy (w.alloc (.cells (mvC zMvH) 92)) (some g) := World.grownBy_alloc w _ _
  have hgl : g < w.heap.size := h.lt
  have e0 : ((0 : Nat) : Int) + (st.1 : Int) = ((st.1 : Nat) : Int) := by omega
  have hp : st.1 ≤ S.size := by rw [← hls]; exact hI.1
  have hbn : some w.heap.size ≠ some g := by simp; omega
  have HA : Hid (∀ W, RdT W g S 0 st → Calls Tryd.prog 77 #[.pointer (some ⟨g, 0, none⟩)] W fun e w' => e = .returned (.int .i64 (st.1 : Nat)) ∧ W = w') := fun W h => by
    have q := atT st W h
    rw [e0] at q
    exact q
  have HN : Hid (∀ W, RdT W g S 0 st → Calls Tryd.prog 44 #[.pointer (some ⟨g, 0, none⟩), .int .i64 2] W fun e w' => e = .returned (.int .i64 (nmV S.data.toList 0 st 2 : Nat)) ∧ RdT w' g S 0 (nmS S.data.toList 0 st 2) ∧ W.grownBy w' (some g)) := fun W h => numK_t st 2 (by decide) W h hp (by omega)
  have HF : Hid (∀ (W : World) (s1 : RSt), RdT W g S 0 s1 → Calls Tryd.prog 61 #[.pointer (some ⟨g, 0, none⟩), .int .i64 2, .int .i64 (st.1 : Nat)] W fun e w' => e = .returned (.tuple #[]) ∧ RdT w' g S 0 (flR s1 2 st.1) ∧ W.grownBy w' (some g)) := fun W s1 h => fail_t s1 2 st.1 (by decide) W h
  have hrd := at_round _ _ _ hI
  have hnl := nmV_lt S.data.toList 0 st 2
  have HN2 : Hid (∀ W, (nmS S.data.toList 0 st 2).1 ≤ S.data.toList.length → RdT W g S 0 (nmS S.data.toList 0 st 2) → Calls Tryd.prog 44 #[.pointer (some ⟨g, 0, none⟩), .int .i64 2] W fun e w' => e = .returned (.int .i64 (nmV S.data.toList 0 (nmS S.data.toList 0 st 2) 2 : Nat)) ∧ RdT w' g S 0 (nmS S.data.toList 0 (nmS S.data.toList 0 st 2) 2) ∧ W.grownBy w' (some g)) := fun W hq h => numK_t _ 2 (by decide) W h (by rw [← hls]; exact hq) (by omega)
  clear hI e0 h
  generalize nmS S.data.toList 0 (nmS S.data.toList 0 st 2) 2 = st2 at *
  generalize nmV S.data.toList 0 (nmS S.data.toList 0 st 2) 2 = fi at *
  generalize nmS S.data.toList 0 st 2 = st1 at *
  generalize nmV S.data.toList 0 st 2 = n at *
  generalize st.1 = p at *
  have HB : Hid (Below w.heap.size w (w.alloc (.cells (mvC zMvH) 92))) := B0
  clear B0
  rcases hrd with ⟨hn, hE⟩ | ⟨hn, hc, hE⟩ | ⟨hn, hc1, hc2, hp1, R', hEI, hfin⟩
  · subst hn
    go_enter Tryd.func90, Tryd.ntmps90
    go_upto_region 1 with (refine alloc_blk 92 (mvC zMvH) (by rfl) rfl Tryd.mhZero ?_)
    generalize w.alloc (.cells (mvC zMvH) 92) = w1 at *
    go_wp2_with fail
    refine (HA.out _ h1).mono ?_
    rintro e w2 ⟨rfl, rfl⟩
    go_wp2_with fail
    refine (HN.out _ h1).mono ?_
    rintro e w3 ⟨rfl, HR3, g3'⟩
    have HZ3 := HZ.grown g3' hbn
    have G3 := grownBy_trans G0 g3'
    go_wp2_with (first
      | (refine build_blk (t := 92) (mvC zMvH) (by rfl) rfl (by kernel_rfl) ?_)
      | (refine store_blk (k := 0) 92 (.agg (mvC zMvH)) (mvC zMvH) (by rfl) rfl rfl rfl HZ3 (by kernel_rfl) (show (3 : Nat) ≤ 3 from Nat.le_refl 3) (by rfl) (st_whole _ _ rfl) (fun w7 H7 b7 g7 => ?_)))
    exact bodyPost_ret (results_blk_tmpA rfl rfl H7 (by kernel_rfl) (by kernel_rfl)) rfl ⟨zMvH, false, st1, rfl, Or.inr ⟨rfl, hE⟩, HR3.otherA HZ3 g7, grown_own G3 g7 (Nat.le_refl _)⟩
  · have d0 : ((n : Int) == 0) = false := beq_eq_false_iff_ne.2 (by omega)
    obtain ⟨m, hm⟩ : ∃ m, n % 8192 = m := ⟨_, rfl⟩
    have k1 : (n : Int).tmod 8192 = (m : Int) := by rw [Int.tmod_eq_emod_of_nonneg (by omega)]; omega
    have k2 : (n : Int) % 8192 = (m : Int) := by omega
    rw [hm] at hc
    clear hm
    have hcc : (16384 ≤ n) ∨ (¬ 16384 ≤ n ∧ 400 < m) := by omega
    rcases hcc with hc1 | ⟨hc1, hc2⟩
    · have d1 : decide ((16384 : Int) ≤ (n : Int)) = true := decide_eq_true (by omega)
      clear hc hc1
      go_enter Tryd.func90, Tryd.ntmps90
      go_upto_region 1 with (refine alloc_blk 92 (mvC zMvH) (by rfl) rfl Tryd.mhZero ?_)
      generalize w.alloc (.cells (mvC zMvH) 92) = w1 at *
      go_wp2_with fail
      refine (HA.out _ h1).mono ?_
      rintro e w2 ⟨rfl, rfl⟩
      go_wp2_with fail
      refine (HN.out _ h1).mono ?_
      rintro e w3 ⟨rfl, HR3, g3'⟩
      have HZ3 := HZ.grown g3' hbn
      have G3 := grownBy_trans G0 g3'
      go_wp2_with fail
      refine (HF.out _ _ HR3).mono ?_
      rintro e w4 ⟨rfl, HR4, g4⟩
      have HZ4 := HZ3.grown g4 hbn
      have G4 := grownBy_trans G3 g4
      go_wp2_with (first
        | (refine build_blk (t := 92) (mvC zMvH) (by rfl) rfl (by kernel_rfl) ?_)
        | (refine store_blk (k := 0) 92 (.agg (mvC zMvH)) (mvC zMvH) (by rfl) rfl rfl rfl HZ4 (by kernel_rfl) (show (3 : Nat) ≤ 3 from Nat.le_refl 3) (by rfl) (st_whole _ _ rfl) (fun w7 H7 b7 g7 => ?_)))
      exact bodyPost_ret (results_blk_tmpA rfl rfl H7 (by kernel_rfl) (by kernel_rfl)) rfl ⟨zMvH, false, _, rfl, Or.inr ⟨rfl, hE⟩, HR4.otherA HZ4 g7, grown_own G4 g7 (Nat.le_refl _)⟩
    · have d1 : decide ((16384 : Int) ≤ (n : Int)) = false := decide_eq_false (by omega)
      have d2 : decide ((400 : Int) < (m : Int)) = true := decide_eq_true (by omega)
      clear hc hc1 hc2
      go_enter Tryd.func90, Tryd.ntmps90
      go_upto_region 1 with (refine alloc_blk 92 (mvC zMvH) (by rfl) rfl Tryd.mhZero ?_)
      generalize w.alloc (.cells (mvC zMvH) 92) = w1 at *
      go_wp2_with fail
      refine (HA.out _ h1).mono ?_
      rintro e w2 ⟨rfl, rfl⟩
      go_wp2_with fail
      refine (HN.out _ h1).mono ?_
      rintro e w3 ⟨rfl, HR3, g3'⟩
      have HZ3 := HZ.grown g3' hbn
      have G3 := grownBy_trans G0 g3'
      go_wp2_with fail
      refine (HF.out _ _ HR3).mono ?_
      rintro e w4 ⟨rfl, HR4, g4⟩
      have HZ4 := HZ3.grown g4 hbn
      have G4 := grownBy_trans G3 g4
      go_wp2_with (first
        | (refine build_blk (t := 92) (mvC zMvH) (by rfl) rfl (by kernel_rfl) ?_)
        | (refine store_blk (k := 0) 92 (.agg (mvC zMvH)) (mvC zMvH) (by rfl) rfl rfl rfl HZ4 (by kernel_rfl) (show (3 : Nat) ≤ 3 from Nat.le_refl 3) (by rfl) (st_whole _ _ rfl) (fun w7 H7 b7 g7 => ?_)))
      exact bodyPost_ret (results_blk_tmpA rfl rfl H7 (by kernel_rfl) (by kernel_rfl)) rfl ⟨zMvH, false, _, rfl, Or.inr ⟨rfl, hE⟩, HR4.otherA HZ4 g7, grown_own G4 g7 (Nat.le_refl _)⟩
  · have d0 : ((n : Int) == 0) = false := beq_eq_false_iff_ne.2 (by omega)
    obtain ⟨m, hm⟩ : ∃ m, n % 8192 = m := ⟨_, rfl⟩
    have k1 : (n : Int).tmod 8192 = (m : Int) := by rw [Int.tmod_eq_emod_of_nonneg (by omega)]; omega
    have k2 : (n : Int) % 8192 = (m : Int) := by omega
    rw [hm] at hc2 hEI
    clear hm
    have d1 : decide ((16384 : Int) ≤ (n : Int)) = false := decide_eq_false (by omega)
    have d2 : decide ((400 : Int) < (m : Int)) = false := decide_eq_false (by omega)
    obtain ⟨al, hal⟩ : ∃ al, decide ((8192 : Int) ≤ (n : Int)) = al := ⟨_, rfl⟩
    have hal2 : decide (8192 ≤ n) = al := by
      rw [← hal]
      by_cases q : 8192 ≤ n
      · rw [decide_eq_true q, decide_eq_true (by omega)]
      · rw [decide_eq_false q, decide_eq_false (by omega)]
    rw [hal2] at hfin
    have hF := Lib.hid hfin
    have HEV : Hid (∀ W, RdT W g S 0 st2 → Calls Tryd.prog 107 #[.pointer (some ⟨g, 0, none⟩), .int .i64 (m : Nat)] W fun e w' => ∃ v l st, e = .returned v ∧ OwnIv w' W.heap.size v l ∧ l.length = m ∧ EvEnd S.data.toList R' st l ∧ RdT w' g S 0 st ∧ W.grownBy w' (some g)) := fun W h => readEvents_t m hc2 R' st2 hEI W h hb
    have hn0 : Hid (n ≠ 0) := hn
    have hm4 : m ≤ 400 := hc2
    clear hal2 hfin hEI hc1 hn hc2
    go_enter Tryd.func90, Tryd.ntmps90
    go_upto_region 1 with (refine alloc_blk 92 (mvC zMvH) (by rfl) rfl Tryd.mhZero ?_)
    generalize w.alloc (.cells (mvC zMvH) 92) = w1 at *
    go_wp2_with fail
    refine (HA.out _ h1).mono ?_
    rintro e w2 ⟨rfl, rfl⟩
    go_wp2_with fail
    refine (HN.out _ h1).mono ?_
    rintro e w3 ⟨rfl, HR3, g3'⟩
    have HZ3 := HZ.grown g3' hbn
    have G3 := grownBy_trans G0 g3'
    clear HA HN HZ g3' G0 h1 HB
    go_wp2_with fail
    refine (HN2.out _ hp1 HR3).mono ?_
    rintro e w4 ⟨rfl, HR4, g4⟩
    have HZ4 := HZ3.grown g4 hbn
    have G4 := grownBy_trans G3 g4
    clear HN2 HZ3 g4 G3 HR3
    go_wp2_with fail
    refine (HEV.out _ HR4).mono ?_
    rintro e w5 ⟨v, l, st3, rfl, HO5, hlm, hE5, HR5, g5⟩
    have HZ5 := HZ4.grown g5 hbn
    have G5 := grownBy_trans G4 g5
    have hbs : w.heap.size ≤ w4.heap.size := G4.size
    obtain ⟨a, c, rfl, hin⟩ := HO5.inL
    have hx := hF.out l st3 hE5
    clear HEV HZ4 g5 G4 HR4 hE5 hF
    have hHD : Hid (mvC ⟨⟨al, (fi : Nat), l⟩, a, c⟩ = #[.bool al, .int .i64 (fi : Nat), .slice a l.length c]) := rfl
    have HAL := Blk.new w5 92 (mvC zMvH)
    have b56 : Below w5.heap.size w5 (w5.alloc (.cells (mvC zMvH) 92)) := (Below.refl _ _).alloc (Nat.le_refl _) _
    have hOl : l.length ≤ maxLen := by rw [hlm]; unfold maxLen; omega
    clear hlm
    have HIN : Hid (∀ W, Below w5.heap.size w5 W → IvIn W a l) := fun W hb => hin.below hb
    clear hin
    go_upto_region 10 with (first
      | (refine build_blk (t := 92) (mvC ⟨⟨al, (fi : Nat), l⟩, a, c⟩) (by rfl) rfl (by kernel_rfl) ?_)
      | (refine alloc_blk 92 (mvC zMvH) (by rfl) rfl Tryd.mhZero ?_)
      | (refine store_blk (k := 0) 92 (.agg (mvC ⟨⟨al, (fi : Nat), l⟩, a, c⟩)) (mvC ⟨⟨al, (fi : Nat), l⟩, a, c⟩) (by rfl) rfl rfl rfl HAL (by kernel_rfl) (show (3 : Nat) ≤ 3 from Nat.le_refl 3) (by rfl) (st_whole _ _ rfl) ?_; intro w8 HA8 b8 g8))
    have b58 := b56.trans b8
    have HR8 := HR5.below b58
    have HZ8 := HZ5.kept b58
    have HO8 := HO5.kept b58
    have G8 := grown_belowT G5 b58
    have HRT := Lib.hid (mvRight_any ⟨al, (fi : Nat), l⟩ a c w8 (HIN.out _ b58) hOl)
    have hwB : w.heap.size < w5.heap.size := HZ5.lt
    clear HR5 HZ5 HO5 G5 b56 b8 g8 HAL HIN b58 hHD
    generalize w5.heap.size = B8 at *
    have hbn8 : some B8 ≠ some g := by simp; omega
    obtain ⟨hd, hhd⟩ : ∃ hd : MvH, hd = ⟨⟨al, (fi : Nat), l⟩, a, c⟩ := ⟨_, rfl⟩
    have HO8' : OwnIv w8 w4.heap.size (.slice hd.a hd.x.ev.length hd.c) hd.x.ev := by rw [hhd]; exact HO8
    have hx' : (okMv hd.x = true → AtOut S.data.toList R hd.x st3) ∧ (okMv hd.x = false → AtEnd S.data.toList R (flR st3 2 p) ∧ (flR st3 2 p).2.1 ≠ 0) := by rw [hhd]; exact hx
    replace HRT : Hid (Calls Tryd.prog 22 #[.agg (mvC hd)] w8 fun e w' => e = .returned (.bool (okMv hd.x)) ∧ Below w8.heap.size w8 w') := by rw [hhd]; exact HRT.out
    rw [← hhd] at HA8 ⊢
    clear hx HO8 hhd
    have hxx := Lib.hid hx'
    clear hx'
    go_wp2_with (refine load_blk (k := 0) 92 (mvC hd) (by rfl) rfl rfl HA8 (by kernel_rfl) (by kernel_rfl) rfl ?_)
    refine HRT.out.mono ?_
    rintro e w9 ⟨rfl, b9⟩
    have HA9 := HA8.kept b9
    have HR9 := HR8.below b9
    have HZ9 := HZ8.kept b9
    have HO9 := HO8'.kept b9
    have G9 := grown_belowT G8 b9
    clear HA8 HR8 HZ8 HO8' G8 b9 HRT
    cases hk : okMv hd.x with
    | true =>
      have hA := hxx.out.1 hk
      clear hxx hk HF
      by_cases hs0 : st3.2.1 = 0
      · have hAO : AtOut S.data.toList R hd.x st3 ∧ st3.2.1 = 0 := ⟨hA, hs0⟩
        have hAA := Lib.hid hAO
        clear hA hAO
        have hbn11 : some B8 ≠ some w.heap.size := by simp; omega
        go_upto_region 12 with (fail)
        refine wp_region_noPanic ?_
        refine wp_region_held_drew (S := (fun w' => Blk w' B8 92 (mvC hd))) (by kernel_rfl) ?_ (fun hHeld => ?_)
        · exact HA9
        refine wpAnyH_take (i := 0) (v := .agg (mvC hd)) rfl (by kernel_rfl) (by kernel_rfl) (by kernel_rfl) (fun _ _ _ h => h) (Or.inl ⟨by rfl, fun w hSw => exec_load_blk (k := 0) 92 (mvC hd) rfl rfl hSw (by kernel_rfl) (by kernel_rfl) rfl⟩) (by assumption) ?_
        (try simp only [Act.put, List.getElem_toArray, List.getElem_cons_zero, List.getElem_cons_succ, List.setIfInBounds_toArray, List.set_cons_zero, List.set_cons_succ])
        refine wpAnyH_take (i := 1) (v := ?_) rfl (by kernel_rfl) (by kernel_rfl) (by kernel_rfl) (fun _ _ _ h => h) (Or.inl ⟨by rfl, ?_⟩) (by assumption) ?_
        rotate_left
        · (intro w hSw; (try dsimp only at hSw); go_simp; (try with_reducible rfl))
        (try simp only [Act.put, List.getElem_toArray, List.getElem_cons_zero, List.getElem_cons_succ, List.setIfInBounds_toArray, List.set_cons_zero, List.set_cons_succ])
        refine wpAnyH_ready (rs := [2]) (by kernel_rfl) (by simp) ?_
        refine AllReadyH.cons rfl (fun K hK => ?_) AllReadyH.nil
        simp only [List.getElem_toArray, List.getElem_cons_zero, List.getElem_cons_succ]
        go_simp
        go_at_call 47; (with_reducible refine (err_ok _ _ HR9.drew hs0).mono ?_); rintro e w10 ⟨rfl, rfl⟩
        refine hK.out _ _ ?_ (fun hHeld => ?_)
        · exact HA9.drew
        clear hK K
        (try simp only [Act.put, List.getElem_toArray, List.getElem_cons_zero, List.getElem_cons_succ, List.setIfInBounds_toArray, List.set_cons_zero, List.set_cons_succ])
        refine wpAnyH_take (i := 3) (v := .bool true) rfl (by kernel_rfl) (by kernel_rfl) (by kernel_rfl) (fun _ _ _ h => h) (Or.inl ⟨by rfl, fun w hSw => by go_simp⟩) (by assumption) ?_
        (try simp only [Act.put, List.getElem_toArray, List.getElem_cons_zero, List.getElem_cons_succ, List.setIfInBounds_toArray, List.set_cons_zero, List.set_cons_succ])
        refine wpAnyH_ready (rs := [4]) (by kernel_rfl) (by simp) ?_
        refine AllReadyH.cons rfl (fun K hK => ?_) AllReadyH.nil
        simp only [List.getElem_toArray, List.getElem_cons_zero, List.getElem_cons_succ]
        rw [if_pos (by rfl)]
        refine wp_store_op (k := 0) 92 (.agg (mvC hd)) (mvC hd) (by rfl) rfl rfl HZ9.drew (by kernel_rfl) (show (3 : Nat) ≤ 3 from Nat.le_refl 3) (by rfl) (st_whole _ _ rfl) (fun w11 H11 b11 g11 => ?_)
        have HA11 := HA9.drew.grown g11 hbn11
        refine hK.out _ _ ?_ (fun hHeld => ?_)
        · exact HA11
        clear hK K
        (try simp only [Act.put, List.getElem_toArray, List.getElem_cons_zero, List.getElem_cons_succ, List.setIfInBounds_toArray, List.set_cons_zero, List.set_cons_succ])
        refine wpAnyH_take (i := 5) (v := ?_) rfl (by kernel_rfl) (by kernel_rfl) (by kernel_rfl) (fun _ _ _ h => h) (Or.inl ⟨by rfl, ?_⟩) (by assumption) ?_
        rotate_left
        · (intro w hSw; (try dsimp only at hSw); go_simp; (try with_reducible rfl))
        (try simp only [Act.put, List.getElem_toArray, List.getElem_cons_zero, List.getElem_cons_succ, List.setIfInBounds_toArray, List.set_cons_zero, List.set_cons_succ])
        refine wpAnyH_done (by kernel_rfl) ?_ _
        refine NoPanic.normal ?_
        go_wp2
        exact bodyPost_ret (results_blk_tmpA rfl rfl H11 (by kernel_rfl) (by kernel_rfl)) rfl ⟨hd, true, st3, rfl, Or.inl ⟨rfl, hAA.out.1, hAA.out.2, (HO9.drew.other HZ9.drew (by decide) g11).mono hbs⟩, HR9.drew.otherA HZ9.drew g11, grown_own (rdT_drew G9) g11 (Nat.le_refl _)⟩
      · have hAE : AtEnd S.data.toList R st3 := by
          obtain ⟨q1, q2⟩ := hA
          rcases q2 with ⟨q, _, q3⟩ | q2
          · rw [q3] at hs0
            exact absurd rfl hs0
          · exact ⟨q1, Or.inr q2⟩
        have hAA := Lib.hid hAE
        clear hA hAE
        have hbn11 : some B8 ≠ some w.heap.size := by simp; omega
        go_upto_region 12 with (fail)
        refine wp_region_noPanic ?_
        refine wp_region_held_drew (S := (fun w' => Blk w' B8 92 (mvC hd))) (by kernel_rfl) ?_ (fun hHeld => ?_)
        · exact HA9
        refine wpAnyH_take (i := 0) (v := .agg (mvC hd)) rfl (by kernel_rfl) (by kernel_rfl) (by kernel_rfl) (fun _ _ _ h => h) (Or.inl ⟨by rfl, fun w hSw => exec_load_blk (k := 0) 92 (mvC hd) rfl rfl hSw (by kernel_rfl) (by kernel_rfl) rfl⟩) (by assumption) ?_
        (try simp only [Act.put, List.getElem_toArray, List.getElem_cons_zero, List.getElem_cons_succ, List.setIfInBounds_toArray, List.set_cons_zero, List.set_cons_succ])
        refine wpAnyH_take (i := 1) (v := ?_) rfl (by kernel_rfl) (by kernel_rfl) (by kernel_rfl) (fun _ _ _ h => h) (Or.inl ⟨by rfl, ?_⟩) (by assumption) ?_
        rotate_left
        · (intro w hSw; (try dsimp only at hSw); go_simp; (try with_reducible rfl))
        (try simp only [Act.put, List.getElem_toArray, List.getElem_cons_zero, List.getElem_cons_succ, List.setIfInBounds_toArray, List.set_cons_zero, List.set_cons_succ])
        refine wpAnyH_ready (rs := [2]) (by kernel_rfl) (by simp) ?_
        refine AllReadyH.cons rfl (fun K hK => ?_) AllReadyH.nil
        simp only [List.getElem_toArray, List.getElem_cons_zero, List.getElem_cons_succ]
        go_simp
        go_at_call 47; (with_reducible refine (err_t _ _ HR9.drew hs0).mono ?_); rintro e w10 ⟨rfl, hF10, b10⟩; have HA10 := HA9.drew.kept b10; have HZ10 := HZ9.drew.kept b10; have HR10 := HR9.drew.below b10; have G10 := grown_belowT (rdT_drew G9) b10
        refine hK.out _ _ ?_ (fun hHeld => ?_)
        · exact HA10
        clear hK K
        (try simp only [Act.put, List.getElem_toArray, List.getElem_cons_zero, List.getElem_cons_succ, List.setIfInBounds_toArray, List.set_cons_zero, List.set_cons_succ])
        refine wpAnyH_take (i := 3) (v := .bool false) rfl (by kernel_rfl) (by kernel_rfl) (by kernel_rfl) (fun _ _ _ h => h) (Or.inl ⟨by rfl, fun w hSw => by go_simp⟩) (by assumption) ?_
        (try simp only [Act.put, List.getElem_toArray, List.getElem_cons_zero, List.getElem_cons_succ, List.setIfInBounds_toArray, List.set_cons_zero, List.set_cons_succ])
        refine wpAnyH_ready (rs := [4]) (by kernel_rfl) (by simp) ?_
        refine AllReadyH.cons rfl (fun K hK => ?_) AllReadyH.nil
        simp only [List.getElem_toArray, List.getElem_cons_zero, List.getElem_cons_succ]
        rw [if_pos (by rfl)]
        refine wp_store_op (k := 0) 92 (.agg (mvC hd)) (mvC hd) (by rfl) rfl rfl HZ10 (by kernel_rfl) (show (3 : Nat) ≤ 3 from Nat.le_refl 3) (by rfl) (st_whole _ _ rfl) (fun w11 H11 b11 g11 => ?_)
        have HA11 := HA10.grown g11 hbn11
        refine hK.out _ _ ?_ (fun hHeld => ?_)
        · exact HA11
        clear hK K
        (try simp only [Act.put, List.getElem_toArray, List.getElem_cons_zero, List.getElem_cons_succ, List.setIfInBounds_toArray, List.set_cons_zero, List.set_cons_succ])
        refine wpAnyH_take (i := 5) (v := ?_) rfl (by kernel_rfl) (by kernel_rfl) (by kernel_rfl) (fun _ _ _ h => h) (Or.inl ⟨by rfl, ?_⟩) (by assumption) ?_
        rotate_left
        · (intro w hSw; (try dsimp only at hSw); go_simp; (try with_reducible rfl))
        (try simp only [Act.put, List.getElem_toArray, List.getElem_cons_zero, List.getElem_cons_succ, List.setIfInBounds_toArray, List.set_cons_zero, List.set_cons_succ])
        refine wpAnyH_done (by kernel_rfl) ?_ _
        refine NoPanic.normal ?_
        go_wp2
        exact bodyPost_ret (results_blk_tmpA rfl rfl H11 (by kernel_rfl) (by kernel_rfl)) rfl ⟨hd, false, st3, rfl, Or.inr ⟨rfl, hAA.out⟩, HR10.otherA HZ10 g11, grown_own G10 g11 (Nat.le_refl _)⟩
    | false =>
      obtain ⟨hAE, hs0⟩ := hxx.out.2 hk
      have hAA := Lib.hid hAE
      clear hxx hk hAE
      have hbn11 : some B8 ≠ some w.heap.size := by simp; omega
      go_wp2_with fail
      refine (HF.out _ _ HR9).mono ?_
      rintro e wf ⟨rfl, HRf, gf⟩
      have HAf := HA9.grown gf hbn8
      have HZf := HZ9.grown gf hbn
      have Gf := grownBy_trans G9 gf
      clear HA9 HZ9 HR9 G9 gf HF
      generalize flR st3 2 p = st4 at *
      go_upto_region 12 with (fail)
      refine wp_region_noPanic ?_
      refine wp_region_held_drew (S := (fun w' => Blk w' B8 92 (mvC hd))) (by kernel_rfl) ?_ (fun hHeld => ?_)
      · exact HAf
      refine wpAnyH_take (i := 0) (v := .agg (mvC hd)) rfl (by kernel_rfl) (by kernel_rfl) (by kernel_rfl) (fun _ _ _ h => h) (Or.inl ⟨by rfl, fun w hSw => exec_load_blk (k := 0) 92 (mvC hd) rfl rfl hSw (by kernel_rfl) (by kernel_rfl) rfl⟩) (by assumption) ?_
      (try simp only [Act.put, List.getElem_toArray, List.getElem_cons_zero, List.getElem_cons_succ, List.setIfInBounds_toArray, List.set_cons_zero, List.set_cons_succ])
      refine wpAnyH_take (i := 1) (v := ?_) rfl (by kernel_rfl) (by kernel_rfl) (by kernel_rfl) (fun _ _ _ h => h) (Or.inl ⟨by rfl, ?_⟩) (by assumption) ?_
      rotate_left
      · (intro w hSw; (try dsimp only at hSw); go_simp; (try with_reducible rfl))
      (try simp only [Act.put, List.getElem_toArray, List.getElem_cons_zero, List.getElem_cons_succ, List.setIfInBounds_toArray, List.set_cons_zero, List.set_cons_succ])
      refine wpAnyH_ready (rs := [2]) (by kernel_rfl) (by simp) ?_
      refine AllReadyH.cons rfl (fun K hK => ?_) AllReadyH.nil
      simp only [List.getElem_toArray, List.getElem_cons_zero, List.getElem_cons_succ]
      go_simp
      go_at_call 47; (with_reducible refine (err_t _ _ HRf.drew hs0).mono ?_); rintro e w10 ⟨rfl, hF10, b10⟩; have HA10 := HAf.drew.kept b10; have HZ10 := HZf.drew.kept b10; have HR10 := HRf.drew.below b10; have G10 := grown_belowT (rdT_drew Gf) b10
      refine hK.out _ _ ?_ (fun hHeld => ?_)
      · exact HA10
      clear hK K
      (try simp only [Act.put, List.getElem_toArray, List.getElem_cons_zero, List.getElem_cons_succ, List.setIfInBounds_toArray, List.set_cons_zero, List.set_cons_succ])
      refine wpAnyH_take (i := 3) (v := .bool false) rfl (by kernel_rfl) (by kernel_rfl) (by kernel_rfl) (fun _ _ _ h => h) (Or.inl ⟨by rfl, fun w hSw => by go_simp⟩) (by assumption) ?_
      (try simp only [Act.put, List.getElem_toArray, List.getElem_cons_zero, List.getElem_cons_succ, List.setIfInBounds_toArray, List.set_cons_zero, List.set_cons_succ])
      refine wpAnyH_ready (rs := [4]) (by kernel_rfl) (by simp) ?_
      refine AllReadyH.cons rfl (fun K hK => ?_) AllReadyH.nil
      simp only [List.getElem_toArray, List.getElem_cons_zero, List.getElem_cons_succ]
      rw [if_pos (by rfl)]
      refine wp_store_op (k := 0) 92 (.agg (mvC hd)) (mvC hd) (by rfl) rfl rfl HZ10 (by kernel_rfl) (show (3 : Nat) ≤ 3 from Nat.le_refl 3) (by rfl) (st_whole _ _ rfl) (fun w11 H11 b11 g11 => ?_)
      have HA11 := HA10.grown g11 hbn11
      refine hK.out _ _ ?_ (fun hHeld => ?_)
      · exact HA11
      clear hK K
      (try simp only [Act.put, List.getElem_toArray, List.getElem_cons_zero, List.getElem_cons_succ, List.setIfInBounds_toArray, List.set_cons_zero, List.set_cons_succ])
      refine wpAnyH_take (i := 5) (v := ?_) rfl (by kernel_rfl) (by kernel_rfl) (by kernel_rfl) (fun _ _ _ h => h) (Or.inl ⟨by rfl, ?_⟩) (by assumption) ?_
      rotate_left
      · (intro w hSw; (try dsimp only at hSw); go_simp; (try with_reducible rfl))
      (try simp only [Act.put, List.getElem_toArray, List.getElem_cons_zero, List.getElem_cons_succ, List.setIfInBounds_toArray, List.set_cons_zero, List.set_cons_succ])
      refine wpAnyH_done (by kernel_rfl) ?_ _
      refine NoPanic.normal ?_
      go_wp2
      exact bodyPost_ret (results_blk_tmpA rfl rfl H11 (by kernel_rfl) (by kernel_rfl)) rfl ⟨hd, false, st4, rfl, Or.inr ⟨rfl, hAA.out⟩, HR10.otherA HZ10 g11, grown_own G10 g11 (Nat.le_refl _)⟩

end Go.Proofs.YtdjljnpbnhampaaDoor

namespace Go.Proofs.YtdjljnpbnhampaaDoor
open Go.RowKit
attribute [local go_sem ↓] Go.wp_at_zero Go.wp_at_succ
set_option linter.unusedSimpArgs false
set_option linter.unusedVariables false
set_option maxRecDepth 100000

theorem messages_any (g : Nat) (w : World) :
    Calls Tryd.prog 59 #[.pointer (some ⟨g, 0, none⟩)] w fun e w' => e = .returned (.func (.func 87) #[] #[.pointer (some ⟨w.heap.size, 0, none⟩)]) ∧
      Blk w' w.heap.size 112 #[.pointer (some ⟨g, 0, none⟩)] ∧ Below w.heap.size w w' ∧ w'.heap.size = w.heap.size + 1 := by
  have hmf : ∀ (fn : Fn) (first cap : Array Value) (w : World), (Instr.makeFunc fn first cap).run Tryd.prog w = .ok (.func fn first cap) w := fun _ _ _ _ => rfl
  have h1 := Blk.new w 112 #[.pointer (some ⟨g, 0, none⟩)]
  have b : Below w.heap.size w (w.alloc (.cells #[.pointer (some ⟨g, 0, none⟩)] 112)) := (Below.refl _ _).alloc (Nat.le_refl _) _
  go_enter Tryd.func59, Tryd.ntmps59
  go_wp2
  go_ret
  exact ⟨rfl, h1, b, by simp⟩

theorem attrs_any (g : Nat) (w : World) :
    Calls Tryd.prog 60 #[.pointer (some ⟨g, 0, none⟩)] w fun e w' => e = .returned (.func (.func 89) #[] #[.pointer (some ⟨w.heap.size, 0, none⟩)]) ∧
      Blk w' w.heap.size 112 #[.pointer (some ⟨g, 0, none⟩)] ∧ Below w.heap.size w w' ∧ w'.heap.size = w.heap.size + 1 := by
  have hmf : ∀ (fn : Fn) (first cap : Array Value) (w : World), (Instr.makeFunc fn first cap).run Tryd.prog w = .ok (.func fn first cap) w := fun _ _ _ _ => rfl
  have h1 := Blk.new w 112 #[.pointer (some ⟨g, 0, none⟩)]
  have b : Below w.heap.size w (w.alloc (.cells #[.pointer (some ⟨g, 0, none⟩)] 112)) := (Below.refl _ _).alloc (Nat.le_refl _) _
  go_enter Tryd.func60, Tryd.ntmps60
  go_wp2
  go_ret
  exact ⟨rfl, h1, b, by simp⟩

set_option maxHeartbeats 3200000 in
/-- messages: J st holds between two messages, the reader at st. -/
theorem messages_it {g b1 l : Nat} {S : ByteArray} (hb : S.size ≤ 281474976710656) (J : RSt → World → Prop) (hr : ∀ st W, J st W → RdT W g S 0 st ∧ st.1 ≤ S.size ∧ Blk W b1 112 #[.pointer (some ⟨g, 0, none⟩)])
    (hY : ∀ st W0 W, J st W0 → mhV S.data.toList st = true → RdT W g S 0 (mhS S.data.toList st) → W0.grownBy W (some g) →
      YieldAt Fence.wide 0 Tryd.prog l #[.int .i64 (st.1 : Nat)] W fun e W' => e = .returned (.bool true) ∧ ∃ st', J st' W' ∧ rdLeft S.size W' g < rdLeft S.size W0 g)
    (st0 : RSt) (w : World) (h0 : J st0 w) :
    Calls Tryd.prog 87 #[.func (.yield l) #[] #[], .pointer (some ⟨b1, 0, none⟩)] w fun e w' => (∃ v, e = .returned v) ∧ ∃ st W0, J st W0 ∧ mhV S.data.toList st = false ∧ RdT w' g S 0 (mhS S.data.toList st) ∧ W0.grownBy w' (some g) := by
  have HA : Hid (∀ st W, J st W → Calls Tryd.prog 77 #[.pointer (some ⟨g, 0, none⟩)] W fun e w' => e = .returned (.int .i64 (st.1 : Nat)) ∧ W = w') := fun st W h => by
    have q := atT st W (hr st W h).1
    rw [show ((0 : Nat) : Int) + (st.1 : Int) = ((st.1 : Nat) : Int) by omega] at q
    exact q
  have c0 := (hr st0 w h0).2.2.cv 0 (.pointer (some ⟨g, 0, none⟩)) rfl
  go_enter Tryd.func87, Tryd.ntmps87
  go_wp2_with fail
  refine (HA.out _ _ h0).mono ?_
  rintro e w1 ⟨rfl, rfl⟩
  go_wp2_with fail
  go_loopw [3] (fun v wr => ∃ st : RSt, v = .int .i64 (st.1 : Nat) ∧ J st wr) (fun _ wr => rdLeft S.size wr g)
  case atStart => exact ⟨st0, rfl, h0⟩
  case round =>
    clear c0 h0
    obtain ⟨st, rfl, HJ⟩ := hrel
    obtain ⟨HR, hp, HX⟩ := hr _ _ HJ
    have c1 := HX.cv 0 (.pointer (some ⟨g, 0, none⟩)) rfl
    have HH := Lib.hid (readHead_m st _ HR hp hb)
    have HYY := Lib.hid (fun W hv => hY st _ W HJ hv)
    cases hv : mhV S.data.toList st with
    | false =>
      rw [hv] at HH
      go_wp2_with fail
      refine HH.out.mono ?_
      rintro e w2 ⟨rfl, HR2, g2⟩
      go_wp2
      go_end0
      exact ⟨⟨_, rfl⟩, st, _, HJ, hv, HR2, g2⟩
    | true =>
      rw [hv] at HH
      have HY2 := Lib.hid (fun W => HYY.out W hv)
      clear HYY hv
      obtain ⟨p, hpp⟩ : ∃ p : Nat, st.1 = p := ⟨_, rfl⟩
      rw [hpp] at HY2 ⊢
      go_wp2_with fail
      refine HH.out.mono ?_
      rintro e w2 ⟨rfl, HR2, g2⟩
      have HY3 := HY2.out w2 HR2 g2
      clear HH HY2 hpp
      go_upto_region 3 with (fail)
      refine (wpIn_wide (n := 0)).1 ?_
      obtain ⟨fn, tmps, assign, body, hy, hR⟩ := HY3
      gi_wp2
      refine ⟨rfl, hR.mono ?_⟩
      rintro e W3 ⟨rfl, st', HJ3, hms⟩
      have HX3 := (hr _ _ HJ3).2.2
      have c3 := HX3.cv 0 (.pointer (some ⟨g, 0, none⟩)) rfl
      have HA3 := Lib.hid (HA.out _ _ HJ3)
      gi_wp2
      go_wp2_with fail
      refine HA3.out.mono ?_
      rintro e w4 ⟨rfl, rfl⟩
      go_wp2
      go_roundw
      case rel => exact ⟨st', rfl, HJ3⟩
      case measure => exact hms

set_option maxHeartbeats 3200000 in
/-- attrs: J st holds between two attributes. -/
theorem attrs_it {g b1 l : Nat} {S : ByteArray} (hb : S.size ≤ 281474976710656) (J : RSt → World → Prop) (E : World → Prop) (hr : ∀ st W, J st W → RdT W g S 0 st ∧ Blk W b1 112 #[.pointer (some ⟨g, 0, none⟩)])
    (hY : ∀ st W0, J st W0 → ∃ RA, AtI S.data.toList RA st ∧
      (∀ hd st' W, AtOut S.data.toList RA hd.x st' → st'.2.1 = 0 → OwnIv W W0.heap.size (.slice hd.a hd.x.ev.length hd.c) hd.x.ev → RdT W g S 0 st' → W0.grownBy W (some g) →
        YieldAt Fence.wide 0 Tryd.prog l #[.agg (mvC hd)] W fun e W' => e = .returned (.bool true) ∧ ∃ st'', J st'' W' ∧ rdLeft S.size W' g < rdLeft S.size W0 g) ∧
      (∀ st' W, AtEnd S.data.toList RA st' → RdT W g S 0 st' → W0.grownBy W (some g) → E W))
    (st0 : RSt) (w : World) (h0 : J st0 w) :
    Calls Tryd.prog 89 #[.func (.yield l) #[] #[], .pointer (some ⟨b1, 0, none⟩)] w fun e w' => (∃ v, e = .returned v) ∧ E w' := by
  go_enter Tryd.func89, Tryd.ntmps89
  go_wp2_with fail
  go_loopw [] (fun wr => ∃ st : RSt, J st wr) (fun wr => rdLeft S.size wr g)
  case atStart => exact ⟨st0, h0⟩
  case round =>
    clear h0
    obtain ⟨st, HJ⟩ := hrel
    obtain ⟨HR, HX⟩ := hr _ _ HJ
    have c1 := HX.cv 0 (.pointer (some ⟨g, 0, none⟩)) rfl
    obtain ⟨RA, hI, hgo, hend⟩ := hY _ _ HJ
    have HH := Lib.hid (readAttr_t RA st hI _ HR hb)
    have HGO := Lib.hid hgo
    have HEN := Lib.hid hend
    clear hgo hend hI HR
    go_wp2_with fail
    refine HH.out.mono ?_
    rintro e w2 ⟨hd, more, st', rfl, hA, HR2, g2⟩
    clear HH
    have HZ := Blk.new w2 92 (mvC zMvH)
    have b3 : Below w2.heap.size w2 (w2.alloc (.cells (mvC zMvH) 92)) := (Below.refl _ _).alloc (Nat.le_refl _) _
    rcases hA with ⟨rfl, hO, hs0, HO⟩ | ⟨rfl, hE⟩
    · go_upto_region 1 with (first
        | (refine alloc_blk 92 (mvC zMvH) (by rfl) rfl Tryd.mhZero ?_)
        | (refine store_blk (k := 0) 92 (.agg (mvC hd)) (mvC hd) (by rfl) rfl rfl rfl HZ (by kernel_rfl) (show (3 : Nat) ≤ 3 from Nat.le_refl 3) (by rfl) (st_whole _ _ rfl) ?_; intro w5 HA5 b5 g5))
      have b35 := b3.trans b5
      have HY5 := HGO.out hd st' w5 hO hs0 (HO.kept b35) (HR2.below b35) (grown_belowT g2 b35)
      clear HGO HEN HZ b3 b5 g5 b35 HR2 HO hO
      generalize w2.heap.size = B2 at *
      refine (wpIn_wide (n := 0)).1 ?_
      obtain ⟨fn, tmps, assign, body, hy, hR⟩ := HY5
      gi_wp2_with (refine loadR (k := 0) 92 (mvC hd) (by rfl) rfl rfl HA5 (by kernel_rfl) (by kernel_rfl) rfl ?_)
      refine ⟨rfl, hR.mono ?_⟩
      rintro e W3 ⟨rfl, st'', HJ3, hms⟩
      gi_wp2
      go_wp2
      go_roundw
      case rel => exact ⟨st'', HJ3⟩
      case measure => exact hms
    · have hEE := Lib.hid hE
      go_wp2_with (first
        | (refine alloc_blk 92 (mvC zMvH) (by rfl) rfl Tryd.mhZero ?_)
        | (refine store_blk (k := 0) 92 (.agg (mvC hd)) (mvC hd) (by rfl) rfl rfl rfl HZ (by kernel_rfl) (show (3 : Nat) ≤ 3 from Nat.le_refl 3) (by rfl) (st_whole _ _ rfl) ?_; intro w5 HA5 b5 g5))
      (try simp only [Exit.inBlock, Exit.then]); refine bodyPost_ret (results_none rfl _ _ _) rfl ?_
      have b35 := b3.trans b5
      exact ⟨⟨_, rfl⟩, HEN.out st' w5 hEE.out (HR2.below b35) (grown_belowT g2 b35)⟩

end Go.Proofs.YtdjljnpbnhampaaDoor

namespace Go.Proofs.YtdjljnpbnhampaaDoor
open Go.RowKit
set_option linter.unusedVariables false
set_option maxRecDepth 100000

/-- Objects that reading never writes. -/
def okO (o : Obj) : Prop := ∀ C T F, o = Obj.cells C T F → T = 112 ∨ T = 3

theorem okO_loop (r : Loop) : okO (.loop r) := fun _ _ _ h => by cases h

theorem okO_mark (d : Option (List Deferred)) : okO (.deferred d) := fun _ _ _ h => by cases h

theorem okO_rd (v : Value) : okO (.cells #[v] 112 (0, 0)) := fun _ _ _ h => by cases h; exact Or.inl rfl

theorem okO_int (v : Value) : okO (.cells #[v] 3 (0, 0)) := fun _ _ _ h => by cases h; exact Or.inr rfl

structure MvW (obs : List (Nat × Obj)) (w0 W : World) : Prop where
  be : Below w0.heap.size w0 W
  ob : ∀ p ∈ obs, W.heap[p.1]? = some p.2 ∧ okO p.2

theorem MvW.of {obs : List (Nat × Obj)} {w0 W W' : World} (h : MvW obs w0 W) (hb : Below W.heap.size W W') : MvW obs w0 W' := ⟨h.be.trans (hb.mono h.be.size), fun p hp => ⟨loop_below (h.ob p hp).1 hb, (h.ob p hp).2⟩⟩

theorem MvW.grown {obs : List (Nat × Obj)} {w0 W W' : World} {B : Nat} {T : TypeId} {C : Array Value} (h : MvW obs w0 W) (hg : W.grownBy W' (some B)) (hB : Blk W B T C) (h1 : T ≠ 112) (h2 : T ≠ 3) (hw : w0.heap.size ≤ B) : MvW obs w0 W' :=
  ⟨h.be.grown hg h.be.size (fun k e => by cases e; exact hw), fun p hp => ⟨by
    obtain ⟨hk, ho⟩ := h.ob p hp
    refine (hg.block p.1 (Array.getElem?_eq_some_iff.1 hk).1 ?_).trans hk
    intro e
    have e : p.1 = B := by simpa using e
    have q : W.heap[B]? = some (.cells C T (0, 0)) := hB
    rw [e, q] at hk
    injection hk with hk
    rcases ho _ _ _ hk.symm with r | r
    · exact h1 r
    · exact h2 r, (h.ob p hp).2⟩⟩

theorem MvW.put {obs : List (Nat × Obj)} {w0 W : World} {l : Nat} {o : Obj} (o' : Obj) (h : MvW obs w0 W) (hl : w0.heap.size ≤ l) (hk : W.heap[l]? = some o) (hno : ∀ p ∈ obs, p.1 ≠ l) : MvW obs w0 (W.putObj l o') :=
  ⟨h.be.trans (belowPut o' hl hk), fun p hp => ⟨(World.putObj_heap_other (hno p hp)).trans (h.ob p hp).1, (h.ob p hp).2⟩⟩

theorem MvW.cons {obs : List (Nat × Obj)} {w0 W : World} {k : Nat} {o : Obj} (h : MvW obs w0 W) (hk : W.heap[k]? = some o) (ho : okO o) : MvW ((k, o) :: obs) w0 W := ⟨h.be, fun p hp => by
  rcases List.mem_cons.1 hp with rfl | hp
  · exact ⟨hk, ho⟩
  · exact h.ob p hp⟩

theorem MvW.tail {p : Nat × Obj} {obs : List (Nat × Obj)} {w0 W : World} (h : MvW (p :: obs) w0 W) : MvW obs w0 W := ⟨h.be, fun q hq => h.ob q (List.mem_cons_of_mem _ hq)⟩

theorem MvW.head {k : Nat} {o : Obj} {obs : List (Nat × Obj)} {w0 W : World} (h : MvW ((k, o) :: obs) w0 W) : W.heap[k]? = some o := (h.ob (k, o) List.mem_cons_self).1

/-- The loop's record is another. -/
theorem MvW.turn {l : Nat} {r r' : Loop} {obs : List (Nat × Obj)} {w0 W : World} (h : MvW ((l, .loop r) :: obs) w0 W) (hl : w0.heap.size ≤ l) (hno : ∀ p ∈ obs, p.1 ≠ l) : MvW ((l, .loop r') :: obs) w0 (W.putObj l (.loop r')) :=
  (h.tail.put _ hl h.head hno).cons (World.putObj_heap_same (Array.getElem?_eq_some_iff.1 h.head).1) (okO_loop r')

theorem rd_blk {w : World} {g : Nat} {s : ByteArray} {off : Nat} {st : RSt} (h : RdT w g s off st) : ∃ C, Blk w g 160 C := by
  obtain ⟨f, hr, _⟩ := h
  exact ⟨_, hr⟩

theorem MvW.reads {obs : List (Nat × Obj)} {w0 W W' : World} {g : Nat} {s : ByteArray} {st : RSt} (h : MvW obs w0 W) (hr : RdT W g s 0 st) (hg : W.grownBy W' (some g)) (hw : w0.heap.size ≤ g) : MvW obs w0 W' := by
  obtain ⟨C, hB⟩ := rd_blk hr
  exact h.grown hg hB (by decide) (by decide) hw

theorem rdT_keepC {w w' : World} {g : Nat} {s : ByteArray} {off : Nat} {st : RSt} (h : RdT w g s off st) (hk : KeepC w w') : RdT w' g s off st := by
  obtain ⟨f, hr, hf⟩ := h
  refine ⟨f, hk.same _ _ _ _ hr, ?_⟩
  rcases hf with hf | ⟨he, q, hq, hf⟩
  · exact Or.inl hf
  · exact Or.inr ⟨he, q, hq, hk.same _ _ _ _ hf⟩

theorem OwnMh.keepC {w w' : World} {base : Nat} {v : Value} {l : List MvH} (h : OwnMh w base v l) (hk : KeepC w w') : OwnMh w' base v l := by
  rcases h with h | ⟨h1, g, cap, rfl, h2⟩
  · exact Or.inl h
  · exact Or.inr ⟨h1, g, cap, rfl, hk.owns h2⟩

theorem OwnIv.keepC {w w' : World} {base : Nat} {v : Value} {l : List Int} (h : OwnIv w base v l) (hk : KeepC w w') : OwnIv w' base v l := by
  rcases h with h | ⟨h1, g, cap, rfl, h2⟩
  · exact Or.inl h
  · exact Or.inr ⟨h1, g, cap, rfl, hk.owns h2⟩

/-- Attributes of one's own, each with its events. -/
structure OwnAs (w : World) (base : Nat) (v : Value) (hs : List MvH) : Prop where
  row : OwnMh w base v hs
  ev : ∀ h ∈ hs, OwnIv w base (.slice h.a h.x.ev.length h.c) h.x.ev

theorem OwnAs.nil (w : World) (base : Nat) : OwnAs w base (.slice none 0 0) [] := ⟨OwnMh.nil w base, by simp⟩

theorem OwnAs.keepC {w w' : World} {base : Nat} {v : Value} {hs : List MvH} (h : OwnAs w base v hs) (hk : KeepC w w') : OwnAs w' base v hs := ⟨h.row.keepC hk, fun x hx => (h.ev x hx).keepC hk⟩

theorem OwnAs.kept {w w' : World} {base : Nat} {v : Value} {hs : List MvH} (h : OwnAs w base v hs) (hb : Below w.heap.size w w') : OwnAs w' base v hs := h.keepC (KeepC.of hb)

theorem OwnAs.grown {w w' : World} {base : Nat} {v : Value} {hs : List MvH} {g : Nat} (h : OwnAs w base v hs) (hg : w.grownBy w' (some g)) (hlt : g < base) : OwnAs w' base v hs :=
  ⟨h.row.grown hg (fun q e => by cases e; exact hlt), fun x hx => (h.ev x hx).grown hg (fun q e => by cases e; exact hlt)⟩

theorem OwnAs.other {w w' : World} {base B : Nat} {v : Value} {hs : List MvH} {T : TypeId} {C : Array Value} (h : OwnAs w base v hs) (hB : Blk w B T C) (h1 : T ≠ 92) (h2 : T ≠ 3) (hg : w.grownBy w' (some B)) : OwnAs w' base v hs :=
  ⟨h.row.other hB h1 hg, fun x hx => (h.ev x hx).other hB h2 hg⟩

theorem OwnAs.mono {w : World} {base b : Nat} {v : Value} {hs : List MvH} (h : OwnAs w base v hs) (hb : b ≤ base) : OwnAs w b v hs := ⟨h.row.mono hb, fun x hx => (h.ev x hx).mono hb⟩

theorem mh_blk {w w' : World} {v : Value} {l : List MvH} {base B : Nat} {T : TypeId} {C : Array Value} (hO : OwnMh w base v l) (hg : w.grownBy w' v.ownBlock) (h : Blk w B T C) (hT : T ≠ 92) : Blk w' B T C := by
  rcases hO.blk with e | ⟨g, C2, e, _, hB⟩
  · rw [e] at hg
    exact h.grown hg (by simp)
  · rw [e] at hg
    refine h.grown hg ?_
    intro e2
    obtain rfl : B = g := by simpa using e2
    have h1 : w.heap[B]? = some (.cells C T (0, 0)) := h
    have h2 : w.heap[B]? = some (.cells C2 92 (0, 0)) := hB
    rw [h1] at h2
    injection h2 with h2
    injection h2 with _ h2
    exact hT h2

theorem below_of_none {w w' : World} (hg : w.grownBy w' none) : Below w.heap.size w w' := ⟨hg.os, hg.tape, hg.output, hg.size, fun k hk => hg.block k hk (by simp)⟩

theorem mh_rd {w w' : World} {v : Value} {l : List MvH} {base gr off : Nat} {s : ByteArray} {st : RSt} (hO : OwnMh w base v l) (hg : w.grownBy w' v.ownBlock) (h : RdT w gr s off st) : RdT w' gr s off st := by
  rcases hO.blk with e | ⟨g, C, e, _, hB⟩
  · rw [e] at hg
    exact h.below (below_of_none hg)
  · rw [e] at hg
    exact h.other hB (by decide) (by decide) hg

theorem mh_iv {w w' : World} {v u : Value} {l : List MvH} {m : List Int} {base B : Nat} (hO : OwnMh w base v l) (hg : w.grownBy w' v.ownBlock) (h : OwnIv w B u m) : OwnIv w' B u m := by
  rcases hO.blk with e | ⟨g, C, e, _, hB⟩
  · rw [e] at hg
    exact h.kept (below_of_none hg)
  · rw [e] at hg
    exact h.other hB (by decide) hg

theorem mh_W {w0 w w' : World} {v : Value} {l : List MvH} {base : Nat} {obs : List (Nat × Obj)} (hO : OwnMh w base v l) (hg : w.grownBy w' v.ownBlock) (h : MvW obs w0 w) (hb : w0.heap.size ≤ base) : MvW obs w0 w' := by
  rcases hO.blk with e | ⟨g, C, e, hge, hB⟩
  · rw [e] at hg
    exact h.of (below_of_none hg)
  · rw [e] at hg
    exact h.grown hg hB (by decide) (by decide) (by omega)

/-- In a round: one comes behind. -/
theorem appendR_mh {F : Fence} {n : Nat} {ops : Array Oper} {rest : List Oper} {o : Oper} {a : Act} {w : World} {Q : Exit → Act → World → Prop} {s x : Operand} {base G : Nat} {v : Value} {l : List MvH} (y : MvH) (hg : o.guard = none)
    (ho : o.op = .call { callee := .builtin .append, args := #[s, x], argTypes := #[69, 69] }) (hs : a.eval s = v) (hx : a.eval x = .slice (some ⟨G, 0, none⟩) 1 1)
    (hO : OwnMh w base v l) (hG : Blk w G 92 (mvC y)) (hlen : l.length ≤ 100000) (hbase : base ≤ w.heap.size)
    (h : ∀ v' w', OwnMh w' base v' (l ++ [y]) → w.grownBy w' v.ownBlock → wpListIn F n Tryd.prog ops Q rest (a.put o.dst v') w') : wpListIn F n Tryd.prog ops Q (o :: rest) a w := by
  obtain ⟨i0, hi, hz0, hz1, hz2⟩ := info_parts Tryd.mhParts
  have hnews : ∀ (j : Nat) u, (mvC y).toList[j]? = some u → w.cell? ((⟨G, 0, none⟩ : Addr).add j) = some u := fun j u hu => by
    rw [Addr.add_lit, Nat.zero_add]
    exact hG.cv j u (by simpa using hu)
  have hnb : ∀ {v' : Value} {w' : World} {k : Nat} {xs : List Value}, w'.ownsRow base 92 3 v' (k + 1) xs → ∃ g cap, v' = .slice (some ⟨g, 0, none⟩) (k + 1) cap := fun h => ownsRow_succ h
  rcases hO with ⟨rfl, rfl⟩ | ⟨hne, g, cap, rfl, hown⟩
  · refine wpListIn_append_own w hg s x _ ho base 92 i0 (.agg (mvC zMvH)) 3 40 Tryd.underlying69 hi hz0 hz1 hz2 rfl (by decide) (.slice none 0 0) 0 [] hs (World.ownsRow_nil w base _ 3) ⟨G, 0, none⟩ 1 1 (mvC y).toList hx rfl hnews (mvC_cells y) (by unfold maxLen; omega) (by decide) hbase ?_
    intro v' w' hown hgrow _
    obtain ⟨g, cap, rfl⟩ := hnb hown
    refine h _ _ (Or.inr ⟨by simp, g, cap, rfl, ?_⟩) hgrow
    rw [List.nil_append, mvR_one]
    exact hown
  · refine wpListIn_append_own w hg s x _ ho base 92 i0 (.agg (mvC zMvH)) 3 40 Tryd.underlying69 hi hz0 hz1 hz2 rfl (by decide) (.slice (some ⟨g, 0, none⟩) l.length cap) l.length (mvR l) hs hown ⟨G, 0, none⟩ 1 1 (mvC y).toList hx rfl hnews (mvC_cells y) (by unfold maxLen; omega) (by omega) hbase ?_
    intro v' w' hown2 hgrow _
    obtain ⟨g', cap', rfl⟩ := hnb hown2
    refine h _ _ (Or.inr ⟨by simp, g', cap', by rw [List.length_append]; rfl, ?_⟩) hgrow
    rw [mvR_snoc, List.length_append]
    exact hown2

theorem sliceR_mh {F : Fence} {n : Nat} {ops : Array Oper} {rest : List Oper} {o : Oper} {a : Act} {w : World} {Q : Exit → Act → World → Prop} {x : Operand} (y : MvH) (hw : Region.wanted o (yielded ops a.tmps) = true) (ho : o.op = .buildSlice 69 1 #[(0, x)]) (hx : a.eval x = .agg (mvC y))
    (h : ∀ w1, Blk w1 w.heap.size 92 (mvC y) → Below w.heap.size w w1 → wpListIn F n Tryd.prog ops Q rest (a.put o.dst (.slice (some ⟨w.heap.size, 0, none⟩) 1 1)) w1) : wpListIn F n Tryd.prog ops Q (o :: rest) a w := by
  obtain ⟨i0, hi, hz0, hz1, hz2⟩ := info_parts Tryd.mhParts
  refine sliceR 69 92 1 _ hw ho (mvC y) i0 (.agg (mvC zMvH)) Tryd.underlying69 hi hz0 (by rw [hz1]; decide) (by rw [hz1]; decide) (by rw [hz1]; simp only [List.map_toArray, List.map_cons, List.map_nil, hx]; exact fill_mh y) (h _ (Blk.new w _ _) ((Below.refl _ _).alloc (Nat.le_refl _) _))

/-- What is read, and what is wrong. -/
def MvR.recs : MvR → List Mv
  | .bad _ _ => []
  | .ok l => l

def MvR.er : MvR → Int
  | .bad e _ => e
  | .ok _ => 0

def MvR.pl : MvR → Int
  | .bad _ p => p
  | .ok _ => -1

theorem xs_snoc (hs : List MvH) (h : MvH) : xs (hs ++ [h]) = xs hs ++ [h.x] := by simp [xs]

end Go.Proofs.YtdjljnpbnhampaaDoor

namespace Go.Proofs.YtdjljnpbnhampaaDoor
open Go.RowKit
attribute [local go_sem ↓] Go.wp_at_zero Go.wp_at_succ
attribute [local go_sem] Oper.semAt_some
set_option linter.unusedSimpArgs false
set_option linter.unusedVariables false
set_option maxRecDepth 100000

/-- Between two messages, or in one that begins at m: the reader, the list in its box. -/
structure MvSt (S : ByteArray) (R : MvR) (g bl base : Nat) (mo : Option Nat) (st : RSt) (v : Value) (hs : List MvH) (W : World) : Prop where
  inv : MvI S.data.toList R mo st (xs hs)
  rd : RdT W g S 0 st
  box : Blk W bl 69 #[v]
  own : OwnAs W base v hs
  bs : base ≤ W.heap.size

theorem MvSt.keepC {S : ByteArray} {R : MvR} {g bl base : Nat} {mo : Option Nat} {st : RSt} {v : Value} {hs : List MvH} {W W' : World} (h : MvSt S R g bl base mo st v hs W) (hk : KeepC W W') : MvSt S R g bl base mo st v hs W' :=
  ⟨h.inv, rdT_keepC h.rd hk, hk.blk h.box, h.own.keepC hk, Nat.le_trans h.bs hk.size⟩

theorem MvSt.of {S : ByteArray} {R : MvR} {g bl base : Nat} {mo : Option Nat} {st : RSt} {v : Value} {hs : List MvH} {W W' : World} (h : MvSt S R g bl base mo st v hs W) (hb : Below W.heap.size W W') : MvSt S R g bl base mo st v hs W' := h.keepC (KeepC.of hb)

/-- The reader has read on. -/
theorem MvSt.reads {S : ByteArray} {R : MvR} {g bl base : Nat} {mo mo' : Option Nat} {st st' : RSt} {v : Value} {hs : List MvH} {W W' : World} (h : MvSt S R g bl base mo st v hs W) (hg : W.grownBy W' (some g)) (hr : RdT W' g S 0 st') (hlt : g < base) (hI : MvI S.data.toList R mo' st' (xs hs)) : MvSt S R g bl base mo' st' v hs W' := by
  obtain ⟨C, hB⟩ := rd_blk h.rd
  exact ⟨hI, hr, h.box.reads h.rd (by decide) hg, h.own.grown hg hlt, Nat.le_trans h.bs hg.size⟩

theorem at_end_mono {S : List UInt8} {st st' : RSt} (h : AtEnd S (nxA S st) st') : st'.2.1 ≠ 0 ∨ (st.2.1 = 0 ∧ st.1 ≤ st'.1) := by
  obtain ⟨_, ⟨q, hA, rfl⟩ | ⟨z, z1, _, _⟩⟩ := h
  · unfold nxA at hA
    by_cases c : st.2.1 ≠ 0
    · rw [if_pos c] at hA; cases hA
    · rw [if_neg c] at hA
      obtain ⟨_, _, hq⟩ := at_fin hA
      exact Or.inr ⟨by simpa using c, by show st.1 ≤ q; omega⟩
  · exact Or.inl z1

theorem mv_rdLeft {S : ByteArray} {g n : Nat} {st st' : RSt} {W W' : World} (h : RdT W g S 0 st) (h' : RdT W' g S 0 st') (h0 : st.2.1 = 0) (hn : st.1 ≤ n) (hlt : st'.2.1 ≠ 0 ∨ st.1 < st'.1) : rdLeft n W' g < rdLeft n W g := by
  obtain ⟨p, e, x⟩ := st
  obtain ⟨p', e', x'⟩ := st'
  obtain rfl : e = 0 := h0
  rw [rdLeft_ok h]
  have hn : p ≤ n := hn
  rcases hlt with q | q
  · rw [rdLeft_bad h' q]; omega
  · by_cases q2 : e' = 0
    · subst q2
      rw [rdLeft_ok h']
      have q : p < p' := q
      omega
    · rw [rdLeft_bad h' q2]; omega

/-- Between two attributes. -/
def MvJ (S : ByteArray) (R : MvR) (g bl base : Nat) (mo : Option Nat) (p : Nat) (obs : List (Nat × Obj)) (w0 : World) (st : RSt) (W : World) : Prop := ∃ v hs, MvSt S R g bl base mo st v hs W ∧ MvW obs w0 W ∧ (st.2.1 ≠ 0 ∨ p < st.1)

/-- Behind a round. -/
def MvNx (J : RSt → World → Prop) (n g : Nat) (W3 W' : World) : Prop := ∃ st, J st W' ∧ rdLeft n W' g < rdLeft n W3 g

theorem yield_nx {F : Fence} {m l : Nat} {args : Array Value} {W W3 : World} {J : RSt → World → Prop} {n g : Nat} (h : YieldAt F m Tryd.prog l args W fun e W' => e = .returned (.bool true) ∧ MvNx J n g W3 W') :
    YieldAt F m Tryd.prog l args W fun e W' => e = .returned (.bool true) ∧ ∃ st, J st W' ∧ rdLeft n W' g < rdLeft n W3 g := YieldAt.mono h (fun _ _ q => q)

/-- Between two messages. -/
def MvO (S : ByteArray) (R : MvR) (g bl base : Nat) (obs : List (Nat × Obj)) (w0 : World) (st : RSt) (W : World) : Prop := ∃ v hs, MvSt S R g bl base none st v hs W ∧ MvW obs w0 W

set_option maxHeartbeats 25600000 in
theorem mvRead_any (S : ByteArray) (w : World) (hS : S.size ≤ 100000) :
    Calls Tryd.prog 12 #[.string S] w fun e w' => ∃ v er hs, e = .returned (.tuple #[v, er]) ∧ xs hs = (rdMvs S.data.toList).recs ∧ OwnAs w' w.heap.size v hs ∧ ErrAs w' er (rdMvs S.data.toList).er (rdMvs S.data.toList).pl ∧ Below w.heap.size w w' := by
  have hls : S.data.toList.length = S.size := by simp
  have hb : S.size ≤ 281474976710656 := by omega
  obtain ⟨R, hR⟩ : ∃ R, rdMvs S.data.toList = R := ⟨_, rfl⟩
  have hI0 := mv_start S.data.toList
  rw [hR] at hI0 ⊢
  clear hR
  refine calls_of_marks Tryd.func12 rfl ?_
  simp only [Tryd.ntmps12, List.size_toArray, List.length_cons, List.length_nil, Nat.reduceAdd, Nat.reduceSub, Array.replicate_succ, Array.replicate_zero, List.push_toArray, List.append_toArray, List.nil_append, List.cons_append]
  go_wp2_with fail
  refine (new_t S 0 _).mono ?_
  rintro e w1 ⟨rfl, HR1, b1⟩
  obtain ⟨g, hg⟩ : ∃ g, w.heap.size = g := ⟨_, rfl⟩
  rw [hg] at HR1 b1
  have hg1 := HR1.lt
  have HX3 := Blk.new w1 112 #[.pointer (some ⟨g, 0, none⟩)]
  have b3 : Below w1.heap.size w1 (w1.alloc (.cells #[.pointer (some ⟨g, 0, none⟩)] 112)) := (Below.refl _ _).alloc (Nat.le_refl _) _
  have HR3 := HR1.below b3
  have hgb : g < w1.heap.size := hg1
  obtain ⟨base, hbase⟩ : ∃ base, w1.heap.size = base := ⟨_, rfl⟩
  rw [hbase] at HX3 b3 hgb
  have B3 : Below g w (w1.alloc (.cells #[.pointer (some ⟨g, 0, none⟩)] 112)) := b1.trans (b3.mono (Nat.le_of_lt hgb))
  have hs3 : base ≤ (w1.alloc (.cells #[.pointer (some ⟨g, 0, none⟩)] 112)).heap.size := by rw [World.size_alloc, hbase]; omega
  go_upto_region 2 with (fail)
  generalize w1.alloc (.cells #[.pointer (some ⟨g, 0, none⟩)] 112) = w3 at *
  have c3 := HX3.cv 0 (.pointer (some ⟨g, 0, none⟩)) rfl
  have HEX := Lib.hid (exp_t ⟨#[0]⟩ (by decide) (0, 0, -1) w3 HR3 (Nat.zero_le _) (by omega))
  go_wp2_with fail
  refine HEX.out.mono ?_
  rintro e w4 ⟨rfl, HR4, g4⟩
  have HR4 : RdT w4 g S 0 (exS S.data.toList (0, 0, -1) [0]) := HR4
  have HX4 := HX3.reads HR3 (by decide) g4
  have B4 : Below g w w4 := grown_belowA B3 g4 (by omega) (Nat.le_refl _)
  have hs4 : base ≤ w4.heap.size := Nat.le_trans hs3 g4.size
  generalize exS S.data.toList (0, 0, -1) [0] = st0 at *
  have hBL := Blk.new w4 69 #[.slice none 0 0]
  have b5 : Below w4.heap.size w4 (w4.alloc (.cells #[.slice none 0 0] 69)) := (Below.refl _ _).alloc (Nat.le_refl _) _
  have hs5 : (w4.alloc (.cells #[.slice none 0 0] 69)).heap.size = w4.heap.size + 1 := by simp
  have HX5 := HX4.kept b5
  have HR5 := HR4.below b5
  have B5 := B4.trans (b5.mono (by omega))
  have hbr4 := HX4.lt
  clear HEX HR3 HX3 b3 B3 c3 g4 HX4 HR4 B4 HR1 b1 hg1
  go_upto_region 4 with (fail)
  obtain ⟨bl, hbl⟩ : ∃ bl, w4.heap.size = bl := ⟨_, rfl⟩
  rw [hbl] at hBL hs5 hbr4 hs4
  have hlt5 : bl < (w4.alloc (.cells #[.slice none 0 0] 69)).heap.size := by rw [hs5]; omega
  clear hs5
  generalize w4.alloc (.cells #[.slice none 0 0] 69) = w5 at *
  have c5 := HX5.cv 0 (.pointer (some ⟨g, 0, none⟩)) rfl
  have HMS := Lib.hid (messages_any g w5)
  go_wp2_with fail
  refine HMS.out.mono ?_
  rintro e w6 ⟨rfl, HM6, b6, hs6⟩
  have hlt6 : w5.heap.size < w6.heap.size := by rw [hs6]; omega
  clear hs6
  have HX6 := HX5.kept b6
  have HR6 := HR5.below b6
  have HL6 := hBL.kept b6
  have B6 := B5.trans (b6.mono (by omega))
  clear HMS HX5 HR5 hBL B5 b6 c5 b5
  go_wp2_with fail
  obtain ⟨b1, hb1⟩ : ∃ b1, w5.heap.size = b1 := ⟨_, rfl⟩
  rw [hb1] at HM6 hlt5 hlt6 ⊢
  refine rf_outer rfl (enters_of Tryd.func87 (by kernel_rfl) rfl) ?_
  intro fn RL W hRL HL HD bW hW
  obtain ⟨D, hD⟩ : ∃ D, w6.heap.size = D := ⟨_, rfl⟩
  have hsW : w6.heap.size ≤ W.heap.size := bW.size
  have hMW : MvW [(D + 1, .loop (RL .ready)), (base, .cells #[.pointer (some ⟨g, 0, none⟩)] 112 (0, 0)), (b1, .cells #[.pointer (some ⟨g, 0, none⟩)] 112 (0, 0)), (D, .deferred (some []))] w W := by
    have q0 : MvW [] w W := ⟨by rw [hg]; exact B6.trans (bW.mono (by omega)), by simp⟩
    rw [hD] at HL HD
    exact (((q0.cons HD (okO_mark _)).cons (HM6.kept bW) (okO_rd _)).cons (HX6.kept bW) (okO_rd _)).cons HL (okO_loop _)
  have hST : MvSt S R g bl base none st0 (.slice none 0 0) [] W := ⟨hI0, HR6.below bW, HL6.kept bW, OwnAs.nil _ _, by omega⟩
  have hno : ∀ p ∈ [(base, Obj.cells #[.pointer (some ⟨g, 0, none⟩)] 112 (0, 0)), (b1, .cells #[.pointer (some ⟨g, 0, none⟩)] 112 (0, 0)), (D, .deferred (some []))], p.1 ≠ D + 1 := by
    intro p hp
    simp only [List.mem_cons, List.not_mem_nil, or_false] at hp
    rcases hp with rfl | rfl | rfl
    · show base ≠ D + 1; rw [hD] at hlt6; omega
    · show b1 ≠ D + 1; rw [hD] at hlt6; omega
    · show D ≠ D + 1; omega
  have hbD : base < D ∧ bl < D ∧ b1 < D := by rw [hD] at hlt6; omega
  rw [hD]
  clear HL HD bW HM6 HX6 HR6 HL6 hI0 B6
  have hgw : w.heap.size ≤ g := Nat.le_of_eq hg
  rw [hD] at hlt6
  clear hb1 hD hW hsW
  have HIT : Calls Tryd.prog 87 #[.func (.yield (D + 1)) #[] #[], .pointer (some ⟨b1, 0, none⟩)] W fun e W2 => (∃ v, e = .returned v) ∧ ∃ z v hs, MvEnd R (zrR S.data.toList 0 z) (xs hs) ∧ z.1 ≤ S.size ∧ RdT W2 g S 0 z ∧ Blk W2 bl 69 #[v] ∧ OwnAs W2 base v hs ∧
      MvW [(D + 1, .loop (RL .ready)), (base, .cells #[.pointer (some ⟨g, 0, none⟩)] 112 (0, 0)), (b1, .cells #[.pointer (some ⟨g, 0, none⟩)] 112 (0, 0)), (D, .deferred (some []))] w W2 := by
    have HI := messages_it (l := D + 1) (b1 := b1) hb (MvO S R g bl base [(D + 1, .loop (RL .ready)), (base, .cells #[.pointer (some ⟨g, 0, none⟩)] 112 (0, 0)), (b1, .cells #[.pointer (some ⟨g, 0, none⟩)] 112 (0, 0)), (D, .deferred (some []))] w)
      (fun st W ⟨v, hs, h1, h2⟩ => ⟨h1.rd, by rw [← hls]; exact h1.inv.1, h2.tail.tail.head⟩) ?body st0 W ⟨_, _, hST, hMW⟩
    case body =>
      intro st W0 W ⟨v, hs, h1, h2⟩ hmv hrW gW
      obtain ⟨hI2, hs0, hlt⟩ := (head_round _ _ _ _ h1.inv).1 hmv
      have hst1 : st.1 ≤ S.size := by rw [← hls]; exact h1.inv.1
      have HMS := fun (W' : World) (st' : RSt) (h' : RdT W' g S 0 st') (hq : st'.2.1 ≠ 0 ∨ st.1 < st'.1) => mv_rdLeft (n := S.size) h1.rd h' hs0 hst1 hq
      have h3 : MvSt S R g bl base (some st.1) (mhS S.data.toList st) v hs W := h1.reads gW hrW hgb hI2
      have h4 := h2.reads h1.rd gW hgw
      have hMS := Lib.hid HMS
      have hgW := gW.size
      clear h1 h2 hmv gW hrW hI2 HMS
      generalize mhS S.data.toList st = st2 at *
      generalize st.1 = p at *
      refine yield_nx (yield_of hRL h4.head rfl ?_)
      have hBa := Blk.new W 3 #[.int .i64 (p : Nat)]
      have bA : Below W.heap.size W (W.alloc (.cells #[.int .i64 (p : Nat)] 3)) := (Below.refl _ _).alloc (Nat.le_refl _) _
      have h5 := (h4.of bA).tail.cons hBa (okO_int _)
      have h5H := Lib.hid (h4.of bA).head
      have h3a := h3.of bA
      obtain ⟨ba, hba⟩ : ∃ ba, W.heap.size = ba := ⟨_, rfl⟩
      have hDba : D + 1 < ba := by rw [← hba]; exact (Array.getElem?_eq_some_iff.1 h4.head).1
      rw [hba] at h5
      gi_wp2
      generalize hWa : W.alloc (.cells #[.int .i64 (p : Nat)] 3) = Wa at *
      have h5L := h5H.out
      clear h5H
      refine ⟨h5L, ?_⟩
      have h6 := (h5.cons h5L (okO_loop _)).turn (r' := RL .busy) (by rw [hg]; omega) (by
        intro q hq
        rcases List.mem_cons.1 hq with rfl | hq
        · show ba ≠ D + 1; omega
        · exact hno q hq)
      have h3b := h3a.keepC (KeepC.putLoop (.loop (RL .busy)) h5L)
      have hWs : W.heap.size < (Wa.putObj (D + 1) (.loop (RL .busy))).heap.size := by rw [World.putObj_size, ← hWa, World.size_alloc]; omega
      rw [hba] at hWs
      clear hWa hBa bA h5 h5L h3a h3 h4
      generalize Wa.putObj (D + 1) (.loop (RL .busy)) = Wb at *
      have cB := (show Blk Wb base 112 #[.pointer (some ⟨g, 0, none⟩)] from h6.tail.tail.head).cv 0 (.pointer (some ⟨g, 0, none⟩)) rfl
      have HAT := Lib.hid (attrs_any g Wb)
      gi_wp2_with (refine ⟨trivial, rfl, ?_⟩; gi_at_call 60; refine (CallsIn.inRound (D + 1) (callsIn_wide.2 HAT.out)).mono ?_; rintro e Wc ⟨rfl, HB2, bC, hsC⟩)
      have h7 := h6.of bC
      have h3c := h3b.of bC
      obtain ⟨b2, hb2⟩ : ∃ b2, Wb.heap.size = b2 := ⟨_, rfl⟩
      rw [hb2] at HB2 hWs ⊢
      have hbc : b2 < Wc.heap.size := by rw [hsC, hb2]; omega
      clear hsC cB HAT bC h6 h3b
      refine rf_inner h7.head rfl (enters_of Tryd.func89 (by kernel_rfl) rfl) ?_
      intro fn2 RL2 W2 hRL2 HL2 bW2 hW2
      obtain ⟨L2, hL2⟩ : ∃ L2, Wc.heap.size = L2 := ⟨_, rfl⟩
      rw [hL2] at HL2 hbc ⊢
      have h8 : MvW (((L2, .loop (RL2 .ready)) :: (ba, .cells #[.int .i64 (p : Nat)] 3 (0, 0)) :: (b2, .cells #[.pointer (some ⟨g, 0, none⟩)] 112 (0, 0)) :: [(D + 1, .loop (RL .busy)), (base, .cells #[.pointer (some ⟨g, 0, none⟩)] 112 (0, 0)), (b1, .cells #[.pointer (some ⟨g, 0, none⟩)] 112 (0, 0)), (D, .deferred (some []))])) w W2 := by
        have q := ((h7.of bW2).tail.tail.cons ((h7.of bW2).head) (okO_loop _))
        exact ((q.cons (HB2.kept bW2) (okO_rd _)).cons ((h7.of bW2).tail.head) (okO_int _)).cons HL2 (okO_loop _)
      have h3d := h3c.of bW2
      have hno2 : ∀ q ∈ ((ba, Obj.cells #[.int .i64 (p : Nat)] 3 (0, 0)) :: (b2, .cells #[.pointer (some ⟨g, 0, none⟩)] 112 (0, 0)) :: [(D + 1, .loop (RL .busy)), (base, .cells #[.pointer (some ⟨g, 0, none⟩)] 112 (0, 0)), (b1, .cells #[.pointer (some ⟨g, 0, none⟩)] 112 (0, 0)), (D, .deferred (some []))]), q.1 ≠ L2 := by
        intro q hq
        simp only [List.mem_cons, List.not_mem_nil, or_false] at hq
        rcases hq with rfl | rfl | rfl | rfl | rfl | rfl
        · show ba ≠ L2; omega
        · show b2 ≠ L2; omega
        · show D + 1 ≠ L2; omega
        · show base ≠ L2; omega
        · show b1 ≠ L2; omega
        · show D ≠ L2; omega
      clear HL2 bW2 h7 h3c HB2 hL2 hW2 hb2 hba
      have HIN : Calls Tryd.prog 89 #[.func (.yield L2) #[] #[], .pointer (some ⟨b2, 0, none⟩)] W2 fun e W3 => (∃ v, e = .returned v) ∧ ∃ st3 v hs, MvSt S R g bl base none st3 v hs W3 ∧ MvW (((L2, .loop (RL2 .ready)) :: (ba, .cells #[.int .i64 (p : Nat)] 3 (0, 0)) :: (b2, .cells #[.pointer (some ⟨g, 0, none⟩)] 112 (0, 0)) :: [(D + 1, .loop (RL .busy)), (base, .cells #[.pointer (some ⟨g, 0, none⟩)] 112 (0, 0)), (b1, .cells #[.pointer (some ⟨g, 0, none⟩)] 112 (0, 0)), (D, .deferred (some []))])) w W3 ∧ (st3.2.1 ≠ 0 ∨ p < st3.1) := by
        refine attrs_it (l := L2) (b1 := b2) hb (MvJ S R g bl base (some p) p (((L2, .loop (RL2 .ready)) :: (ba, .cells #[.int .i64 (p : Nat)] 3 (0, 0)) :: (b2, .cells #[.pointer (some ⟨g, 0, none⟩)] 112 (0, 0)) :: [(D + 1, .loop (RL .busy)), (base, .cells #[.pointer (some ⟨g, 0, none⟩)] 112 (0, 0)), (b1, .cells #[.pointer (some ⟨g, 0, none⟩)] 112 (0, 0)), (D, .deferred (some []))])) w) (fun W3 => ∃ st3 v hs, MvSt S R g bl base none st3 v hs W3 ∧ MvW (((L2, .loop (RL2 .ready)) :: (ba, .cells #[.int .i64 (p : Nat)] 3 (0, 0)) :: (b2, .cells #[.pointer (some ⟨g, 0, none⟩)] 112 (0, 0)) :: [(D + 1, .loop (RL .busy)), (base, .cells #[.pointer (some ⟨g, 0, none⟩)] 112 (0, 0)), (b1, .cells #[.pointer (some ⟨g, 0, none⟩)] 112 (0, 0)), (D, .deferred (some []))])) w W3 ∧ (st3.2.1 ≠ 0 ∨ p < st3.1))
          (fun st W ⟨v, hs, k1, k2, k3⟩ => ⟨k1.rd, k2.tail.tail.head⟩) ?_ st2 W2 ⟨v, hs, h3d, h8, Or.inr hlt⟩
        clear h3d h8
        intro st3 W3 ⟨v, hs, k1, k2, k3⟩
        obtain ⟨a1, a2, a3⟩ := attr_round _ _ _ _ _ k1.inv
        refine ⟨_, a1, ?_, ?_⟩
        · intro hd st' W4 hO h0 HOv hr4 g4
          obtain ⟨hI', hs0', hlt', hl40⟩ := a3 hd.x st' hO h0
          have hst3 : st3.1 ≤ S.size := by rw [← hls]; exact k1.inv.1
          have HMS := Lib.hid (fun (W' : World) (st'' : RSt) (h' : RdT W' g S 0 st'') (hq : st''.2.1 ≠ 0 ∨ st3.1 < st''.1) => mv_rdLeft (n := S.size) k1.rd h' hs0' hst3 hq)
          have hprog : Hid (p < st3.1) := by
            rcases k3 with q | q
            · exact absurd hs0' q
            · exact q
          have box4 := k1.box.reads k1.rd (by decide) g4
          have own4 := k1.own.grown g4 hgb
          have hev4 := HOv.mono k1.bs
          have k6 := k2.reads k1.rd g4 hgw
          have hb4 : base ≤ W4.heap.size := Nat.le_trans k1.bs g4.size
          have hxl : (xs hs).length = hs.length := xs_len hs
          have hI2' := Lib.hid hI'
          have hlt2 := Lib.hid hlt'
          have hl41 : hs.length ≤ 40 := by rw [← hxl]; exact hl40
          clear a1 a2 a3 k1 k2 k3 hO HOv g4 hI' hlt' hs0' hl40 hst3
          refine yield_nx (yield_of hRL2 k6.head rfl ?_)
          have HZ := Blk.new W4 92 (mvC zMvH)
          have b45 : Below W4.heap.size W4 (W4.alloc (.cells (mvC zMvH) 92)) := (Below.refl _ _).alloc (Nat.le_refl _) _
          gi_wp2_with (refine storeR (k := 0) 92 (.agg (mvC hd)) (mvC hd) (by rfl) rfl rfl rfl HZ (by kernel_rfl) (show (3 : Nat) ≤ 3 from Nat.le_refl 3) (by rfl) (st_whole _ _ rfl) ?_; intro W5 HA5 b5 g5)
          have b46 := b45.trans b5
          have k7 := k6.of b46
          have box5 := box4.kept b46
          have own5 := own4.kept b46
          have hev5 := hev4.kept b46
          have hr5 := hr4.below b46
          have hb5 : base ≤ W5.heap.size := Nat.le_trans hb4 b46.size
          refine ⟨k7.head, ?_⟩
          have kc := KeepC.putLoop (.loop (RL2 .busy)) k7.head
          have k8 := k7.turn (r' := RL2 .busy) (by omega) hno2
          have box6 := kc.blk box5
          have own6 := own5.keepC kc
          have hev6 := hev5.keepC kc
          have hr6 := rdT_keepC hr5 kc
          have HA6 := kc.blk HA5
          have hb6 : base ≤ (W5.putObj L2 (.loop (RL2 .busy))).heap.size := Nat.le_trans hb5 kc.size
          clear HZ b45 b5 g5 b46 k6 k7 box4 own4 hev4 hr4 box5 own5 hev5 hr5 HA5 kc hb4 hb5
          generalize W5.putObj L2 (.loop (RL2 .busy)) = W6 at *
          generalize W4.heap.size = bt at *
          have c5 := box6.cv 0 v rfl
          obtain ⟨hs2, hhs2⟩ : ∃ hs2 : List MvH, hs ++ [hd] = hs2 := ⟨_, rfl⟩
          have HHS := Lib.hid hhs2
          have hx2 : xs hs ++ [hd.x] = xs hs2 := by rw [← hhs2, xs_snoc]
          rw [hx2, xs_len] at hI2'
          clear hhs2 hx2
          by_cases hc : 40 < hs2.length
          · have d40 : decide ((40 : Int) < (hs2.length : Int)) = true := decide_eq_true (by omega)
            have hI9 : Hid (MvI S.data.toList R (some p) (flR st' 4 (p : Nat)) (xs hs2)) := by
              have q := hI2'.out
              unfold lmS at q
              rw [if_pos hc] at q
              exact q
            clear hI2' hc
            gi_wp2_with (first
              | (refine loadR (k := 0) 92 (mvC hd) (by rfl) rfl rfl HA6 (by kernel_rfl) (by kernel_rfl) rfl ?_)
              | (refine sliceR_mh hd (by rfl) rfl rfl ?_; intro W7 HG7 b7; have own7 := own6.kept b7; have hev7 := hev6.kept b7; have hr7 := hr6.below b7; have box7 := box6.kept b7; have k9 := k8.of b7; have hb7 : base ≤ W7.heap.size := Nat.le_trans hb6 b7.size)
              | (refine appendR_mh hd rfl rfl rfl rfl own7.row HG7 (by omega) hb7 ?_; intro v' W8 HO8 g8; rw [HHS.out] at HO8; obtain ⟨a8, c8, rfl, hin8⟩ := HO8.inL; have box8 := mh_blk own7.row g8 box7 (by decide); have hr8 := mh_rd own7.row g8 hr7; have hev8 := mh_iv own7.row g8 hev7; have evs8 := fun x hx => mh_iv own7.row g8 (own7.ev x hx); have k10 := mh_W own7.row g8 k9 (by omega); have hb8 : base ≤ W8.heap.size := Nat.le_trans hb7 g8.size)
              | (refine storeR (k := 0) 69 (.slice a8 hs2.length c8) #[.slice a8 hs2.length c8] (by rfl) rfl rfl rfl box8 (by kernel_rfl) (by exact Nat.le_refl 1) rfl rfl ?_; intro W9 box9 b9 g9; have hr9 := hr8.other box8 (by decide) (by decide) g9; have own9 : OwnAs W9 base (.slice a8 hs2.length c8) hs2 := OwnAs.other ⟨HO8, fun x hx => (List.mem_append.1 (by rw [HHS.out]; exact hx)).elim (fun q => evs8 x q) (fun q => by rw [List.mem_singleton.1 q]; exact hev8)⟩ box8 (by decide) (by decide) g9; have k11 := k10.grown g9 box8 (by decide) (by decide) (by omega); have c9 := box9.cv 0 (.slice a8 hs2.length c8) rfl; have cb9 := (show Blk W9 base 112 #[.pointer (some ⟨g, 0, none⟩)] from k11.tail.tail.tail.tail.head).cv 0 (.pointer (some ⟨g, 0, none⟩)) rfl; have ca9 := (show Blk W9 ba 3 #[.int .i64 (p : Nat)] from k11.tail.head).cv 0 (.int .i64 (p : Nat)) rfl; have hb9 : base ≤ W9.heap.size := Nat.le_trans hb8 g9.size)
              | (refine ⟨trivial, rfl, ?_⟩; gi_at_call 61; refine (CallsIn.inRound L2 (callsIn_wide.2 (fail_t st' 4 p (by decide) _ hr9))).mono ?_; rintro e W10 ⟨rfl, hr10, g10⟩))
            have k12 := k11.reads hr9 g10 hgw
            have st12 : MvSt S R g bl base (some p) (flR st' 4 (p : Nat)) (.slice a8 hs2.length c8) hs2 W10 := ⟨hI9.out, hr10, box9.reads hr9 (by decide) g10, own9.grown g10 hgb, Nat.le_trans hb9 g10.size⟩
            have kc := KeepC.putLoop (.loop (RL2 .ready)) k12.head
            exact ⟨k12.head, rfl, _, ⟨_, hs2, st12.keepC kc, k12.turn (by omega) hno2, Or.inl (flR_ne st' 4 _ (by decide))⟩, HMS.out _ _ (rdT_keepC hr10 kc) (Or.inl (flR_ne st' 4 _ (by decide)))⟩
          · have d40 : decide ((40 : Int) < (hs2.length : Int)) = false := decide_eq_false (by omega)
            have hI9 : Hid (MvI S.data.toList R (some p) st' (xs hs2)) := by
              have q := hI2'.out
              unfold lmS at q
              rw [if_neg hc] at q
              exact q
            clear hI2' hc
            gi_wp2_with (first
              | (refine loadR (k := 0) 92 (mvC hd) (by rfl) rfl rfl HA6 (by kernel_rfl) (by kernel_rfl) rfl ?_)
              | (refine sliceR_mh hd (by rfl) rfl rfl ?_; intro W7 HG7 b7; have own7 := own6.kept b7; have hev7 := hev6.kept b7; have hr7 := hr6.below b7; have box7 := box6.kept b7; have k9 := k8.of b7; have hb7 : base ≤ W7.heap.size := Nat.le_trans hb6 b7.size)
              | (refine appendR_mh hd rfl rfl rfl rfl own7.row HG7 (by omega) hb7 ?_; intro v' W8 HO8 g8; rw [HHS.out] at HO8; obtain ⟨a8, c8, rfl, hin8⟩ := HO8.inL; have box8 := mh_blk own7.row g8 box7 (by decide); have hr8 := mh_rd own7.row g8 hr7; have hev8 := mh_iv own7.row g8 hev7; have evs8 := fun x hx => mh_iv own7.row g8 (own7.ev x hx); have k10 := mh_W own7.row g8 k9 (by omega); have hb8 : base ≤ W8.heap.size := Nat.le_trans hb7 g8.size)
              | (refine storeR (k := 0) 69 (.slice a8 hs2.length c8) #[.slice a8 hs2.length c8] (by rfl) rfl rfl rfl box8 (by kernel_rfl) (by exact Nat.le_refl 1) rfl rfl ?_; intro W9 box9 b9 g9; have hr9 := hr8.other box8 (by decide) (by decide) g9; have own9 : OwnAs W9 base (.slice a8 hs2.length c8) hs2 := OwnAs.other ⟨HO8, fun x hx => (List.mem_append.1 (by rw [HHS.out]; exact hx)).elim (fun q => evs8 x q) (fun q => by rw [List.mem_singleton.1 q]; exact hev8)⟩ box8 (by decide) (by decide) g9; have k11 := k10.grown g9 box8 (by decide) (by decide) (by omega); have c9 := box9.cv 0 (.slice a8 hs2.length c8) rfl; have cb9 := (show Blk W9 base 112 #[.pointer (some ⟨g, 0, none⟩)] from k11.tail.tail.tail.tail.head).cv 0 (.pointer (some ⟨g, 0, none⟩)) rfl; have ca9 := (show Blk W9 ba 3 #[.int .i64 (p : Nat)] from k11.tail.head).cv 0 (.int .i64 (p : Nat)) rfl; have hb9 : base ≤ W9.heap.size := Nat.le_trans hb8 g9.size))
            have st12 : MvSt S R g bl base (some p) st' (.slice a8 hs2.length c8) hs2 W9 := ⟨hI9.out, hr9, box9, own9, hb9⟩
            have kc := KeepC.putLoop (.loop (RL2 .ready)) k11.head
            exact ⟨k11.head, rfl, _, ⟨_, hs2, st12.keepC kc, k11.turn (by omega) hno2, Or.inr (Nat.lt_trans hprog.out hlt2.out)⟩, HMS.out _ _ (rdT_keepC hr9 kc) (Or.inr hlt2.out)⟩
        · intro st' W4 hE hr4 g4
          refine ⟨st', v, hs, k1.reads g4 hr4 hgb (a2 st' hE), k2.reads k1.rd g4 hgw, ?_⟩
          rcases at_end_mono hE with q | ⟨q1, q2⟩
          · exact Or.inl q
          · rcases k3 with q | q
            · exact absurd q1 q
            · exact Or.inr (by omega)
      refine HIN.mono ?_
      rintro e W3 ⟨hv3, st3, v3, hs3, k1, k2, k3⟩
      refine ⟨hv3, k2.head, ?_⟩
      have kcX := KeepC.putLoop (.loop (RL2 .exhausted)) k2.head
      have kX := k2.turn (r' := RL2 .exhausted) (by omega) hno2
      have k1X := k1.keepC kcX
      generalize W3.putObj L2 (.loop (RL2 .exhausted)) = W4 at *
      have kY := kX.tail.tail.tail
      have kcY := KeepC.putLoop (.loop (RL .ready)) kY.head
      exact ⟨kY.head, rfl, st3, ⟨v3, hs3, k1X.keepC kcY, kY.turn (by omega) hno⟩, hMS.out _ _ (rdT_keepC k1X.rd kcY) k3⟩
    refine HI.mono ?_
    rintro e W2 ⟨hv, st, W0, ⟨v, hs, h1, h2⟩, hmv, hr2, hg2⟩
    have hE := (head_round _ _ _ _ h1.inv).2 hmv
    obtain ⟨C, hB⟩ := rd_blk h1.rd
    refine ⟨hv, mhS S.data.toList st, v, hs, hE, by rw [← hls]; exact mhS_le _ _ h1.inv.1, hr2, h1.box.reads h1.rd (by decide) hg2, h1.own.grown hg2 hgb, h2.reads h1.rd hg2 (by omega)⟩
  refine HIT.mono ?_
  rintro e W2 ⟨hv, z, v, hs, hE, hz, HR2, HL2, HO2, HW2⟩
  refine ⟨hv, HW2.head, ?_⟩
  have kc : KeepC W2 (W2.putObj (D + 1) (.loop (RL .exhausted))) := KeepC.putLoop _ HW2.head
  have HR7 := rdT_keepC HR2 kc
  have HL7 := kc.blk HL2
  have HO7 := HO2.keepC kc
  have HW7 := HW2.turn (r' := RL .exhausted) (by rw [hg]; omega) hno
  generalize W2.putObj (D + 1) (.loop (RL .exhausted)) = w7 at *
  clear HIT hST hMW HR2 HL2 HO2 HW2 kc hRL hno
  have c4 := (show Blk w7 base 112 #[.pointer (some ⟨g, 0, none⟩)] from HW7.tail.head).cv 0 (.pointer (some ⟨g, 0, none⟩)) rfl
  have HZ := Lib.hid (zeros_t z w7 HR7 hz (by omega))
  rcases hE with ⟨hz1, hRo⟩ | ⟨hz1, hne, x, hx, hRb⟩
  · rw [hz1] at HZ
    subst hRo
    clear hz1
    go_wp2_with fail
    refine HZ.out.mono ?_
    rintro e w8 ⟨rfl, HR8, g8⟩
    have HL8 := HL7.reads HR7 (by decide) g8
    have HO8 := HO7.grown g8 hgb
    have HW8 := HW7.reads HR7 g8 hgw
    have c8 := HL8.cv 0 v rfl
    have HD8 : w8.heap[D]? = some (.deferred (some [])) := HW8.tail.tail.tail.head
    clear HZ HR7 HL7 HO7 HW7 c4 g8 HR8
    go_wp2
    have kc := KeepC.putMark (.deferred none) HD8
    exact ret_marks HD8 (results_tmp2 rfl _ _ _) ⟨v, _, hs, rfl, rfl, (HO8.keepC kc).mono (by omega), Or.inl ⟨rfl, rfl, rfl⟩, HW8.be.trans (belowPut _ (by omega) HD8)⟩
  · rw [hz1] at HZ
    subst hRb
    clear hz1
    go_wp2_with fail
    refine HZ.out.mono ?_
    rintro e w8 ⟨rfl, HR8, g8⟩
    have HW8 := HW7.reads HR7 g8 hgw
    have c8 := (show Blk w8 base 112 #[.pointer (some ⟨g, 0, none⟩)] from HW8.tail.head).cv 0 (.pointer (some ⟨g, 0, none⟩)) rfl
    have HER := Lib.hid (err_t _ w8 HR8 hne)
    clear HZ HR7 HL7 HO7 HW7 c4 g8 HR8
    go_wp2_with fail
    refine HER.out.mono ?_
    rintro e w9 ⟨rfl, hF9, b9⟩
    have HW9 := HW8.of b9
    have HD9 : w9.heap[D]? = some (.deferred (some [])) := HW9.tail.tail.tail.head
    rw [hx] at hF9
    clear HER HW8 c8 b9
    go_wp2
    have kc := KeepC.putMark (.deferred none) HD9
    exact ret_marks HD9 (results_tmp2 rfl _ _ _) ⟨_, _, [], rfl, rfl, OwnAs.nil _ _, Or.inr ⟨hne, _, rfl, kc.same _ _ _ _ hF9⟩, HW9.be.trans (belowPut _ (by omega) HD9)⟩

end Go.Proofs.YtdjljnpbnhampaaDoor

namespace Go.Proofs.YtdjljnpbnhampaaDoor
open Go.RowKit
attribute [local go_sem ↓] Go.wp_at_zero Go.wp_at_succ
set_option linter.unusedSimpArgs false
set_option linter.unusedVariables false
set_option maxRecDepth 100000

theorem ownIv_cap {w : World} {base n c : Nat} {a : Option Addr} {l : List Int} (hn : n = l.length) (h : OwnIv w base (.slice a n c) l) : IvIn w a l ∧ n ≤ c ∧ c ≤ maxLen := by
  subst hn
  rcases h with ⟨rfl, e⟩ | ⟨h1, g, cap, e, h2⟩
  · injection e with e1 e2 e3
    subst e1 e3
    exact ⟨Or.inl rfl, Nat.le_refl _, Nat.zero_le _⟩
  · injection e with e1 e2 e3
    subst e1 e3
    rcases h2.2 with ⟨e, _⟩ | ⟨g', cap', cur, e, _, _, q1, q2, _⟩
    · cases e
    · injection e with e1 e2 e3
      subst e3
      exact ⟨Or.inr ⟨g, 0, rfl, (h2.lt g rfl).2, iv_own rfl h2⟩, q1, q2⟩

theorem ownAs_in {w : World} {base : Nat} {v : Value} {hs : List MvH} (h : OwnAs w base v hs) : ∃ a c, v = .slice a hs.length c ∧ MvsIn w a hs := by
  obtain ⟨a, c, e, hm⟩ := h.row.inL
  exact ⟨a, c, e, hm, fun x hx => ownIv_cap rfl (h.ev x hx)⟩

theorem err_nil {w : World} {er : Value} {pl : Int} (h : ErrAs w er 0 pl) : er = .nilIface := by
  rcases h with ⟨e, _⟩ | ⟨e, _⟩
  · exact e
  · exact absurd rfl e

theorem err3_nil {w : World} {er : Value} {pl : Int} (h : ErrAs3 w er 0 pl) : er = .nilIface := by
  rcases h with h | ⟨_, e, _⟩
  · exact err_nil h
  · exact absurd rfl e

theorem err3_ne {w : World} {er : Value} {e pl : Int} (h : ErrAs3 w er e pl) (he : e ≠ 0) : ∃ t p, er = .iface t p := by
  rcases h with (⟨_, e1, _⟩ | ⟨_, q, e1, _⟩) | ⟨e1, _⟩
  · exact absurd e1 he
  · exact ⟨_, _, e1⟩
  · exact ⟨_, _, e1⟩

theorem err_ne {w : World} {er : Value} {e pl : Int} (h : ErrAs w er e pl) (he : e ≠ 0) : ∃ q, er = .iface 142 (.pointer (some ⟨q, 0, none⟩)) ∧ Flt w q e pl := by
  rcases h with ⟨_, e1, _⟩ | ⟨_, q, e1, hf⟩
  · exact absurd e1 he
  · exact ⟨q, e1, hf⟩

set_option maxHeartbeats 1600000 in
theorem lots_some (a : Option Addr) (c : Nat) (hs : List MvH) (w : World) (h : MvsIn w a hs) (hm : hs.length ≤ maxLen) :
    Calls Tryd.prog 19 #[.slice a hs.length c] w fun e w' => (∃ b, e = .returned (.bool b)) ∧ Below w.heap.size w w' := by
  have k1 : hs.length ≤ 9223372036854775807 := hm
  clear hm
  go_enter Tryd.func19, Tryd.ntmps19
  go_wp2_with fail
  go_loopw [3, 10] (fun v i wr => ∃ k : Nat, k ≤ hs.length ∧ i = .int .i64 k ∧ (∃ x : Int, v = .int .i64 x) ∧ Below w.heap.size w wr) (fun _ i _ => hs.length - (intOf i).toNat)
  case atStart => exact ⟨0, by omega, rfl, ⟨_, rfl⟩, Below.refl _ _⟩
  case round =>
    obtain ⟨k, hk, rfl, ⟨x, rfl⟩, Bk⟩ := hrel
    by_cases hlt : k < hs.length
    · have hI := h.below Bk
      obtain ⟨b, lo, rfl, hbl, hat⟩ := hI.row.at hlt
      have q1 : (k : Int) < (hs.length : Int) := by omega
      have q2 : decide ((k : Int) < (hs.length : Int)) = true := decide_eq_true q1
      have q3 : (0 : Int) ≤ (k : Int) := by omega
      have q4 : IntKind.i64.wrap ((k : Int) + 1) = (k : Int) + 1 := by rw [IntKind.wrap_i64] <;> omega
      have HK := hat k hlt
      have hsw := Bk.size
      generalize hs[k] = y at *
      clear hat hI
      have HA4 := Blk.new wr 92 (mvC zMvH)
      have b4 : Below wr.heap.size wr (wr.alloc (.cells (mvC zMvH) 92)) := (Below.refl _ _).alloc (Nat.le_refl _) _
      go_upto_region 5 with (first
        | (refine load_cells (B := b) (k := lo + k * 3) 92 (mvC y) (by rfl) rfl rfl HK (by kernel_rfl) (by kernel_rfl) ?_)
        | (refine alloc_blk 92 (mvC zMvH) (by rfl) rfl Tryd.mhZero ?_)
        | (refine store_blk (k := 0) 92 (.agg (mvC y)) (mvC y) (by rfl) rfl rfl rfl HA4 (by kernel_rfl) (show (3 : Nat) ≤ 3 from Nat.le_refl 3) (by rfl) (st_whole _ _ rfl) ?_; intro w5 HA5 b5 g5))
      have B5 := Bk.trans ((b4.trans b5).mono hsw)
      clear HA4 b4 b5 g5 HK Bk
      generalize wr.heap.size = G1 at *
      have c2 := HA5.cv 2 (.slice y.a y.x.ev.length y.c) rfl
      obtain ⟨L, hL⟩ : ∃ L, y.x.ev.length = L := ⟨_, rfl⟩
      rw [hL] at c2
      clear hL HA5
      go_wp2
      go_roundw
      case rel => exact ⟨k + 1, by omega, by go_num, ⟨_, rfl⟩, B5⟩
      case measure => simp [intOf]; omega
    · obtain rfl : k = hs.length := by omega
      have q2 : decide ((hs.length : Int) < (hs.length : Int)) = false := decide_eq_false (by omega)
      go_wp2
      go_ret
      exact ⟨⟨_, rfl⟩, Bk⟩

def mv0 : Mv := ⟨false, 10, [1, 2, 3, 4]⟩

theorem mv0_ok : okMv mv0 = true := by decide

theorem mv0_E : mvE [mv0] = (0, -1) := by decide

theorem mv0_W : mvX [mv0] = [0, 1, 2, 0, 4, 0, 10, 51, 144, 0, 0, 0, 0] := by decide

theorem mv0_R : rdMvs [0, 1, 2, 0, 4, 0, 10, 51, 144, 0, 0, 0, 0] = .ok [mv0] := by
  have h := mvs_wrote [mv0] (by simp [mv0_ok]) (by decide)
  have e : mvW [mv0] = [0, 1, 2, 0, 4, 0, 10, 51, 144, 0, 0, 0, 0] := by decide
  rw [e] at h
  exact h

theorem w_one (B0 B1 : Nat) (w2 : World) (H1 : Blk w2 B1 92 (mvC ⟨mv0, some ⟨B0, 0, none⟩, 4⟩)) (H0 : Blk w2 B0 3 #[.int .i64 1, .int .i64 2, .int .i64 3, .int .i64 4]) :
    MvsIn w2 (some ⟨B1, 0, none⟩) [⟨mv0, some ⟨B0, 0, none⟩, 4⟩] := by
  refine ⟨Or.inr ⟨B1, 0, rfl, H1.lt, ?_⟩, ?_⟩
  · intro j hj
    have hj : j < 1 := hj
    obtain rfl : j = 0 := by omega
    intro k u hu
    have := H1.cv k u hu
    simpa using this
  · intro h hh
    simp only [List.mem_singleton] at hh
    subst hh
    refine ⟨Or.inr ⟨B0, 0, rfl, H0.lt, ?_⟩, Nat.le_refl 4, (show 4 ≤ maxLen by unfold maxLen; decide)⟩
    intro j hj
    have hj : j < 4 := hj
    intro k u hu
    have hk : k = 0 := by
      rcases k with _ | k
      · rfl
      · simp [ivC] at hu
    subst hk
    have e : (#[.int .i64 1, .int .i64 2, .int .i64 3, .int .i64 4] : Array Value)[j]? = some u := by
      rw [← hu]
      rcases j with _ | _ | _ | _ | j <;> first | rfl | omega
    have := H0.cv j u e
    simpa using this

theorem wr_one (a : Option Addr) (c : Nat) (h : MvH) (hh : h.x = mv0) (S : ByteArray) (hS : S = ⟨#[0, 1, 2, 0, 4, 0, 10, 51, 144, 0, 0, 0, 0]⟩) (w : World) (H : MvsIn w a [h]) :
    Calls Tryd.prog 64 #[.slice a 1 c] w fun e w' => e = .returned (.tuple #[.string S, .nilIface]) ∧ Below w.heap.size w w' := by
  subst hS
  have hx : xs [h] = [mv0] := by simp [xs, hh]
  refine (mvWrite_any a c [h] w H).mono ?_
  rintro e w' ⟨er, rfl, hE, b⟩
  rw [hx, mv0_E] at hE
  obtain rfl := err3_nil hE
  rw [hx, mv0_W]
  exact ⟨rfl, b⟩

theorem rd_one (S : ByteArray) (hS : S = ⟨#[0, 1, 2, 0, 4, 0, 10, 51, 144, 0, 0, 0, 0]⟩) (w : World) :
    Calls Tryd.prog 12 #[.string S] w fun e w' => ∃ a c h, e = .returned (.tuple #[.slice a 1 c, .nilIface]) ∧ h.x = mv0 ∧ MvsIn w' a [h] ∧ Below w.heap.size w w' := by
  subst hS
  refine (mvRead_any ⟨#[0, 1, 2, 0, 4, 0, 10, 51, 144, 0, 0, 0, 0]⟩ w (by decide)).mono ?_
  rintro e w' ⟨v, er, hs, rfl, hx, hO, hE, b⟩
  have e1 : rdMvs (⟨#[0, 1, 2, 0, 4, 0, 10, 51, 144, 0, 0, 0, 0]⟩ : ByteArray).data.toList = .ok [mv0] := mv0_R
  rw [e1] at hx hE
  obtain rfl := err_nil hE
  obtain ⟨a, c, rfl, hm⟩ := ownAs_in hO
  have hx : xs hs = [mv0] := hx
  have hl : hs.length = 1 := by rw [← xs_len, hx]; rfl
  match hs, hl with
  | [h], _ =>
    have : h.x = mv0 := by simpa [xs] using hx
    exact ⟨a, c, h, rfl, this, hm, b⟩

theorem same_one (a1 a2 : Option Addr) (c1 c2 : Nat) (h1 h2 : MvH) (e1 : h1.x = mv0) (e2 : h2.x = mv0) (w : World) (H1 : MvsIn w a1 [h1]) (H2 : MvsIn w a2 [h2]) :
    Calls Tryd.prog 65 #[.slice a1 1 c1, .slice a2 1 c2] w fun e w' => e = .returned (.bool true) ∧ Below w.heap.size w w' := by
  refine (sameK_any a1 a2 c1 c2 [h1] [h2] w H1 H2 (show 1 ≤ maxLen by unfold maxLen; decide) (show 1 ≤ maxLen by unfold maxLen; decide)).mono ?_
  rintro e w' ⟨rfl, b⟩
  have : xs [h1] = xs [h2] := by simp [xs, e1, e2]
  rw [decide_eq_true this]
  exact ⟨rfl, b⟩

set_option maxHeartbeats 3200000 in
theorem wanted_yes (w : World) : Calls Tryd.prog 18 #[] w fun e w' => e = .returned (.bool true) ∧ Below w.heap.size w w' := by
  have hE0 := Blk.new w 3 #[.int .i64 1, .int .i64 2, .int .i64 3, .int .i64 4]
  have b0 : Below w.heap.size w (w.alloc (.cells #[.int .i64 1, .int .i64 2, .int .i64 3, .int .i64 4] 3)) := (Below.refl _ _).alloc (Nat.le_refl _) _
  have z0 : (0 : Nat) < w.heap.size + 1 := Nat.succ_pos _
  generalize hhd : (⟨mv0, some ⟨w.heap.size, 0, none⟩, 4⟩ : MvH) = hd
  have hc : Hid (mvC hd = #[.bool false, .int .i64 10, .slice (some ⟨w.heap.size, 0, none⟩) 4 4]) := by rw [← hhd]; rfl
  have hx : Hid (hd.x = mv0) := by rw [← hhd]; exact Lib.hid rfl
  have hM : Hid (∀ w2 B1, Blk w2 B1 92 (mvC hd) → Blk w2 w.heap.size 3 #[.int .i64 1, .int .i64 2, .int .i64 3, .int .i64 4] → MvsIn w2 (some ⟨B1, 0, none⟩) [hd]) := by
    intro w2 B1 H1 H0
    rw [← hhd] at H1 ⊢
    exact w_one _ _ _ H1 H0
  clear hhd
  have hz : Hid (∀ o, (w.alloc o).heap.size = w.heap.size + 1) := Lib.hid fun o => Array.size_push _
  obtain ⟨S, hS⟩ : ∃ S : ByteArray, Hid (S = ⟨#[0, 1, 2, 0, 4, 0, 10, 51, 144, 0, 0, 0, 0]⟩) := ⟨_, Lib.hid rfl⟩
  have q1 : (S.toList == [0, 1, 2, 0, 4, 0, 10, 51, 144, 0, 0, 0, 0]) = true := by rw [hS.out, ByteArray.toList_eq]; decide
  go_enter Tryd.func18, Tryd.ntmps18
  go_wp2_with (first
    | (refine build_blk (t := 92) (mvC hd) (by rfl) rfl (by rw [hc.out]; kernel_rfl) ?_)
    | (refine sliceL_mh hd rfl rfl rfl ?_; intro w2 HS2 b2 s2
       rw [hz.out] at HS2 b2 s2
       have HM2 := hM.out w2 _ HS2 (hE0.below b2 (Nat.lt_succ_self _)))
    | (refine (wr_one _ _ hd hx.out S hS.out _ HM2).mono ?_; rintro e w3 ⟨rfl, b3⟩)
    | (refine (rd_one S hS.out _).mono ?_; rintro e w4 ⟨a4, c4, h4, rfl, e4, HM4, b4⟩)
    | (refine (same_one _ _ _ _ hd h4 hx.out e4 _ (HM2.below (b3.trans (b4.mono b3.size))) HM4).mono ?_; rintro e w5 ⟨rfl, b5⟩))
  go_ret
  refine ⟨rfl, b0.trans ((b2.mono (Nat.le_succ _)).trans ?_)⟩
  exact (b3.trans ((b4.mono b3.size).trans (b5.mono (Nat.le_trans b3.size b4.size)))).mono (Nat.le_of_lt (Nat.lt_trans (Nat.lt_succ_self _) s2))

end Go.Proofs.YtdjljnpbnhampaaDoor

namespace Go.Proofs.YtdjljnpbnhampaaDoor
open Go.RowKit
attribute [local go_sem ↓] Go.wp_at_zero Go.wp_at_succ
set_option linter.unusedSimpArgs false
set_option linter.unusedVariables false
set_option maxRecDepth 100000

/-- Is there room behind an attribute for one more event, a VID's? -/
def goesM (x : Mv) (v : Int) : Bool := (x.first + (x.ev.length : Int) == v) && decide (x.ev.length < 400)

theorem goesOn_any (x : Mv) (a : Option Addr) (c : Nat) (v : Int) (w : World) (hf : -100000 ≤ x.first ∧ x.first ≤ 100000) (hl : x.ev.length ≤ 400) :
    Calls Tryd.prog 63 #[.agg (mvC ⟨x, a, c⟩), .int .i64 v] w fun e w' => e = .returned (.bool (goesM x v)) ∧ Below w.heap.size w w' := by
  obtain ⟨al, fi, ev⟩ := x
  simp only at hf hl
  have hb0 : Below w.heap.size w (w.alloc (.cells #[.bool al, .int .i64 fi, .slice a ev.length c] 92)) := (Below.refl _ _).alloc (Nat.le_refl _) _
  have q1 : IntKind.i64.wrap (fi + (ev.length : Int)) = fi + (ev.length : Int) := by rw [IntKind.wrap_i64] <;> omega
  unfold goesM mvC
  simp only
  obtain ⟨b1, h1⟩ : ∃ b1, (fi + (ev.length : Int) == v) = b1 := ⟨_, rfl⟩
  rw [h1]
  cases b1 with
  | false =>
    rw [Bool.false_and]
    go_enter Tryd.func63, Tryd.ntmps63
    go_wp2
    go_ret
    exact ⟨rfl, hb0⟩
  | true =>
    rw [Bool.true_and]
    have hd : Hid (decide ((ev.length : Int) < 400) = decide (ev.length < 400)) := by
      show _ = _
      by_cases hq : ev.length < 400
      · rw [decide_eq_true hq, decide_eq_true (by omega)]
      · rw [decide_eq_false hq, decide_eq_false (by omega)]
    go_enter Tryd.func63, Tryd.ntmps63
    go_wp2
    go_ret
    exact ⟨by rw [← hd.out]; rfl, hb0⟩

end Go.Proofs.YtdjljnpbnhampaaDoor

namespace Go.Proofs.YtdjljnpbnhampaaDoor
open Go.RowKit
attribute [local go_sem ↓] Go.wp_at_zero Go.wp_at_succ
set_option linter.unusedSimpArgs false
set_option linter.unusedVariables false
set_option maxRecDepth 100000

/-- A VID and its event. -/
structure Pr where
  vid : Int
  ev : Int
deriving DecidableEq

instance : Inhabited Pr := ⟨⟨0, 0⟩⟩

def zPr : Pr := ⟨0, 0⟩

def prC (x : Pr) : Array Value := #[.int .i64 x.vid, .int .i64 x.ev]

def PrAt (w : World) (b o : Nat) (l : List Pr) : Prop := ∀ j (hj : j < l.length), CellsAt w b (o + j * 2) (prC l[j])

def PrIn (w : World) (a : Option Addr) (l : List Pr) : Prop := l = [] ∨ ∃ b o, a = some ⟨b, o, none⟩ ∧ b < w.heap.size ∧ PrAt w b o l

theorem PrAt.below {w w' : World} {b o D : Nat} {l : List Pr} (h : PrAt w b o l) (hb : Below D w w') (hB : b < D) : PrAt w' b o l := fun j hj => (h j hj).below hb hB

theorem PrIn.below {w w' : World} {a : Option Addr} {l : List Pr} (h : PrIn w a l) (hb : Below w.heap.size w w') : PrIn w' a l := by
  rcases h with h | ⟨b, o, h1, h2, h3⟩
  · exact Or.inl h
  · exact Or.inr ⟨b, o, h1, Nat.lt_of_lt_of_le h2 hb.size, fun j hj => (h3 j hj).below hb h2⟩

theorem PrIn.drew {w : World} {a : Option Addr} {l : List Pr} (h : PrIn w a l) : PrIn w.drew a l := h

theorem PrIn.at {w : World} {a : Option Addr} {l : List Pr} (h : PrIn w a l) {k : Nat} (hk : k < l.length) : ∃ b o, a = some ⟨b, o, none⟩ ∧ b < w.heap.size ∧ PrAt w b o l := by
  rcases h with rfl | h
  · simp at hk
  · exact h

/-- A list that lay somewhere ahead lies there still. -/
theorem PrIn.late {w0 w w' : World} {a : Option Addr} {l : List Pr} (h : PrIn w a l) (h0 : PrIn w0 a l) (hb : Below w0.heap.size w w') : PrIn w' a l := by
  rcases h with h | ⟨b, o, e1, e2, e3⟩
  · exact Or.inl h
  · rcases h0 with h0 | ⟨b0, o0, f1, f2, f3⟩
    · exact Or.inl h0
    · rw [e1] at f1
      cases f1
      exact Or.inr ⟨b, o, e1, Nat.lt_of_lt_of_le e2 hb.size, e3.below hb f2⟩

theorem Tryd.prZero : (Tryd.prog.info? 84).map (·.zero) = some (some (.agg (prC zPr))) := by kernel_rfl

def eqPr (a b : Pr) : Bool := (a.vid == b.vid) && (a.ev == b.ev)

theorem run_eql_pr (d : Nat) (a b : Pr) (w : World) : (Op.equalIn (d + 5) 84 (.agg (prC a)) (.agg (prC b))).run Tryd.prog w = .ok (eqPr a b) w := by
  have hs : Tryd.prog.stoodInHeld 84 = false := by kernel_rfl
  have hu : Tryd.prog.underlying 84 = some (.struct (Tryd.prog.fieldsOf 84)) := by kernel_rfl
  have hf : (Tryd.prog.fieldsOf 84).toList.map (fun f => (f.name == "_", f.type, f.offset)) = [(false, 3, 0), (false, 3, 1)] := by kernel_rfl
  rw [run_equalIn_agg w (d + 4) 84 _ _ hu hs]
  obtain ⟨f0, l0, h0, g0, hf⟩ := List.map_eq_cons_iff.1 hf
  obtain ⟨f1, l1, rfl, g1, hf⟩ := List.map_eq_cons_iff.1 hf
  obtain rfl := List.map_eq_nil_iff.1 hf
  rw [h0]
  have e0 := run_equalIn_int (P := Tryd.prog) w (d + 3) 3 .i64 .i64 a.vid b.vid Tryd.underlying3
  have e1 := run_equalIn_int (P := Tryd.prog) w (d + 3) 3 .i64 .i64 a.ev b.ev Tryd.underlying3
  have h := run_eqFields_cons w (d + 4) (prC a) (prC b) f0 _ _ _ _ _ _ _ g0 (run_part_one w _ _ 0 _ (by kernel_rfl) rfl) (run_part_one w _ _ 0 _ (by kernel_rfl) rfl) e0
    (run_eqFields_cons w (d + 4) (prC a) (prC b) f1 _ _ _ _ _ _ _ g1 (run_part_one w _ _ 1 _ (by kernel_rfl) rfl) (run_part_one w _ _ 1 _ (by kernel_rfl) rfl) e1
    (run_eqFields_nil w (d + 4) _ _))
  rw [Bool.and_true] at h
  exact h

theorem eqPr_same (a : Pr) : eqPr a a = true := by simp [eqPr]

theorem pr_same (x : Pr) (W : World) : (Op.equalIn 10000 84 (.agg (prC x)) (.agg (prC x))).run Tryd.prog W = .ok true W := by
  have h := run_eql_pr 9995 x x W
  rw [eqPr_same] at h
  exact h

/-- The cells of records, one behind the other. -/
def prR (l : List Pr) : List Value := l.flatMap fun v => (prC v).toList

theorem prR_cons (v : Pr) (l : List Pr) : prR (v :: l) = (prC v).toList ++ prR l := by simp [prR]

theorem prR_append (l m : List Pr) : prR (l ++ m) = prR l ++ prR m := by simp [prR]

theorem prR_one (v : Pr) : prR [v] = (prC v).toList := by simp [prR]

theorem prC_len (v : Pr) : (prC v).toList.length = 2 := rfl

theorem prR_len (l : List Pr) : (prR l).length = l.length * 2 := by
  induction l with
  | nil => rfl
  | cons v l ih => rw [prR_cons, List.length_append, ih, prC_len, List.length_cons]; omega

theorem prR_get : ∀ (l : List Pr) (j : Nat) (hj : j < l.length) (k : Nat), k < 2 → (prR l)[j * 2 + k]? = (prC l[j])[k]?
  | [], j, hj, _, _ => by simp at hj
  | v :: l, 0, _, k, hk => by
    rw [prR_cons, List.getElem?_append_left (by rw [prC_len]; omega)]
    simp
  | v :: l, j + 1, hj, k, hk => by
    have ih := prR_get l j (by simpa using hj) k hk
    rw [prR_cons, List.getElem?_append_right (by rw [prC_len]; omega), prC_len, show (j + 1) * 2 + k - 2 = j * 2 + k by omega, ih]
    rfl

theorem prC_cells (v : Pr) : ∀ u ∈ (prC v).toList, u.oneCell' = true := by
  intro u hu
  simp only [prC, List.mem_cons, List.not_mem_nil, or_false] at hu
  rcases hu with rfl | rfl <;> rfl

theorem prR_cells (l : List Pr) : ∀ u ∈ prR l, u.oneCell' = true := by
  intro u hu
  unfold prR at hu
  obtain ⟨v, _, hv⟩ := List.mem_flatMap.1 hu
  exact prC_cells v u hv

theorem prAt_news {w : World} {b o : Nat} {l : List Pr} (h : PrAt w b o l) : ∀ (q : Nat) u, (prR l)[q]? = some u → w.cell? ((⟨b, o, none⟩ : Addr).add q) = some u := by
  intro q u hu
  have hq : q < l.length * 2 := by
    rw [← prR_len]
    exact (List.getElem?_eq_some_iff.1 hu).1
  have hj : q / 2 < l.length := by omega
  have e : q = q / 2 * 2 + q % 2 := by omega
  rw [e, prR_get l (q / 2) hj (q % 2) (by omega)] at hu
  have := h (q / 2) hj (q % 2) u hu
  rw [e, Addr.add_lit, ← Nat.add_assoc]
  exact this

theorem pr_own {w : World} {base g cap n : Nat} {T : TypeId} {l : List Pr} (hn : n = l.length) (h : w.ownsRow base T 2 (.slice (some ⟨g, 0, none⟩) n cap) n (prR l)) : PrAt w g 0 l := by
  subst hn
  intro j hj k c hc
  have hk : k < 2 := (Array.getElem?_eq_some_iff.1 hc).1
  have h2 := h.cellAt (j * 2 + k) (by omega)
  rw [prR_get l j hj k hk, hc] at h2
  rw [Nat.zero_add]
  exact h2

/-- A row of records of one's own: none, or a block from base on. -/
def OwnPr (w : World) (base : Nat) (v : Value) (l : List Pr) : Prop := (l = [] ∧ v = .slice none 0 0) ∨ (l ≠ [] ∧ ∃ g cap, v = .slice (some ⟨g, 0, none⟩) l.length cap ∧ w.ownsRow base 84 2 v l.length (prR l))

theorem OwnPr.nil (w : World) (base : Nat) : OwnPr w base (.slice none 0 0) [] := Or.inl ⟨rfl, rfl⟩

theorem OwnPr.kept {w w' : World} {base : Nat} {v : Value} {l : List Pr} (h : OwnPr w base v l) (hb : Below w.heap.size w w') : OwnPr w' base v l := by
  rcases h with h | ⟨h1, g, cap, rfl, h2⟩
  · exact Or.inl h
  · exact Or.inr ⟨h1, g, cap, rfl, h2.kept (show w.grownBy w' none from ⟨hb.os, hb.tape, hb.output, hb.size, fun k hk _ => hb.block k hk⟩) (Or.inr (by simp [Value.ownBlock]))⟩

theorem OwnPr.alloc {w : World} {base : Nat} {v : Value} {l : List Pr} (h : OwnPr w base v l) (o : Obj) : OwnPr (w.alloc o) base v l := h.kept ((Below.refl _ _).alloc (Nat.le_refl _) o)

theorem OwnPr.inL {w : World} {base : Nat} {v : Value} {l : List Pr} (h : OwnPr w base v l) : ∃ a c, v = .slice a l.length c ∧ PrIn w a l := by
  rcases h with ⟨rfl, rfl⟩ | ⟨h1, g, cap, rfl, h2⟩
  · exact ⟨none, 0, rfl, Or.inl rfl⟩
  · exact ⟨some ⟨g, 0, none⟩, cap, rfl, Or.inr ⟨g, 0, rfl, (h2.lt g rfl).2, pr_own rfl h2⟩⟩

theorem prR_snoc (l : List Pr) (x : Pr) : prR (l ++ [x]) = prR l ++ (prC x).toList := by rw [prR_append, prR_one]

/-- Another block is written. -/
theorem OwnPr.grown {w w' : World} {base : Nat} {v : Value} {l : List Pr} {row : Option Nat} (h : OwnPr w base v l) (hg : w.grownBy w' row) (hr : ∀ g, row = some g → g < base) : OwnPr w' base v l := by
  rcases h with h | ⟨h1, g, cap, rfl, h2⟩
  · exact Or.inl h
  · refine Or.inr ⟨h1, g, cap, rfl, h2.kept hg ?_⟩
    right
    intro e
    have h3 := (h2.lt g rfl).1
    have := hr g (by rw [← e]; simp [Value.ownBlock])
    omega

theorem OwnPr.mono {w : World} {base B : Nat} {v : Value} {l : List Pr} (h : OwnPr w base v l) (hB : B ≤ base) : OwnPr w B v l := by
  rcases h with h | ⟨h1, g, cap, rfl, h2, h3⟩
  · exact Or.inl h
  · refine Or.inr ⟨h1, g, cap, rfl, h2, ?_⟩
    rcases h3 with h3 | ⟨g', cap', cur, e1, e2, e3⟩
    · exact Or.inl h3
    · exact Or.inr ⟨g', cap', cur, e1, Nat.le_trans hB e2, e3⟩

/-- Its block. -/
theorem OwnPr.blk {w : World} {base : Nat} {v : Value} {l : List Pr} (h : OwnPr w base v l) : v.ownBlock = none ∨ ∃ g C, v.ownBlock = some g ∧ base ≤ g ∧ Blk w g 84 C := by
  rcases h with ⟨rfl, rfl⟩ | ⟨h1, g, cap, rfl, h2⟩
  · exact Or.inl rfl
  · rcases h2.2 with ⟨h3, -⟩ | ⟨g1, cap1, cur1, e1, e2, e3, -⟩
    · cases h3
    · cases e1
      exact Or.inr ⟨g, cur1, rfl, e2, e3⟩

/-- A block of another type is written. -/
theorem OwnPr.other {w w' : World} {base B : Nat} {v : Value} {l : List Pr} {T : TypeId} {C : Array Value} (h : OwnPr w base v l) (hB : Blk w B T C) (hT : T ≠ 84) (hg : w.grownBy w' (some B)) : OwnPr w' base v l := by
  have hb := h.blk
  rcases h with h | ⟨h1, g, cap, rfl, h2⟩
  · exact Or.inl h
  · refine Or.inr ⟨h1, g, cap, rfl, h2.kept hg ?_⟩
    right
    intro e
    rcases hb with hb | ⟨g1, C1, e1, e2, e3⟩
    · rw [hb] at e; cases e
    · rw [e1] at e
      cases e
      have h3 : w.heap[B]? = some (.cells C T (0, 0)) := hB
      have h4 : w.heap[B]? = some (.cells C1 84 (0, 0)) := e3
      rw [h3] at h4
      injection h4 with h4
      injection h4 with _ h5
      exact hT h5

theorem Tryd.prParts : (Tryd.prog.info? 84).map (fun i => (i.zero, i.size, i.bytes)) = some (some (.agg (prC zPr)), 2, 16) := by kernel_rfl

theorem fill_pr (v : Pr) : Instr.fill (fun i => some (i * 2, 2)) ((Array.range (1 * 2)).map ((Value.agg (prC zPr)).cells[· % (Value.agg (prC zPr)).cells.size]!)) [(0, .agg (prC v))] = some (prC v) := by kernel_rfl

/-- One comes behind. -/
theorem append_pr {o : Oper} {a : Act} {w : World} {K : Act → World → Prop} {Q : Exit → Act → World → Prop} {s x : Operand} {base G : Nat} {v : Value} {l : List Pr} (y : Pr)
    (ho : o.op = .call { callee := .builtin .append, args := #[s, x], argTypes := #[80, 80] }) (hs : a.eval s = v) (hx : a.eval x = .slice (some ⟨G, 0, none⟩) 1 1)
    (hO : OwnPr w base v l) (hG : Blk w G 84 (prC y)) (hlen : l.length ≤ 100000) (hbase : base ≤ w.heap.size)
    (h : ∀ v' w', OwnPr w' base v' (l ++ [y]) → Below base w w' → w.grownBy w' v.ownBlock → K (a.put o.dst v') w') : Oper.wp Tryd.prog o a w K Q := by
  obtain ⟨i0, hi, hz0, hz1, hz2⟩ := info_parts Tryd.prParts
  have hnews : ∀ (j : Nat) u, (prC y).toList[j]? = some u → w.cell? ((⟨G, 0, none⟩ : Addr).add j) = some u := fun j u hu => by
    rw [Addr.add_lit, Nat.zero_add]
    exact hG.cv j u (by simpa using hu)
  rcases hO with ⟨rfl, rfl⟩ | ⟨hne, g, cap, rfl, hown⟩
  · refine wp_append_lies w s x _ ho base 84 i0 (.agg (prC zPr)) 2 16 Tryd.underlying80 hi hz0 hz1 hz2 rfl (by decide) (.slice none 0 0) 0 [] hs (World.ownsRow_nil w base _ 2) ⟨G, 0, none⟩ 1 1 (prC y).toList hx rfl hnews (prC_cells y) (by decide) (by unfold maxLen; omega) (by decide) hbase _ rfl ?_
    intro g cap w' hown hgrow hat hlt
    refine h _ _ (Or.inr ⟨by simp, g, cap, rfl, ?_⟩) ((Below.refl base w).grown hgrow hbase (fun q hq => by simp [Value.ownBlock] at hq)) hgrow
    rw [List.nil_append, prR_one]
    exact hown
  · have hown' := hown
    refine wp_append_lies w s x _ ho base 84 i0 (.agg (prC zPr)) 2 16 Tryd.underlying80 hi hz0 hz1 hz2 rfl (by decide) (.slice (some ⟨g, 0, none⟩) l.length cap) l.length (prR l) hs hown ⟨G, 0, none⟩ 1 1 (prC y).toList hx rfl hnews (prC_cells y) (by decide) (by unfold maxLen; omega) (by omega) hbase _ rfl ?_
    intro g' cap' w' hown2 hgrow hat hlt
    obtain ⟨cur, hB, hge⟩ : ∃ cur, Blk w g 84 cur ∧ base ≤ g := by
      rcases hown'.2 with ⟨h1, -⟩ | ⟨g1, cap1, cur1, e1, e2, e3, -⟩
      · cases h1
      · cases e1
        exact ⟨cur1, e3, e2⟩
    refine h _ _ (Or.inr ⟨by simp, g', cap', by rw [List.length_append]; rfl, ?_⟩) ((Below.refl base w).grown hgrow hbase (fun q hq => by cases hq; exact hge)) hgrow
    rw [prR_snoc, List.length_append]
    exact hown2

/-- Of one alone. -/
theorem slice_pr {o : Oper} {a : Act} {w : World} {K : Act → World → Prop} {Q : Exit → Act → World → Prop} {x : Operand} (y : Pr) (ho : o.op = .buildSlice 80 1 #[(0, x)]) (hx : a.eval x = .agg (prC y))
    (h : ∀ w1, Blk w1 w.heap.size 84 (prC y) → Below w.heap.size w w1 → w.heap.size < w1.heap.size → K (a.put o.dst (.slice (some ⟨w.heap.size, 0, none⟩) 1 1)) w1) : Oper.wp Tryd.prog o a w K Q := by
  obtain ⟨i0, hi, hz0, hz1, hz2⟩ := info_parts Tryd.prParts
  refine wp_buildSlice 80 84 1 _ ho (prC y) i0 (.agg (prC zPr)) Tryd.underlying80 hi hz0 (by rw [hz1]; decide) (by rw [hz1]; decide) (by rw [hz1]; simp only [List.map_toArray, List.map_cons, List.map_nil, hx]; exact fill_pr y) (h _ (Blk.new w _ _) ((Below.refl _ _).alloc (Nat.le_refl _) _) (Blk.new w _ _).lt)

theorem sliceL_pr {ops : Array Oper} {rest : List Oper} {o : Oper} {a : Act} {w : World} {Q : Exit → Act → World → Prop} {x : Operand} (y : Pr) (hg : o.guard = none) (ho : o.op = .buildSlice 80 1 #[(0, x)]) (hx : a.eval x = .agg (prC y))
    (h : ∀ w1, Blk w1 w.heap.size 84 (prC y) → Below w.heap.size w w1 → w.heap.size < w1.heap.size → wpList Tryd.prog ops Q rest (a.put o.dst (.slice (some ⟨w.heap.size, 0, none⟩) 1 1)) w1) : wpList Tryd.prog ops Q (o :: rest) a w :=
  wpList_plain hg fun _ hK => slice_pr y ho hx fun w1 hB hb hs => hK _ _ (h w1 hB hb hs)

theorem appendL_pr {ops : Array Oper} {rest : List Oper} {o : Oper} {a : Act} {w : World} {Q : Exit → Act → World → Prop} {s x : Operand} {base G : Nat} {v : Value} {l : List Pr} (y : Pr) (hg : o.guard = none)
    (ho : o.op = .call { callee := .builtin .append, args := #[s, x], argTypes := #[80, 80] }) (hs : a.eval s = v) (hx : a.eval x = .slice (some ⟨G, 0, none⟩) 1 1)
    (hO : OwnPr w base v l) (hG : Blk w G 84 (prC y)) (hlen : l.length ≤ 100000) (hbase : base ≤ w.heap.size)
    (h : ∀ v' w', OwnPr w' base v' (l ++ [y]) → Below base w w' → w.grownBy w' v.ownBlock → wpList Tryd.prog ops Q rest (a.put o.dst v') w') : wpList Tryd.prog ops Q (o :: rest) a w :=
  wpList_plain hg fun _ hK => append_pr y ho hs hx hO hG hlen hbase fun v' w' h1 h2 h3 => hK _ _ (h v' w' h1 h2 h3)

end Go.Proofs.YtdjljnpbnhampaaDoor

namespace Go.Proofs.YtdjljnpbnhampaaDoor
open Go.RowKit
attribute [local go_sem ↓] Go.wp_at_zero Go.wp_at_succ
set_option linter.unusedSimpArgs false
set_option linter.unusedVariables false
set_option maxRecDepth 100000

/-- The VIDs of events, from the i-th on. -/
def prsF (f : Int) : Nat → List Int → List Pr
  | _, [] => []
  | i, e :: l => ⟨IntKind.i64.wrap (f + (i : Int)), e⟩ :: prsF f (i + 1) l

theorem prsF_len (f : Int) : ∀ (i : Nat) (l : List Int), (prsF f i l).length = l.length
  | _, [] => rfl
  | i, e :: l => by rw [prsF, List.length_cons, prsF_len f (i + 1) l, List.length_cons]

theorem prsF_snoc (f : Int) (x : Int) : ∀ (i : Nat) (l : List Int), prsF f i (l ++ [x]) = prsF f i l ++ [⟨IntKind.i64.wrap (f + ((i + l.length : Nat) : Int)), x⟩]
  | i, [] => by simp [prsF]
  | i, e :: l => by
    rw [List.cons_append, prsF, prsF_snoc f x (i + 1) l, prsF, List.cons_append, List.length_cons]
    rw [show i + 1 + l.length = i + (l.length + 1) by omega]

/-- All VIDs with their events. -/
def eachL (l : List Mv) : List Pr := l.flatMap fun x => prsF x.first 0 x.ev

theorem eachL_append (a b : List Mv) : eachL (a ++ b) = eachL a ++ eachL b := by simp [eachL]

theorem eachL_take (hs : List MvH) (k : Nat) (hk : k < hs.length) : eachL (xs (hs.take (k + 1))) = eachL (xs (hs.take k)) ++ prsF hs[k].x.first 0 hs[k].x.ev := by
  have e : hs.take (k + 1) = hs.take k ++ [hs[k]] := by rw [List.take_add_one, List.getElem?_eq_getElem hk]; rfl
  rw [e]
  simp only [xs, eachL, List.map_append, List.flatMap_append, List.map_cons, List.map_nil, List.flatMap_cons, List.flatMap_nil, List.append_nil]

theorem eachL_le (hs : List MvH) (k : Nat) : (eachL (xs (hs.take k))).length ≤ (eachL (xs hs)).length := by
  have h : xs hs = xs (hs.take k) ++ xs (hs.drop k) := by rw [← List.take_append_drop k hs]; simp [xs]
  rw [h, eachL_append, List.length_append]
  omega

theorem blk_pr {w w' : World} {v : Value} {l : List Pr} {base B : Nat} {T : TypeId} {C : Array Value} (hO : OwnPr w base v l) (hg : w.grownBy w' v.ownBlock) (h : Blk w B T C) (hT : T ≠ 84) : Blk w' B T C := by
  rcases hO with ⟨rfl, rfl⟩ | ⟨h1, g, cap, rfl, h2⟩
  · exact h.grown hg (by simp [Value.ownBlock])
  · rcases h2.2 with ⟨h3, -⟩ | ⟨g1, cap1, cur1, e1, e2, e3, -⟩
    · cases h3
    · cases e1
      refine h.grown hg ?_
      intro e2'
      obtain rfl : B = g := by simpa [Value.ownBlock] using e2'
      have q1 : w.heap[B]? = some (.cells C T (0, 0)) := h
      have q2 : w.heap[B]? = some (.cells cur1 84 (0, 0)) := e3
      rw [q1] at q2
      injection q2 with q2
      injection q2 with _ q2
      exact hT q2

set_option maxHeartbeats 6400000 in
theorem mvEach_any (a : Option Addr) (c : Nat) (hs : List MvH) (w : World) (h : MvsIn w a hs) (hm : hs.length ≤ maxLen) (hsum : (eachL (xs hs)).length ≤ 90000) :
    Calls Tryd.prog 15 #[.slice a hs.length c] w fun e w' => ∃ v, e = .returned v ∧ OwnPr w' w.heap.size v (eachL (xs hs)) ∧ Below w.heap.size w w' := by
  have k1 : hs.length ≤ 9223372036854775807 := hm
  clear hm
  obtain ⟨base, hbase⟩ : ∃ base, w.heap.size = base := ⟨_, rfl⟩
  have hO0 := OwnPr.nil w base
  have HLE := Lib.hid (eachL_le hs)
  have hb0 : Below base w w := Below.refl _ _
  rw [hbase]
  go_enter Tryd.func15, Tryd.ntmps15
  go_wp2_with fail
  go_loopw [3, 10] (fun v i wr => ∃ k : Nat, k ≤ hs.length ∧ i = .int .i64 k ∧ OwnPr wr base v (eachL (xs (hs.take k))) ∧ Below base w wr) (fun _ i _ => hs.length - (intOf i).toNat)
  case atStart => exact ⟨0, by omega, rfl, hO0, hb0⟩
  case round =>
    obtain ⟨k, hk, rfl, HO, Bk⟩ := hrel
    clear hO0 hb0
    by_cases hlt : k < hs.length
    · have hI := h.below (by rw [hbase]; exact Bk)
      obtain ⟨b, lo, rfl, hbl, hat⟩ := hI.row.at hlt
      have q1 : (k : Int) < (hs.length : Int) := by omega
      have q2 : decide ((k : Int) < (hs.length : Int)) = true := decide_eq_true q1
      have q3 : (0 : Int) ≤ (k : Int) := by omega
      have q4 : IntKind.i64.wrap ((k : Int) + 1) = (k : Int) + 1 := by rw [IntKind.wrap_i64] <;> omega
      have HK := hat k hlt
      have hmem := List.getElem_mem hlt
      have hev0 := h.ev _ hmem
      have HS := Lib.hid (eachL_take hs k hlt)
      have HL2 := Lib.hid (HLE.out (k + 1))
      have hsw := Bk.size
      rw [hbase] at hsw
      generalize hs[k] = y at *
      clear hat hI hmem
      obtain ⟨v0, hv0⟩ : ∃ acc, eachL (xs (hs.take k)) = acc := ⟨_, rfl⟩
      rw [hv0] at HO HS
      clear hv0
      have HA4 := Blk.new wr 92 (mvC zMvH)
      have b4 : Below wr.heap.size wr (wr.alloc (.cells (mvC zMvH) 92)) := (Below.refl _ _).alloc (Nat.le_refl _) _
      go_upto_region 5 with (first
        | (refine load_cells (B := b) (k := lo + k * 3) 92 (mvC y) (by rfl) rfl rfl HK (by kernel_rfl) (by kernel_rfl) ?_)
        | (refine alloc_blk 92 (mvC zMvH) (by rfl) rfl Tryd.mhZero ?_)
        | (refine store_blk (k := 0) 92 (.agg (mvC y)) (mvC y) (by rfl) rfl rfl rfl HA4 (by kernel_rfl) (show (3 : Nat) ≤ 3 from Nat.le_refl 3) (by rfl) (st_whole _ _ rfl) ?_; intro w5 HA5 b5 g5))
      have B5 := Bk.trans ((b4.trans b5).mono hsw)
      have HO5 := HO.kept (b4.trans b5)
      obtain ⟨B, hB⟩ : ∃ B, wr.heap.size = B := ⟨_, rfl⟩
      rw [hB] at HA5
      rw [hB] at hsw
      clear HA4 b4 b5 g5 HK HO Bk
      have c2 := HA5.cv 2 (.slice y.a y.x.ev.length y.c) rfl
      have c1 := HA5.cv 1 (.int .i64 y.x.first) rfl
      obtain ⟨⟨ya, yf, ye⟩, yp, yc⟩ := y
      simp only at c1 c2 hev0 HS
      go_wp2_with fail
      have HLEN : Hid (v0.length + ye.length ≤ 90000) := by
        show _ ≤ _
        have e1 := HL2.out
        rw [HS.out, List.length_append, prsF_len] at e1
        omega
      have hyl : ye.length ≤ 9223372036854775807 := by have := HLEN.out; omega
      have HEV := Lib.hid hev0.1
      clear c1 c2 hev0 HL2
      go_loopw [3, 17] (fun v i wv => ∃ j : Nat, j ≤ ye.length ∧ i = .int .i64 j ∧ OwnPr wv base v (v0 ++ prsF yf 0 (ye.take j)) ∧ Blk wv B 92 #[.bool ya, .int .i64 yf, .slice yp ye.length yc] ∧ Below base w wv) (fun _ i _ => ye.length - (intOf i).toNat)
      case atStart => exact ⟨0, Nat.zero_le _, rfl, by rw [List.take_zero, prsF, List.append_nil]; exact HO5, HA5, B5⟩
      case round =>
        clear HA5 HO5 B5
        obtain ⟨j, hj, rfl, HO, HA, Bj⟩ := hrel
        have c1 := HA.cv 1 (.int .i64 yf) rfl
        by_cases hjl : j < ye.length
        · have hin := HEV.out.below (by rw [hbase]; exact Bj)
          obtain ⟨eb, eo, rfl, hel, het⟩ := hin.at hjl
          have p1 : (j : Int) < (ye.length : Int) := by omega
          have p2 : decide ((j : Int) < (ye.length : Int)) = true := decide_eq_true p1
          have p3 : (0 : Int) ≤ (j : Int) := by omega
          have p4 : IntKind.i64.wrap ((j : Int) + 1) = (j : Int) + 1 := by rw [IntKind.wrap_i64] <;> omega
          have HJ := het j hjl
          have hsn : Hid (prsF yf 0 (ye.take (j + 1)) = prsF yf 0 (ye.take j) ++ [⟨IntKind.i64.wrap (yf + (j : Int)), ye[j]⟩]) := by
            show _ = _
            have e : ye.take (j + 1) = ye.take j ++ [ye[j]] := by rw [List.take_add_one, List.getElem?_eq_getElem hjl]; rfl
            rw [e, prsF_snoc, Nat.zero_add, List.length_take, Nat.min_eq_left (by omega)]
          have hln : Hid ((v0 ++ prsF yf 0 (ye.take j)).length ≤ 90000) := by
            show _ ≤ _
            have e1 := HLEN.out
            rw [List.length_append, prsF_len, List.length_take]
            omega
          have hbw : base ≤ wr.heap.size := by rw [← hbase]; have q := Bj.size; rw [hbase] at q ⊢; exact q
          generalize ye[j] = ev at *
          have KX : wr.cell? ⟨eb, eo + j, none⟩ = some (.int .i64 ev) := by
            have q := HJ 0 (.int .i64 ev) rfl
            rw [Nat.mul_one, Nat.add_zero] at q
            exact q
          clear HJ het hin
          obtain ⟨vid, hvid⟩ : ∃ vid, IntKind.i64.wrap (yf + (j : Int)) = vid := ⟨_, rfl⟩
          rw [hvid] at hsn
          obtain ⟨acc, hacc⟩ : ∃ acc, v0 ++ prsF yf 0 (ye.take j) = acc := ⟨_, rfl⟩
          have hsn2 : Hid (v0 ++ prsF yf 0 (ye.take (j + 1)) = acc ++ [⟨vid, ev⟩]) := by
            show _ = _
            rw [hsn.out, ← List.append_assoc, hacc]
          rw [hacc] at HO hln
          clear hacc hsn HS HLEN HEV
          go_wp2_with (first
            | (refine sliceL_pr ⟨vid, ev⟩ rfl rfl rfl ?_; intro w6 HS6 b6 s6; have HO6 := HO.kept b6)
            | (refine appendL_pr ⟨vid, ev⟩ rfl rfl rfl rfl HO6 HS6 (by have := hln.out; omega) (Nat.le_trans hbw b6.size) ?_; intro v7 w7 HO7 b7 g7; have HA7 := blk_pr HO6 g7 (HA.below b6 HA.lt) (by decide)))
          refine ⟨⟨j + 1, by omega, by go_num, ?_, HA7, (Bj.trans (b6.mono hbw)).trans b7⟩, by simp [intOf]; omega⟩
          rw [hsn2.out]
          exact HO7
        · obtain rfl : j = ye.length := by omega
          have p2 : decide ((ye.length : Int) < (ye.length : Int)) = false := decide_eq_false (by omega)
          rw [List.take_length, ← HS.out] at HO
          clear c1
          go_wp2_with fail
          go_roundw
          case rel => exact ⟨k + 1, by omega, by go_num, HO, Bj⟩
          case measure => simp [intOf]; omega
    · obtain rfl : k = hs.length := by omega
      have q2 : decide ((hs.length : Int) < (hs.length : Int)) = false := decide_eq_false (by omega)
      rw [List.take_length] at HO
      go_wp2
      go_ret
      exact ⟨_, rfl, HO, Bk⟩

end Go.Proofs.YtdjljnpbnhampaaDoor

namespace Go.Proofs.YtdjljnpbnhampaaDoor
set_option linter.unusedVariables false

/-- One more event. -/
def mpkS (l : List Mv) (p : Pr) : List Mv :=
  match l.getLast? with
  | some a => if goesM a p.vid = true then l.dropLast ++ [⟨a.all, a.first, a.ev ++ [p.ev]⟩] else l ++ [⟨false, p.vid, [p.ev]⟩]
  | none => [⟨false, p.vid, [p.ev]⟩]

def mpkL (l : List Pr) : List Mv := l.foldl mpkS []

theorem packS_snoc (l : List Mv) (a : Mv) (p : Pr) : mpkS (l ++ [a]) p = if goesM a p.vid = true then l ++ [⟨a.all, a.first, a.ev ++ [p.ev]⟩] else l ++ [a] ++ [⟨false, p.vid, [p.ev]⟩] := by
  unfold mpkS
  rw [List.getLast?_append]
  simp

theorem packS_nil (p : Pr) : mpkS [] p = [⟨false, p.vid, [p.ev]⟩] := rfl

/-- A run of VIDs one behind the other. -/
def runV (v : Int) : List Int → List Pr
  | [] => []
  | e :: l => ⟨v, e⟩ :: runV (v + 1) l

/-- A run that goes on behind the last attribute. -/
theorem run_go : ∀ (es : List Int) (l : List Mv) (a : Mv) (v : Int), a.first + (a.ev.length : Int) = v → 0 < a.ev.length → a.ev.length ≤ 400 →
    ((runV v es).foldl mpkS (l ++ [a])).length ≤ l.length + 1 + (a.ev.length + es.length - 1) / 400
  | [], l, a, v, h1, h2, h3 => by
    simp only [runV, List.foldl_nil, List.length_append, List.length_cons, List.length_nil]
    omega
  | e :: es, l, a, v, h1, h2, h3 => by
    simp only [runV, List.foldl_cons]
    rw [packS_snoc]
    have hg : (a.first + (a.ev.length : Int) == v) = true := by rw [beq_iff_eq]; exact h1
    by_cases hc : a.ev.length < 400
    · rw [if_pos (by unfold goesM; rw [hg, decide_eq_true hc]; rfl)]
      have ih := run_go es l ⟨a.all, a.first, a.ev ++ [e]⟩ (v + 1) (by simp only [List.length_append, List.length_cons, List.length_nil]; omega) (by simp) (by simp only [List.length_append, List.length_cons, List.length_nil]; omega)
      simp only [List.length_append, List.length_cons, List.length_nil] at ih ⊢
      omega
    · rw [if_neg (by unfold goesM; rw [decide_eq_false hc, Bool.and_false]; decide)]
      have ih := run_go es (l ++ [a]) ⟨false, v, [e]⟩ (v + 1) (by simp) (by simp) (by simp)
      simp only [List.length_append, List.length_cons, List.length_nil] at ih ⊢
      omega

/-- A run of at most 400 makes at most one more. -/
theorem run_le (es : List Int) (he : es.length ≤ 400) (l : List Mv) (v : Int) (hl : ∀ a ∈ l, 0 < a.ev.length ∧ a.ev.length ≤ 400) : ((runV v es).foldl mpkS l).length ≤ l.length + 1 := by
  cases es with
  | nil => simp [runV]
  | cons e es =>
    rcases List.eq_nil_or_concat l with rfl | ⟨l0, a, rfl⟩
    · simp only [runV, List.foldl_cons, packS_nil]
      have ih := run_go es [] ⟨false, v, [e]⟩ (v + 1) (by simp) (by simp) (by simp)
      simp only [List.nil_append, List.length_cons, List.length_nil] at ih he ⊢
      omega
    · have ha := hl a (by simp)
      by_cases hg : a.first + (a.ev.length : Int) = v
      · have ih := run_go (e :: es) l0 a v hg ha.1 ha.2
        simp only [List.concat_eq_append, List.length_append, List.length_cons, List.length_nil] at ih he ⊢
        omega
      · simp only [runV, List.foldl_cons, List.concat_eq_append]
        rw [packS_snoc, if_neg (by unfold goesM; rw [beq_eq_false_iff_ne.2 hg, Bool.false_and]; decide)]
        have ih := run_go es (l0 ++ [a]) ⟨false, v, [e]⟩ (v + 1) (by simp) (by simp) (by simp)
        simp only [List.length_append, List.length_cons, List.length_nil] at ih he ⊢
        omega

/-- What is packed has one to 400 events each. -/
theorem packS_ok (l : List Mv) (p : Pr) (hl : ∀ a ∈ l, 0 < a.ev.length ∧ a.ev.length ≤ 400) : ∀ a ∈ mpkS l p, 0 < a.ev.length ∧ a.ev.length ≤ 400 := by
  rcases List.eq_nil_or_concat l with rfl | ⟨l0, b, rfl⟩
  · rw [packS_nil]
    intro a ha
    rw [List.mem_singleton.1 ha]
    exact ⟨by simp, by simp⟩
  · rw [List.concat_eq_append] at hl ⊢
    rw [packS_snoc]
    have hb := hl b (by simp)
    split
    · rename_i hg
      have hc : b.ev.length < 400 := by
        unfold goesM at hg
        simp only [Bool.and_eq_true, decide_eq_true_eq] at hg
        exact hg.2
      intro a ha
      rcases List.mem_append.1 ha with q | q
      · exact hl a (by simp [q])
      · rw [List.mem_singleton.1 q]
        exact ⟨by simp, by simp only [List.length_append, List.length_cons, List.length_nil]; omega⟩
    · intro a ha
      rcases List.mem_append.1 ha with q | q
      · exact hl a q
      · rw [List.mem_singleton.1 q]
        exact ⟨by simp, by simp⟩

theorem fold_ok : ∀ (ps : List Pr) (l : List Mv), (∀ a ∈ l, 0 < a.ev.length ∧ a.ev.length ≤ 400) → ∀ a ∈ ps.foldl mpkS l, 0 < a.ev.length ∧ a.ev.length ≤ 400
  | [], l, hl => hl
  | p :: ps, l, hl => fold_ok ps (mpkS l p) (packS_ok l p hl)

theorem prsF_run (f : Int) : ∀ (es : List Int) (i : Nat), -100000 ≤ f → f + (i : Int) + es.length ≤ 100000 → prsF f i es = runV (f + (i : Int)) es
  | [], i, _, _ => rfl
  | e :: es, i, h1, h2 => by
    have h2' : f + (i : Int) + ((es.length : Int) + 1) ≤ 100000 := by simpa using h2
    rw [prsF, runV, prsF_run f es (i + 1) h1 (by omega)]
    rw [show IntKind.i64.wrap (f + (i : Int)) = f + (i : Int) by rw [IntKind.wrap_i64] <;> omega, show f + ((i + 1 : Nat) : Int) = f + (i : Int) + 1 by omega]

/-- Nobody tells them by fewer. -/
theorem pack_each : ∀ (A : List Mv) (l : List Mv), (∀ x ∈ A, okMv x = true) → (∀ a ∈ l, 0 < a.ev.length ∧ a.ev.length ≤ 400) → ((eachL A).foldl mpkS l).length ≤ l.length + A.length
  | [], l, _, _ => by simp [eachL]
  | x :: A, l, hA, hl => by
    have hx := hA x (by simp)
    have hf := okMv_first hx
    have hn := okMv_len hx
    rw [show eachL (x :: A) = prsF x.first 0 x.ev ++ eachL A from rfl, List.foldl_append, prsF_run x.first x.ev 0 (by omega) (by omega)]
    have h1 := run_le x.ev hn l (x.first + ((0 : Nat) : Int)) hl
    have h2 := pack_each A ((runV (x.first + ((0 : Nat) : Int)) x.ev).foldl mpkS l) (fun y hy => hA y (by simp [hy])) (fold_ok _ l hl)
    rw [List.length_cons]
    omega

/-- What is packed tells what it was packed of. -/
theorem eachL_one (x : Mv) : eachL [x] = prsF x.first 0 x.ev := by simp [eachL]

theorem packS_tells (l : List Mv) (p : Pr) (hp : -100000 ≤ p.vid ∧ p.vid ≤ 100000) : eachL (mpkS l p) = eachL l ++ [p] := by
  have hw : IntKind.i64.wrap p.vid = p.vid := by rw [IntKind.wrap_i64] <;> omega
  have h1 : prsF p.vid 0 [p.ev] = [p] := by
    simp only [prsF]
    rw [show p.vid + ((0 : Nat) : Int) = p.vid by omega, hw]
  rcases List.eq_nil_or_concat l with rfl | ⟨l0, b, rfl⟩
  · rw [packS_nil, eachL_one, h1]
    rfl
  · rw [List.concat_eq_append, packS_snoc]
    split
    · rename_i hg
      have hv : b.first + (b.ev.length : Int) = p.vid := by
        unfold goesM at hg
        simp only [Bool.and_eq_true, beq_iff_eq] at hg
        exact hg.1
      rw [eachL_append, eachL_append, eachL_one, eachL_one]
      simp only
      rw [prsF_snoc, Nat.zero_add, hv, hw, List.append_assoc]
    · rw [eachL_append, eachL_one]
      simp only
      rw [h1]

theorem fold_tells : ∀ (ps : List Pr) (l : List Mv), (∀ p ∈ ps, -100000 ≤ p.vid ∧ p.vid ≤ 100000) → eachL (ps.foldl mpkS l) = eachL l ++ ps
  | [], l, _ => by simp
  | p :: ps, l, h => by
    rw [List.foldl_cons, fold_tells ps _ (fun q hq => h q (by simp [hq])), packS_tells l p (h p (by simp)), List.append_assoc]
    rfl

/-- What is packed of VIDs and events that may be may be. -/
def okPk (a : Mv) : Prop := a.all = false ∧ 0 < a.ev.length ∧ a.ev.length ≤ 400 ∧ 1 ≤ a.first ∧ a.first + (a.ev.length : Int) ≤ 4095 ∧ ∀ e ∈ a.ev, okE5 e = true

theorem okPk_ok {a : Mv} (h : okPk a) : okMv a = true := by
  obtain ⟨h1, h2, h3, h4, h5, h6⟩ := h
  unfold okMv
  rw [if_neg (by omega), decide_eq_true h3, decide_eq_true h4, decide_eq_true (show a.first ≤ 4095 - (a.ev.length : Int) by omega), List.all_eq_true.2 h6]
  rfl

def okPr (p : Pr) : Prop := 1 ≤ p.vid ∧ p.vid ≤ 4094 ∧ okE5 p.ev = true

theorem okPk_one {p : Pr} (h : okPr p) : okPk ⟨false, p.vid, [p.ev]⟩ := ⟨rfl, by simp, by simp, h.1, by have := h.2.1; simp only [List.length_cons, List.length_nil]; omega, fun e he => by rw [List.mem_singleton.1 he]; exact h.2.2⟩

theorem packS_pk (l : List Mv) (p : Pr) (hp : okPr p) (hl : ∀ a ∈ l, okPk a) : ∀ a ∈ mpkS l p, okPk a := by
  rcases List.eq_nil_or_concat l with rfl | ⟨l0, b, rfl⟩
  · rw [packS_nil]
    intro a ha
    rw [List.mem_singleton.1 ha]
    exact okPk_one hp
  · rw [List.concat_eq_append] at hl ⊢
    rw [packS_snoc]
    have hb := hl b (by simp)
    split
    · rename_i hg
      unfold goesM at hg
      simp only [Bool.and_eq_true, decide_eq_true_eq, beq_iff_eq] at hg
      intro a ha
      rcases List.mem_append.1 ha with q | q
      · exact hl a (by simp [q])
      · rw [List.mem_singleton.1 q]
        refine ⟨hb.1, by simp, by simp only [List.length_append, List.length_cons, List.length_nil]; omega, hb.2.2.2.1, by have := hp.2.1; simp only [List.length_append, List.length_cons, List.length_nil]; omega, fun e he => ?_⟩
        rcases List.mem_append.1 he with r | r
        · exact hb.2.2.2.2.2 e r
        · rw [List.mem_singleton.1 r]
          exact hp.2.2
    · intro a ha
      rcases List.mem_append.1 ha with q | q
      · exact hl a q
      · rw [List.mem_singleton.1 q]
        exact okPk_one hp

theorem fold_pk : ∀ (ps : List Pr) (l : List Mv), (∀ p ∈ ps, okPr p) → (∀ a ∈ l, okPk a) → ∀ a ∈ ps.foldl mpkS l, okPk a
  | [], l, _, hl => hl
  | p :: ps, l, h, hl => fold_pk ps (mpkS l p) (fun q hq => h q (by simp [hq])) (packS_pk l p (h p (by simp)) hl)

end Go.Proofs.YtdjljnpbnhampaaDoor

namespace Go.Proofs.YtdjljnpbnhampaaDoor
open Go.RowKit
attribute [local go_sem ↓] Go.wp_at_zero Go.wp_at_succ
set_option linter.unusedSimpArgs false
set_option linter.unusedVariables false
set_option maxRecDepth 100000

theorem OwnIv.apart {w w' : World} {base : Nat} {v : Value} {l : List Int} {row : Option Nat} (h : OwnIv w base v l) (hg : w.grownBy w' row) (hr : ∀ g, v.ownBlock = some g → some g ≠ row) : OwnIv w' base v l := by
  rcases h with h | ⟨h1, g, cap, rfl, h2⟩
  · exact Or.inl h
  · exact Or.inr ⟨h1, g, cap, rfl, h2.kept hg (Or.inr (hr g rfl))⟩

theorem OwnIv.lt {w : World} {base : Nat} {v : Value} {l : List Int} (h : OwnIv w base v l) : ∀ g, v.ownBlock = some g → base ≤ g ∧ g < w.heap.size := by
  rcases h with ⟨_, rfl⟩ | ⟨h1, g, cap, rfl, h2⟩
  · intro g e; cases e
  · exact h2.lt

/-- No attribute goes on with a VID. -/
def NoGoB (L : List Mv) (v : Int) : Prop := ∀ (l : List Mv) (b : Mv), L = l ++ [b] → goesM b v = false

theorem packS_no {L : List Mv} {p : Pr} (h : NoGoB L p.vid) : mpkS L p = L ++ [⟨false, p.vid, [p.ev]⟩] := by
  rcases List.eq_nil_or_concat L with rfl | ⟨l, b, rfl⟩
  · rfl
  · rw [List.concat_eq_append] at h ⊢
    rw [packS_snoc, h l b rfl]
    simp

/-- Where an attribute's events lie. -/
def evV (x : MvH) : Value := .slice x.a x.x.ev.length x.c

/-- What is packed so far. -/
def PkSt (w : World) (base : Nat) (v : Value) (L : List Mv) : Prop := (L = [] ∧ v = .slice none 0 0) ∨ ∃ (hs : List MvH) (y : MvH) (D : Nat), L = xs hs ++ [y.x] ∧ OwnMh w base v (hs ++ [y]) ∧ base ≤ D ∧ D ≤ w.heap.size ∧
  (∀ x ∈ hs, OwnIv w base (evV x) x.x.ev ∧ ∀ g, (evV x).ownBlock = some g → g < D) ∧ OwnIv w D (evV y) y.x.ev

theorem PkSt.nil (w : World) (base : Nat) : PkSt w base (.slice none 0 0) [] := Or.inl ⟨rfl, rfl⟩

theorem grown0 {w w' : World} (hb : Below w.heap.size w w') : w.grownBy w' none := ⟨hb.os, hb.tape, hb.output, hb.size, fun k hk _ => hb.block k hk⟩

theorem PkSt.kept {w w' : World} {base : Nat} {v : Value} {L : List Mv} (h : PkSt w base v L) (hb : Below w.heap.size w w') : PkSt w' base v L := by
  rcases h with h | ⟨hs, y, D, h1, h2, h3, h4, h5, h6⟩
  · exact Or.inl h
  · exact Or.inr ⟨hs, y, D, h1, h2.kept hb, h3, Nat.le_trans h4 hb.size, fun x hx => ⟨(h5 x hx).1.kept hb, (h5 x hx).2⟩, h6.kept hb⟩

theorem PkSt.drew {w : World} {base : Nat} {v : Value} {L : List Mv} (h : PkSt w base v L) : PkSt w.drew base v L := h

theorem PkSt.asb {w : World} {base : Nat} {v : Value} {L : List Mv} (h : PkSt w base v L) : ∃ hs, xs hs = L ∧ OwnAs w base v hs := by
  rcases h with ⟨rfl, rfl⟩ | ⟨hs, y, D, h1, h2, h3, h4, h5, h6⟩
  · exact ⟨[], rfl, OwnAs.nil w base⟩
  · refine ⟨hs ++ [y], by rw [h1]; simp [xs], h2, fun x hx => ?_⟩
    rcases List.mem_append.1 hx with q | q
    · exact (h5 x q).1
    · rw [List.mem_singleton.1 q]
      exact h6.mono h3

theorem iv_one {w : World} {e : Nat} {x : Int} (h : Blk w e 3 (ivC x)) : OwnIv w e (.slice (some ⟨e, 0, none⟩) 1 1) [x] := by
  refine Or.inr ⟨by simp, e, 1, rfl, ?_⟩
  refine ⟨rfl, Or.inr ⟨e, 1, ivC x, rfl, Nat.le_refl _, h, Nat.le_refl _, by unfold maxLen; omega, rfl, rfl⟩⟩

/-- The row of attributes is written anew: events are kept. -/
theorem iv_mh {w w' : World} {base B : Nat} {v u : Value} {hs : List MvH} {l : List Int} (hM : OwnMh w base v hs) (hg : w.grownBy w' v.ownBlock) (h : OwnIv w B u l) : OwnIv w' B u l := by
  rcases hM.blk with e | ⟨g, C, e, _, hb⟩
  · rw [e] at hg
    exact h.apart hg (fun g q => by simp)
  · rw [e] at hg
    exact h.other hb (by decide) hg

/-- Events are written anew: the row of attributes is kept. -/
theorem mh_ev {w w' : World} {base B : Nat} {v u : Value} {hs : List MvH} {l : List Int} (h : OwnMh w base v hs) (hI : OwnIv w B u l) (hg : w.grownBy w' u.ownBlock) : OwnMh w' base v hs := by
  rcases hI.blk with e | ⟨g, C, e, _, hb⟩
  · rw [e] at hg
    exact h.grown hg (fun g q => by cases q)
  · rw [e] at hg
    exact h.other hb (by decide) hg

/-- One field of the last is stored anew. -/
theorem own_last {w w' : World} {base g cap n : Nat} {A : List MvH} {y z : MvH} {cur : Array Value} (hn : (A ++ [y]).length = n)
    (h : w.ownsRow base 92 3 (.slice (some ⟨g, 0, none⟩) n cap) n (mvR (A ++ [y]))) (hg : Blk w g 92 cur) (hz1 : z.x.all = y.x.all) (hz2 : z.x.first = y.x.first)
    (hw : Blk w' g 92 (cur.setIfInBounds (A.length * 3 + 2) (evV z))) :
    w'.ownsRow base 92 3 (.slice (some ⟨g, 0, none⟩) n cap) n (mvR (A ++ [z])) := by
  obtain ⟨h0, h1⟩ := h
  have hl2 : (A ++ [z]).length = n := by rw [← hn]; simp
  refine ⟨by rw [mvR_len, hl2], ?_⟩
  rcases h1 with ⟨h1, h2⟩ | ⟨g', cap', cur', e1, e2, e3, e4, e5, e6, e7⟩
  · cases h1
  · cases e1
    have ec : cur' = cur := by
      have q : w.heap[g]? = some (.cells cur 92 (0, 0)) := hg
      rw [q] at e3
      cases e3
      rfl
    subst ec
    refine Or.inr ⟨g, cap, _, rfl, e2, hw, e4, e5, by rw [Array.size_setIfInBounds]; exact e6, ?_⟩
    rw [Array.toList_setIfInBounds, List.take_set, e7, mvR_append, mvR_append, mvR_one, mvR_one, List.set_append_right _ _ (by rw [mvR_len]; omega), mvR_len, show A.length * 3 + 2 - A.length * 3 = 2 by omega]
    simp only [mvC, hz1, hz2]
    rfl

theorem own_mhblk {w : World} {base g cap n : Nat} {l : List MvH} (h : w.ownsRow base 92 3 (.slice (some ⟨g, 0, none⟩) n cap) n (mvR l)) : ∃ cur, Blk w g 92 cur ∧ n * 3 ≤ cur.size ∧ base ≤ g := by
  rcases h.2 with ⟨h1, -⟩ | ⟨g', cap', cur', e1, e2, e3, e4, e5, e6, e7⟩
  · cases h1
  · cases e1
    exact ⟨cur', e3, by rw [e6]; exact Nat.mul_le_mul_right 3 e4, e2⟩

/-- The last of a row that is not empty. -/
theorem mh_last {w : World} {base : Nat} {v : Value} {hs : List MvH} {y : MvH} (h : OwnMh w base v (hs ++ [y])) : ∃ g cap cur, v = .slice (some ⟨g, 0, none⟩) (hs.length + 1) cap ∧ base ≤ g ∧ Blk w g 92 cur ∧ hs.length * 3 + 3 ≤ cur.size ∧ CellsAt w g (hs.length * 3) (mvC y) ∧
    w.ownsRow base 92 3 (.slice (some ⟨g, 0, none⟩) (hs.length + 1) cap) (hs.length + 1) (mvR (hs ++ [y])) := by
  rcases h with ⟨h1, _⟩ | ⟨h1, g, cap, e, h2⟩
  · simp at h1
  · have hl : (hs ++ [y]).length = hs.length + 1 := by simp
    rw [e, hl] at h2
    rw [hl] at e
    obtain ⟨cur, q1, q2, q3⟩ := own_mhblk h2
    have hat := mh_own hl.symm h2
    have h3 := hat hs.length (by rw [hl]; omega)
    rw [Nat.zero_add] at h3
    have h4 : (hs ++ [y])[hs.length]'(by rw [hl]; omega) = y := by simp
    rw [h4] at h3
    exact ⟨g, cap, cur, e, q3, q1, by omega, h3, h2⟩

theorem blk_ne {w : World} {A B : Nat} {S T : TypeId} {C E : Array Value} (h1 : Blk w A S C) (h2 : Blk w B T E) (hT : S ≠ T) : A ≠ B := by
  rintro rfl
  have q1 : w.heap[A]? = some (.cells C S (0, 0)) := h1
  have q2 : w.heap[A]? = some (.cells E T (0, 0)) := h2
  rw [q1] at q2
  injection q2 with q2
  injection q2 with _ q3
  exact hT q3

/-- One more event of the last attribute. -/
theorem PkSt.go {w w1 w2 : World} {base g cap D n : Nat} {hs : List MvH} {y : MvH} {L : List Mv} {p : Pr} {v1 : Value} {cur : Array Value} (hn : n = hs.length) (hL : L = xs hs ++ [y.x]) (hg : goesM y.x p.vid = true)
    (hrow : w.ownsRow base 92 3 (.slice (some ⟨g, 0, none⟩) (n + 1) cap) (n + 1) (mvR (hs ++ [y]))) (hbg : base ≤ g) (hcur : Blk w g 92 cur) (hbD : base ≤ D) (hDw : D ≤ w.heap.size)
    (hev : ∀ x ∈ hs, OwnIv w base (evV x) x.x.ev ∧ ∀ q, (evV x).ownBlock = some q → q < D) (hI : OwnIv w D (evV y) y.x.ev)
    (h1 : OwnIv w1 D v1 (y.x.ev ++ [p.ev])) (g1 : w.grownBy w1 (evV y).ownBlock) (g2 : w1.grownBy w2 (some g)) (h2 : Blk w2 g 92 (cur.setIfInBounds (n * 3 + 2) v1)) :
    PkSt w2 base (.slice (some ⟨g, 0, none⟩) (n + 1) cap) (mpkS L p) := by
  subst hn
  have hM : OwnMh w base (.slice (some ⟨g, 0, none⟩) (hs.length + 1) cap) (hs ++ [y]) := Or.inr ⟨by simp, g, cap, by simp, by simpa using hrow⟩
  have hM1 := mh_ev hM hI g1
  have hcur1 : Blk w1 g 92 cur := by
    rcases hI.blk with e | ⟨q, C, e, _, hb⟩
    · rw [e] at g1
      exact hcur.grown g1 (by simp)
    · rw [e] at g1
      refine hcur.grown g1 ?_
      intro e2
      cases e2
      exact blk_ne hcur hb (by decide) rfl
  obtain ⟨a1, c1, e1, hi1⟩ := h1.inL
  subst e1
  have hl3 : (hs ++ [(⟨⟨y.x.all, y.x.first, y.x.ev ++ [p.ev]⟩, a1, c1⟩ : MvH)]).length = hs.length + 1 := by simp
  refine Or.inr ⟨hs, ⟨⟨y.x.all, y.x.first, y.x.ev ++ [p.ev]⟩, a1, c1⟩, D, ?_, ?_, hbD, Nat.le_trans hDw (Nat.le_trans g1.size g2.size), ?_, ?_⟩
  · rw [hL, packS_snoc, if_pos hg]
  · refine Or.inr ⟨by simp, g, cap, by rw [hl3], ?_⟩
    rw [hl3]
    rcases hM1 with ⟨q, _⟩ | ⟨_, g', cap', e', r'⟩
    · simp at q
    · injection e' with e1 e2 e3
      cases e1
      subst e3
      have hl4 : (hs ++ [y]).length = hs.length + 1 := by simp
      rw [hl4] at r'
      exact own_last hl4 r' hcur1 rfl rfl h2
  · intro x hx
    have q := hev x hx
    refine ⟨?_, q.2⟩
    have q1 := q.1.apart g1 (fun r hr => by
      rcases hI.blk with e | ⟨q', C, e, hq', hb⟩
      · rw [e]; simp
      · rw [e]
        intro e2
        cases e2
        have := q.2 r hr
        omega)
    exact q1.other hcur1 (by decide) g2
  · exact h1.other hcur1 (by decide) g2

/-- One alone. -/
theorem PkSt.alone {w w1 : World} {base E : Nat} {v v1 : Value} {hs : List MvH} {L : List Mv} {p : Pr} (hL : L = xs hs) (hM : OwnMh w base v hs) (hev : ∀ x ∈ hs, OwnIv w base (evV x) x.x.ev ∧ ∀ q, (evV x).ownBlock = some q → q < E) (hbE : base ≤ E)
    (hE : Blk w E 3 (ivC p.ev)) (hno : NoGoB L p.vid) (h1 : OwnMh w1 base v1 (hs ++ [⟨⟨false, p.vid, [p.ev]⟩, some ⟨E, 0, none⟩, 1⟩])) (g1 : w.grownBy w1 v.ownBlock) : PkSt w1 base v1 (mpkS L p) := by
  refine Or.inr ⟨hs, ⟨⟨false, p.vid, [p.ev]⟩, some ⟨E, 0, none⟩, 1⟩, E, ?_, h1, hbE, Nat.le_trans (Nat.le_of_lt hE.lt) g1.size, ?_, ?_⟩
  · rw [hL] at hno ⊢
    exact packS_no hno
  · intro x hx
    exact ⟨iv_mh hM g1 (hev x hx).1, (hev x hx).2⟩
  · exact iv_mh hM g1 (iv_one hE)

/-- What is packed, where it is something. -/
theorem PkSt.last {w : World} {base : Nat} {v : Value} {L : List Mv} (h : PkSt w base v L) (hne : L ≠ []) : ∃ (hs : List MvH) (y : MvH) (D : Nat), L = xs hs ++ [y.x] ∧ OwnMh w base v (hs ++ [y]) ∧ base ≤ D ∧ D ≤ w.heap.size ∧
    (∀ x ∈ hs, OwnIv w base (evV x) x.x.ev ∧ ∀ g, (evV x).ownBlock = some g → g < D) ∧ OwnIv w D (evV y) y.x.ev ∧ (∀ x ∈ hs ++ [y], OwnIv w base (evV x) x.x.ev ∧ ∀ g, (evV x).ownBlock = some g → g < w.heap.size) := by
  rcases h with ⟨q, _⟩ | ⟨hs, y, D, h1, h2, h3, h4, h5, h6⟩
  · exact absurd q hne
  · refine ⟨hs, y, D, h1, h2, h3, h4, h5, h6, fun x hx => ?_⟩
    rcases List.mem_append.1 hx with q | q
    · exact ⟨(h5 x q).1, fun r hr => Nat.lt_of_lt_of_le ((h5 x q).2 r hr) h4⟩
    · rw [List.mem_singleton.1 q]
      exact ⟨h6.mono h3, fun r hr => (h6.lt r hr).2⟩

theorem nogoB_last {hs : List MvH} {y : MvH} {v : Int} (h : goesM y.x v = false) : NoGoB (xs hs ++ [y.x]) v := by
  intro l b e
  obtain ⟨-, e2⟩ := List.append_inj' e rfl
  obtain rfl : y.x = b := by simpa using e2
  exact h

theorem xs_last (hs : List MvH) (y : MvH) : xs (hs ++ [y]) = xs hs ++ [y.x] := by simp [xs]

end Go.Proofs.YtdjljnpbnhampaaDoor

namespace Go.Proofs.YtdjljnpbnhampaaDoor
open Go.RowKit
attribute [local go_sem ↓] Go.wp_at_zero Go.wp_at_succ
set_option linter.unusedSimpArgs false
set_option linter.unusedVariables false
set_option maxRecDepth 100000

/-- Block c is a cursor over s, at p, from off on. -/
def Cur (w : World) (c : Nat) (s : ByteArray) (p off : Nat) : Prop := Blk w c 101 #[.string s, .int .i64 p, .int .i64 off]

/-- What is thrown. -/
def Thr (e pl : Int) : Value := .iface 154 (.agg #[.int .i64 e, .int .i64 pl])

def Thrown (e pl : Int) : List PanicEntry := [{ v := Thr e pl, recovered := false }]

theorem throw_any {w : World} {c p off : Nat} {s : ByteArray} (h : Cur w c s p off) (e : Int) (x : Int) (hx : 0 ≤ x) (hb : (off : Int) + x ≤ 281474976710656) :
    Calls Tryd.prog 34 #[.pointer (some ⟨c, 0, none⟩), .int .i64 e, .int .i64 x] w fun r w' => r = .panicked (Thrown e (off + x)) ∧ w = w' := by
  have c2 := h.cv 2 (.int .i64 off) rfl
  unfold Thrown Thr
  go_enter Tryd.func34, Tryd.ntmps34
  go_wp2
  exact ⟨rfl, rfl, rfl⟩

theorem Cur.set {w : World} {c p off : Nat} {s : ByteArray} (h : Cur w c s p off) (q : Int) : (w.setCell ⟨c, 1, none⟩ (.int .i64 q)).heap[c]? = some (.cells #[.string s, .int .i64 q, .int .i64 off] 101 (0, 0)) := by
  have h' : w.heap[c]? = some (.cells #[.string s, .int .i64 p, .int .i64 off] 101 (0, 0)) := h
  show (w.heap.modify c _)[c]? = _
  rw [Array.getElem?_modify, if_pos rfl, h']
  rfl

theorem Cur.drew {w : World} {c p off : Nat} {s : ByteArray} (h : Cur w c s p off) : Cur w.drew c s p off := h

theorem Cur.lt {w : World} {c p off : Nat} {s : ByteArray} (h : Cur w c s p off) : c < w.heap.size := Blk.lt h

theorem Cur.below {w w' : World} {c p off : Nat} {s : ByteArray} (h : Cur w c s p off) (hb : Below w.heap.size w w') : Cur w' c s p off := Blk.kept h hb

theorem grownC (w : World) (c i : Nat) (v : Value) : w.grownBy (w.setCell ⟨c, i, none⟩ v) (some c) :=
  ⟨rfl, rfl, rfl, by simp [World.setCell], fun k _ hne => Below.heap_setCell _ _ _ _ (by intro e; exact hne (by rw [e]))⟩

theorem cutT (s : ByteArray) (p n : Nat) : s.extract p (p + n) = ⟨((s.data.toList.drop p).take n).toArray⟩ := by
  apply ByteArray.ext
  apply Array.toList_inj.1
  rw [extract_list]
  simp

theorem eat_ok {w : World} {c p off : Nat} {s : ByteArray} (h : Cur w c s p off) (n : Nat) (hn : p + n ≤ s.size) (hb : off + s.size ≤ 281474976710656) :
    Calls Tryd.prog 35 #[.pointer (some ⟨c, 0, none⟩), .int .i64 n] w fun r w' => r = .returned (.string ⟨((s.data.toList.drop p).take n).toArray⟩) ∧ Cur w' c s (p + n) off ∧ w.grownBy w' (some c) := by
  have c0 := h.cv 0 (.string s) rfl
  have c1 := h.cv 1 (.int .i64 p) rfl
  have z1 := h.fz 1
  have hd : decide ((s.size : Int) - p < n) = false := decide_eq_false (by omega)
  have HC := Lib.hid (cutT s p n)
  have HS := Lib.hid (h.set ((p + n : Nat) : Int))
  have HG := Lib.hid (grownC w c 1 (.int .i64 ((p + n : Nat) : Int)))
  clear h
  rw [← HC.out]
  go_enter Tryd.func35, Tryd.ntmps35
  go_wp2
  go_region
  go_wp2
  go_region
  go_wp2
  go_ret
  exact ⟨rfl, HS.out, HG.out.os, HG.out.tape, HG.out.output, HG.out.size, HG.out.block⟩

theorem eat_bad {w : World} {c p off : Nat} {s : ByteArray} (h : Cur w c s p off) (n : Nat) (hn : ¬ p + n ≤ s.size) (hp : p ≤ s.size) (hn2 : n ≤ 1000000) (hb : off + s.size ≤ 281474976710656) :
    Calls Tryd.prog 35 #[.pointer (some ⟨c, 0, none⟩), .int .i64 n] w fun r w' => r = .panicked (Thrown 7 (off + p)) ∧ Below w.heap.size w w' := by
  have c0 := h.cv 0 (.string s) rfl
  have c1 := h.cv 1 (.int .i64 p) rfl
  have hd : decide ((s.size : Int) - p < n) = true := decide_eq_true (by omega)
  have hbl : Below w.heap.size w w := Below.refl _ _
  have HD : Cur w.drew c s p off := h
  clear h
  go_enter Tryd.func35, Tryd.ntmps35
  go_wp2
  go_region
  go_wp2_with fail
  refine (throw_any HD 7 p (by omega) (by omega)).mono ?_
  rintro e w2 ⟨rfl, rfl⟩
  go_wp2
  exact ⟨rfl, rfl, hbl.os, hbl.tape, hbl.output, hbl.size, hbl.block⟩

set_option maxHeartbeats 1000000 in
theorem cnum_ok {w : World} {c p off : Nat} {s : ByteArray} (h : Cur w c s p off) (n : Nat) (hn7 : n ≤ 7) (hn : p + n ≤ s.size) (hb : off + s.size ≤ 281474976710656) :
    Calls Tryd.prog 32 #[.pointer (some ⟨c, 0, none⟩), .int .i64 n] w fun r w' => r = .returned (.int .i64 (beN ((s.data.toList.drop p).take n))) ∧ Cur w' c s (p + n) off ∧ w.grownBy w' (some c) := by
  have hLn : ((s.data.toList.drop p).take n).length = n := by rw [List.length_take, List.length_drop]; simp; omega
  have HE : Hid (Calls Tryd.prog 35 #[.pointer (some ⟨c, 0, none⟩), .int .i64 n] w fun r w' => r = .returned (.string ⟨((s.data.toList.drop p).take n).toArray⟩) ∧ Cur w' c s (p + n) off ∧ w.grownBy w' (some c)) := eat_ok h n hn hb
  clear h hn hb
  generalize ((s.data.toList.drop p).take n) = t at *
  go_enter Tryd.func32, Tryd.ntmps32
  go_wp2_with fail
  refine HE.out.mono ?_
  rintro e w' ⟨rfl, hr, hg⟩
  have hcv := fun W => run_bytes_of_string (P := Tryd.prog) W 9 157 5 ⟨t.toArray⟩ Tryd.underlying9 Tryd.underlying157 Tryd.underlying5
  have hsz : (⟨t.toArray⟩ : ByteArray).size = n := by simp [ByteArray.size, hLn]
  go_wp2
  have hB := byteRow_new w' ⟨t.toArray⟩ (grownCap w' n 0 5) 5
  have hR : Cur ((w'.alloc (Obj.cells (bytesRow ⟨t.toArray⟩ (grownCap w' n 0 5)) 5 ((bytesRow ⟨t.toArray⟩ (grownCap w' n 0 5)).size, (bytesRow ⟨t.toArray⟩ (grownCap w' n 0 5)).size + 1))).drew) c s (p + n) off := Blk.alloc hr _
  have hG : w.grownBy ((w'.alloc (Obj.cells (bytesRow ⟨t.toArray⟩ (grownCap w' n 0 5)) 5 ((bytesRow ⟨t.toArray⟩ (grownCap w' n 0 5)).size, (bytesRow ⟨t.toArray⟩ (grownCap w' n 0 5)).size + 1))).drew) (some c) := by
    have k2 := grownBy_trans hg (World.grownBy_alloc w' (Obj.cells (bytesRow ⟨t.toArray⟩ (grownCap w' n 0 5)) 5 ((bytesRow ⟨t.toArray⟩ (grownCap w' n 0 5)).size, (bytesRow ⟨t.toArray⟩ (grownCap w' n 0 5)).size + 1)) (some c))
    exact ⟨k2.os, k2.tape, k2.output, k2.size, k2.block⟩
  have HL := Lib.hid hLn
  clear hLn hcv hsz hr hg
  generalize ((w'.alloc (Obj.cells (bytesRow ⟨t.toArray⟩ (grownCap w' n 0 5)) 5 ((bytesRow ⟨t.toArray⟩ (grownCap w' n 0 5)).size, (bytesRow ⟨t.toArray⟩ (grownCap w' n 0 5)).size + 1))).drew) = W1 at *
  have hB' : ByteRow W1 w'.heap.size t := hB
  clear hB
  go_loop [5, 13] (fun x i => ∃ k : Nat, k ≤ n ∧ i = .int .i64 k ∧ x = .int .i64 (beN (t.take k))) (fun _ i => n - (intOf i).toNat)
  case atStart => exact ⟨0, by omega, rfl, rfl⟩
  case round =>
    obtain ⟨k, hk, rfl, rfl⟩ := hrel
    by_cases hlt : k < n
    · have hcell := hB' k (t[k]'(by rw [HL.out]; exact hlt)) (List.getElem?_eq_getElem _)
      have hX : beN (t.take k) < 281474976710656 := by
        have h := beN_lt (t.take k)
        have hl : (t.take k).length = k := by rw [List.length_take, HL.out]; omega
        rw [hl] at h
        have h7 : 256 ^ k ≤ 256 ^ 6 := Nat.pow_le_pow_right (by omega) (by omega)
        omega
      have HN := Lib.hid (take_snoc t k (by rw [HL.out]; exact hlt))
      have hb8 := (t[k]'(by rw [HL.out]; exact hlt)).toNat_lt
      generalize (t[k]'(by rw [HL.out]; exact hlt)) = b at *
      have q1 : (0 : Int) ≤ (beN (t.take k) : Int) := by omega
      have q2 : (beN (t.take k) : Int) < 281474976710656 := by omega
      have q3 : (0 : Int) ≤ (b.toNat : Int) := by omega
      have q4 : (b.toNat : Int) < 256 := by omega
      clear hX hb8
      go_wp2
      go_round
      case rel => exact ⟨k + 1, by omega, by go_num, by rw [HN.out, beN_snoc]; simp⟩
      case measure => simp [intOf]; omega
    · obtain rfl : k = n := by omega
      have HK := Lib.hid (List.take_of_length_le (l := t) (i := k) (by rw [HL.out]; omega))
      go_wp2
      go_ret
      exact ⟨by rw [HK.out]; rfl, hR, hG⟩

/-- Missing bytes are missing for a number, too. -/
theorem cnum_bad {w : World} {c p off : Nat} {s : ByteArray} (h : Cur w c s p off) (n : Nat) (hn : ¬ p + n ≤ s.size) (hp : p ≤ s.size) (hn2 : n ≤ 1000000) (hb : off + s.size ≤ 281474976710656) :
    Calls Tryd.prog 32 #[.pointer (some ⟨c, 0, none⟩), .int .i64 n] w fun r w' => r = .panicked (Thrown 7 (off + p)) ∧ Below w.heap.size w w' := by
  have HE : Hid (Calls Tryd.prog 35 #[.pointer (some ⟨c, 0, none⟩), .int .i64 n] w fun r w' => r = .panicked (Thrown 7 (off + p)) ∧ Below w.heap.size w w') := eat_bad h n hn hp hn2 hb
  clear h hn hb
  go_enter Tryd.func32, Tryd.ntmps32
  go_wp2_with fail
  refine HE.out.mono ?_
  rintro e w' ⟨rfl, hb2⟩
  go_wp2
  exact ⟨rfl, rfl, hb2⟩

/-- Just these bytes. -/
theorem want_ok {w : World} {c p off : Nat} {s t : ByteArray} (h : Cur w c s p off) (hn : p + t.size ≤ s.size) (ht : (s.data.toList.drop p).take t.size = t.data.toList) (hb : off + s.size ≤ 281474976710656) :
    Calls Tryd.prog 30 #[.pointer (some ⟨c, 0, none⟩), .string t] w fun r w' => r = .returned (.tuple #[]) ∧ Cur w' c s (p + t.size) off ∧ w.grownBy w' (some c) := by
  have HE : Hid (Calls Tryd.prog 35 #[.pointer (some ⟨c, 0, none⟩), .int .i64 t.size] w fun r w' => r = .returned (.string t) ∧ Cur w' c s (p + t.size) off ∧ w.grownBy w' (some c)) := by
    have h2 := eat_ok h t.size hn hb
    rw [ht] at h2
    exact h2
  have c1 := h.cv 1 (.int .i64 p) rfl
  clear h hn hb ht
  go_enter Tryd.func30, Tryd.ntmps30
  go_wp2_with fail
  refine HE.out.mono ?_
  rintro e w' ⟨rfl, hr, hg⟩
  go_wp2
  go_end0
  exact ⟨rfl, hr, hg⟩

theorem want_bad {w : World} {c p off : Nat} {s t : ByteArray} (h : Cur w c s p off) (hn : ¬ p + t.size ≤ s.size) (hp : p ≤ s.size) (hn2 : t.size ≤ 1000000) (hb : off + s.size ≤ 281474976710656) :
    Calls Tryd.prog 30 #[.pointer (some ⟨c, 0, none⟩), .string t] w fun r w' => r = .panicked (Thrown 7 (off + p)) ∧ Below w.heap.size w w' := by
  have HE : Hid (Calls Tryd.prog 35 #[.pointer (some ⟨c, 0, none⟩), .int .i64 t.size] w fun r w' => r = .panicked (Thrown 7 (off + p)) ∧ Below w.heap.size w w') := eat_bad h t.size hn hp hn2 hb
  have c1 := h.cv 1 (.int .i64 p) rfl
  clear h hn hb
  go_enter Tryd.func30, Tryd.ntmps30
  go_wp2_with fail
  refine HE.out.mono ?_
  rintro e w' ⟨rfl, hb2⟩
  go_wp2
  exact ⟨rfl, rfl, hb2⟩

theorem want_form {w : World} {c p off : Nat} {s t : ByteArray} (h : Cur w c s p off) (hn : p + t.size ≤ s.size) (ht : (s.data.toList.drop p).take t.size ≠ t.data.toList) (hb : off + s.size ≤ 281474976710656) :
    Calls Tryd.prog 30 #[.pointer (some ⟨c, 0, none⟩), .string t] w fun r w' => r = .panicked (Thrown 3 (off + p)) ∧ w.grownBy w' (some c) := by
  obtain ⟨u, hu⟩ : ∃ u : ByteArray, u = ⟨((s.data.toList.drop p).take t.size).toArray⟩ := ⟨_, rfl⟩
  have HE : Hid (Calls Tryd.prog 35 #[.pointer (some ⟨c, 0, none⟩), .int .i64 t.size] w fun r w' => r = .returned (.string u) ∧ Cur w' c s (p + t.size) off ∧ w.grownBy w' (some c)) := by
    have h2 := eat_ok h t.size hn hb
    rw [← hu] at h2
    exact h2
  have hne : (u.toList == t.toList) = false := by
    apply beq_eq_false_iff_ne.2
    intro e
    rw [ByteArray.toList_eq, ByteArray.toList_eq, hu] at e
    exact ht e
  have c1 := h.cv 1 (.int .i64 p) rfl
  have hpb : off + p ≤ 281474976710656 := by omega
  clear h hn hb ht hu
  go_enter Tryd.func30, Tryd.ntmps30
  go_wp2_with fail
  refine HE.out.mono ?_
  rintro e w' ⟨rfl, hr, hg⟩
  go_wp2_with fail
  refine (throw_any hr 3 p (by omega) (by omega)).mono ?_
  rintro e w2 ⟨rfl, rfl⟩
  go_wp2
  exact ⟨rfl, rfl, hg⟩

theorem Tryd.addrZero : (Tryd.prog.info? 25).map (·.zero) = some (some (.agg (c6 z6))) := by kernel_rfl

theorem addr_ok {w : World} {c p off : Nat} {s : ByteArray} (h : Cur w c s p off) (hn : p + 6 ≤ s.size) (hb : off + s.size ≤ 281474976710656) :
    Calls Tryd.prog 71 #[.pointer (some ⟨c, 0, none⟩)] w fun r w' => r = .returned (.agg (c6 (byX ((s.data.toList.drop p).take 6)))) ∧ Cur w' c s (p + 6) off ∧ w.grownBy w' (some c) := by
  have HA := Blk.new w 25 (c6 z6)
  have hC : Cur (w.alloc (.cells (c6 z6) 25)) c s p off := Blk.alloc h _
  have hgA := World.grownBy_alloc w (.cells (c6 z6) 25) (some c)
  have hLn : ((s.data.toList.drop p).take 6).length = 6 := by rw [List.length_take, List.length_drop]; simp; omega
  have hcz : c < w.heap.size := h.lt
  have HE : Hid (∀ W, Cur W c s p off → Calls Tryd.prog 35 #[.pointer (some ⟨c, 0, none⟩), .int .i64 6] W fun r w' => r = .returned (.string ⟨((s.data.toList.drop p).take 6).toArray⟩) ∧ Cur w' c s (p + 6) off ∧ W.grownBy w' (some c)) := fun W h => eat_ok h 6 hn hb
  clear h hn hb
  generalize ((s.data.toList.drop p).take 6) = t at *
  have HL := Lib.hid hLn
  clear hLn
  go_enter Tryd.func71, Tryd.ntmps71
  go_upto_region 1 with (refine alloc_blk 25 (c6 z6) (by rfl) rfl Tryd.addrZero ?_)
  generalize w.alloc (.cells (c6 z6) 25) = w1 at *
  refine wp_region_noPanic ?_
  refine wp_region_held_drew (S := (fun _ => True)) (by kernel_rfl) ?_ (fun hHeld => ?_)
  · exact trivial
  refine wpAnyH_take (i := 0) (v := ?_) rfl (by kernel_rfl) (by kernel_rfl) (by kernel_rfl) (fun _ _ _ h => h) (Or.inl ⟨by rfl, ?_⟩) (by assumption) ?_
  rotate_left
  · (intro w hSw; (try dsimp only at hSw); go_simp; (try with_reducible rfl))
  (try simp only [Act.put, List.getElem_toArray, List.getElem_cons_zero, List.getElem_cons_succ, List.setIfInBounds_toArray, List.set_cons_zero, List.set_cons_succ])
  refine wpAnyH_take (i := 1) (v := ?_) rfl (by kernel_rfl) (by kernel_rfl) (by kernel_rfl) (fun _ _ _ h => h) (Or.inl ⟨by rfl, ?_⟩) (by assumption) ?_
  rotate_left
  · (intro w hSw; (try dsimp only at hSw); go_simp; (try with_reducible rfl))
  (try simp only [Act.put, List.getElem_toArray, List.getElem_cons_zero, List.getElem_cons_succ, List.setIfInBounds_toArray, List.set_cons_zero, List.set_cons_succ])
  refine wpAnyH_ready (rs := [2]) (by kernel_rfl) (by simp) ?_
  refine AllReadyH.cons rfl (fun K hK => ?_) AllReadyH.nil
  simp only [List.getElem_toArray, List.getElem_cons_zero, List.getElem_cons_succ]
  go_simp
  go_at_call 35; (with_reducible refine (HE.out _ hC.drew).mono ?_); rintro e w2 ⟨rfl, hC2, hg2⟩; have HA2 := HA.drew.grown hg2 (by simp; omega)
  refine hK.out _ _ ?_ (fun hHeld => ?_)
  · exact trivial
  clear hK K
  (try simp only [Act.put, List.getElem_toArray, List.getElem_cons_zero, List.getElem_cons_succ, List.setIfInBounds_toArray, List.set_cons_zero, List.set_cons_succ])
  refine wpAnyH_ready (rs := [3]) (by kernel_rfl) (by simp) ?_
  refine AllReadyH.cons rfl (fun K hK => ?_) AllReadyH.nil
  simp only [List.getElem_toArray, List.getElem_cons_zero, List.getElem_cons_succ]
  rw [if_pos (by rfl)]
  refine wp_copy_text ⟨t.toArray⟩ (c6 (byX t)) 5 rfl rfl rfl HA2 Tryd.underlying157 (by kernel_rfl) (by simp [ByteArray.size, HL.out]) (by simp [ByteArray.size, HL.out, c6]) ?_ (fun w3 HA3 b3 g3 => ?_)
  · rw [byX_c6 t HL.out]; simp [ByteArray.size, HL.out, c6]
  have hC3 : Cur w3 c s (p + 6) off := Blk.grown hC2 g3 (by simp; omega)
  refine hK.out _ _ ?_ (fun hHeld => ?_)
  · trivial
  clear hK K
  (try simp only [Act.put, List.getElem_toArray, List.getElem_cons_zero, List.getElem_cons_succ, List.setIfInBounds_toArray, List.set_cons_zero, List.set_cons_succ])
  refine wpAnyH_done (by kernel_rfl) ?_ _
  refine NoPanic.normal ?_
  go_wp2_with (first | (refine load_blk (k := 0) 25 (c6 (byX t)) (by rfl) rfl rfl HA3 (by kernel_rfl) (by kernel_rfl) rfl ?_) | (refine store_blk (k := 0) 25 (.agg (c6 (byX t))) (c6 (byX t)) (by rfl) rfl rfl rfl HA3 (by kernel_rfl) (by exact Nat.le_refl 6) rfl rfl (fun w4 HA4 b4 g4 => ?_)))
  have hC4 : Cur w4 c s (p + 6) off := Blk.grown hC3 g4 (by simp; omega)
  have hg1 : w.grownBy w2 (some c) := grownBy_trans hgA ⟨hg2.os, hg2.tape, hg2.output, hg2.size, hg2.block⟩
  have hs2 : w.heap.size < w2.heap.size := HA2.lt
  refine bodyPost_ret (results_blk rfl rfl HA4 (by kernel_rfl) (by kernel_rfl)) rfl ⟨rfl, hC4, g4.os.trans (g3.os.trans hg1.os), g4.tape.trans (g3.tape.trans hg1.tape), g4.output.trans (g3.output.trans hg1.output), Nat.le_trans hg1.size (Nat.le_trans g3.size g4.size), fun k hk hne => ?_⟩
  have k1 := hg1.block k hk hne
  have k2 := g3.block k (by omega) (by simp; omega)
  have k3 := g4.block k (Nat.lt_of_lt_of_le (by omega : k < w2.heap.size) g3.size) (by simp; omega)
  exact k3.trans (k2.trans k1)

theorem addr_bad {w : World} {c p off : Nat} {s : ByteArray} (h : Cur w c s p off) (hn : ¬ p + 6 ≤ s.size) (hp : p ≤ s.size) (hb : off + s.size ≤ 281474976710656) :
    Calls Tryd.prog 71 #[.pointer (some ⟨c, 0, none⟩)] w fun r w' => r = .panicked (Thrown 7 (off + p)) ∧ Below w.heap.size w w' := by
  have hC : Cur (w.alloc (.cells (c6 z6) 25)) c s p off := Blk.alloc h _
  have hb0 : Below w.heap.size w (w.alloc (.cells (c6 z6) 25)) := (Below.refl _ _).alloc (Nat.le_refl _) _
  have HE : Hid (∀ W, Cur W c s p off → Calls Tryd.prog 35 #[.pointer (some ⟨c, 0, none⟩), .int .i64 6] W fun r w' => r = .panicked (Thrown 7 (off + p)) ∧ Below W.heap.size W w') := fun W h => eat_bad h 6 hn hp (by decide) hb
  clear h hn hb
  go_enter Tryd.func71, Tryd.ntmps71
  go_upto_region 1 with (refine alloc_blk 25 (c6 z6) (by rfl) rfl Tryd.addrZero ?_)
  generalize w.alloc (.cells (c6 z6) 25) = w1 at *
  refine wp_region_held_drew (S := (fun _ => True)) (by kernel_rfl) trivial (fun hHeld => ?_)
  refine wpAnyH_ready (rs := [0, 1]) (by kernel_rfl) (by simp) ?_
  refine (AllReadyH.cons rfl (fun K hK => ?_) (AllReadyH.cons rfl (fun K hK => ?_) AllReadyH.nil))
  · simp only [List.getElem_toArray, List.getElem_cons_zero, List.getElem_cons_succ]
    go_simp
    refine hK.out _ _ ?_ (fun hHeld => ?_)
    · trivial
    clear hK K
    (try simp only [Act.put, List.getElem_toArray, List.getElem_cons_zero, List.getElem_cons_succ, List.setIfInBounds_toArray, List.set_cons_zero, List.set_cons_succ])
    refine wpAnyH_ready (rs := [1]) (by kernel_rfl) (by simp) ?_
    refine (AllReadyH.cons rfl (fun K hK => ?_) AllReadyH.nil)
    simp only [List.getElem_toArray, List.getElem_cons_zero, List.getElem_cons_succ]
    go_simp
    refine hK.out _ _ ?_ (fun hHeld => ?_)
    · trivial
    clear hK K
    (try simp only [Act.put, List.getElem_toArray, List.getElem_cons_zero, List.getElem_cons_succ, List.setIfInBounds_toArray, List.set_cons_zero, List.set_cons_succ])
    refine wpAnyH_ready (rs := [2]) (by kernel_rfl) (by simp) ?_
    refine (AllReadyH.cons rfl (fun K hK => ?_) AllReadyH.nil)
    simp only [List.getElem_toArray, List.getElem_cons_zero, List.getElem_cons_succ]
    go_simp
    go_at_call 35; (with_reducible refine (HE.out _ hC.drew).mono ?_); rintro e w2 ⟨rfl, b2⟩
    go_wp2
    exact ⟨rfl, rfl, hb0.drew.trans (b2.mono hb0.size)⟩
  · simp only [List.getElem_toArray, List.getElem_cons_zero, List.getElem_cons_succ]
    go_simp
    refine hK.out _ _ ?_ (fun hHeld => ?_)
    · trivial
    clear hK K
    (try simp only [Act.put, List.getElem_toArray, List.getElem_cons_zero, List.getElem_cons_succ, List.setIfInBounds_toArray, List.set_cons_zero, List.set_cons_succ])
    refine wpAnyH_ready (rs := [0, 2]) (by kernel_rfl) (by simp) ?_
    refine (AllReadyH.cons rfl (fun K hK => ?_) (AllReadyH.cons rfl (fun K hK => ?_) AllReadyH.nil))
    · simp only [List.getElem_toArray, List.getElem_cons_zero, List.getElem_cons_succ]
      go_simp
      refine hK.out _ _ ?_ (fun hHeld => ?_)
      · trivial
      clear hK K
      (try simp only [Act.put, List.getElem_toArray, List.getElem_cons_zero, List.getElem_cons_succ, List.setIfInBounds_toArray, List.set_cons_zero, List.set_cons_succ])
      refine wpAnyH_ready (rs := [2]) (by kernel_rfl) (by simp) ?_
      refine (AllReadyH.cons rfl (fun K hK => ?_) AllReadyH.nil)
      simp only [List.getElem_toArray, List.getElem_cons_zero, List.getElem_cons_succ]
      go_simp
      go_at_call 35; (with_reducible refine (HE.out _ hC.drew).mono ?_); rintro e w2 ⟨rfl, b2⟩
      go_wp2
      exact ⟨rfl, rfl, hb0.drew.trans (b2.mono hb0.size)⟩
    · simp only [List.getElem_toArray, List.getElem_cons_zero, List.getElem_cons_succ]
      go_simp
      go_at_call 35; (with_reducible refine (HE.out _ hC.drew).mono ?_); rintro e w2 ⟨rfl, b2⟩
      go_wp2
      exact ⟨rfl, rfl, hb0.drew.trans (b2.mono hb0.size)⟩

def curAt (w : World) (c : Nat) : Nat := match w.cell? ⟨c, 1, none⟩ with | some (.int _ n) => n.toNat | _ => 0

theorem Cur.at {w : World} {c p off : Nat} {s : ByteArray} (h : Cur w c s p off) : curAt w c = p := by
  unfold curAt
  rw [h.cv 1 (.int .i64 p) rfl]
  simp


end Go.Proofs.YtdjljnpbnhampaaDoor

