/- mvrp.readHead. -/
import Derived.Test.YtdjljnpbnhampaaDoorMvRdM
import Derived.Test.YtdjljnpbnhampaaDoorPrReadG
import Derived.Test.YtdjljnpbnhampaaDoorExp
namespace Go.Proofs.YtdjljnpbnhampaaDoor
open Go.RowKit
attribute [local go_sem ↓] Go.wp_at_zero Go.wp_at_succ
set_option linter.unusedSimpArgs false
set_option linter.unusedVariables false
set_option maxRecDepth 100000

/-- Two bytes, one after the other; what they say; the state behind them. -/
def h1T (S : List UInt8) (st : RSt) : List UInt8 := (tkN S 0 st 1 false).1

def h1S (S : List UInt8) (st : RSt) : RSt := (tkN S 0 st 1 false).2

def h2T (S : List UInt8) (st : RSt) : List UInt8 := (tkN S 0 (h1S S st) 1 false).1

def h2S (S : List UInt8) (st : RSt) : RSt := (tkN S 0 (h1S S st) 1 false).2

def mhV (S : List UInt8) (st : RSt) : Bool := decide (h1T S st ++ h2T S st = [1, 2])

def mhS (S : List UInt8) (st : RSt) : RSt :=
  if h1T S st ++ h2T S st = [1, 2] then h2S S st else if h1T S st ++ h2T S st = [0, 0] then h2S S st
  else if h1T S st = [1] then flR (h2S S st) 3 ((st.1 + 1 : Nat) : Int) else flR (h2S S st) 5 st.1

theorem mh_len (S : List UInt8) (st : RSt) : (h1T S st).length ≤ 1 ∧ (h2T S st).length ≤ 1 := by
  have q1 := tkN_len S 0 st 1 false
  have q2 := tkN_len S 0 (h1S S st) 1 false
  constructor
  · rcases q1 with q | q
    · show (tkN S 0 st 1 false).1.length ≤ 1
      rw [show (1 : Int) = ((1 : Nat) : Int) from rfl, q]; simp
    · exact Nat.le_of_eq q
  · rcases q2 with q | q
    · show (tkN S 0 (h1S S st) 1 false).1.length ≤ 1
      rw [show (1 : Int) = ((1 : Nat) : Int) from rfl, q]; simp
    · exact Nat.le_of_eq q

theorem mhS_le (S : List UInt8) (st : RSt) (h : st.1 ≤ S.length) : (mhS S st).1 ≤ S.length := by
  have h1 : (h1S S st).1 ≤ S.length := tkN_le S 0 st 1 false h
  have h2 : (h2S S st).1 ≤ S.length := tkN_le S 0 (h1S S st) 1 false h1
  unfold mhS
  split
  · exact h2
  split
  · exact h2
  split
  · exact flR_le S _ _ _ h2
  · exact flR_le S _ _ _ h2

theorem text_eq {z : List UInt8} {t : ByteArray} (ht : t = ⟨z.toArray⟩) (l : List UInt8) : (t.toList == l) = decide (z = l) := by
  subst ht
  rw [ByteArray.toList_eq]
  show (z == l) = _
  by_cases c : z = l
  · rw [decide_eq_true c, beq_iff_eq]; exact c
  · rw [decide_eq_false c, beq_eq_false_iff_ne]; exact c

set_option maxHeartbeats 1600000 in
theorem readHead_m {g : Nat} {S : ByteArray} (st : RSt) (w : World) (h : RdT w g S 0 st) (hp : st.1 ≤ S.size) (hb : S.size ≤ 281474976710656) :
    Calls Tryd.prog 88 #[.pointer (some ⟨g, 0, none⟩)] w fun e w' => e = .returned (.bool (mhV S.data.toList st)) ∧ RdT w' g S 0 (mhS S.data.toList st) ∧ w.grownBy w' (some g) := by
  have hls : S.data.toList.length = S.size := by simp
  have e0 : ((0 : Nat) : Int) + (st.1 : Int) = ((st.1 : Nat) : Int) := by omega
  have HA := Lib.hid (atT st w h)
  rw [e0] at HA
  have hp1 : (h1S S.data.toList st).1 ≤ S.size := by rw [← hls]; exact tkN_le _ 0 st 1 false (by rw [hls]; exact hp)
  have H1 : Hid (Calls Tryd.prog 43 #[.pointer (some ⟨g, 0, none⟩), .int .i64 1] w fun e w' => e = .returned (.string ⟨(h1T S.data.toList st).toArray⟩) ∧ RdT w' g S 0 (h1S S.data.toList st) ∧ w.grownBy w' (some g)) := bytes_t st 1 w h hp (by omega)
  have H2 : Hid (∀ W, RdT W g S 0 (h1S S.data.toList st) → Calls Tryd.prog 43 #[.pointer (some ⟨g, 0, none⟩), .int .i64 1] W fun e w' => e = .returned (.string ⟨(h2T S.data.toList st).toArray⟩) ∧ RdT w' g S 0 (h2S S.data.toList st) ∧ W.grownBy w' (some g)) := fun W h => bytes_t _ 1 W h hp1 (by omega)
  have HF : Hid (∀ (e1 : Int) (pl : Nat) (W : World) (s1 : RSt), e1 ≠ 0 → RdT W g S 0 s1 → Calls Tryd.prog 61 #[.pointer (some ⟨g, 0, none⟩), .int .i64 e1, .int .i64 (pl : Nat)] W fun e w' => e = .returned (.tuple #[]) ∧ RdT w' g S 0 (flR s1 e1 (pl : Nat)) ∧ W.grownBy w' (some g)) := fun e1 pl W s1 he h => fail_t s1 e1 pl he W h
  obtain ⟨l1, l2⟩ := mh_len S.data.toList st
  have hpw : IntKind.i64.wrap ((st.1 : Nat) + 1 : Int) = ((st.1 + 1 : Nat) : Int) := by rw [IntKind.wrap_i64] <;> omega
  unfold mhV mhS
  generalize h2S S.data.toList st = s2 at *
  generalize h1S S.data.toList st = s1 at *
  generalize h1T S.data.toList st = y1 at *
  generalize h2T S.data.toList st = y2 at *
  generalize st.1 = p at *
  obtain ⟨t, ht⟩ : ∃ t : ByteArray, t = ⟨(y1 ++ y2).toArray⟩ := ⟨_, rfl⟩
  obtain ⟨t1, ht1⟩ : ∃ t : ByteArray, t = ⟨y1.toArray⟩ := ⟨_, rfl⟩
  have q12 := text_eq ht [1, 2]
  have q00 := text_eq ht [0, 0]
  have q1 := text_eq ht1 [1]
  rw [← ht1] at H1
  have p1 : ∀ W, (Op.stringOp .add t1 ⟨y2.toArray⟩).run Tryd.prog W = .ok (.string t) W := fun W => by rw [ht, ht1]; exact run_string_add_lists W y1 y2 (by omega) (by omega)
  clear ht ht1 hp hp1 e0 h l1 l2
  by_cases c12 : y1 ++ y2 = [1, 2]
  · rw [if_pos c12, decide_eq_true c12]
    rw [decide_eq_true c12] at q12
    clear c12 q00 q1 HF
    go_enter Tryd.func88, Tryd.ntmps88
    go_wp2_with fail
    refine HA.out.mono ?_
    rintro e w1 ⟨rfl, rfl⟩
    go_wp2_with fail
    refine H1.out.mono ?_
    rintro e w2 ⟨rfl, HR2, g2⟩
    go_wp2_with fail
    refine (H2.out _ HR2).mono ?_
    rintro e w3 ⟨rfl, HR3, g3'⟩
    go_wp2
    go_ret
    exact ⟨rfl, HR3, grownBy_trans g2 g3'⟩
  · rw [if_neg c12, decide_eq_false c12]
    rw [decide_eq_false c12] at q12
    by_cases c00 : y1 ++ y2 = [0, 0]
    · rw [if_pos c00]
      rw [decide_eq_true c00] at q00
      clear c12 c00 q1 HF
      go_enter Tryd.func88, Tryd.ntmps88
      go_wp2_with fail
      refine HA.out.mono ?_
      rintro e w1 ⟨rfl, rfl⟩
      go_wp2_with fail
      refine H1.out.mono ?_
      rintro e w2 ⟨rfl, HR2, g2⟩
      go_wp2_with fail
      refine (H2.out _ HR2).mono ?_
      rintro e w3 ⟨rfl, HR3, g3'⟩
      go_wp2
      go_ret
      exact ⟨rfl, HR3, grownBy_trans g2 g3'⟩
    · rw [if_neg c00]
      rw [decide_eq_false c00] at q00
      by_cases c1 : y1 = [1]
      · rw [if_pos c1]
        rw [decide_eq_true c1] at q1
        have d1 : (t1.toList != [1]) = false := by rw [bne, q1]; rfl
        have HF3 := Lib.hid (fun W h => HF.out 3 (p + 1) W s2 (by decide) h)
        clear c12 c00 c1 HF
        go_enter Tryd.func88, Tryd.ntmps88
        go_wp2_with fail
        refine HA.out.mono ?_
        rintro e w1 ⟨rfl, rfl⟩
        go_wp2_with fail
        refine H1.out.mono ?_
        rintro e w2 ⟨rfl, HR2, g2⟩
        go_wp2_with fail
        refine (H2.out _ HR2).mono ?_
        rintro e w3 ⟨rfl, HR3, g3'⟩
        go_wp2_with fail
        refine (HF3.out _ HR3).mono ?_
        rintro e w4 ⟨rfl, HR4, g4⟩
        go_wp2
        go_ret
        exact ⟨rfl, HR4, grownBy_trans (grownBy_trans g2 g3') g4⟩
      · rw [if_neg c1]
        rw [decide_eq_false c1] at q1
        have d1 : (t1.toList != [1]) = true := by rw [bne, q1]; rfl
        have HF5 := Lib.hid (fun W h => HF.out 5 p W s2 (by decide) h)
        clear c12 c00 c1 HF
        go_enter Tryd.func88, Tryd.ntmps88
        go_wp2_with fail
        refine HA.out.mono ?_
        rintro e w1 ⟨rfl, rfl⟩
        go_wp2_with fail
        refine H1.out.mono ?_
        rintro e w2 ⟨rfl, HR2, g2⟩
        go_wp2_with fail
        refine (H2.out _ HR2).mono ?_
        rintro e w3 ⟨rfl, HR3, g3'⟩
        go_wp2_with fail
        refine (HF5.out _ HR3).mono ?_
        rintro e w4 ⟨rfl, HR4, g4⟩
        go_wp2
        go_ret
        exact ⟨rfl, HR4, grownBy_trans (grownBy_trans g2 g3') g4⟩

end Go.Proofs.YtdjljnpbnhampaaDoor
