/- wire.Reader.Expect in every state of a reader; slices.Contains of no and of one text. -/
import Derived.Test.YtdjljnpbnhampaaDoorExpP
import Derived.Test.YtdjljnpbnhampaaDoorPrReadG
import Derived.Test.YtdjljnpbnhampaaDoorBlk
namespace Go.Proofs.YtdjljnpbnhampaaDoor
open Go.RowKit
attribute [local go_sem ↓] Go.wp_at_zero Go.wp_at_succ
set_option linter.unusedSimpArgs false
set_option linter.unusedVariables false
set_option maxRecDepth 100000

theorem index_no (t : ByteArray) (w : World) :
    Calls Tryd.prog 101 #[.slice none 0 0, .string t] w fun e w' => e = .returned (.int .i64 (-1)) ∧ w = w' := by
  go_enter Tryd.func101, Tryd.ntmps101
  go_wp2_with fail
  go_loopw [8] (fun i wr => i = .int .i64 0 ∧ wr = w) (fun _ _ => 0)
  case atStart => exact ⟨rfl, rfl⟩
  case round =>
    obtain ⟨rfl, rfl⟩ := hrel
    go_wp2
    go_ret
    exact ⟨rfl, rfl⟩

theorem contains_no (t : ByteArray) (w : World) :
    Calls Tryd.prog 73 #[.slice none 0 0, .string t] w fun e w' => e = .returned (.bool false) ∧ w = w' := by
  go_enter Tryd.func73, Tryd.ntmps73
  go_wp2_with fail
  refine (index_no t _).mono ?_
  rintro e w2 ⟨rfl, rfl⟩
  go_wp2
  go_ret
  exact ⟨rfl, rfl⟩

theorem index_one (t y : ByteArray) (b : Nat) (w : World) (hc : w.cell? ⟨b, 0, none⟩ = some (.string y)) :
    Calls Tryd.prog 101 #[.slice (some ⟨b, 0, none⟩) 1 1, .string t] w fun e w' => e = .returned (.int .i64 (if t = y then 0 else -1)) ∧ w = w' := by
  by_cases c : t = y
  · subst c
    rw [if_pos rfl]
    go_enter Tryd.func101, Tryd.ntmps101
    go_wp2_with fail
    go_loopw [8] (fun i wr => i = .int .i64 0 ∧ wr = w) (fun _ _ => 0)
    case atStart => exact ⟨rfl, rfl⟩
    case round =>
      obtain ⟨rfl, rfl⟩ := hrel
      go_wp2
      go_ret
      exact ⟨rfl, rfl⟩
  · rw [if_neg c]
    have hn : (t.toList == y.toList) = false := by
      apply beq_eq_false_iff_ne.2
      rw [ByteArray.toList_eq, ByteArray.toList_eq]
      intro e
      exact c (ByteArray.ext (Array.toList_inj.1 e))
    clear c
    go_enter Tryd.func101, Tryd.ntmps101
    go_wp2_with fail
    go_loopw [8] (fun i wr => ∃ k : Nat, k ≤ 1 ∧ i = .int .i64 k ∧ wr = w) (fun i _ => 1 - (intOf i).toNat)
    case atStart => exact ⟨0, by omega, rfl, rfl⟩
    case round =>
      obtain ⟨k, hk, rfl, rfl⟩ := hrel
      by_cases hlt : k < 1
      · obtain rfl : k = 0 := by omega
        go_wp2
        go_roundw
        case rel => first | exact ⟨1, by omega, by go_num, rfl⟩ | exact ⟨1, by omega, by go_num, trivial⟩ | exact ⟨1, by omega, by go_num⟩
        case measure => simp [intOf]
      · obtain rfl : k = 1 := by omega
        go_wp2
        go_ret
        exact ⟨rfl, rfl⟩

theorem contains_one (t y : ByteArray) (b : Nat) (w : World) (hc : w.cell? ⟨b, 0, none⟩ = some (.string y)) :
    Calls Tryd.prog 73 #[.slice (some ⟨b, 0, none⟩) 1 1, .string t] w fun e w' => e = .returned (.bool (decide (t = y))) ∧ w = w' := by
  have HI := Lib.hid (index_one t y b w hc)
  by_cases c : t = y
  · rw [if_pos c] at HI
    rw [decide_eq_true c]
    clear c
    go_enter Tryd.func73, Tryd.ntmps73
    go_wp2_with fail
    refine (HI.out).mono ?_
    rintro e w2 ⟨rfl, rfl⟩
    go_wp2
    go_ret
    exact ⟨rfl, rfl⟩
  · rw [if_neg c] at HI
    rw [decide_eq_false c]
    clear c
    go_enter Tryd.func73, Tryd.ntmps73
    go_wp2_with fail
    refine (HI.out).mono ?_
    rintro e w2 ⟨rfl, rfl⟩
    go_wp2
    go_ret
    exact ⟨rfl, rfl⟩

theorem RdT.pos {w : World} {g : Nat} {s : ByteArray} {st : RSt} (h : RdT w g s 0 st) : w.cell? ⟨g, 1, none⟩ = some (.int .i64 (st.1 : Int)) := by
  obtain ⟨f, hr, _⟩ := h
  have e := hr.c1
  rw [show ((0 : Nat) : Int) + (st.1 : Int) = (st.1 : Int) by omega] at e
  exact e

/-- What they are. -/
def exV (l : List UInt8) (st : RSt) (z : List UInt8) : List UInt8 := if (tkN l 0 st (z.length : Nat) false).1 = z then (tkN l 0 st (z.length : Nat) false).1 else []

theorem exp_t {g : Nat} {s : ByteArray} (z : ByteArray) (hz : z.size ≤ 8) (st : RSt) (w : World) (h : RdT w g s 0 st) (hp : st.1 ≤ s.size) (hb : 0 + s.size ≤ 281474976710656) :
    Calls Tryd.prog 39 #[.pointer (some ⟨g, 0, none⟩), .string z, .slice none 0 0] w fun e w' => e = .returned (.string ⟨(exV s.data.toList st z.data.toList).toArray⟩) ∧ RdT w' g s 0 (exS s.data.toList st z.data.toList) ∧ w.grownBy w' (some g) := by
  have hzl : z.data.toList.length = z.size := by simp
  have HY : Hid (∀ W, RdT W g s 0 st → Calls Tryd.prog 43 #[.pointer (some ⟨g, 0, none⟩), .int .i64 (z.size : Nat)] W fun e w' => e = .returned (.string ⟨(tkN s.data.toList 0 st (z.size : Nat) false).1.toArray⟩) ∧ RdT w' g s 0 (tkN s.data.toList 0 st (z.size : Nat) false).2 ∧ W.grownBy w' (some g)) := fun W h => bytes_t st _ W h hp hb
  have HT : Hid (exS s.data.toList st z.data.toList = if (tkN s.data.toList 0 st (z.size : Nat) false).1 = z.data.toList then (tkN s.data.toList 0 st (z.size : Nat) false).2 else flR (tkN s.data.toList 0 st (z.size : Nat) false).2 3 (st.1 : Int)) := by
    show _ = _
    unfold exS
    rw [hzl]
  have HV : Hid (exV s.data.toList st z.data.toList = if (tkN s.data.toList 0 st (z.size : Nat) false).1 = z.data.toList then (tkN s.data.toList 0 st (z.size : Nat) false).1 else []) := by
    show _ = _
    unfold exV
    rw [hzl]
  have c1 := h.pos
  generalize (tkN s.data.toList 0 st (z.size : Nat) false).2 = s2 at *
  generalize exS s.data.toList st z.data.toList = s3 at *
  generalize exV s.data.toList st z.data.toList = v3 at *
  generalize (st.1 : Int) = pl at *
  obtain ⟨u, hu⟩ : ∃ u : ByteArray, u = ⟨(tkN s.data.toList 0 st (z.size : Nat) false).1.toArray⟩ := ⟨_, rfl⟩
  rw [← hu] at HY
  have hul : u.data.toList = (tkN s.data.toList 0 st (z.size : Nat) false).1 := by rw [hu]
  rw [← hul] at HT HV
  clear hul hu hp hb hzl
  by_cases c : u.data.toList = z.data.toList
  · rw [if_pos c] at HT HV
    have hT := HT.out
    subst hT
    have hc : u = z := by
      apply ByteArray.ext
      apply Array.toList_inj.1
      exact c
    subst hc
    clear c HT
    go_enter Tryd.func39, Tryd.ntmps39
    go_wp2_with fail
    refine (HY.out _ h).mono ?_
    rintro e w2 ⟨rfl, h2, g2⟩
    go_wp2
    go_ret
    exact ⟨by rw [HV.out] <;> rfl, h2, g2⟩
  · rw [if_neg c] at HT HV
    have hT := HT.out
    subst hT
    have hn : (u.toList == z.toList) = false := by
      apply beq_eq_false_iff_ne.2
      rw [ByteArray.toList_eq, ByteArray.toList_eq]
      exact c
    clear c HT
    go_enter Tryd.func39, Tryd.ntmps39
    go_wp2_with fail
    refine (HY.out _ h).mono ?_
    rintro e w2 ⟨rfl, h2, g2⟩
    go_wp2_with fail
    refine (contains_no u _).mono ?_
    rintro e w3 ⟨rfl, rfl⟩
    go_wp2_with fail
    refine (fail_t s2 3 pl (by decide) _ h2).mono ?_
    rintro e w3 ⟨rfl, h3, g3⟩
    go_wp2
    go_ret
    exact ⟨by rw [HV.out] <;> rfl, h3, grown_same g2 g3⟩

/-- This text, or one other. -/
theorem exp2_t {g b : Nat} {s : ByteArray} (z y : ByteArray) (hz : z.size ≤ 8) (st : RSt) (w : World) (h : RdT w g s 0 st) (hY : Blk w b 9 #[.string y]) (hp : st.1 ≤ s.size) (hb : 0 + s.size ≤ 281474976710656) :
    Calls Tryd.prog 39 #[.pointer (some ⟨g, 0, none⟩), .string z, .slice (some ⟨b, 0, none⟩) 1 1] w fun e w' => e = .returned (.string ⟨(exV2 s.data.toList st z.data.toList y.data.toList).toArray⟩) ∧ RdT w' g s 0 (exS2 s.data.toList st z.data.toList y.data.toList) ∧ w.grownBy w' (some g) := by
  have hzl : z.data.toList.length = z.size := by simp
  have HY : Hid (∀ W, RdT W g s 0 st → Calls Tryd.prog 43 #[.pointer (some ⟨g, 0, none⟩), .int .i64 (z.size : Nat)] W fun e w' => e = .returned (.string ⟨(tkN s.data.toList 0 st (z.size : Nat) false).1.toArray⟩) ∧ RdT w' g s 0 (tkN s.data.toList 0 st (z.size : Nat) false).2 ∧ W.grownBy w' (some g)) := fun W h => bytes_t st _ W h hp hb
  have HT : Hid (exS2 s.data.toList st z.data.toList y.data.toList = if (tkN s.data.toList 0 st (z.size : Nat) false).1 = z.data.toList ∨ (tkN s.data.toList 0 st (z.size : Nat) false).1 = y.data.toList then (tkN s.data.toList 0 st (z.size : Nat) false).2 else flR (tkN s.data.toList 0 st (z.size : Nat) false).2 3 (st.1 : Int)) := by
    show _ = _
    unfold exS2
    rw [hzl]
  have HV : Hid (exV2 s.data.toList st z.data.toList y.data.toList = if (tkN s.data.toList 0 st (z.size : Nat) false).1 = z.data.toList ∨ (tkN s.data.toList 0 st (z.size : Nat) false).1 = y.data.toList then (tkN s.data.toList 0 st (z.size : Nat) false).1 else []) := by
    show _ = _
    unfold exV2
    rw [hzl]
  have c1 := h.pos
  have HB := Lib.hid (fun (W : World) (h1 : Blk W b 9 #[.string y]) => h1.cv 0 (.string y) rfl)
  generalize (tkN s.data.toList 0 st (z.size : Nat) false).2 = s2 at *
  generalize exS2 s.data.toList st z.data.toList y.data.toList = s3 at *
  generalize exV2 s.data.toList st z.data.toList y.data.toList = v3 at *
  generalize (st.1 : Int) = pl at *
  obtain ⟨u, hu⟩ : ∃ u : ByteArray, u = ⟨(tkN s.data.toList 0 st (z.size : Nat) false).1.toArray⟩ := ⟨_, rfl⟩
  rw [← hu] at HY
  have hul : u.data.toList = (tkN s.data.toList 0 st (z.size : Nat) false).1 := by rw [hu]
  rw [← hul] at HT HV
  clear hul hu hp hb hzl
  have same : ∀ t : ByteArray, u.data.toList = t.data.toList → u = t := fun t c => by
    apply ByteArray.ext
    apply Array.toList_inj.1
    exact c
  by_cases c : u.data.toList = z.data.toList
  · rw [if_pos (Or.inl c)] at HT HV
    have hT := HT.out
    subst hT
    have hc := same z c
    subst hc
    clear c HT same
    go_enter Tryd.func39, Tryd.ntmps39
    go_wp2_with fail
    refine (HY.out _ h).mono ?_
    rintro e w2 ⟨rfl, h2, g2⟩
    go_wp2
    go_ret
    exact ⟨by rw [HV.out] <;> rfl, h2, g2⟩
  · have hn : (u.toList == z.toList) = false := by
      apply beq_eq_false_iff_ne.2
      rw [ByteArray.toList_eq, ByteArray.toList_eq]
      exact c
    by_cases d : u.data.toList = y.data.toList
    · rw [if_pos (Or.inr d)] at HT HV
      have hT := HT.out
      subst hT
      have hd := same y d
      have HC := Lib.hid (fun (W : World) (hc : W.cell? ⟨b, 0, none⟩ = some (.string y)) => contains_one u y b W hc)
      rw [decide_eq_true hd] at HC
      clear c d HT same hd
      go_enter Tryd.func39, Tryd.ntmps39
      go_wp2_with fail
      refine (HY.out _ h).mono ?_
      rintro e w2 ⟨rfl, h2, g2⟩
      have hY2 := hY.reads h (by decide : 9 ≠ 160) g2
      go_wp2_with fail
      refine (HC.out _ (HB.out _ hY2)).mono ?_
      rintro e w3 ⟨rfl, rfl⟩
      go_wp2
      go_ret
      exact ⟨by rw [HV.out] <;> rfl, h2, g2⟩
    · rw [if_neg (fun q => q.elim c d)] at HT HV
      have hT := HT.out
      subst hT
      have hd : ¬ u = y := fun q => d (by rw [q])
      have HC := Lib.hid (fun (W : World) (hc : W.cell? ⟨b, 0, none⟩ = some (.string y)) => contains_one u y b W hc)
      rw [decide_eq_false hd] at HC
      clear c d HT same hd
      go_enter Tryd.func39, Tryd.ntmps39
      go_wp2_with fail
      refine (HY.out _ h).mono ?_
      rintro e w2 ⟨rfl, h2, g2⟩
      have hY2 := hY.reads h (by decide : 9 ≠ 160) g2
      go_wp2_with fail
      refine (HC.out _ (HB.out _ hY2)).mono ?_
      rintro e w3 ⟨rfl, rfl⟩
      go_wp2_with fail
      refine (fail_t s2 3 pl (by decide) _ h2).mono ?_
      rintro e w3 ⟨rfl, h3, g3⟩
      go_wp2
      go_ret
      exact ⟨by rw [HV.out] <;> rfl, h3, grown_same g2 g3⟩

end Go.Proofs.YtdjljnpbnhampaaDoor
