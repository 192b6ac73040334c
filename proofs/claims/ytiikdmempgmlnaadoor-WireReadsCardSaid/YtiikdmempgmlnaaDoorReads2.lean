/- The reference's closure take, at every argument. -/
import Derived.Test.YtiikdmempgmlnaaDoorReads1
namespace Go.Proofs.YtiikdmempgmlnaaDoor
open Go.RowKit
set_option linter.unusedVariables false

/-- What take leaves. -/
def TakePost (w : World) (b o c a d : Nat) (s : ByteArray) (off : Nat) (r : List UInt8 × RSt) (e : Ending) (w' : World) : Prop :=
  e = .returned (.string ⟨r.1.toArray⟩) ∧ RS w' b o c a d s off r.2 ∧ Keep2 w w' c a

section
variable {b o c a d : Nat} {s : ByteArray} {off : Nat}

theorem take_noted {p : Nat} {e0 pl : Int} (n : Int) (num : Bool) (w : World) (h : RS w b o c a d s off (p, e0, pl)) (he : e0 ≠ 0) :
    Calls Tryd.prog 38 #[.int .i64 n, .bool num, .pointer (some ⟨c, 0, none⟩), .pointer (some ⟨d, 0, none⟩), .pointer (some ⟨o, 0, none⟩), .pointer (some ⟨a, 0, none⟩), .pointer (some ⟨b, 0, none⟩)] w (TakePost w b o c a d s off ([], p, e0, pl)) := by
  have h0 : w.cell? ⟨c, 0, none⟩ = some (.int .i64 e0) := h.hc.c0
  have h1 : w.cell? ⟨c, 1, none⟩ = some (.int .i64 pl) := h.hc.c1
  go_enter Tryd.func38, Tryd.ntmps38
  go_wp2_with fail
  refine (is_no e0 pl _ he).mono ?_
  rintro e w1 ⟨rfl, hb⟩
  have r1 := h.below hb
  have q1 : Keep2 w w1 c a := keep_below hb
  go_wp2
  go_ret
  exact ⟨rfl, r1, q1⟩

theorem take_neg {p : Nat} {pl : Int} (n : Int) (num : Bool) (w : World) (h : RS w b o c a d s off (p, 0, pl)) (hn : n < 0) (hp : p ≤ s.size) (hs : s.size ≤ 100) (ho : off ≤ 1099511627776) :
    Calls Tryd.prog 38 #[.int .i64 n, .bool num, .pointer (some ⟨c, 0, none⟩), .pointer (some ⟨d, 0, none⟩), .pointer (some ⟨o, 0, none⟩), .pointer (some ⟨a, 0, none⟩), .pointer (some ⟨b, 0, none⟩)] w (TakePost w b o c a d s off ([], p, 2, (off : Int) + p)) := by
  have h0 : w.cell? ⟨c, 0, none⟩ = some (.int .i64 0) := h.hc.c0
  have h1 : w.cell? ⟨c, 1, none⟩ = some (.int .i64 pl) := h.hc.c1
  go_enter Tryd.func38, Tryd.ntmps38
  go_wp2_with fail
  refine (is_yes pl _).mono ?_
  rintro e w1 ⟨rfl, hb⟩
  have r1 := h.below hb
  have q1 : Keep2 w w1 c a := keep_below hb
  have k1 := r1.kd
  have k2 : w1.cell? ⟨o, 0, none⟩ = some (.int .i64 off) := r1.ko
  have k3 : w1.cell? ⟨a, 0, none⟩ = some (.int .i64 p) := r1.ka
  clear h0 h1 hb h
  go_wp2_with fail
  refine (note_first 2 _ _ r1.hc).mono ?_
  rintro e w2 ⟨rfl, hn2, g2⟩
  have r2 := r1.note g2 hn2
  have q2 := q1.trans (keep_c g2)
  go_wp2
  go_ret
  exact ⟨rfl, r2, q2⟩
theorem take_zero {p : Nat} {pl : Int} (w : World) (h : RS w b o c a d s off (p, 0, pl)) (hp : p ≤ s.size) (hs : s.size ≤ 100) (ho : off ≤ 1099511627776) :
    Calls Tryd.prog 38 #[.int .i64 0, .bool true, .pointer (some ⟨c, 0, none⟩), .pointer (some ⟨d, 0, none⟩), .pointer (some ⟨o, 0, none⟩), .pointer (some ⟨a, 0, none⟩), .pointer (some ⟨b, 0, none⟩)] w (TakePost w b o c a d s off ([], p, 2, (off : Int) + p)) := by
  have h0 : w.cell? ⟨c, 0, none⟩ = some (.int .i64 0) := h.hc.c0
  have h1 : w.cell? ⟨c, 1, none⟩ = some (.int .i64 pl) := h.hc.c1
  go_enter Tryd.func38, Tryd.ntmps38
  go_wp2_with fail
  refine (is_yes pl _).mono ?_
  rintro e w1 ⟨rfl, hb⟩
  have r1 := h.below hb
  have q1 : Keep2 w w1 c a := keep_below hb
  have k1 := r1.kd
  have k2 : w1.cell? ⟨o, 0, none⟩ = some (.int .i64 off) := r1.ko
  have k3 : w1.cell? ⟨a, 0, none⟩ = some (.int .i64 p) := r1.ka
  have k4 := r1.kb
  clear h0 h1 hb h
  go_wp2_with fail
  refine (note_first 2 _ _ r1.hc).mono ?_
  rintro e w2 ⟨rfl, hn2, g2⟩
  have r2 := r1.note g2 hn2
  have q2 := q1.trans (keep_c g2)
  go_wp2
  go_ret
  exact ⟨rfl, r2, q2⟩

theorem take_wide {p : Nat} {pl : Int} (n : Int) (w : World) (h : RS w b o c a d s off (p, 0, pl)) (hn : 8 < n) (hp : p ≤ s.size) (hs : s.size ≤ 100) (ho : off ≤ 1099511627776) :
    Calls Tryd.prog 38 #[.int .i64 n, .bool true, .pointer (some ⟨c, 0, none⟩), .pointer (some ⟨d, 0, none⟩), .pointer (some ⟨o, 0, none⟩), .pointer (some ⟨a, 0, none⟩), .pointer (some ⟨b, 0, none⟩)] w (TakePost w b o c a d s off ([], p, 2, (off : Int) + p)) := by
  have h0 : w.cell? ⟨c, 0, none⟩ = some (.int .i64 0) := h.hc.c0
  have h1 : w.cell? ⟨c, 1, none⟩ = some (.int .i64 pl) := h.hc.c1
  have f1 : ¬ n < 0 := by omega
  have f2 : ¬ n < 1 := by omega
  have f3 : decide (8 < n) = true := decide_eq_true hn
  go_enter Tryd.func38, Tryd.ntmps38
  go_wp2_with fail
  refine (is_yes pl _).mono ?_
  rintro e w1 ⟨rfl, hb⟩
  have r1 := h.below hb
  have q1 : Keep2 w w1 c a := keep_below hb
  have k1 := r1.kd
  have k2 : w1.cell? ⟨o, 0, none⟩ = some (.int .i64 off) := r1.ko
  have k3 : w1.cell? ⟨a, 0, none⟩ = some (.int .i64 p) := r1.ka
  have k4 := r1.kb
  clear h0 h1 hb h
  go_wp2_with fail
  refine (note_first 2 _ _ r1.hc).mono ?_
  rintro e w2 ⟨rfl, hn2, g2⟩
  have r2 := r1.note g2 hn2
  have q2 := q1.trans (keep_c g2)
  go_wp2
  go_ret
  exact ⟨rfl, r2, q2⟩

theorem take_missing_false {p : Nat} {pl : Int} (n : Int) (w : World) (h : RS w b o c a d s off (p, 0, pl)) (hn : 0 ≤ n) (hm : (s.size : Int) - p < n) (hp : p ≤ s.size) (hs : s.size ≤ 100) (ho : off ≤ 1099511627776) :
    Calls Tryd.prog 38 #[.int .i64 n, .bool false, .pointer (some ⟨c, 0, none⟩), .pointer (some ⟨d, 0, none⟩), .pointer (some ⟨o, 0, none⟩), .pointer (some ⟨a, 0, none⟩), .pointer (some ⟨b, 0, none⟩)] w (TakePost w b o c a d s off ([], p, 7, (off : Int) + p)) := by
  have h0 : w.cell? ⟨c, 0, none⟩ = some (.int .i64 0) := h.hc.c0
  have h1 : w.cell? ⟨c, 1, none⟩ = some (.int .i64 pl) := h.hc.c1
  have f1 : ¬ n < 0 := by omega
  go_enter Tryd.func38, Tryd.ntmps38
  go_wp2_with fail
  refine (is_yes pl _).mono ?_
  rintro e w1 ⟨rfl, hb⟩
  have r1 := h.below hb
  have q1 : Keep2 w w1 c a := keep_below hb
  have k1 := r1.kd
  have k2 : w1.cell? ⟨o, 0, none⟩ = some (.int .i64 off) := r1.ko
  have k3 : w1.cell? ⟨a, 0, none⟩ = some (.int .i64 p) := r1.ka
  have k4 := r1.kb
  clear h0 h1 hb h
  go_wp2_with fail
  refine (note_first 7 _ _ r1.hc).mono ?_
  rintro e w2 ⟨rfl, hn2, g2⟩
  have r2 := r1.note g2 hn2
  have q2 := q1.trans (keep_c g2)
  go_wp2
  go_ret
  exact ⟨rfl, r2, q2⟩

set_option maxHeartbeats 800000 in
theorem take_read_false {p : Nat} {pl : Int} (n : Nat) (w : World) (h : RS w b o c a d s off (p, 0, pl)) (hn : 0 ≤ (n : Int)) (hm : p + n ≤ s.size) (hp : p ≤ s.size) (hs : s.size ≤ 100) (ho : off ≤ 1099511627776) :
    Calls Tryd.prog 38 #[.int .i64 n, .bool false, .pointer (some ⟨c, 0, none⟩), .pointer (some ⟨d, 0, none⟩), .pointer (some ⟨o, 0, none⟩), .pointer (some ⟨a, 0, none⟩), .pointer (some ⟨b, 0, none⟩)] w (TakePost w b o c a d s off ((s.data.toList.drop p).take n, p + n, 0, pl)) := by
  have h0 : w.cell? ⟨c, 0, none⟩ = some (.int .i64 0) := h.hc.c0
  have h1 : w.cell? ⟨c, 1, none⟩ = some (.int .i64 pl) := h.hc.c1
  have f1 : ¬ (n : Int) < 0 := by omega
  go_enter Tryd.func38, Tryd.ntmps38
  go_wp2_with fail
  refine (is_yes pl _).mono ?_
  rintro e w1 ⟨rfl, hb⟩
  have r1 := h.below hb
  have q1 : Keep2 w w1 c a := keep_below hb
  have k1 := r1.kd
  have k2 : w1.cell? ⟨o, 0, none⟩ = some (.int .i64 off) := r1.ko
  have k3 : w1.cell? ⟨a, 0, none⟩ = some (.int .i64 p) := r1.ka
  have k4 := r1.kb
  clear h0 h1 hb h
  have hm' : ¬ (s.size : Int) - (p : Int) < (n : Int) := by omega
  have z3 := r1.za
  have r2 : RS (w1.setCell ⟨a, 0, none⟩ (.int .i64 ((p : Int) + (n : Int)))) b o c a d s off (p + n, 0, pl) := r1.move (by simp)
  have q2 : Keep2 w (w1.setCell ⟨a, 0, none⟩ (.int .i64 ((p : Int) + (n : Int)))) c a := q1.trans (keep_a _)
  have R2 := Lib.hid r2
  have n1 := r1.ne
  have hba : b ≠ a := n1.2.1
  have HS : Hid (s.extract p (p + n) = ⟨((s.data.toList.drop p).take n).toArray⟩) := by
    show _ = _
    apply ByteArray.ext
    apply Array.toList_inj.1
    rw [extract_list, Nat.add_sub_cancel_left]
  clear r1 r2 n1
  go_wp2
  rw [HS.out]
  go_ret
  exact ⟨rfl, R2.out, q2⟩

theorem take_missing_true {p : Nat} {pl : Int} (n : Int) (w : World) (h : RS w b o c a d s off (p, 0, pl)) (h1n : 1 ≤ n) (h8 : n ≤ 8) (hm : (s.size : Int) - p < n) (hp : p ≤ s.size) (hs : s.size ≤ 100) (ho : off ≤ 1099511627776) :
    Calls Tryd.prog 38 #[.int .i64 n, .bool true, .pointer (some ⟨c, 0, none⟩), .pointer (some ⟨d, 0, none⟩), .pointer (some ⟨o, 0, none⟩), .pointer (some ⟨a, 0, none⟩), .pointer (some ⟨b, 0, none⟩)] w (TakePost w b o c a d s off ([], p, 7, (off : Int) + p)) := by
  have h0 : w.cell? ⟨c, 0, none⟩ = some (.int .i64 0) := h.hc.c0
  have h1 : w.cell? ⟨c, 1, none⟩ = some (.int .i64 pl) := h.hc.c1
  have f1 : ¬ n < 0 := by omega
  have f2 : ¬ n < 1 := by omega
  have f3 : decide (8 < n) = false := decide_eq_false (by omega)
  go_enter Tryd.func38, Tryd.ntmps38
  go_wp2_with fail
  refine (is_yes pl _).mono ?_
  rintro e w1 ⟨rfl, hb⟩
  have r1 := h.below hb
  have q1 : Keep2 w w1 c a := keep_below hb
  have k1 := r1.kd
  have k2 : w1.cell? ⟨o, 0, none⟩ = some (.int .i64 off) := r1.ko
  have k3 : w1.cell? ⟨a, 0, none⟩ = some (.int .i64 p) := r1.ka
  have k4 := r1.kb
  clear h0 h1 hb h
  go_wp2_with fail
  refine (note_first 7 _ _ r1.hc).mono ?_
  rintro e w2 ⟨rfl, hn2, g2⟩
  have r2 := r1.note g2 hn2
  have q2 := q1.trans (keep_c g2)
  go_wp2
  go_ret
  exact ⟨rfl, r2, q2⟩

set_option maxHeartbeats 800000 in
theorem take_read_true {p : Nat} {pl : Int} (n : Nat) (w : World) (h : RS w b o c a d s off (p, 0, pl)) (h1n : 1 ≤ n) (h8 : n ≤ 8) (hm : p + n ≤ s.size) (hp : p ≤ s.size) (hs : s.size ≤ 100) (ho : off ≤ 1099511627776) :
    Calls Tryd.prog 38 #[.int .i64 n, .bool true, .pointer (some ⟨c, 0, none⟩), .pointer (some ⟨d, 0, none⟩), .pointer (some ⟨o, 0, none⟩), .pointer (some ⟨a, 0, none⟩), .pointer (some ⟨b, 0, none⟩)] w (TakePost w b o c a d s off ((s.data.toList.drop p).take n, p + n, 0, pl)) := by
  have h0 : w.cell? ⟨c, 0, none⟩ = some (.int .i64 0) := h.hc.c0
  have h1 : w.cell? ⟨c, 1, none⟩ = some (.int .i64 pl) := h.hc.c1
  have f1 : ¬ (n : Int) < 0 := by omega
  have f2 : ¬ (n : Int) < 1 := by omega
  have f3 : decide (8 < (n : Int)) = false := decide_eq_false (by omega)
  go_enter Tryd.func38, Tryd.ntmps38
  go_wp2_with fail
  refine (is_yes pl _).mono ?_
  rintro e w1 ⟨rfl, hb⟩
  have r1 := h.below hb
  have q1 : Keep2 w w1 c a := keep_below hb
  have k1 := r1.kd
  have k2 : w1.cell? ⟨o, 0, none⟩ = some (.int .i64 off) := r1.ko
  have k3 : w1.cell? ⟨a, 0, none⟩ = some (.int .i64 p) := r1.ka
  have k4 := r1.kb
  clear h0 h1 hb h
  have hm' : ¬ (s.size : Int) - (p : Int) < (n : Int) := by omega
  have z3 := r1.za
  have r2 : RS (w1.setCell ⟨a, 0, none⟩ (.int .i64 ((p : Int) + (n : Int)))) b o c a d s off (p + n, 0, pl) := r1.move (by simp)
  have q2 : Keep2 w (w1.setCell ⟨a, 0, none⟩ (.int .i64 ((p : Int) + (n : Int)))) c a := q1.trans (keep_a _)
  have R2 := Lib.hid r2
  have n1 := r1.ne
  have hba : b ≠ a := n1.2.1
  have HS : Hid (s.extract p (p + n) = ⟨((s.data.toList.drop p).take n).toArray⟩) := by
    show _ = _
    apply ByteArray.ext
    apply Array.toList_inj.1
    rw [extract_list, Nat.add_sub_cancel_left]
  clear r1 r2 n1
  go_wp2
  rw [HS.out]
  go_ret
  exact ⟨rfl, R2.out, q2⟩

/-- take, whatever it is asked. -/
theorem take_any (n : Int) (num : Bool) (st : RSt) (w : World) (h : RS w b o c a d s off st) (hp : st.1 ≤ s.size) (hs : s.size ≤ 100) (ho : off ≤ 1099511627776) :
    Calls Tryd.prog 38 #[.int .i64 n, .bool num, .pointer (some ⟨c, 0, none⟩), .pointer (some ⟨d, 0, none⟩), .pointer (some ⟨o, 0, none⟩), .pointer (some ⟨a, 0, none⟩), .pointer (some ⟨b, 0, none⟩)] w (TakePost w b o c a d s off (takeN s.data.toList off st n num)) := by
  obtain ⟨p, e0, pl⟩ := st
  have hl : s.data.toList.length = s.size := by simp
  unfold takeN
  by_cases he : e0 ≠ 0
  · rw [if_pos he]; exact take_noted n num w h he
  rw [if_neg he]
  have he0 : e0 = 0 := Decidable.not_not.1 he
  subst he0
  by_cases h1 : n < 0
  · rw [if_pos (Or.inl h1)]; exact take_neg n num w h h1 hp hs ho
  cases num with
  | false =>
    rw [if_neg (by intro q; rcases q with q | ⟨q, _⟩; exact h1 q; cases q)]
    by_cases hm : (s.data.toList.length : Int) - p < n
    · rw [if_pos hm]; exact take_missing_false n w h (by omega) (by rw [← hl]; exact hm) hp hs ho
    · rw [if_neg hm]
      obtain ⟨N, rfl⟩ := Int.eq_ofNat_of_zero_le (show 0 ≤ n by omega)
      exact take_read_false N w h (by omega) (by rw [hl] at hm; have hp' : p ≤ s.size := hp; omega) hp hs ho
  | true =>
    by_cases h2 : n < 1 ∨ 8 < n
    · rw [if_pos (Or.inr ⟨rfl, h2⟩)]
      by_cases h8 : 8 < n
      · exact take_wide n w h h8 hp hs ho
      · have hn0 : n = 0 := by omega
        subst hn0
        exact take_zero w h hp hs ho
    · rw [if_neg (by intro q; rcases q with q | ⟨_, q⟩; exact h1 q; exact h2 q)]
      by_cases hm : (s.data.toList.length : Int) - p < n
      · rw [if_pos hm]; exact take_missing_true n w h (by omega) (by omega) (by rw [← hl]; exact hm) hp hs ho
      · rw [if_neg hm]
        obtain ⟨N, rfl⟩ := Int.eq_ofNat_of_zero_le (show 0 ≤ n by omega)
        exact take_read_true N w h (by omega) (by omega) (by rw [hl] at hm; have hp' : p ≤ s.size := hp; omega) hp hs ho
end
end Go.Proofs.YtiikdmempgmlnaaDoor
