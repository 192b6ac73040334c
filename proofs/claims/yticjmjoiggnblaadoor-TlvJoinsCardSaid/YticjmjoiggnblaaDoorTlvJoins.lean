/- switchyardkeep.TlvJoins: records that are written one behind the other are those of both: true, and what was there is as it was. -/
import Derived.Test.YticjmjoiggnblaaDoorTlFacts
import Derived.Test.YticjmjoiggnblaaDoorTlConcat
namespace Go.Proofs.YticjmjoiggnblaaDoor.tlvJoins
open Go.RowKit
attribute [local go_sem ↓] Go.wp_at_zero Go.wp_at_succ
set_option linter.unusedSimpArgs false
set_option linter.unusedVariables false
set_option maxRecDepth 100000

/-- What is wrong first in the first list is wrong first in both. -/
theorem bad_left {a b : List Tl} {k : Nat} (hk : k < a.length) (h : okTl a[k] = false) (h2 : ∀ x ∈ a.take k, okTl x = true) : ∃ hk2 : k < (a ++ b).length, okTl (a ++ b)[k] = false ∧ ∀ x ∈ (a ++ b).take k, okTl x = true := by
  refine ⟨by rw [List.length_append]; omega, ?_, ?_⟩
  · rw [List.getElem_append_left hk]
    exact h
  · rw [List.take_append_of_le_length (by omega)]
    exact h2
theorem bad_right {a b : List Tl} {k : Nat} (ha : ∀ x ∈ a, okTl x = true) (hk : k < b.length) (h : okTl b[k] = false) (h2 : ∀ x ∈ b.take k, okTl x = true) : ∃ hk2 : a.length + k < (a ++ b).length, okTl (a ++ b)[a.length + k] = false ∧ ∀ x ∈ (a ++ b).take (a.length + k), okTl x = true := by
  refine ⟨by rw [List.length_append]; omega, ?_, ?_⟩
  · rw [List.getElem_append_right (by omega)]
    simpa using h
  · rw [List.take_length_add_append]
    intro x hx
    rcases List.mem_append.1 hx with q | q
    · exact ha x q
    · exact h2 x q
theorem write_join (a b : List Tl) : (tlWrite a).take ((tlWrite a).length - 2) ++ tlWrite b = tlWrite (a ++ b) := by
  unfold tlWrite
  rw [List.length_append, List.length_cons, List.length_singleton, Nat.add_sub_cancel, List.take_left, tlWs_app, List.append_assoc]

set_option maxHeartbeats 12800000 in
theorem walk_err (a1 : Option Addr) (c1 : Nat) (a : List Tl) (a2 : Option Addr) (c2 : Nat) (b : List Tl) (w : World) (ha : TlIn w a1 a) (hb : TlIn w a2 b) (hla : a.length ≤ 40) (hlb : b.length ≤ 40) (X Y : List UInt8) (e1 p1 e2 p2 e3 p3 : Int) (he : e1 ≠ 0 ∨ (e1 = 0 ∧ e2 ≠ 0)) (he3 : e3 ≠ 0)
    (HL : Hid (∀ (w : World), Calls Tryd.prog 16 #[] w fun e w' => e = .returned (.bool true) ∧ Below w.heap.size w w'))
    (HFa : Hid (∀ (w : World), TlIn w a1 a → Calls Tryd.prog 17 #[.slice a1 a.length c1] w fun e w' => e = .returned (.bool true) ∧ Below w.heap.size w w'))
    (HFb : Hid (∀ (w : World), TlIn w a2 b → Calls Tryd.prog 17 #[.slice a2 b.length c2] w fun e w' => e = .returned (.bool true) ∧ Below w.heap.size w w'))
    (HWa : Hid (∀ (W : World), TlIn W a1 a → Calls Tryd.prog 12 #[.slice a1 a.length c1] W fun e w' => ∃ er, e = .returned (.tuple #[.string ⟨X.toArray⟩, er]) ∧ ErrAs w' er e1 p1 ∧ Below W.heap.size W w'))
    (HWb : Hid (∀ (W : World), TlIn W a2 b → Calls Tryd.prog 12 #[.slice a2 b.length c2] W fun e w' => ∃ er, e = .returned (.tuple #[.string ⟨Y.toArray⟩, er]) ∧ ErrAs w' er e2 p2 ∧ Below W.heap.size W w'))
    (HWc : Hid (∀ (a3 : Option Addr) (c3 : Nat) (W : World), TlIn W a3 (a ++ b) → Calls Tryd.prog 12 #[.slice a3 (a.length + b.length) c3] W fun e w' => ∃ er, e = .returned (.tuple #[.string ⟨#[]⟩, er]) ∧ ErrAs w' er e3 p3 ∧ Below W.heap.size W w')) :
    Calls Tryd.prog 6 #[.slice a1 a.length c1, .slice a2 b.length c2] w fun e w' => e = .returned (.bool true) ∧ Below w.heap.size w w' := by
  go_enter Tryd.func6, Tryd.ntmps6
  go_wp2_with fail
  refine (HL.out _).mono ?_
  rintro e w1 ⟨rfl, b1⟩
  go_wp2_with fail
  refine (HFa.out _ (ha.below b1)).mono ?_
  rintro e w2 ⟨rfl, b2⟩
  have B2 := b1.trans (b2.mono b1.size)
  go_wp2_with fail
  refine (HFb.out _ (hb.below B2)).mono ?_
  rintro e w3 ⟨rfl, b3⟩
  have B3 := B2.trans (b3.mono B2.size)
  go_wp2_with fail
  refine (HWa.out _ (ha.below B3)).mono ?_
  rintro e w4 ⟨er1, rfl, q1, b4⟩
  have B4 := B3.trans (b4.mono B3.size)
  go_wp2_with fail
  refine (HWb.out _ (hb.below B4)).mono ?_
  rintro e w5 ⟨er2, rfl, q2, b5⟩
  have B5 := B4.trans (b5.mono B4.size)
  have HG6 := Blk.new w5 22 #[.slice a1 a.length c1, .slice a2 b.length c2]
  have B6 := B5.alloc B5.size (.cells #[.slice a1 a.length c1, .slice a2 b.length c2] 22)
  go_wp2_with fail
  refine (concat_tl _ a1 c1 a a2 c2 b _ HG6 (ha.below B6) (hb.below B6) hla hlb).mono ?_
  rintro e w7 ⟨a3, c3, rfl, I7, b7⟩
  have B7 := B6.trans (b7.mono B6.size)
  rw [List.length_append]
  clear HG6 B6 b7 b1 b2 b3 B2
  go_wp2_with fail
  refine (HWc.out _ _ _ I7).mono ?_
  rintro e w8 ⟨er3, rfl, q8, b8⟩
  have B8 := B7.trans (b8.mono B7.size)
  rcases q8 with ⟨_, q, _⟩ | ⟨_, r3, rfl, _⟩
  · exact absurd q he3
  rcases he with he | ⟨he, he2⟩
  · rcases q1 with ⟨_, q, _⟩ | ⟨_, r1, rfl, _⟩
    · exact absurd q he
    go_wp2
    go_ret
    exact ⟨rfl, B8⟩
  · rcases q1 with ⟨rfl, _, _⟩ | ⟨q, _⟩
    rotate_left
    · exact absurd he q
    rcases q2 with ⟨_, q, _⟩ | ⟨_, r2, rfl, _⟩
    · exact absurd q he2
    go_wp2
    go_ret
    exact ⟨rfl, B8⟩

set_option maxHeartbeats 12800000 in
theorem walk (a1 : Option Addr) (c1 : Nat) (a : List Tl) (a2 : Option Addr) (c2 : Nat) (b : List Tl) (w : World) (ha : TlIn w a1 a) (hlm : a.length ≤ maxLen) (hb : TlIn w a2 b) (hlm2 : b.length ≤ maxLen) :
    Calls Tryd.prog 6 #[.slice a1 a.length c1, .slice a2 b.length c2] w fun e w' => e = .returned (.bool true) ∧ Below w.heap.size w w' := by
  obtain ⟨fa, hfa, HFa0⟩ := fits_tl a1 c1 a hlm
  obtain ⟨fb, hfb, HFb0⟩ := fits_tl a2 c2 b hlm2
  have HFa := Lib.hid HFa0
  have HFb := Lib.hid HFb0
  have HL := Lib.hid listed_any
  clear HFa0 HFb0
  cases fa with
  | false =>
    go_enter Tryd.func6, Tryd.ntmps6
    go_wp2_with fail
    refine (HL.out _).mono ?_
    rintro e w1 ⟨rfl, b1⟩
    go_wp2_with fail
    refine (HFa.out _ (ha.below b1)).mono ?_
    rintro e w2 ⟨rfl, b2⟩
    have B2 := b1.trans (b2.mono b1.size)
    go_wp2
    go_ret
    exact ⟨rfl, B2⟩
  | true =>
  cases fb with
  | false =>
    go_enter Tryd.func6, Tryd.ntmps6
    go_wp2_with fail
    refine (HL.out _).mono ?_
    rintro e w1 ⟨rfl, b1⟩
    go_wp2_with fail
    refine (HFa.out _ (ha.below b1)).mono ?_
    rintro e w2 ⟨rfl, b2⟩
    have B2 := b1.trans (b2.mono b1.size)
    go_wp2_with fail
    refine (HFb.out _ (hb.below B2)).mono ?_
    rintro e w3 ⟨rfl, b3⟩
    have B3 := B2.trans (b3.mono B2.size)
    go_wp2
    go_ret
    exact ⟨rfl, B3⟩
  | true =>
  have hla : a.length ≤ 40 := hfa rfl
  have hlb : b.length ≤ 40 := hfb rfl
  have hlc : (a ++ b).length ≤ 1700 := by rw [List.length_append]; omega
  rcases all_or a with hoka | ⟨k, hk, hno, hok⟩
  rotate_left
  · obtain ⟨hk2, hno2, hok2⟩ := bad_left (b := b) hk hno hok
    rcases all_or b with hokb | ⟨kb, hkb, hnob, hokb⟩
    · exact walk_err a1 c1 a a2 c2 b w ha hb hla hlb [] (tlWrite b) 1 k 0 (-1) 1 k (Or.inl (by decide)) (by decide) HL HFa HFb
        (Lib.hid fun W h => tlWrite_any a1 c1 a k (by omega) hok (by omega) [] 1 k (Or.inr ⟨hk, hno, rfl, rfl, rfl⟩) W h)
        (Lib.hid fun W h => tlWrite_any a2 c2 b b.length (Nat.le_refl _) (fun x hx => hokb x (List.mem_of_mem_take hx)) (by omega) (tlWrite b) 0 (-1) (Or.inl ⟨rfl, rfl, rfl, rfl⟩) W h)
        (Lib.hid fun a3 c3 W h => by rw [← List.length_append]; exact tlWrite_any a3 c3 (a ++ b) k (by omega) hok2 hlc [] 1 k (Or.inr ⟨hk2, hno2, rfl, rfl, rfl⟩) W h)
    · exact walk_err a1 c1 a a2 c2 b w ha hb hla hlb [] [] 1 k 1 kb 1 k (Or.inl (by decide)) (by decide) HL HFa HFb
        (Lib.hid fun W h => tlWrite_any a1 c1 a k (by omega) hok (by omega) [] 1 k (Or.inr ⟨hk, hno, rfl, rfl, rfl⟩) W h)
        (Lib.hid fun W h => tlWrite_any a2 c2 b kb (by omega) hokb (by omega) [] 1 kb (Or.inr ⟨hkb, hnob, rfl, rfl, rfl⟩) W h)
        (Lib.hid fun a3 c3 W h => by rw [← List.length_append]; exact tlWrite_any a3 c3 (a ++ b) k (by omega) hok2 hlc [] 1 k (Or.inr ⟨hk2, hno2, rfl, rfl, rfl⟩) W h)
  rcases all_or b with hokb | ⟨kb, hkb, hnob, hokb⟩
  rotate_left
  · obtain ⟨hk2, hno2, hok2⟩ := bad_right hoka hkb hnob hokb
    exact walk_err a1 c1 a a2 c2 b w ha hb hla hlb (tlWrite a) [] 0 (-1) 1 kb 1 (a.length + kb : Nat) (Or.inr ⟨rfl, by decide⟩) (by decide) HL HFa HFb
      (Lib.hid fun W h => tlWrite_any a1 c1 a a.length (Nat.le_refl _) (fun x hx => hoka x (List.mem_of_mem_take hx)) (by omega) (tlWrite a) 0 (-1) (Or.inl ⟨rfl, rfl, rfl, rfl⟩) W h)
      (Lib.hid fun W h => tlWrite_any a2 c2 b kb (by omega) hokb (by omega) [] 1 kb (Or.inr ⟨hkb, hnob, rfl, rfl, rfl⟩) W h)
      (Lib.hid fun a3 c3 W h => by rw [← List.length_append]; exact tlWrite_any a3 c3 (a ++ b) (a.length + kb) (by omega) hok2 hlc [] 1 (a.length + kb : Nat) (Or.inr ⟨hk2, hno2, rfl, rfl, rfl⟩) W h)
  have HWa := Lib.hid (fun (W : World) (h : TlIn W a1 a) => tlWrite_any a1 c1 a a.length (Nat.le_refl _) (fun x hx => hoka x (List.mem_of_mem_take hx)) (by omega) (tlWrite a) 0 (-1) (Or.inl ⟨rfl, rfl, rfl, rfl⟩) W h)
  have HWb := Lib.hid (fun (W : World) (h : TlIn W a2 b) => tlWrite_any a2 c2 b b.length (Nat.le_refl _) (fun x hx => hokb x (List.mem_of_mem_take hx)) (by omega) (tlWrite b) 0 (-1) (Or.inl ⟨rfl, rfl, rfl, rfl⟩) W h)
  have HWc0 := (fun (a3 : Option Addr) (c3 : Nat) (W : World) (h : TlIn W a3 (a ++ b)) => tlWrite_any a3 c3 (a ++ b) (a ++ b).length (Nat.le_refl _) (fun x hx => by
    rcases List.mem_append.1 (List.mem_of_mem_take hx) with q | q
    · exact hoka x q
    · exact hokb x q) hlc (tlWrite (a ++ b)) 0 (-1) (Or.inl ⟨rfl, rfl, rfl, rfl⟩) W h)
  rw [List.length_append] at HWc0
  have HWc := Lib.hid HWc0
  clear HWc0
  have hj := write_join a b
  have hwa : (tlWrite a).length = (tlWs a).length + 2 := by unfold tlWrite; rw [List.length_append]; rfl
  have hwb : (tlWrite b).length = (tlWs b).length + 2 := by unfold tlWrite; rw [List.length_append]; rfl
  have h1 := tlWs_le a hoka
  have h2 := tlWs_le b hokb
  obtain ⟨n, hn⟩ : ∃ n, n = (tlWs a).length := ⟨_, rfl⟩
  rw [← hn] at hwa h1
  have hjl : (tlWrite a).length - 2 = n := by omega
  rw [hjl] at hj
  have e1 : IntKind.i64.wrap (((tlWrite a).length : Int) - 2) = (n : Int) := by rw [IntKind.wrap_i64] <;> omega
  have e2 : wrap64 (((tlWrite a).length : Int) - 2) = (n : Int) := by unfold wrap64; omega
  have e3 : (2 : Int) ≤ ((tlWrite a).length : Int) := by omega
  have e4 : decide ((2 : Int) ≤ ((tlWrite a).length : Int)) = true := decide_eq_true e3
  have e5 : (n : Int) ≤ ((tlWrite a).length : Int) := by omega
  have e6 : n ≤ (tlWrite a).length := by omega
  have d3 : (0 : Int) ≤ (n : Int) := by omega
  have e7 : ¬ (9223372036854775807 < n + (tlWrite b).length) := by omega
  have e8 : 2 ≤ (tlWrite a).length := by omega
  have hex : (⟨(tlWrite a).toArray⟩ : ByteArray).extract 0 n = ⟨((tlWrite a).take n).toArray⟩ := by
    have q := cutT ⟨(tlWrite a).toArray⟩ 0 n
    rw [Nat.zero_add, List.drop_zero] at q
    exact q
  have hlt : ((tlWrite a).take n).length = n := by rw [List.length_take]; omega
  have padd : ∀ W, (Op.stringOp .add ⟨((tlWrite a).take n).toArray⟩ ⟨(tlWrite b).toArray⟩).run Tryd.prog W = .ok (.string ⟨(tlWrite (a ++ b)).toArray⟩) W := fun W => by rw [← hj]; exact run_string_add_lists W ((tlWrite a).take n) (tlWrite b) (by omega) (by omega)
  clear hj hwa hwb h1 h2 hn hjl hlt hoka hokb hfa hfb hlc
  generalize (tlWrite a).take n = XT at *
  generalize tlWrite (a ++ b) = Z at *
  generalize tlWrite a = X at *
  generalize tlWrite b = Y at *
  have hzz : (Z == Z) = true := by simp
  go_enter Tryd.func6, Tryd.ntmps6
  go_wp2_with fail
  refine (HL.out _).mono ?_
  rintro e w1 ⟨rfl, b1⟩
  go_wp2_with fail
  refine (HFa.out _ (ha.below b1)).mono ?_
  rintro e w2 ⟨rfl, b2⟩
  have B2 := b1.trans (b2.mono b1.size)
  go_wp2_with fail
  refine (HFb.out _ (hb.below B2)).mono ?_
  rintro e w3 ⟨rfl, b3⟩
  have B3 := B2.trans (b3.mono B2.size)
  go_wp2_with fail
  refine (HWa.out _ (ha.below B3)).mono ?_
  rintro e w4 ⟨er1, rfl, q1, b4⟩
  have B4 := B3.trans (b4.mono B3.size)
  go_wp2_with fail
  refine (HWb.out _ (hb.below B4)).mono ?_
  rintro e w5 ⟨er2, rfl, q2, b5⟩
  have B5 := B4.trans (b5.mono B4.size)
  have HG6 := Blk.new w5 22 #[.slice a1 a.length c1, .slice a2 b.length c2]
  have B6 := B5.alloc B5.size (.cells #[.slice a1 a.length c1, .slice a2 b.length c2] 22)
  go_wp2_with fail
  refine (concat_tl _ a1 c1 a a2 c2 b _ HG6 (ha.below B6) (hb.below B6) hla hlb).mono ?_
  rintro e w7 ⟨a3, c3, rfl, I7, b7⟩
  have B7 := B6.trans (b7.mono B6.size)
  rw [List.length_append]
  clear HG6 B6 b7 b1 b2 b3 B2
  go_wp2_with fail
  refine (HWc.out _ _ _ I7).mono ?_
  rintro e w8 ⟨er3, rfl, q8, b8⟩
  have B8 := B7.trans (b8.mono B7.size)
  rcases q1 with ⟨rfl, _, _⟩ | ⟨q, _⟩
  rotate_left
  · exact absurd rfl q
  rcases q2 with ⟨rfl, _, _⟩ | ⟨q, _⟩
  rotate_left
  · exact absurd rfl q
  rcases q8 with ⟨rfl, _, _⟩ | ⟨q, _⟩
  rotate_left
  · exact absurd rfl q
  go_wp2
  go_ret
  exact ⟨rfl, B8⟩

end Go.Proofs.YticjmjoiggnblaaDoor.tlvJoins
