/- switchyardlaw.TlvReads: every text, read by the program and by the document: true, and what was there is as it was. -/
import Derived.Test.YticjmjoiggnblaaDoorRefTlRead
import Derived.Test.YticjmjoiggnblaaDoorPlaced
namespace Go.Proofs.YticjmjoiggnblaaDoor.tlvReads
open Go.RowKit
attribute [local go_sem ↓] Go.wp_at_zero Go.wp_at_succ
set_option linter.unusedSimpArgs false
set_option linter.unusedVariables false
set_option maxRecDepth 100000

set_option maxHeartbeats 6400000 in
theorem walk_some (s : ByteArray) (w : World) (hE : HasErr w) (hs : s.size ≤ 3000) (l : List Tl) (n : List Nat) (fin : Nat) (x y : Int) (hll : l.length ≤ 100000) (hnl : n.length = l.length)
    (HV : Hid (∀ W, Calls Tryd.prog 14 #[.string s] W fun r w' => ∃ v1 v2, r = .returned (.tuple #[v1, v2, .int .i64 (fin : Nat), .agg (ftC x y)]) ∧ OwnTl w' W.heap.size v1 l ∧ OwnNat w' W.heap.size v2 n ∧ Below W.heap.size W w'))
    (HW : Hid (∀ W, Calls Tryd.prog 15 #[.string s] W fun e w' => ∃ v1 v2 er, e = .returned (.tuple #[v1, v2, .int .i64 (fin : Nat), er]) ∧ OwnTl w' W.heap.size v1 l ∧ OwnNat w' W.heap.size v2 n ∧ ErrAs w' er x y ∧ Below W.heap.size W w')) :
    Calls Tryd.prog 4 #[.string s] w fun e w' => e = .returned (.bool true) ∧ Below w.heap.size w w' := by
  have h3 : decide ((3000 : Int) < (s.size : Int)) = false := decide_eq_false (by omega)
  go_enter Tryd.func4, Tryd.ntmps4
  go_wp2_with fail
  refine (HV.out _).mono ?_
  rintro e w2 ⟨v1, v2, rfl, O1, O2, b2⟩
  obtain ⟨a1, c1, hv1, I2⟩ := O1.inL
  subst hv1
  obtain ⟨a2, c2, hv2, J2⟩ := O2.inL
  subst hv2
  have HF3 := Blk.new w2 27 (ftC 0 0)
  have B3 := b2.alloc b2.size (.cells (ftC 0 0) 27)
  have hb3 : Below w2.heap.size w2 (w2.alloc (.cells (ftC 0 0) 27)) := (Below.refl _ _).alloc (Nat.le_refl _) _
  have I3 := I2.below hb3
  have J3 := J2.below hb3
  have hs2 := b2.size
  clear O1 O2 HV
  go_upto_region 4 with (first | (refine alloc_blk 27 (ftC 0 0) (by rfl) rfl Tryd.ftZero ?_) | (refine store_blk (k := 0) 27 (.agg (ftC x y)) (ftC x y) (by rfl) rfl rfl rfl HF3 (by kernel_rfl) (by exact Nat.le_refl 2) rfl rfl (fun w4 HF4 b4 g4 => ?_)))
  have I4 := I3.late I2 b4
  have J4 := J3.late J2 b4
  have B4 := B3.trans (b4.mono hs2)
  clear HF3 B3 I3 J3 I2 J2 b4 g4 b2 hb3
  go_wp2_with fail
  refine (HW.out _).mono ?_
  rintro e w5 ⟨v3, v4, er, rfl, O3, O4, hp5, b5⟩
  obtain ⟨a3, c3, hv3, I5⟩ := O3.inL
  subst hv3
  obtain ⟨a4, c4, hv4, J5⟩ := O4.inL
  subst hv4
  have HF5 := HF4.kept b5
  have I5b := I4.below b5
  have J5b := J4.below b5
  have B5 := B4.trans (b5.mono B4.size)
  have hE5 := hE.below B5
  clear O3 O4 HW HF4 I4 J4 B4 b5
  have e1 : ((l.length : Int) != (l.length : Int)) = false := by simp
  have e2 : ((n.length : Int) != (n.length : Int)) = false := by simp
  have e3 : ((fin : Int) != (fin : Int)) = false := by simp
  go_wp2_with (refine load_blk (k := 0) 27 (ftC x y) (by rfl) rfl rfl HF5 (by kernel_rfl) (by kernel_rfl) rfl ?_)
  refine (placed_any er x y _ hE5 hp5).mono ?_
  rintro e w6 ⟨rfl, b6⟩
  have I6 := I5.below b6
  have J6 := J5.below b6
  have I6b := I5b.below b6
  have J6b := J5b.below b6
  have B6 := B5.trans (b6.mono B5.size)
  clear I5 J5 I5b J5b B5 b6 HF5 hE5 hp5
  go_wp2_with fail
  go_loopw [54] (fun i wr => ∃ k : Nat, k ≤ l.length ∧ i = .int .i64 k ∧ Below w6.heap.size w6 wr ∧ Below w.heap.size w wr) (fun i _ => l.length - (intOf i).toNat)
  case atStart => exact ⟨0, by omega, rfl, Below.refl _ _, B6⟩
  case round =>
    obtain ⟨k, hk, rfl, hb, Bk⟩ := hrel
    by_cases hlt : k < l.length
    · have hltn : k < n.length := by omega
      obtain ⟨b1, o1, rfl, hb1, hat1⟩ := I6b.at hlt
      obtain ⟨b2, o2, rfl, hb2, hat2⟩ := I6.at hlt
      obtain ⟨b3, o3, rfl, hb3, hat3⟩ := J6b.at hltn
      obtain ⟨b4, o4, rfl, hb4, hat4⟩ := J6.at hltn
      have q1 : (k : Int) < (l.length : Int) := by omega
      have q2 : decide ((k : Int) < (l.length : Int)) = true := decide_eq_true q1
      have q3 : (0 : Int) ≤ (k : Int) := by omega
      have q4 : (k : Int) < (n.length : Int) := by omega
      have HK1 := (hat1 k hlt).below hb hb1
      have HK2 := (hat2 k hlt).below hb hb2
      have HK3 : wr.cell? ⟨b3, o3 + k, none⟩ = some (.int .i64 (n[k] : Nat)) := by
        have q := ((hat3 k hltn).below hb hb3) 0 (.int .i64 (n[k] : Nat)) rfl
        rw [Nat.mul_one, Nat.add_zero] at q
        exact q
      have HK4 : wr.cell? ⟨b4, o4 + k, none⟩ = some (.int .i64 (n[k] : Nat)) := by
        have q := ((hat4 k hltn).below hb hb4) 0 (.int .i64 (n[k] : Nat)) rfl
        rw [Nat.mul_one, Nat.add_zero] at q
        exact q
      have HEQ := fun W => tl_same l[k] W
      generalize l[k] = t at *
      generalize n[k] = z at *
      clear hat1 hat2 hat3 hat4
      go_upto_region 10 with (fail)
      refine wp_region_noPanic ?_
      refine wp_region_held_drew (S := (fun w' => CellsAt w' b1 (o1 + k * 2) (tlC t) ∧ CellsAt w' b2 (o2 + k * 2) (tlC t) ∧ w'.cell? ⟨b3, o3 + k, none⟩ = some (.int .i64 (z : Nat)) ∧ w'.cell? ⟨b4, o4 + k, none⟩ = some (.int .i64 (z : Nat)))) (by kernel_rfl) ?_ (fun hHeld => ?_)
      · exact ⟨HK1, HK2, HK3, HK4⟩
      refine wpAnyH_take (i := 0) (v := ?_) rfl (by kernel_rfl) (by kernel_rfl) (by kernel_rfl) (fun _ _ _ h => h) (Or.inl ⟨by rfl, ?_⟩) (by assumption) ?_
      rotate_left
      · (intro w hSw; (try dsimp only at hSw); go_simp; (try with_reducible rfl))
      (try simp only [Act.put, List.getElem_toArray, List.getElem_cons_zero, List.getElem_cons_succ, List.setIfInBounds_toArray, List.set_cons_zero, List.set_cons_succ])
      refine wpAnyH_take (i := 1) (v := ?_) rfl (by kernel_rfl) (by kernel_rfl) (by kernel_rfl) (fun _ _ _ h => h) (Or.inl ⟨by rfl, ?_⟩) (by assumption) ?_
      rotate_left
      · (intro w hSw; (try dsimp only at hSw); go_simp; (try with_reducible rfl))
      (try simp only [Act.put, List.getElem_toArray, List.getElem_cons_zero, List.getElem_cons_succ, List.setIfInBounds_toArray, List.set_cons_zero, List.set_cons_succ])
      refine wpAnyH_take (i := 2) (v := ?_) rfl (by kernel_rfl) (by kernel_rfl) (by kernel_rfl) (fun _ _ _ h => h) (Or.inl ⟨by rfl, ?_⟩) (by assumption) ?_
      rotate_left
      · (intro w hSw; (try dsimp only at hSw); go_simp; (try with_reducible rfl))
      (try simp only [Act.put, List.getElem_toArray, List.getElem_cons_zero, List.getElem_cons_succ, List.setIfInBounds_toArray, List.set_cons_zero, List.set_cons_succ])
      refine wpAnyH_take (i := 3) (v := .agg (tlC t)) rfl (by kernel_rfl) (by kernel_rfl) (by kernel_rfl) (fun _ _ _ h => h) (Or.inl ⟨by rfl, fun w hSw => exec_load_cells 24 (tlC t) rfl rfl hSw.1 (by kernel_rfl) (by kernel_rfl)⟩) (by assumption) ?_
      (try simp only [Act.put, List.getElem_toArray, List.getElem_cons_zero, List.getElem_cons_succ, List.setIfInBounds_toArray, List.set_cons_zero, List.set_cons_succ])
      refine wpAnyH_take (i := 4) (v := ?_) rfl (by kernel_rfl) (by kernel_rfl) (by kernel_rfl) (fun _ _ _ h => h) (Or.inl ⟨by rfl, ?_⟩) (by assumption) ?_
      rotate_left
      · (intro w hSw; (try dsimp only at hSw); go_simp; (try with_reducible rfl))
      (try simp only [Act.put, List.getElem_toArray, List.getElem_cons_zero, List.getElem_cons_succ, List.setIfInBounds_toArray, List.set_cons_zero, List.set_cons_succ])
      refine wpAnyH_take (i := 5) (v := ?_) rfl (by kernel_rfl) (by kernel_rfl) (by kernel_rfl) (fun _ _ _ h => h) (Or.inl ⟨by rfl, ?_⟩) (by assumption) ?_
      rotate_left
      · (intro w hSw; (try dsimp only at hSw); go_simp; (try with_reducible rfl))
      (try simp only [Act.put, List.getElem_toArray, List.getElem_cons_zero, List.getElem_cons_succ, List.setIfInBounds_toArray, List.set_cons_zero, List.set_cons_succ])
      refine wpAnyH_take (i := 6) (v := ?_) rfl (by kernel_rfl) (by kernel_rfl) (by kernel_rfl) (fun _ _ _ h => h) (Or.inl ⟨by rfl, ?_⟩) (by assumption) ?_
      rotate_left
      · (intro w hSw; (try dsimp only at hSw); go_simp; (try with_reducible rfl))
      (try simp only [Act.put, List.getElem_toArray, List.getElem_cons_zero, List.getElem_cons_succ, List.setIfInBounds_toArray, List.set_cons_zero, List.set_cons_succ])
      refine wpAnyH_take (i := 7) (v := .agg (tlC t)) rfl (by kernel_rfl) (by kernel_rfl) (by kernel_rfl) (fun _ _ _ h => h) (Or.inl ⟨by rfl, fun w hSw => exec_load_cells 24 (tlC t) rfl rfl hSw.2.1 (by kernel_rfl) (by kernel_rfl)⟩) (by assumption) ?_
      (try simp only [Act.put, List.getElem_toArray, List.getElem_cons_zero, List.getElem_cons_succ, List.setIfInBounds_toArray, List.set_cons_zero, List.set_cons_succ])
      refine wpAnyH_take (i := 8) (v := .bool false) rfl (by kernel_rfl) (by kernel_rfl) (by kernel_rfl) (fun _ _ _ h => h) (Or.inl ⟨by rfl, fun w hSw => exec_eq_agg .neq 24 (tlC t) (tlC t) true rfl (Or.inr rfl) rfl rfl (by kernel_rfl) (HEQ w)⟩) (by assumption) ?_
      (try simp only [Act.put, List.getElem_toArray, List.getElem_cons_zero, List.getElem_cons_succ, List.setIfInBounds_toArray, List.set_cons_zero, List.set_cons_succ])
      refine wpAnyH_take (i := 9) (v := ?_) rfl (by kernel_rfl) (by kernel_rfl) (by kernel_rfl) (fun _ _ _ h => h) (Or.inl ⟨by rfl, ?_⟩) (by assumption) ?_
      rotate_left
      · (intro w hSw; (try dsimp only at hSw); go_simp; (try with_reducible rfl))
      (try simp only [Act.put, List.getElem_toArray, List.getElem_cons_zero, List.getElem_cons_succ, List.setIfInBounds_toArray, List.set_cons_zero, List.set_cons_succ])
      refine wpAnyH_take (i := 10) (v := ?_) rfl (by kernel_rfl) (by kernel_rfl) (by kernel_rfl) (fun _ _ _ h => h) (Or.inl ⟨by rfl, ?_⟩) (by assumption) ?_
      rotate_left
      · (intro w hSw; (try dsimp only at hSw); go_simp; (try with_reducible rfl))
      (try simp only [Act.put, List.getElem_toArray, List.getElem_cons_zero, List.getElem_cons_succ, List.setIfInBounds_toArray, List.set_cons_zero, List.set_cons_succ])
      refine wpAnyH_take (i := 11) (v := ?_) rfl (by kernel_rfl) (by kernel_rfl) (by kernel_rfl) (fun _ _ _ h => h) (Or.inl ⟨by rfl, ?_⟩) (by assumption) ?_
      rotate_left
      · (intro w hSw; (try dsimp only at hSw); go_simp; (try with_reducible rfl))
      (try simp only [Act.put, List.getElem_toArray, List.getElem_cons_zero, List.getElem_cons_succ, List.setIfInBounds_toArray, List.set_cons_zero, List.set_cons_succ])
      refine wpAnyH_take (i := 12) (v := ?_) rfl (by kernel_rfl) (by kernel_rfl) (by kernel_rfl) (fun _ _ _ h => h) (Or.inl ⟨by rfl, ?_⟩) (by assumption) ?_
      rotate_left
      · (intro w hSw; (try dsimp only at hSw); go_simp; (try with_reducible rfl))
      (try simp only [Act.put, List.getElem_toArray, List.getElem_cons_zero, List.getElem_cons_succ, List.setIfInBounds_toArray, List.set_cons_zero, List.set_cons_succ])
      refine wpAnyH_take (i := 13) (v := .int .i64 (z : Nat)) rfl (by kernel_rfl) (by kernel_rfl) (by kernel_rfl) (fun _ _ _ h => h) (Or.inl ⟨by rfl, fun w hSw => by have c := hSw.2.2.1; go_simp⟩) (by assumption) ?_
      (try simp only [Act.put, List.getElem_toArray, List.getElem_cons_zero, List.getElem_cons_succ, List.setIfInBounds_toArray, List.set_cons_zero, List.set_cons_succ])
      refine wpAnyH_take (i := 14) (v := ?_) rfl (by kernel_rfl) (by kernel_rfl) (by kernel_rfl) (fun _ _ _ h => h) (Or.inl ⟨by rfl, ?_⟩) (by assumption) ?_
      rotate_left
      · (intro w hSw; (try dsimp only at hSw); go_simp; (try with_reducible rfl))
      (try simp only [Act.put, List.getElem_toArray, List.getElem_cons_zero, List.getElem_cons_succ, List.setIfInBounds_toArray, List.set_cons_zero, List.set_cons_succ])
      refine wpAnyH_take (i := 15) (v := ?_) rfl (by kernel_rfl) (by kernel_rfl) (by kernel_rfl) (fun _ _ _ h => h) (Or.inl ⟨by rfl, ?_⟩) (by assumption) ?_
      rotate_left
      · (intro w hSw; (try dsimp only at hSw); go_simp; (try with_reducible rfl))
      (try simp only [Act.put, List.getElem_toArray, List.getElem_cons_zero, List.getElem_cons_succ, List.setIfInBounds_toArray, List.set_cons_zero, List.set_cons_succ])
      refine wpAnyH_take (i := 16) (v := ?_) rfl (by kernel_rfl) (by kernel_rfl) (by kernel_rfl) (fun _ _ _ h => h) (Or.inl ⟨by rfl, ?_⟩) (by assumption) ?_
      rotate_left
      · (intro w hSw; (try dsimp only at hSw); go_simp; (try with_reducible rfl))
      (try simp only [Act.put, List.getElem_toArray, List.getElem_cons_zero, List.getElem_cons_succ, List.setIfInBounds_toArray, List.set_cons_zero, List.set_cons_succ])
      refine wpAnyH_take (i := 17) (v := .int .i64 (z : Nat)) rfl (by kernel_rfl) (by kernel_rfl) (by kernel_rfl) (fun _ _ _ h => h) (Or.inl ⟨by rfl, fun w hSw => by have c := hSw.2.2.2; go_simp⟩) (by assumption) ?_
      (try simp only [Act.put, List.getElem_toArray, List.getElem_cons_zero, List.getElem_cons_succ, List.setIfInBounds_toArray, List.set_cons_zero, List.set_cons_succ])
      refine wpAnyH_take (i := 18) (v := ?_) rfl (by kernel_rfl) (by kernel_rfl) (by kernel_rfl) (fun _ _ _ h => h) (Or.inl ⟨by rfl, ?_⟩) (by assumption) ?_
      rotate_left
      · (intro w hSw; (try dsimp only at hSw); go_simp; (try with_reducible rfl))
      (try simp only [Act.put, List.getElem_toArray, List.getElem_cons_zero, List.getElem_cons_succ, List.setIfInBounds_toArray, List.set_cons_zero, List.set_cons_succ])
      refine wpAnyH_take (i := 19) (v := ?_) rfl (by kernel_rfl) (by kernel_rfl) (by kernel_rfl) (fun _ _ _ h => h) (Or.inl ⟨by rfl, ?_⟩) (by assumption) ?_
      rotate_left
      · (intro w hSw; (try dsimp only at hSw); go_simp; (try with_reducible rfl))
      (try simp only [Act.put, List.getElem_toArray, List.getElem_cons_zero, List.getElem_cons_succ, List.setIfInBounds_toArray, List.set_cons_zero, List.set_cons_succ])
      refine wpAnyH_done (by kernel_rfl) ?_ _
      refine NoPanic.normal ?_
      have hbd := hb.drew
      have Bkd := Bk.drew
      go_wp2
      go_roundw
      case rel => exact ⟨k + 1, by omega, by go_num, hbd, Bkd⟩
      case measure => simp [intOf]; omega
    · obtain rfl : k = l.length := by omega
      have q2 : decide ((l.length : Int) < (l.length : Int)) = false := decide_eq_false (by omega)
      go_wp2
      go_ret
      exact ⟨rfl, Bk⟩

theorem recs_len (s : List UInt8) (hs : s.length ≤ 3000) : (rdAll s).recs.length ≤ 100000 ∧ (rdAll s).offs.length = (rdAll s).recs.length := by
  cases h : rdAll s with
  | bad e p => exact ⟨Nat.zero_le _, rfl⟩
  | ok m b e =>
    obtain ⟨n, q1, q2, q3, q4, q5, q6, q7, q8⟩ := rd_was s _ _ _ _ _ _ _ h
    rw [List.nil_append] at q1 q2
    subst q1
    subst q2
    have hl : ∀ (l : List Tl), 2 * l.length ≤ (tlWs l).length := fun l => by
      induction l with
      | nil => simp [tlWs]
      | cons x l ih => rw [tlWs_cons, List.length_append, tlW_len, List.length_cons]; omega
    have h1 := hl m
    have h2 := congrArg List.length q4
    rw [List.length_take] at h2
    refine ⟨?_, ?_⟩
    · show m.length ≤ 100000
      have : ((s.drop 0).length) ≤ 3000 := by simpa using hs
      omega
    · exact offs_len m 0

theorem walk (s : ByteArray) (w : World) (hE : HasErr w) :
    Calls Tryd.prog 4 #[.string s] w fun e w' => e = .returned (.bool true) ∧ Below w.heap.size w w' := by
  by_cases hs : s.size ≤ 3000
  · have hl := recs_len s.data.toList (by simpa using hs)
    refine walk_some s w hE hs _ _ (rdAll s.data.toList).fin (rdAll s.data.toList).er (rdAll s.data.toList).pl hl.1 hl.2 (Lib.hid fun W => refTlRead_any s W (by omega) _ rfl _ fun v1 v2 w' h1 h2 h3 => ⟨v1, v2, rfl, h1, h2, h3⟩) (Lib.hid fun W => tlRead_any s W (by omega) _ rfl)
  · have h3 : decide ((3000 : Int) < (s.size : Int)) = true := decide_eq_true (by omega)
    go_enter Tryd.func4, Tryd.ntmps4
    go_wp2
    go_ret
    exact ⟨rfl, Below.refl _ _⟩

end Go.Proofs.YticjmjoiggnblaaDoor.tlvReads
