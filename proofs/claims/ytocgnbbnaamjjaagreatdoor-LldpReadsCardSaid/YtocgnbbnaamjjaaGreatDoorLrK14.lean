/- Texts one behind the other. The reference's TlvRead at every text. -/
import Derived.Test.YtocgnbbnaamjjaaGreatDoorLrK10
import Derived.Test.YtocgnbbnaamjjaaGreatDoorLrK13
import Derived.Test.YtocgnbbnaamjjaaGreatDoorLrK7
import Derived.Test.YtocgnbbnaamjjaaGreatDoorLrK9
namespace Go.Proofs.YtocgnbbnaamjjaaGreatDoor
open Go.RowKit
attribute [local go_sem ↓] Go.wp_at_zero Go.wp_at_succ
set_option linter.unusedSimpArgs false
set_option linter.unusedVariables false
set_option maxRecDepth 100000

theorem ne4 (n : Nat) : n ≠ n + 1 ∧ n ≠ n + 2 ∧ n ≠ n + 3 ∧ n + 1 ≠ n + 2 ∧ n + 1 ≠ n + 3 ∧ n + 2 ≠ n + 3 := by omega

theorem own_tl_at {w w' : World} {v : Value} {l : List Tl} {base B : Nat} {T : TypeId} {C : Array Value} (hO : OwnTl w base v l) (hB : Blk w B T C) (hg : w.grownBy w' v.ownBlock) (hlt : B < base) : Blk w' B T C := by
  refine hB.grown hg ?_
  rcases hO.blk with e | ⟨g, C', e, h1, _⟩
  · rw [e]; simp
  · rw [e]
    intro q
    cases q
    omega

/-- What holds ahead of each round. -/
def RfInv (w : World) (s : ByteArray) (R : TlR) (Bs c : Nat) (wr : World) : Prop := ∃ (p f : Nat) (l : List Tl) (a : List Nat) (v1 v2 : Value), Cur wr c s p 0 ∧ p ≤ s.size ∧ rdTl s.data.toList f p l a = R ∧ s.size + 1 - p ≤ f ∧ 2 * l.length ≤ p ∧ a.length = l.length ∧ OwnTl wr Bs v1 l ∧ OwnNat wr Bs v2 a ∧
    Blk wr w.heap.size 73 #[v1] ∧ Blk wr (w.heap.size + 1) 74 #[v2] ∧ Blk wr (w.heap.size + 2) 3 #[.int .i64 0] ∧ Blk wr (w.heap.size + 3) 32 (ftC 0 (-1)) ∧ Below w.heap.size w wr ∧ Bs ≤ wr.heap.size

set_option maxHeartbeats 12800000 in
theorem refTlRead_any (s : ByteArray) (w : World) (hs : s.size ≤ 100000) (R : TlR) (hR : rdAll s.data.toList = R) (Q : Ending → World → Prop)
    (hQ0 : ∀ v1 v2 w', OwnTl w' w.heap.size v1 R.recs → OwnNat w' w.heap.size v2 R.offs → Below w.heap.size w w' → Q (.returned (.tuple #[v1, v2, .int .i64 (R.fin : Nat), .agg (ftC R.er R.pl)])) w') :
    Calls Tryz.prog 8 #[.string s] w Q := by
  have hQ := Lib.hid hQ0
  have hBad : Hid (∀ (e : Int) (x : Nat) w', R = .bad e x → Below w.heap.size w w' → Q (.returned (.tuple #[.slice none 0 0, .slice none 0 0, .int .i64 0, .agg (ftC e x)])) w') := fun e x w' h hb => by
    subst h
    exact hQ0 _ _ w' (Or.inl ⟨rfl, rfl⟩) (Or.inl ⟨rfl, rfl⟩) hb
  have hls : s.data.toList.length = s.size := by simp
  have hmf : ∀ (fn : Fn) (first cap : Array Value) (w : World), (Instr.makeFunc fn first cap).run Tryz.prog w = .ok (.func fn first cap) w := fun _ _ _ _ => rfl
  clear hQ0
  obtain ⟨W1, hW1⟩ : ∃ W1, W1 = w.alloc (.cells #[.slice none 0 0] 73) := ⟨_, rfl⟩
  obtain ⟨W2, hW2⟩ : ∃ W2, W2 = W1.alloc (.cells #[.slice none 0 0] 74) := ⟨_, rfl⟩
  obtain ⟨W3, hW3⟩ : ∃ W3, W3 = W2.alloc (.cells #[.int .i64 0] 3) := ⟨_, rfl⟩
  obtain ⟨W4, hW4⟩ : ∃ W4, W4 = W3.alloc (.cells (ftC 0 0) 32) := ⟨_, rfl⟩
  have z1 : W1.heap.size = w.heap.size + 1 := by rw [hW1]; simp
  have z2 : W2.heap.size = w.heap.size + 2 := by rw [hW2]; simp [z1]
  have z3 : W3.heap.size = w.heap.size + 3 := by rw [hW3]; simp [z2]
  have z4 : W4.heap.size = w.heap.size + 4 := by rw [hW4]; simp [z3]
  have HA0 : Blk W4 w.heap.size 73 #[.slice none 0 0] := by
    rw [hW4, hW3, hW2, hW1]
    exact (((Blk.new w _ _).alloc _).alloc _).alloc _
  have HB0 : Blk W4 (w.heap.size + 1) 74 #[.slice none 0 0] := by
    have q := ((Blk.new W1 74 #[.slice none 0 0]).alloc (.cells #[.int .i64 0] 3)).alloc (.cells (ftC 0 0) 32)
    rw [z1] at q
    rw [hW4, hW3, hW2]
    exact q
  have HC0 : Blk W4 (w.heap.size + 2) 3 #[.int .i64 0] := by
    have q := (Blk.new W2 3 #[.int .i64 0]).alloc (.cells (ftC 0 0) 32)
    rw [z2] at q
    rw [hW4, hW3]
    exact q
  have HE0 : Blk W4 (w.heap.size + 3) 32 (ftC 0 0) := by
    have q := Blk.new W3 32 (ftC 0 0)
    rw [z3] at q
    rw [hW4]
    exact q
  have B0 : Below w.heap.size w W4 := by
    rw [hW4]
    refine Below.alloc ?_ (by omega) _
    rw [hW3]
    refine Below.alloc ?_ (by omega) _
    rw [hW2]
    refine Below.alloc ?_ (by omega) _
    rw [hW1]
    exact (Below.refl _ _).alloc (Nat.le_refl _) _
  go_enter_defers Tryz.func8, Tryz.ntmps8
  go_upto_region 1 with (refine alloc_blk 32 (ftC 0 0) (by rfl) rfl Tryz.ftZero ?_)
  rw [← hW1, ← hW2, ← hW3, ← hW4]
  (try rw [z1])
  (try rw [z2])
  (try rw [z3])
  clear hW1 hW2 hW3 hW4 z1 z2 z3
  go_wp2_with fail
  refine (good_any _).mono ?_
  rintro e w2 ⟨rfl, b2⟩
  have HA2 := HA0.kept b2
  have HB2 := HB0.kept b2
  have HC2 := HC0.kept b2
  have HE2 := HE0.kept b2
  have B2 := B0.trans (b2.mono B0.size)
  clear HA0 HB0 HC0 HE0 B0 b2 z4
  go_upto_region 4 with (first | (refine store_blk (k := 0) 32 (.agg (ftC 0 (-1))) (ftC 0 (-1)) (by rfl) rfl rfl rfl HE2 (by kernel_rfl) (by exact Nat.le_refl 2) rfl rfl (fun w3 HE3 b3 g3 => ?_)))
  have HA3 := HA2.grown g3 (by simp)
  have HB3 := HB2.grown g3 (by simp)
  have HC3 := HC2.grown g3 (by simp)
  have B3 : Below w.heap.size w w3 := B2.trans (b3.mono (by omega))
  clear HA2 HB2 HC2 HE2 B2 b3 g3
  have HA4 := HA3.alloc (.cells #[.string s, .int .i64 (0 : Nat), .int .i64 (0 : Nat)] 117)
  have HB4 := HB3.alloc (.cells #[.string s, .int .i64 (0 : Nat), .int .i64 (0 : Nat)] 117)
  have HC4 := HC3.alloc (.cells #[.string s, .int .i64 (0 : Nat), .int .i64 (0 : Nat)] 117)
  have HE4 := HE3.alloc (.cells #[.string s, .int .i64 (0 : Nat), .int .i64 (0 : Nat)] 117)
  have HU4 : Cur (w3.alloc (.cells #[.string s, .int .i64 (0 : Nat), .int .i64 (0 : Nat)] 117)) w3.heap.size s 0 0 := Blk.new w3 117 _
  have B4 := B3.alloc B3.size (.cells #[.string s, .int .i64 (0 : Nat), .int .i64 (0 : Nat)] 117)
  have hc4 : w.heap.size + 3 < w3.heap.size := HE3.lt
  clear HA3 HB3 HC3 HE3 B3
  go_upto_region 5 with (refine build_blk (t := 117) #[.string s, .int .i64 (0 : Nat), .int .i64 (0 : Nat)] (by rfl) rfl (by kernel_rfl) ?_)
  generalize w3.alloc (.cells #[.string s, .int .i64 0, .int .i64 0] 117) = w4 at *
  generalize w3.heap.size = c at *
  have hcl := HU4.lt
  obtain ⟨Bs, hBs⟩ : ∃ Bs, Bs = w4.heap.size := ⟨_, rfl⟩
  have hcB : c < Bs := by omega
  go_loopw [7] (fun _ wr => RfInv w s R Bs c wr) (fun _ wr => s.size + 1 - curAt wr c)
  case atStart => exact ⟨0, s.size + 1, [], [], _, _, HU4, Nat.zero_le _, by rw [← hR]; unfold rdAll; rw [hls], by omega, by simp, rfl, Or.inl ⟨rfl, rfl⟩, Or.inl ⟨rfl, rfl⟩, HA4, HB4, HC4, HE4, B4, by omega⟩
  case round =>
    clear HA4 HB4 HC4 HE4 HU4 B4 hcl hBs hR
    obtain ⟨p, f, l, a, v1, v2, HU, hp, hRp, hf, hl2, hal, O1, O2, HA, HB, HC, HE, Bk, hsz⟩ := hrel
    obtain ⟨f, rfl⟩ : ∃ f', f = f' + 1 := ⟨f - 1, by omega⟩
    obtain ⟨a1, c1, rfl, -⟩ := O1.inL
    obtain ⟨a2, c2, rfl, -⟩ := O2.inL
    have hgt : w.heap.size + 3 < c := hc4
    have cu := HU.cv 1 (.int .i64 (p : Nat)) rfl
    have hmu := Lib.hid HU.at
    go_wp2_with fail
    clear cu
    by_cases h0 : s.data.toList.length < p + 2
    · have hRb := (rd_miss h0).symm.trans hRp
      refine (cnum_bad HU 2 (by omega) hp (by decide) (by omega)).mono ?_
      rintro e wb ⟨rfl, bb⟩
      have HAb := HA.kept bb
      have HBb := HB.kept bb
      have HCb := HC.kept bb
      have HEb := HE.kept bb
      have Bb := Bk.trans (bb.mono Bk.size)
      go_wp2
      exact tl_door_bad (fun w' B' => by simpa using hBad.out 7 p w' hRb.symm B') rfl rfl rfl rfl (by decide) HAb HBb HCb HEb (ne4 _) (by omega) Bb
    refine (cnum_ok HU 2 (by decide) (by omega) (by omega)).mono ?_
    rintro e w5 ⟨rfl, HU5, g5⟩
    have HA5 := HA.grown g5 (by simp; omega)
    have HB5 := HB.grown g5 (by simp; omega)
    have HC5 := HC.grown g5 (by simp; omega)
    have HE5 := HE.grown g5 (by simp; omega)
    have O15 := O1.grown g5 (fun q hq => by cases hq; exact hcB)
    have O25 := O2.grown g5 (fun q hq => by cases hq; exact hcB)
    have B5 : Below w.heap.size w w5 := Bk.grown g5 Bk.size (fun k e => by cases e; omega)
    have hs5 := Nat.le_trans hsz g5.size
    have hn := hdN_lt s.data.toList p
    rw [show beN ((s.data.toList.drop p).take 2) = hdN s.data.toList p from rfl]
    clear HU HA HB HC HE O1 O2 Bk g5 hsz
    by_cases h1 : hdN s.data.toList p < 512
    · by_cases h2 : hdN s.data.toList p ≠ 0
      · have hRb := (rd_form h0 h1 h2).symm.trans hRp
        have d1 : decide (((hdN s.data.toList p : Nat) : Int) < 512) = true := decide_eq_true (by omega)
        have d2 : decide ((0 : Int) < ((hdN s.data.toList p : Nat) : Int)) = true := decide_eq_true (by omega)
        clear hRp
        generalize hdN s.data.toList p = n at *
        go_wp2_with fail
        refine (throw_any HU5 3 p (by omega) (by omega)).mono ?_
        rintro e wb ⟨rfl, rfl⟩
        go_wp2
        exact tl_door_bad (fun w' B' => by simpa using hBad.out 3 p w' hRb.symm B') rfl rfl rfl rfl (by decide) HA5 HB5 HC5 HE5 (ne4 _) (by omega) B5
      · have h2 : hdN s.data.toList p = 0 := by omega
        have d1 : decide (((hdN s.data.toList p : Nat) : Int) < 512) = true := decide_eq_true (by omega)
        have d2 : decide ((0 : Int) < ((hdN s.data.toList p : Nat) : Int)) = false := decide_eq_false (by omega)
        obtain ⟨L1, L2⟩ := lead_spec (s.data.toList.drop (p + 2))
        have hle := leadT_le (s.data.toList.drop (p + 2))
        rw [List.length_drop] at hle
        by_cases h3 : p + 2 + lead (s.data.toList.drop (p + 2)) = s.data.toList.length
        · have hRo := (rd_end h0 h2 h3).symm.trans hRp
          have hz : ∀ (j : Nat) b, p + 2 ≤ j → s.data.toList[j]? = some b → b = 0 := fun j b hj hb => by
            have hjl : j < s.data.toList.length := (List.getElem?_eq_some_iff.1 hb).1
            exact L1 (j - (p + 2)) b (by omega) (by rw [List.getElem?_drop, show p + 2 + (j - (p + 2)) = j by omega]; exact hb)
          have HNO := Lib.hid (noughts_ok HU5 (by omega) hz (by omega))
          subst hRo
          clear L1 L2 h2 h3 hle hRp hz hn h1
          generalize hdN s.data.toList p = n at *
          go_wp2_with fail
          refine HNO.out.mono ?_
          rintro e w6 ⟨rfl, g6⟩
          have HA6 := HA5.grown g6 (by simp; omega)
          have HB6 := HB5.grown g6 (by simp; omega)
          have HC6 := HC5.grown g6 (by simp; omega)
          have HE6 := HE5.grown g6 (by simp; omega)
          have O16 := O15.grown g6 (fun q hq => by cases hq; exact hcB)
          have O26 := O25.grown g6 (fun q hq => by cases hq; exact hcB)
          have B6 : Below w.heap.size w w6 := B5.grown g6 B5.size (fun k e => by cases e; omega)
          have hs6 := Nat.le_trans hs5 g6.size
          clear HA5 HB5 HC5 HE5 O15 O25 B5 g6 hs5
          go_upto_region 11 with (fail)
          refine wp_region_noPanic ?_
          refine wp_region_held_drew (S := (fun w' => Blk w' w.heap.size 73 #[.slice a1 l.length c1] ∧ Blk w' (w.heap.size + 1) 74 #[.slice a2 a.length c2] ∧ Blk w' (w.heap.size + 3) 32 (ftC 0 (-1)))) (by kernel_rfl) ?_ (fun hHeld => ?_)
          · exact ⟨HA6.drew, HB6.drew, HE6.drew⟩
          refine wpAnyH_take (i := 0) (v := .slice a1 l.length c1) rfl (by kernel_rfl) (by kernel_rfl) (by kernel_rfl) (fun _ _ _ h => h) (Or.inl ⟨by rfl, fun w hSw => by have c := hSw.1.cv 0 (.slice a1 l.length c1) rfl; go_simp⟩) (by assumption) ?_
          (try simp only [Act.put, List.getElem_toArray, List.getElem_cons_zero, List.getElem_cons_succ, List.setIfInBounds_toArray, List.set_cons_zero, List.set_cons_succ])
          refine wpAnyH_take (i := 1) (v := .slice a2 a.length c2) rfl (by kernel_rfl) (by kernel_rfl) (by kernel_rfl) (fun _ _ _ h => h) (Or.inl ⟨by rfl, fun w hSw => by have c := hSw.2.1.cv 0 (.slice a2 a.length c2) rfl; go_simp⟩) (by assumption) ?_
          (try simp only [Act.put, List.getElem_toArray, List.getElem_cons_zero, List.getElem_cons_succ, List.setIfInBounds_toArray, List.set_cons_zero, List.set_cons_succ])
          refine wpAnyH_take (i := 2) (v := ?_) rfl (by kernel_rfl) (by kernel_rfl) (by kernel_rfl) (fun _ _ _ h => h) (Or.inl ⟨by rfl, ?_⟩) (by assumption) ?_
          rotate_left
          · (intro w hSw; (try dsimp only at hSw); go_simp; (try with_reducible rfl))
          (try simp only [Act.put, List.getElem_toArray, List.getElem_cons_zero, List.getElem_cons_succ, List.setIfInBounds_toArray, List.set_cons_zero, List.set_cons_succ])
          refine wpAnyH_take (i := 3) (v := .agg (ftC 0 (-1))) rfl (by kernel_rfl) (by kernel_rfl) (by kernel_rfl) (fun _ _ _ h => h) (Or.inl ⟨by rfl, fun w hSw => exec_load_blk (k := 0) 32 (ftC 0 (-1)) rfl rfl hSw.2.2 (by kernel_rfl) (by kernel_rfl) rfl⟩) (by assumption) ?_
          (try simp only [Act.put, List.getElem_toArray, List.getElem_cons_zero, List.getElem_cons_succ, List.setIfInBounds_toArray, List.set_cons_zero, List.set_cons_succ])
          refine wpAnyH_ready (rs := [4]) (by kernel_rfl) (by simp) ?_
          refine AllReadyH.cons rfl (fun K hK => ?_) AllReadyH.nil
          simp only [List.getElem_toArray, List.getElem_cons_zero, List.getElem_cons_succ]
          rw [if_pos (by rfl)]
          refine wp_store_op (k := 0) 73 (.slice a1 l.length c1) (#[.slice a1 l.length c1]) (by rfl) rfl rfl HA6.drew (by kernel_rfl) (by first | exact Nat.le_refl 1 | exact Nat.le_refl 2) (by rfl) (by first | rfl | exact st_whole _ _ rfl) (fun u1 HX1 b1 g1 => ?_); have HA7 := HX1; have HB7 := HB6.drew.grown g1 (by simp); have HC7 := HC6.drew.grown g1 (by simp); have HE7 := HE6.drew.grown g1 (by simp); have O17 := (show OwnTl w6.drew Bs _ _ from O16).grown g1 (fun q hq => by cases hq; omega); have O27 := (show OwnNat w6.drew Bs _ _ from O26).grown g1 (fun q hq => by cases hq; omega); have B7 : Below w.heap.size w u1 := B6.drew.trans (b1.mono (by omega))
          refine hK.out _ _ ?_ (fun hHeld => ?_)
          · exact ⟨HA7, HB7, HE7⟩
          clear hK K
          (try simp only [Act.put, List.getElem_toArray, List.getElem_cons_zero, List.getElem_cons_succ, List.setIfInBounds_toArray, List.set_cons_zero, List.set_cons_succ])
          refine wpAnyH_ready (rs := [5]) (by kernel_rfl) (by simp) ?_
          refine AllReadyH.cons rfl (fun K hK => ?_) AllReadyH.nil
          simp only [List.getElem_toArray, List.getElem_cons_zero, List.getElem_cons_succ]
          rw [if_pos (by rfl)]
          refine wp_store_op (k := 0) 74 (.slice a2 a.length c2) (#[.slice a2 a.length c2]) (by rfl) rfl rfl HB7 (by kernel_rfl) (by first | exact Nat.le_refl 1 | exact Nat.le_refl 2) (by rfl) (by first | rfl | exact st_whole _ _ rfl) (fun u2 HX2 b2 g2 => ?_); have HB8 := HX2; have HA8 := HA7.grown g2 (by simp); have HC8 := HC7.grown g2 (by simp); have HE8 := HE7.grown g2 (by simp); have O18 := O17.grown g2 (fun q hq => by cases hq; omega); have O28 := O27.grown g2 (fun q hq => by cases hq; omega); have B8 : Below w.heap.size w u2 := B7.trans (b2.mono (by omega))
          refine hK.out _ _ ?_ (fun hHeld => ?_)
          · exact ⟨HA8, HB8, HE8⟩
          clear hK K
          (try simp only [Act.put, List.getElem_toArray, List.getElem_cons_zero, List.getElem_cons_succ, List.setIfInBounds_toArray, List.set_cons_zero, List.set_cons_succ])
          refine wpAnyH_ready (rs := [6]) (by kernel_rfl) (by simp) ?_
          refine AllReadyH.cons rfl (fun K hK => ?_) AllReadyH.nil
          simp only [List.getElem_toArray, List.getElem_cons_zero, List.getElem_cons_succ]
          rw [if_pos (by rfl)]
          refine wp_store_op (k := 0) 3 (.int .i64 (p : Nat)) (#[.int .i64 (p : Nat)]) (by rfl) rfl rfl HC8 (by kernel_rfl) (by first | exact Nat.le_refl 1 | exact Nat.le_refl 2) (by rfl) (by first | rfl | exact st_whole _ _ rfl) (fun u3 HX3 b3 g3 => ?_); have HC9 := HX3; have HA9 := HA8.grown g3 (by simp); have HB9 := HB8.grown g3 (by simp); have HE9 := HE8.grown g3 (by simp); have O19 := O18.grown g3 (fun q hq => by cases hq; omega); have O29 := O28.grown g3 (fun q hq => by cases hq; omega); have B9 : Below w.heap.size w u3 := B8.trans (b3.mono (by omega))
          refine hK.out _ _ ?_ (fun hHeld => ?_)
          · exact ⟨HA9, HB9, HE9⟩
          clear hK K
          (try simp only [Act.put, List.getElem_toArray, List.getElem_cons_zero, List.getElem_cons_succ, List.setIfInBounds_toArray, List.set_cons_zero, List.set_cons_succ])
          refine wpAnyH_ready (rs := [7]) (by kernel_rfl) (by simp) ?_
          refine AllReadyH.cons rfl (fun K hK => ?_) AllReadyH.nil
          simp only [List.getElem_toArray, List.getElem_cons_zero, List.getElem_cons_succ]
          rw [if_pos (by rfl)]
          refine wp_store_op (k := 0) 32 (.agg (ftC 0 (-1))) (ftC 0 (-1)) (by rfl) rfl rfl HE9 (by kernel_rfl) (by first | exact Nat.le_refl 1 | exact Nat.le_refl 2) (by rfl) (by first | rfl | exact st_whole _ _ rfl) (fun u4 HX4 b4 g4 => ?_); have HEa := HX4; have HAa := HA9.grown g4 (by simp); have HBa := HB9.grown g4 (by simp); have HCa := HC9.grown g4 (by simp); have O1a := O19.grown g4 (fun q hq => by cases hq; omega); have O2a := O29.grown g4 (fun q hq => by cases hq; omega); have Ba : Below w.heap.size w u4 := B9.trans (b4.mono (by omega))
          refine hK.out _ _ ?_ (fun hHeld => ?_)
          · exact ⟨HAa, HBa, HEa⟩
          clear hK K
          (try simp only [Act.put, List.getElem_toArray, List.getElem_cons_zero, List.getElem_cons_succ, List.setIfInBounds_toArray, List.set_cons_zero, List.set_cons_succ])
          refine wpAnyH_done (by kernel_rfl) ?_ _
          refine NoPanic.normal ?_
          go_wp2
          exact tl_door_ok (fun w' b' B' => by have q := hQ.out _ _ w' ((O1a.kept b').mono (by omega)) ((O2a.kept b').mono (by omega)) B'; exact q) rfl rfl rfl rfl HAa HBa HCa HEa Ba
        · have hRb := (rd_spoilt h0 h2 h3).symm.trans hRp
          have hms : p + 2 + lead (s.data.toList.drop (p + 2)) < s.size := by omega
          have hz : ∀ (j : Nat) b, p + 2 ≤ j → j < p + 2 + lead (s.data.toList.drop (p + 2)) → s.data.toList[j]? = some b → b = 0 := fun j b hj hj2 hb =>
            L1 (j - (p + 2)) b (by omega) (by rw [List.getElem?_drop, show p + 2 + (j - (p + 2)) = j by omega]; exact hb)
          have hm : s[p + 2 + lead (s.data.toList.drop (p + 2))] ≠ 0 := L2 _ (by rw [List.getElem?_drop, Array.getElem?_toList]; exact Array.getElem?_eq_getElem hms)
          have HNO := Lib.hid (noughts_bad HU5 (by omega) hms hz hm (by omega))
          clear L1 L2 h2 h3 hle hRp hz hn h1 hm
          generalize p + 2 + lead (s.data.toList.drop (p + 2)) = m at *
          generalize hdN s.data.toList p = n at *
          go_wp2_with fail
          refine HNO.out.mono ?_
          rintro e w6 ⟨rfl, g6⟩
          have HA6 := HA5.grown g6 (by simp; omega)
          have HB6 := HB5.grown g6 (by simp; omega)
          have HC6 := HC5.grown g6 (by simp; omega)
          have HE6 := HE5.grown g6 (by simp; omega)
          have B6 : Below w.heap.size w w6 := B5.grown g6 B5.size (fun k e => by cases e; omega)
          go_wp2
          exact tl_door_bad (fun w' B' => by simpa using hBad.out 15 m w' hRb.symm B') rfl rfl rfl rfl (by decide) HA6 HB6 HC6 HE6 (ne4 _) (by omega) B6
    · have d1 : decide (((hdN s.data.toList p : Nat) : Int) < 512) = false := decide_eq_false (by omega)
      have hcut : s.data.toList.length < p + 2 + hdN s.data.toList p % 512 → R = .bad 7 (p + 2) := fun h2 => ((rd_cut h0 h1 h2).symm.trans hRp).symm
      have hstep : ¬ s.data.toList.length < p + 2 + hdN s.data.toList p % 512 → rdTl s.data.toList f (p + 2 + hdN s.data.toList p % 512) (l ++ [⟨((hdN s.data.toList p / 512 : Nat) : Int), ⟨((s.data.toList.drop (p + 2)).take (hdN s.data.toList p % 512)).toArray⟩⟩]) (a ++ [p]) = R := fun h2 => (rd_step h0 h1 h2).symm.trans hRp
      have Hcut := Lib.hid hcut
      have Hstep := Lib.hid hstep
      clear hcut hstep hRp
      generalize hdN s.data.toList p = n at *
      obtain ⟨K, hK⟩ : ∃ K, n / 512 = K := ⟨_, rfl⟩
      obtain ⟨Z, hZ⟩ : ∃ Z, n % 512 = Z := ⟨_, rfl⟩
      have hZl : Z < 512 := by omega
      have k1 : (n : Int) / 512 = (K : Int) := by omega
      have k2 : (n : Int).tdiv 512 = (K : Int) := by rw [Int.tdiv_eq_ediv_of_nonneg (by omega)]; omega
      have k3 : (n : Int).tmod 512 = (Z : Int) := by rw [Int.tmod_eq_emod_of_nonneg (by omega)]; omega
      have k4 : (n : Int) % 512 = (Z : Int) := by omega
      have k5 : IntKind.i64.wrap (K : Int) = (K : Int) := by rw [IntKind.wrap_i64] <;> omega
      rw [hZ] at Hcut
      rw [hK, hZ] at Hstep
      have cA := HA5.cv 0 (.slice a1 l.length c1) rfl
      clear hK hZ hn h1
      by_cases h2 : s.data.toList.length < p + 2 + Z
      · have hRb := Hcut.out h2
        go_upto_region 12 with (fail)
        refine wp_region_S (fun w' => w'.cell? ⟨w.heap.size, 0, none⟩ = some (.slice a1 l.length c1)) (fun j => j == 9) (by kernel_rfl) cA (fun hHeld => ?_)
        refine wpAnyS_take (i := 0) (v := .slice a1 l.length c1) rfl (by kernel_rfl) (by kernel_rfl) (by kernel_rfl) (by rfl) (by kernel_rfl) (fun _ _ _ h => leaves_put4 (fn := Tryz.f8) (R := Q) (a := 2) (b := 3) (x := 4) (y := 5) rfl ⟨by decide, by decide, by decide, by decide⟩ h) (Or.inl ⟨by rfl, fun w hSw => by (try dsimp only at hSw); go_simp⟩) (by assumption) ?_
        (try simp only [Act.put, List.getElem_toArray, List.getElem_cons_zero, List.getElem_cons_succ, List.setIfInBounds_toArray, List.set_cons_zero, List.set_cons_succ])
        refine wpAnyS_take0 (i := 1) (v := ?_) rfl (by kernel_rfl) (by kernel_rfl) (by kernel_rfl) (by rfl) (fun _ _ _ h => leaves_put4 (fn := Tryz.f8) (R := Q) (a := 2) (b := 3) (x := 4) (y := 5) rfl ⟨by decide, by decide, by decide, by decide⟩ h) (by rfl) ?_ (by assumption) ?_
        rotate_left
        · intro w; go_simp; (try with_reducible rfl)
        (try simp only [Act.put, List.getElem_toArray, List.getElem_cons_zero, List.getElem_cons_succ, List.setIfInBounds_toArray, List.set_cons_zero, List.set_cons_succ])
        refine wpAnyS_take0 (i := 2) (v := .int .i64 (K : Nat)) rfl (by kernel_rfl) (by kernel_rfl) (by kernel_rfl) (by rfl) (fun _ _ _ h => leaves_put4 (fn := Tryz.f8) (R := Q) (a := 2) (b := 3) (x := 4) (y := 5) rfl ⟨by decide, by decide, by decide, by decide⟩ h) (by rfl) (fun w => by go_simp) (by assumption) ?_
        (try simp only [Act.put, List.getElem_toArray, List.getElem_cons_zero, List.getElem_cons_succ, List.setIfInBounds_toArray, List.set_cons_zero, List.set_cons_succ])
        refine wpAnyS_take0 (i := 3) (v := ?_) rfl (by kernel_rfl) (by kernel_rfl) (by kernel_rfl) (by rfl) (fun _ _ _ h => leaves_put4 (fn := Tryz.f8) (R := Q) (a := 2) (b := 3) (x := 4) (y := 5) rfl ⟨by decide, by decide, by decide, by decide⟩ h) (by rfl) ?_ (by assumption) ?_
        rotate_left
        · intro w; go_simp; (try with_reducible rfl)
        (try simp only [Act.put, List.getElem_toArray, List.getElem_cons_zero, List.getElem_cons_succ, List.setIfInBounds_toArray, List.set_cons_zero, List.set_cons_succ])
        refine wpAnyS_take0 (i := 4) (v := ?_) rfl (by kernel_rfl) (by kernel_rfl) (by kernel_rfl) (by rfl) (fun _ _ _ h => leaves_put4 (fn := Tryz.f8) (R := Q) (a := 2) (b := 3) (x := 4) (y := 5) rfl ⟨by decide, by decide, by decide, by decide⟩ h) (by rfl) ?_ (by assumption) ?_
        rotate_left
        · intro w; go_simp; (try with_reducible rfl)
        (try simp only [Act.put, List.getElem_toArray, List.getElem_cons_zero, List.getElem_cons_succ, List.setIfInBounds_toArray, List.set_cons_zero, List.set_cons_succ])
        refine wpAnyS_take0 (i := 5) (v := .int .i64 (Z : Nat)) rfl (by kernel_rfl) (by kernel_rfl) (by kernel_rfl) (by rfl) (fun _ _ _ h => leaves_put4 (fn := Tryz.f8) (R := Q) (a := 2) (b := 3) (x := 4) (y := 5) rfl ⟨by decide, by decide, by decide, by decide⟩ h) (by rfl) (fun w => by go_simp) (by assumption) ?_
        (try simp only [Act.put, List.getElem_toArray, List.getElem_cons_zero, List.getElem_cons_succ, List.setIfInBounds_toArray, List.set_cons_zero, List.set_cons_succ])
        refine wpAnyS_one (r := 6) (by kernel_rfl) rfl (by rfl) (by rfl) (fun K1 hK => ?_)
        (try simp only [List.getElem_toArray, List.getElem_cons_zero, List.getElem_cons_succ])
        go_simp
        go_at_call 31
        refine (eat_bad HU5.drew Z (by omega) (by omega) (by omega) (by omega)).mono ?_
        rintro e wb ⟨rfl, bb⟩
        have HAb := HA5.drew.kept bb
        have HBb := HB5.drew.kept bb
        have HCb := HC5.drew.kept bb
        have HEb := HE5.drew.kept bb
        have Bb := B5.drew.trans (bb.mono B5.drew.size)
        exact tl_door_bad (fun w' B' => by have q := hBad.out 7 (p + 2) w' hRb B'; simpa using q) rfl rfl rfl rfl (by decide) HAb HBb HCb HEb (ne4 _) (by omega) Bb
      · have hRn := Lib.hid (Hstep.out h2)
        clear Hcut Hstep hBad
        go_upto_region 12 with (fail)
        refine wp_region_noPanic ?_
        refine wp_region_S (fun w' => w'.cell? ⟨w.heap.size, 0, none⟩ = some (.slice a1 l.length c1)) (fun j => j == 9) (by kernel_rfl) cA (fun hHeld => ?_)
        refine wpAnyS_take (i := 0) (v := .slice a1 l.length c1) rfl (by kernel_rfl) (by kernel_rfl) (by kernel_rfl) (by rfl) (by kernel_rfl) (fun _ _ _ h => h) (Or.inl ⟨by rfl, fun w hSw => by (try dsimp only at hSw); go_simp⟩) (by assumption) ?_
        (try simp only [Act.put, List.getElem_toArray, List.getElem_cons_zero, List.getElem_cons_succ, List.setIfInBounds_toArray, List.set_cons_zero, List.set_cons_succ])
        refine wpAnyS_take0 (i := 1) (v := ?_) rfl (by kernel_rfl) (by kernel_rfl) (by kernel_rfl) (by rfl) (fun _ _ _ h => h) (by rfl) ?_ (by assumption) ?_
        rotate_left
        · intro w; go_simp; (try with_reducible rfl)
        (try simp only [Act.put, List.getElem_toArray, List.getElem_cons_zero, List.getElem_cons_succ, List.setIfInBounds_toArray, List.set_cons_zero, List.set_cons_succ])
        refine wpAnyS_take0 (i := 2) (v := .int .i64 (K : Nat)) rfl (by kernel_rfl) (by kernel_rfl) (by kernel_rfl) (by rfl) (fun _ _ _ h => h) (by rfl) (fun w => by go_simp) (by assumption) ?_
        (try simp only [Act.put, List.getElem_toArray, List.getElem_cons_zero, List.getElem_cons_succ, List.setIfInBounds_toArray, List.set_cons_zero, List.set_cons_succ])
        refine wpAnyS_take0 (i := 3) (v := ?_) rfl (by kernel_rfl) (by kernel_rfl) (by kernel_rfl) (by rfl) (fun _ _ _ h => h) (by rfl) ?_ (by assumption) ?_
        rotate_left
        · intro w; go_simp; (try with_reducible rfl)
        (try simp only [Act.put, List.getElem_toArray, List.getElem_cons_zero, List.getElem_cons_succ, List.setIfInBounds_toArray, List.set_cons_zero, List.set_cons_succ])
        refine wpAnyS_take0 (i := 4) (v := ?_) rfl (by kernel_rfl) (by kernel_rfl) (by kernel_rfl) (by rfl) (fun _ _ _ h => h) (by rfl) ?_ (by assumption) ?_
        rotate_left
        · intro w; go_simp; (try with_reducible rfl)
        (try simp only [Act.put, List.getElem_toArray, List.getElem_cons_zero, List.getElem_cons_succ, List.setIfInBounds_toArray, List.set_cons_zero, List.set_cons_succ])
        refine wpAnyS_take0 (i := 5) (v := .int .i64 (Z : Nat)) rfl (by kernel_rfl) (by kernel_rfl) (by kernel_rfl) (by rfl) (fun _ _ _ h => h) (by rfl) (fun w => by go_simp) (by assumption) ?_
        (try simp only [Act.put, List.getElem_toArray, List.getElem_cons_zero, List.getElem_cons_succ, List.setIfInBounds_toArray, List.set_cons_zero, List.set_cons_succ])
        refine wpAnyS_one (r := 6) (by kernel_rfl) rfl (by rfl) (by rfl) (fun K1 hK => ?_)
        (try simp only [List.getElem_toArray, List.getElem_cons_zero, List.getElem_cons_succ])
        go_simp
        go_at_call 31
        refine (eat_ok HU5.drew Z (by omega) (by omega)).mono ?_
        rintro e w6 ⟨rfl, HU6, g6⟩
        have HA6 := HA5.drew.grown g6 (by simp; omega)
        have HB6 := HB5.drew.grown g6 (by simp; omega)
        have HC6 := HC5.drew.grown g6 (by simp; omega)
        have HE6 := HE5.drew.grown g6 (by simp; omega)
        have O16 := (show OwnTl w5.drew Bs _ _ from O15).grown g6 (fun q hq => by cases hq; exact hcB)
        have O26 := (show OwnNat w5.drew Bs _ _ from O25).grown g6 (fun q hq => by cases hq; exact hcB)
        have B6 : Below w.heap.size w w6 := B5.drew.grown g6 B5.drew.size (fun k e => by cases e; omega)
        have hs6 : Bs ≤ w6.heap.size := Nat.le_trans (show Bs ≤ w5.drew.heap.size from hs5) g6.size
        have cA6 := HA6.cv 0 (.slice a1 l.length c1) rfl
        clear HA5 HB5 HC5 HE5 O15 O25 B5 g6 hs5 HU5
        generalize (s.data.toList.drop (p + 2)).take Z = tx at *
        refine hK _ _ ?_ (fun hHeld => ?_)
        · exact cA6
        clear hK K1
        (try simp only [Act.put, List.getElem_toArray, List.getElem_cons_zero, List.getElem_cons_succ, List.setIfInBounds_toArray, List.set_cons_zero, List.set_cons_succ])
        refine wpAnyS_take0 (i := 7) (v := .agg (tlC ⟨(K : Int), ⟨tx.toArray⟩⟩)) rfl (by kernel_rfl) (by kernel_rfl) (by kernel_rfl) (by rfl) (fun _ _ _ h => h) (by rfl) (fun w => exec_build_blkT (tlC ⟨(K : Int), ⟨tx.toArray⟩⟩) rfl (by kernel_rfl)) (by assumption) ?_
        (try simp only [Act.put, List.getElem_toArray, List.getElem_cons_zero, List.getElem_cons_succ, List.setIfInBounds_toArray, List.set_cons_zero, List.set_cons_succ])
        refine wpAnyS_one (r := 8) (by kernel_rfl) rfl (by rfl) (by rfl) (fun K1 hK => ?_)
        (try simp only [List.getElem_toArray, List.getElem_cons_zero, List.getElem_cons_succ])
        refine slice_tl ⟨(K : Int), ⟨tx.toArray⟩⟩ rfl rfl (fun w7 HG7 b7 s7 => ?_)
        have HU7 := HU6.below b7
        have HA7 := HA6.kept b7
        have HB7 := HB6.kept b7
        have HC7 := HC6.kept b7
        have HE7 := HE6.kept b7
        have O17 := O16.kept b7
        have O27 := O26.kept b7
        have B7 := B6.trans (b7.mono B6.size)
        have cA7 := HA7.cv 0 (.slice a1 l.length c1) rfl
        have hs7 : Bs ≤ w7.heap.size := by omega
        clear HU6 HA6 HB6 HC6 HE6 O16 O26 B6 b7 cA6 cA
        refine hK _ _ ?_ (fun hHeld => ?_)
        · exact cA7
        clear hK K1
        (try simp only [Act.put, List.getElem_toArray, List.getElem_cons_zero, List.getElem_cons_succ, List.setIfInBounds_toArray, List.set_cons_zero, List.set_cons_succ])
        refine wpAnyS_last (r := 9) (by kernel_rfl) rfl (by rfl) (by rfl) (fun K1 hK => ?_)
        (try simp only [List.getElem_toArray, List.getElem_cons_zero, List.getElem_cons_succ])
        refine append_tl ⟨(K : Int), ⟨tx.toArray⟩⟩ rfl rfl rfl O17 HG7 (by omega) hs7 (fun v8 w8 O18 b8 g8 => ?_)
        have HU8 : Cur w8 c s (p + 2 + Z) 0 := Blk.below HU7 b8 hcB
        have HA8 := HA7.below b8 (by omega)
        have HB8 := HB7.below b8 (by omega)
        have HC8 := HC7.below b8 (by omega)
        have HE8 := HE7.below b8 (by omega)
        have O28 := own_tl_ni O17 g8 O27
        have B8 : Below w.heap.size w w8 := B7.trans (b8.mono (by omega))
        have hs8 : Bs ≤ w8.heap.size := Nat.le_trans hs7 b8.size
        obtain ⟨a3, c3, rfl, -⟩ := O18.inL
        clear HU7 HA7 HB7 HC7 HE7 O17 O27 B7 b8 g8 HG7 cA7
        refine hK _ _ ?_
        clear hK K1
        (try simp only [Act.put, List.getElem_toArray, List.getElem_cons_zero, List.getElem_cons_succ, List.setIfInBounds_toArray, List.set_cons_zero, List.set_cons_succ])
        refine wpAny_one (r := 10) (by kernel_rfl) rfl (by rfl) (fun K1 hK => ?_)
        (try simp only [List.getElem_toArray, List.getElem_cons_zero, List.getElem_cons_succ])
        refine wp_store_op (k := 0) 73 (.slice a3 (l ++ [(⟨(K : Int), ⟨tx.toArray⟩⟩ : Tl)]).length c3) #[.slice a3 (l ++ [(⟨(K : Int), ⟨tx.toArray⟩⟩ : Tl)]).length c3] (by rfl) rfl rfl HA8 (by kernel_rfl) (by exact Nat.le_refl 1) (by rfl) rfl (fun w9 HA9 b9 g9 => ?_)
        have HU9 : Cur w9 c s (p + 2 + Z) 0 := Blk.grown HU8 g9 (by simp; omega)
        have HB9 := HB8.grown g9 (by simp)
        have HC9 := HC8.grown g9 (by simp)
        have HE9 := HE8.grown g9 (by simp)
        have O19 := O18.grown g9 (fun q hq => by cases hq; omega)
        have O29 := O28.grown g9 (fun q hq => by cases hq; omega)
        have B9 : Below w.heap.size w w9 := B8.trans (b9.mono (by omega))
        have hs9 : Bs ≤ w9.heap.size := Nat.le_trans hs8 g9.size
        clear HU8 HA8 HB8 HC8 HE8 O18 O28 B8 b9 g9
        refine hK _ _ ?_
        clear hK K1
        (try simp only [Act.put, List.getElem_toArray, List.getElem_cons_zero, List.getElem_cons_succ, List.setIfInBounds_toArray, List.set_cons_zero, List.set_cons_succ])
        refine wpAny_done (by kernel_rfl) ?_ _
        refine NoPanic.normal ?_
        generalize hl3 : l ++ [(⟨(K : Int), ⟨tx.toArray⟩⟩ : Tl)] = l3 at *
        have hl3l : l3.length = l.length + 1 := by rw [← hl3]; simp
        have hal2 : a.length ≤ 100000 := by omega
        have hal3 := Lib.hid hal
        clear hal
        have cB := HB9.cv 0 (.slice a2 a.length c2) rfl
        go_wp2_with (first
          | (refine sliceL_ni p rfl rfl rfl ?_; intro wa HGa ba sa; have O1a := O19.kept ba; have O2a := O29.kept ba; have HUa := HU9.below ba; have HAa := HA9.kept ba; have HBa := HB9.kept ba; have HCa := HC9.kept ba; have HEa := HE9.kept ba; have Ba := B9.trans (ba.mono B9.size))
          | (refine appendL_ni p rfl rfl rfl rfl O2a HGa hal2 (by omega) ?_; intro vb wb O2b bb gb; have O1b := own_ni_tl O2a gb O1a; have HUb : Cur wb c s (p + 2 + Z) 0 := Blk.below HUa bb hcB; have HAb := HAa.below bb (by omega); have HBb := HBa.below bb (by omega); have HCb := HCa.below bb (by omega); have HEb := HEa.below bb (by omega); have Bb := Ba.trans (bb.mono (by omega)); have hsb := bb.size; obtain ⟨a4, c4, hv4, -⟩ := O2b.inL; subst hv4)
          | (refine store_blk (k := 0) 74 (.slice a4 (a ++ [p]).length c4) #[.slice a4 (a ++ [p]).length c4] (by rfl) rfl rfl rfl HBb (by kernel_rfl) (by exact Nat.le_refl 1) (by rfl) rfl ?_; intro wd HBd bd gd))
        have HUd : Cur wd c s (p + 2 + Z) 0 := Blk.grown HUb gd (by simp; omega)
        have HAd := HAb.grown gd (by simp)
        have HCd := HCb.grown gd (by simp)
        have HEd := HEb.grown gd (by simp)
        have O1d := O1b.grown gd (fun q hq => by cases hq; omega)
        have O2d := O2b.grown gd (fun q hq => by cases hq; omega)
        have Bd : Below w.heap.size w wd := Bb.trans (bd.mono (by omega))
        have hsd := gd.size
        go_roundw
        case rel => exact ⟨p + 2 + Z, f, l3, a ++ [p], _, _, HUd, by omega, hRn.out, by omega, by omega, by rw [List.length_append, hl3l, hal3.out]; rfl, O1d, O2d, HAd, HBd, HCd, HEd, Bd, by omega⟩
        case measure =>
          have q1 := HUd.at
          have q2 : curAt wr c = p := hmu.out
          show s.size + 1 - curAt wd c < s.size + 1 - curAt wr c
          rw [q1, q2]
          omega

end Go.Proofs.YtocgnbbnaamjjaaGreatDoor

