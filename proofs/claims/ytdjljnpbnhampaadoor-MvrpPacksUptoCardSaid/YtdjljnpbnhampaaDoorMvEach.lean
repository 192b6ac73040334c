/- 16.3: all VIDs with their events: mvrp.Each. -/
import Derived.Test.YtdjljnpbnhampaaDoorPrS
import Derived.Test.YtdjljnpbnhampaaDoorMvWrite
namespace Go.Proofs.YtdjljnpbnhampaaDoor
open Go.RowKit
attribute [local go_sem ↓] Go.wp_at_zero Go.wp_at_succ
set_option linter.unusedSimpArgs false
set_option linter.unusedVariables false
set_option maxRecDepth 100000

/-- The VIDs of events, from the i-th on. -/
def prsF (f : Int) : Nat → List Int → List Pr
  | _, [] => []
  | i, e :: l => ⟨IntKind.i64.wrap (f + (i : Int)), e⟩ :: prsF f (i + 1) l

theorem prsF_len (f : Int) : ∀ (i : Nat) (l : List Int), (prsF f i l).length = l.length
  | _, [] => rfl
  | i, e :: l => by rw [prsF, List.length_cons, prsF_len f (i + 1) l, List.length_cons]

theorem prsF_snoc (f : Int) (x : Int) : ∀ (i : Nat) (l : List Int), prsF f i (l ++ [x]) = prsF f i l ++ [⟨IntKind.i64.wrap (f + ((i + l.length : Nat) : Int)), x⟩]
  | i, [] => by simp [prsF]
  | i, e :: l => by
    rw [List.cons_append, prsF, prsF_snoc f x (i + 1) l, prsF, List.cons_append, List.length_cons]
    rw [show i + 1 + l.length = i + (l.length + 1) by omega]

/-- All VIDs with their events. -/
def eachL (l : List Mv) : List Pr := l.flatMap fun x => prsF x.first 0 x.ev

theorem eachL_append (a b : List Mv) : eachL (a ++ b) = eachL a ++ eachL b := by simp [eachL]

theorem eachL_take (hs : List MvH) (k : Nat) (hk : k < hs.length) : eachL (xs (hs.take (k + 1))) = eachL (xs (hs.take k)) ++ prsF hs[k].x.first 0 hs[k].x.ev := by
  have e : hs.take (k + 1) = hs.take k ++ [hs[k]] := by rw [List.take_add_one, List.getElem?_eq_getElem hk]; rfl
  rw [e]
  simp only [xs, eachL, List.map_append, List.flatMap_append, List.map_cons, List.map_nil, List.flatMap_cons, List.flatMap_nil, List.append_nil]

theorem eachL_le (hs : List MvH) (k : Nat) : (eachL (xs (hs.take k))).length ≤ (eachL (xs hs)).length := by
  have h : xs hs = xs (hs.take k) ++ xs (hs.drop k) := by rw [← List.take_append_drop k hs]; simp [xs]
  rw [h, eachL_append, List.length_append]
  omega

theorem blk_pr {w w' : World} {v : Value} {l : List Pr} {base B : Nat} {T : TypeId} {C : Array Value} (hO : OwnPr w base v l) (hg : w.grownBy w' v.ownBlock) (h : Blk w B T C) (hT : T ≠ 84) : Blk w' B T C := by
  rcases hO with ⟨rfl, rfl⟩ | ⟨h1, g, cap, rfl, h2⟩
  · exact h.grown hg (by simp [Value.ownBlock])
  · rcases h2.2 with ⟨h3, -⟩ | ⟨g1, cap1, cur1, e1, e2, e3, -⟩
    · cases h3
    · cases e1
      refine h.grown hg ?_
      intro e2'
      obtain rfl : B = g := by simpa [Value.ownBlock] using e2'
      have q1 : w.heap[B]? = some (.cells C T (0, 0)) := h
      have q2 : w.heap[B]? = some (.cells cur1 84 (0, 0)) := e3
      rw [q1] at q2
      injection q2 with q2
      injection q2 with _ q2
      exact hT q2

set_option maxHeartbeats 6400000 in
theorem mvEach_any (a : Option Addr) (c : Nat) (hs : List MvH) (w : World) (h : MvsIn w a hs) (hm : hs.length ≤ maxLen) (hsum : (eachL (xs hs)).length ≤ 90000) :
    Calls Tryd.prog 15 #[.slice a hs.length c] w fun e w' => ∃ v, e = .returned v ∧ OwnPr w' w.heap.size v (eachL (xs hs)) ∧ Below w.heap.size w w' := by
  have k1 : hs.length ≤ 9223372036854775807 := hm
  clear hm
  obtain ⟨base, hbase⟩ : ∃ base, w.heap.size = base := ⟨_, rfl⟩
  have hO0 := OwnPr.nil w base
  have HLE := Lib.hid (eachL_le hs)
  have hb0 : Below base w w := Below.refl _ _
  rw [hbase]
  go_enter Tryd.func15, Tryd.ntmps15
  go_wp2_with fail
  go_loopw [3, 10] (fun v i wr => ∃ k : Nat, k ≤ hs.length ∧ i = .int .i64 k ∧ OwnPr wr base v (eachL (xs (hs.take k))) ∧ Below base w wr) (fun _ i _ => hs.length - (intOf i).toNat)
  case atStart => exact ⟨0, by omega, rfl, hO0, hb0⟩
  case round =>
    obtain ⟨k, hk, rfl, HO, Bk⟩ := hrel
    clear hO0 hb0
    by_cases hlt : k < hs.length
    · have hI := h.below (by rw [hbase]; exact Bk)
      obtain ⟨b, lo, rfl, hbl, hat⟩ := hI.row.at hlt
      have q1 : (k : Int) < (hs.length : Int) := by omega
      have q2 : decide ((k : Int) < (hs.length : Int)) = true := decide_eq_true q1
      have q3 : (0 : Int) ≤ (k : Int) := by omega
      have q4 : IntKind.i64.wrap ((k : Int) + 1) = (k : Int) + 1 := by rw [IntKind.wrap_i64] <;> omega
      have HK := hat k hlt
      have hmem := List.getElem_mem hlt
      have hev0 := h.ev _ hmem
      have HS := Lib.hid (eachL_take hs k hlt)
      have HL2 := Lib.hid (HLE.out (k + 1))
      have hsw := Bk.size
      rw [hbase] at hsw
      generalize hs[k] = y at *
      clear hat hI hmem
      obtain ⟨v0, hv0⟩ : ∃ acc, eachL (xs (hs.take k)) = acc := ⟨_, rfl⟩
      rw [hv0] at HO HS
      clear hv0
      have HA4 := Blk.new wr 92 (mvC zMvH)
      have b4 : Below wr.heap.size wr (wr.alloc (.cells (mvC zMvH) 92)) := (Below.refl _ _).alloc (Nat.le_refl _) _
      go_upto_region 5 with (first
        | (refine load_cells (B := b) (k := lo + k * 3) 92 (mvC y) (by rfl) rfl rfl HK (by kernel_rfl) (by kernel_rfl) ?_)
        | (refine alloc_blk 92 (mvC zMvH) (by rfl) rfl Tryd.mhZero ?_)
        | (refine store_blk (k := 0) 92 (.agg (mvC y)) (mvC y) (by rfl) rfl rfl rfl HA4 (by kernel_rfl) (show (3 : Nat) ≤ 3 from Nat.le_refl 3) (by rfl) (st_whole _ _ rfl) ?_; intro w5 HA5 b5 g5))
      have B5 := Bk.trans ((b4.trans b5).mono hsw)
      have HO5 := HO.kept (b4.trans b5)
      obtain ⟨B, hB⟩ : ∃ B, wr.heap.size = B := ⟨_, rfl⟩
      rw [hB] at HA5
      rw [hB] at hsw
      clear HA4 b4 b5 g5 HK HO Bk
      have c2 := HA5.cv 2 (.slice y.a y.x.ev.length y.c) rfl
      have c1 := HA5.cv 1 (.int .i64 y.x.first) rfl
      obtain ⟨⟨ya, yf, ye⟩, yp, yc⟩ := y
      simp only at c1 c2 hev0 HS
      go_wp2_with fail
      have HLEN : Hid (v0.length + ye.length ≤ 90000) := by
        show _ ≤ _
        have e1 := HL2.out
        rw [HS.out, List.length_append, prsF_len] at e1
        omega
      have hyl : ye.length ≤ 9223372036854775807 := by have := HLEN.out; omega
      have HEV := Lib.hid hev0.1
      clear c1 c2 hev0 HL2
      go_loopw [3, 17] (fun v i wv => ∃ j : Nat, j ≤ ye.length ∧ i = .int .i64 j ∧ OwnPr wv base v (v0 ++ prsF yf 0 (ye.take j)) ∧ Blk wv B 92 #[.bool ya, .int .i64 yf, .slice yp ye.length yc] ∧ Below base w wv) (fun _ i _ => ye.length - (intOf i).toNat)
      case atStart => exact ⟨0, Nat.zero_le _, rfl, by rw [List.take_zero, prsF, List.append_nil]; exact HO5, HA5, B5⟩
      case round =>
        clear HA5 HO5 B5
        obtain ⟨j, hj, rfl, HO, HA, Bj⟩ := hrel
        have c1 := HA.cv 1 (.int .i64 yf) rfl
        by_cases hjl : j < ye.length
        · have hin := HEV.out.below (by rw [hbase]; exact Bj)
          obtain ⟨eb, eo, rfl, hel, het⟩ := hin.at hjl
          have p1 : (j : Int) < (ye.length : Int) := by omega
          have p2 : decide ((j : Int) < (ye.length : Int)) = true := decide_eq_true p1
          have p3 : (0 : Int) ≤ (j : Int) := by omega
          have p4 : IntKind.i64.wrap ((j : Int) + 1) = (j : Int) + 1 := by rw [IntKind.wrap_i64] <;> omega
          have HJ := het j hjl
          have hsn : Hid (prsF yf 0 (ye.take (j + 1)) = prsF yf 0 (ye.take j) ++ [⟨IntKind.i64.wrap (yf + (j : Int)), ye[j]⟩]) := by
            show _ = _
            have e : ye.take (j + 1) = ye.take j ++ [ye[j]] := by rw [List.take_add_one, List.getElem?_eq_getElem hjl]; rfl
            rw [e, prsF_snoc, Nat.zero_add, List.length_take, Nat.min_eq_left (by omega)]
          have hln : Hid ((v0 ++ prsF yf 0 (ye.take j)).length ≤ 90000) := by
            show _ ≤ _
            have e1 := HLEN.out
            rw [List.length_append, prsF_len, List.length_take]
            omega
          have hbw : base ≤ wr.heap.size := by rw [← hbase]; have q := Bj.size; rw [hbase] at q ⊢; exact q
          generalize ye[j] = ev at *
          have KX : wr.cell? ⟨eb, eo + j, none⟩ = some (.int .i64 ev) := by
            have q := HJ 0 (.int .i64 ev) rfl
            rw [Nat.mul_one, Nat.add_zero] at q
            exact q
          clear HJ het hin
          obtain ⟨vid, hvid⟩ : ∃ vid, IntKind.i64.wrap (yf + (j : Int)) = vid := ⟨_, rfl⟩
          rw [hvid] at hsn
          obtain ⟨acc, hacc⟩ : ∃ acc, v0 ++ prsF yf 0 (ye.take j) = acc := ⟨_, rfl⟩
          have hsn2 : Hid (v0 ++ prsF yf 0 (ye.take (j + 1)) = acc ++ [⟨vid, ev⟩]) := by
            show _ = _
            rw [hsn.out, ← List.append_assoc, hacc]
          rw [hacc] at HO hln
          clear hacc hsn HS HLEN HEV
          go_wp2_with (first
            | (refine sliceL_pr ⟨vid, ev⟩ rfl rfl rfl ?_; intro w6 HS6 b6 s6; have HO6 := HO.kept b6)
            | (refine appendL_pr ⟨vid, ev⟩ rfl rfl rfl rfl HO6 HS6 (by have := hln.out; omega) (Nat.le_trans hbw b6.size) ?_; intro v7 w7 HO7 b7 g7; have HA7 := blk_pr HO6 g7 (HA.below b6 HA.lt) (by decide)))
          refine ⟨⟨j + 1, by omega, by go_num, ?_, HA7, (Bj.trans (b6.mono hbw)).trans b7⟩, by simp [intOf]; omega⟩
          rw [hsn2.out]
          exact HO7
        · obtain rfl : j = ye.length := by omega
          have p2 : decide ((ye.length : Int) < (ye.length : Int)) = false := decide_eq_false (by omega)
          rw [List.take_length, ← HS.out] at HO
          clear c1
          go_wp2_with fail
          go_roundw
          case rel => exact ⟨k + 1, by omega, by go_num, HO, Bj⟩
          case measure => simp [intOf]; omega
    · obtain rfl : k = hs.length := by omega
      have q2 : decide ((hs.length : Int) < (hs.length : Int)) = false := decide_eq_false (by omega)
      rw [List.take_length] at HO
      go_wp2
      go_ret
      exact ⟨_, rfl, HO, Bk⟩

end Go.Proofs.YtdjljnpbnhampaaDoor
