/- mvrp.readEvents. -/
import Derived.Test.YtdjljnpbnhampaaDoorMvGroup
namespace Go.Proofs.YtdjljnpbnhampaaDoor
open Go.RowKit
attribute [local go_sem ↓] Go.wp_at_zero Go.wp_at_succ
set_option linter.unusedSimpArgs false
set_option linter.unusedVariables false
set_option maxRecDepth 100000

def lenV : Value → Nat
  | .slice _ n _ => n
  | _ => 0

theorem three_of {l : List Int} (h : l.length = 3) : ∃ a b c, l = [a, b, c] := by
  match l, h with
  | [a, b, c], _ => exact ⟨a, b, c, rfl⟩

/-- What events end in. -/
def EvEnd (S : List UInt8) (R : EvR) (st : RSt) (l : List Int) : Prop := st.1 ≤ S.length ∧ ((st.2 = (0, -1) ∧ R = .ok l st.1) ∨ (∃ x : Nat, st.2.1 ≠ 0 ∧ st.2.2 = (x : Int) ∧ R = .bad st.2.1 x))

theorem ivAt_blk {w : World} {G : Nat} {T : TypeId} {C : Array Value} {l : List Int} (h : Blk w G T C) (hl : ∀ (j : Nat) (hj : j < l.length), C[j]? = some (.int .i64 l[j])) : IvAt w G 0 l := fun j hj k c hc => by
  have hk : k < 1 := (Array.getElem?_eq_some_iff.1 hc).1
  obtain rfl : k = 0 := by omega
  have e : c = .int .i64 l[j] := by simpa [ivC] using hc.symm
  rw [e, Nat.zero_add, Nat.mul_one, Nat.add_zero]
  exact h.cv j _ (hl j hj)

theorem ivAt_1 {w : World} {G : Nat} {T : TypeId} {x0 x1 x2 : Int} (h : Blk w G T #[.int .i64 x0, .int .i64 x1, .int .i64 x2]) : IvAt w G 0 [x0] := ivAt_blk h (fun j hj => by
  have hj : j < 1 := hj
  obtain rfl : j = 0 := by omega
  rfl)

theorem ivAt_2 {w : World} {G : Nat} {T : TypeId} {x0 x1 x2 : Int} (h : Blk w G T #[.int .i64 x0, .int .i64 x1, .int .i64 x2]) : IvAt w G 0 [x0, x1] := ivAt_blk h (fun j hj => by
  have hj : j < 2 := hj
  have hj2 : j = 0 ∨ j = 1 := by omega
  rcases hj2 with rfl | rfl <;> rfl)

theorem ivAt_3 {w : World} {G : Nat} {T : TypeId} {x0 x1 x2 : Int} (h : Blk w G T #[.int .i64 x0, .int .i64 x1, .int .i64 x2]) : IvAt w G 0 [x0, x1, x2] := ivAt_blk h (fun j hj => by
  have hj : j < 3 := hj
  have hj2 : j = 0 ∨ j = 1 ∨ j = 2 := by omega
  rcases hj2 with rfl | rfl | rfl <;> rfl)

/-- A row of one's own grows: a reader, and blocks of other types, stay. -/
theorem rdT_iv {w w' : World} {v : Value} {l : List Int} {base gr off : Nat} {s : ByteArray} {st : RSt} (hO : OwnIv w base v l) (hg : w.grownBy w' v.ownBlock) (h : RdT w gr s off st) : RdT w' gr s off st := by
  rcases hO.blk with e | ⟨g, C, e, _, hB⟩
  · rw [e] at hg
    exact h.below ⟨hg.os, hg.tape, hg.output, hg.size, fun k hk => hg.block k hk (by simp)⟩
  · rw [e] at hg
    exact h.other hB (by decide) (by decide) hg

theorem blk_iv {w w' : World} {v : Value} {l : List Int} {base B : Nat} {T : TypeId} {C : Array Value} (hO : OwnIv w base v l) (hg : w.grownBy w' v.ownBlock) (h : Blk w B T C) (hT : T ≠ 3) : Blk w' B T C := by
  rcases hO.blk with e | ⟨g, C2, e, _, hB⟩
  · rw [e] at hg
    exact h.grown hg (by simp)
  · rw [e] at hg
    refine h.grown hg ?_
    intro e2
    obtain rfl : B = g := by simpa using e2
    have h1 : w.heap[B]? = some (.cells C T (0, 0)) := h
    have h2 : w.heap[B]? = some (.cells C2 3 (0, 0)) := hB
    rw [h1] at h2
    injection h2 with h2
    injection h2 with _ h2
    exact hT h2

theorem grown_iv {w0 w w' : World} {v : Value} {l : List Int} {base g : Nat} (hO : OwnIv w base v l) (hb : w0.heap.size = base) (h : w0.grownBy w (some g)) (hg : w.grownBy w' v.ownBlock) : w0.grownBy w' (some g) := by
  rcases hO.blk with e | ⟨q, C2, e, hq, hB⟩
  · rw [e] at hg
    exact grown_then h hg (fun _ _ _ => by simp)
  · rw [e] at hg
    exact grown_own h hg (by omega)

set_option maxHeartbeats 12800000 in
theorem readEvents_t {g : Nat} {S : ByteArray} (n : Nat) (hn : n ≤ 400) (R : EvR) (st0 : RSt) (hI0 : EvI S.data.toList n R st0 []) (w : World) (h : RdT w g S 0 st0) (hb : S.size ≤ 281474976710656) :
    Calls Tryd.prog 107 #[.pointer (some ⟨g, 0, none⟩), .int .i64 (n : Nat)] w fun e w' => ∃ v l st, e = .returned v ∧ OwnIv w' w.heap.size v l ∧ l.length = n ∧ EvEnd S.data.toList R st l ∧ RdT w' g S 0 st ∧ w.grownBy w' (some g) := by
  have hls : S.data.toList.length = S.size := by simp
  have hgl := h.lt
  obtain ⟨base, hbase⟩ : ∃ base, w.heap.size = base := ⟨_, rfl⟩
  have G0 : w.grownBy w (some g) := ⟨rfl, rfl, rfl, Nat.le_refl _, fun _ _ _ => rfl⟩
  have hO0 := OwnIv.nil w base
  rw [hbase] at hgl
  go_enter Tryd.func107, Tryd.ntmps107
  go_wp2_with fail
  go_loopw [5] (fun v wr => ∃ st l, EvI S.data.toList n R st l ∧ RdT wr g S 0 st ∧ OwnIv wr base v l ∧ w.grownBy wr (some g)) (fun v _ => n - lenV v)
  case atStart => exact ⟨st0, [], hI0, h, hO0, G0⟩
  case round =>
    obtain ⟨st, l, hI, HR, HO, GW⟩ := hrel
    obtain ⟨a, c, rfl, hin⟩ := HO.inL
    have hbw : base ≤ wr.heap.size := by rw [← hbase]; exact GW.size
    by_cases hlt : l.length < n
    · have hnext := ev_round _ _ _ _ _ hI hlt
      have hp : st.1 ≤ S.size := by rw [← hls]; exact hI.1
      have q1 : (l.length : Int) < (n : Int) := by omega
      have q2 : decide ((l.length : Int) < (n : Int)) = true := decide_eq_true q1
      have e0 : ((0 : Nat) : Int) + (st.1 : Int) = ((st.1 : Nat) : Int) := by omega
      have HA := Lib.hid (atT st wr HR)
      rw [e0] at HA
      have HG : Hid (∀ W, RdT W g S 0 st → Calls Tryd.prog 122 #[.pointer (some ⟨g, 0, none⟩)] W fun e w' => e = .returned (.agg (a3 (gpL S.data.toList st))) ∧ RdT w' g S 0 (gpS S.data.toList st) ∧ W.grownBy w' (some g)) := fun W h => readGroup_t st W h hp hb
      obtain ⟨x0, x1, x2, hx⟩ := three_of (gpL_len S.data.toList st)
      have HF : Hid (∀ (W : World) (s1 : RSt), RdT W g S 0 s1 → Calls Tryd.prog 61 #[.pointer (some ⟨g, 0, none⟩), .int .i64 15, .int .i64 (st.1 : Nat)] W fun e w' => e = .returned (.tuple #[]) ∧ RdT w' g S 0 (flR s1 15 st.1) ∧ W.grownBy w' (some g)) := fun W s1 h => fail_t s1 15 st.1 (by decide) W h
      rw [hx] at hnext HG
      have HNX := Lib.hid hnext
      replace HG : Hid (∀ W, RdT W g S 0 st → Calls Tryd.prog 122 #[.pointer (some ⟨g, 0, none⟩)] W fun e w' => e = .returned (.agg #[.int .i64 x0, .int .i64 x1, .int .i64 x2]) ∧ RdT w' g S 0 (gpS S.data.toList st) ∧ W.grownBy w' (some g)) := HG
      have hO := Lib.hid HO
      clear hnext hx hI e0 hin hI0 h hO0 G0 HO
      generalize gpS S.data.toList st = st1 at *
      generalize hpp : st.1 = p at *
      clear hpp
      have hD : ((n : Int) - (l.length : Int)) = ((n - l.length : Nat) : Int) := by omega
      have hmx : n - l.length = 1 ∨ n - l.length = 2 ∨ 3 ≤ n - l.length := by omega
      obtain ⟨D, hDD⟩ : ∃ D, n - l.length = D := ⟨_, rfl⟩
      have hD1 := Lib.hid hDD
      have q3 : IntKind.i64.wrap ((n : Int) - (l.length : Int)) = ((D : Nat) : Int) := by rw [IntKind.wrap_i64] <;> omega
      have hll : l.length + 3 ≤ 100000 := by omega
      rw [hDD] at HNX hmx hD
      clear hDD
      go_wp2_with fail
      refine HA.out.mono ?_
      rintro e w2 ⟨rfl, rfl⟩
      go_wp2_with fail
      refine (HG.out _ HR).mono ?_
      rintro e w3 ⟨rfl, HR3, g3'⟩
      have HO3 := hO.out.grown g3' (fun q hq => by cases hq; omega)
      have GW3 := grownBy_trans GW g3'
      have hb3 : base ≤ w3.heap.size := Nat.le_trans hbw g3'.size
      have HZ4 := Blk.new w3 217 #[.int .i64 0, .int .i64 0, .int .i64 0]
      have b4 : Below w3.heap.size w3 (w3.alloc (.cells #[.int .i64 0, .int .i64 0, .int .i64 0] 217)) := (Below.refl _ _).alloc (Nat.le_refl _) _
      go_upto_region 5 with (refine store_blk (k := 0) 217 (.agg #[.int .i64 x0, .int .i64 x1, .int .i64 x2]) #[.int .i64 x0, .int .i64 x1, .int .i64 x2] (by rfl) rfl rfl rfl HZ4 (by kernel_rfl) (by exact Nat.le_refl 3) rfl rfl ?_; intro w5 HG5 b5 g5')
      have b35 := b4.trans b5
      have HR5 := HR3.below b35
      have HO5 := HO3.kept b35
      have GW5 := grown_belowT GW3 b35
      have hb5 : base ≤ w5.heap.size := Nat.le_trans hb3 b35.size
      obtain ⟨G, hG⟩ : ∃ G, w3.heap.size = G := ⟨_, rfl⟩
      rw [hG] at HG5
      have hbG : base ≤ G := by rw [← hG]; exact hb3
      have hgG : g < G := by omega
      clear HA HG HZ4 b4 b5 b35 g5' HR3 HO3 GW3 hb3 hO HR GW g3'
      have c0 := HG5.cv 0 (.int .i64 x0) rfl
      have c1 := HG5.cv 1 (.int .i64 x1) rfl
      have c2 := HG5.cv 2 (.int .i64 x2) rfl
      rcases hmx with rfl | rfl | hge
      · have HN2 : Hid (EvI S.data.toList n R (spS st1 p [x1, x2]) (l ++ [x0])) := HNX.out
        have hmn : min (1 : Int) 3 = 1 := by omega
        clear HNX
        go_wp2_with (refine appendNL_iv [x0] rfl rfl rfl rfl HO5 (ivAt_1 HG5) (Nat.succ_pos _) (by show l.length + 1 ≤ 100000; omega) hb5 ?_; intro v6 w6 HO6 b6 g6; have HR6 := rdT_iv HO5 g6 HR5; have HG6 := blk_iv HO5 g6 HG5 (by decide); have GW6 := grown_iv HO5 hbase GW5 g6)
        obtain ⟨a6, cp6, rfl, hn6⟩ := HO6.inL
        clear hn6
        have hlen6 : Hid ((l ++ [x0]).length = l.length + 1) := List.length_append
        generalize l ++ [x0] = l6 at *
        clear HR5 HO5 GW5 HG5 c0 c1 c2 b6 g6
        go_loopw [31] (fun i wr => ∃ k : Nat, k ≤ 2 ∧ i = .int .i64 k ∧ RdT wr g S 0 (spS st1 p (([x1, x2] : List Int).take k)) ∧ OwnIv wr base (.slice a6 l6.length cp6) l6 ∧ Blk wr G 217 #[.int .i64 x0, .int .i64 x1, .int .i64 x2] ∧ w.grownBy wr (some g)) (fun i _ => 2 - (intOf i).toNat)
        case atStart => exact ⟨0, by omega, rfl, HR6, HO6, HG6, GW6⟩
        case round =>
          obtain ⟨k, hk, rfl, HRi, HOi, HGi, GWi⟩ := hrel
          by_cases hk0 : k = 0
          · subst hk0
            have cx := HGi.cv 1 (.int .i64 x1) rfl
            have hgn : some G ≠ some g := by simp; omega
            by_cases hz : x1 = 0
            · have hnx : Hid (spS st1 p (([x1, x2] : List Int).take 1) = spS st1 p (([x1, x2] : List Int).take 0)) := by
                have q := spS_snoc0 st1 p (([x1, x2] : List Int).take 0)
                rw [← hz] at q
                exact q
              have dz : (x1 != 0) = false := by simp [hz]
              clear hz
              go_wp2
              go_roundw
              case rel => exact ⟨1, by omega, by go_num, by rw [hnx.out]; exact HRi, HOi, HGi, GWi⟩
              case measure => simp [intOf]
            · have hnx : Hid (spS st1 p (([x1, x2] : List Int).take 1) = flR (spS st1 p (([x1, x2] : List Int).take 0)) 15 p) := spS_snoc st1 p (([x1, x2] : List Int).take 0) x1 hz
              have dz : (x1 != 0) = true := by simp [hz]
              clear hz
              have HF2 := Lib.hid (HF.out _ _ HRi)
              rw [← hnx.out] at HF2
              go_wp2_with fail
              refine HF2.out.mono ?_
              rintro e wj ⟨rfl, HRj, gj⟩
              have HOj := HOi.grown gj (fun q hq => by cases hq; omega)
              have HGj := HGi.grown gj hgn
              have GWj := grownBy_trans GWi gj
              go_wp2
              go_roundw
              case rel => exact ⟨1, by omega, by go_num, HRj, HOj, HGj, GWj⟩
              case measure => simp [intOf]
          by_cases hk1 : k = 1
          · subst hk1
            have cx := HGi.cv 2 (.int .i64 x2) rfl
            have hgn : some G ≠ some g := by simp; omega
            by_cases hz : x2 = 0
            · have hnx : Hid (spS st1 p (([x1, x2] : List Int).take 2) = spS st1 p (([x1, x2] : List Int).take 1)) := by
                have q := spS_snoc0 st1 p (([x1, x2] : List Int).take 1)
                rw [← hz] at q
                exact q
              have dz : (x2 != 0) = false := by simp [hz]
              clear hz
              go_wp2
              go_roundw
              case rel => exact ⟨2, by omega, by go_num, by rw [hnx.out]; exact HRi, HOi, HGi, GWi⟩
              case measure => simp [intOf]
            · have hnx : Hid (spS st1 p (([x1, x2] : List Int).take 2) = flR (spS st1 p (([x1, x2] : List Int).take 1)) 15 p) := spS_snoc st1 p (([x1, x2] : List Int).take 1) x2 hz
              have dz : (x2 != 0) = true := by simp [hz]
              clear hz
              have HF2 := Lib.hid (HF.out _ _ HRi)
              rw [← hnx.out] at HF2
              go_wp2_with fail
              refine HF2.out.mono ?_
              rintro e wj ⟨rfl, HRj, gj⟩
              have HOj := HOi.grown gj (fun q hq => by cases hq; omega)
              have HGj := HGi.grown gj hgn
              have GWj := grownBy_trans GWi gj
              go_wp2
              go_roundw
              case rel => exact ⟨2, by omega, by go_num, HRj, HOj, HGj, GWj⟩
              case measure => simp [intOf]
          obtain rfl : k = 2 := by omega
          have hmes : n - l6.length < n - l.length := by rw [hlen6.out]; omega
          go_wp2
          go_roundw
          case rel => exact ⟨_, _, HN2.out, HRi, HOi, GWi⟩
          case measure => exact hmes
      · have HN2 : Hid (EvI S.data.toList n R (spS st1 p [x2]) (l ++ [x0, x1])) := HNX.out
        have hmn : min (2 : Int) 3 = 2 := by omega
        clear HNX
        go_wp2_with (refine appendNL_iv [x0, x1] rfl rfl rfl rfl HO5 (ivAt_2 HG5) (Nat.succ_pos _) (by show l.length + 2 ≤ 100000; omega) hb5 ?_; intro v6 w6 HO6 b6 g6; have HR6 := rdT_iv HO5 g6 HR5; have HG6 := blk_iv HO5 g6 HG5 (by decide); have GW6 := grown_iv HO5 hbase GW5 g6)
        obtain ⟨a6, cp6, rfl, hn6⟩ := HO6.inL
        clear hn6
        have hlen6 : Hid ((l ++ [x0, x1]).length = l.length + 2) := List.length_append
        generalize l ++ [x0, x1] = l6 at *
        clear HR5 HO5 GW5 HG5 c0 c1 c2 b6 g6
        go_loopw [31] (fun i wr => ∃ k : Nat, k ≤ 1 ∧ i = .int .i64 k ∧ RdT wr g S 0 (spS st1 p (([x2] : List Int).take k)) ∧ OwnIv wr base (.slice a6 l6.length cp6) l6 ∧ Blk wr G 217 #[.int .i64 x0, .int .i64 x1, .int .i64 x2] ∧ w.grownBy wr (some g)) (fun i _ => 1 - (intOf i).toNat)
        case atStart => exact ⟨0, by omega, rfl, HR6, HO6, HG6, GW6⟩
        case round =>
          obtain ⟨k, hk, rfl, HRi, HOi, HGi, GWi⟩ := hrel
          by_cases hk0 : k = 0
          · subst hk0
            have cx := HGi.cv 2 (.int .i64 x2) rfl
            have hgn : some G ≠ some g := by simp; omega
            by_cases hz : x2 = 0
            · have hnx : Hid (spS st1 p (([x2] : List Int).take 1) = spS st1 p (([x2] : List Int).take 0)) := by
                have q := spS_snoc0 st1 p (([x2] : List Int).take 0)
                rw [← hz] at q
                exact q
              have dz : (x2 != 0) = false := by simp [hz]
              clear hz
              go_wp2
              go_roundw
              case rel => exact ⟨1, by omega, by go_num, by rw [hnx.out]; exact HRi, HOi, HGi, GWi⟩
              case measure => simp [intOf]
            · have hnx : Hid (spS st1 p (([x2] : List Int).take 1) = flR (spS st1 p (([x2] : List Int).take 0)) 15 p) := spS_snoc st1 p (([x2] : List Int).take 0) x2 hz
              have dz : (x2 != 0) = true := by simp [hz]
              clear hz
              have HF2 := Lib.hid (HF.out _ _ HRi)
              rw [← hnx.out] at HF2
              go_wp2_with fail
              refine HF2.out.mono ?_
              rintro e wj ⟨rfl, HRj, gj⟩
              have HOj := HOi.grown gj (fun q hq => by cases hq; omega)
              have HGj := HGi.grown gj hgn
              have GWj := grownBy_trans GWi gj
              go_wp2
              go_roundw
              case rel => exact ⟨1, by omega, by go_num, HRj, HOj, HGj, GWj⟩
              case measure => simp [intOf]
          obtain rfl : k = 1 := by omega
          have hmes : n - l6.length < n - l.length := by rw [hlen6.out]; omega
          go_wp2
          go_roundw
          case rel => exact ⟨_, _, HN2.out, HRi, HOi, GWi⟩
          case measure => exact hmes
      · have hlt3 : ¬ ((D : Nat) : Int) < 3 := by omega
        have HN2 : Hid (EvI S.data.toList n R (spS st1 p []) (l ++ [x0, x1, x2])) := by
          have q := HNX.out
          rw [List.drop_eq_nil_of_le (by show 3 ≤ D; omega), List.take_of_length_le (by show 3 ≤ D; omega)] at q
          exact q
        have hmn : min ((D : Nat) : Int) 3 = 3 := by omega
        clear HNX
        go_wp2_with (refine appendNL_iv [x0, x1, x2] rfl rfl rfl rfl HO5 (ivAt_3 HG5) (Nat.succ_pos _) (by show l.length + 3 ≤ 100000; omega) hb5 ?_; intro v6 w6 HO6 b6 g6; have HR6 := rdT_iv HO5 g6 HR5; have HG6 := blk_iv HO5 g6 HG5 (by decide); have GW6 := grown_iv HO5 hbase GW5 g6)
        obtain ⟨a6, cp6, rfl, hn6⟩ := HO6.inL
        clear hn6
        have hlen6 : Hid ((l ++ [x0, x1, x2]).length = l.length + 3) := List.length_append
        generalize l ++ [x0, x1, x2] = l6 at *
        clear HR5 HO5 GW5 HG5 c0 c1 c2 b6 g6
        go_loopw [31] (fun i wr => ∃ k : Nat, k ≤ 0 ∧ i = .int .i64 k ∧ RdT wr g S 0 (spS st1 p (([] : List Int).take k)) ∧ OwnIv wr base (.slice a6 l6.length cp6) l6 ∧ Blk wr G 217 #[.int .i64 x0, .int .i64 x1, .int .i64 x2] ∧ w.grownBy wr (some g)) (fun i _ => 0 - (intOf i).toNat)
        case atStart => exact ⟨0, by omega, rfl, HR6, HO6, HG6, GW6⟩
        case round =>
          obtain ⟨k, hk, rfl, HRi, HOi, HGi, GWi⟩ := hrel
          obtain rfl : k = 0 := by omega
          have hmes : n - l6.length < n - l.length := by rw [hlen6.out]; omega
          go_wp2
          go_roundw
          case rel => exact ⟨_, _, HN2.out, HRi, HOi, GWi⟩
          case measure => exact hmes
    · obtain ⟨hl2, hend⟩ := ev_final _ _ _ _ _ hI hlt
      have q2 : decide ((l.length : Int) < (n : Int)) = false := decide_eq_false (by omega)
      have HE := Lib.hid hend
      have HL := Lib.hid hl2
      clear hl2 hend hI hI0 hO0
      go_wp2
      go_ret
      exact ⟨_, l, st, rfl, by rw [hbase]; exact HO, HL.out, HE.out, HR, GW⟩

end Go.Proofs.YtdjljnpbnhampaaDoor
