/- pause.Write. -/
import Derived.Test.YtnldggbhhbndfaaDoorBlk
import Derived.Test.YtnldggbhhbndfaaDoorNums
namespace Go.Proofs.YtnldggbhhbndfaaDoor
open Go.RowKit
attribute [local go_sem ↓] Go.wp_at_zero Go.wp_at_succ
set_option linter.unusedSimpArgs false
set_option linter.unusedVariables false
set_option maxRecDepth 100000

theorem isBuilder_below {T e : TypeId} {B b : Nat} {bs : List Value} {w w' : World} (h : Lib.IsBuilder T e B b bs w) (hb : Below w.heap.size w w') : Lib.IsBuilder T e B b bs w' := by
  have hg : w.grownBy w' none := ⟨hb.os, hb.tape, hb.output, hb.size, fun k hk _ => hb.block k hk⟩
  have key : ∀ p, Lib.BuilderAt T e B b p bs w → Lib.BuilderAt T e B b p bs w' := fun p h => by
    have hlt := h.lt
    obtain ⟨hB, v, hbk, hown, hne⟩ := h
    exact ⟨hB, v, (hb.block b hlt).trans hbk, hown.kept hg (by cases hv : v.ownBlock <;> simp), hne⟩
  rcases h with h | h
  · exact Or.inl (key _ h)
  · exact Or.inr (key _ h)

set_option maxHeartbeats 3200000 in
theorem paWrite_f (p : Pa) (w : World) (hp : Hid (p.pfc = false)) (hr : paRight p = true) :
    Calls Tryd.prog 25 #[.agg (paC p)] w fun e w' => e = .returned (.tuple #[.string ⟨(paL p).toArray⟩, .nilIface]) ∧ Below w.heap.size w w' := by
  have HA := Blk.new w 54 (paC p)
  have B0 : Below w.heap.size w (w.alloc (.cells (paC p) 54)) := (Below.refl _ _).alloc (Nat.le_refl _) _
  have HOK := Lib.hid (paNums_ok p hr)
  have hlen : (paNums p).length = 2 := by unfold paNums; rw [hp.out]; rfl
  go_enter Tryd.func25, Tryd.ntmps25
  go_upto_region 1 with (fail)
  generalize w.alloc (.cells (paC p) 54) = w1 at *
  go_wp2_with (refine load_blk (k := 0) 54 (paC p) (by rfl) rfl rfl HA (by kernel_rfl) (by kernel_rfl) rfl ?_)
  refine (paRight_any p _).mono ?_
  rintro e w2 ⟨rfl, b2⟩
  have HA2 := HA.kept b2
  have B2 := B0.trans (b2.mono B0.size)
  rw [hr]
  clear HA B0 b2 hr
  have c0 : w2.cell? ⟨w.heap.size, 0, none⟩ = some (.bool false) := by rw [← hp.out]; exact HA2.cv 0 (.bool p.pfc) rfl
  have c2 := HA2.cv 2 (.int .i64 (p.t 0)) rfl
  have HA3 := HA2.alloc (.cells #[.int .i64 1, .int .i64 (p.t 0)] 3)
  have B3 := B2.alloc B2.size (.cells #[.int .i64 1, .int .i64 (p.t 0)] 3)
  have HN3 : IRow (w2.alloc (.cells #[.int .i64 1, .int .i64 (p.t 0)] 3)) w2.heap.size [1, p.t 0] := IRow.new w2 _ _ _ fun j v hv => by
    match j, hv with
    | 0, hv => simp at hv; subst hv; rfl
    | 1, hv => simp at hv; subst hv; rfl
  have hlt2 : w.heap.size < w2.heap.size := HA2.lt
  clear HA2 B2
  go_upto_region 4 with (fail)
  generalize w2.alloc (.cells #[.int .i64 1, .int .i64 (p.t 0)] 3) = w3 at *
  clear c2 c0
  have c0 : w3.cell? ⟨w.heap.size, 0, none⟩ = some (.bool false) := by rw [← hp.out]; exact HA3.cv 0 (.bool p.pfc) rfl
  have HN : IRow w3 w2.heap.size (paNums p) := by unfold paNums; rw [hp.out]; exact HN3
  have B4 := B3
  generalize w2.heap.size = g at *
  generalize w3 = w4 at *
  clear HN3 HA3 B3
  have HN5 := HN.below ((Below.refl _ _).alloc (Nat.le_refl _) (.cells #[.pointer none, .slice none 0 0] 96))
  have IB := build_new w4
  have B5 := B4.alloc B4.size (.cells #[.pointer none, .slice none 0 0] 96)
  have hgb : g < w4.heap.size := HN.1
  have hwb : w.heap.size ≤ w4.heap.size := B4.size
  have hsz : w4.heap.size ≤ (w4.alloc (.cells #[.pointer none, .slice none 0 0] 96)).heap.size := by simp
  clear HN B4
  go_upto_region 7 with (fail)
  generalize w4.alloc (.cells #[.pointer none, .slice none 0 0] 96) = w5 at *
  generalize w4.heap.size = b at *
  go_wp2_with fail
  go_loopw [26] (fun i wr => ∃ k : Nat, k ≤ 2 ∧ i = .int .i64 k ∧ Lib.IsBuilder 96 5 b b (Lib.byteCells (bwL ((paNums p).take k))) wr ∧ IRow wr g (paNums p) ∧ Below w.heap.size w wr ∧ b ≤ wr.heap.size) (fun i _ => 2 - (intOf i).toNat)
  case atStart => exact ⟨0, by omega, rfl, IB, HN5, B5, hsz⟩
  case round =>
    obtain ⟨k, hk, rfl, IBk, HNk, Bk, hbk⟩ := hrel
    by_cases hlt : k < 2
    · have hki : decide ((k : Int) < 2) = true := decide_eq_true (by omega)
      have hki0 : (0 : Int) ≤ (k : Int) := by omega
      have hki1 : (k : Int) < 2 := by omega
      obtain ⟨v, hv⟩ : ∃ v, (paNums p)[k]? = some v := ⟨_, List.getElem?_eq_getElem (by omega)⟩
      have hvk := HOK.out v (List.mem_of_getElem? hv)
      have ck := HNk.2 k v hv
      have HT := Lib.hid (bwL_take (paNums p) k v hv)
      have hl1 := bwL_len ((paNums p).take k)
      have hl2 : ((paNums p).take k).length ≤ k := List.length_take_le k _
      generalize bwL ((paNums p).take k) = y at *
      go_wp2_with fail
      refine (must2 v hvk.1 (by omega) _).mono ?_
      rintro e w6 ⟨rfl, b6⟩
      have HN6 := HNk.below b6
      have IB6 := isBuilder_below IBk b6
      have B6 := Bk.trans (b6.mono Bk.size)
      have hb6 : b ≤ w6.heap.size := Nat.le_trans hbk b6.size
      have hp2 := putL_length v.toNat 2
      clear HNk IBk Bk b6 ck hv hbk
      generalize putL v.toNat 2 = z at *
      go_wp2_with fail
      refine (build_write b b (Lib.byteCells y) ⟨z.toArray⟩ _ IB6 (by have h1 : (Lib.byteCells y).length = y.length := by simp [Lib.byteCells]
                                                                      have h2 : (⟨z.toArray⟩ : ByteArray).size = z.length := rfl
                                                                      omega) hb6).mono ?_
      rintro e w7 ⟨rfl, IB7', b7⟩
      have IB7 : Lib.IsBuilder 96 5 b b (Lib.byteCells (y ++ z)) w7 := by
        have e1 : Lib.byteCells (y ++ z) = Lib.byteCells y ++ Lib.strCells ⟨z.toArray⟩ := by simp [Lib.byteCells, Lib.strCells]
        rw [e1]
        exact IB7'
      have HN7 := HN6.belowAt b7 hgb
      have B7 := B6.trans (b7.mono hwb)
      have hb7 : b ≤ w7.heap.size := Nat.le_trans hb6 b7.size
      clear HN6 IB6 IB7' B6 hb6 b7
      go_wp2
      go_roundw
      case rel => exact ⟨k + 1, by omega, by go_num, by rw [HT.out]; exact IB7, HN7, B7, hb7⟩
      case measure => simp [intOf]; omega
    · obtain rfl : k = 2 := by omega
      have hall : Hid (bwL ((paNums p).take 2) = paL p) := by show _ = _; rw [List.take_of_length_le (by omega)]; rfl
      rw [hall.out] at IBk
      go_wp2_with fail
      refine (Tryd.Builder_String_any b b (paL p) _ IBk hbk).mono ?_
      rintro e w8 ⟨rfl, b8⟩
      have B8 := Bk.trans (b8.mono hwb)
      go_wp2
      go_ret2
      exact ⟨rfl, B8⟩

set_option maxHeartbeats 3200000 in
theorem paWrite_t (p : Pa) (w : World) (hp : Hid (p.pfc = true)) (hr : paRight p = true) :
    Calls Tryd.prog 25 #[.agg (paC p)] w fun e w' => e = .returned (.tuple #[.string ⟨(paL p).toArray⟩, .nilIface]) ∧ Below w.heap.size w w' := by
  have HA := Blk.new w 54 (paC p)
  have B0 : Below w.heap.size w (w.alloc (.cells (paC p) 54)) := (Below.refl _ _).alloc (Nat.le_refl _) _
  have HOK := Lib.hid (paNums_ok p hr)
  have hlen : (paNums p).length = 10 := by unfold paNums; rw [hp.out]; rfl
  go_enter Tryd.func25, Tryd.ntmps25
  go_upto_region 1 with (fail)
  generalize w.alloc (.cells (paC p) 54) = w1 at *
  go_wp2_with (refine load_blk (k := 0) 54 (paC p) (by rfl) rfl rfl HA (by kernel_rfl) (by kernel_rfl) rfl ?_)
  refine (paRight_any p _).mono ?_
  rintro e w2 ⟨rfl, b2⟩
  have HA2 := HA.kept b2
  have B2 := B0.trans (b2.mono B0.size)
  rw [hr]
  clear HA B0 b2 hr
  have c0 : w2.cell? ⟨w.heap.size, 0, none⟩ = some (.bool true) := by rw [← hp.out]; exact HA2.cv 0 (.bool p.pfc) rfl
  have c2 := HA2.cv 2 (.int .i64 (p.t 0)) rfl
  have HA3 := HA2.alloc (.cells #[.int .i64 1, .int .i64 (p.t 0)] 3)
  have B3 := B2.alloc B2.size (.cells #[.int .i64 1, .int .i64 (p.t 0)] 3)
  have HN3 : IRow (w2.alloc (.cells #[.int .i64 1, .int .i64 (p.t 0)] 3)) w2.heap.size [1, p.t 0] := IRow.new w2 _ _ _ fun j v hv => by
    match j, hv with
    | 0, hv => simp at hv; subst hv; rfl
    | 1, hv => simp at hv; subst hv; rfl
  have hlt2 : w.heap.size < w2.heap.size := HA2.lt
  clear HA2 B2
  go_upto_region 4 with (fail)
  generalize w2.alloc (.cells #[.int .i64 1, .int .i64 (p.t 0)] 3) = w3 at *
  clear c2 c0
  have c0 : w3.cell? ⟨w.heap.size, 0, none⟩ = some (.bool true) := by rw [← hp.out]; exact HA3.cv 0 (.bool p.pfc) rfl
  go_upto_region 5 with (fail)
  refine wp_region_noPanic ?_
  refine wp_region_held_drew (S := (fun w' => w'.cell? ⟨w.heap.size, 1, none⟩ = some (.int .i64 p.en))) (by kernel_rfl) ?_ (fun hHeld => ?_)
  · exact HA3.cv 1 (.int .i64 p.en) rfl
  refine wpAnyH_take (i := 0) (v := ?_) rfl (by kernel_rfl) (by kernel_rfl) (by kernel_rfl) (fun _ _ _ h => h) (Or.inl ⟨by rfl, ?_⟩) (by assumption) ?_
  rotate_left
  · (intro w hSw; (try dsimp only at hSw); go_simp; (try with_reducible rfl))
  (try simp only [Act.put, List.getElem_toArray, List.getElem_cons_zero, List.getElem_cons_succ, List.setIfInBounds_toArray, List.set_cons_zero, List.set_cons_succ])
  refine wpAnyH_take (i := 1) (v := ?_) rfl (by kernel_rfl) (by kernel_rfl) (by kernel_rfl) (fun _ _ _ h => h) (Or.inl ⟨by rfl, ?_⟩) (by assumption) ?_
  rotate_left
  · (intro w hSw; (try dsimp only at hSw); go_simp; (try with_reducible rfl))
  (try simp only [Act.put, List.getElem_toArray, List.getElem_cons_zero, List.getElem_cons_succ, List.setIfInBounds_toArray, List.set_cons_zero, List.set_cons_succ])
  refine wpAnyH_take (i := 3) (v := ?_) rfl (by kernel_rfl) (by kernel_rfl) (by kernel_rfl) (fun _ _ _ h => h) (Or.inl ⟨by rfl, ?_⟩) (by assumption) ?_
  rotate_left
  · (intro w hSw; (try dsimp only at hSw); go_simp; (try with_reducible rfl))
  (try simp only [Act.put, List.getElem_toArray, List.getElem_cons_zero, List.getElem_cons_succ, List.setIfInBounds_toArray, List.set_cons_zero, List.set_cons_succ])
  refine wpAnyH_take (i := 4) (v := ?_) rfl (by kernel_rfl) (by kernel_rfl) (by kernel_rfl) (fun _ _ _ h => h) (Or.inl ⟨by rfl, ?_⟩) (by assumption) ?_
  rotate_left
  · (intro w hSw; (try dsimp only at hSw); go_simp; (try with_reducible rfl))
  (try simp only [Act.put, List.getElem_toArray, List.getElem_cons_zero, List.getElem_cons_succ, List.setIfInBounds_toArray, List.set_cons_zero, List.set_cons_succ])
  have HAd := HA3.drew
  have Bd := B3.drew
  generalize w3.drew = wd at *
  clear HA3 B3
  skip
  refine wpAnyH_ready (rs := [2]) (by kernel_rfl) (by simp) ?_
  refine AllReadyH.cons rfl (fun K hK => ?_) AllReadyH.nil
  simp only [List.getElem_toArray, List.getElem_cons_zero, List.getElem_cons_succ]
  go_simp
  have HAe := HAd.alloc (.cells #[.int .i64 257, .int .i64 p.en] 3)
  have Be := Bd.alloc Bd.size (.cells #[.int .i64 257, .int .i64 p.en] 3)
  have hO := owns_two wd w.heap.size 3 (.int .i64 257) (.int .i64 p.en) Bd.size
  have hne : wd.heap.size ≠ w.heap.size := Nat.ne_of_gt HAd.lt
  refine hK.out _ _ ?_ (fun hHeld => ?_)
  · exact HAe.cv 1 (.int .i64 p.en) rfl
  clear hK K
  (try simp only [Act.put, List.getElem_toArray, List.getElem_cons_zero, List.getElem_cons_succ, List.setIfInBounds_toArray, List.set_cons_zero, List.set_cons_succ])
  obtain ⟨iI, hiI, hz0, hz1, hz2⟩ := info_parts Tryd.intParts
  have hge : w.heap.size < wd.heap.size := HAd.lt
  generalize wd.alloc (.cells #[.int .i64 257, .int .i64 p.en] 3) = we at *
  generalize wd.heap.size = nb at *
  refine wpAnyH_ready (rs := [5]) (by kernel_rfl) (by simp) ?_
  refine AllReadyH.cons rfl (fun K hK => ?_) AllReadyH.nil
  simp only [List.getElem_toArray, List.getElem_cons_zero, List.getElem_cons_succ]
  rw [if_pos (by rfl)]
  refine wp_append_lies _ _ _ _ rfl w.heap.size 3 iI (.int .i64 0) 1 8 Tryd.underlying93 hiI hz0 hz1 hz2 rfl (by decide) (.slice (some ⟨nb, 0, none⟩) 2 2) 2 _ rfl hO ⟨w.heap.size, 2, none⟩ 8 8 (c8 p.t).toList rfl rfl (news_c8 HAe) (by intro u hu; simp [c8] at hu; rcases hu with rfl | rfl | rfl | rfl | rfl | rfl | rfl | rfl <;> rfl) (by decide) (by unfold maxLen; omega) (by decide) Be.size _ rfl ?_
  intro g cap w4 hown hgrow hat hlt
  rw [show (2 + 8 : Nat) = 10 from rfl] at hown ⊢
  have hg0 : some w.heap.size ≠ Value.ownBlock (.slice (some ⟨nb, 0, none⟩) 2 2) := by simp [Value.ownBlock]; omega
  have HA4 := HAe.grown hgrow hg0
  have B4 : Below w.heap.size w w4 := Be.grown hgrow Be.size fun k hk => by have hk : nb = k := by simpa [Value.ownBlock] using hk
                                                                            omega
  have HN : IRow w4 g (paNums p) := IRow.own hown hlt (by unfold paNums; rw [hp.out]; rfl)
  have hng : w.heap.size < g := by
    rcases hat with h | h
    · have h : nb = g := by simpa [Value.ownBlock] using h
      omega
    · rw [h]; exact HAe.lt
  refine hK.out _ _ ?_ (fun hHeld => ?_)
  · exact HA4.cv 1 (.int .i64 p.en) rfl
  clear hK K
  (try simp only [Act.put, List.getElem_toArray, List.getElem_cons_zero, List.getElem_cons_succ, List.setIfInBounds_toArray, List.set_cons_zero, List.set_cons_succ])
  refine wpAnyH_take (i := 6) (v := ?_) rfl (by kernel_rfl) (by kernel_rfl) (by kernel_rfl) (fun _ _ _ h => h) (Or.inl ⟨by rfl, ?_⟩) (by assumption) ?_
  rotate_left
  · (intro w hSw; (try dsimp only at hSw); go_simp; (try with_reducible rfl))
  (try simp only [Act.put, List.getElem_toArray, List.getElem_cons_zero, List.getElem_cons_succ, List.setIfInBounds_toArray, List.set_cons_zero, List.set_cons_succ])
  refine wpAnyH_done (by kernel_rfl) ?_ _
  refine NoPanic.normal ?_
  clear HAd Bd HAe Be hO hne hown hgrow hat hg0 hiI hz0 hz1 hz2
  have HN5 := HN.below ((Below.refl _ _).alloc (Nat.le_refl _) (.cells #[.pointer none, .slice none 0 0] 96))
  have IB := build_new w4
  have B5 := B4.alloc B4.size (.cells #[.pointer none, .slice none 0 0] 96)
  have hgb : g < w4.heap.size := HN.1
  have hwb : w.heap.size ≤ w4.heap.size := B4.size
  have hsz : w4.heap.size ≤ (w4.alloc (.cells #[.pointer none, .slice none 0 0] 96)).heap.size := by simp
  clear HN B4
  go_upto_region 7 with (fail)
  generalize w4.alloc (.cells #[.pointer none, .slice none 0 0] 96) = w5 at *
  generalize w4.heap.size = b at *
  go_wp2_with fail
  go_loopw [26] (fun i wr => ∃ k : Nat, k ≤ 10 ∧ i = .int .i64 k ∧ Lib.IsBuilder 96 5 b b (Lib.byteCells (bwL ((paNums p).take k))) wr ∧ IRow wr g (paNums p) ∧ Below w.heap.size w wr ∧ b ≤ wr.heap.size) (fun i _ => 10 - (intOf i).toNat)
  case atStart => exact ⟨0, by omega, rfl, IB, HN5, B5, hsz⟩
  case round =>
    obtain ⟨k, hk, rfl, IBk, HNk, Bk, hbk⟩ := hrel
    by_cases hlt : k < 10
    · have hki : decide ((k : Int) < 10) = true := decide_eq_true (by omega)
      have hki0 : (0 : Int) ≤ (k : Int) := by omega
      have hki1 : (k : Int) < 10 := by omega
      obtain ⟨v, hv⟩ : ∃ v, (paNums p)[k]? = some v := ⟨_, List.getElem?_eq_getElem (by omega)⟩
      have hvk := HOK.out v (List.mem_of_getElem? hv)
      have ck := HNk.2 k v hv
      have HT := Lib.hid (bwL_take (paNums p) k v hv)
      have hl1 := bwL_len ((paNums p).take k)
      have hl2 : ((paNums p).take k).length ≤ k := List.length_take_le k _
      generalize bwL ((paNums p).take k) = y at *
      go_wp2_with fail
      refine (must2 v hvk.1 (by omega) _).mono ?_
      rintro e w6 ⟨rfl, b6⟩
      have HN6 := HNk.below b6
      have IB6 := isBuilder_below IBk b6
      have B6 := Bk.trans (b6.mono Bk.size)
      have hb6 : b ≤ w6.heap.size := Nat.le_trans hbk b6.size
      have hp2 := putL_length v.toNat 2
      clear HNk IBk Bk b6 ck hv hbk
      generalize putL v.toNat 2 = z at *
      go_wp2_with fail
      refine (build_write b b (Lib.byteCells y) ⟨z.toArray⟩ _ IB6 (by have h1 : (Lib.byteCells y).length = y.length := by simp [Lib.byteCells]
                                                                      have h2 : (⟨z.toArray⟩ : ByteArray).size = z.length := rfl
                                                                      omega) hb6).mono ?_
      rintro e w7 ⟨rfl, IB7', b7⟩
      have IB7 : Lib.IsBuilder 96 5 b b (Lib.byteCells (y ++ z)) w7 := by
        have e1 : Lib.byteCells (y ++ z) = Lib.byteCells y ++ Lib.strCells ⟨z.toArray⟩ := by simp [Lib.byteCells, Lib.strCells]
        rw [e1]
        exact IB7'
      have HN7 := HN6.belowAt b7 hgb
      have B7 := B6.trans (b7.mono hwb)
      have hb7 : b ≤ w7.heap.size := Nat.le_trans hb6 b7.size
      clear HN6 IB6 IB7' B6 hb6 b7
      go_wp2
      go_roundw
      case rel => exact ⟨k + 1, by omega, by go_num, by rw [HT.out]; exact IB7, HN7, B7, hb7⟩
      case measure => simp [intOf]; omega
    · obtain rfl : k = 10 := by omega
      have hall : Hid (bwL ((paNums p).take 10) = paL p) := by show _ = _; rw [List.take_of_length_le (by omega)]; rfl
      rw [hall.out] at IBk
      go_wp2_with fail
      refine (Tryd.Builder_String_any b b (paL p) _ IBk hbk).mono ?_
      rintro e w8 ⟨rfl, b8⟩
      have B8 := Bk.trans (b8.mono hwb)
      go_wp2
      go_ret2
      exact ⟨rfl, B8⟩

theorem paWrite_no (p : Pa) (w : World) (hr : paRight p = false) :
    Calls Tryd.prog 25 #[.agg (paC p)] w fun e w' => e = .returned (.tuple #[.string ⟨#[]⟩, .iface 27 (.int .i64 1)]) ∧ Below w.heap.size w w' := by
  have HA := Blk.new w 54 (paC p)
  have B0 : Below w.heap.size w (w.alloc (.cells (paC p) 54)) := (Below.refl _ _).alloc (Nat.le_refl _) _
  go_enter Tryd.func25, Tryd.ntmps25
  go_upto_region 1 with (fail)
  generalize w.alloc (.cells (paC p) 54) = w1 at *
  go_wp2_with (refine load_blk (k := 0) 54 (paC p) (by rfl) rfl rfl HA (by kernel_rfl) (by kernel_rfl) rfl ?_)
  refine (paRight_any p _).mono ?_
  rintro e w2 ⟨rfl, b2⟩
  have B2 := B0.trans (b2.mono B0.size)
  rw [hr]
  clear hr
  go_wp2
  go_ret2
  exact ⟨rfl, B2⟩

end Go.Proofs.YtnldggbhhbndfaaDoor
