/- switchyardlaw.MvrpWrites is true at every list. -/
import Derived.Test.YtikjpcnfldkifaaDoorRefMvWr
import Derived.Test.YtikjpcnfldkifaaDoorMvPl
namespace Go.Proofs.YtikjpcnfldkifaaDoor.mvrpWrites
open Go.RowKit
attribute [local go_sem ↓] Go.wp_at_zero Go.wp_at_succ
set_option linter.unusedSimpArgs false
set_option linter.unusedVariables false
set_option maxRecDepth 100000

set_option maxHeartbeats 6400000 in
theorem walk (a : Option Addr) (c : Nat) (hs : List MvH) (w : World) (h : MvsIn w a hs) (hm : hs.length ≤ maxLen) (hr : ∀ x ∈ hs, i64R x.x.first) (hE : HasErr w) :
    Calls Tryd.prog 3 #[.slice a hs.length c] w fun e w' => e = .returned (.bool true) ∧ Below w.heap.size w w' := by
  have k1 : hs.length ≤ 9223372036854775807 := hm
  have HMU := Lib.hid (fun (W : World) (M : MvsIn W a hs) => much_some a c hs W M hm)
  have HRW := Lib.hid (fun (W : World) (M : MvsIn W a hs) => refMvWrite_any a c hs W M hr)
  have HW := Lib.hid (fun (W : World) (M : MvsIn W a hs) => mvWrite_any a c hs W M)
  have HRG := Lib.hid hr
  clear hm hr
  generalize (⟨(mvX (xs hs)).toArray⟩ : ByteArray) = X at *
  generalize (mvE (xs hs)).1 = e0 at *
  generalize (mvE (xs hs)).2 = pl at *
  have hL : (X.toList == X.toList) = true := by simp
  go_enter Tryd.func3, Tryd.ntmps3
  go_wp2_with fail
  refine (HMU.out _ h).mono ?_
  rintro e w1 ⟨⟨b, rfl⟩, B1⟩
  cases b with
  | true =>
    go_wp2
    go_ret
    exact ⟨rfl, B1⟩
  | false =>
  go_wp2_with fail
  refine (HRW.out _ (h.below B1)).mono ?_
  rintro e w2 ⟨rfl, b2⟩
  have B2 := B1.trans (b2.mono B1.size)
  have HF3 := Blk.new w2 26 (ftC 0 0)
  have B3 := B2.alloc B2.size (.cells (ftC 0 0) 26)
  have hs2 := B2.size
  go_upto_region 4 with (first | (refine alloc_blk 26 (ftC 0 0) (by rfl) rfl Tryd.ftZero ?_) | (refine store_blk (k := 0) 26 (.agg (ftC e0 pl)) (ftC e0 pl) (by rfl) rfl rfl rfl HF3 (by kernel_rfl) (by exact Nat.le_refl 2) rfl rfl (fun w4 HF4 b4 g4 => ?_)))
  have B4 := B3.trans (b4.mono hs2)
  clear HF3 B3 b4 g4
  go_wp2_with fail
  refine (HW.out _ (h.below B4)).mono ?_
  rintro e w5 ⟨er, rfl, hp5, b5⟩
  have HF5 := HF4.kept b5
  have B5 := B4.trans (b5.mono B4.size)
  have hE5 := hE.below B5
  clear HF4 B4 b5
  go_wp2_with (refine load_blk (k := 0) 26 (ftC e0 pl) (by rfl) rfl rfl HF5 (by kernel_rfl) (by kernel_rfl) rfl ?_)
  refine (placed3_any er e0 pl _ hE5 hp5).mono ?_
  rintro e w6 ⟨rfl, b6⟩
  have B6 := B5.trans (b6.mono B5.size)
  clear B5 b6 HF5 hp5 HMU HRW HW
  go_wp2_with fail
  go_loopw [32] (fun i wr => ∃ k : Nat, k ≤ hs.length ∧ i = .int .i64 k ∧ Below w.heap.size w wr) (fun i _ => hs.length - (intOf i).toNat)
  case atStart => exact ⟨0, by omega, rfl, B6⟩
  case round =>
    clear B6
    obtain ⟨k, hk, rfl, Bk⟩ := hrel
    by_cases hlt : k < hs.length
    · have hI := h.below Bk
      obtain ⟨b, lo, rfl, hbl, hat⟩ := hI.row.at hlt
      have q1 : (k : Int) < (hs.length : Int) := by omega
      have q2 : decide ((k : Int) < (hs.length : Int)) = true := decide_eq_true q1
      have q3 : (0 : Int) ≤ (k : Int) := by omega
      have q4 : IntKind.i64.wrap ((k : Int) + 1) = (k : Int) + 1 := by rw [IntKind.wrap_i64] <;> omega
      have HK := hat k hlt
      have hmem := List.getElem_mem hlt
      have hev := h.ev _ hmem
      have hsw := Bk.size
      have HR1 := Lib.hid (fun (W : World) (hb : Below w.heap.size w W) => mvRight_any hs[k].x hs[k].a hs[k].c W (hev.1.below hb) (Nat.le_trans hev.2.1 hev.2.2))
      have HR2 := Lib.hid (fun (W : World) (hb : Below w.heap.size w W) => attrRight_any hs[k].x hs[k].a hs[k].c W (HRG.out _ hmem) (hev.1.below hb) (Nat.le_trans hev.2.1 hev.2.2))
      generalize hs[k] = x at *
      clear hat hI hmem hev
      replace HR1 : Hid (∀ (W : World), Below w.heap.size w W → Calls Tryd.prog 15 #[.agg (mvC x)] W fun e w' => e = .returned (.bool (okMv x.x)) ∧ Below W.heap.size W w') := HR1
      replace HR2 : Hid (∀ (W : World), Below w.heap.size w W → Calls Tryd.prog 16 #[.agg (mvC x)] W fun e w' => e = .returned (.bool (okMv x.x)) ∧ Below W.heap.size W w') := HR2
      generalize okMv x.x = ok at *
      have HA4 := Blk.new wr 36 (mvC zMvH)
      have b4 : Below wr.heap.size wr (wr.alloc (.cells (mvC zMvH) 36)) := (Below.refl _ _).alloc (Nat.le_refl _) _
      go_upto_region 10 with (first
        | (refine load_cells (B := b) (k := lo + k * 3) 36 (mvC x) (by rfl) rfl rfl HK (by kernel_rfl) (by kernel_rfl) ?_)
        | (refine alloc_blk 36 (mvC zMvH) (by rfl) rfl Tryd.mhZero ?_)
        | (refine store_blk (k := 0) 36 (.agg (mvC x)) (mvC x) (by rfl) rfl rfl rfl HA4 (by kernel_rfl) (show (3 : Nat) ≤ 3 from Nat.le_refl 3) (by rfl) (st_whole _ _ rfl) ?_; intro w6 HA6 b6 g6))
      have B6 := Bk.trans ((b4.trans b6).mono hsw)
      clear HA4 b4 b6 g6 HK Bk
      generalize wr.heap.size = g at *
      have hoo : (ok == ok) = true := by simp
      refine wp_region_noPanic ?_
      refine wp_region_held_drew (S := (fun w' => Blk w' g 36 (mvC x))) (by kernel_rfl) ?_ (fun hHeld => ?_)
      · exact HA6.drew
      refine wpAnyH_take (i := 0) (v := .agg (mvC x)) rfl (by kernel_rfl) (by kernel_rfl) (by kernel_rfl) (fun _ _ _ h => h) (Or.inl ⟨by rfl, fun w hSw => exec_load_blk 36 (mvC x) rfl rfl hSw (by kernel_rfl) (by kernel_rfl) rfl⟩) (by assumption) ?_
      (try simp only [Act.put, List.getElem_toArray, List.getElem_cons_zero, List.getElem_cons_succ, List.setIfInBounds_toArray, List.set_cons_zero, List.set_cons_succ])
      refine wpAnyH_take (i := 2) (v := .agg (mvC x)) rfl (by kernel_rfl) (by kernel_rfl) (by kernel_rfl) (fun _ _ _ h => h) (Or.inl ⟨by rfl, fun w hSw => exec_load_blk 36 (mvC x) rfl rfl hSw (by kernel_rfl) (by kernel_rfl) rfl⟩) (by assumption) ?_
      (try simp only [Act.put, List.getElem_toArray, List.getElem_cons_zero, List.getElem_cons_succ, List.setIfInBounds_toArray, List.set_cons_zero, List.set_cons_succ])
      refine wpAnyH_ready (rs := [1]) (by kernel_rfl) (by simp) ?_
      refine AllReadyH.cons rfl (fun K hK => ?_) AllReadyH.nil
      simp only [List.getElem_toArray, List.getElem_cons_zero, List.getElem_cons_succ]
      go_simp
      go_at_call 15; (with_reducible refine (HR1.out _ B6.drew).mono ?_); rintro e w7 ⟨rfl, b7⟩; have HA7 := HA6.drew.kept b7; have B7 := B6.drew.trans (b7.mono B6.drew.size)
      refine hK.out _ _ ?_ (fun hHeld => ?_)
      · exact HA7
      clear hK K
      (try simp only [Act.put, List.getElem_toArray, List.getElem_cons_zero, List.getElem_cons_succ, List.setIfInBounds_toArray, List.set_cons_zero, List.set_cons_succ])
      refine wpAnyH_ready (rs := [3]) (by kernel_rfl) (by simp) ?_
      refine AllReadyH.cons rfl (fun K hK => ?_) AllReadyH.nil
      simp only [List.getElem_toArray, List.getElem_cons_zero, List.getElem_cons_succ]
      go_simp
      go_at_call 16; (with_reducible refine (HR2.out _ B7).mono ?_); rintro e w8 ⟨rfl, b8⟩; have HA8 := HA7.kept b8; have B8 := B7.trans (b8.mono B7.size)
      refine hK.out _ _ ?_ (fun hHeld => ?_)
      · exact HA8
      clear hK K
      (try simp only [Act.put, List.getElem_toArray, List.getElem_cons_zero, List.getElem_cons_succ, List.setIfInBounds_toArray, List.set_cons_zero, List.set_cons_succ])
      refine wpAnyH_take (i := 4) (v := .bool false) rfl (by kernel_rfl) (by kernel_rfl) (by kernel_rfl) (fun _ _ _ h => h) (Or.inl ⟨by rfl, fun w hSw => by cases ok <;> go_simp⟩) (by assumption) ?_
      (try simp only [Act.put, List.getElem_toArray, List.getElem_cons_zero, List.getElem_cons_succ, List.setIfInBounds_toArray, List.set_cons_zero, List.set_cons_succ])
      refine wpAnyH_done (by kernel_rfl) ?_ _
      refine NoPanic.normal ?_
      clear HR1 HR2 HA7 B7 b7 b8 B6 HA6 HA8
      go_wp2
      go_roundw
      case rel => exact ⟨k + 1, by omega, by go_num, B8⟩
      case measure => simp [intOf]; omega
    · obtain rfl : k = hs.length := by omega
      have q2 : decide ((hs.length : Int) < (hs.length : Int)) = false := decide_eq_false (by omega)
      go_wp2
      go_ret
      exact ⟨rfl, Bk⟩

end Go.Proofs.YtikjpcnfldkifaaDoor.mvrpWrites
