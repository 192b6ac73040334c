/- Texts one behind the other. The reference's parts$1: the time and the texts. The reference's parts$1: capabilities and organisations. The reference's parts$1: ways to manage. The reference's parts$1: kinds with no parts, and any kind. A great value is put into a block of its own: what follows sees the block alone. -/
import Derived.Test.YtocgnbbnaamjjaaGreatDoorLrK1
import Derived.Test.YtocgnbbnaamjjaaGreatDoorLrK11
import Derived.Great.Ranges
namespace Go.Proofs.YtocgnbbnaamjjaaGreatDoor
open Go.RowKit
attribute [local go_sem ↓] Go.wp_at_zero Go.wp_at_succ
set_option linter.unusedSimpArgs false
set_option linter.unusedVariables false
set_option maxRecDepth 100000

set_option maxHeartbeats 3200000 in
theorem pt_n3 {F T L D : Nat} {s : ByteArray} (w : World) (HF : Blk w F 32 (ftC 0 (-1))) (HT : Blk w T 80 (tlC ⟨3, s⟩)) (HL : Blk w L 29 (ldC zLd zLdA)) (hs : s.size ≤ 100000) (hDF : D ≤ F) (hDL : D ≤ L) :
    Calls Tryz.prog 32 #[.pointer (some ⟨F, 0, none⟩), .pointer (some ⟨T, 0, none⟩), .pointer (some ⟨L, 0, none⟩)] w (PtR F L D 3 s w) := by
  have hls : s.data.toList.length = s.size := by simp
  have hDw : D ≤ w.heap.size := by have := HF.lt; omega
  have cA := HT.cv 0 (.int .i64 3) rfl
  have cB := HT.cv 1 (.string s) rfl
  have HF1 := HF.alloc (.cells #[.string s, .int .i64 (0 : Nat), .int .i64 (0 : Nat)] 117)
  have HT1 := HT.alloc (.cells #[.string s, .int .i64 (0 : Nat), .int .i64 (0 : Nat)] 117)
  have HL1 := HL.alloc (.cells #[.string s, .int .i64 (0 : Nat), .int .i64 (0 : Nat)] 117)
  have HU1 : Cur (w.alloc (.cells #[.string s, .int .i64 (0 : Nat), .int .i64 (0 : Nat)] 117)) w.heap.size s 0 0 := Blk.new w 117 _
  have B1 : Below D w (w.alloc (.cells #[.string s, .int .i64 (0 : Nat), .int .i64 (0 : Nat)] 117)) := (Below.refl D w).alloc hDw _
  have hF := HF.lt
  have hT := HT.lt
  have hL := HL.lt
  have hFL : ¬ F = L := blk_ne HF HL (by decide)
  have hTL : ¬ T = L := blk_ne HT HL (by decide)
  clear HF HT HL
  go_enter_defers Tryz.func32, Tryz.ntmps32
  go_upto_region 2 with (refine build_blk (t := 117) #[.string s, .int .i64 (0 : Nat), .int .i64 (0 : Nat)] (by rfl) rfl (by kernel_rfl) ?_)
  generalize w.alloc (.cells #[.string s, .int .i64 0, .int .i64 0] 117) = w1 at *
  generalize w.heap.size = c at *
  have ck := HT1.cv 0 (.int .i64 3) rfl
  clear cA cB
  have HUlt1 := HU1.lt
  go_wp2_with fail
  by_cases h0 : ¬ (0 + 2 ≤ s.size)
  · refine (cnum_bad HU1 2 h0 (by omega) (by decide) (by omega)).mono ?_
    rintro e wb ⟨rfl, bb⟩
    go_wp2
    exact pt_bad (by decide) (HF1.kept bb) (LdAc.zero (HL1.kept bb)) (by rw [formK3]; exact decide_eq_false (by omega)) (B1.trans (bb.mono (by omega))) hDF (by have := bb.size; omega)
  replace h0 : 0 + 2 ≤ s.size := by omega
  have N0 := cnum_ok HU1 2 (by decide) h0 (by omega)
  obtain ⟨v0, hv0⟩ : ∃ v0, v0 = beN ((s.data.toList.drop (0)).take 2) := ⟨_, rfl⟩
  rw [← hv0] at N0
  replace N0 := Lib.hid N0
  replace hv0 := Lib.hid hv0
  refine N0.out.mono ?_
  clear N0
  rintro e w2 ⟨rfl, HU2, g⟩
  have HF2 := HF1.grown g (by simp; omega)
  have HT2 := HT1.grown g (by simp; omega)
  have HL2 := HL1.grown g (by simp; omega)
  have B2 : Below D w w2 := B1.grown g (Nat.le_trans hDw (Nat.le_of_lt (Nat.lt_of_lt_of_le HUlt1 (Nat.le_refl _)))) (fun k e => by cases e; omega)
  clear HF1 HT1 HL1 B1 g
  go_wp2_with (first
    | (refine store_blk (k := 4) 3 (.int .i64 (v0 : Nat)) (ldC { zLd with tt := (v0 : Nat) } zLdA) (by rfl) rfl rfl rfl HL2 (by kernel_rfl) (show (4 + 1 : Nat) ≤ 11 by decide) (by rfl) rfl ?_; intro w3 HL3 bq3 gq3; have HF3 := HF2.grown gq3 (by simp; exact hFL); have HT3 := HT2.grown gq3 (by simp; exact hTL); have HU3 : Cur w3 c s _ 0 := Blk.grown HU2 gq3 (by simp; omega); have B3 : Below D w w3 := B2.trans (bq3.mono hDL)))
  clear HL2 HF2 HT2 HU2 B2
  have LA : LdAc w3 D L { zLd with tt := (v0 : Nat) } := ⟨zLdA, HL3, .nil _ _, .nil _ _, .nil _ _, .nil _ _, .nil _ _, .nil _ _⟩
  obtain ⟨P, hP⟩ : ∃ P, P = 0 + 2 := ⟨_, rfl⟩
  rw [← hP] at HU3
  have cP := HU3.cv 1 (.int .i64 (P : Nat)) rfl
  have cT := HT3.cv 1 (.string s) rfl
  have cI := HU3.lt
  go_upto_region 28 with (fail)
  refine wp_region_noPanic ?_
  refine wp_region_held_drew (S := fun w' => w'.cell? ⟨c, 1, none⟩ = some (.int .i64 (P : Nat)) ∧ w'.cell? ⟨T, 1, none⟩ = some (.string s)) (by kernel_rfl) ?_ (fun hHeld => ?_)
  · exact ⟨cP, cT⟩
  refine wpAnyH_take (i := 0) (v := ?_) rfl (by kernel_rfl) (by kernel_rfl) (by kernel_rfl) (fun _ _ _ h => h) (Or.inl ⟨by rfl, ?_⟩) (by assumption) ?_
  rotate_left
  · (intro w hSw; (try dsimp only at hSw); go_simp; (try with_reducible rfl))
  (try simp only [Act.put, List.getElem_toArray, List.getElem_cons_zero, List.getElem_cons_succ, List.setIfInBounds_toArray, List.set_cons_zero, List.set_cons_succ])
  refine wpAnyH_take (i := 1) (v := ?_) rfl (by kernel_rfl) (by kernel_rfl) (by kernel_rfl) (fun _ _ _ h => h) (Or.inl ⟨by rfl, ?_⟩) (by assumption) ?_
  rotate_left
  · (intro w hSw; (try dsimp only at hSw); go_simp; (try with_reducible rfl))
  (try simp only [Act.put, List.getElem_toArray, List.getElem_cons_zero, List.getElem_cons_succ, List.setIfInBounds_toArray, List.set_cons_zero, List.set_cons_succ])
  refine wpAnyH_take (i := 2) (v := ?_) rfl (by kernel_rfl) (by kernel_rfl) (by kernel_rfl) (fun _ _ _ h => h) (Or.inl ⟨by rfl, ?_⟩) (by assumption) ?_
  rotate_left
  · (intro w hSw; (try dsimp only at hSw); go_simp; (try with_reducible rfl))
  (try simp only [Act.put, List.getElem_toArray, List.getElem_cons_zero, List.getElem_cons_succ, List.setIfInBounds_toArray, List.set_cons_zero, List.set_cons_succ])
  refine wpAnyH_take (i := 3) (v := .int .i64 (P : Nat)) rfl (by kernel_rfl) (by kernel_rfl) (by kernel_rfl) (fun _ _ _ h => h) (Or.inl ⟨by rfl, fun w hSw => by have cc := hSw.1; (try dsimp only at cc); go_simp⟩) (by assumption) ?_
  (try simp only [Act.put, List.getElem_toArray, List.getElem_cons_zero, List.getElem_cons_succ, List.setIfInBounds_toArray, List.set_cons_zero, List.set_cons_succ])
  refine wpAnyH_take (i := 4) (v := ?_) rfl (by kernel_rfl) (by kernel_rfl) (by kernel_rfl) (fun _ _ _ h => h) (Or.inl ⟨by rfl, ?_⟩) (by assumption) ?_
  rotate_left
  · (intro w hSw; (try dsimp only at hSw); go_simp; (try with_reducible rfl))
  (try simp only [Act.put, List.getElem_toArray, List.getElem_cons_zero, List.getElem_cons_succ, List.setIfInBounds_toArray, List.set_cons_zero, List.set_cons_succ])
  refine wpAnyH_take (i := 5) (v := .string s) rfl (by kernel_rfl) (by kernel_rfl) (by kernel_rfl) (fun _ _ _ h => h) (Or.inl ⟨by rfl, fun w hSw => by have cc := hSw.2; (try dsimp only at cc); go_simp⟩) (by assumption) ?_
  (try simp only [Act.put, List.getElem_toArray, List.getElem_cons_zero, List.getElem_cons_succ, List.setIfInBounds_toArray, List.set_cons_zero, List.set_cons_succ])
  refine wpAnyH_take (i := 6) (v := ?_) rfl (by kernel_rfl) (by kernel_rfl) (by kernel_rfl) (fun _ _ _ h => h) (Or.inl ⟨by rfl, ?_⟩) (by assumption) ?_
  rotate_left
  · (intro w hSw; (try dsimp only at hSw); go_simp; (try with_reducible rfl))
  (try simp only [Act.put, List.getElem_toArray, List.getElem_cons_zero, List.getElem_cons_succ, List.setIfInBounds_toArray, List.set_cons_zero, List.set_cons_succ])
  refine wpAnyH_take (i := 7) (v := ?_) rfl (by kernel_rfl) (by kernel_rfl) (by kernel_rfl) (fun _ _ _ h => h) (Or.inl ⟨by rfl, ?_⟩) (by assumption) ?_
  rotate_left
  · (intro w hSw; (try dsimp only at hSw); go_simp; (try with_reducible rfl))
  (try simp only [Act.put, List.getElem_toArray, List.getElem_cons_zero, List.getElem_cons_succ, List.setIfInBounds_toArray, List.set_cons_zero, List.set_cons_succ])
  refine wpAnyH_done (by kernel_rfl) ?_ _
  refine NoPanic.normal ?_
  have HFd := HF3.drew
  have LAd := LA.drew
  have Bd := B3.drew
  have HUd := HU3.drew
  have hszd : D ≤ w3.drew.heap.size := by show D ≤ w3.heap.size; omega
  clear HF3 LA B3 HU3 cP cT cI HT3 HL3
  generalize w3.drew = wz at *
  by_cases hl : P < s.size
  · have d1 : decide ((P : Int) < (s.size : Int)) = true := decide_eq_true (by omega)
    have d2 : decide (P < s.size) = true := decide_eq_true hl
    have hf : Hid (formK 3 s.data.toList = false) := (by show _ = _; rw [formK3]; exact decide_eq_false (by omega))
    go_wp2_with fail
    refine (throw_any HUd 3 0 (by omega) (by omega)).mono ?_
    rintro e wb ⟨rfl, rfl⟩
    go_wp2
    exact pt_bad (by decide) HFd LAd hf.out Bd hDF hszd
  · have d1 : decide ((P : Int) < (s.size : Int)) = false := decide_eq_false (by omega)
    have d2 : decide (P < s.size) = false := decide_eq_false hl
    have hf : Hid (formK 3 s.data.toList = true) := (by show _ = _; rw [formK3]; exact decide_eq_true (by omega))
    have hy : Hid (({ zLd with tt := (v0 : Nat) } : Ld) = addLd zLd ⟨3, s⟩) := by
      show _ = _
      rw [addLd3, hv0.out]
      rw [List.drop_zero, List.take_of_length_le (by omega)]
    rw [hy.out] at LAd
    go_wp2
    exact pt_ok HFd LAd hf.out Bd hDF hszd

set_option maxHeartbeats 3200000 in
theorem pt_n4 {F T L D : Nat} {s : ByteArray} (w : World) (HF : Blk w F 32 (ftC 0 (-1))) (HT : Blk w T 80 (tlC ⟨4, s⟩)) (HL : Blk w L 29 (ldC zLd zLdA)) (hs : s.size ≤ 100000) (hDF : D ≤ F) (hDL : D ≤ L) :
    Calls Tryz.prog 32 #[.pointer (some ⟨F, 0, none⟩), .pointer (some ⟨T, 0, none⟩), .pointer (some ⟨L, 0, none⟩)] w (PtR F L D 4 s w) := by
  have hls : s.data.toList.length = s.size := by simp
  have hDw : D ≤ w.heap.size := by have := HF.lt; omega
  have cA := HT.cv 0 (.int .i64 4) rfl
  have cB := HT.cv 1 (.string s) rfl
  have HF1 := HF.alloc (.cells #[.string s, .int .i64 (0 : Nat), .int .i64 (0 : Nat)] 117)
  have HT1 := HT.alloc (.cells #[.string s, .int .i64 (0 : Nat), .int .i64 (0 : Nat)] 117)
  have HL1 := HL.alloc (.cells #[.string s, .int .i64 (0 : Nat), .int .i64 (0 : Nat)] 117)
  have HU1 : Cur (w.alloc (.cells #[.string s, .int .i64 (0 : Nat), .int .i64 (0 : Nat)] 117)) w.heap.size s 0 0 := Blk.new w 117 _
  have B1 : Below D w (w.alloc (.cells #[.string s, .int .i64 (0 : Nat), .int .i64 (0 : Nat)] 117)) := (Below.refl D w).alloc hDw _
  have hF := HF.lt
  have hT := HT.lt
  have hL := HL.lt
  have hFL : ¬ F = L := blk_ne HF HL (by decide)
  have hTL : ¬ T = L := blk_ne HT HL (by decide)
  clear HF HT HL
  go_enter_defers Tryz.func32, Tryz.ntmps32
  go_upto_region 2 with (refine build_blk (t := 117) #[.string s, .int .i64 (0 : Nat), .int .i64 (0 : Nat)] (by rfl) rfl (by kernel_rfl) ?_)
  generalize w.alloc (.cells #[.string s, .int .i64 0, .int .i64 0] 117) = w1 at *
  generalize w.heap.size = c at *
  have ck := HT1.cv 0 (.int .i64 4) rfl
  clear cA cB
  have HUlt1 := HU1.lt
  go_wp2_with fail
  have N0 := crest_ok HU1 (by omega) (by omega)
  obtain ⟨v0, hv0⟩ : ∃ v0, v0 = (⟨(s.data.toList.drop (0)).toArray⟩ : ByteArray) := ⟨_, rfl⟩
  rw [← hv0] at N0
  replace N0 := Lib.hid N0
  replace hv0 := Lib.hid hv0
  refine N0.out.mono ?_
  clear N0
  rintro e w2 ⟨rfl, HU2, g⟩
  have HF2 := HF1.grown g (by simp; omega)
  have HT2 := HT1.grown g (by simp; omega)
  have HL2 := HL1.grown g (by simp; omega)
  have B2 : Below D w w2 := B1.grown g (Nat.le_trans hDw (Nat.le_of_lt (Nat.lt_of_lt_of_le HUlt1 (Nat.le_refl _)))) (fun k e => by cases e; omega)
  clear HF1 HT1 HL1 B1 g
  have hDG : D ≤ w2.heap.size := by have := HU2.lt; omega
  have hLG : L < w2.heap.size := HL2.lt
  have HF3 := HF2.alloc (.cells #[.string v0] 9)
  have HT3 := HT2.alloc (.cells #[.string v0] 9)
  have HL3 := HL2.alloc (.cells #[.string v0] 9)
  have HU3 : Cur (w2.alloc (.cells #[.string v0] 9)) c s _ 0 := Blk.alloc HU2 (.cells #[.string v0] 9)
  have HG3 : Blk (w2.alloc (.cells #[.string v0] 9)) w2.heap.size 9 #[.string v0] := Blk.new w2 9 _
  have B3 : Below D w (w2.alloc (.cells #[.string v0] 9)) := B2.alloc hDG (.cells #[.string v0] 9)
  go_wp2_with (first
    | (refine store_blk (k := 5) 24 (.slice (some ⟨w2.heap.size, 0, none⟩) 1 1) (ldC { zLd with de := [v0] } { zLdA with de := (some ⟨w2.heap.size, 0, none⟩, 1) }) (by rfl) rfl rfl rfl HL3 (by kernel_rfl) (show (5 + 1 : Nat) ≤ 11 by decide) (by rfl) rfl ?_; intro w4 HL4 bq4 gq4; have HF4 := HF3.grown gq4 (by simp; exact hFL); have HT4 := HT3.grown gq4 (by simp; exact hTL); have HU4 : Cur w4 c s _ 0 := Blk.grown HU3 gq4 (by simp; omega); have B4 : Below D w w4 := B3.trans (bq4.mono hDL); have HG4 := HG3.grown gq4 (by simp; omega)))
  have HGd := HG4
  clear HL3 HF3 HT3 HU3 B3 HL2 HF2 HT2 HU2 B2
  have LA : LdAc w4 D L { zLd with de := [v0] } := ⟨{ zLdA with de := (some ⟨w2.heap.size, 0, none⟩, 1) }, HL4, .one HGd hDG, .nil _ _, .nil _ _, .nil _ _, .nil _ _, .nil _ _⟩
  obtain ⟨P, hP⟩ : ∃ P, P = s.size := ⟨_, rfl⟩
  rw [← hP] at HU4
  have cP := HU4.cv 1 (.int .i64 (P : Nat)) rfl
  have cT := HT4.cv 1 (.string s) rfl
  have cI := HU4.lt
  go_upto_region 28 with (fail)
  refine wp_region_noPanic ?_
  refine wp_region_held_drew (S := fun w' => w'.cell? ⟨c, 1, none⟩ = some (.int .i64 (P : Nat)) ∧ w'.cell? ⟨T, 1, none⟩ = some (.string s)) (by kernel_rfl) ?_ (fun hHeld => ?_)
  · exact ⟨cP, cT⟩
  refine wpAnyH_take (i := 0) (v := ?_) rfl (by kernel_rfl) (by kernel_rfl) (by kernel_rfl) (fun _ _ _ h => h) (Or.inl ⟨by rfl, ?_⟩) (by assumption) ?_
  rotate_left
  · (intro w hSw; (try dsimp only at hSw); go_simp; (try with_reducible rfl))
  (try simp only [Act.put, List.getElem_toArray, List.getElem_cons_zero, List.getElem_cons_succ, List.setIfInBounds_toArray, List.set_cons_zero, List.set_cons_succ])
  refine wpAnyH_take (i := 1) (v := ?_) rfl (by kernel_rfl) (by kernel_rfl) (by kernel_rfl) (fun _ _ _ h => h) (Or.inl ⟨by rfl, ?_⟩) (by assumption) ?_
  rotate_left
  · (intro w hSw; (try dsimp only at hSw); go_simp; (try with_reducible rfl))
  (try simp only [Act.put, List.getElem_toArray, List.getElem_cons_zero, List.getElem_cons_succ, List.setIfInBounds_toArray, List.set_cons_zero, List.set_cons_succ])
  refine wpAnyH_take (i := 2) (v := ?_) rfl (by kernel_rfl) (by kernel_rfl) (by kernel_rfl) (fun _ _ _ h => h) (Or.inl ⟨by rfl, ?_⟩) (by assumption) ?_
  rotate_left
  · (intro w hSw; (try dsimp only at hSw); go_simp; (try with_reducible rfl))
  (try simp only [Act.put, List.getElem_toArray, List.getElem_cons_zero, List.getElem_cons_succ, List.setIfInBounds_toArray, List.set_cons_zero, List.set_cons_succ])
  refine wpAnyH_take (i := 3) (v := .int .i64 (P : Nat)) rfl (by kernel_rfl) (by kernel_rfl) (by kernel_rfl) (fun _ _ _ h => h) (Or.inl ⟨by rfl, fun w hSw => by have cc := hSw.1; (try dsimp only at cc); go_simp⟩) (by assumption) ?_
  (try simp only [Act.put, List.getElem_toArray, List.getElem_cons_zero, List.getElem_cons_succ, List.setIfInBounds_toArray, List.set_cons_zero, List.set_cons_succ])
  refine wpAnyH_take (i := 4) (v := ?_) rfl (by kernel_rfl) (by kernel_rfl) (by kernel_rfl) (fun _ _ _ h => h) (Or.inl ⟨by rfl, ?_⟩) (by assumption) ?_
  rotate_left
  · (intro w hSw; (try dsimp only at hSw); go_simp; (try with_reducible rfl))
  (try simp only [Act.put, List.getElem_toArray, List.getElem_cons_zero, List.getElem_cons_succ, List.setIfInBounds_toArray, List.set_cons_zero, List.set_cons_succ])
  refine wpAnyH_take (i := 5) (v := .string s) rfl (by kernel_rfl) (by kernel_rfl) (by kernel_rfl) (fun _ _ _ h => h) (Or.inl ⟨by rfl, fun w hSw => by have cc := hSw.2; (try dsimp only at cc); go_simp⟩) (by assumption) ?_
  (try simp only [Act.put, List.getElem_toArray, List.getElem_cons_zero, List.getElem_cons_succ, List.setIfInBounds_toArray, List.set_cons_zero, List.set_cons_succ])
  refine wpAnyH_take (i := 6) (v := ?_) rfl (by kernel_rfl) (by kernel_rfl) (by kernel_rfl) (fun _ _ _ h => h) (Or.inl ⟨by rfl, ?_⟩) (by assumption) ?_
  rotate_left
  · (intro w hSw; (try dsimp only at hSw); go_simp; (try with_reducible rfl))
  (try simp only [Act.put, List.getElem_toArray, List.getElem_cons_zero, List.getElem_cons_succ, List.setIfInBounds_toArray, List.set_cons_zero, List.set_cons_succ])
  refine wpAnyH_take (i := 7) (v := ?_) rfl (by kernel_rfl) (by kernel_rfl) (by kernel_rfl) (fun _ _ _ h => h) (Or.inl ⟨by rfl, ?_⟩) (by assumption) ?_
  rotate_left
  · (intro w hSw; (try dsimp only at hSw); go_simp; (try with_reducible rfl))
  (try simp only [Act.put, List.getElem_toArray, List.getElem_cons_zero, List.getElem_cons_succ, List.setIfInBounds_toArray, List.set_cons_zero, List.set_cons_succ])
  refine wpAnyH_done (by kernel_rfl) ?_ _
  refine NoPanic.normal ?_
  have HFd := HF4.drew
  have LAd := LA.drew
  have Bd := B4.drew
  have HUd := HU4.drew
  have hszd : D ≤ w4.drew.heap.size := by show D ≤ w4.heap.size; omega
  clear HF4 LA B4 HU4 cP cT cI HT4 HL4
  generalize w4.drew = wz at *
  by_cases hl : P < s.size
  · exact absurd hl (by omega)
  · have d1 : decide ((P : Int) < (s.size : Int)) = false := decide_eq_false (by omega)
    have d2 : decide (P < s.size) = false := decide_eq_false hl
    have hf : Hid (formK 4 s.data.toList = true) := (by show _ = _; simp [formK])
    have hy : Hid (({ zLd with de := [v0] } : Ld) = addLd zLd ⟨4, s⟩) := by
      show _ = _
      rw [addLd4, hv0.out]
      rw [List.drop_zero, Array.toArray_toList]
      rfl
    rw [hy.out] at LAd
    go_wp2
    exact pt_ok HFd LAd hf.out Bd hDF hszd

set_option maxHeartbeats 3200000 in
theorem pt_n5 {F T L D : Nat} {s : ByteArray} (w : World) (HF : Blk w F 32 (ftC 0 (-1))) (HT : Blk w T 80 (tlC ⟨5, s⟩)) (HL : Blk w L 29 (ldC zLd zLdA)) (hs : s.size ≤ 100000) (hDF : D ≤ F) (hDL : D ≤ L) :
    Calls Tryz.prog 32 #[.pointer (some ⟨F, 0, none⟩), .pointer (some ⟨T, 0, none⟩), .pointer (some ⟨L, 0, none⟩)] w (PtR F L D 5 s w) := by
  have hls : s.data.toList.length = s.size := by simp
  have hDw : D ≤ w.heap.size := by have := HF.lt; omega
  have cA := HT.cv 0 (.int .i64 5) rfl
  have cB := HT.cv 1 (.string s) rfl
  have HF1 := HF.alloc (.cells #[.string s, .int .i64 (0 : Nat), .int .i64 (0 : Nat)] 117)
  have HT1 := HT.alloc (.cells #[.string s, .int .i64 (0 : Nat), .int .i64 (0 : Nat)] 117)
  have HL1 := HL.alloc (.cells #[.string s, .int .i64 (0 : Nat), .int .i64 (0 : Nat)] 117)
  have HU1 : Cur (w.alloc (.cells #[.string s, .int .i64 (0 : Nat), .int .i64 (0 : Nat)] 117)) w.heap.size s 0 0 := Blk.new w 117 _
  have B1 : Below D w (w.alloc (.cells #[.string s, .int .i64 (0 : Nat), .int .i64 (0 : Nat)] 117)) := (Below.refl D w).alloc hDw _
  have hF := HF.lt
  have hT := HT.lt
  have hL := HL.lt
  have hFL : ¬ F = L := blk_ne HF HL (by decide)
  have hTL : ¬ T = L := blk_ne HT HL (by decide)
  clear HF HT HL
  go_enter_defers Tryz.func32, Tryz.ntmps32
  go_upto_region 2 with (refine build_blk (t := 117) #[.string s, .int .i64 (0 : Nat), .int .i64 (0 : Nat)] (by rfl) rfl (by kernel_rfl) ?_)
  generalize w.alloc (.cells #[.string s, .int .i64 0, .int .i64 0] 117) = w1 at *
  generalize w.heap.size = c at *
  have ck := HT1.cv 0 (.int .i64 5) rfl
  clear cA cB
  have HUlt1 := HU1.lt
  go_wp2_with fail
  have N0 := crest_ok HU1 (by omega) (by omega)
  obtain ⟨v0, hv0⟩ : ∃ v0, v0 = (⟨(s.data.toList.drop (0)).toArray⟩ : ByteArray) := ⟨_, rfl⟩
  rw [← hv0] at N0
  replace N0 := Lib.hid N0
  replace hv0 := Lib.hid hv0
  refine N0.out.mono ?_
  clear N0
  rintro e w2 ⟨rfl, HU2, g⟩
  have HF2 := HF1.grown g (by simp; omega)
  have HT2 := HT1.grown g (by simp; omega)
  have HL2 := HL1.grown g (by simp; omega)
  have B2 : Below D w w2 := B1.grown g (Nat.le_trans hDw (Nat.le_of_lt (Nat.lt_of_lt_of_le HUlt1 (Nat.le_refl _)))) (fun k e => by cases e; omega)
  clear HF1 HT1 HL1 B1 g
  have hDG : D ≤ w2.heap.size := by have := HU2.lt; omega
  have hLG : L < w2.heap.size := HL2.lt
  have HF3 := HF2.alloc (.cells #[.string v0] 9)
  have HT3 := HT2.alloc (.cells #[.string v0] 9)
  have HL3 := HL2.alloc (.cells #[.string v0] 9)
  have HU3 : Cur (w2.alloc (.cells #[.string v0] 9)) c s _ 0 := Blk.alloc HU2 (.cells #[.string v0] 9)
  have HG3 : Blk (w2.alloc (.cells #[.string v0] 9)) w2.heap.size 9 #[.string v0] := Blk.new w2 9 _
  have B3 : Below D w (w2.alloc (.cells #[.string v0] 9)) := B2.alloc hDG (.cells #[.string v0] 9)
  go_wp2_with (first
    | (refine store_blk (k := 6) 24 (.slice (some ⟨w2.heap.size, 0, none⟩) 1 1) (ldC { zLd with ho := [v0] } { zLdA with ho := (some ⟨w2.heap.size, 0, none⟩, 1) }) (by rfl) rfl rfl rfl HL3 (by kernel_rfl) (show (6 + 1 : Nat) ≤ 11 by decide) (by rfl) rfl ?_; intro w4 HL4 bq4 gq4; have HF4 := HF3.grown gq4 (by simp; exact hFL); have HT4 := HT3.grown gq4 (by simp; exact hTL); have HU4 : Cur w4 c s _ 0 := Blk.grown HU3 gq4 (by simp; omega); have B4 : Below D w w4 := B3.trans (bq4.mono hDL); have HG4 := HG3.grown gq4 (by simp; omega)))
  have HGd := HG4
  clear HL3 HF3 HT3 HU3 B3 HL2 HF2 HT2 HU2 B2
  have LA : LdAc w4 D L { zLd with ho := [v0] } := ⟨{ zLdA with ho := (some ⟨w2.heap.size, 0, none⟩, 1) }, HL4, .nil _ _, .one HGd hDG, .nil _ _, .nil _ _, .nil _ _, .nil _ _⟩
  obtain ⟨P, hP⟩ : ∃ P, P = s.size := ⟨_, rfl⟩
  rw [← hP] at HU4
  have cP := HU4.cv 1 (.int .i64 (P : Nat)) rfl
  have cT := HT4.cv 1 (.string s) rfl
  have cI := HU4.lt
  go_upto_region 28 with (fail)
  refine wp_region_noPanic ?_
  refine wp_region_held_drew (S := fun w' => w'.cell? ⟨c, 1, none⟩ = some (.int .i64 (P : Nat)) ∧ w'.cell? ⟨T, 1, none⟩ = some (.string s)) (by kernel_rfl) ?_ (fun hHeld => ?_)
  · exact ⟨cP, cT⟩
  refine wpAnyH_take (i := 0) (v := ?_) rfl (by kernel_rfl) (by kernel_rfl) (by kernel_rfl) (fun _ _ _ h => h) (Or.inl ⟨by rfl, ?_⟩) (by assumption) ?_
  rotate_left
  · (intro w hSw; (try dsimp only at hSw); go_simp; (try with_reducible rfl))
  (try simp only [Act.put, List.getElem_toArray, List.getElem_cons_zero, List.getElem_cons_succ, List.setIfInBounds_toArray, List.set_cons_zero, List.set_cons_succ])
  refine wpAnyH_take (i := 1) (v := ?_) rfl (by kernel_rfl) (by kernel_rfl) (by kernel_rfl) (fun _ _ _ h => h) (Or.inl ⟨by rfl, ?_⟩) (by assumption) ?_
  rotate_left
  · (intro w hSw; (try dsimp only at hSw); go_simp; (try with_reducible rfl))
  (try simp only [Act.put, List.getElem_toArray, List.getElem_cons_zero, List.getElem_cons_succ, List.setIfInBounds_toArray, List.set_cons_zero, List.set_cons_succ])
  refine wpAnyH_take (i := 2) (v := ?_) rfl (by kernel_rfl) (by kernel_rfl) (by kernel_rfl) (fun _ _ _ h => h) (Or.inl ⟨by rfl, ?_⟩) (by assumption) ?_
  rotate_left
  · (intro w hSw; (try dsimp only at hSw); go_simp; (try with_reducible rfl))
  (try simp only [Act.put, List.getElem_toArray, List.getElem_cons_zero, List.getElem_cons_succ, List.setIfInBounds_toArray, List.set_cons_zero, List.set_cons_succ])
  refine wpAnyH_take (i := 3) (v := .int .i64 (P : Nat)) rfl (by kernel_rfl) (by kernel_rfl) (by kernel_rfl) (fun _ _ _ h => h) (Or.inl ⟨by rfl, fun w hSw => by have cc := hSw.1; (try dsimp only at cc); go_simp⟩) (by assumption) ?_
  (try simp only [Act.put, List.getElem_toArray, List.getElem_cons_zero, List.getElem_cons_succ, List.setIfInBounds_toArray, List.set_cons_zero, List.set_cons_succ])
  refine wpAnyH_take (i := 4) (v := ?_) rfl (by kernel_rfl) (by kernel_rfl) (by kernel_rfl) (fun _ _ _ h => h) (Or.inl ⟨by rfl, ?_⟩) (by assumption) ?_
  rotate_left
  · (intro w hSw; (try dsimp only at hSw); go_simp; (try with_reducible rfl))
  (try simp only [Act.put, List.getElem_toArray, List.getElem_cons_zero, List.getElem_cons_succ, List.setIfInBounds_toArray, List.set_cons_zero, List.set_cons_succ])
  refine wpAnyH_take (i := 5) (v := .string s) rfl (by kernel_rfl) (by kernel_rfl) (by kernel_rfl) (fun _ _ _ h => h) (Or.inl ⟨by rfl, fun w hSw => by have cc := hSw.2; (try dsimp only at cc); go_simp⟩) (by assumption) ?_
  (try simp only [Act.put, List.getElem_toArray, List.getElem_cons_zero, List.getElem_cons_succ, List.setIfInBounds_toArray, List.set_cons_zero, List.set_cons_succ])
  refine wpAnyH_take (i := 6) (v := ?_) rfl (by kernel_rfl) (by kernel_rfl) (by kernel_rfl) (fun _ _ _ h => h) (Or.inl ⟨by rfl, ?_⟩) (by assumption) ?_
  rotate_left
  · (intro w hSw; (try dsimp only at hSw); go_simp; (try with_reducible rfl))
  (try simp only [Act.put, List.getElem_toArray, List.getElem_cons_zero, List.getElem_cons_succ, List.setIfInBounds_toArray, List.set_cons_zero, List.set_cons_succ])
  refine wpAnyH_take (i := 7) (v := ?_) rfl (by kernel_rfl) (by kernel_rfl) (by kernel_rfl) (fun _ _ _ h => h) (Or.inl ⟨by rfl, ?_⟩) (by assumption) ?_
  rotate_left
  · (intro w hSw; (try dsimp only at hSw); go_simp; (try with_reducible rfl))
  (try simp only [Act.put, List.getElem_toArray, List.getElem_cons_zero, List.getElem_cons_succ, List.setIfInBounds_toArray, List.set_cons_zero, List.set_cons_succ])
  refine wpAnyH_done (by kernel_rfl) ?_ _
  refine NoPanic.normal ?_
  have HFd := HF4.drew
  have LAd := LA.drew
  have Bd := B4.drew
  have HUd := HU4.drew
  have hszd : D ≤ w4.drew.heap.size := by show D ≤ w4.heap.size; omega
  clear HF4 LA B4 HU4 cP cT cI HT4 HL4
  generalize w4.drew = wz at *
  by_cases hl : P < s.size
  · exact absurd hl (by omega)
  · have d1 : decide ((P : Int) < (s.size : Int)) = false := decide_eq_false (by omega)
    have d2 : decide (P < s.size) = false := decide_eq_false hl
    have hf : Hid (formK 5 s.data.toList = true) := (by show _ = _; simp [formK])
    have hy : Hid (({ zLd with ho := [v0] } : Ld) = addLd zLd ⟨5, s⟩) := by
      show _ = _
      rw [addLd5, hv0.out]
      rw [List.drop_zero, Array.toArray_toList]
      rfl
    rw [hy.out] at LAd
    go_wp2
    exact pt_ok HFd LAd hf.out Bd hDF hszd

set_option maxHeartbeats 3200000 in
theorem pt_n6 {F T L D : Nat} {s : ByteArray} (w : World) (HF : Blk w F 32 (ftC 0 (-1))) (HT : Blk w T 80 (tlC ⟨6, s⟩)) (HL : Blk w L 29 (ldC zLd zLdA)) (hs : s.size ≤ 100000) (hDF : D ≤ F) (hDL : D ≤ L) :
    Calls Tryz.prog 32 #[.pointer (some ⟨F, 0, none⟩), .pointer (some ⟨T, 0, none⟩), .pointer (some ⟨L, 0, none⟩)] w (PtR F L D 6 s w) := by
  have hls : s.data.toList.length = s.size := by simp
  have hDw : D ≤ w.heap.size := by have := HF.lt; omega
  have cA := HT.cv 0 (.int .i64 6) rfl
  have cB := HT.cv 1 (.string s) rfl
  have HF1 := HF.alloc (.cells #[.string s, .int .i64 (0 : Nat), .int .i64 (0 : Nat)] 117)
  have HT1 := HT.alloc (.cells #[.string s, .int .i64 (0 : Nat), .int .i64 (0 : Nat)] 117)
  have HL1 := HL.alloc (.cells #[.string s, .int .i64 (0 : Nat), .int .i64 (0 : Nat)] 117)
  have HU1 : Cur (w.alloc (.cells #[.string s, .int .i64 (0 : Nat), .int .i64 (0 : Nat)] 117)) w.heap.size s 0 0 := Blk.new w 117 _
  have B1 : Below D w (w.alloc (.cells #[.string s, .int .i64 (0 : Nat), .int .i64 (0 : Nat)] 117)) := (Below.refl D w).alloc hDw _
  have hF := HF.lt
  have hT := HT.lt
  have hL := HL.lt
  have hFL : ¬ F = L := blk_ne HF HL (by decide)
  have hTL : ¬ T = L := blk_ne HT HL (by decide)
  clear HF HT HL
  go_enter_defers Tryz.func32, Tryz.ntmps32
  go_upto_region 2 with (refine build_blk (t := 117) #[.string s, .int .i64 (0 : Nat), .int .i64 (0 : Nat)] (by rfl) rfl (by kernel_rfl) ?_)
  generalize w.alloc (.cells #[.string s, .int .i64 0, .int .i64 0] 117) = w1 at *
  generalize w.heap.size = c at *
  have ck := HT1.cv 0 (.int .i64 6) rfl
  clear cA cB
  have HUlt1 := HU1.lt
  go_wp2_with fail
  have N0 := crest_ok HU1 (by omega) (by omega)
  obtain ⟨v0, hv0⟩ : ∃ v0, v0 = (⟨(s.data.toList.drop (0)).toArray⟩ : ByteArray) := ⟨_, rfl⟩
  rw [← hv0] at N0
  replace N0 := Lib.hid N0
  replace hv0 := Lib.hid hv0
  refine N0.out.mono ?_
  clear N0
  rintro e w2 ⟨rfl, HU2, g⟩
  have HF2 := HF1.grown g (by simp; omega)
  have HT2 := HT1.grown g (by simp; omega)
  have HL2 := HL1.grown g (by simp; omega)
  have B2 : Below D w w2 := B1.grown g (Nat.le_trans hDw (Nat.le_of_lt (Nat.lt_of_lt_of_le HUlt1 (Nat.le_refl _)))) (fun k e => by cases e; omega)
  clear HF1 HT1 HL1 B1 g
  have hDG : D ≤ w2.heap.size := by have := HU2.lt; omega
  have hLG : L < w2.heap.size := HL2.lt
  have HF3 := HF2.alloc (.cells #[.string v0] 9)
  have HT3 := HT2.alloc (.cells #[.string v0] 9)
  have HL3 := HL2.alloc (.cells #[.string v0] 9)
  have HU3 : Cur (w2.alloc (.cells #[.string v0] 9)) c s _ 0 := Blk.alloc HU2 (.cells #[.string v0] 9)
  have HG3 : Blk (w2.alloc (.cells #[.string v0] 9)) w2.heap.size 9 #[.string v0] := Blk.new w2 9 _
  have B3 : Below D w (w2.alloc (.cells #[.string v0] 9)) := B2.alloc hDG (.cells #[.string v0] 9)
  go_wp2_with (first
    | (refine store_blk (k := 7) 24 (.slice (some ⟨w2.heap.size, 0, none⟩) 1 1) (ldC { zLd with sy := [v0] } { zLdA with sy := (some ⟨w2.heap.size, 0, none⟩, 1) }) (by rfl) rfl rfl rfl HL3 (by kernel_rfl) (show (7 + 1 : Nat) ≤ 11 by decide) (by rfl) rfl ?_; intro w4 HL4 bq4 gq4; have HF4 := HF3.grown gq4 (by simp; exact hFL); have HT4 := HT3.grown gq4 (by simp; exact hTL); have HU4 : Cur w4 c s _ 0 := Blk.grown HU3 gq4 (by simp; omega); have B4 : Below D w w4 := B3.trans (bq4.mono hDL); have HG4 := HG3.grown gq4 (by simp; omega)))
  have HGd := HG4
  clear HL3 HF3 HT3 HU3 B3 HL2 HF2 HT2 HU2 B2
  have LA : LdAc w4 D L { zLd with sy := [v0] } := ⟨{ zLdA with sy := (some ⟨w2.heap.size, 0, none⟩, 1) }, HL4, .nil _ _, .nil _ _, .one HGd hDG, .nil _ _, .nil _ _, .nil _ _⟩
  obtain ⟨P, hP⟩ : ∃ P, P = s.size := ⟨_, rfl⟩
  rw [← hP] at HU4
  have cP := HU4.cv 1 (.int .i64 (P : Nat)) rfl
  have cT := HT4.cv 1 (.string s) rfl
  have cI := HU4.lt
  go_upto_region 28 with (fail)
  refine wp_region_noPanic ?_
  refine wp_region_held_drew (S := fun w' => w'.cell? ⟨c, 1, none⟩ = some (.int .i64 (P : Nat)) ∧ w'.cell? ⟨T, 1, none⟩ = some (.string s)) (by kernel_rfl) ?_ (fun hHeld => ?_)
  · exact ⟨cP, cT⟩
  refine wpAnyH_take (i := 0) (v := ?_) rfl (by kernel_rfl) (by kernel_rfl) (by kernel_rfl) (fun _ _ _ h => h) (Or.inl ⟨by rfl, ?_⟩) (by assumption) ?_
  rotate_left
  · (intro w hSw; (try dsimp only at hSw); go_simp; (try with_reducible rfl))
  (try simp only [Act.put, List.getElem_toArray, List.getElem_cons_zero, List.getElem_cons_succ, List.setIfInBounds_toArray, List.set_cons_zero, List.set_cons_succ])
  refine wpAnyH_take (i := 1) (v := ?_) rfl (by kernel_rfl) (by kernel_rfl) (by kernel_rfl) (fun _ _ _ h => h) (Or.inl ⟨by rfl, ?_⟩) (by assumption) ?_
  rotate_left
  · (intro w hSw; (try dsimp only at hSw); go_simp; (try with_reducible rfl))
  (try simp only [Act.put, List.getElem_toArray, List.getElem_cons_zero, List.getElem_cons_succ, List.setIfInBounds_toArray, List.set_cons_zero, List.set_cons_succ])
  refine wpAnyH_take (i := 2) (v := ?_) rfl (by kernel_rfl) (by kernel_rfl) (by kernel_rfl) (fun _ _ _ h => h) (Or.inl ⟨by rfl, ?_⟩) (by assumption) ?_
  rotate_left
  · (intro w hSw; (try dsimp only at hSw); go_simp; (try with_reducible rfl))
  (try simp only [Act.put, List.getElem_toArray, List.getElem_cons_zero, List.getElem_cons_succ, List.setIfInBounds_toArray, List.set_cons_zero, List.set_cons_succ])
  refine wpAnyH_take (i := 3) (v := .int .i64 (P : Nat)) rfl (by kernel_rfl) (by kernel_rfl) (by kernel_rfl) (fun _ _ _ h => h) (Or.inl ⟨by rfl, fun w hSw => by have cc := hSw.1; (try dsimp only at cc); go_simp⟩) (by assumption) ?_
  (try simp only [Act.put, List.getElem_toArray, List.getElem_cons_zero, List.getElem_cons_succ, List.setIfInBounds_toArray, List.set_cons_zero, List.set_cons_succ])
  refine wpAnyH_take (i := 4) (v := ?_) rfl (by kernel_rfl) (by kernel_rfl) (by kernel_rfl) (fun _ _ _ h => h) (Or.inl ⟨by rfl, ?_⟩) (by assumption) ?_
  rotate_left
  · (intro w hSw; (try dsimp only at hSw); go_simp; (try with_reducible rfl))
  (try simp only [Act.put, List.getElem_toArray, List.getElem_cons_zero, List.getElem_cons_succ, List.setIfInBounds_toArray, List.set_cons_zero, List.set_cons_succ])
  refine wpAnyH_take (i := 5) (v := .string s) rfl (by kernel_rfl) (by kernel_rfl) (by kernel_rfl) (fun _ _ _ h => h) (Or.inl ⟨by rfl, fun w hSw => by have cc := hSw.2; (try dsimp only at cc); go_simp⟩) (by assumption) ?_
  (try simp only [Act.put, List.getElem_toArray, List.getElem_cons_zero, List.getElem_cons_succ, List.setIfInBounds_toArray, List.set_cons_zero, List.set_cons_succ])
  refine wpAnyH_take (i := 6) (v := ?_) rfl (by kernel_rfl) (by kernel_rfl) (by kernel_rfl) (fun _ _ _ h => h) (Or.inl ⟨by rfl, ?_⟩) (by assumption) ?_
  rotate_left
  · (intro w hSw; (try dsimp only at hSw); go_simp; (try with_reducible rfl))
  (try simp only [Act.put, List.getElem_toArray, List.getElem_cons_zero, List.getElem_cons_succ, List.setIfInBounds_toArray, List.set_cons_zero, List.set_cons_succ])
  refine wpAnyH_take (i := 7) (v := ?_) rfl (by kernel_rfl) (by kernel_rfl) (by kernel_rfl) (fun _ _ _ h => h) (Or.inl ⟨by rfl, ?_⟩) (by assumption) ?_
  rotate_left
  · (intro w hSw; (try dsimp only at hSw); go_simp; (try with_reducible rfl))
  (try simp only [Act.put, List.getElem_toArray, List.getElem_cons_zero, List.getElem_cons_succ, List.setIfInBounds_toArray, List.set_cons_zero, List.set_cons_succ])
  refine wpAnyH_done (by kernel_rfl) ?_ _
  refine NoPanic.normal ?_
  have HFd := HF4.drew
  have LAd := LA.drew
  have Bd := B4.drew
  have HUd := HU4.drew
  have hszd : D ≤ w4.drew.heap.size := by show D ≤ w4.heap.size; omega
  clear HF4 LA B4 HU4 cP cT cI HT4 HL4
  generalize w4.drew = wz at *
  by_cases hl : P < s.size
  · exact absurd hl (by omega)
  · have d1 : decide ((P : Int) < (s.size : Int)) = false := decide_eq_false (by omega)
    have d2 : decide (P < s.size) = false := decide_eq_false hl
    have hf : Hid (formK 6 s.data.toList = true) := (by show _ = _; simp [formK])
    have hy : Hid (({ zLd with sy := [v0] } : Ld) = addLd zLd ⟨6, s⟩) := by
      show _ = _
      rw [addLd6, hv0.out]
      rw [List.drop_zero, Array.toArray_toList]
      rfl
    rw [hy.out] at LAd
    go_wp2
    exact pt_ok HFd LAd hf.out Bd hDF hszd

end Go.Proofs.YtocgnbbnaamjjaaGreatDoor

namespace Go.Proofs.YtocgnbbnaamjjaaGreatDoor
open Go.RowKit
attribute [local go_sem ↓] Go.wp_at_zero Go.wp_at_succ
set_option linter.unusedSimpArgs false
set_option linter.unusedVariables false
set_option maxRecDepth 100000

theorem formK127 (S : List UInt8) : formK 127 S = decide (4 ≤ S.length) := by simp [formK]

theorem addLd127 {x : Ld} {s : ByteArray} : addLd x ⟨127, s⟩ = { x with og := x.og ++ [ogOf s.data.toList] } := by simp [addLd, txT]

set_option maxHeartbeats 3200000 in
theorem pt_n7 {F T L D : Nat} {s : ByteArray} (w : World) (HF : Blk w F 32 (ftC 0 (-1))) (HT : Blk w T 80 (tlC ⟨7, s⟩)) (HL : Blk w L 29 (ldC zLd zLdA)) (hs : s.size ≤ 100000) (hDF : D ≤ F) (hDL : D ≤ L) :
    Calls Tryz.prog 32 #[.pointer (some ⟨F, 0, none⟩), .pointer (some ⟨T, 0, none⟩), .pointer (some ⟨L, 0, none⟩)] w (PtR F L D 7 s w) := by
  have hls : s.data.toList.length = s.size := by simp
  have hDw : D ≤ w.heap.size := by have := HF.lt; omega
  have cA := HT.cv 0 (.int .i64 7) rfl
  have cB := HT.cv 1 (.string s) rfl
  have HF1 := HF.alloc (.cells #[.string s, .int .i64 (0 : Nat), .int .i64 (0 : Nat)] 117)
  have HT1 := HT.alloc (.cells #[.string s, .int .i64 (0 : Nat), .int .i64 (0 : Nat)] 117)
  have HL1 := HL.alloc (.cells #[.string s, .int .i64 (0 : Nat), .int .i64 (0 : Nat)] 117)
  have HU1 : Cur (w.alloc (.cells #[.string s, .int .i64 (0 : Nat), .int .i64 (0 : Nat)] 117)) w.heap.size s 0 0 := Blk.new w 117 _
  have B1 : Below D w (w.alloc (.cells #[.string s, .int .i64 (0 : Nat), .int .i64 (0 : Nat)] 117)) := (Below.refl D w).alloc hDw _
  have hF := HF.lt
  have hT := HT.lt
  have hL := HL.lt
  have hFL : ¬ F = L := blk_ne HF HL (by decide)
  have hTL : ¬ T = L := blk_ne HT HL (by decide)
  clear HF HT HL
  go_enter_defers Tryz.func32, Tryz.ntmps32
  go_upto_region 2 with (refine build_blk (t := 117) #[.string s, .int .i64 (0 : Nat), .int .i64 (0 : Nat)] (by rfl) rfl (by kernel_rfl) ?_)
  generalize w.alloc (.cells #[.string s, .int .i64 0, .int .i64 0] 117) = w1 at *
  generalize w.heap.size = c at *
  have ck := HT1.cv 0 (.int .i64 7) rfl
  clear cA cB
  have HUlt1 := HU1.lt
  go_wp2_with fail
  by_cases h0 : ¬ (0 + 2 ≤ s.size)
  · refine (cnum_bad HU1 2 h0 (by omega) (by decide) (by omega)).mono ?_
    rintro e wb ⟨rfl, bb⟩
    go_wp2
    exact pt_bad (by decide) (HF1.kept bb) (LdAc.zero (HL1.kept bb)) (by rw [formK7]; exact decide_eq_false (by omega)) (B1.trans (bb.mono (by omega))) hDF (by have := bb.size; omega)
  replace h0 : 0 + 2 ≤ s.size := by omega
  have N0 := cnum_ok HU1 2 (by decide) h0 (by omega)
  obtain ⟨v0, hv0⟩ : ∃ v0, v0 = beN ((s.data.toList.drop (0)).take 2) := ⟨_, rfl⟩
  rw [← hv0] at N0
  replace N0 := Lib.hid N0
  replace hv0 := Lib.hid hv0
  refine N0.out.mono ?_
  clear N0
  rintro e w2 ⟨rfl, HU2, g⟩
  have HF2 := HF1.grown g (by simp; omega)
  have HT2 := HT1.grown g (by simp; omega)
  have HL2 := HL1.grown g (by simp; omega)
  have B2 : Below D w w2 := B1.grown g (Nat.le_trans hDw (Nat.le_of_lt (Nat.lt_of_lt_of_le HUlt1 (Nat.le_refl _)))) (fun k e => by cases e; omega)
  clear HF1 HT1 HL1 B1 g
  have HUlt2 := HU2.lt
  go_wp2_with fail
  by_cases h1 : ¬ (0 + 2 + 2 ≤ s.size)
  · refine (cnum_bad HU2 2 h1 (by omega) (by decide) (by omega)).mono ?_
    rintro e wb ⟨rfl, bb⟩
    go_wp2
    exact pt_bad (by decide) (HF2.kept bb) (LdAc.zero (HL2.kept bb)) (by rw [formK7]; exact decide_eq_false (by omega)) (B2.trans (bb.mono (by omega))) hDF (by have := bb.size; omega)
  replace h1 : 0 + 2 + 2 ≤ s.size := by omega
  have N1 := cnum_ok HU2 2 (by decide) h1 (by omega)
  obtain ⟨v1, hv1⟩ : ∃ v1, v1 = beN ((s.data.toList.drop (0 + 2)).take 2) := ⟨_, rfl⟩
  rw [← hv1] at N1
  replace N1 := Lib.hid N1
  replace hv1 := Lib.hid hv1
  refine N1.out.mono ?_
  clear N1
  rintro e w3 ⟨rfl, HU3, g⟩
  have HF3 := HF2.grown g (by simp; omega)
  have HT3 := HT2.grown g (by simp; omega)
  have HL3 := HL2.grown g (by simp; omega)
  have B3 : Below D w w3 := B2.grown g (Nat.le_trans hDw (Nat.le_of_lt (Nat.lt_of_lt_of_le HUlt2 (Nat.le_refl _)))) (fun k e => by cases e; omega)
  clear HF2 HT2 HL2 B2 g
  go_wp2_with (first
    | (refine build_blk (t := 86) (cpC ⟨(v0 : Nat), (v1 : Nat)⟩) (by rfl) rfl (by kernel_rfl) ?_)
    | (refine sliceL_cp (⟨(v0 : Nat), (v1 : Nat)⟩) rfl rfl rfl (fun w4 HG4 bq4 lt4 => ?_); have hDG : D ≤ w3.heap.size := (by have := HU3.lt; omega); have HF4 := HF3.kept bq4; have HT4 := HT3.kept bq4; have HL4 := HL3.kept bq4; have HU4 := HU3.kept bq4; have hLG : L < w3.heap.size := HL3.lt; have B4 : Below D w w4 := B3.trans (bq4.mono hDG))
    | (refine store_blk (k := 8) 25 (.slice (some ⟨w3.heap.size, 0, none⟩) 1 1) (ldC { zLd with ca := [⟨(v0 : Nat), (v1 : Nat)⟩] } { zLdA with ca := (some ⟨w3.heap.size, 0, none⟩, 1) }) (by rfl) rfl rfl rfl HL4 (by kernel_rfl) (show (8 + 1 : Nat) ≤ 11 by decide) (by rfl) rfl ?_; intro w5 HL5 bq5 gq5; have HF5 := HF4.grown gq5 (by simp; exact hFL); have HT5 := HT4.grown gq5 (by simp; exact hTL); have HU5 : Cur w5 c s _ 0 := Blk.grown HU4 gq5 (by simp; omega); have B5 : Below D w w5 := B4.trans (bq5.mono hDL); have HG5 := HG4.grown gq5 (by simp; omega)))
  have HGd := HG5
  clear HL4 HF4 HT4 HU4 B4 HL3 HF3 HT3 HU3 B3
  have LA : LdAc w5 D L { zLd with ca := [⟨(v0 : Nat), (v1 : Nat)⟩] } := ⟨{ zLdA with ca := (some ⟨w3.heap.size, 0, none⟩, 1) }, HL5, .nil _ _, .nil _ _, .nil _ _, .one HGd hDG, .nil _ _, .nil _ _⟩
  obtain ⟨P, hP⟩ : ∃ P, P = 0 + 2 + 2 := ⟨_, rfl⟩
  rw [← hP] at HU5
  have cP := HU5.cv 1 (.int .i64 (P : Nat)) rfl
  have cT := HT5.cv 1 (.string s) rfl
  have cI := HU5.lt
  go_upto_region 28 with (fail)
  refine wp_region_noPanic ?_
  refine wp_region_held_drew (S := fun w' => w'.cell? ⟨c, 1, none⟩ = some (.int .i64 (P : Nat)) ∧ w'.cell? ⟨T, 1, none⟩ = some (.string s)) (by kernel_rfl) ?_ (fun hHeld => ?_)
  · exact ⟨cP, cT⟩
  refine wpAnyH_take (i := 0) (v := ?_) rfl (by kernel_rfl) (by kernel_rfl) (by kernel_rfl) (fun _ _ _ h => h) (Or.inl ⟨by rfl, ?_⟩) (by assumption) ?_
  rotate_left
  · (intro w hSw; (try dsimp only at hSw); go_simp; (try with_reducible rfl))
  (try simp only [Act.put, List.getElem_toArray, List.getElem_cons_zero, List.getElem_cons_succ, List.setIfInBounds_toArray, List.set_cons_zero, List.set_cons_succ])
  refine wpAnyH_take (i := 1) (v := ?_) rfl (by kernel_rfl) (by kernel_rfl) (by kernel_rfl) (fun _ _ _ h => h) (Or.inl ⟨by rfl, ?_⟩) (by assumption) ?_
  rotate_left
  · (intro w hSw; (try dsimp only at hSw); go_simp; (try with_reducible rfl))
  (try simp only [Act.put, List.getElem_toArray, List.getElem_cons_zero, List.getElem_cons_succ, List.setIfInBounds_toArray, List.set_cons_zero, List.set_cons_succ])
  refine wpAnyH_take (i := 2) (v := ?_) rfl (by kernel_rfl) (by kernel_rfl) (by kernel_rfl) (fun _ _ _ h => h) (Or.inl ⟨by rfl, ?_⟩) (by assumption) ?_
  rotate_left
  · (intro w hSw; (try dsimp only at hSw); go_simp; (try with_reducible rfl))
  (try simp only [Act.put, List.getElem_toArray, List.getElem_cons_zero, List.getElem_cons_succ, List.setIfInBounds_toArray, List.set_cons_zero, List.set_cons_succ])
  refine wpAnyH_take (i := 3) (v := .int .i64 (P : Nat)) rfl (by kernel_rfl) (by kernel_rfl) (by kernel_rfl) (fun _ _ _ h => h) (Or.inl ⟨by rfl, fun w hSw => by have cc := hSw.1; (try dsimp only at cc); go_simp⟩) (by assumption) ?_
  (try simp only [Act.put, List.getElem_toArray, List.getElem_cons_zero, List.getElem_cons_succ, List.setIfInBounds_toArray, List.set_cons_zero, List.set_cons_succ])
  refine wpAnyH_take (i := 4) (v := ?_) rfl (by kernel_rfl) (by kernel_rfl) (by kernel_rfl) (fun _ _ _ h => h) (Or.inl ⟨by rfl, ?_⟩) (by assumption) ?_
  rotate_left
  · (intro w hSw; (try dsimp only at hSw); go_simp; (try with_reducible rfl))
  (try simp only [Act.put, List.getElem_toArray, List.getElem_cons_zero, List.getElem_cons_succ, List.setIfInBounds_toArray, List.set_cons_zero, List.set_cons_succ])
  refine wpAnyH_take (i := 5) (v := .string s) rfl (by kernel_rfl) (by kernel_rfl) (by kernel_rfl) (fun _ _ _ h => h) (Or.inl ⟨by rfl, fun w hSw => by have cc := hSw.2; (try dsimp only at cc); go_simp⟩) (by assumption) ?_
  (try simp only [Act.put, List.getElem_toArray, List.getElem_cons_zero, List.getElem_cons_succ, List.setIfInBounds_toArray, List.set_cons_zero, List.set_cons_succ])
  refine wpAnyH_take (i := 6) (v := ?_) rfl (by kernel_rfl) (by kernel_rfl) (by kernel_rfl) (fun _ _ _ h => h) (Or.inl ⟨by rfl, ?_⟩) (by assumption) ?_
  rotate_left
  · (intro w hSw; (try dsimp only at hSw); go_simp; (try with_reducible rfl))
  (try simp only [Act.put, List.getElem_toArray, List.getElem_cons_zero, List.getElem_cons_succ, List.setIfInBounds_toArray, List.set_cons_zero, List.set_cons_succ])
  refine wpAnyH_take (i := 7) (v := ?_) rfl (by kernel_rfl) (by kernel_rfl) (by kernel_rfl) (fun _ _ _ h => h) (Or.inl ⟨by rfl, ?_⟩) (by assumption) ?_
  rotate_left
  · (intro w hSw; (try dsimp only at hSw); go_simp; (try with_reducible rfl))
  (try simp only [Act.put, List.getElem_toArray, List.getElem_cons_zero, List.getElem_cons_succ, List.setIfInBounds_toArray, List.set_cons_zero, List.set_cons_succ])
  refine wpAnyH_done (by kernel_rfl) ?_ _
  refine NoPanic.normal ?_
  have HFd := HF5.drew
  have LAd := LA.drew
  have Bd := B5.drew
  have HUd := HU5.drew
  have hszd : D ≤ w5.drew.heap.size := by show D ≤ w5.heap.size; omega
  clear HF5 LA B5 HU5 cP cT cI HT5 HL5
  generalize w5.drew = wz at *
  by_cases hl : P < s.size
  · have d1 : decide ((P : Int) < (s.size : Int)) = true := decide_eq_true (by omega)
    have d2 : decide (P < s.size) = true := decide_eq_true hl
    have hf : Hid (formK 7 s.data.toList = false) := (by show _ = _; rw [formK7]; exact decide_eq_false (by omega))
    go_wp2_with fail
    refine (throw_any HUd 3 0 (by omega) (by omega)).mono ?_
    rintro e wb ⟨rfl, rfl⟩
    go_wp2
    exact pt_bad (by decide) HFd LAd hf.out Bd hDF hszd
  · have d1 : decide ((P : Int) < (s.size : Int)) = false := decide_eq_false (by omega)
    have d2 : decide (P < s.size) = false := decide_eq_false hl
    have hf : Hid (formK 7 s.data.toList = true) := (by show _ = _; rw [formK7]; exact decide_eq_true (by omega))
    have hy : Hid (({ zLd with ca := [⟨(v0 : Nat), (v1 : Nat)⟩] } : Ld) = addLd zLd ⟨7, s⟩) := by
      show _ = _
      rw [addLd7, hv0.out, hv1.out]
      unfold cpOf
      rw [List.drop_zero]
      rfl
    rw [hy.out] at LAd
    go_wp2
    exact pt_ok HFd LAd hf.out Bd hDF hszd

set_option maxHeartbeats 3200000 in
theorem pt_n127 {F T L D : Nat} {s : ByteArray} (w : World) (HF : Blk w F 32 (ftC 0 (-1))) (HT : Blk w T 80 (tlC ⟨127, s⟩)) (HL : Blk w L 29 (ldC zLd zLdA)) (hs : s.size ≤ 100000) (hDF : D ≤ F) (hDL : D ≤ L) :
    Calls Tryz.prog 32 #[.pointer (some ⟨F, 0, none⟩), .pointer (some ⟨T, 0, none⟩), .pointer (some ⟨L, 0, none⟩)] w (PtR F L D 127 s w) := by
  have hls : s.data.toList.length = s.size := by simp
  have hDw : D ≤ w.heap.size := by have := HF.lt; omega
  have cA := HT.cv 0 (.int .i64 127) rfl
  have cB := HT.cv 1 (.string s) rfl
  have HF1 := HF.alloc (.cells #[.string s, .int .i64 (0 : Nat), .int .i64 (0 : Nat)] 117)
  have HT1 := HT.alloc (.cells #[.string s, .int .i64 (0 : Nat), .int .i64 (0 : Nat)] 117)
  have HL1 := HL.alloc (.cells #[.string s, .int .i64 (0 : Nat), .int .i64 (0 : Nat)] 117)
  have HU1 : Cur (w.alloc (.cells #[.string s, .int .i64 (0 : Nat), .int .i64 (0 : Nat)] 117)) w.heap.size s 0 0 := Blk.new w 117 _
  have B1 : Below D w (w.alloc (.cells #[.string s, .int .i64 (0 : Nat), .int .i64 (0 : Nat)] 117)) := (Below.refl D w).alloc hDw _
  have hF := HF.lt
  have hT := HT.lt
  have hL := HL.lt
  have hFL : ¬ F = L := blk_ne HF HL (by decide)
  have hTL : ¬ T = L := blk_ne HT HL (by decide)
  clear HF HT HL
  go_enter_defers Tryz.func32, Tryz.ntmps32
  go_upto_region 2 with (refine build_blk (t := 117) #[.string s, .int .i64 (0 : Nat), .int .i64 (0 : Nat)] (by rfl) rfl (by kernel_rfl) ?_)
  generalize w.alloc (.cells #[.string s, .int .i64 0, .int .i64 0] 117) = w1 at *
  generalize w.heap.size = c at *
  have ck := HT1.cv 0 (.int .i64 127) rfl
  clear cA cB
  have HUlt1 := HU1.lt
  go_wp2_with fail
  by_cases h0 : ¬ (0 + 3 ≤ s.size)
  · refine (cnum_bad HU1 3 h0 (by omega) (by decide) (by omega)).mono ?_
    rintro e wb ⟨rfl, bb⟩
    go_wp2
    exact pt_bad (by decide) (HF1.kept bb) (LdAc.zero (HL1.kept bb)) (by rw [formK127]; exact decide_eq_false (by omega)) (B1.trans (bb.mono (by omega))) hDF (by have := bb.size; omega)
  replace h0 : 0 + 3 ≤ s.size := by omega
  have N0 := cnum_ok HU1 3 (by decide) h0 (by omega)
  obtain ⟨v0, hv0⟩ : ∃ v0, v0 = beN ((s.data.toList.drop (0)).take 3) := ⟨_, rfl⟩
  rw [← hv0] at N0
  replace N0 := Lib.hid N0
  replace hv0 := Lib.hid hv0
  refine N0.out.mono ?_
  clear N0
  rintro e w2 ⟨rfl, HU2, g⟩
  have HF2 := HF1.grown g (by simp; omega)
  have HT2 := HT1.grown g (by simp; omega)
  have HL2 := HL1.grown g (by simp; omega)
  have B2 : Below D w w2 := B1.grown g (Nat.le_trans hDw (Nat.le_of_lt (Nat.lt_of_lt_of_le HUlt1 (Nat.le_refl _)))) (fun k e => by cases e; omega)
  clear HF1 HT1 HL1 B1 g
  have HUlt2 := HU2.lt
  go_wp2_with fail
  by_cases h1 : ¬ (0 + 3 + 1 ≤ s.size)
  · refine (cnum_bad HU2 1 h1 (by omega) (by decide) (by omega)).mono ?_
    rintro e wb ⟨rfl, bb⟩
    go_wp2
    exact pt_bad (by decide) (HF2.kept bb) (LdAc.zero (HL2.kept bb)) (by rw [formK127]; exact decide_eq_false (by omega)) (B2.trans (bb.mono (by omega))) hDF (by have := bb.size; omega)
  replace h1 : 0 + 3 + 1 ≤ s.size := by omega
  have N1 := cnum_ok HU2 1 (by decide) h1 (by omega)
  obtain ⟨v1, hv1⟩ : ∃ v1, v1 = beN ((s.data.toList.drop (0 + 3)).take 1) := ⟨_, rfl⟩
  rw [← hv1] at N1
  replace N1 := Lib.hid N1
  replace hv1 := Lib.hid hv1
  refine N1.out.mono ?_
  clear N1
  rintro e w3 ⟨rfl, HU3, g⟩
  have HF3 := HF2.grown g (by simp; omega)
  have HT3 := HT2.grown g (by simp; omega)
  have HL3 := HL2.grown g (by simp; omega)
  have B3 : Below D w w3 := B2.grown g (Nat.le_trans hDw (Nat.le_of_lt (Nat.lt_of_lt_of_le HUlt2 (Nat.le_refl _)))) (fun k e => by cases e; omega)
  clear HF2 HT2 HL2 B2 g
  have HUlt3 := HU3.lt
  go_wp2_with fail
  have N2 := crest_ok HU3 (by omega) (by omega)
  obtain ⟨v2, hv2⟩ : ∃ v2, v2 = (⟨(s.data.toList.drop (0 + 3 + 1)).toArray⟩ : ByteArray) := ⟨_, rfl⟩
  rw [← hv2] at N2
  replace N2 := Lib.hid N2
  replace hv2 := Lib.hid hv2
  refine N2.out.mono ?_
  clear N2
  rintro e w4 ⟨rfl, HU4, g⟩
  have HF4 := HF3.grown g (by simp; omega)
  have HT4 := HT3.grown g (by simp; omega)
  have HL4 := HL3.grown g (by simp; omega)
  have B4 : Below D w w4 := B3.grown g (Nat.le_trans hDw (Nat.le_of_lt (Nat.lt_of_lt_of_le HUlt3 (Nat.le_refl _)))) (fun k e => by cases e; omega)
  clear HF3 HT3 HL3 B3 g
  go_wp2_with (first
    | (refine build_blk (t := 111) (ogC ⟨(v0 : Nat), (v1 : Nat), v2⟩) (by rfl) rfl (by kernel_rfl) ?_)
    | (refine sliceL_og (⟨(v0 : Nat), (v1 : Nat), v2⟩) rfl rfl rfl (fun w5 HG5 bq5 lt5 => ?_); have hDG : D ≤ w4.heap.size := (by have := HU4.lt; omega); have HF5 := HF4.kept bq5; have HT5 := HT4.kept bq5; have HL5 := HL4.kept bq5; have HU5 := HU4.kept bq5; have hLG : L < w4.heap.size := HL4.lt; have B5 : Below D w w5 := B4.trans (bq5.mono hDG))
    | (refine store_blk (k := 10) 27 (.slice (some ⟨w4.heap.size, 0, none⟩) 1 1) (ldC { zLd with og := [⟨(v0 : Nat), (v1 : Nat), v2⟩] } { zLdA with og := (some ⟨w4.heap.size, 0, none⟩, 1) }) (by rfl) rfl rfl rfl HL5 (by kernel_rfl) (show (10 + 1 : Nat) ≤ 11 by decide) (by rfl) rfl ?_; intro w6 HL6 bq6 gq6; have HF6 := HF5.grown gq6 (by simp; exact hFL); have HT6 := HT5.grown gq6 (by simp; exact hTL); have HU6 : Cur w6 c s _ 0 := Blk.grown HU5 gq6 (by simp; omega); have B6 : Below D w w6 := B5.trans (bq6.mono hDL); have HG6 := HG5.grown gq6 (by simp; omega)))
  have HGd := HG6
  clear HL5 HF5 HT5 HU5 B5 HL4 HF4 HT4 HU4 B4
  have LA : LdAc w6 D L { zLd with og := [⟨(v0 : Nat), (v1 : Nat), v2⟩] } := ⟨{ zLdA with og := (some ⟨w4.heap.size, 0, none⟩, 1) }, HL6, .nil _ _, .nil _ _, .nil _ _, .nil _ _, .nil _ _, .one HGd hDG⟩
  obtain ⟨P, hP⟩ : ∃ P, P = s.size := ⟨_, rfl⟩
  rw [← hP] at HU6
  have cP := HU6.cv 1 (.int .i64 (P : Nat)) rfl
  have cT := HT6.cv 1 (.string s) rfl
  have cI := HU6.lt
  go_upto_region 28 with (fail)
  refine wp_region_noPanic ?_
  refine wp_region_held_drew (S := fun w' => w'.cell? ⟨c, 1, none⟩ = some (.int .i64 (P : Nat)) ∧ w'.cell? ⟨T, 1, none⟩ = some (.string s)) (by kernel_rfl) ?_ (fun hHeld => ?_)
  · exact ⟨cP, cT⟩
  refine wpAnyH_take (i := 0) (v := ?_) rfl (by kernel_rfl) (by kernel_rfl) (by kernel_rfl) (fun _ _ _ h => h) (Or.inl ⟨by rfl, ?_⟩) (by assumption) ?_
  rotate_left
  · (intro w hSw; (try dsimp only at hSw); go_simp; (try with_reducible rfl))
  (try simp only [Act.put, List.getElem_toArray, List.getElem_cons_zero, List.getElem_cons_succ, List.setIfInBounds_toArray, List.set_cons_zero, List.set_cons_succ])
  refine wpAnyH_take (i := 1) (v := ?_) rfl (by kernel_rfl) (by kernel_rfl) (by kernel_rfl) (fun _ _ _ h => h) (Or.inl ⟨by rfl, ?_⟩) (by assumption) ?_
  rotate_left
  · (intro w hSw; (try dsimp only at hSw); go_simp; (try with_reducible rfl))
  (try simp only [Act.put, List.getElem_toArray, List.getElem_cons_zero, List.getElem_cons_succ, List.setIfInBounds_toArray, List.set_cons_zero, List.set_cons_succ])
  refine wpAnyH_take (i := 2) (v := ?_) rfl (by kernel_rfl) (by kernel_rfl) (by kernel_rfl) (fun _ _ _ h => h) (Or.inl ⟨by rfl, ?_⟩) (by assumption) ?_
  rotate_left
  · (intro w hSw; (try dsimp only at hSw); go_simp; (try with_reducible rfl))
  (try simp only [Act.put, List.getElem_toArray, List.getElem_cons_zero, List.getElem_cons_succ, List.setIfInBounds_toArray, List.set_cons_zero, List.set_cons_succ])
  refine wpAnyH_take (i := 3) (v := .int .i64 (P : Nat)) rfl (by kernel_rfl) (by kernel_rfl) (by kernel_rfl) (fun _ _ _ h => h) (Or.inl ⟨by rfl, fun w hSw => by have cc := hSw.1; (try dsimp only at cc); go_simp⟩) (by assumption) ?_
  (try simp only [Act.put, List.getElem_toArray, List.getElem_cons_zero, List.getElem_cons_succ, List.setIfInBounds_toArray, List.set_cons_zero, List.set_cons_succ])
  refine wpAnyH_take (i := 4) (v := ?_) rfl (by kernel_rfl) (by kernel_rfl) (by kernel_rfl) (fun _ _ _ h => h) (Or.inl ⟨by rfl, ?_⟩) (by assumption) ?_
  rotate_left
  · (intro w hSw; (try dsimp only at hSw); go_simp; (try with_reducible rfl))
  (try simp only [Act.put, List.getElem_toArray, List.getElem_cons_zero, List.getElem_cons_succ, List.setIfInBounds_toArray, List.set_cons_zero, List.set_cons_succ])
  refine wpAnyH_take (i := 5) (v := .string s) rfl (by kernel_rfl) (by kernel_rfl) (by kernel_rfl) (fun _ _ _ h => h) (Or.inl ⟨by rfl, fun w hSw => by have cc := hSw.2; (try dsimp only at cc); go_simp⟩) (by assumption) ?_
  (try simp only [Act.put, List.getElem_toArray, List.getElem_cons_zero, List.getElem_cons_succ, List.setIfInBounds_toArray, List.set_cons_zero, List.set_cons_succ])
  refine wpAnyH_take (i := 6) (v := ?_) rfl (by kernel_rfl) (by kernel_rfl) (by kernel_rfl) (fun _ _ _ h => h) (Or.inl ⟨by rfl, ?_⟩) (by assumption) ?_
  rotate_left
  · (intro w hSw; (try dsimp only at hSw); go_simp; (try with_reducible rfl))
  (try simp only [Act.put, List.getElem_toArray, List.getElem_cons_zero, List.getElem_cons_succ, List.setIfInBounds_toArray, List.set_cons_zero, List.set_cons_succ])
  refine wpAnyH_take (i := 7) (v := ?_) rfl (by kernel_rfl) (by kernel_rfl) (by kernel_rfl) (fun _ _ _ h => h) (Or.inl ⟨by rfl, ?_⟩) (by assumption) ?_
  rotate_left
  · (intro w hSw; (try dsimp only at hSw); go_simp; (try with_reducible rfl))
  (try simp only [Act.put, List.getElem_toArray, List.getElem_cons_zero, List.getElem_cons_succ, List.setIfInBounds_toArray, List.set_cons_zero, List.set_cons_succ])
  refine wpAnyH_done (by kernel_rfl) ?_ _
  refine NoPanic.normal ?_
  have HFd := HF6.drew
  have LAd := LA.drew
  have Bd := B6.drew
  have HUd := HU6.drew
  have hszd : D ≤ w6.drew.heap.size := by show D ≤ w6.heap.size; omega
  clear HF6 LA B6 HU6 cP cT cI HT6 HL6
  generalize w6.drew = wz at *
  by_cases hl : P < s.size
  · exact absurd hl (by omega)
  · have d1 : decide ((P : Int) < (s.size : Int)) = false := decide_eq_false (by omega)
    have d2 : decide (P < s.size) = false := decide_eq_false hl
    have hf : Hid (formK 127 s.data.toList = true) := (by show _ = _; rw [formK127]; exact decide_eq_true (by omega))
    have hy : Hid (({ zLd with og := [⟨(v0 : Nat), (v1 : Nat), v2⟩] } : Ld) = addLd zLd ⟨127, s⟩) := by
      show _ = _
      rw [addLd127, hv0.out, hv1.out, hv2.out]
      unfold ogOf
      rw [List.drop_zero]
      rfl
    rw [hy.out] at LAd
    go_wp2
    exact pt_ok HFd LAd hf.out Bd hDF hszd

end Go.Proofs.YtocgnbbnaamjjaaGreatDoor

namespace Go.Proofs.YtocgnbbnaamjjaaGreatDoor
open Go.RowKit
attribute [local go_sem ↓] Go.wp_at_zero Go.wp_at_succ
set_option linter.unusedSimpArgs false
set_option linter.unusedVariables false
set_option maxRecDepth 100000

set_option maxHeartbeats 3200000 in
theorem pt_n8 {F T L D : Nat} {s : ByteArray} (w : World) (HF : Blk w F 32 (ftC 0 (-1))) (HT : Blk w T 80 (tlC ⟨8, s⟩)) (HL : Blk w L 29 (ldC zLd zLdA)) (hs : s.size ≤ 100000) (hDF : D ≤ F) (hDL : D ≤ L) :
    Calls Tryz.prog 32 #[.pointer (some ⟨F, 0, none⟩), .pointer (some ⟨T, 0, none⟩), .pointer (some ⟨L, 0, none⟩)] w (PtR F L D 8 s w) := by
  have hls : s.data.toList.length = s.size := by simp
  have hDw : D ≤ w.heap.size := by have := HF.lt; omega
  have cA := HT.cv 0 (.int .i64 8) rfl
  have cB := HT.cv 1 (.string s) rfl
  have HF1 := HF.alloc (.cells #[.string s, .int .i64 (0 : Nat), .int .i64 (0 : Nat)] 117)
  have HT1 := HT.alloc (.cells #[.string s, .int .i64 (0 : Nat), .int .i64 (0 : Nat)] 117)
  have HL1 := HL.alloc (.cells #[.string s, .int .i64 (0 : Nat), .int .i64 (0 : Nat)] 117)
  have HU1 : Cur (w.alloc (.cells #[.string s, .int .i64 (0 : Nat), .int .i64 (0 : Nat)] 117)) w.heap.size s 0 0 := Blk.new w 117 _
  have B1 : Below D w (w.alloc (.cells #[.string s, .int .i64 (0 : Nat), .int .i64 (0 : Nat)] 117)) := (Below.refl D w).alloc hDw _
  have hF := HF.lt
  have hT := HT.lt
  have hL := HL.lt
  have hFL : ¬ F = L := blk_ne HF HL (by decide)
  have hTL : ¬ T = L := blk_ne HT HL (by decide)
  clear HF HT HL
  go_enter_defers Tryz.func32, Tryz.ntmps32
  go_upto_region 2 with (refine build_blk (t := 117) #[.string s, .int .i64 (0 : Nat), .int .i64 (0 : Nat)] (by rfl) rfl (by kernel_rfl) ?_)
  generalize w.alloc (.cells #[.string s, .int .i64 0, .int .i64 0] 117) = w1 at *
  generalize w.heap.size = c at *
  have ck := HT1.cv 0 (.int .i64 8) rfl
  clear cA cB
  go_upto_region 19 with (refine alloc_blk 89 (mgC zMg) (by rfl) rfl Tryz.mgZero ?_)
  have hcM := HU1.lt
  have hDM : D ≤ w1.heap.size := by omega
  have hpos : 1 ≤ mgM s.data.toList := Nat.le_max_right _ _
  have HF2 := HF1.alloc (.cells (mgC zMg) 89)
  have HT2 := HT1.alloc (.cells (mgC zMg) 89)
  have HL2 := HL1.alloc (.cells (mgC zMg) 89)
  have HU2 : Cur (w1.alloc (.cells (mgC zMg) 89)) c s 0 0 := Blk.alloc HU1 (.cells (mgC zMg) 89)
  have HM2 := Blk.new w1 89 (mgC zMg)
  have B2 : Below D w (w1.alloc (.cells (mgC zMg) 89)) := B1.alloc hDM (.cells (mgC zMg) 89)
  clear HF1 HT1 HL1 HU1 B1 ck
  generalize w1.alloc (.cells (mgC zMg) 89) = w2 at *
  generalize w1.heap.size = M at *
  have hm0 : mgM s.data.toList = max (beN (s.data.toList.take 1)) 1 := rfl
  have HUlt2 := HU2.lt
  go_wp2_with fail
  by_cases h0 : ¬ (0 + 1 ≤ s.size)
  · refine (cnum_bad HU2 1 h0 (by omega) (by decide) (by omega)).mono ?_
    rintro e wb ⟨rfl, bb⟩
    go_wp2
    exact pt_bad (by decide) (HF2.kept bb) (LdAc.zero (HL2.kept bb)) (by rw [formK8]; exact decide_eq_false (by omega)) (B2.trans (bb.mono (by omega))) hDF (by have := bb.size; omega)
  replace h0 : 0 + 1 ≤ s.size := by omega
  have N0 := cnum_ok HU2 1 (by decide) h0 (by omega)
  obtain ⟨v0, hv0⟩ : ∃ v0, v0 = beN ((s.data.toList.drop (0)).take 1) := ⟨_, rfl⟩
  rw [← hv0] at N0
  replace N0 := Lib.hid N0
  replace hv0 := Lib.hid hv0
  refine N0.out.mono ?_
  clear N0
  rintro e w3 ⟨rfl, HU3, g⟩
  have HF3 := HF2.grown g (by simp; omega)
  have HT3 := HT2.grown g (by simp; omega)
  have HL3 := HL2.grown g (by simp; omega)
  have B3 : Below D w w3 := B2.grown g (Nat.le_trans hDw (Nat.le_of_lt (Nat.lt_of_lt_of_le HUlt2 (Nat.le_refl _)))) (fun k e => by cases e; omega)
  have HM3 := HM2.grown g (by simp; omega)
  clear HM2
  clear HF2 HT2 HL2 B2 g
  have hb0 := beN_lt ((s.data.toList.drop 0).take 1)
  have hq0 : ((s.data.toList.drop 0).take 1).length ≤ 1 := by rw [List.length_take]; omega
  rw [← hv0.out] at hb0
  rw [List.drop_zero] at hv0
  rw [← hv0.out] at hm0
  have HUlt3 := HU3.lt
  go_wp2_with fail
  by_cases h1 : ¬ (0 + 1 + 1 ≤ s.size)
  · refine (cnum_bad HU3 1 h1 (by omega) (by decide) (by omega)).mono ?_
    rintro e wb ⟨rfl, bb⟩
    go_wp2
    exact pt_bad (by decide) (HF3.kept bb) (LdAc.zero (HL3.kept bb)) (by rw [formK8]; exact decide_eq_false (by omega)) (B3.trans (bb.mono (by omega))) hDF (by have := bb.size; omega)
  replace h1 : 0 + 1 + 1 ≤ s.size := by omega
  have N1 := cnum_ok HU3 1 (by decide) h1 (by omega)
  obtain ⟨v1, hv1⟩ : ∃ v1, v1 = beN ((s.data.toList.drop (0 + 1)).take 1) := ⟨_, rfl⟩
  rw [← hv1] at N1
  replace N1 := Lib.hid N1
  replace hv1 := Lib.hid hv1
  refine N1.out.mono ?_
  clear N1
  rintro e w4 ⟨rfl, HU4, g⟩
  have HF4 := HF3.grown g (by simp; omega)
  have HT4 := HT3.grown g (by simp; omega)
  have HL4 := HL3.grown g (by simp; omega)
  have B4 : Below D w w4 := B3.grown g (Nat.le_trans hDw (Nat.le_of_lt (Nat.lt_of_lt_of_le HUlt3 (Nat.le_refl _)))) (fun k e => by cases e; omega)
  have HM4 := HM3.grown g (by simp; omega)
  clear HM3
  clear HF3 HT3 HL3 B3 g
  by_cases hz : v0 = 0
  · subst hz
    have hm : mgM s.data.toList = 1 := by rw [hm0]; rfl
    clear hm0
    go_wp2_with (first
      | (refine store_blk (k := 0) 3 (.int .i64 (v1 : Nat)) (mgC ⟨(v1 : Nat), ⟨#[]⟩, 0, 0, ⟨#[]⟩⟩) (by rfl) rfl rfl rfl HM4 (by kernel_rfl) (show (0 + 1 : Nat) ≤ 5 by decide) (by rfl) rfl ?_; intro w5 HM5 bq5 gq5; have HF5 := HF4.grown gq5 (by simp; omega); have HT5 := HT4.grown gq5 (by simp; omega); have HL5 := HL4.grown gq5 (by simp; omega); have HU5 : Cur w5 c s _ 0 := Blk.grown HU4 gq5 (by simp; omega); have B5 : Below D w w5 := B4.trans (bq5.mono hDM); clear HF4 HT4 HL4 HU4 HM4 B4 bq5 gq5))
    have HUlt5 := HU5.lt
    by_cases h2 : ¬ (0 + 1 + 1 + 1 ≤ s.size)
    · refine (cnum_bad HU5 1 h2 (by omega) (by decide) (by omega)).mono ?_
      rintro e wb ⟨rfl, bb⟩
      go_wp2
      exact pt_bad (by decide) (HF5.kept bb) (LdAc.zero (HL5.kept bb)) (by rw [formK8]; exact decide_eq_false (by omega)) (B5.trans (bb.mono (by omega))) hDF (by have := bb.size; omega)
    replace h2 : 0 + 1 + 1 + 1 ≤ s.size := by omega
    have N2 := cnum_ok HU5 1 (by decide) h2 (by omega)
    obtain ⟨v2, hv2⟩ : ∃ v2, v2 = beN ((s.data.toList.drop (0 + 1 + 1)).take 1) := ⟨_, rfl⟩
    rw [← hv2] at N2
    replace N2 := Lib.hid N2
    replace hv2 := Lib.hid hv2
    refine N2.out.mono ?_
    clear N2
    rintro e w6 ⟨rfl, HU6, g⟩
    have HF6 := HF5.grown g (by simp; omega)
    have HT6 := HT5.grown g (by simp; omega)
    have HL6 := HL5.grown g (by simp; omega)
    have B6 : Below D w w6 := B5.grown g (Nat.le_trans hDw (Nat.le_of_lt (Nat.lt_of_lt_of_le HUlt5 (Nat.le_refl _)))) (fun k e => by cases e; omega)
    have HM6 := HM5.grown g (by simp; omega)
    clear HM5
    clear HF5 HT5 HL5 B5 g
    have HUlt6 := HU6.lt
    go_wp2_with fail
    by_cases h3 : ¬ (0 + 1 + 1 + 1 + 4 ≤ s.size)
    · refine (cnum_bad HU6 4 h3 (by omega) (by decide) (by omega)).mono ?_
      rintro e wb ⟨rfl, bb⟩
      go_wp2
      exact pt_bad (by decide) (HF6.kept bb) (LdAc.zero (HL6.kept bb)) (by rw [formK8]; exact decide_eq_false (by omega)) (B6.trans (bb.mono (by omega))) hDF (by have := bb.size; omega)
    replace h3 : 0 + 1 + 1 + 1 + 4 ≤ s.size := by omega
    have N3 := cnum_ok HU6 4 (by decide) h3 (by omega)
    obtain ⟨v3, hv3⟩ : ∃ v3, v3 = beN ((s.data.toList.drop (0 + 1 + 1 + 1)).take 4) := ⟨_, rfl⟩
    rw [← hv3] at N3
    replace N3 := Lib.hid N3
    replace hv3 := Lib.hid hv3
    refine N3.out.mono ?_
    clear N3
    rintro e w7 ⟨rfl, HU7, g⟩
    have HF7 := HF6.grown g (by simp; omega)
    have HT7 := HT6.grown g (by simp; omega)
    have HL7 := HL6.grown g (by simp; omega)
    have B7 : Below D w w7 := B6.grown g (Nat.le_trans hDw (Nat.le_of_lt (Nat.lt_of_lt_of_le HUlt6 (Nat.le_refl _)))) (fun k e => by cases e; omega)
    have HM7 := HM6.grown g (by simp; omega)
    clear HM6
    clear HF6 HT6 HL6 B6 g
    go_wp2_with (first
      | (refine store_blk (k := 2) 3 (.int .i64 (v2 : Nat)) (mgC ⟨(v1 : Nat), ⟨#[]⟩, (v2 : Nat), 0, ⟨#[]⟩⟩) (by rfl) rfl rfl rfl HM7 (by kernel_rfl) (show (2 + 1 : Nat) ≤ 5 by decide) (by rfl) rfl ?_; intro w8 HM8 bq8 gq8; have HF8 := HF7.grown gq8 (by simp; omega); have HT8 := HT7.grown gq8 (by simp; omega); have HL8 := HL7.grown gq8 (by simp; omega); have HU8 : Cur w8 c s _ 0 := Blk.grown HU7 gq8 (by simp; omega); have B8 : Below D w w8 := B7.trans (bq8.mono hDM); clear HF7 HT7 HL7 HU7 HM7 B7 bq8 gq8)
      | (refine store_blk (k := 3) 3 (.int .i64 (v3 : Nat)) (mgC ⟨(v1 : Nat), ⟨#[]⟩, (v2 : Nat), (v3 : Nat), ⟨#[]⟩⟩) (by rfl) rfl rfl rfl HM8 (by kernel_rfl) (show (3 + 1 : Nat) ≤ 5 by decide) (by rfl) rfl ?_; intro w9 HM9 bq9 gq9; have HF9 := HF8.grown gq9 (by simp; omega); have HT9 := HT8.grown gq9 (by simp; omega); have HL9 := HL8.grown gq9 (by simp; omega); have HU9 : Cur w9 c s _ 0 := Blk.grown HU8 gq9 (by simp; omega); have B9 : Below D w w9 := B8.trans (bq9.mono hDM); clear HF8 HT8 HL8 HU8 HM8 B8 bq9 gq9))
    have HUlt9 := HU9.lt
    by_cases h4 : ¬ (0 + 1 + 1 + 1 + 4 + 1 ≤ s.size)
    · refine (cnum_bad HU9 1 h4 (by omega) (by decide) (by omega)).mono ?_
      rintro e wb ⟨rfl, bb⟩
      go_wp2
      exact pt_bad (by decide) (HF9.kept bb) (LdAc.zero (HL9.kept bb)) (by rw [formK8]; exact decide_eq_false (by omega)) (B9.trans (bb.mono (by omega))) hDF (by have := bb.size; omega)
    replace h4 : 0 + 1 + 1 + 1 + 4 + 1 ≤ s.size := by omega
    have N4 := cnum_ok HU9 1 (by decide) h4 (by omega)
    obtain ⟨v4, hv4⟩ : ∃ v4, v4 = beN ((s.data.toList.drop (0 + 1 + 1 + 1 + 4)).take 1) := ⟨_, rfl⟩
    rw [← hv4] at N4
    replace N4 := Lib.hid N4
    replace hv4 := Lib.hid hv4
    refine N4.out.mono ?_
    clear N4
    rintro e w10 ⟨rfl, HU10, g⟩
    have HF10 := HF9.grown g (by simp; omega)
    have HT10 := HT9.grown g (by simp; omega)
    have HL10 := HL9.grown g (by simp; omega)
    have B10 : Below D w w10 := B9.grown g (Nat.le_trans hDw (Nat.le_of_lt (Nat.lt_of_lt_of_le HUlt9 (Nat.le_refl _)))) (fun k e => by cases e; omega)
    have HM10 := HM9.grown g (by simp; omega)
    clear HM9
    clear HF9 HT9 HL9 B9 g
    have hO : mgO s.data.toList = v4 := by
      rw [hv4.out]
      show beN ((s.data.toList.drop (mgM s.data.toList + 6)).take 1) = _
      rw [hm, show 1 + 6 = 0 + 1 + 1 + 1 + 4 by omega]
    have hbO : v4 ≤ 300 := by
      have q := beN_lt ((s.data.toList.drop (0 + 1 + 1 + 1 + 4)).take 1)
      rw [← hv4.out] at q
      have q2 : ((s.data.toList.drop (0 + 1 + 1 + 1 + 4)).take 1).length ≤ 1 := by rw [List.length_take]; omega
      have := Nat.pow_le_pow_right (n := 256) (by decide) q2
      omega
    have HUlt10 := HU10.lt
    go_wp2_with fail
    by_cases h5 : ¬ (0 + 1 + 1 + 1 + 4 + 1 + v4 ≤ s.size)
    · refine (eat_bad HU10 v4 h5 (by omega) (by omega) (by omega)).mono ?_
      rintro e wb ⟨rfl, bb⟩
      go_wp2
      exact pt_bad (by decide) (HF10.kept bb) (LdAc.zero (HL10.kept bb)) (by rw [formK8]; exact decide_eq_false (by omega)) (B10.trans (bb.mono (by omega))) hDF (by have := bb.size; omega)
    replace h5 : 0 + 1 + 1 + 1 + 4 + 1 + v4 ≤ s.size := by omega
    have N5 := eat_ok HU10 v4 h5 (by omega)
    obtain ⟨v5, hv5⟩ : ∃ v5, v5 = (⟨((s.data.toList.drop (0 + 1 + 1 + 1 + 4 + 1)).take v4).toArray⟩ : ByteArray) := ⟨_, rfl⟩
    rw [← hv5] at N5
    replace N5 := Lib.hid N5
    replace hv5 := Lib.hid hv5
    refine N5.out.mono ?_
    clear N5
    rintro e w11 ⟨rfl, HU11, g⟩
    have HF11 := HF10.grown g (by simp; omega)
    have HT11 := HT10.grown g (by simp; omega)
    have HL11 := HL10.grown g (by simp; omega)
    have B11 : Below D w w11 := B10.grown g (Nat.le_trans hDw (Nat.le_of_lt (Nat.lt_of_lt_of_le HUlt10 (Nat.le_refl _)))) (fun k e => by cases e; omega)
    have HM11 := HM10.grown g (by simp; omega)
    clear HM10
    clear HF10 HT10 HL10 B10 g
    go_wp2_with (first
      | (refine store_blk (k := 4) 9 (.string v5) (mgC ⟨(v1 : Nat), ⟨#[]⟩, (v2 : Nat), (v3 : Nat), v5⟩) (by rfl) rfl rfl rfl HM11 (by kernel_rfl) (show (4 + 1 : Nat) ≤ 5 by decide) (by rfl) rfl ?_; intro w12 HM12 bq12 gq12; have HF12 := HF11.grown gq12 (by simp; omega); have HT12 := HT11.grown gq12 (by simp; omega); have HL12 := HL11.grown gq12 (by simp; omega); have HU12 : Cur w12 c s _ 0 := Blk.grown HU11 gq12 (by simp; omega); have B12 : Below D w w12 := B11.trans (bq12.mono hDM); clear HF11 HT11 HL11 HU11 HM11 B11 bq12 gq12)
      | (refine load_blk (k := 0) 89 (mgC ⟨(v1 : Nat), ⟨#[]⟩, (v2 : Nat), (v3 : Nat), v5⟩) (by rfl) rfl rfl HM12 (by kernel_rfl) (by kernel_rfl) rfl ?_)
      | (refine sliceL_mg (⟨(v1 : Nat), ⟨#[]⟩, (v2 : Nat), (v3 : Nat), v5⟩) rfl rfl rfl (fun w13 HG13 bq13 lt13 => ?_); have hDG : D ≤ w12.heap.size := (by have := HU12.lt; omega); have HF13 := HF12.kept bq13; have HT13 := HT12.kept bq13; have HL13 := HL12.kept bq13; have HU13 := HU12.kept bq13; have hLG : L < w12.heap.size := HL12.lt; have B13 : Below D w w13 := B12.trans (bq13.mono hDG))
      | (refine store_blk (k := 9) 26 (.slice (some ⟨w12.heap.size, 0, none⟩) 1 1) (ldC { zLd with ma := [⟨(v1 : Nat), ⟨#[]⟩, (v2 : Nat), (v3 : Nat), v5⟩] } { zLdA with ma := (some ⟨w12.heap.size, 0, none⟩, 1) }) (by rfl) rfl rfl rfl HL13 (by kernel_rfl) (show (9 + 1 : Nat) ≤ 11 by decide) (by rfl) rfl ?_; intro w14 HL14 bq14 gq14; have HF14 := HF13.grown gq14 (by simp; exact hFL); have HT14 := HT13.grown gq14 (by simp; exact hTL); have HU14 : Cur w14 c s _ 0 := Blk.grown HU13 gq14 (by simp; omega); have B14 : Below D w w14 := B13.trans (bq14.mono hDL); have HG14 := HG13.grown gq14 (by simp; omega)))
    have x1 : v1 = beN ((s.data.toList.drop 1).take 1) := hv1.out
    have x2 : (⟨((s.data.toList.drop 2).take (1 - 1)).toArray⟩ : ByteArray) = ⟨#[]⟩ := rfl
    have x3 : v2 = beN ((s.data.toList.drop (1 + 1)).take 1) := by
      rw [hv2.out]
      all_goals (congr 3 <;> omega)
    have x4 : v3 = beN ((s.data.toList.drop (1 + 2)).take 4) := by
      rw [hv3.out]
      all_goals (congr 3 <;> omega)
    have x5 : (⟨((s.data.toList.drop (1 + 7)).take v4).toArray⟩ : ByteArray) = v5 := by
      rw [hv5.out]
      all_goals (congr 4 <;> omega)
    have hY : Hid (mgOf s.data.toList = ⟨(v1 : Nat), ⟨#[]⟩, (v2 : Nat), (v3 : Nat), v5⟩) := by
      show _ = _
      unfold mgOf
      rw [hO, hm, ← x1, x2, ← x3, ← x4, x5]
    clear x1 x2 x3 x4 x5
    have HGd := HG14
    clear HL13 HF13 HT13 HU13 B13 HL12 HF12 HT12 HU12 B12
    have LA : LdAc w14 D L { zLd with ma := [⟨(v1 : Nat), ⟨#[]⟩, (v2 : Nat), (v3 : Nat), v5⟩] } := ⟨{ zLdA with ma := (some ⟨w12.heap.size, 0, none⟩, 1) }, HL14, .nil _ _, .nil _ _, .nil _ _, .nil _ _, .one HGd hDG, .nil _ _⟩
    obtain ⟨P, hP⟩ : ∃ P, P = 0 + 1 + 1 + 1 + 4 + 1 + v4 := ⟨_, rfl⟩
    rw [← hP] at HU14
    have cP := HU14.cv 1 (.int .i64 (P : Nat)) rfl
    have cT := HT14.cv 1 (.string s) rfl
    have cI := HU14.lt
    go_upto_region 28 with (fail)
    refine wp_region_noPanic ?_
    refine wp_region_held_drew (S := fun w' => w'.cell? ⟨c, 1, none⟩ = some (.int .i64 (P : Nat)) ∧ w'.cell? ⟨T, 1, none⟩ = some (.string s)) (by kernel_rfl) ?_ (fun hHeld => ?_)
    · exact ⟨cP, cT⟩
    refine wpAnyH_take (i := 0) (v := ?_) rfl (by kernel_rfl) (by kernel_rfl) (by kernel_rfl) (fun _ _ _ h => h) (Or.inl ⟨by rfl, ?_⟩) (by assumption) ?_
    rotate_left
    · (intro w hSw; (try dsimp only at hSw); go_simp; (try with_reducible rfl))
    (try simp only [Act.put, List.getElem_toArray, List.getElem_cons_zero, List.getElem_cons_succ, List.setIfInBounds_toArray, List.set_cons_zero, List.set_cons_succ])
    refine wpAnyH_take (i := 1) (v := ?_) rfl (by kernel_rfl) (by kernel_rfl) (by kernel_rfl) (fun _ _ _ h => h) (Or.inl ⟨by rfl, ?_⟩) (by assumption) ?_
    rotate_left
    · (intro w hSw; (try dsimp only at hSw); go_simp; (try with_reducible rfl))
    (try simp only [Act.put, List.getElem_toArray, List.getElem_cons_zero, List.getElem_cons_succ, List.setIfInBounds_toArray, List.set_cons_zero, List.set_cons_succ])
    refine wpAnyH_take (i := 2) (v := ?_) rfl (by kernel_rfl) (by kernel_rfl) (by kernel_rfl) (fun _ _ _ h => h) (Or.inl ⟨by rfl, ?_⟩) (by assumption) ?_
    rotate_left
    · (intro w hSw; (try dsimp only at hSw); go_simp; (try with_reducible rfl))
    (try simp only [Act.put, List.getElem_toArray, List.getElem_cons_zero, List.getElem_cons_succ, List.setIfInBounds_toArray, List.set_cons_zero, List.set_cons_succ])
    refine wpAnyH_take (i := 3) (v := .int .i64 (P : Nat)) rfl (by kernel_rfl) (by kernel_rfl) (by kernel_rfl) (fun _ _ _ h => h) (Or.inl ⟨by rfl, fun w hSw => by have cc := hSw.1; (try dsimp only at cc); go_simp⟩) (by assumption) ?_
    (try simp only [Act.put, List.getElem_toArray, List.getElem_cons_zero, List.getElem_cons_succ, List.setIfInBounds_toArray, List.set_cons_zero, List.set_cons_succ])
    refine wpAnyH_take (i := 4) (v := ?_) rfl (by kernel_rfl) (by kernel_rfl) (by kernel_rfl) (fun _ _ _ h => h) (Or.inl ⟨by rfl, ?_⟩) (by assumption) ?_
    rotate_left
    · (intro w hSw; (try dsimp only at hSw); go_simp; (try with_reducible rfl))
    (try simp only [Act.put, List.getElem_toArray, List.getElem_cons_zero, List.getElem_cons_succ, List.setIfInBounds_toArray, List.set_cons_zero, List.set_cons_succ])
    refine wpAnyH_take (i := 5) (v := .string s) rfl (by kernel_rfl) (by kernel_rfl) (by kernel_rfl) (fun _ _ _ h => h) (Or.inl ⟨by rfl, fun w hSw => by have cc := hSw.2; (try dsimp only at cc); go_simp⟩) (by assumption) ?_
    (try simp only [Act.put, List.getElem_toArray, List.getElem_cons_zero, List.getElem_cons_succ, List.setIfInBounds_toArray, List.set_cons_zero, List.set_cons_succ])
    refine wpAnyH_take (i := 6) (v := ?_) rfl (by kernel_rfl) (by kernel_rfl) (by kernel_rfl) (fun _ _ _ h => h) (Or.inl ⟨by rfl, ?_⟩) (by assumption) ?_
    rotate_left
    · (intro w hSw; (try dsimp only at hSw); go_simp; (try with_reducible rfl))
    (try simp only [Act.put, List.getElem_toArray, List.getElem_cons_zero, List.getElem_cons_succ, List.setIfInBounds_toArray, List.set_cons_zero, List.set_cons_succ])
    refine wpAnyH_take (i := 7) (v := ?_) rfl (by kernel_rfl) (by kernel_rfl) (by kernel_rfl) (fun _ _ _ h => h) (Or.inl ⟨by rfl, ?_⟩) (by assumption) ?_
    rotate_left
    · (intro w hSw; (try dsimp only at hSw); go_simp; (try with_reducible rfl))
    (try simp only [Act.put, List.getElem_toArray, List.getElem_cons_zero, List.getElem_cons_succ, List.setIfInBounds_toArray, List.set_cons_zero, List.set_cons_succ])
    refine wpAnyH_done (by kernel_rfl) ?_ _
    refine NoPanic.normal ?_
    have HFd := HF14.drew
    have LAd := LA.drew
    have Bd := B14.drew
    have HUd := HU14.drew
    have hszd : D ≤ w14.drew.heap.size := by show D ≤ w14.heap.size; omega
    clear HF14 LA B14 HU14 cP cT cI HT14 HL14
    generalize w14.drew = wz at *
    by_cases hl : P < s.size
    · have d1 : decide ((P : Int) < (s.size : Int)) = true := decide_eq_true (by omega)
      have d2 : decide (P < s.size) = true := decide_eq_true hl
      have hf : Hid (formK 8 s.data.toList = false) := (by show _ = _; rw [formK8]; exact decide_eq_false (by omega))
      go_wp2_with fail
      refine (throw_any HUd 3 0 (by omega) (by omega)).mono ?_
      rintro e wb ⟨rfl, rfl⟩
      go_wp2
      exact pt_bad (by decide) HFd LAd hf.out Bd hDF hszd
    · have d1 : decide ((P : Int) < (s.size : Int)) = false := decide_eq_false (by omega)
      have d2 : decide (P < s.size) = false := decide_eq_false hl
      have hf : Hid (formK 8 s.data.toList = true) := (by show _ = _; rw [formK8]; exact decide_eq_true (by omega))
      have hy : Hid (({ zLd with ma := [⟨(v1 : Nat), ⟨#[]⟩, (v2 : Nat), (v3 : Nat), v5⟩] } : Ld) = addLd zLd ⟨8, s⟩) := by
        show _ = _
        rw [addLd8, hY.out]
        rfl
      rw [hy.out] at LAd
      go_wp2
      exact pt_ok HFd LAd hf.out Bd hDF hszd
  · obtain ⟨m, rfl⟩ : ∃ m, v0 = m + 1 := ⟨v0 - 1, by omega⟩
    have hm : mgM s.data.toList = m + 1 := by rw [hm0]; omega
    clear hm0
    have hm2 : m ≤ 300 := by
      have := Nat.pow_le_pow_right (n := 256) (by decide) hq0
      omega
    have z1 : ((m + 1 : Nat) : Int) - 1 = (m : Int) := by omega
    have z2 : (m : Int) + 1 - 1 = (m : Int) := by omega
    have z3 : IntKind.i64.wrap (m : Int) = (m : Int) := by rw [IntKind.wrap_i64] <;> omega
    have z4 : decide ((0 : Int) < ((m + 1 : Nat) : Int)) = true := decide_eq_true (by omega)
    have z5 : decide ((0 : Int) < (m : Int) + 1) = true := decide_eq_true (by omega)
    have z6 : decide (0 < m + 1) = true := decide_eq_true (by omega)
    go_wp2_with (first
      | (refine store_blk (k := 0) 3 (.int .i64 (v1 : Nat)) (mgC ⟨(v1 : Nat), ⟨#[]⟩, 0, 0, ⟨#[]⟩⟩) (by rfl) rfl rfl rfl HM4 (by kernel_rfl) (show (0 + 1 : Nat) ≤ 5 by decide) (by rfl) rfl ?_; intro w5 HM5 bq5 gq5; have HF5 := HF4.grown gq5 (by simp; omega); have HT5 := HT4.grown gq5 (by simp; omega); have HL5 := HL4.grown gq5 (by simp; omega); have HU5 : Cur w5 c s _ 0 := Blk.grown HU4 gq5 (by simp; omega); have B5 : Below D w w5 := B4.trans (bq5.mono hDM); clear HF4 HT4 HL4 HU4 HM4 B4 bq5 gq5))
    have HUlt5 := HU5.lt
    by_cases h2 : ¬ (0 + 1 + 1 + m ≤ s.size)
    · refine (eat_bad HU5 m h2 (by omega) (by omega) (by omega)).mono ?_
      rintro e wb ⟨rfl, bb⟩
      go_wp2
      exact pt_bad (by decide) (HF5.kept bb) (LdAc.zero (HL5.kept bb)) (by rw [formK8]; exact decide_eq_false (by omega)) (B5.trans (bb.mono (by omega))) hDF (by have := bb.size; omega)
    replace h2 : 0 + 1 + 1 + m ≤ s.size := by omega
    have N2 := eat_ok HU5 m h2 (by omega)
    obtain ⟨v2, hv2⟩ : ∃ v2, v2 = (⟨((s.data.toList.drop (0 + 1 + 1)).take m).toArray⟩ : ByteArray) := ⟨_, rfl⟩
    rw [← hv2] at N2
    replace N2 := Lib.hid N2
    replace hv2 := Lib.hid hv2
    refine N2.out.mono ?_
    clear N2
    rintro e w6 ⟨rfl, HU6, g⟩
    have HF6 := HF5.grown g (by simp; omega)
    have HT6 := HT5.grown g (by simp; omega)
    have HL6 := HL5.grown g (by simp; omega)
    have B6 : Below D w w6 := B5.grown g (Nat.le_trans hDw (Nat.le_of_lt (Nat.lt_of_lt_of_le HUlt5 (Nat.le_refl _)))) (fun k e => by cases e; omega)
    have HM6 := HM5.grown g (by simp; omega)
    clear HM5
    clear HF5 HT5 HL5 B5 g
    go_wp2_with (first
      | (refine store_blk (k := 1) 9 (.string v2) (mgC ⟨(v1 : Nat), v2, 0, 0, ⟨#[]⟩⟩) (by rfl) rfl rfl rfl HM6 (by kernel_rfl) (show (1 + 1 : Nat) ≤ 5 by decide) (by rfl) rfl ?_; intro w7 HM7 bq7 gq7; have HF7 := HF6.grown gq7 (by simp; omega); have HT7 := HT6.grown gq7 (by simp; omega); have HL7 := HL6.grown gq7 (by simp; omega); have HU7 : Cur w7 c s _ 0 := Blk.grown HU6 gq7 (by simp; omega); have B7 : Below D w w7 := B6.trans (bq7.mono hDM); clear HF6 HT6 HL6 HU6 HM6 B6 bq7 gq7))
    have HUlt7 := HU7.lt
    by_cases h3 : ¬ (0 + 1 + 1 + m + 1 ≤ s.size)
    · refine (cnum_bad HU7 1 h3 (by omega) (by decide) (by omega)).mono ?_
      rintro e wb ⟨rfl, bb⟩
      go_wp2
      exact pt_bad (by decide) (HF7.kept bb) (LdAc.zero (HL7.kept bb)) (by rw [formK8]; exact decide_eq_false (by omega)) (B7.trans (bb.mono (by omega))) hDF (by have := bb.size; omega)
    replace h3 : 0 + 1 + 1 + m + 1 ≤ s.size := by omega
    have N3 := cnum_ok HU7 1 (by decide) h3 (by omega)
    obtain ⟨v3, hv3⟩ : ∃ v3, v3 = beN ((s.data.toList.drop (0 + 1 + 1 + m)).take 1) := ⟨_, rfl⟩
    rw [← hv3] at N3
    replace N3 := Lib.hid N3
    replace hv3 := Lib.hid hv3
    refine N3.out.mono ?_
    clear N3
    rintro e w8 ⟨rfl, HU8, g⟩
    have HF8 := HF7.grown g (by simp; omega)
    have HT8 := HT7.grown g (by simp; omega)
    have HL8 := HL7.grown g (by simp; omega)
    have B8 : Below D w w8 := B7.grown g (Nat.le_trans hDw (Nat.le_of_lt (Nat.lt_of_lt_of_le HUlt7 (Nat.le_refl _)))) (fun k e => by cases e; omega)
    have HM8 := HM7.grown g (by simp; omega)
    clear HM7
    clear HF7 HT7 HL7 B7 g
    have HUlt8 := HU8.lt
    go_wp2_with fail
    by_cases h4 : ¬ (0 + 1 + 1 + m + 1 + 4 ≤ s.size)
    · refine (cnum_bad HU8 4 h4 (by omega) (by decide) (by omega)).mono ?_
      rintro e wb ⟨rfl, bb⟩
      go_wp2
      exact pt_bad (by decide) (HF8.kept bb) (LdAc.zero (HL8.kept bb)) (by rw [formK8]; exact decide_eq_false (by omega)) (B8.trans (bb.mono (by omega))) hDF (by have := bb.size; omega)
    replace h4 : 0 + 1 + 1 + m + 1 + 4 ≤ s.size := by omega
    have N4 := cnum_ok HU8 4 (by decide) h4 (by omega)
    obtain ⟨v4, hv4⟩ : ∃ v4, v4 = beN ((s.data.toList.drop (0 + 1 + 1 + m + 1)).take 4) := ⟨_, rfl⟩
    rw [← hv4] at N4
    replace N4 := Lib.hid N4
    replace hv4 := Lib.hid hv4
    refine N4.out.mono ?_
    clear N4
    rintro e w9 ⟨rfl, HU9, g⟩
    have HF9 := HF8.grown g (by simp; omega)
    have HT9 := HT8.grown g (by simp; omega)
    have HL9 := HL8.grown g (by simp; omega)
    have B9 : Below D w w9 := B8.grown g (Nat.le_trans hDw (Nat.le_of_lt (Nat.lt_of_lt_of_le HUlt8 (Nat.le_refl _)))) (fun k e => by cases e; omega)
    have HM9 := HM8.grown g (by simp; omega)
    clear HM8
    clear HF8 HT8 HL8 B8 g
    go_wp2_with (first
      | (refine store_blk (k := 2) 3 (.int .i64 (v3 : Nat)) (mgC ⟨(v1 : Nat), v2, (v3 : Nat), 0, ⟨#[]⟩⟩) (by rfl) rfl rfl rfl HM9 (by kernel_rfl) (show (2 + 1 : Nat) ≤ 5 by decide) (by rfl) rfl ?_; intro w10 HM10 bq10 gq10; have HF10 := HF9.grown gq10 (by simp; omega); have HT10 := HT9.grown gq10 (by simp; omega); have HL10 := HL9.grown gq10 (by simp; omega); have HU10 : Cur w10 c s _ 0 := Blk.grown HU9 gq10 (by simp; omega); have B10 : Below D w w10 := B9.trans (bq10.mono hDM); clear HF9 HT9 HL9 HU9 HM9 B9 bq10 gq10)
      | (refine store_blk (k := 3) 3 (.int .i64 (v4 : Nat)) (mgC ⟨(v1 : Nat), v2, (v3 : Nat), (v4 : Nat), ⟨#[]⟩⟩) (by rfl) rfl rfl rfl HM10 (by kernel_rfl) (show (3 + 1 : Nat) ≤ 5 by decide) (by rfl) rfl ?_; intro w11 HM11 bq11 gq11; have HF11 := HF10.grown gq11 (by simp; omega); have HT11 := HT10.grown gq11 (by simp; omega); have HL11 := HL10.grown gq11 (by simp; omega); have HU11 : Cur w11 c s _ 0 := Blk.grown HU10 gq11 (by simp; omega); have B11 : Below D w w11 := B10.trans (bq11.mono hDM); clear HF10 HT10 HL10 HU10 HM10 B10 bq11 gq11))
    have HUlt11 := HU11.lt
    by_cases h5 : ¬ (0 + 1 + 1 + m + 1 + 4 + 1 ≤ s.size)
    · refine (cnum_bad HU11 1 h5 (by omega) (by decide) (by omega)).mono ?_
      rintro e wb ⟨rfl, bb⟩
      go_wp2
      exact pt_bad (by decide) (HF11.kept bb) (LdAc.zero (HL11.kept bb)) (by rw [formK8]; exact decide_eq_false (by omega)) (B11.trans (bb.mono (by omega))) hDF (by have := bb.size; omega)
    replace h5 : 0 + 1 + 1 + m + 1 + 4 + 1 ≤ s.size := by omega
    have N5 := cnum_ok HU11 1 (by decide) h5 (by omega)
    obtain ⟨v5, hv5⟩ : ∃ v5, v5 = beN ((s.data.toList.drop (0 + 1 + 1 + m + 1 + 4)).take 1) := ⟨_, rfl⟩
    rw [← hv5] at N5
    replace N5 := Lib.hid N5
    replace hv5 := Lib.hid hv5
    refine N5.out.mono ?_
    clear N5
    rintro e w12 ⟨rfl, HU12, g⟩
    have HF12 := HF11.grown g (by simp; omega)
    have HT12 := HT11.grown g (by simp; omega)
    have HL12 := HL11.grown g (by simp; omega)
    have B12 : Below D w w12 := B11.grown g (Nat.le_trans hDw (Nat.le_of_lt (Nat.lt_of_lt_of_le HUlt11 (Nat.le_refl _)))) (fun k e => by cases e; omega)
    have HM12 := HM11.grown g (by simp; omega)
    clear HM11
    clear HF11 HT11 HL11 B11 g
    have hO : mgO s.data.toList = v5 := by
      rw [hv5.out]
      show beN ((s.data.toList.drop (mgM s.data.toList + 6)).take 1) = _
      rw [hm, show m + 1 + 6 = 0 + 1 + 1 + m + 1 + 4 by omega]
    have hbO : v5 ≤ 300 := by
      have q := beN_lt ((s.data.toList.drop (0 + 1 + 1 + m + 1 + 4)).take 1)
      rw [← hv5.out] at q
      have q2 : ((s.data.toList.drop (0 + 1 + 1 + m + 1 + 4)).take 1).length ≤ 1 := by rw [List.length_take]; omega
      have := Nat.pow_le_pow_right (n := 256) (by decide) q2
      omega
    have HUlt12 := HU12.lt
    go_wp2_with fail
    by_cases h6 : ¬ (0 + 1 + 1 + m + 1 + 4 + 1 + v5 ≤ s.size)
    · refine (eat_bad HU12 v5 h6 (by omega) (by omega) (by omega)).mono ?_
      rintro e wb ⟨rfl, bb⟩
      go_wp2
      exact pt_bad (by decide) (HF12.kept bb) (LdAc.zero (HL12.kept bb)) (by rw [formK8]; exact decide_eq_false (by omega)) (B12.trans (bb.mono (by omega))) hDF (by have := bb.size; omega)
    replace h6 : 0 + 1 + 1 + m + 1 + 4 + 1 + v5 ≤ s.size := by omega
    have N6 := eat_ok HU12 v5 h6 (by omega)
    obtain ⟨v6, hv6⟩ : ∃ v6, v6 = (⟨((s.data.toList.drop (0 + 1 + 1 + m + 1 + 4 + 1)).take v5).toArray⟩ : ByteArray) := ⟨_, rfl⟩
    rw [← hv6] at N6
    replace N6 := Lib.hid N6
    replace hv6 := Lib.hid hv6
    refine N6.out.mono ?_
    clear N6
    rintro e w13 ⟨rfl, HU13, g⟩
    have HF13 := HF12.grown g (by simp; omega)
    have HT13 := HT12.grown g (by simp; omega)
    have HL13 := HL12.grown g (by simp; omega)
    have B13 : Below D w w13 := B12.grown g (Nat.le_trans hDw (Nat.le_of_lt (Nat.lt_of_lt_of_le HUlt12 (Nat.le_refl _)))) (fun k e => by cases e; omega)
    have HM13 := HM12.grown g (by simp; omega)
    clear HM12
    clear HF12 HT12 HL12 B12 g
    go_wp2_with (first
      | (refine store_blk (k := 4) 9 (.string v6) (mgC ⟨(v1 : Nat), v2, (v3 : Nat), (v4 : Nat), v6⟩) (by rfl) rfl rfl rfl HM13 (by kernel_rfl) (show (4 + 1 : Nat) ≤ 5 by decide) (by rfl) rfl ?_; intro w14 HM14 bq14 gq14; have HF14 := HF13.grown gq14 (by simp; omega); have HT14 := HT13.grown gq14 (by simp; omega); have HL14 := HL13.grown gq14 (by simp; omega); have HU14 : Cur w14 c s _ 0 := Blk.grown HU13 gq14 (by simp; omega); have B14 : Below D w w14 := B13.trans (bq14.mono hDM); clear HF13 HT13 HL13 HU13 HM13 B13 bq14 gq14)
      | (refine load_blk (k := 0) 89 (mgC ⟨(v1 : Nat), v2, (v3 : Nat), (v4 : Nat), v6⟩) (by rfl) rfl rfl HM14 (by kernel_rfl) (by kernel_rfl) rfl ?_)
      | (refine sliceL_mg (⟨(v1 : Nat), v2, (v3 : Nat), (v4 : Nat), v6⟩) rfl rfl rfl (fun w15 HG15 bq15 lt15 => ?_); have hDG : D ≤ w14.heap.size := (by have := HU14.lt; omega); have HF15 := HF14.kept bq15; have HT15 := HT14.kept bq15; have HL15 := HL14.kept bq15; have HU15 := HU14.kept bq15; have hLG : L < w14.heap.size := HL14.lt; have B15 : Below D w w15 := B14.trans (bq15.mono hDG))
      | (refine store_blk (k := 9) 26 (.slice (some ⟨w14.heap.size, 0, none⟩) 1 1) (ldC { zLd with ma := [⟨(v1 : Nat), v2, (v3 : Nat), (v4 : Nat), v6⟩] } { zLdA with ma := (some ⟨w14.heap.size, 0, none⟩, 1) }) (by rfl) rfl rfl rfl HL15 (by kernel_rfl) (show (9 + 1 : Nat) ≤ 11 by decide) (by rfl) rfl ?_; intro w16 HL16 bq16 gq16; have HF16 := HF15.grown gq16 (by simp; exact hFL); have HT16 := HT15.grown gq16 (by simp; exact hTL); have HU16 : Cur w16 c s _ 0 := Blk.grown HU15 gq16 (by simp; omega); have B16 : Below D w w16 := B15.trans (bq16.mono hDL); have HG16 := HG15.grown gq16 (by simp; omega)))
    have x1 : v1 = beN ((s.data.toList.drop 1).take 1) := hv1.out
    have x2 : (⟨((s.data.toList.drop 2).take (m + 1 - 1)).toArray⟩ : ByteArray) = v2 := hv2.out.symm
    have x3 : v3 = beN ((s.data.toList.drop (m + 1 + 1)).take 1) := by
      rw [hv3.out]
      all_goals (congr 3 <;> omega)
    have x4 : v4 = beN ((s.data.toList.drop (m + 1 + 2)).take 4) := by
      rw [hv4.out]
      all_goals (congr 3 <;> omega)
    have x5 : (⟨((s.data.toList.drop (m + 1 + 7)).take v5).toArray⟩ : ByteArray) = v6 := by
      rw [hv6.out]
      all_goals (congr 4 <;> omega)
    have hY : Hid (mgOf s.data.toList = ⟨(v1 : Nat), v2, (v3 : Nat), (v4 : Nat), v6⟩) := by
      show _ = _
      unfold mgOf
      rw [hO, hm, ← x1, x2, ← x3, ← x4, x5]
    clear x1 x2 x3 x4 x5
    have HGd := HG16
    clear HL15 HF15 HT15 HU15 B15 HL14 HF14 HT14 HU14 B14
    have LA : LdAc w16 D L { zLd with ma := [⟨(v1 : Nat), v2, (v3 : Nat), (v4 : Nat), v6⟩] } := ⟨{ zLdA with ma := (some ⟨w14.heap.size, 0, none⟩, 1) }, HL16, .nil _ _, .nil _ _, .nil _ _, .nil _ _, .one HGd hDG, .nil _ _⟩
    obtain ⟨P, hP⟩ : ∃ P, P = 0 + 1 + 1 + m + 1 + 4 + 1 + v5 := ⟨_, rfl⟩
    rw [← hP] at HU16
    have cP := HU16.cv 1 (.int .i64 (P : Nat)) rfl
    have cT := HT16.cv 1 (.string s) rfl
    have cI := HU16.lt
    go_upto_region 28 with (fail)
    refine wp_region_noPanic ?_
    refine wp_region_held_drew (S := fun w' => w'.cell? ⟨c, 1, none⟩ = some (.int .i64 (P : Nat)) ∧ w'.cell? ⟨T, 1, none⟩ = some (.string s)) (by kernel_rfl) ?_ (fun hHeld => ?_)
    · exact ⟨cP, cT⟩
    refine wpAnyH_take (i := 0) (v := ?_) rfl (by kernel_rfl) (by kernel_rfl) (by kernel_rfl) (fun _ _ _ h => h) (Or.inl ⟨by rfl, ?_⟩) (by assumption) ?_
    rotate_left
    · (intro w hSw; (try dsimp only at hSw); go_simp; (try with_reducible rfl))
    (try simp only [Act.put, List.getElem_toArray, List.getElem_cons_zero, List.getElem_cons_succ, List.setIfInBounds_toArray, List.set_cons_zero, List.set_cons_succ])
    refine wpAnyH_take (i := 1) (v := ?_) rfl (by kernel_rfl) (by kernel_rfl) (by kernel_rfl) (fun _ _ _ h => h) (Or.inl ⟨by rfl, ?_⟩) (by assumption) ?_
    rotate_left
    · (intro w hSw; (try dsimp only at hSw); go_simp; (try with_reducible rfl))
    (try simp only [Act.put, List.getElem_toArray, List.getElem_cons_zero, List.getElem_cons_succ, List.setIfInBounds_toArray, List.set_cons_zero, List.set_cons_succ])
    refine wpAnyH_take (i := 2) (v := ?_) rfl (by kernel_rfl) (by kernel_rfl) (by kernel_rfl) (fun _ _ _ h => h) (Or.inl ⟨by rfl, ?_⟩) (by assumption) ?_
    rotate_left
    · (intro w hSw; (try dsimp only at hSw); go_simp; (try with_reducible rfl))
    (try simp only [Act.put, List.getElem_toArray, List.getElem_cons_zero, List.getElem_cons_succ, List.setIfInBounds_toArray, List.set_cons_zero, List.set_cons_succ])
    refine wpAnyH_take (i := 3) (v := .int .i64 (P : Nat)) rfl (by kernel_rfl) (by kernel_rfl) (by kernel_rfl) (fun _ _ _ h => h) (Or.inl ⟨by rfl, fun w hSw => by have cc := hSw.1; (try dsimp only at cc); go_simp⟩) (by assumption) ?_
    (try simp only [Act.put, List.getElem_toArray, List.getElem_cons_zero, List.getElem_cons_succ, List.setIfInBounds_toArray, List.set_cons_zero, List.set_cons_succ])
    refine wpAnyH_take (i := 4) (v := ?_) rfl (by kernel_rfl) (by kernel_rfl) (by kernel_rfl) (fun _ _ _ h => h) (Or.inl ⟨by rfl, ?_⟩) (by assumption) ?_
    rotate_left
    · (intro w hSw; (try dsimp only at hSw); go_simp; (try with_reducible rfl))
    (try simp only [Act.put, List.getElem_toArray, List.getElem_cons_zero, List.getElem_cons_succ, List.setIfInBounds_toArray, List.set_cons_zero, List.set_cons_succ])
    refine wpAnyH_take (i := 5) (v := .string s) rfl (by kernel_rfl) (by kernel_rfl) (by kernel_rfl) (fun _ _ _ h => h) (Or.inl ⟨by rfl, fun w hSw => by have cc := hSw.2; (try dsimp only at cc); go_simp⟩) (by assumption) ?_
    (try simp only [Act.put, List.getElem_toArray, List.getElem_cons_zero, List.getElem_cons_succ, List.setIfInBounds_toArray, List.set_cons_zero, List.set_cons_succ])
    refine wpAnyH_take (i := 6) (v := ?_) rfl (by kernel_rfl) (by kernel_rfl) (by kernel_rfl) (fun _ _ _ h => h) (Or.inl ⟨by rfl, ?_⟩) (by assumption) ?_
    rotate_left
    · (intro w hSw; (try dsimp only at hSw); go_simp; (try with_reducible rfl))
    (try simp only [Act.put, List.getElem_toArray, List.getElem_cons_zero, List.getElem_cons_succ, List.setIfInBounds_toArray, List.set_cons_zero, List.set_cons_succ])
    refine wpAnyH_take (i := 7) (v := ?_) rfl (by kernel_rfl) (by kernel_rfl) (by kernel_rfl) (fun _ _ _ h => h) (Or.inl ⟨by rfl, ?_⟩) (by assumption) ?_
    rotate_left
    · (intro w hSw; (try dsimp only at hSw); go_simp; (try with_reducible rfl))
    (try simp only [Act.put, List.getElem_toArray, List.getElem_cons_zero, List.getElem_cons_succ, List.setIfInBounds_toArray, List.set_cons_zero, List.set_cons_succ])
    refine wpAnyH_done (by kernel_rfl) ?_ _
    refine NoPanic.normal ?_
    have HFd := HF16.drew
    have LAd := LA.drew
    have Bd := B16.drew
    have HUd := HU16.drew
    have hszd : D ≤ w16.drew.heap.size := by show D ≤ w16.heap.size; omega
    clear HF16 LA B16 HU16 cP cT cI HT16 HL16
    generalize w16.drew = wz at *
    by_cases hl : P < s.size
    · have d1 : decide ((P : Int) < (s.size : Int)) = true := decide_eq_true (by omega)
      have d2 : decide (P < s.size) = true := decide_eq_true hl
      have hf : Hid (formK 8 s.data.toList = false) := (by show _ = _; rw [formK8]; exact decide_eq_false (by omega))
      go_wp2_with fail
      refine (throw_any HUd 3 0 (by omega) (by omega)).mono ?_
      rintro e wb ⟨rfl, rfl⟩
      go_wp2
      exact pt_bad (by decide) HFd LAd hf.out Bd hDF hszd
    · have d1 : decide ((P : Int) < (s.size : Int)) = false := decide_eq_false (by omega)
      have d2 : decide (P < s.size) = false := decide_eq_false hl
      have hf : Hid (formK 8 s.data.toList = true) := (by show _ = _; rw [formK8]; exact decide_eq_true (by omega))
      have hy : Hid (({ zLd with ma := [⟨(v1 : Nat), v2, (v3 : Nat), (v4 : Nat), v6⟩] } : Ld) = addLd zLd ⟨8, s⟩) := by
        show _ = _
        rw [addLd8, hY.out]
        rfl
      rw [hy.out] at LAd
      go_wp2
      exact pt_ok HFd LAd hf.out Bd hDF hszd

end Go.Proofs.YtocgnbbnaamjjaaGreatDoor

namespace Go.Proofs.YtocgnbbnaamjjaaGreatDoor
open Go.RowKit
attribute [local go_sem ↓] Go.wp_at_zero Go.wp_at_succ
set_option linter.unusedSimpArgs false
set_option linter.unusedVariables false
set_option maxRecDepth 100000

/-- What parts leaves at any kind. -/
def PtA (F L D : Nat) (w : World) (e : Ending) (w' : World) : Prop := e = .returned (.tuple #[]) ∧ Below D w w' ∧ (∃ e pl, Blk w' F 32 (ftC e pl)) ∧ ∃ y, LdAc w' D L y

theorem pta_bad {tmps : Array Value} {F L D : Nat} {w0 w : World} {e pl : Int} {y : Ld} (HF : Blk w F 32 (ftC 0 (-1))) (HL : LdAc w D L y) (hb : Below D w0 w) (hD : D ≤ F) (hDw : D ≤ w.heap.size) :
    Leaves Tryz.prog Tryz.f32 tmps (PtA F L D w0) [{ target := .fn (.func 27) #[], args := #[.pointer (some ⟨F, 0, none⟩)] }] (.panicking (Thrown e pl)) w := by
  refine leaves_cons (f := 27) (args := #[.pointer (some ⟨F, 0, none⟩)]) (by simp [Thrown]) (by simp [go_sem]) ?_
  refine (caught_thrown F 0 (-1) e pl [] w HF).mono ?_
  rintro r u' w2 ⟨rfl, rfl, HF2, g2⟩
  have hrs : (Tryz.f32).results = #[] := rfl
  exact ⟨_, by simp [results, hrs], rfl, hb.grown g2 hDw (fun k e => by cases e; exact hD), ⟨e, pl, HF2⟩, y, HL.otherT HF (by decide) g2⟩

theorem pta_ok {tmps : Array Value} {F L D : Nat} {w0 w : World} {y : Ld} (HF : Blk w F 32 (ftC 0 (-1))) (HL : LdAc w D L y) (hb : Below D w0 w) :
    Leaves Tryz.prog Tryz.f32 tmps (PtA F L D w0) [{ target := .fn (.func 27) #[], args := #[.pointer (some ⟨F, 0, none⟩)] }] .returning w := by
  refine leaves_cons (f := 27) (args := #[.pointer (some ⟨F, 0, none⟩)]) (by simp) (by simp [go_sem]) ?_
  refine (caught_idle ⟨F, 0, none⟩ w).mono ?_
  rintro r u' w2 ⟨rfl, rfl, rfl⟩
  have hrs : (Tryz.f32).results = #[] := rfl
  exact ⟨_, by simp [results, hrs], rfl, hb, ⟨0, -1, HF⟩, y, HL⟩

set_option maxHeartbeats 3200000 in
theorem pt_n0 {F T L D : Nat} {s : ByteArray} {k : Int} (hk : k ∉ ([1, 2, 3, 4, 5, 6, 7, 8, 127] : List Int)) (w : World) (HF : Blk w F 32 (ftC 0 (-1))) (HT : Blk w T 80 (tlC ⟨k, s⟩)) (HL : Blk w L 29 (ldC zLd zLdA)) (hs : s.size ≤ 100000) (hDF : D ≤ F) (hDL : D ≤ L) :
    Calls Tryz.prog 32 #[.pointer (some ⟨F, 0, none⟩), .pointer (some ⟨T, 0, none⟩), .pointer (some ⟨L, 0, none⟩)] w (PtA F L D w) := by
  have hls : s.data.toList.length = s.size := by simp
  have hDw : D ≤ w.heap.size := by have := HF.lt; omega
  have cA := HT.cv 0 (.int .i64 k) rfl
  have cB := HT.cv 1 (.string s) rfl
  have HF1 := HF.alloc (.cells #[.string s, .int .i64 (0 : Nat), .int .i64 (0 : Nat)] 117)
  have HT1 := HT.alloc (.cells #[.string s, .int .i64 (0 : Nat), .int .i64 (0 : Nat)] 117)
  have HL1 := HL.alloc (.cells #[.string s, .int .i64 (0 : Nat), .int .i64 (0 : Nat)] 117)
  have HU1 : Cur (w.alloc (.cells #[.string s, .int .i64 (0 : Nat), .int .i64 (0 : Nat)] 117)) w.heap.size s 0 0 := Blk.new w 117 _
  have B1 : Below D w (w.alloc (.cells #[.string s, .int .i64 (0 : Nat), .int .i64 (0 : Nat)] 117)) := (Below.refl D w).alloc hDw _
  have hF := HF.lt
  have hT := HT.lt
  have hL := HL.lt
  have hFL : ¬ F = L := blk_ne HF HL (by decide)
  have hTL : ¬ T = L := blk_ne HT HL (by decide)
  clear HF HT HL
  simp only [List.mem_cons, List.not_mem_nil, or_false, not_or] at hk
  obtain ⟨k1, k2, k3, k4, k5, k6, k7, k8, k127⟩ := hk
  have d1 : decide (k = 1) = false := decide_eq_false k1
  have b1 : (k == 1) = false := by simpa using k1
  have d2 : decide (k = 2) = false := decide_eq_false k2
  have b2 : (k == 2) = false := by simpa using k2
  have d3 : decide (k = 3) = false := decide_eq_false k3
  have b3 : (k == 3) = false := by simpa using k3
  have d4 : decide (k = 4) = false := decide_eq_false k4
  have b4 : (k == 4) = false := by simpa using k4
  have d5 : decide (k = 5) = false := decide_eq_false k5
  have b5 : (k == 5) = false := by simpa using k5
  have d6 : decide (k = 6) = false := decide_eq_false k6
  have b6 : (k == 6) = false := by simpa using k6
  have d7 : decide (k = 7) = false := decide_eq_false k7
  have b7 : (k == 7) = false := by simpa using k7
  have d8 : decide (k = 8) = false := decide_eq_false k8
  have b8 : (k == 8) = false := by simpa using k8
  have d127 : decide (k = 127) = false := decide_eq_false k127
  have b127 : (k == 127) = false := by simpa using k127
  go_enter_defers Tryz.func32, Tryz.ntmps32
  go_upto_region 2 with (refine build_blk (t := 117) #[.string s, .int .i64 (0 : Nat), .int .i64 (0 : Nat)] (by rfl) rfl (by kernel_rfl) ?_)
  generalize w.alloc (.cells #[.string s, .int .i64 0, .int .i64 0] 117) = w1 at *
  generalize w.heap.size = c at *
  have ck := HT1.cv 0 (.int .i64 k) rfl
  clear cA cB
  have cP := HU1.cv 1 (.int .i64 (0 : Nat)) rfl
  have cT := HT1.cv 1 (.string s) rfl
  have cI := HU1.lt
  have LA : LdAc w1 D L zLd := ⟨zLdA, HL1, .nil _ _, .nil _ _, .nil _ _, .nil _ _, .nil _ _, .nil _ _⟩
  go_upto_region 28 with (fail)
  refine wp_region_noPanic ?_
  refine wp_region_held_drew (S := fun w' => w'.cell? ⟨c, 1, none⟩ = some (.int .i64 (0 : Nat)) ∧ w'.cell? ⟨T, 1, none⟩ = some (.string s)) (by kernel_rfl) ?_ (fun hHeld => ?_)
  · exact ⟨cP, cT⟩
  refine wpAnyH_take (i := 0) (v := ?_) rfl (by kernel_rfl) (by kernel_rfl) (by kernel_rfl) (fun _ _ _ h => h) (Or.inl ⟨by rfl, ?_⟩) (by assumption) ?_
  rotate_left
  · (intro w hSw; (try dsimp only at hSw); go_simp; (try with_reducible rfl))
  (try simp only [Act.put, List.getElem_toArray, List.getElem_cons_zero, List.getElem_cons_succ, List.setIfInBounds_toArray, List.set_cons_zero, List.set_cons_succ])
  refine wpAnyH_take (i := 1) (v := ?_) rfl (by kernel_rfl) (by kernel_rfl) (by kernel_rfl) (fun _ _ _ h => h) (Or.inl ⟨by rfl, ?_⟩) (by assumption) ?_
  rotate_left
  · (intro w hSw; (try dsimp only at hSw); go_simp; (try with_reducible rfl))
  (try simp only [Act.put, List.getElem_toArray, List.getElem_cons_zero, List.getElem_cons_succ, List.setIfInBounds_toArray, List.set_cons_zero, List.set_cons_succ])
  refine wpAnyH_take (i := 2) (v := ?_) rfl (by kernel_rfl) (by kernel_rfl) (by kernel_rfl) (fun _ _ _ h => h) (Or.inl ⟨by rfl, ?_⟩) (by assumption) ?_
  rotate_left
  · (intro w hSw; (try dsimp only at hSw); go_simp; (try with_reducible rfl))
  (try simp only [Act.put, List.getElem_toArray, List.getElem_cons_zero, List.getElem_cons_succ, List.setIfInBounds_toArray, List.set_cons_zero, List.set_cons_succ])
  refine wpAnyH_take (i := 3) (v := .int .i64 (0 : Nat)) rfl (by kernel_rfl) (by kernel_rfl) (by kernel_rfl) (fun _ _ _ h => h) (Or.inl ⟨by rfl, fun w hSw => by have cc := hSw.1; (try dsimp only at cc); go_simp⟩) (by assumption) ?_
  (try simp only [Act.put, List.getElem_toArray, List.getElem_cons_zero, List.getElem_cons_succ, List.setIfInBounds_toArray, List.set_cons_zero, List.set_cons_succ])
  refine wpAnyH_take (i := 4) (v := ?_) rfl (by kernel_rfl) (by kernel_rfl) (by kernel_rfl) (fun _ _ _ h => h) (Or.inl ⟨by rfl, ?_⟩) (by assumption) ?_
  rotate_left
  · (intro w hSw; (try dsimp only at hSw); go_simp; (try with_reducible rfl))
  (try simp only [Act.put, List.getElem_toArray, List.getElem_cons_zero, List.getElem_cons_succ, List.setIfInBounds_toArray, List.set_cons_zero, List.set_cons_succ])
  refine wpAnyH_take (i := 5) (v := .string s) rfl (by kernel_rfl) (by kernel_rfl) (by kernel_rfl) (fun _ _ _ h => h) (Or.inl ⟨by rfl, fun w hSw => by have cc := hSw.2; (try dsimp only at cc); go_simp⟩) (by assumption) ?_
  (try simp only [Act.put, List.getElem_toArray, List.getElem_cons_zero, List.getElem_cons_succ, List.setIfInBounds_toArray, List.set_cons_zero, List.set_cons_succ])
  refine wpAnyH_take (i := 6) (v := ?_) rfl (by kernel_rfl) (by kernel_rfl) (by kernel_rfl) (fun _ _ _ h => h) (Or.inl ⟨by rfl, ?_⟩) (by assumption) ?_
  rotate_left
  · (intro w hSw; (try dsimp only at hSw); go_simp; (try with_reducible rfl))
  (try simp only [Act.put, List.getElem_toArray, List.getElem_cons_zero, List.getElem_cons_succ, List.setIfInBounds_toArray, List.set_cons_zero, List.set_cons_succ])
  refine wpAnyH_take (i := 7) (v := ?_) rfl (by kernel_rfl) (by kernel_rfl) (by kernel_rfl) (fun _ _ _ h => h) (Or.inl ⟨by rfl, ?_⟩) (by assumption) ?_
  rotate_left
  · (intro w hSw; (try dsimp only at hSw); go_simp; (try with_reducible rfl))
  (try simp only [Act.put, List.getElem_toArray, List.getElem_cons_zero, List.getElem_cons_succ, List.setIfInBounds_toArray, List.set_cons_zero, List.set_cons_succ])
  refine wpAnyH_done (by kernel_rfl) ?_ _
  refine NoPanic.normal ?_
  have HFd := HF1.drew
  have LAd := LA.drew
  have Bd := B1.drew
  have HUd := HU1.drew
  have hszd : D ≤ w1.drew.heap.size := by show D ≤ w1.heap.size; omega
  clear HF1 LA B1 HU1 cP cT cI HT1 HL1
  generalize w1.drew = wz at *
  by_cases hl : 0 < s.size
  · have d1 : decide ((0 : Int) < (s.size : Int)) = true := decide_eq_true (by omega)
    have d2 : decide (0 < s.size) = true := decide_eq_true hl
    go_wp2_with fail
    refine (throw_any HUd 3 0 (by omega) (by omega)).mono ?_
    rintro e wb ⟨rfl, rfl⟩
    go_wp2
    exact pta_bad HFd LAd Bd hDF hszd
  · have d1 : decide ((0 : Int) < (s.size : Int)) = false := decide_eq_false (by omega)
    have d2 : decide (0 < s.size) = false := decide_eq_false hl
    go_wp2
    exact pta_ok HFd LAd Bd

/-- parts, at a kind that has parts. -/
theorem pt_known {F T L D : Nat} {s : ByteArray} {k : Int} (hk : k ∈ ([1, 2, 3, 4, 5, 6, 7, 8, 127] : List Int)) (w : World) (HF : Blk w F 32 (ftC 0 (-1))) (HT : Blk w T 80 (tlC ⟨k, s⟩)) (HL : Blk w L 29 (ldC zLd zLdA)) (hs : s.size ≤ 100000) (hDF : D ≤ F) (hDL : D ≤ L) :
    Calls Tryz.prog 32 #[.pointer (some ⟨F, 0, none⟩), .pointer (some ⟨T, 0, none⟩), .pointer (some ⟨L, 0, none⟩)] w (PtR F L D k s w) := by
  simp only [List.mem_cons, List.not_mem_nil, or_false] at hk
  rcases hk with rfl | rfl | rfl | rfl | rfl | rfl | rfl | rfl | rfl
  · exact pt_n1 w HF HT HL hs hDF hDL
  · exact pt_n2 w HF HT HL hs hDF hDL
  · exact pt_n3 w HF HT HL hs hDF hDL
  · exact pt_n4 w HF HT HL hs hDF hDL
  · exact pt_n5 w HF HT HL hs hDF hDL
  · exact pt_n6 w HF HT HL hs hDF hDL
  · exact pt_n7 w HF HT HL hs hDF hDL
  · exact pt_n8 w HF HT HL hs hDF hDL
  · exact pt_n127 w HF HT HL hs hDF hDL

end Go.Proofs.YtocgnbbnaamjjaaGreatDoor

namespace Go.Proofs.YtocgnbbnaamjjaaGreatDoor
open Go.RowKit
set_option linter.unusedVariables false

theorem box_blk {P : Program} {ops : Array Oper} {rest : List Oper} {o : Oper} {a : Act} {w : World} {Q : Exit → Act → World → Prop} {x : Operand} (t : TypeId) (X : Array Value) (hg : o.guard = none) (ho : o.op = .box t x) (hx : a.eval x = .agg X)
    (h : ∀ w', Blk w' w.heap.size t X → Below w.heap.size w w' → wpList P ops Q rest (a.put o.dst (.pointer (some ⟨w.heap.size, 0, none⟩))) w') : wpList P ops Q (o :: rest) a w :=
  Go.Great.wpList_boxTo hg t x ho _ rfl _ rfl X (by rw [hx]; rfl) (h _ (Blk.new w t X) ((Below.refl _ _).alloc (Nat.le_refl _) _))

end Go.Proofs.YtocgnbbnaamjjaaGreatDoor

