/- md5.addBlock: one block more. -/
import Derived.Test.YtlfeholphngilaaDoorMdWords
import Derived.Test.YtlfeholphngilaaDoorHasMd
namespace Go.Proofs.YtlfeholphngilaaDoor
open Go.RowKit
attribute [local go_sem ↓] Go.wp_at_zero Go.wp_at_succ
set_option linter.unusedSimpArgs false
set_option linter.unusedVariables false
set_option maxRecDepth 100000

def z4 : Array Value := #[.int .u32 0, .int .u32 0, .int .u32 0, .int .u32 0]
theorem Tryd.q4Zero : (Tryd.prog.info? 47).map (·.zero) = some (some (.agg z4)) := by kernel_rfl
theorem three_blks (w : World) (X Y Z : Array Value) (S T U : TypeId) : Blk (((w.alloc (.cells X S)).alloc (.cells Y T)).alloc (.cells Z U)) w.heap.size S X ∧ Blk (((w.alloc (.cells X S)).alloc (.cells Y T)).alloc (.cells Z U)) (w.heap.size + 1) T Y ∧ Blk (((w.alloc (.cells X S)).alloc (.cells Y T)).alloc (.cells Z U)) (w.heap.size + 2) U Z ∧ Below w.heap.size w (((w.alloc (.cells X S)).alloc (.cells Y T)).alloc (.cells Z U)) := by
  have h1 := Blk.new w S X
  have h2 := Blk.new (w.alloc (.cells X S)) T Y
  have h3 := Blk.new ((w.alloc (.cells X S)).alloc (.cells Y T)) U Z
  rw [show (w.alloc (.cells X S)).heap.size = w.heap.size + 1 by simp] at h2
  rw [show ((w.alloc (.cells X S)).alloc (.cells Y T)).heap.size = w.heap.size + 2 by simp] at h3
  exact ⟨(h1.alloc _).alloc _, h2.alloc _, h3, (((Below.refl _ _).alloc (Nat.le_refl _) _).alloc (by simp) _).alloc (by simp; omega) _⟩
theorem wrap32 (x y : Nat) : IntKind.u32.wrap ((x : Int) + (y : Int)) = (((x + y) % 4294967296 : Nat) : Int) := by
  unfold IntKind.wrap
  simp [IntKind.bits, IntKind.signed]
theorem add_step (F a S W : Nat) : (((F : Int) + (a : Int)) % 4294967296 + (S : Int)) % 4294967296 + (W : Int) = ((((F + a) % 4294967296 + S) % 4294967296 + W : Nat) : Int) := by omega
theorem sum_step (F a S W : Nat) : (((F + a) % 4294967296 + S) % 4294967296 + W) % 4294967296 = (a + F + W + S) % 4294967296 := by omega

set_option maxHeartbeats 6400000 in
theorem addBlock_any (l : List UInt8) (h : Q4) (hh : ltQ h) (w : World) (HM : HasMd w) :
    Calls Tryd.prog 45 #[.agg (qC h), .agg (wC l)] w fun e w' => e = .returned (.agg (qC (blockG l h))) ∧ Below w.heap.size w w' := by
  obtain ⟨H1, H2, H3, B0⟩ := three_blks w (qC h) (wC l) z4 47 72 47
  have hst := fun j => stepsN_lt l 0 hh j
  have hbg : blockG l h = addN h (stepsN l 0 h 64) := rfl
  go_enter Tryd.func45, Tryd.ntmps45
  go_upto_region 1 with (refine alloc_blk 47 z4 (by rfl) rfl Tryd.q4Zero ?_)
  have e1 : (w.alloc (.cells (qC h) 47)).heap.size = w.heap.size + 1 := by simp
  have e2 : ((w.alloc (.cells (qC h) 47)).alloc (.cells (wC l) 72)).heap.size = w.heap.size + 2 := by simp
  (try simp only [e1, e2])
  have M1 := HM.below B0
  generalize ((w.alloc (.cells (qC h) 47)).alloc (.cells (wC l) 72)).alloc (.cells z4 47) = w1 at *
  clear e1 e2
  (try simp only [Act.put, List.setIfInBounds_toArray, List.set_cons_zero, List.set_cons_succ])
  generalize Value.agg (wC l) = v1
  generalize Value.agg (qC h) = v0
  have c0 := H1.drew.cv 0 (.int .u32 (h.a : Int)) rfl
  have c1 := H1.drew.cv 1 (.int .u32 (h.b : Int)) rfl
  have c2 := H1.drew.cv 2 (.int .u32 (h.c : Int)) rfl
  have c3 := H1.drew.cv 3 (.int .u32 (h.d : Int)) rfl
  go_upto_region 1 with (fail)
  refine wp_region_noPanic ?_
  refine wp_region_held_drew (S := (fun w' => w'.cell? ⟨w.heap.size, 0, none⟩ = some (.int .u32 (h.a : Int)) ∧ w'.cell? ⟨w.heap.size, 1, none⟩ = some (.int .u32 (h.b : Int)) ∧ w'.cell? ⟨w.heap.size, 2, none⟩ = some (.int .u32 (h.c : Int)) ∧ w'.cell? ⟨w.heap.size, 3, none⟩ = some (.int .u32 (h.d : Int)))) (by kernel_rfl) ?_ (fun hHeld => ?_)
  · exact ⟨c0, c1, c2, c3⟩
  refine wpAnyH_take (i := 0) (v := ?_) rfl (by kernel_rfl) (by kernel_rfl) (by kernel_rfl) (fun _ _ _ h => h) (Or.inl ⟨by rfl, ?_⟩) (by assumption) ?_
  rotate_left
  · (intro w hSw; (try dsimp only at hSw); go_simp; (try with_reducible rfl))
  (try simp only [Act.put, List.getElem_toArray, List.getElem_cons_zero, List.getElem_cons_succ, List.setIfInBounds_toArray, List.set_cons_zero, List.set_cons_succ])
  refine wpAnyH_take (i := 1) (v := ?_) rfl (by kernel_rfl) (by kernel_rfl) (by kernel_rfl) (fun _ _ _ h => h) (Or.inl ⟨by rfl, ?_⟩) (by assumption) ?_
  rotate_left
  · (intro w hSw; (try dsimp only at hSw); go_simp; (try with_reducible rfl))
  (try simp only [Act.put, List.getElem_toArray, List.getElem_cons_zero, List.getElem_cons_succ, List.setIfInBounds_toArray, List.set_cons_zero, List.set_cons_succ])
  refine wpAnyH_take (i := 2) (v := ?_) rfl (by kernel_rfl) (by kernel_rfl) (by kernel_rfl) (fun _ _ _ h => h) (Or.inl ⟨by rfl, ?_⟩) (by assumption) ?_
  rotate_left
  · (intro w hSw; (try dsimp only at hSw); go_simp; (try with_reducible rfl))
  (try simp only [Act.put, List.getElem_toArray, List.getElem_cons_zero, List.getElem_cons_succ, List.setIfInBounds_toArray, List.set_cons_zero, List.set_cons_succ])
  refine wpAnyH_take (i := 3) (v := ?_) rfl (by kernel_rfl) (by kernel_rfl) (by kernel_rfl) (fun _ _ _ h => h) (Or.inl ⟨by rfl, ?_⟩) (by assumption) ?_
  rotate_left
  · (intro w hSw; (try dsimp only at hSw); go_simp; (try with_reducible rfl))
  (try simp only [Act.put, List.getElem_toArray, List.getElem_cons_zero, List.getElem_cons_succ, List.setIfInBounds_toArray, List.set_cons_zero, List.set_cons_succ])
  refine wpAnyH_take (i := 4) (v := ?_) rfl (by kernel_rfl) (by kernel_rfl) (by kernel_rfl) (fun _ _ _ h => h) (Or.inl ⟨by rfl, ?_⟩) (by assumption) ?_
  rotate_left
  · (intro w hSw; (try dsimp only at hSw); go_simp; (try with_reducible rfl))
  (try simp only [Act.put, List.getElem_toArray, List.getElem_cons_zero, List.getElem_cons_succ, List.setIfInBounds_toArray, List.set_cons_zero, List.set_cons_succ])
  refine wpAnyH_take (i := 5) (v := ?_) rfl (by kernel_rfl) (by kernel_rfl) (by kernel_rfl) (fun _ _ _ h => h) (Or.inl ⟨by rfl, ?_⟩) (by assumption) ?_
  rotate_left
  · (intro w hSw; (try dsimp only at hSw); go_simp; (try with_reducible rfl))
  (try simp only [Act.put, List.getElem_toArray, List.getElem_cons_zero, List.getElem_cons_succ, List.setIfInBounds_toArray, List.set_cons_zero, List.set_cons_succ])
  refine wpAnyH_take (i := 6) (v := ?_) rfl (by kernel_rfl) (by kernel_rfl) (by kernel_rfl) (fun _ _ _ h => h) (Or.inl ⟨by rfl, ?_⟩) (by assumption) ?_
  rotate_left
  · (intro w hSw; (try dsimp only at hSw); go_simp; (try with_reducible rfl))
  (try simp only [Act.put, List.getElem_toArray, List.getElem_cons_zero, List.getElem_cons_succ, List.setIfInBounds_toArray, List.set_cons_zero, List.set_cons_succ])
  refine wpAnyH_take (i := 7) (v := ?_) rfl (by kernel_rfl) (by kernel_rfl) (by kernel_rfl) (fun _ _ _ h => h) (Or.inl ⟨by rfl, ?_⟩) (by assumption) ?_
  rotate_left
  · (intro w hSw; (try dsimp only at hSw); go_simp; (try with_reducible rfl))
  (try simp only [Act.put, List.getElem_toArray, List.getElem_cons_zero, List.getElem_cons_succ, List.setIfInBounds_toArray, List.set_cons_zero, List.set_cons_succ])
  refine wpAnyH_take (i := 8) (v := ?_) rfl (by kernel_rfl) (by kernel_rfl) (by kernel_rfl) (fun _ _ _ h => h) (Or.inl ⟨by rfl, ?_⟩) (by assumption) ?_
  rotate_left
  · (intro w hSw; (try dsimp only at hSw); go_simp; (try with_reducible rfl))
  (try simp only [Act.put, List.getElem_toArray, List.getElem_cons_zero, List.getElem_cons_succ, List.setIfInBounds_toArray, List.set_cons_zero, List.set_cons_succ])
  refine wpAnyH_take (i := 9) (v := ?_) rfl (by kernel_rfl) (by kernel_rfl) (by kernel_rfl) (fun _ _ _ h => h) (Or.inl ⟨by rfl, ?_⟩) (by assumption) ?_
  rotate_left
  · (intro w hSw; (try dsimp only at hSw); go_simp; (try with_reducible rfl))
  (try simp only [Act.put, List.getElem_toArray, List.getElem_cons_zero, List.getElem_cons_succ, List.setIfInBounds_toArray, List.set_cons_zero, List.set_cons_succ])
  refine wpAnyH_take (i := 10) (v := ?_) rfl (by kernel_rfl) (by kernel_rfl) (by kernel_rfl) (fun _ _ _ h => h) (Or.inl ⟨by rfl, ?_⟩) (by assumption) ?_
  rotate_left
  · (intro w hSw; (try dsimp only at hSw); go_simp; (try with_reducible rfl))
  (try simp only [Act.put, List.getElem_toArray, List.getElem_cons_zero, List.getElem_cons_succ, List.setIfInBounds_toArray, List.set_cons_zero, List.set_cons_succ])
  refine wpAnyH_take (i := 11) (v := ?_) rfl (by kernel_rfl) (by kernel_rfl) (by kernel_rfl) (fun _ _ _ h => h) (Or.inl ⟨by rfl, ?_⟩) (by assumption) ?_
  rotate_left
  · (intro w hSw; (try dsimp only at hSw); go_simp; (try with_reducible rfl))
  (try simp only [Act.put, List.getElem_toArray, List.getElem_cons_zero, List.getElem_cons_succ, List.setIfInBounds_toArray, List.set_cons_zero, List.set_cons_succ])
  refine wpAnyH_done (by kernel_rfl) ?_ _
  refine NoPanic.normal ?_
  go_wp2_with fail
  have G1 : Blk (w1.drew) w.heap.size 47 (qC h) := H1.drew
  have G2 : Blk (w1.drew) (w.heap.size + 1) 72 (wC l) := H2.drew
  have G3 : Blk (w1.drew) (w.heap.size + 2) 47 z4 := H3.drew
  have GM : HasMd (w1.drew) := M1.drew
  have GB : Below w.heap.size w (w1.drew) := B0.drew
  clear c0 c1 c2 c3 H1 H2 H3 M1 B0
  generalize w1.drew = wa at *
  go_loopw [5, 6, 7, 8, 21] (fun va vb vc vd i wr => ∃ j : Nat, j ≤ 64 ∧ i = .int .i64 j ∧ va = .int .u32 ((stepsN l 0 h j).a : Int) ∧ vb = .int .u32 ((stepsN l 0 h j).b : Int) ∧ vc = .int .u32 ((stepsN l 0 h j).c : Int) ∧ vd = .int .u32 ((stepsN l 0 h j).d : Int) ∧ Blk wr w.heap.size 47 (qC h) ∧ Blk wr (w.heap.size + 1) 72 (wC l) ∧ Blk wr (w.heap.size + 2) 47 z4 ∧ HasMd wr ∧ Below w.heap.size w wr) (fun _ _ _ _ i _ => 64 - (intOf i).toNat)
  case atStart => exact ⟨0, by omega, rfl, rfl, rfl, rfl, rfl, G1, G2, G3, GM, GB⟩
  case round =>
    clear G1 G2 G3 GM GB
    obtain ⟨j, hj, rfl, rfl, rfl, rfl, rfl, G1, G2, G3, GM, GB⟩ := hrel
    by_cases hlt : j < 64
    · have hX := hst j
      have hnx : stepsN l 0 h (j + 1) = stepN l 0 j (stepsN l 0 h j) := rfl
      generalize stepsN l 0 h j = X at *
      obtain ⟨xa, xb, xc, xd⟩ := X
      obtain ⟨⟨ha, hbb⟩, hc, hdd⟩ := hX
      dsimp only at ha hbb hc hdd ⊢
      have hF := fN_lt j hbb hc hdd
      have hG := gN_16 j hlt
      have hgm := gX_mod j
      have hgl := gX_lt j hlt
      have hS2 := sinN_lt j hlt
      have hT2 := turnN_ok j hlt
      have hsn : stepN l 0 j ⟨xa, xb, xc, xd⟩ = ⟨xd, (xb + rotN ((xa + fN j xb xc xd + wordN l (0 + 4 * gN j) + sinN j) % 4294967296) (turnN j)) % 4294967296, xb, xc⟩ := rfl
      rw [Nat.zero_add] at hsn
      have HMix := Lib.hid (fun W => mix_any j xb xc xd W hlt hbb hc hdd)
      have hs1 := GM.drew.1 j hlt
      have ht1 := GM.2 j hlt
      have hw1 := G2.drew.cv (gN j) _ (wC_at l (gN j) hG)
      rw [← hgm] at hw1 hsn hG
      generalize fN j xb xc xd = F at *
      generalize sinN j = S at *
      generalize turnN j = T at *
      generalize gX j = g at *
      obtain ⟨m, hm⟩ : ∃ m, m = g % 16 := ⟨_, rfl⟩
      rw [← hm] at hw1 hsn hG
      generalize wordN l (4 * m) = V at *
      obtain ⟨Z, hZ⟩ : ∃ Z, Z = (xa + F + V + S) % 4294967296 := ⟨_, rfl⟩
      rw [← hZ] at hsn
      have hZ2 : Z < 4294967296 := by omega
      have HRot := Lib.hid (fun W => rot_any Z T W hZ2 hT2.1 hT2.2)
      obtain ⟨q, hq⟩ : ∃ q, q = j / 16 := ⟨_, rfl⟩
      obtain ⟨r, hr⟩ : ∃ r, r = j % 4 := ⟨_, rfl⟩
      rw [← hq, ← hr] at ht1
      have q1 : (j : Int) / 16 = (q : Int) := by omega
      have q2 : (j : Int).tmod 4 = (r : Int) := by rw [Int.tmod_eq_emod_of_nonneg (by omega)]; omega
      have q3 : (j : Int) % 4 = (r : Int) := by omega
      have q4 : (q : Int) < 4 := by omega
      have q5 : (r : Int) < 4 := by omega
      have q6 : (g : Int) % 16 = (m : Int) := by omega
      have q7 : (m : Int) < 16 := by omega
      have q9 : (g : Int).tmod 16 = (m : Int) := by rw [Int.tmod_eq_emod_of_nonneg (by omega)]; omega
      have q8 : (j : Int) < 64 := by omega
      have HSN := Lib.hid hsn
      have HNX := Lib.hid hnx
      have HZ := Lib.hid hZ
      have HZE : Hid (IntKind.u32.wrap (IntKind.u32.wrap (IntKind.u32.wrap ((F : Int) + (xa : Int)) + (S : Int)) + (V : Int)) = (Z : Int)) := by show _ = _; rw [wrap32, wrap32, wrap32, sum_step, ← hZ]
      clear hsn hnx hq hr hm hgm hZ
      go_wp2_with fail
      refine (HMix.out _).mono ?_
      rintro e w2 ⟨rfl, rfl⟩
      go_upto_region 7 with (fail)
      refine wp_region_noPanic ?_
      refine wp_region_held_drew (S := (fun w' => w'.cell? ⟨1, j, none⟩ = some (.int .u32 (S : Int)) ∧ w'.cell? ⟨w.heap.size + 1, m, none⟩ = some (.int .u32 (V : Int)))) (by kernel_rfl) ?_ (fun hHeld => ?_)
      · exact ⟨hs1, hw1⟩
      refine wpAnyH_take (i := 0) (v := ?_) rfl (by kernel_rfl) (by kernel_rfl) (by kernel_rfl) (fun _ _ _ h => h) (Or.inl ⟨by rfl, ?_⟩) (by assumption) ?_
      rotate_left
      · (intro w hSw; (try dsimp only at hSw); go_simp; (try with_reducible rfl))
      (try simp only [Act.put, List.getElem_toArray, List.getElem_cons_zero, List.getElem_cons_succ, List.setIfInBounds_toArray, List.set_cons_zero, List.set_cons_succ])
      refine wpAnyH_take (i := 1) (v := ?_) rfl (by kernel_rfl) (by kernel_rfl) (by kernel_rfl) (fun _ _ _ h => h) (Or.inl ⟨by rfl, ?_⟩) (by assumption) ?_
      rotate_left
      · (intro w hSw; (try dsimp only at hSw); go_simp; (try with_reducible rfl))
      (try simp only [Act.put, List.getElem_toArray, List.getElem_cons_zero, List.getElem_cons_succ, List.setIfInBounds_toArray, List.set_cons_zero, List.set_cons_succ])
      refine wpAnyH_take (i := 2) (v := ?_) rfl (by kernel_rfl) (by kernel_rfl) (by kernel_rfl) (fun _ _ _ h => h) (Or.inl ⟨by rfl, ?_⟩) (by assumption) ?_
      rotate_left
      · (intro w hSw; (try dsimp only at hSw); go_simp; (try with_reducible rfl))
      (try simp only [Act.put, List.getElem_toArray, List.getElem_cons_zero, List.getElem_cons_succ, List.setIfInBounds_toArray, List.set_cons_zero, List.set_cons_succ])
      refine wpAnyH_take (i := 3) (v := ?_) rfl (by kernel_rfl) (by kernel_rfl) (by kernel_rfl) (fun _ _ _ h => h) (Or.inl ⟨by rfl, ?_⟩) (by assumption) ?_
      rotate_left
      · (intro w hSw; (try dsimp only at hSw); go_simp; (try with_reducible rfl))
      (try simp only [Act.put, List.getElem_toArray, List.getElem_cons_zero, List.getElem_cons_succ, List.setIfInBounds_toArray, List.set_cons_zero, List.set_cons_succ])
      refine wpAnyH_take (i := 4) (v := ?_) rfl (by kernel_rfl) (by kernel_rfl) (by kernel_rfl) (fun _ _ _ h => h) (Or.inl ⟨by rfl, ?_⟩) (by assumption) ?_
      rotate_left
      · (intro w hSw; (try dsimp only at hSw); go_simp; (try with_reducible rfl))
      (try simp only [Act.put, List.getElem_toArray, List.getElem_cons_zero, List.getElem_cons_succ, List.setIfInBounds_toArray, List.set_cons_zero, List.set_cons_succ])
      refine wpAnyH_take (i := 5) (v := ?_) rfl (by kernel_rfl) (by kernel_rfl) (by kernel_rfl) (fun _ _ _ h => h) (Or.inl ⟨by rfl, ?_⟩) (by assumption) ?_
      rotate_left
      · (intro w hSw; (try dsimp only at hSw); go_simp; (try with_reducible rfl))
      (try simp only [Act.put, List.getElem_toArray, List.getElem_cons_zero, List.getElem_cons_succ, List.setIfInBounds_toArray, List.set_cons_zero, List.set_cons_succ])
      refine wpAnyH_take (i := 6) (v := ?_) rfl (by kernel_rfl) (by kernel_rfl) (by kernel_rfl) (fun _ _ _ h => h) (Or.inl ⟨by rfl, ?_⟩) (by assumption) ?_
      rotate_left
      · (intro w hSw; (try dsimp only at hSw); go_simp; (try with_reducible rfl))
      (try simp only [Act.put, List.getElem_toArray, List.getElem_cons_zero, List.getElem_cons_succ, List.setIfInBounds_toArray, List.set_cons_zero, List.set_cons_succ])
      refine wpAnyH_take (i := 7) (v := ?_) rfl (by kernel_rfl) (by kernel_rfl) (by kernel_rfl) (fun _ _ _ h => h) (Or.inl ⟨by rfl, ?_⟩) (by assumption) ?_
      rotate_left
      · (intro w hSw; (try dsimp only at hSw); go_simp; (try with_reducible rfl))
      (try simp only [Act.put, List.getElem_toArray, List.getElem_cons_zero, List.getElem_cons_succ, List.setIfInBounds_toArray, List.set_cons_zero, List.set_cons_succ])
      refine wpAnyH_take (i := 8) (v := ?_) rfl (by kernel_rfl) (by kernel_rfl) (by kernel_rfl) (fun _ _ _ h => h) (Or.inl ⟨by rfl, ?_⟩) (by assumption) ?_
      rotate_left
      · (intro w hSw; (try dsimp only at hSw); go_simp; (try with_reducible rfl))
      (try simp only [Act.put, List.getElem_toArray, List.getElem_cons_zero, List.getElem_cons_succ, List.setIfInBounds_toArray, List.set_cons_zero, List.set_cons_succ])
      refine wpAnyH_take (i := 9) (v := ?_) rfl (by kernel_rfl) (by kernel_rfl) (by kernel_rfl) (fun _ _ _ h => h) (Or.inl ⟨by rfl, ?_⟩) (by assumption) ?_
      rotate_left
      · (intro w hSw; (try dsimp only at hSw); go_simp; (try with_reducible rfl))
      (try simp only [Act.put, List.getElem_toArray, List.getElem_cons_zero, List.getElem_cons_succ, List.setIfInBounds_toArray, List.set_cons_zero, List.set_cons_succ])
      refine wpAnyH_take (i := 10) (v := ?_) rfl (by kernel_rfl) (by kernel_rfl) (by kernel_rfl) (fun _ _ _ h => h) (Or.inl ⟨by rfl, ?_⟩) (by assumption) ?_
      rotate_left
      · (intro w hSw; (try dsimp only at hSw); go_simp; (try with_reducible rfl))
      (try simp only [Act.put, List.getElem_toArray, List.getElem_cons_zero, List.getElem_cons_succ, List.setIfInBounds_toArray, List.set_cons_zero, List.set_cons_succ])
      refine wpAnyH_take (i := 11) (v := ?_) rfl (by kernel_rfl) (by kernel_rfl) (by kernel_rfl) (fun _ _ _ h => h) (Or.inl ⟨by rfl, ?_⟩) (by assumption) ?_
      rotate_left
      · (intro w hSw; (try dsimp only at hSw); go_simp; (try with_reducible rfl))
      (try simp only [Act.put, List.getElem_toArray, List.getElem_cons_zero, List.getElem_cons_succ, List.setIfInBounds_toArray, List.set_cons_zero, List.set_cons_succ])
      refine wpAnyH_take (i := 12) (v := ?_) rfl (by kernel_rfl) (by kernel_rfl) (by kernel_rfl) (fun _ _ _ h => h) (Or.inl ⟨by rfl, ?_⟩) (by assumption) ?_
      rotate_left
      · (intro w hSw; (try dsimp only at hSw); go_simp; (try with_reducible rfl))
      (try simp only [Act.put, List.getElem_toArray, List.getElem_cons_zero, List.getElem_cons_succ, List.setIfInBounds_toArray, List.set_cons_zero, List.set_cons_succ])
      refine wpAnyH_take (i := 13) (v := ?_) rfl (by kernel_rfl) (by kernel_rfl) (by kernel_rfl) (fun _ _ _ h => h) (Or.inl ⟨by rfl, ?_⟩) (by assumption) ?_
      rotate_left
      · (intro w hSw; (try dsimp only at hSw); go_simp; (try with_reducible rfl))
      (try simp only [Act.put, List.getElem_toArray, List.getElem_cons_zero, List.getElem_cons_succ, List.setIfInBounds_toArray, List.set_cons_zero, List.set_cons_succ])
      refine wpAnyH_take (i := 14) (v := ?_) rfl (by kernel_rfl) (by kernel_rfl) (by kernel_rfl) (fun _ _ _ h => h) (Or.inl ⟨by rfl, ?_⟩) (by assumption) ?_
      rotate_left
      · (intro w hSw; (try dsimp only at hSw); go_simp; (try with_reducible rfl))
      (try simp only [Act.put, List.getElem_toArray, List.getElem_cons_zero, List.getElem_cons_succ, List.setIfInBounds_toArray, List.set_cons_zero, List.set_cons_succ])
      refine wpAnyH_take (i := 17) (v := ?_) rfl (by kernel_rfl) (by kernel_rfl) (by kernel_rfl) (fun _ _ _ h => h) (Or.inl ⟨by rfl, ?_⟩) (by assumption) ?_
      rotate_left
      · (intro w hSw; (try dsimp only at hSw); go_simp; (try with_reducible rfl))
      (try simp only [Act.put, List.getElem_toArray, List.getElem_cons_zero, List.getElem_cons_succ, List.setIfInBounds_toArray, List.set_cons_zero, List.set_cons_succ])
      refine wpAnyH_take (i := 18) (v := ?_) rfl (by kernel_rfl) (by kernel_rfl) (by kernel_rfl) (fun _ _ _ h => h) (Or.inl ⟨by rfl, ?_⟩) (by assumption) ?_
      rotate_left
      · (intro w hSw; (try dsimp only at hSw); go_simp; (try with_reducible rfl))
      (try simp only [Act.put, List.getElem_toArray, List.getElem_cons_zero, List.getElem_cons_succ, List.setIfInBounds_toArray, List.set_cons_zero, List.set_cons_succ])
      refine wpAnyH_ready (rs := [15]) (by kernel_rfl) (by simp) ?_
      refine AllReadyH.cons rfl (fun K hK => ?_) AllReadyH.nil
      simp only [List.getElem_toArray, List.getElem_cons_zero, List.getElem_cons_succ]
      go_simp
      rw [HZE.out]
      with_reducible refine (HRot.out _).mono ?_
      rintro e w3 ⟨rfl, rfl⟩
      refine hK.out _ _ ?_ (fun hHeld => ?_)
      · exact hHeld
      clear hK K
      (try simp only [Act.put, List.getElem_toArray, List.getElem_cons_zero, List.getElem_cons_succ, List.setIfInBounds_toArray, List.set_cons_zero, List.set_cons_succ])
      refine wpAnyH_take (i := 16) (v := ?_) rfl (by kernel_rfl) (by kernel_rfl) (by kernel_rfl) (fun _ _ _ h => h) (Or.inl ⟨by rfl, ?_⟩) (by assumption) ?_
      rotate_left
      · (intro w hSw; (try dsimp only at hSw); go_simp; (try with_reducible rfl))
      (try simp only [Act.put, List.getElem_toArray, List.getElem_cons_zero, List.getElem_cons_succ, List.setIfInBounds_toArray, List.set_cons_zero, List.set_cons_succ])
      refine wpAnyH_take (i := 19) (v := ?_) rfl (by kernel_rfl) (by kernel_rfl) (by kernel_rfl) (fun _ _ _ h => h) (Or.inl ⟨by rfl, ?_⟩) (by assumption) ?_
      rotate_left
      · (intro w hSw; (try dsimp only at hSw); go_simp; (try with_reducible rfl))
      (try simp only [Act.put, List.getElem_toArray, List.getElem_cons_zero, List.getElem_cons_succ, List.setIfInBounds_toArray, List.set_cons_zero, List.set_cons_succ])
      refine wpAnyH_take (i := 20) (v := ?_) rfl (by kernel_rfl) (by kernel_rfl) (by kernel_rfl) (fun _ _ _ h => h) (Or.inl ⟨by rfl, ?_⟩) (by assumption) ?_
      rotate_left
      · (intro w hSw; (try dsimp only at hSw); go_simp; (try with_reducible rfl))
      (try simp only [Act.put, List.getElem_toArray, List.getElem_cons_zero, List.getElem_cons_succ, List.setIfInBounds_toArray, List.set_cons_zero, List.set_cons_succ])
      refine wpAnyH_take (i := 21) (v := ?_) rfl (by kernel_rfl) (by kernel_rfl) (by kernel_rfl) (fun _ _ _ h => h) (Or.inl ⟨by rfl, ?_⟩) (by assumption) ?_
      rotate_left
      · (intro w hSw; (try dsimp only at hSw); go_simp; (try with_reducible rfl))
      (try simp only [Act.put, List.getElem_toArray, List.getElem_cons_zero, List.getElem_cons_succ, List.setIfInBounds_toArray, List.set_cons_zero, List.set_cons_succ])
      refine wpAnyH_take (i := 22) (v := ?_) rfl (by kernel_rfl) (by kernel_rfl) (by kernel_rfl) (fun _ _ _ h => h) (Or.inl ⟨by rfl, ?_⟩) (by assumption) ?_
      rotate_left
      · (intro w hSw; (try dsimp only at hSw); go_simp; (try with_reducible rfl))
      (try simp only [Act.put, List.getElem_toArray, List.getElem_cons_zero, List.getElem_cons_succ, List.setIfInBounds_toArray, List.set_cons_zero, List.set_cons_succ])
      refine wpAnyH_done (by kernel_rfl) ?_ _
      refine NoPanic.normal ?_
      go_wp2
      have hrt : IntKind.u32.wrap ((xb : Int) + (rotN Z T : Nat)) = (((xb + rotN Z T) % 4294967296 : Nat) : Int) := wrap32 xb _
      go_roundw
      case rel => exact ⟨j + 1, by omega, by go_num, by rw [HNX.out, HSN.out], by rw [HNX.out, HSN.out, ← hrt], by rw [HNX.out, HSN.out], by rw [HNX.out, HSN.out], G1.drew, G2.drew, G3.drew, GM.drew, GB.drew⟩
      case measure => simp [intOf]; omega
    · obtain rfl : j = 64 := by omega
      have hx := hst 64
      have c0 := G1.cv 0 (.int .u32 (h.a : Int)) rfl
      have c1 := G1.cv 1 (.int .u32 (h.b : Int)) rfl
      have c2 := G1.cv 2 (.int .u32 (h.c : Int)) rfl
      have c3 := G1.cv 3 (.int .u32 (h.d : Int)) rfl
      generalize stepsN l 0 h 64 = X at *
      obtain ⟨xa, xb, xc, xd⟩ := X
      have wa := wrap32 h.a xa
      have wb := wrap32 h.b xb
      have wc := wrap32 h.c xc
      have wd := wrap32 h.d xd
      have HBG : Hid (qC (blockG l h) = #[.int .u32 (((h.a + xa) % 4294967296 : Nat) : Int), .int .u32 (((h.b + xb) % 4294967296 : Nat) : Int), .int .u32 (((h.c + xc) % 4294967296 : Nat) : Int), .int .u32 (((h.d + xd) % 4294967296 : Nat) : Int)]) := by show _ = _; rw [hbg]; rfl
      generalize (h.a + xa) % 4294967296 = ya at *
      generalize (h.b + xb) % 4294967296 = yb at *
      generalize (h.c + xc) % 4294967296 = yc at *
      generalize (h.d + xd) % 4294967296 = yd at *
      clear hst hbg hx
      dsimp only
      go_upto_region 9 with (fail)
      refine wp_region_lit ?_
      go_wp2_with (first
        | (refine build_blk (t := 47) #[.int .u32 (ya : Int), .int .u32 (yb : Int), .int .u32 (yc : Int), .int .u32 (yd : Int)] (by rfl) rfl (by kernel_rfl) ?_)
        | (refine store_blk (k := 0) 47 (.agg #[.int .u32 (ya : Int), .int .u32 (yb : Int), .int .u32 (yc : Int), .int .u32 (yd : Int)]) #[.int .u32 (ya : Int), .int .u32 (yb : Int), .int .u32 (yc : Int), .int .u32 (yd : Int)] (by rfl) rfl rfl rfl G3 (by kernel_rfl) (show (4 : Nat) ≤ 4 from Nat.le_refl 4) (by rfl) (st_whole _ _ rfl) ?_; intro w4 HV b4 g4))
      exact bodyPost_ret (results_blk rfl rfl HV (by kernel_rfl) (by kernel_rfl)) rfl ⟨by rw [HBG.out], GB.trans (b4.mono (by omega))⟩

end Go.Proofs.YtlfeholphngilaaDoor
