/- The reference's FrameWrite at every frame that may be. -/
import Derived.Test.YtageodliabdhmaaDoorRefPad
import Derived.Test.YtageodliabdhmaaDoorBe
import Derived.Test.YtageodliabdhmaaDoorTagPk
import Derived.Test.YtageodliabdhmaaDoorMapB
import Derived.Test.YtageodliabdhmaaDoorFrRight
import Derived.Deep.Cut
import Derived.Test.YtageodliabdhmaaDoorRefStack
namespace Go.Proofs.YtageodliabdhmaaDoor
open Go.RowKit
attribute [local go_sem ↓] Go.wp_at_zero Go.wp_at_succ
set_option linter.unusedSimpArgs false
set_option linter.unusedVariables false
set_option maxRecDepth 100000

/-- Six bytes. -/
def six (x : Nat → Nat) : List UInt8 := [UInt8.ofNat (x 0), UInt8.ofNat (x 1), UInt8.ofNat (x 2), UInt8.ofNat (x 3), UInt8.ofNat (x 4), UInt8.ofNat (x 5)]
def markL (s : Bool) : List UInt8 := if s then [136, 168] else [129, 0]
def tagL (t : Tg) : List UInt8 := markL t.s ++ putL (packN t).toNat 2
def innerL (f : Fr) : List UInt8 := if f.k = 2 then putL f.da.toNat 1 ++ putL f.sa.toNat 1 ++ putL f.ct.toNat 1 ++ f.bo.data.toList else [170, 170, 3] ++ putL f.ou.toNat 3 ++ putL f.pi.toNat 2 ++ f.bo.data.toList
def kindL (f : Fr) : List UInt8 := if f.k = 1 then putL f.t.toNat 2 ++ f.bo.data.toList else putL (innerL f).length 2 ++ innerL f
def writeL (f : Fr) : List UInt8 := six f.d ++ six f.s ++ f.tl.flatMap tagL ++ kindL f

/-- Six bytes in a frame's block, as a text. -/
theorem six_text (W : World) (B o : Nat) (x : Nat → Nat) (hx : ∀ i, x i < 256) (hc : ∀ j, j < 6 → W.cell? ⟨B, o + j, none⟩ = some (.int .u8 (x j))) :
    (convert 37 9 (.slice (some ⟨B, o, none⟩) 6 6)).run Tryd.prog W = .ok (.string ⟨(six x).toArray⟩) W := by
  have h := run_convert_bytes_back (P := Tryd.prog) W 37 9 5 ⟨B, o, none⟩ 6 (six x) Tryd.underlying37 Tryd.underlying5 Tryd.underlying9 (fun j hj => by
    have hj6 : j < 6 := hj
    rw [Addr.add_lit, hc j hj6]
    have e : ∀ n, n < 256 → ((UInt8.ofNat n).toNat : Int) = (n : Int) := fun n hn => by rw [UInt8.toNat_ofNat']; omega
    have : j = 0 ∨ j = 1 ∨ j = 2 ∨ j = 3 ∨ j = 4 ∨ j = 5 := by omega
    rcases this with rfl | rfl | rfl | rfl | rfl | rfl <;> simp [six, e, hx] <;> (have := hx 0; have := hx 1; have := hx 2; have := hx 3; have := hx 4; have := hx 5; omega))
  exact h

/-- .. at a step of a region that draws its order. -/
theorem exec_six {a : Act} {o : Oper} {w : World} {x : Operand} {B k : Nat} (y : Nat → Nat) (ho : o.op = .convert 37 9 x) (hx : a.eval x = .slice (some ⟨B, k, none⟩) 6 6) (hy : ∀ i, y i < 256) (hc : ∀ j, j < 6 → w.cell? ⟨B, k + j, none⟩ = some (.int .u8 (y j))) :
    (execOp a.eval o).run Tryd.prog w = .ok (.value (.string ⟨(six y).toArray⟩)) w := by
  have h := six_text w B k y hy hc
  unfold execOp
  simp only [ho, hx, Sem.run_bind, Sem.run_pure, Result.andThen_ok, h]
theorem six_d {w : World} {B : Nat} {f : Fr} (h : HasF w B f) (j : Nat) (hj : j < 6) : w.cell? ⟨B, 0 + j, none⟩ = some (.int .u8 (f.d j)) := by
  rw [Nat.zero_add, h.c j]
  have : j = 0 ∨ j = 1 ∨ j = 2 ∨ j = 3 ∨ j = 4 ∨ j = 5 := by omega
  rcases this with rfl | rfl | rfl | rfl | rfl | rfl <;> rfl
theorem six_s {w : World} {B : Nat} {f : Fr} (h : HasF w B f) (j : Nat) (hj : j < 6) : w.cell? ⟨B, 6 + j, none⟩ = some (.int .u8 (f.s j)) := by
  rw [h.c (6 + j)]
  have : j = 0 ∨ j = 1 ∨ j = 2 ∨ j = 3 ∨ j = 4 ∨ j = 5 := by omega
  rcases this with rfl | rfl | rfl | rfl | rfl | rfl <;> rfl


/-- What stands ahead of what is no tag, k tags of it. -/
def hdL (f : Fr) (k : Nat) : List UInt8 := six f.d ++ six f.s ++ (f.tl.take k).flatMap tagL
theorem tagL_len (t : Tg) : (tagL t).length = 4 := by unfold tagL markL; rw [List.length_append, putL_length]; split <;> rfl
theorem hdL_succ (f : Fr) (k : Nat) (t : Tg) (h : f.tl[k]? = some t) : hdL f (k + 1) = hdL f k ++ (markL t.s ++ putL (packN t).toNat 2) := by
  unfold hdL
  rw [List.take_add_one, h, List.flatMap_append]
  simp [tagL]
theorem flat_len (l : List Tg) : (l.flatMap tagL).length = 4 * l.length := by
  induction l with
  | nil => rfl
  | cons t l ih => rw [List.flatMap_cons, List.length_append, ih, tagL_len, List.length_cons]; omega
theorem hdL_len (f : Fr) (k : Nat) : (hdL f k).length ≤ 12 + 4 * k := by
  unfold hdL
  rw [List.length_append, List.length_append, flat_len]
  have : (f.tl.take k).length ≤ k := List.length_take_le k _
  simp [six]
  omega
theorem hdL_all (f : Fr) : hdL f f.tl.length = six f.d ++ six f.s ++ f.tl.flatMap tagL := by unfold hdL; rw [List.take_length]
theorem add_body {P : Program} (y : List UInt8) (b : ByteArray) (hy : y.length ≤ 8000000) (hb : b.size ≤ 3000) (W : World) : (Op.stringOp .add ⟨y.toArray⟩ b).run P W = .ok (.string ⟨(y ++ b.data.toList).toArray⟩) W :=
  run_string_add_lists (P := P) W y b.data.toList (by omega) (by have : b.data.toList.length = b.size := by simp
                                                                 omega)
theorem pack_le (t : Tg) (h : okT t = true) : 0 ≤ packN t ∧ packN t ≤ 65535 := by
  obtain ⟨a, b, c, d⟩ := okT_all h
  unfold packN
  split <;> omega

theorem right_parts (f : Fr) (h : kindB f = true) : ((f.k == 1) = true ∧ 0 ≤ f.t ∧ f.t ≤ 65535) ∨
    ((f.k == 1) = false ∧ (f.k == 2) = true ∧ (0 ≤ f.da ∧ f.da ≤ 255) ∧ (0 ≤ f.sa ∧ f.sa ≤ 255) ∧ (0 ≤ f.ct ∧ f.ct ≤ 255)) ∨
    ((f.k == 1) = false ∧ (f.k == 2) = false ∧ (f.k == 3) = true ∧ (0 ≤ f.ou ∧ f.ou ≤ 16777215) ∧ (0 ≤ f.pi ∧ f.pi ≤ 65535)) := by
  unfold kindB at h
  by_cases h1 : f.k = 1
  · rw [if_pos h1] at h
    simp [typB] at h
    exact Or.inl ⟨by simp [h1], by omega, by omega⟩
  · rw [if_neg h1] at h
    by_cases h2 : f.k = 2
    · rw [if_pos h2] at h
      simp [llcB, upB] at h
      exact Or.inr (Or.inl ⟨by simp [h1], by simp [h2], by omega, by omega, by omega⟩)
    · rw [if_neg h2] at h
      by_cases h3 : f.k = 3
      · rw [if_pos h3] at h
        simp [snapB, upB] at h
        exact Or.inr (Or.inr ⟨by simp [h1], by simp [h2], by simp [h3], by omega, by omega⟩)
      · rw [if_neg h3] at h
        cases h
theorem write_1 (f : Fr) (h : (f.k == 1) = true) : writeL f = (hdL f f.tl.length ++ putL f.t.toNat 2) ++ f.bo.data.toList := by
  have hk : f.k = 1 := by simpa using h
  rw [hdL_all]
  unfold writeL kindL
  rw [if_pos hk]
  simp
theorem write_n (f : Fr) (h : (f.k == 1) = false) : writeL f = (hdL f f.tl.length ++ putL (innerL f).length 2) ++ innerL f := by
  have hk : ¬ f.k = 1 := by simpa using h
  rw [hdL_all]
  unfold writeL kindL
  rw [if_neg hk]
  simp
theorem inner_2 (f : Fr) (h : (f.k == 2) = true) : innerL f = putL f.da.toNat 1 ++ putL f.sa.toNat 1 ++ putL f.ct.toNat 1 ++ f.bo.data.toList := by
  have hk : f.k = 2 := by simpa using h
  unfold innerL
  rw [if_pos hk]
theorem inner_3 (f : Fr) (h : (f.k == 2) = false) : innerL f = [170, 170, 3] ++ putL f.ou.toNat 3 ++ putL f.pi.toNat 2 ++ f.bo.data.toList := by
  have hk : ¬ f.k = 2 := by simpa using h
  unfold innerL
  rw [if_neg hk]

set_option maxHeartbeats 6400000 in
theorem refWrite_yes (f : Fr) (w : World) (hf : FrIn w f) (hd8 : ∀ i, f.d i < 256) (hs8 : ∀ i, f.s i < 256) (hr : rightB f = true) (hst : stackB f.tl = true)
    (HRR : Hid (∀ W, FrIn W f → Calls Tryd.prog 9 #[frV f] W fun e w' => e = .returned (.bool (rightB f)) ∧ Below W.heap.size W w')) :
    Calls Tryd.prog 4 #[frV f] w fun e w' => e = .returned (.tuple #[.string ⟨(writeL f).toArray⟩, .int .i64 0]) ∧ Below w.heap.size w w' := by
  have hb0 : Below w.heap.size w (w.alloc (.cells (frC f) 26)) := (Below.refl _ _).alloc (Nat.le_refl _) _
  have hF0 := HasF.new w f
  have hI0 := hf.below hb0
  have hfew := hf.few
  have hshort := hf.short
  have hall : Hid (∀ (j : Nat) t, f.tl[j]? = some t → okT t = true) := fun j t h => by
    simp only [stackB, Bool.and_eq_true] at hst
    exact List.all_eq_true.1 hst.1 t (List.mem_of_getElem? h)
  have hkb : Hid (kindB f = true) := by
    unfold rightB at hr
    simp only [Bool.and_eq_true] at hr
    exact hr.2.2
  clear hst
  rw [hr] at HRR
  clear hr
  have hmm := @run_makeMap Tryd.prog
  unfold frV frC at *
  go_enter Tryd.func4, Tryd.ntmps4
  go_upto_region 1 with (fail)
  generalize w.alloc (.cells #[.int .u8 (f.d 0), .int .u8 (f.d 1), .int .u8 (f.d 2), .int .u8 (f.d 3), .int .u8 (f.d 4), .int .u8 (f.d 5), .int .u8 (f.s 0), .int .u8 (f.s 1), .int .u8 (f.s 2), .int .u8 (f.s 3), .int .u8 (f.s 4), .int .u8 (f.s 5), .slice f.ta f.tl.length f.tc, .int .i64 f.k, .int .i64 f.t, .int .i64 f.da, .int .i64 f.sa, .int .i64 f.ct, .int .i64 f.ou, .int .i64 f.pi, .string f.bo] 26) = w1 at *
  go_upto_region 3 with (first | ((refine load_fr _ f w.heap.size (by rfl) rfl rfl hF0 ?_)) | (go_at_call 9; (with_reducible refine (HRR.out _ ?_).mono ?_); (exact hI0); rintro e w2 ⟨rfl, b2⟩))
  have hF2 : HasF w2 w.heap.size f := hF0.below b2 hF0.lt
  have B2 : Below w.heap.size w w2 := hb0.trans (b2.mono hb0.size)
  have hI2 : FrIn w2 f := hI0.below b2
  clear b2 hF0 hI0 hb0
  have hadd : ∀ W, (Op.stringOp .add ⟨(six f.d).toArray⟩ ⟨(six f.s).toArray⟩).run Tryd.prog W = .ok (.string ⟨(six f.d ++ six f.s).toArray⟩) W := fun W => run_string_add_lists (P := Tryd.prog) W (six f.d) (six f.s) (by simp [six]) (by simp [six])
  refine wp_region_noPanic ?_
  refine wp_region_held_drew (S := (fun w' => HasF w' w.heap.size f)) (by kernel_rfl) ?_ (fun hHeld => ?_)
  · exact hF2
  refine wpAnyH_take (i := 0) (v := ?_) rfl (by kernel_rfl) (by kernel_rfl) (by kernel_rfl) (fun _ _ _ h => h) (Or.inl ⟨by rfl, ?_⟩) (by assumption) ?_
  rotate_left
  · (intro w hSw; (try dsimp only at hSw); go_simp; (try with_reducible rfl))
  (try simp only [Act.put, List.getElem_toArray, List.getElem_cons_zero, List.getElem_cons_succ, List.setIfInBounds_toArray, List.set_cons_zero, List.set_cons_succ])
  refine wpAnyH_take (i := 1) (v := ?_) rfl (by kernel_rfl) (by kernel_rfl) (by kernel_rfl) (fun _ _ _ h => h) (Or.inl ⟨by rfl, ?_⟩) (by assumption) ?_
  rotate_left
  · (intro w hSw; (try dsimp only at hSw); go_simp; (try with_reducible rfl))
  (try simp only [Act.put, List.getElem_toArray, List.getElem_cons_zero, List.getElem_cons_succ, List.setIfInBounds_toArray, List.set_cons_zero, List.set_cons_succ])
  refine wpAnyH_take (i := 2) (v := (.string ⟨(six f.d).toArray⟩)) rfl (by kernel_rfl) (by kernel_rfl) (by kernel_rfl) (fun _ _ _ h => h) (Or.inl ⟨by rfl, fun w hSw => exec_six f.d rfl rfl hd8 (fun j hj => six_d hSw j hj)⟩) (by assumption) ?_
  (try simp only [Act.put, List.getElem_toArray, List.getElem_cons_zero, List.getElem_cons_succ, List.setIfInBounds_toArray, List.set_cons_zero, List.set_cons_succ])
  refine wpAnyH_take (i := 3) (v := ?_) rfl (by kernel_rfl) (by kernel_rfl) (by kernel_rfl) (fun _ _ _ h => h) (Or.inl ⟨by rfl, ?_⟩) (by assumption) ?_
  rotate_left
  · (intro w hSw; (try dsimp only at hSw); go_simp; (try with_reducible rfl))
  (try simp only [Act.put, List.getElem_toArray, List.getElem_cons_zero, List.getElem_cons_succ, List.setIfInBounds_toArray, List.set_cons_zero, List.set_cons_succ])
  refine wpAnyH_take (i := 4) (v := ?_) rfl (by kernel_rfl) (by kernel_rfl) (by kernel_rfl) (fun _ _ _ h => h) (Or.inl ⟨by rfl, ?_⟩) (by assumption) ?_
  rotate_left
  · (intro w hSw; (try dsimp only at hSw); go_simp; (try with_reducible rfl))
  (try simp only [Act.put, List.getElem_toArray, List.getElem_cons_zero, List.getElem_cons_succ, List.setIfInBounds_toArray, List.set_cons_zero, List.set_cons_succ])
  refine wpAnyH_take (i := 5) (v := (.string ⟨(six f.s).toArray⟩)) rfl (by kernel_rfl) (by kernel_rfl) (by kernel_rfl) (fun _ _ _ h => h) (Or.inl ⟨by rfl, fun w hSw => exec_six f.s rfl rfl hs8 (fun j hj => six_s hSw j hj)⟩) (by assumption) ?_
  (try simp only [Act.put, List.getElem_toArray, List.getElem_cons_zero, List.getElem_cons_succ, List.setIfInBounds_toArray, List.set_cons_zero, List.set_cons_succ])
  refine wpAnyH_take (i := 6) (v := ?_) rfl (by kernel_rfl) (by kernel_rfl) (by kernel_rfl) (fun _ _ _ h => h) (Or.inl ⟨by rfl, ?_⟩) (by assumption) ?_
  rotate_left
  · (intro w hSw; (try dsimp only at hSw); go_simp; (try with_reducible rfl))
  (try simp only [Act.put, List.getElem_toArray, List.getElem_cons_zero, List.getElem_cons_succ, List.setIfInBounds_toArray, List.set_cons_zero, List.set_cons_succ])
  refine wpAnyH_take (i := 7) (v := ?_) rfl (by kernel_rfl) (by kernel_rfl) (by kernel_rfl) (fun _ _ _ h => h) (Or.inl ⟨by rfl, ?_⟩) (by assumption) ?_
  rotate_left
  · (intro w hSw; (try dsimp only at hSw); go_simp; (try with_reducible rfl))
  (try simp only [Act.put, List.getElem_toArray, List.getElem_cons_zero, List.getElem_cons_succ, List.setIfInBounds_toArray, List.set_cons_zero, List.set_cons_succ])
  refine wpAnyH_done (by kernel_rfl) ?_ _
  refine NoPanic.normal ?_
  have hF3 : HasF w2.drew w.heap.size f := hF2
  have B3 : Below w.heap.size w w2.drew := B2.drew
  have hI3 : FrIn w2.drew f := ⟨hI2.tags, hI2.few, hI2.cap, hI2.short⟩
  generalize w2.drew = w3 at *
  have c12 : w3.cell? ⟨w.heap.size, 12, none⟩ = some (.slice f.ta f.tl.length f.tc) := (hF3.c 12).trans rfl
  clear hF2 B2 hI2 hHeld hadd HRR
  have hlt3 := hF3.lt
  go_wp2_with fail
  clear c12
  go_loopw [4, 23] (fun y i wr => ∃ k : Nat, k ≤ f.tl.length ∧ i = .int .i64 k ∧ y = .string ⟨(hdL f k).toArray⟩ ∧ HasF wr w.heap.size f ∧ FrIn wr f ∧ Below w.heap.size w wr) (fun _ i _ => f.tl.length - (intOf i).toNat)
  case atStart => exact ⟨0, by omega, rfl, by simp [hdL], hF3, hI3, B3⟩
  case round =>
    obtain ⟨k, hk, rfl, rfl, hFk, hIk, Bk⟩ := hrel
    by_cases hlt : k < f.tl.length
    · obtain ⟨t, ht⟩ : ∃ t, t = f.tl[k] := ⟨_, rfl⟩
      have htk : f.tl[k]? = some t := by rw [ht]; exact List.getElem?_eq_getElem hlt
      have hokt := hall.out k t htk
      obtain ⟨pk, hpk⟩ : ∃ pk, pk = packN t := ⟨_, rfl⟩
      have hple := pack_le t hokt
      rw [← hpk] at hple
      obtain ⟨mk, hmk⟩ : ∃ mk, mk = markL t.s := ⟨_, rfl⟩
      have hml : mk.length = 2 := by rw [hmk]; unfold markL; split <;> rfl
      obtain ⟨z, hz⟩ : ∃ z, z = putL pk.toNat 2 := ⟨_, rfl⟩
      have HBE : Hid (∀ W, Calls Tryd.prog 11 #[.int .i64 pk, .int .i64 2] W fun e w' => e = .returned (.string ⟨z.toArray⟩) ∧ Below W.heap.size W w') := fun W => by rw [hz]; exact be_any pk 2 W hple.1 (by omega) (by decide)
      have HT : Hid (hdL f (k + 1) = hdL f k ++ (mk ++ z)) := by show _ = _; rw [hdL_succ f k t htk, hmk, hz, hpk]
      have hyl := hdL_len f k
      generalize hdL f k = y at *
      have hzl : z.length = 2 := by rw [hz]; exact putL_length _ _
      clear hz
      have hPK : Hid (∀ W, Calls Tryd.prog 10 #[tagV t] W fun e w' => e = .returned (.tuple #[.int .i64 pk, .int .i64 0]) ∧ Below W.heap.size W w') := fun W => by rw [hpk]; exact refPack_yes t hokt W
      obtain ⟨ab, ao, hta, hbl, hat⟩ : ∃ b lo, f.ta = some ⟨b, lo, none⟩ ∧ b < wr.heap.size ∧ TagsAt wr b lo f.tl := by
        rcases hIk.tags with h | h
        · rw [h] at hlt; simp at hlt
        · exact h
      obtain ⟨q0, q1, q2, q3⟩ := hat k hlt
      rw [← ht] at q0 q1 q2 q3
      have hB4 := Bk.alloc Bk.size (.cells #[.bool t.s, .int .i64 t.p, .bool t.d, .int .i64 t.v] 39)
      have hA4 : Below wr.heap.size wr (wr.alloc (.cells #[.bool t.s, .int .i64 t.p, .bool t.d, .int .i64 t.v] 39)) := (Below.refl _ _).alloc (Nat.le_refl _) _
      have hF4 := hFk.below hA4 hFk.lt
      have hI4 := hIk.below hA4
      have hT4 : HasT (wr.alloc (.cells #[.bool t.s, .int .i64 t.p, .bool t.d, .int .i64 t.v] 39)) wr.heap.size t := heap_alloc_new wr _
      have b1 : (k : Int) < (f.tl.length : Int) := by omega
      have b2 : (0 : Int) ≤ (k : Int) := by omega
      clear hat hA4 ht
      go_wp2_with fail
      refine (hPK.out _).mono ?_
      rintro e w6 ⟨rfl, b6⟩
      have T6 : HasT w6 wr.heap.size t := hT4.below b6 hT4.lt
      have hF6 : HasF w6 w.heap.size f := hF4.below b6 hF4.lt
      have hI6 := hI4.below b6
      have B6 := hB4.trans (b6.mono hB4.size)
      clear hT4 hF4 hI4 hB4 b6 q0 q1 q2 q3 hFk hIk Bk hPK hta hbl htk hokt hpk
      have c1 : ∀ W, (Op.stringOp .add ⟨mk.toArray⟩ ⟨z.toArray⟩).run Tryd.prog W = .ok (.string ⟨(mk ++ z).toArray⟩) W := fun W => run_string_add_lists (P := Tryd.prog) W _ _ (by omega) (by omega)
      have c2 : ∀ W, (Op.stringOp .add ⟨y.toArray⟩ ⟨(mk ++ z).toArray⟩).run Tryd.prog W = .ok (.string ⟨(y ++ (mk ++ z)).toArray⟩) W := fun W => run_string_add_lists (P := Tryd.prog) W _ _ (by omega) (by rw [List.length_append]; omega)
      obtain ⟨ts, hts⟩ : ∃ ts, ts = t.s := ⟨_, rfl⟩
      have HM : Hid (mk = markL ts) := by show _ = _; rw [hmk, hts]
      obtain ⟨TB, hTB⟩ : ∃ TB, TB = wr.heap.size := ⟨_, rfl⟩
      rw [← hTB] at T6 ⊢
      obtain ⟨t0, t1, t2, t3⟩ := t
      dsimp only at hts
      subst hts
      have k0 : Below w6.heap.size w6 w6.drew := (Below.refl _ _).drew
      clear hmk hTB
      go_upto_region 8 with (fail)
      refine wp_region_noPanic ?_
      refine wp_region_held_drew (S := (fun w' => w'.cell? ⟨TB, 0, none⟩ = some (.bool ts))) (by kernel_rfl) ?_ (fun hHeld => ?_)
      · exact T6.c0
      generalize w6.drew = V1 at *
      refine wpAnyH_take (i := 0) (v := ?_) rfl (by kernel_rfl) (by kernel_rfl) (by kernel_rfl) (fun _ _ _ h => h) (Or.inl ⟨by rfl, ?_⟩) (by assumption) ?_
      rotate_left
      · (intro w hSw; (try dsimp only at hSw); go_simp; (try with_reducible rfl))
      (try simp only [Act.put, List.getElem_toArray, List.getElem_cons_zero, List.getElem_cons_succ, List.setIfInBounds_toArray, List.set_cons_zero, List.set_cons_succ])
      refine wpAnyH_take (i := 5) (v := ?_) rfl (by kernel_rfl) (by kernel_rfl) (by kernel_rfl) (fun _ _ _ h => h) (Or.inl ⟨by rfl, ?_⟩) (by assumption) ?_
      rotate_left
      · (intro w hSw; (try dsimp only at hSw); go_simp; (try with_reducible rfl))
      (try simp only [Act.put, List.getElem_toArray, List.getElem_cons_zero, List.getElem_cons_succ, List.setIfInBounds_toArray, List.set_cons_zero, List.set_cons_succ])
      refine wpAnyH_take (i := 6) (v := ?_) rfl (by kernel_rfl) (by kernel_rfl) (by kernel_rfl) (fun _ _ _ h => h) (Or.inl ⟨by rfl, ?_⟩) (by assumption) ?_
      rotate_left
      · (intro w hSw; (try dsimp only at hSw); go_simp; (try with_reducible rfl))
      (try simp only [Act.put, List.getElem_toArray, List.getElem_cons_zero, List.getElem_cons_succ, List.setIfInBounds_toArray, List.set_cons_zero, List.set_cons_succ])
      refine wpAnyH_take (i := 8) (v := ?_) rfl (by kernel_rfl) (by kernel_rfl) (by kernel_rfl) (fun _ _ _ h => h) (Or.inl ⟨by rfl, ?_⟩) (by assumption) ?_
      rotate_left
      · (intro w hSw; (try dsimp only at hSw); go_simp; (try with_reducible rfl))
      (try simp only [Act.put, List.getElem_toArray, List.getElem_cons_zero, List.getElem_cons_succ, List.setIfInBounds_toArray, List.set_cons_zero, List.set_cons_succ])
      refine wpAnyH_ready (rs := [1, 9]) (by kernel_rfl) (by simp) ?_
      refine (AllReadyH.cons rfl (fun K hK => ?_) (AllReadyH.cons rfl (fun K hK => ?_) AllReadyH.nil))
      ·
        simp only [List.getElem_toArray, List.getElem_cons_zero, List.getElem_cons_succ]
        have k1 : Below w6.heap.size w6 (V1.alloc (.map #[] 0)) := Below.alloc k0 k0.size _
        have m1 : (V1.alloc (.map #[] 0)).heap[V1.heap.size]? = some (.map #[] 0) := heap_alloc_new _ _
        have b1 : w6.heap.size ≤ V1.heap.size := Below.size k0
        go_simp
        refine hK.out _ _ ?_ (fun hHeld => ?_)
        · exact (HasT.below T6 k1 T6.lt).c0
        clear hK K
        (try simp only [Act.put, List.getElem_toArray, List.getElem_cons_zero, List.getElem_cons_succ, List.setIfInBounds_toArray, List.set_cons_zero, List.set_cons_succ])
        generalize V1.alloc (.map #[] 0) = W1 at *
        refine wpAnyH_ready (rs := [2, 3, 9]) (by kernel_rfl) (by simp) ?_
        refine (AllReadyH.cons rfl (fun K hK => ?_) (AllReadyH.cons rfl (fun K hK => ?_) (AllReadyH.cons rfl (fun K hK => ?_) AllReadyH.nil)))
        ·
          simp only [List.getElem_toArray, List.getElem_cons_zero, List.getElem_cons_succ]
          have e2 : (Instr.mapUpdate 42 (.map (some V1.heap.size)) (.bool true) (.string ⟨#[136, 168]⟩)).run Tryd.prog W1 = .ok () (putB W1 V1.heap.size (.map #[⟨.bool true, .string ⟨#[136, 168]⟩, 0⟩] 1)) := ins0 true _ m1
          have k2 : Below w6.heap.size w6 (putB W1 V1.heap.size (.map #[⟨.bool true, .string ⟨#[136, 168]⟩, 0⟩] 1)) := putB_below _ k1 b1
          have m2 : (putB W1 V1.heap.size (.map #[⟨.bool true, .string ⟨#[136, 168]⟩, 0⟩] 1)).heap[V1.heap.size]? = some (.map #[⟨.bool true, .string ⟨#[136, 168]⟩, 0⟩] 1) := putB_at _ (lt_of_block m1)
          go_simp
          clear e2
          refine hK.out _ _ ?_ (fun hHeld => ?_)
          · exact (HasT.below T6 k2 T6.lt).c0
          clear hK K
          (try simp only [Act.put, List.getElem_toArray, List.getElem_cons_zero, List.getElem_cons_succ, List.setIfInBounds_toArray, List.set_cons_zero, List.set_cons_succ])
          generalize putB W1 V1.heap.size (.map #[⟨.bool true, .string ⟨#[136, 168]⟩, 0⟩] 1) = W2 at *
          refine wpAnyH_ready (rs := [3, 9]) (by kernel_rfl) (by simp) ?_
          refine (AllReadyH.cons rfl (fun K hK => ?_) (AllReadyH.cons rfl (fun K hK => ?_) AllReadyH.nil))
          ·
            simp only [List.getElem_toArray, List.getElem_cons_zero, List.getElem_cons_succ]
            have e3 : (Instr.mapUpdate 42 (.map (some V1.heap.size)) (.bool false) (.string ⟨#[129, 0]⟩)).run Tryd.prog W2 = .ok () (putB W2 V1.heap.size (.map #[⟨.bool true, .string ⟨#[136, 168]⟩, 0⟩, ⟨.bool false, .string ⟨#[129, 0]⟩, 1⟩] 2)) := ins1 true _ _ m2
            have k3 : Below w6.heap.size w6 (putB W2 V1.heap.size (.map #[⟨.bool true, .string ⟨#[136, 168]⟩, 0⟩, ⟨.bool false, .string ⟨#[129, 0]⟩, 1⟩] 2)) := putB_below _ k2 b1
            have m3 : (putB W2 V1.heap.size (.map #[⟨.bool true, .string ⟨#[136, 168]⟩, 0⟩, ⟨.bool false, .string ⟨#[129, 0]⟩, 1⟩] 2)).heap[V1.heap.size]? = some (.map #[⟨.bool true, .string ⟨#[136, 168]⟩, 0⟩, ⟨.bool false, .string ⟨#[129, 0]⟩, 1⟩] 2) := putB_at _ (lt_of_block m2)
            go_simp
            clear e3
            refine hK.out _ _ ?_ (fun hHeld => ?_)
            · exact (HasT.below T6 k3 T6.lt).c0
            clear hK K
            (try simp only [Act.put, List.getElem_toArray, List.getElem_cons_zero, List.getElem_cons_succ, List.setIfInBounds_toArray, List.set_cons_zero, List.set_cons_succ])
            generalize putB W2 V1.heap.size (.map #[⟨.bool true, .string ⟨#[136, 168]⟩, 0⟩, ⟨.bool false, .string ⟨#[129, 0]⟩, 1⟩] 2) = W3 at *
            refine wpAnyH_take (i := 4) (v := ?_) rfl (by kernel_rfl) (by kernel_rfl) (by kernel_rfl) (fun _ _ _ h => h) (Or.inl ⟨by rfl, ?_⟩) (by assumption) ?_
            rotate_left
            · (intro w hSw; (try dsimp only at hSw); go_simp; (try with_reducible rfl))
            (try simp only [Act.put, List.getElem_toArray, List.getElem_cons_zero, List.getElem_cons_succ, List.setIfInBounds_toArray, List.set_cons_zero, List.set_cons_succ])
            refine wpAnyH_ready (rs := [7, 9]) (by kernel_rfl) (by simp) ?_
            refine (AllReadyH.cons rfl (fun K hK => ?_) (AllReadyH.cons rfl (fun K hK => ?_) AllReadyH.nil))
            ·
              simp only [List.getElem_toArray, List.getElem_cons_zero, List.getElem_cons_succ]
              have e4 : (Instr.lookup 42 (.map (some V1.heap.size)) (.bool ts) false).run Tryd.prog W3 = .ok (.string ⟨mk.toArray⟩) W3 := by rw [look2 _ _ _ _ m3]; rw [HM.out]; cases ts <;> rfl
              go_simp
              clear e4
              refine hK.out _ _ ?_ (fun hHeld => ?_)
              · exact (HasT.below T6 k3 T6.lt).c0
              clear hK K
              (try simp only [Act.put, List.getElem_toArray, List.getElem_cons_zero, List.getElem_cons_succ, List.setIfInBounds_toArray, List.set_cons_zero, List.set_cons_succ])
              refine wpAnyH_ready (rs := [9]) (by kernel_rfl) (by simp) ?_
              refine (AllReadyH.cons rfl (fun K hK => ?_) AllReadyH.nil)
              simp only [List.getElem_toArray, List.getElem_cons_zero, List.getElem_cons_succ]
              go_simp
              go_at_call 11
              with_reducible refine (HBE.out _).mono ?_
              rintro e W5 ⟨rfl, q5⟩
              have k5 : Below w6.heap.size w6 W5 := Below.trans k3 (Below.mono q5 (Below.size k3))
              have m5 := (Below.block q5 _ (lt_of_block m3)).trans m3
              refine hK.out _ _ ?_ (fun hHeld => ?_)
              · exact (HasT.below T6 k5 T6.lt).c0
              clear hK K
              (try simp only [Act.put, List.getElem_toArray, List.getElem_cons_zero, List.getElem_cons_succ, List.setIfInBounds_toArray, List.set_cons_zero, List.set_cons_succ])
              refine wpAnyH_take (i := 10) (v := ?_) rfl (by kernel_rfl) (by kernel_rfl) (by kernel_rfl) (fun _ _ _ h => h) (Or.inl ⟨by rfl, ?_⟩) (by assumption) ?_
              rotate_left
              · (intro w hSw; (try dsimp only at hSw); go_simp; (try with_reducible rfl))
              (try simp only [Act.put, List.getElem_toArray, List.getElem_cons_zero, List.getElem_cons_succ, List.setIfInBounds_toArray, List.set_cons_zero, List.set_cons_succ])
              refine wpAnyH_take (i := 11) (v := ?_) rfl (by kernel_rfl) (by kernel_rfl) (by kernel_rfl) (fun _ _ _ h => h) (Or.inl ⟨by rfl, ?_⟩) (by assumption) ?_
              rotate_left
              · (intro w hSw; (try dsimp only at hSw); go_simp; (try with_reducible rfl))
              (try simp only [Act.put, List.getElem_toArray, List.getElem_cons_zero, List.getElem_cons_succ, List.setIfInBounds_toArray, List.set_cons_zero, List.set_cons_succ])
              refine wpAnyH_take (i := 12) (v := ?_) rfl (by kernel_rfl) (by kernel_rfl) (by kernel_rfl) (fun _ _ _ h => h) (Or.inl ⟨by rfl, ?_⟩) (by assumption) ?_
              rotate_left
              · (intro w hSw; (try dsimp only at hSw); go_simp; (try with_reducible rfl))
              (try simp only [Act.put, List.getElem_toArray, List.getElem_cons_zero, List.getElem_cons_succ, List.setIfInBounds_toArray, List.set_cons_zero, List.set_cons_succ])
              refine wpAnyH_done (by kernel_rfl) ?_ _
              refine NoPanic.normal ?_
              have Bz := B6.trans (Below.mono k5 B6.size)
              have hFz : HasF W5 w.heap.size f := hF6.below k5 hF6.lt
              have hIz : FrIn W5 f := hI6.below k5
              clear B6 hF6 hI6 T6
              go_wp2
              go_roundw
              case rel => exact ⟨k + 1, by omega, by go_num, by rw [HT.out], hFz, hIz, Bz⟩
              case measure => simp [intOf]; omega
            ·
              simp only [List.getElem_toArray, List.getElem_cons_zero, List.getElem_cons_succ]
              go_simp
              go_at_call 11
              with_reducible refine (HBE.out _).mono ?_
              rintro e W6 ⟨rfl, q6⟩
              have k6 : Below w6.heap.size w6 W6 := Below.trans k3 (Below.mono q6 (Below.size k3))
              have m6 := (Below.block q6 _ (lt_of_block m3)).trans m3
              refine hK.out _ _ ?_ (fun hHeld => ?_)
              · exact (HasT.below T6 k6 T6.lt).c0
              clear hK K
              (try simp only [Act.put, List.getElem_toArray, List.getElem_cons_zero, List.getElem_cons_succ, List.setIfInBounds_toArray, List.set_cons_zero, List.set_cons_succ])
              refine wpAnyH_ready (rs := [7]) (by kernel_rfl) (by simp) ?_
              refine (AllReadyH.cons rfl (fun K hK => ?_) AllReadyH.nil)
              simp only [List.getElem_toArray, List.getElem_cons_zero, List.getElem_cons_succ]
              have e7 : (Instr.lookup 42 (.map (some V1.heap.size)) (.bool ts) false).run Tryd.prog W6 = .ok (.string ⟨mk.toArray⟩) W6 := by rw [look2 _ _ _ _ m6]; rw [HM.out]; cases ts <;> rfl
              go_simp
              clear e7
              refine hK.out _ _ ?_ (fun hHeld => ?_)
              · exact (HasT.below T6 k6 T6.lt).c0
              clear hK K
              (try simp only [Act.put, List.getElem_toArray, List.getElem_cons_zero, List.getElem_cons_succ, List.setIfInBounds_toArray, List.set_cons_zero, List.set_cons_succ])
              refine wpAnyH_take (i := 10) (v := ?_) rfl (by kernel_rfl) (by kernel_rfl) (by kernel_rfl) (fun _ _ _ h => h) (Or.inl ⟨by rfl, ?_⟩) (by assumption) ?_
              rotate_left
              · (intro w hSw; (try dsimp only at hSw); go_simp; (try with_reducible rfl))
              (try simp only [Act.put, List.getElem_toArray, List.getElem_cons_zero, List.getElem_cons_succ, List.setIfInBounds_toArray, List.set_cons_zero, List.set_cons_succ])
              refine wpAnyH_take (i := 11) (v := ?_) rfl (by kernel_rfl) (by kernel_rfl) (by kernel_rfl) (fun _ _ _ h => h) (Or.inl ⟨by rfl, ?_⟩) (by assumption) ?_
              rotate_left
              · (intro w hSw; (try dsimp only at hSw); go_simp; (try with_reducible rfl))
              (try simp only [Act.put, List.getElem_toArray, List.getElem_cons_zero, List.getElem_cons_succ, List.setIfInBounds_toArray, List.set_cons_zero, List.set_cons_succ])
              refine wpAnyH_take (i := 12) (v := ?_) rfl (by kernel_rfl) (by kernel_rfl) (by kernel_rfl) (fun _ _ _ h => h) (Or.inl ⟨by rfl, ?_⟩) (by assumption) ?_
              rotate_left
              · (intro w hSw; (try dsimp only at hSw); go_simp; (try with_reducible rfl))
              (try simp only [Act.put, List.getElem_toArray, List.getElem_cons_zero, List.getElem_cons_succ, List.setIfInBounds_toArray, List.set_cons_zero, List.set_cons_succ])
              refine wpAnyH_done (by kernel_rfl) ?_ _
              refine NoPanic.normal ?_
              have Bz := B6.trans (Below.mono k6 B6.size)
              have hFz : HasF W6 w.heap.size f := hF6.below k6 hF6.lt
              have hIz : FrIn W6 f := hI6.below k6
              clear B6 hF6 hI6 T6
              go_wp2
              go_roundw
              case rel => exact ⟨k + 1, by omega, by go_num, by rw [HT.out], hFz, hIz, Bz⟩
              case measure => simp [intOf]; omega
          ·
            simp only [List.getElem_toArray, List.getElem_cons_zero, List.getElem_cons_succ]
            go_simp
            go_at_call 11
            with_reducible refine (HBE.out _).mono ?_
            rintro e W8 ⟨rfl, q8⟩
            have k8 : Below w6.heap.size w6 W8 := Below.trans k2 (Below.mono q8 (Below.size k2))
            have m8 := (Below.block q8 _ (lt_of_block m2)).trans m2
            refine hK.out _ _ ?_ (fun hHeld => ?_)
            · exact (HasT.below T6 k8 T6.lt).c0
            clear hK K
            (try simp only [Act.put, List.getElem_toArray, List.getElem_cons_zero, List.getElem_cons_succ, List.setIfInBounds_toArray, List.set_cons_zero, List.set_cons_succ])
            refine wpAnyH_ready (rs := [3]) (by kernel_rfl) (by simp) ?_
            refine (AllReadyH.cons rfl (fun K hK => ?_) AllReadyH.nil)
            simp only [List.getElem_toArray, List.getElem_cons_zero, List.getElem_cons_succ]
            have e9 : (Instr.mapUpdate 42 (.map (some V1.heap.size)) (.bool false) (.string ⟨#[129, 0]⟩)).run Tryd.prog W8 = .ok () (putB W8 V1.heap.size (.map #[⟨.bool true, .string ⟨#[136, 168]⟩, 0⟩, ⟨.bool false, .string ⟨#[129, 0]⟩, 1⟩] 2)) := ins1 true _ _ m8
            have k9 : Below w6.heap.size w6 (putB W8 V1.heap.size (.map #[⟨.bool true, .string ⟨#[136, 168]⟩, 0⟩, ⟨.bool false, .string ⟨#[129, 0]⟩, 1⟩] 2)) := putB_below _ k8 b1
            have m9 : (putB W8 V1.heap.size (.map #[⟨.bool true, .string ⟨#[136, 168]⟩, 0⟩, ⟨.bool false, .string ⟨#[129, 0]⟩, 1⟩] 2)).heap[V1.heap.size]? = some (.map #[⟨.bool true, .string ⟨#[136, 168]⟩, 0⟩, ⟨.bool false, .string ⟨#[129, 0]⟩, 1⟩] 2) := putB_at _ (lt_of_block m8)
            go_simp
            clear e9
            refine hK.out _ _ ?_ (fun hHeld => ?_)
            · exact (HasT.below T6 k9 T6.lt).c0
            clear hK K
            (try simp only [Act.put, List.getElem_toArray, List.getElem_cons_zero, List.getElem_cons_succ, List.setIfInBounds_toArray, List.set_cons_zero, List.set_cons_succ])
            generalize putB W8 V1.heap.size (.map #[⟨.bool true, .string ⟨#[136, 168]⟩, 0⟩, ⟨.bool false, .string ⟨#[129, 0]⟩, 1⟩] 2) = W9 at *
            refine wpAnyH_take (i := 4) (v := ?_) rfl (by kernel_rfl) (by kernel_rfl) (by kernel_rfl) (fun _ _ _ h => h) (Or.inl ⟨by rfl, ?_⟩) (by assumption) ?_
            rotate_left
            · (intro w hSw; (try dsimp only at hSw); go_simp; (try with_reducible rfl))
            (try simp only [Act.put, List.getElem_toArray, List.getElem_cons_zero, List.getElem_cons_succ, List.setIfInBounds_toArray, List.set_cons_zero, List.set_cons_succ])
            refine wpAnyH_ready (rs := [7]) (by kernel_rfl) (by simp) ?_
            refine (AllReadyH.cons rfl (fun K hK => ?_) AllReadyH.nil)
            simp only [List.getElem_toArray, List.getElem_cons_zero, List.getElem_cons_succ]
            have e10 : (Instr.lookup 42 (.map (some V1.heap.size)) (.bool ts) false).run Tryd.prog W9 = .ok (.string ⟨mk.toArray⟩) W9 := by rw [look2 _ _ _ _ m9]; rw [HM.out]; cases ts <;> rfl
            go_simp
            clear e10
            refine hK.out _ _ ?_ (fun hHeld => ?_)
            · exact (HasT.below T6 k9 T6.lt).c0
            clear hK K
            (try simp only [Act.put, List.getElem_toArray, List.getElem_cons_zero, List.getElem_cons_succ, List.setIfInBounds_toArray, List.set_cons_zero, List.set_cons_succ])
            refine wpAnyH_take (i := 10) (v := ?_) rfl (by kernel_rfl) (by kernel_rfl) (by kernel_rfl) (fun _ _ _ h => h) (Or.inl ⟨by rfl, ?_⟩) (by assumption) ?_
            rotate_left
            · (intro w hSw; (try dsimp only at hSw); go_simp; (try with_reducible rfl))
            (try simp only [Act.put, List.getElem_toArray, List.getElem_cons_zero, List.getElem_cons_succ, List.setIfInBounds_toArray, List.set_cons_zero, List.set_cons_succ])
            refine wpAnyH_take (i := 11) (v := ?_) rfl (by kernel_rfl) (by kernel_rfl) (by kernel_rfl) (fun _ _ _ h => h) (Or.inl ⟨by rfl, ?_⟩) (by assumption) ?_
            rotate_left
            · (intro w hSw; (try dsimp only at hSw); go_simp; (try with_reducible rfl))
            (try simp only [Act.put, List.getElem_toArray, List.getElem_cons_zero, List.getElem_cons_succ, List.setIfInBounds_toArray, List.set_cons_zero, List.set_cons_succ])
            refine wpAnyH_take (i := 12) (v := ?_) rfl (by kernel_rfl) (by kernel_rfl) (by kernel_rfl) (fun _ _ _ h => h) (Or.inl ⟨by rfl, ?_⟩) (by assumption) ?_
            rotate_left
            · (intro w hSw; (try dsimp only at hSw); go_simp; (try with_reducible rfl))
            (try simp only [Act.put, List.getElem_toArray, List.getElem_cons_zero, List.getElem_cons_succ, List.setIfInBounds_toArray, List.set_cons_zero, List.set_cons_succ])
            refine wpAnyH_done (by kernel_rfl) ?_ _
            refine NoPanic.normal ?_
            have Bz := B6.trans (Below.mono k9 B6.size)
            have hFz : HasF W9 w.heap.size f := hF6.below k9 hF6.lt
            have hIz : FrIn W9 f := hI6.below k9
            clear B6 hF6 hI6 T6
            go_wp2
            go_roundw
            case rel => exact ⟨k + 1, by omega, by go_num, by rw [HT.out], hFz, hIz, Bz⟩
            case measure => simp [intOf]; omega
        ·
          simp only [List.getElem_toArray, List.getElem_cons_zero, List.getElem_cons_succ]
          have e11 : (Instr.mapUpdate 42 (.map (some V1.heap.size)) (.bool false) (.string ⟨#[129, 0]⟩)).run Tryd.prog W1 = .ok () (putB W1 V1.heap.size (.map #[⟨.bool false, .string ⟨#[129, 0]⟩, 0⟩] 1)) := ins0 false _ m1
          have k11 : Below w6.heap.size w6 (putB W1 V1.heap.size (.map #[⟨.bool false, .string ⟨#[129, 0]⟩, 0⟩] 1)) := putB_below _ k1 b1
          have m11 : (putB W1 V1.heap.size (.map #[⟨.bool false, .string ⟨#[129, 0]⟩, 0⟩] 1)).heap[V1.heap.size]? = some (.map #[⟨.bool false, .string ⟨#[129, 0]⟩, 0⟩] 1) := putB_at _ (lt_of_block m1)
          go_simp
          clear e11
          refine hK.out _ _ ?_ (fun hHeld => ?_)
          · exact (HasT.below T6 k11 T6.lt).c0
          clear hK K
          (try simp only [Act.put, List.getElem_toArray, List.getElem_cons_zero, List.getElem_cons_succ, List.setIfInBounds_toArray, List.set_cons_zero, List.set_cons_succ])
          generalize putB W1 V1.heap.size (.map #[⟨.bool false, .string ⟨#[129, 0]⟩, 0⟩] 1) = W11 at *
          refine wpAnyH_ready (rs := [2, 9]) (by kernel_rfl) (by simp) ?_
          refine (AllReadyH.cons rfl (fun K hK => ?_) (AllReadyH.cons rfl (fun K hK => ?_) AllReadyH.nil))
          ·
            simp only [List.getElem_toArray, List.getElem_cons_zero, List.getElem_cons_succ]
            have e12 : (Instr.mapUpdate 42 (.map (some V1.heap.size)) (.bool true) (.string ⟨#[136, 168]⟩)).run Tryd.prog W11 = .ok () (putB W11 V1.heap.size (.map #[⟨.bool false, .string ⟨#[129, 0]⟩, 0⟩, ⟨.bool true, .string ⟨#[136, 168]⟩, 1⟩] 2)) := ins1 false _ _ m11
            have k12 : Below w6.heap.size w6 (putB W11 V1.heap.size (.map #[⟨.bool false, .string ⟨#[129, 0]⟩, 0⟩, ⟨.bool true, .string ⟨#[136, 168]⟩, 1⟩] 2)) := putB_below _ k11 b1
            have m12 : (putB W11 V1.heap.size (.map #[⟨.bool false, .string ⟨#[129, 0]⟩, 0⟩, ⟨.bool true, .string ⟨#[136, 168]⟩, 1⟩] 2)).heap[V1.heap.size]? = some (.map #[⟨.bool false, .string ⟨#[129, 0]⟩, 0⟩, ⟨.bool true, .string ⟨#[136, 168]⟩, 1⟩] 2) := putB_at _ (lt_of_block m11)
            go_simp
            clear e12
            refine hK.out _ _ ?_ (fun hHeld => ?_)
            · exact (HasT.below T6 k12 T6.lt).c0
            clear hK K
            (try simp only [Act.put, List.getElem_toArray, List.getElem_cons_zero, List.getElem_cons_succ, List.setIfInBounds_toArray, List.set_cons_zero, List.set_cons_succ])
            generalize putB W11 V1.heap.size (.map #[⟨.bool false, .string ⟨#[129, 0]⟩, 0⟩, ⟨.bool true, .string ⟨#[136, 168]⟩, 1⟩] 2) = W12 at *
            refine wpAnyH_take (i := 4) (v := ?_) rfl (by kernel_rfl) (by kernel_rfl) (by kernel_rfl) (fun _ _ _ h => h) (Or.inl ⟨by rfl, ?_⟩) (by assumption) ?_
            rotate_left
            · (intro w hSw; (try dsimp only at hSw); go_simp; (try with_reducible rfl))
            (try simp only [Act.put, List.getElem_toArray, List.getElem_cons_zero, List.getElem_cons_succ, List.setIfInBounds_toArray, List.set_cons_zero, List.set_cons_succ])
            refine wpAnyH_ready (rs := [7, 9]) (by kernel_rfl) (by simp) ?_
            refine (AllReadyH.cons rfl (fun K hK => ?_) (AllReadyH.cons rfl (fun K hK => ?_) AllReadyH.nil))
            ·
              simp only [List.getElem_toArray, List.getElem_cons_zero, List.getElem_cons_succ]
              have e13 : (Instr.lookup 42 (.map (some V1.heap.size)) (.bool ts) false).run Tryd.prog W12 = .ok (.string ⟨mk.toArray⟩) W12 := by rw [look2 _ _ _ _ m12]; rw [HM.out]; cases ts <;> rfl
              go_simp
              clear e13
              refine hK.out _ _ ?_ (fun hHeld => ?_)
              · exact (HasT.below T6 k12 T6.lt).c0
              clear hK K
              (try simp only [Act.put, List.getElem_toArray, List.getElem_cons_zero, List.getElem_cons_succ, List.setIfInBounds_toArray, List.set_cons_zero, List.set_cons_succ])
              refine wpAnyH_ready (rs := [9]) (by kernel_rfl) (by simp) ?_
              refine (AllReadyH.cons rfl (fun K hK => ?_) AllReadyH.nil)
              simp only [List.getElem_toArray, List.getElem_cons_zero, List.getElem_cons_succ]
              go_simp
              go_at_call 11
              with_reducible refine (HBE.out _).mono ?_
              rintro e W14 ⟨rfl, q14⟩
              have k14 : Below w6.heap.size w6 W14 := Below.trans k12 (Below.mono q14 (Below.size k12))
              have m14 := (Below.block q14 _ (lt_of_block m12)).trans m12
              refine hK.out _ _ ?_ (fun hHeld => ?_)
              · exact (HasT.below T6 k14 T6.lt).c0
              clear hK K
              (try simp only [Act.put, List.getElem_toArray, List.getElem_cons_zero, List.getElem_cons_succ, List.setIfInBounds_toArray, List.set_cons_zero, List.set_cons_succ])
              refine wpAnyH_take (i := 10) (v := ?_) rfl (by kernel_rfl) (by kernel_rfl) (by kernel_rfl) (fun _ _ _ h => h) (Or.inl ⟨by rfl, ?_⟩) (by assumption) ?_
              rotate_left
              · (intro w hSw; (try dsimp only at hSw); go_simp; (try with_reducible rfl))
              (try simp only [Act.put, List.getElem_toArray, List.getElem_cons_zero, List.getElem_cons_succ, List.setIfInBounds_toArray, List.set_cons_zero, List.set_cons_succ])
              refine wpAnyH_take (i := 11) (v := ?_) rfl (by kernel_rfl) (by kernel_rfl) (by kernel_rfl) (fun _ _ _ h => h) (Or.inl ⟨by rfl, ?_⟩) (by assumption) ?_
              rotate_left
              · (intro w hSw; (try dsimp only at hSw); go_simp; (try with_reducible rfl))
              (try simp only [Act.put, List.getElem_toArray, List.getElem_cons_zero, List.getElem_cons_succ, List.setIfInBounds_toArray, List.set_cons_zero, List.set_cons_succ])
              refine wpAnyH_take (i := 12) (v := ?_) rfl (by kernel_rfl) (by kernel_rfl) (by kernel_rfl) (fun _ _ _ h => h) (Or.inl ⟨by rfl, ?_⟩) (by assumption) ?_
              rotate_left
              · (intro w hSw; (try dsimp only at hSw); go_simp; (try with_reducible rfl))
              (try simp only [Act.put, List.getElem_toArray, List.getElem_cons_zero, List.getElem_cons_succ, List.setIfInBounds_toArray, List.set_cons_zero, List.set_cons_succ])
              refine wpAnyH_done (by kernel_rfl) ?_ _
              refine NoPanic.normal ?_
              have Bz := B6.trans (Below.mono k14 B6.size)
              have hFz : HasF W14 w.heap.size f := hF6.below k14 hF6.lt
              have hIz : FrIn W14 f := hI6.below k14
              clear B6 hF6 hI6 T6
              go_wp2
              go_roundw
              case rel => exact ⟨k + 1, by omega, by go_num, by rw [HT.out], hFz, hIz, Bz⟩
              case measure => simp [intOf]; omega
            ·
              simp only [List.getElem_toArray, List.getElem_cons_zero, List.getElem_cons_succ]
              go_simp
              go_at_call 11
              with_reducible refine (HBE.out _).mono ?_
              rintro e W15 ⟨rfl, q15⟩
              have k15 : Below w6.heap.size w6 W15 := Below.trans k12 (Below.mono q15 (Below.size k12))
              have m15 := (Below.block q15 _ (lt_of_block m12)).trans m12
              refine hK.out _ _ ?_ (fun hHeld => ?_)
              · exact (HasT.below T6 k15 T6.lt).c0
              clear hK K
              (try simp only [Act.put, List.getElem_toArray, List.getElem_cons_zero, List.getElem_cons_succ, List.setIfInBounds_toArray, List.set_cons_zero, List.set_cons_succ])
              refine wpAnyH_ready (rs := [7]) (by kernel_rfl) (by simp) ?_
              refine (AllReadyH.cons rfl (fun K hK => ?_) AllReadyH.nil)
              simp only [List.getElem_toArray, List.getElem_cons_zero, List.getElem_cons_succ]
              have e16 : (Instr.lookup 42 (.map (some V1.heap.size)) (.bool ts) false).run Tryd.prog W15 = .ok (.string ⟨mk.toArray⟩) W15 := by rw [look2 _ _ _ _ m15]; rw [HM.out]; cases ts <;> rfl
              go_simp
              clear e16
              refine hK.out _ _ ?_ (fun hHeld => ?_)
              · exact (HasT.below T6 k15 T6.lt).c0
              clear hK K
              (try simp only [Act.put, List.getElem_toArray, List.getElem_cons_zero, List.getElem_cons_succ, List.setIfInBounds_toArray, List.set_cons_zero, List.set_cons_succ])
              refine wpAnyH_take (i := 10) (v := ?_) rfl (by kernel_rfl) (by kernel_rfl) (by kernel_rfl) (fun _ _ _ h => h) (Or.inl ⟨by rfl, ?_⟩) (by assumption) ?_
              rotate_left
              · (intro w hSw; (try dsimp only at hSw); go_simp; (try with_reducible rfl))
              (try simp only [Act.put, List.getElem_toArray, List.getElem_cons_zero, List.getElem_cons_succ, List.setIfInBounds_toArray, List.set_cons_zero, List.set_cons_succ])
              refine wpAnyH_take (i := 11) (v := ?_) rfl (by kernel_rfl) (by kernel_rfl) (by kernel_rfl) (fun _ _ _ h => h) (Or.inl ⟨by rfl, ?_⟩) (by assumption) ?_
              rotate_left
              · (intro w hSw; (try dsimp only at hSw); go_simp; (try with_reducible rfl))
              (try simp only [Act.put, List.getElem_toArray, List.getElem_cons_zero, List.getElem_cons_succ, List.setIfInBounds_toArray, List.set_cons_zero, List.set_cons_succ])
              refine wpAnyH_take (i := 12) (v := ?_) rfl (by kernel_rfl) (by kernel_rfl) (by kernel_rfl) (fun _ _ _ h => h) (Or.inl ⟨by rfl, ?_⟩) (by assumption) ?_
              rotate_left
              · (intro w hSw; (try dsimp only at hSw); go_simp; (try with_reducible rfl))
              (try simp only [Act.put, List.getElem_toArray, List.getElem_cons_zero, List.getElem_cons_succ, List.setIfInBounds_toArray, List.set_cons_zero, List.set_cons_succ])
              refine wpAnyH_done (by kernel_rfl) ?_ _
              refine NoPanic.normal ?_
              have Bz := B6.trans (Below.mono k15 B6.size)
              have hFz : HasF W15 w.heap.size f := hF6.below k15 hF6.lt
              have hIz : FrIn W15 f := hI6.below k15
              clear B6 hF6 hI6 T6
              go_wp2
              go_roundw
              case rel => exact ⟨k + 1, by omega, by go_num, by rw [HT.out], hFz, hIz, Bz⟩
              case measure => simp [intOf]; omega
          ·
            simp only [List.getElem_toArray, List.getElem_cons_zero, List.getElem_cons_succ]
            go_simp
            go_at_call 11
            with_reducible refine (HBE.out _).mono ?_
            rintro e W17 ⟨rfl, q17⟩
            have k17 : Below w6.heap.size w6 W17 := Below.trans k11 (Below.mono q17 (Below.size k11))
            have m17 := (Below.block q17 _ (lt_of_block m11)).trans m11
            refine hK.out _ _ ?_ (fun hHeld => ?_)
            · exact (HasT.below T6 k17 T6.lt).c0
            clear hK K
            (try simp only [Act.put, List.getElem_toArray, List.getElem_cons_zero, List.getElem_cons_succ, List.setIfInBounds_toArray, List.set_cons_zero, List.set_cons_succ])
            refine wpAnyH_ready (rs := [2]) (by kernel_rfl) (by simp) ?_
            refine (AllReadyH.cons rfl (fun K hK => ?_) AllReadyH.nil)
            simp only [List.getElem_toArray, List.getElem_cons_zero, List.getElem_cons_succ]
            have e18 : (Instr.mapUpdate 42 (.map (some V1.heap.size)) (.bool true) (.string ⟨#[136, 168]⟩)).run Tryd.prog W17 = .ok () (putB W17 V1.heap.size (.map #[⟨.bool false, .string ⟨#[129, 0]⟩, 0⟩, ⟨.bool true, .string ⟨#[136, 168]⟩, 1⟩] 2)) := ins1 false _ _ m17
            have k18 : Below w6.heap.size w6 (putB W17 V1.heap.size (.map #[⟨.bool false, .string ⟨#[129, 0]⟩, 0⟩, ⟨.bool true, .string ⟨#[136, 168]⟩, 1⟩] 2)) := putB_below _ k17 b1
            have m18 : (putB W17 V1.heap.size (.map #[⟨.bool false, .string ⟨#[129, 0]⟩, 0⟩, ⟨.bool true, .string ⟨#[136, 168]⟩, 1⟩] 2)).heap[V1.heap.size]? = some (.map #[⟨.bool false, .string ⟨#[129, 0]⟩, 0⟩, ⟨.bool true, .string ⟨#[136, 168]⟩, 1⟩] 2) := putB_at _ (lt_of_block m17)
            go_simp
            clear e18
            refine hK.out _ _ ?_ (fun hHeld => ?_)
            · exact (HasT.below T6 k18 T6.lt).c0
            clear hK K
            (try simp only [Act.put, List.getElem_toArray, List.getElem_cons_zero, List.getElem_cons_succ, List.setIfInBounds_toArray, List.set_cons_zero, List.set_cons_succ])
            generalize putB W17 V1.heap.size (.map #[⟨.bool false, .string ⟨#[129, 0]⟩, 0⟩, ⟨.bool true, .string ⟨#[136, 168]⟩, 1⟩] 2) = W18 at *
            refine wpAnyH_take (i := 4) (v := ?_) rfl (by kernel_rfl) (by kernel_rfl) (by kernel_rfl) (fun _ _ _ h => h) (Or.inl ⟨by rfl, ?_⟩) (by assumption) ?_
            rotate_left
            · (intro w hSw; (try dsimp only at hSw); go_simp; (try with_reducible rfl))
            (try simp only [Act.put, List.getElem_toArray, List.getElem_cons_zero, List.getElem_cons_succ, List.setIfInBounds_toArray, List.set_cons_zero, List.set_cons_succ])
            refine wpAnyH_ready (rs := [7]) (by kernel_rfl) (by simp) ?_
            refine (AllReadyH.cons rfl (fun K hK => ?_) AllReadyH.nil)
            simp only [List.getElem_toArray, List.getElem_cons_zero, List.getElem_cons_succ]
            have e19 : (Instr.lookup 42 (.map (some V1.heap.size)) (.bool ts) false).run Tryd.prog W18 = .ok (.string ⟨mk.toArray⟩) W18 := by rw [look2 _ _ _ _ m18]; rw [HM.out]; cases ts <;> rfl
            go_simp
            clear e19
            refine hK.out _ _ ?_ (fun hHeld => ?_)
            · exact (HasT.below T6 k18 T6.lt).c0
            clear hK K
            (try simp only [Act.put, List.getElem_toArray, List.getElem_cons_zero, List.getElem_cons_succ, List.setIfInBounds_toArray, List.set_cons_zero, List.set_cons_succ])
            refine wpAnyH_take (i := 10) (v := ?_) rfl (by kernel_rfl) (by kernel_rfl) (by kernel_rfl) (fun _ _ _ h => h) (Or.inl ⟨by rfl, ?_⟩) (by assumption) ?_
            rotate_left
            · (intro w hSw; (try dsimp only at hSw); go_simp; (try with_reducible rfl))
            (try simp only [Act.put, List.getElem_toArray, List.getElem_cons_zero, List.getElem_cons_succ, List.setIfInBounds_toArray, List.set_cons_zero, List.set_cons_succ])
            refine wpAnyH_take (i := 11) (v := ?_) rfl (by kernel_rfl) (by kernel_rfl) (by kernel_rfl) (fun _ _ _ h => h) (Or.inl ⟨by rfl, ?_⟩) (by assumption) ?_
            rotate_left
            · (intro w hSw; (try dsimp only at hSw); go_simp; (try with_reducible rfl))
            (try simp only [Act.put, List.getElem_toArray, List.getElem_cons_zero, List.getElem_cons_succ, List.setIfInBounds_toArray, List.set_cons_zero, List.set_cons_succ])
            refine wpAnyH_take (i := 12) (v := ?_) rfl (by kernel_rfl) (by kernel_rfl) (by kernel_rfl) (fun _ _ _ h => h) (Or.inl ⟨by rfl, ?_⟩) (by assumption) ?_
            rotate_left
            · (intro w hSw; (try dsimp only at hSw); go_simp; (try with_reducible rfl))
            (try simp only [Act.put, List.getElem_toArray, List.getElem_cons_zero, List.getElem_cons_succ, List.setIfInBounds_toArray, List.set_cons_zero, List.set_cons_succ])
            refine wpAnyH_done (by kernel_rfl) ?_ _
            refine NoPanic.normal ?_
            have Bz := B6.trans (Below.mono k18 B6.size)
            have hFz : HasF W18 w.heap.size f := hF6.below k18 hF6.lt
            have hIz : FrIn W18 f := hI6.below k18
            clear B6 hF6 hI6 T6
            go_wp2
            go_roundw
            case rel => exact ⟨k + 1, by omega, by go_num, by rw [HT.out], hFz, hIz, Bz⟩
            case measure => simp [intOf]; omega
        ·
          simp only [List.getElem_toArray, List.getElem_cons_zero, List.getElem_cons_succ]
          go_simp
          go_at_call 11
          with_reducible refine (HBE.out _).mono ?_
          rintro e W20 ⟨rfl, q20⟩
          have k20 : Below w6.heap.size w6 W20 := Below.trans k1 (Below.mono q20 (Below.size k1))
          have m20 := (Below.block q20 _ (lt_of_block m1)).trans m1
          refine hK.out _ _ ?_ (fun hHeld => ?_)
          · exact (HasT.below T6 k20 T6.lt).c0
          clear hK K
          (try simp only [Act.put, List.getElem_toArray, List.getElem_cons_zero, List.getElem_cons_succ, List.setIfInBounds_toArray, List.set_cons_zero, List.set_cons_succ])
          refine wpAnyH_ready (rs := [2, 3]) (by kernel_rfl) (by simp) ?_
          refine (AllReadyH.cons rfl (fun K hK => ?_) (AllReadyH.cons rfl (fun K hK => ?_) AllReadyH.nil))
          ·
            simp only [List.getElem_toArray, List.getElem_cons_zero, List.getElem_cons_succ]
            have e21 : (Instr.mapUpdate 42 (.map (some V1.heap.size)) (.bool true) (.string ⟨#[136, 168]⟩)).run Tryd.prog W20 = .ok () (putB W20 V1.heap.size (.map #[⟨.bool true, .string ⟨#[136, 168]⟩, 0⟩] 1)) := ins0 true _ m20
            have k21 : Below w6.heap.size w6 (putB W20 V1.heap.size (.map #[⟨.bool true, .string ⟨#[136, 168]⟩, 0⟩] 1)) := putB_below _ k20 b1
            have m21 : (putB W20 V1.heap.size (.map #[⟨.bool true, .string ⟨#[136, 168]⟩, 0⟩] 1)).heap[V1.heap.size]? = some (.map #[⟨.bool true, .string ⟨#[136, 168]⟩, 0⟩] 1) := putB_at _ (lt_of_block m20)
            go_simp
            clear e21
            refine hK.out _ _ ?_ (fun hHeld => ?_)
            · exact (HasT.below T6 k21 T6.lt).c0
            clear hK K
            (try simp only [Act.put, List.getElem_toArray, List.getElem_cons_zero, List.getElem_cons_succ, List.setIfInBounds_toArray, List.set_cons_zero, List.set_cons_succ])
            generalize putB W20 V1.heap.size (.map #[⟨.bool true, .string ⟨#[136, 168]⟩, 0⟩] 1) = W21 at *
            refine wpAnyH_ready (rs := [3]) (by kernel_rfl) (by simp) ?_
            refine (AllReadyH.cons rfl (fun K hK => ?_) AllReadyH.nil)
            simp only [List.getElem_toArray, List.getElem_cons_zero, List.getElem_cons_succ]
            have e22 : (Instr.mapUpdate 42 (.map (some V1.heap.size)) (.bool false) (.string ⟨#[129, 0]⟩)).run Tryd.prog W21 = .ok () (putB W21 V1.heap.size (.map #[⟨.bool true, .string ⟨#[136, 168]⟩, 0⟩, ⟨.bool false, .string ⟨#[129, 0]⟩, 1⟩] 2)) := ins1 true _ _ m21
            have k22 : Below w6.heap.size w6 (putB W21 V1.heap.size (.map #[⟨.bool true, .string ⟨#[136, 168]⟩, 0⟩, ⟨.bool false, .string ⟨#[129, 0]⟩, 1⟩] 2)) := putB_below _ k21 b1
            have m22 : (putB W21 V1.heap.size (.map #[⟨.bool true, .string ⟨#[136, 168]⟩, 0⟩, ⟨.bool false, .string ⟨#[129, 0]⟩, 1⟩] 2)).heap[V1.heap.size]? = some (.map #[⟨.bool true, .string ⟨#[136, 168]⟩, 0⟩, ⟨.bool false, .string ⟨#[129, 0]⟩, 1⟩] 2) := putB_at _ (lt_of_block m21)
            go_simp
            clear e22
            refine hK.out _ _ ?_ (fun hHeld => ?_)
            · exact (HasT.below T6 k22 T6.lt).c0
            clear hK K
            (try simp only [Act.put, List.getElem_toArray, List.getElem_cons_zero, List.getElem_cons_succ, List.setIfInBounds_toArray, List.set_cons_zero, List.set_cons_succ])
            generalize putB W21 V1.heap.size (.map #[⟨.bool true, .string ⟨#[136, 168]⟩, 0⟩, ⟨.bool false, .string ⟨#[129, 0]⟩, 1⟩] 2) = W22 at *
            refine wpAnyH_take (i := 4) (v := ?_) rfl (by kernel_rfl) (by kernel_rfl) (by kernel_rfl) (fun _ _ _ h => h) (Or.inl ⟨by rfl, ?_⟩) (by assumption) ?_
            rotate_left
            · (intro w hSw; (try dsimp only at hSw); go_simp; (try with_reducible rfl))
            (try simp only [Act.put, List.getElem_toArray, List.getElem_cons_zero, List.getElem_cons_succ, List.setIfInBounds_toArray, List.set_cons_zero, List.set_cons_succ])
            refine wpAnyH_ready (rs := [7]) (by kernel_rfl) (by simp) ?_
            refine (AllReadyH.cons rfl (fun K hK => ?_) AllReadyH.nil)
            simp only [List.getElem_toArray, List.getElem_cons_zero, List.getElem_cons_succ]
            have e23 : (Instr.lookup 42 (.map (some V1.heap.size)) (.bool ts) false).run Tryd.prog W22 = .ok (.string ⟨mk.toArray⟩) W22 := by rw [look2 _ _ _ _ m22]; rw [HM.out]; cases ts <;> rfl
            go_simp
            clear e23
            refine hK.out _ _ ?_ (fun hHeld => ?_)
            · exact (HasT.below T6 k22 T6.lt).c0
            clear hK K
            (try simp only [Act.put, List.getElem_toArray, List.getElem_cons_zero, List.getElem_cons_succ, List.setIfInBounds_toArray, List.set_cons_zero, List.set_cons_succ])
            refine wpAnyH_take (i := 10) (v := ?_) rfl (by kernel_rfl) (by kernel_rfl) (by kernel_rfl) (fun _ _ _ h => h) (Or.inl ⟨by rfl, ?_⟩) (by assumption) ?_
            rotate_left
            · (intro w hSw; (try dsimp only at hSw); go_simp; (try with_reducible rfl))
            (try simp only [Act.put, List.getElem_toArray, List.getElem_cons_zero, List.getElem_cons_succ, List.setIfInBounds_toArray, List.set_cons_zero, List.set_cons_succ])
            refine wpAnyH_take (i := 11) (v := ?_) rfl (by kernel_rfl) (by kernel_rfl) (by kernel_rfl) (fun _ _ _ h => h) (Or.inl ⟨by rfl, ?_⟩) (by assumption) ?_
            rotate_left
            · (intro w hSw; (try dsimp only at hSw); go_simp; (try with_reducible rfl))
            (try simp only [Act.put, List.getElem_toArray, List.getElem_cons_zero, List.getElem_cons_succ, List.setIfInBounds_toArray, List.set_cons_zero, List.set_cons_succ])
            refine wpAnyH_take (i := 12) (v := ?_) rfl (by kernel_rfl) (by kernel_rfl) (by kernel_rfl) (fun _ _ _ h => h) (Or.inl ⟨by rfl, ?_⟩) (by assumption) ?_
            rotate_left
            · (intro w hSw; (try dsimp only at hSw); go_simp; (try with_reducible rfl))
            (try simp only [Act.put, List.getElem_toArray, List.getElem_cons_zero, List.getElem_cons_succ, List.setIfInBounds_toArray, List.set_cons_zero, List.set_cons_succ])
            refine wpAnyH_done (by kernel_rfl) ?_ _
            refine NoPanic.normal ?_
            have Bz := B6.trans (Below.mono k22 B6.size)
            have hFz : HasF W22 w.heap.size f := hF6.below k22 hF6.lt
            have hIz : FrIn W22 f := hI6.below k22
            clear B6 hF6 hI6 T6
            go_wp2
            go_roundw
            case rel => exact ⟨k + 1, by omega, by go_num, by rw [HT.out], hFz, hIz, Bz⟩
            case measure => simp [intOf]; omega
          ·
            simp only [List.getElem_toArray, List.getElem_cons_zero, List.getElem_cons_succ]
            have e24 : (Instr.mapUpdate 42 (.map (some V1.heap.size)) (.bool false) (.string ⟨#[129, 0]⟩)).run Tryd.prog W20 = .ok () (putB W20 V1.heap.size (.map #[⟨.bool false, .string ⟨#[129, 0]⟩, 0⟩] 1)) := ins0 false _ m20
            have k24 : Below w6.heap.size w6 (putB W20 V1.heap.size (.map #[⟨.bool false, .string ⟨#[129, 0]⟩, 0⟩] 1)) := putB_below _ k20 b1
            have m24 : (putB W20 V1.heap.size (.map #[⟨.bool false, .string ⟨#[129, 0]⟩, 0⟩] 1)).heap[V1.heap.size]? = some (.map #[⟨.bool false, .string ⟨#[129, 0]⟩, 0⟩] 1) := putB_at _ (lt_of_block m20)
            go_simp
            clear e24
            refine hK.out _ _ ?_ (fun hHeld => ?_)
            · exact (HasT.below T6 k24 T6.lt).c0
            clear hK K
            (try simp only [Act.put, List.getElem_toArray, List.getElem_cons_zero, List.getElem_cons_succ, List.setIfInBounds_toArray, List.set_cons_zero, List.set_cons_succ])
            generalize putB W20 V1.heap.size (.map #[⟨.bool false, .string ⟨#[129, 0]⟩, 0⟩] 1) = W24 at *
            refine wpAnyH_ready (rs := [2]) (by kernel_rfl) (by simp) ?_
            refine (AllReadyH.cons rfl (fun K hK => ?_) AllReadyH.nil)
            simp only [List.getElem_toArray, List.getElem_cons_zero, List.getElem_cons_succ]
            have e25 : (Instr.mapUpdate 42 (.map (some V1.heap.size)) (.bool true) (.string ⟨#[136, 168]⟩)).run Tryd.prog W24 = .ok () (putB W24 V1.heap.size (.map #[⟨.bool false, .string ⟨#[129, 0]⟩, 0⟩, ⟨.bool true, .string ⟨#[136, 168]⟩, 1⟩] 2)) := ins1 false _ _ m24
            have k25 : Below w6.heap.size w6 (putB W24 V1.heap.size (.map #[⟨.bool false, .string ⟨#[129, 0]⟩, 0⟩, ⟨.bool true, .string ⟨#[136, 168]⟩, 1⟩] 2)) := putB_below _ k24 b1
            have m25 : (putB W24 V1.heap.size (.map #[⟨.bool false, .string ⟨#[129, 0]⟩, 0⟩, ⟨.bool true, .string ⟨#[136, 168]⟩, 1⟩] 2)).heap[V1.heap.size]? = some (.map #[⟨.bool false, .string ⟨#[129, 0]⟩, 0⟩, ⟨.bool true, .string ⟨#[136, 168]⟩, 1⟩] 2) := putB_at _ (lt_of_block m24)
            go_simp
            clear e25
            refine hK.out _ _ ?_ (fun hHeld => ?_)
            · exact (HasT.below T6 k25 T6.lt).c0
            clear hK K
            (try simp only [Act.put, List.getElem_toArray, List.getElem_cons_zero, List.getElem_cons_succ, List.setIfInBounds_toArray, List.set_cons_zero, List.set_cons_succ])
            generalize putB W24 V1.heap.size (.map #[⟨.bool false, .string ⟨#[129, 0]⟩, 0⟩, ⟨.bool true, .string ⟨#[136, 168]⟩, 1⟩] 2) = W25 at *
            refine wpAnyH_take (i := 4) (v := ?_) rfl (by kernel_rfl) (by kernel_rfl) (by kernel_rfl) (fun _ _ _ h => h) (Or.inl ⟨by rfl, ?_⟩) (by assumption) ?_
            rotate_left
            · (intro w hSw; (try dsimp only at hSw); go_simp; (try with_reducible rfl))
            (try simp only [Act.put, List.getElem_toArray, List.getElem_cons_zero, List.getElem_cons_succ, List.setIfInBounds_toArray, List.set_cons_zero, List.set_cons_succ])
            refine wpAnyH_ready (rs := [7]) (by kernel_rfl) (by simp) ?_
            refine (AllReadyH.cons rfl (fun K hK => ?_) AllReadyH.nil)
            simp only [List.getElem_toArray, List.getElem_cons_zero, List.getElem_cons_succ]
            have e26 : (Instr.lookup 42 (.map (some V1.heap.size)) (.bool ts) false).run Tryd.prog W25 = .ok (.string ⟨mk.toArray⟩) W25 := by rw [look2 _ _ _ _ m25]; rw [HM.out]; cases ts <;> rfl
            go_simp
            clear e26
            refine hK.out _ _ ?_ (fun hHeld => ?_)
            · exact (HasT.below T6 k25 T6.lt).c0
            clear hK K
            (try simp only [Act.put, List.getElem_toArray, List.getElem_cons_zero, List.getElem_cons_succ, List.setIfInBounds_toArray, List.set_cons_zero, List.set_cons_succ])
            refine wpAnyH_take (i := 10) (v := ?_) rfl (by kernel_rfl) (by kernel_rfl) (by kernel_rfl) (fun _ _ _ h => h) (Or.inl ⟨by rfl, ?_⟩) (by assumption) ?_
            rotate_left
            · (intro w hSw; (try dsimp only at hSw); go_simp; (try with_reducible rfl))
            (try simp only [Act.put, List.getElem_toArray, List.getElem_cons_zero, List.getElem_cons_succ, List.setIfInBounds_toArray, List.set_cons_zero, List.set_cons_succ])
            refine wpAnyH_take (i := 11) (v := ?_) rfl (by kernel_rfl) (by kernel_rfl) (by kernel_rfl) (fun _ _ _ h => h) (Or.inl ⟨by rfl, ?_⟩) (by assumption) ?_
            rotate_left
            · (intro w hSw; (try dsimp only at hSw); go_simp; (try with_reducible rfl))
            (try simp only [Act.put, List.getElem_toArray, List.getElem_cons_zero, List.getElem_cons_succ, List.setIfInBounds_toArray, List.set_cons_zero, List.set_cons_succ])
            refine wpAnyH_take (i := 12) (v := ?_) rfl (by kernel_rfl) (by kernel_rfl) (by kernel_rfl) (fun _ _ _ h => h) (Or.inl ⟨by rfl, ?_⟩) (by assumption) ?_
            rotate_left
            · (intro w hSw; (try dsimp only at hSw); go_simp; (try with_reducible rfl))
            (try simp only [Act.put, List.getElem_toArray, List.getElem_cons_zero, List.getElem_cons_succ, List.setIfInBounds_toArray, List.set_cons_zero, List.set_cons_succ])
            refine wpAnyH_done (by kernel_rfl) ?_ _
            refine NoPanic.normal ?_
            have Bz := B6.trans (Below.mono k25 B6.size)
            have hFz : HasF W25 w.heap.size f := hF6.below k25 hF6.lt
            have hIz : FrIn W25 f := hI6.below k25
            clear B6 hF6 hI6 T6
            go_wp2
            go_roundw
            case rel => exact ⟨k + 1, by omega, by go_num, by rw [HT.out], hFz, hIz, Bz⟩
            case measure => simp [intOf]; omega
      ·
        simp only [List.getElem_toArray, List.getElem_cons_zero, List.getElem_cons_succ]
        go_simp
        go_at_call 11
        with_reducible refine (HBE.out _).mono ?_
        rintro e W27 ⟨rfl, q27⟩
        have k27 : Below w6.heap.size w6 W27 := Below.trans k0 (Below.mono q27 (Below.size k0))
        refine hK.out _ _ ?_ (fun hHeld => ?_)
        · exact (HasT.below T6 k27 T6.lt).c0
        clear hK K
        (try simp only [Act.put, List.getElem_toArray, List.getElem_cons_zero, List.getElem_cons_succ, List.setIfInBounds_toArray, List.set_cons_zero, List.set_cons_succ])
        refine wpAnyH_ready (rs := [1]) (by kernel_rfl) (by simp) ?_
        refine (AllReadyH.cons rfl (fun K hK => ?_) AllReadyH.nil)
        simp only [List.getElem_toArray, List.getElem_cons_zero, List.getElem_cons_succ]
        have k28 : Below w6.heap.size w6 (W27.alloc (.map #[] 0)) := Below.alloc k27 k27.size _
        have m28 : (W27.alloc (.map #[] 0)).heap[W27.heap.size]? = some (.map #[] 0) := heap_alloc_new _ _
        have b28 : w6.heap.size ≤ W27.heap.size := Below.size k27
        go_simp
        refine hK.out _ _ ?_ (fun hHeld => ?_)
        · exact (HasT.below T6 k28 T6.lt).c0
        clear hK K
        (try simp only [Act.put, List.getElem_toArray, List.getElem_cons_zero, List.getElem_cons_succ, List.setIfInBounds_toArray, List.set_cons_zero, List.set_cons_succ])
        generalize W27.alloc (.map #[] 0) = W28 at *
        refine wpAnyH_ready (rs := [2, 3]) (by kernel_rfl) (by simp) ?_
        refine (AllReadyH.cons rfl (fun K hK => ?_) (AllReadyH.cons rfl (fun K hK => ?_) AllReadyH.nil))
        ·
          simp only [List.getElem_toArray, List.getElem_cons_zero, List.getElem_cons_succ]
          have e29 : (Instr.mapUpdate 42 (.map (some W27.heap.size)) (.bool true) (.string ⟨#[136, 168]⟩)).run Tryd.prog W28 = .ok () (putB W28 W27.heap.size (.map #[⟨.bool true, .string ⟨#[136, 168]⟩, 0⟩] 1)) := ins0 true _ m28
          have k29 : Below w6.heap.size w6 (putB W28 W27.heap.size (.map #[⟨.bool true, .string ⟨#[136, 168]⟩, 0⟩] 1)) := putB_below _ k28 b28
          have m29 : (putB W28 W27.heap.size (.map #[⟨.bool true, .string ⟨#[136, 168]⟩, 0⟩] 1)).heap[W27.heap.size]? = some (.map #[⟨.bool true, .string ⟨#[136, 168]⟩, 0⟩] 1) := putB_at _ (lt_of_block m28)
          go_simp
          clear e29
          refine hK.out _ _ ?_ (fun hHeld => ?_)
          · exact (HasT.below T6 k29 T6.lt).c0
          clear hK K
          (try simp only [Act.put, List.getElem_toArray, List.getElem_cons_zero, List.getElem_cons_succ, List.setIfInBounds_toArray, List.set_cons_zero, List.set_cons_succ])
          generalize putB W28 W27.heap.size (.map #[⟨.bool true, .string ⟨#[136, 168]⟩, 0⟩] 1) = W29 at *
          refine wpAnyH_ready (rs := [3]) (by kernel_rfl) (by simp) ?_
          refine (AllReadyH.cons rfl (fun K hK => ?_) AllReadyH.nil)
          simp only [List.getElem_toArray, List.getElem_cons_zero, List.getElem_cons_succ]
          have e30 : (Instr.mapUpdate 42 (.map (some W27.heap.size)) (.bool false) (.string ⟨#[129, 0]⟩)).run Tryd.prog W29 = .ok () (putB W29 W27.heap.size (.map #[⟨.bool true, .string ⟨#[136, 168]⟩, 0⟩, ⟨.bool false, .string ⟨#[129, 0]⟩, 1⟩] 2)) := ins1 true _ _ m29
          have k30 : Below w6.heap.size w6 (putB W29 W27.heap.size (.map #[⟨.bool true, .string ⟨#[136, 168]⟩, 0⟩, ⟨.bool false, .string ⟨#[129, 0]⟩, 1⟩] 2)) := putB_below _ k29 b28
          have m30 : (putB W29 W27.heap.size (.map #[⟨.bool true, .string ⟨#[136, 168]⟩, 0⟩, ⟨.bool false, .string ⟨#[129, 0]⟩, 1⟩] 2)).heap[W27.heap.size]? = some (.map #[⟨.bool true, .string ⟨#[136, 168]⟩, 0⟩, ⟨.bool false, .string ⟨#[129, 0]⟩, 1⟩] 2) := putB_at _ (lt_of_block m29)
          go_simp
          clear e30
          refine hK.out _ _ ?_ (fun hHeld => ?_)
          · exact (HasT.below T6 k30 T6.lt).c0
          clear hK K
          (try simp only [Act.put, List.getElem_toArray, List.getElem_cons_zero, List.getElem_cons_succ, List.setIfInBounds_toArray, List.set_cons_zero, List.set_cons_succ])
          generalize putB W29 W27.heap.size (.map #[⟨.bool true, .string ⟨#[136, 168]⟩, 0⟩, ⟨.bool false, .string ⟨#[129, 0]⟩, 1⟩] 2) = W30 at *
          refine wpAnyH_take (i := 4) (v := ?_) rfl (by kernel_rfl) (by kernel_rfl) (by kernel_rfl) (fun _ _ _ h => h) (Or.inl ⟨by rfl, ?_⟩) (by assumption) ?_
          rotate_left
          · (intro w hSw; (try dsimp only at hSw); go_simp; (try with_reducible rfl))
          (try simp only [Act.put, List.getElem_toArray, List.getElem_cons_zero, List.getElem_cons_succ, List.setIfInBounds_toArray, List.set_cons_zero, List.set_cons_succ])
          refine wpAnyH_ready (rs := [7]) (by kernel_rfl) (by simp) ?_
          refine (AllReadyH.cons rfl (fun K hK => ?_) AllReadyH.nil)
          simp only [List.getElem_toArray, List.getElem_cons_zero, List.getElem_cons_succ]
          have e31 : (Instr.lookup 42 (.map (some W27.heap.size)) (.bool ts) false).run Tryd.prog W30 = .ok (.string ⟨mk.toArray⟩) W30 := by rw [look2 _ _ _ _ m30]; rw [HM.out]; cases ts <;> rfl
          go_simp
          clear e31
          refine hK.out _ _ ?_ (fun hHeld => ?_)
          · exact (HasT.below T6 k30 T6.lt).c0
          clear hK K
          (try simp only [Act.put, List.getElem_toArray, List.getElem_cons_zero, List.getElem_cons_succ, List.setIfInBounds_toArray, List.set_cons_zero, List.set_cons_succ])
          refine wpAnyH_take (i := 10) (v := ?_) rfl (by kernel_rfl) (by kernel_rfl) (by kernel_rfl) (fun _ _ _ h => h) (Or.inl ⟨by rfl, ?_⟩) (by assumption) ?_
          rotate_left
          · (intro w hSw; (try dsimp only at hSw); go_simp; (try with_reducible rfl))
          (try simp only [Act.put, List.getElem_toArray, List.getElem_cons_zero, List.getElem_cons_succ, List.setIfInBounds_toArray, List.set_cons_zero, List.set_cons_succ])
          refine wpAnyH_take (i := 11) (v := ?_) rfl (by kernel_rfl) (by kernel_rfl) (by kernel_rfl) (fun _ _ _ h => h) (Or.inl ⟨by rfl, ?_⟩) (by assumption) ?_
          rotate_left
          · (intro w hSw; (try dsimp only at hSw); go_simp; (try with_reducible rfl))
          (try simp only [Act.put, List.getElem_toArray, List.getElem_cons_zero, List.getElem_cons_succ, List.setIfInBounds_toArray, List.set_cons_zero, List.set_cons_succ])
          refine wpAnyH_take (i := 12) (v := ?_) rfl (by kernel_rfl) (by kernel_rfl) (by kernel_rfl) (fun _ _ _ h => h) (Or.inl ⟨by rfl, ?_⟩) (by assumption) ?_
          rotate_left
          · (intro w hSw; (try dsimp only at hSw); go_simp; (try with_reducible rfl))
          (try simp only [Act.put, List.getElem_toArray, List.getElem_cons_zero, List.getElem_cons_succ, List.setIfInBounds_toArray, List.set_cons_zero, List.set_cons_succ])
          refine wpAnyH_done (by kernel_rfl) ?_ _
          refine NoPanic.normal ?_
          have Bz := B6.trans (Below.mono k30 B6.size)
          have hFz : HasF W30 w.heap.size f := hF6.below k30 hF6.lt
          have hIz : FrIn W30 f := hI6.below k30
          clear B6 hF6 hI6 T6
          go_wp2
          go_roundw
          case rel => exact ⟨k + 1, by omega, by go_num, by rw [HT.out], hFz, hIz, Bz⟩
          case measure => simp [intOf]; omega
        ·
          simp only [List.getElem_toArray, List.getElem_cons_zero, List.getElem_cons_succ]
          have e32 : (Instr.mapUpdate 42 (.map (some W27.heap.size)) (.bool false) (.string ⟨#[129, 0]⟩)).run Tryd.prog W28 = .ok () (putB W28 W27.heap.size (.map #[⟨.bool false, .string ⟨#[129, 0]⟩, 0⟩] 1)) := ins0 false _ m28
          have k32 : Below w6.heap.size w6 (putB W28 W27.heap.size (.map #[⟨.bool false, .string ⟨#[129, 0]⟩, 0⟩] 1)) := putB_below _ k28 b28
          have m32 : (putB W28 W27.heap.size (.map #[⟨.bool false, .string ⟨#[129, 0]⟩, 0⟩] 1)).heap[W27.heap.size]? = some (.map #[⟨.bool false, .string ⟨#[129, 0]⟩, 0⟩] 1) := putB_at _ (lt_of_block m28)
          go_simp
          clear e32
          refine hK.out _ _ ?_ (fun hHeld => ?_)
          · exact (HasT.below T6 k32 T6.lt).c0
          clear hK K
          (try simp only [Act.put, List.getElem_toArray, List.getElem_cons_zero, List.getElem_cons_succ, List.setIfInBounds_toArray, List.set_cons_zero, List.set_cons_succ])
          generalize putB W28 W27.heap.size (.map #[⟨.bool false, .string ⟨#[129, 0]⟩, 0⟩] 1) = W32 at *
          refine wpAnyH_ready (rs := [2]) (by kernel_rfl) (by simp) ?_
          refine (AllReadyH.cons rfl (fun K hK => ?_) AllReadyH.nil)
          simp only [List.getElem_toArray, List.getElem_cons_zero, List.getElem_cons_succ]
          have e33 : (Instr.mapUpdate 42 (.map (some W27.heap.size)) (.bool true) (.string ⟨#[136, 168]⟩)).run Tryd.prog W32 = .ok () (putB W32 W27.heap.size (.map #[⟨.bool false, .string ⟨#[129, 0]⟩, 0⟩, ⟨.bool true, .string ⟨#[136, 168]⟩, 1⟩] 2)) := ins1 false _ _ m32
          have k33 : Below w6.heap.size w6 (putB W32 W27.heap.size (.map #[⟨.bool false, .string ⟨#[129, 0]⟩, 0⟩, ⟨.bool true, .string ⟨#[136, 168]⟩, 1⟩] 2)) := putB_below _ k32 b28
          have m33 : (putB W32 W27.heap.size (.map #[⟨.bool false, .string ⟨#[129, 0]⟩, 0⟩, ⟨.bool true, .string ⟨#[136, 168]⟩, 1⟩] 2)).heap[W27.heap.size]? = some (.map #[⟨.bool false, .string ⟨#[129, 0]⟩, 0⟩, ⟨.bool true, .string ⟨#[136, 168]⟩, 1⟩] 2) := putB_at _ (lt_of_block m32)
          go_simp
          clear e33
          refine hK.out _ _ ?_ (fun hHeld => ?_)
          · exact (HasT.below T6 k33 T6.lt).c0
          clear hK K
          (try simp only [Act.put, List.getElem_toArray, List.getElem_cons_zero, List.getElem_cons_succ, List.setIfInBounds_toArray, List.set_cons_zero, List.set_cons_succ])
          generalize putB W32 W27.heap.size (.map #[⟨.bool false, .string ⟨#[129, 0]⟩, 0⟩, ⟨.bool true, .string ⟨#[136, 168]⟩, 1⟩] 2) = W33 at *
          refine wpAnyH_take (i := 4) (v := ?_) rfl (by kernel_rfl) (by kernel_rfl) (by kernel_rfl) (fun _ _ _ h => h) (Or.inl ⟨by rfl, ?_⟩) (by assumption) ?_
          rotate_left
          · (intro w hSw; (try dsimp only at hSw); go_simp; (try with_reducible rfl))
          (try simp only [Act.put, List.getElem_toArray, List.getElem_cons_zero, List.getElem_cons_succ, List.setIfInBounds_toArray, List.set_cons_zero, List.set_cons_succ])
          refine wpAnyH_ready (rs := [7]) (by kernel_rfl) (by simp) ?_
          refine (AllReadyH.cons rfl (fun K hK => ?_) AllReadyH.nil)
          simp only [List.getElem_toArray, List.getElem_cons_zero, List.getElem_cons_succ]
          have e34 : (Instr.lookup 42 (.map (some W27.heap.size)) (.bool ts) false).run Tryd.prog W33 = .ok (.string ⟨mk.toArray⟩) W33 := by rw [look2 _ _ _ _ m33]; rw [HM.out]; cases ts <;> rfl
          go_simp
          clear e34
          refine hK.out _ _ ?_ (fun hHeld => ?_)
          · exact (HasT.below T6 k33 T6.lt).c0
          clear hK K
          (try simp only [Act.put, List.getElem_toArray, List.getElem_cons_zero, List.getElem_cons_succ, List.setIfInBounds_toArray, List.set_cons_zero, List.set_cons_succ])
          refine wpAnyH_take (i := 10) (v := ?_) rfl (by kernel_rfl) (by kernel_rfl) (by kernel_rfl) (fun _ _ _ h => h) (Or.inl ⟨by rfl, ?_⟩) (by assumption) ?_
          rotate_left
          · (intro w hSw; (try dsimp only at hSw); go_simp; (try with_reducible rfl))
          (try simp only [Act.put, List.getElem_toArray, List.getElem_cons_zero, List.getElem_cons_succ, List.setIfInBounds_toArray, List.set_cons_zero, List.set_cons_succ])
          refine wpAnyH_take (i := 11) (v := ?_) rfl (by kernel_rfl) (by kernel_rfl) (by kernel_rfl) (fun _ _ _ h => h) (Or.inl ⟨by rfl, ?_⟩) (by assumption) ?_
          rotate_left
          · (intro w hSw; (try dsimp only at hSw); go_simp; (try with_reducible rfl))
          (try simp only [Act.put, List.getElem_toArray, List.getElem_cons_zero, List.getElem_cons_succ, List.setIfInBounds_toArray, List.set_cons_zero, List.set_cons_succ])
          refine wpAnyH_take (i := 12) (v := ?_) rfl (by kernel_rfl) (by kernel_rfl) (by kernel_rfl) (fun _ _ _ h => h) (Or.inl ⟨by rfl, ?_⟩) (by assumption) ?_
          rotate_left
          · (intro w hSw; (try dsimp only at hSw); go_simp; (try with_reducible rfl))
          (try simp only [Act.put, List.getElem_toArray, List.getElem_cons_zero, List.getElem_cons_succ, List.setIfInBounds_toArray, List.set_cons_zero, List.set_cons_succ])
          refine wpAnyH_done (by kernel_rfl) ?_ _
          refine NoPanic.normal ?_
          have Bz := B6.trans (Below.mono k33 B6.size)
          have hFz : HasF W33 w.heap.size f := hF6.below k33 hF6.lt
          have hIz : FrIn W33 f := hI6.below k33
          clear B6 hF6 hI6 T6
          go_wp2
          go_roundw
          case rel => exact ⟨k + 1, by omega, by go_num, by rw [HT.out], hFz, hIz, Bz⟩
          case measure => simp [intOf]; omega
    · obtain rfl : k = f.tl.length := by omega
      have c13 : wr.cell? ⟨w.heap.size, 13, none⟩ = some (.int .i64 f.k) := (hFk.c 13).trans rfl
      clear hI3 hF3 B3 hIk hf hall hk hlt
      rcases right_parts f hkb.out with ⟨hk1, ht⟩ | ⟨hk1, hk2, h1, h2, h3⟩ | ⟨hk1, hk2, hk3, h1, h2⟩
      · obtain ⟨z, hz⟩ : ∃ z, z = putL f.t.toNat 2 := ⟨_, rfl⟩
        have lz : z.length = 2 := by rw [hz]; exact putL_length _ _
        have HB1 : Hid (∀ W, Calls Tryd.prog 11 #[.int .i64 f.t, .int .i64 2] W fun e w' => e = .returned (.string ⟨z.toArray⟩) ∧ Below W.heap.size W w') := fun W => by rw [hz]; exact be_any f.t 2 W ht.1 (by omega) (by decide)
        obtain ⟨v, hv⟩ : ∃ v, v = hdL f f.tl.length ++ z := ⟨_, rfl⟩
        obtain ⟨u, hu⟩ : ∃ u, u = v ++ f.bo.data.toList := ⟨_, rfl⟩
        have HWR : Hid (writeL f = u) := by show _ = _; rw [write_1 f hk1, hu, hv, hz]
        have hyl := hdL_len f f.tl.length
        generalize hdL f f.tl.length = y at *
        have lv : v.length = y.length + 2 := by rw [hv, List.length_append, lz]
        have d1 : ∀ W, (Op.stringOp .add ⟨y.toArray⟩ ⟨z.toArray⟩).run Tryd.prog W = .ok (.string ⟨v.toArray⟩) W := fun W => by rw [hv]; exact run_string_add_lists (P := Tryd.prog) W y z (by omega) (by omega)
        have d2 : ∀ W, (Op.stringOp .add ⟨v.toArray⟩ f.bo).run Tryd.prog W = .ok (.string ⟨u.toArray⟩) W := fun W => by rw [hu]; exact add_body v f.bo (by omega) hshort W
        clear hz lz hyl ht hv hu lv
        go_upto_region 14 with (fail)
        have hF8 := hFk.drew
        have B8 := Bk.drew
        refine wp_region_noPanic ?_
        refine wp_region_held_drew (S := (fun w' => w'.cell? ⟨w.heap.size, 14, none⟩ = some (.int .i64 f.t) ∧ w'.cell? ⟨w.heap.size, 20, none⟩ = some (.string f.bo))) (by kernel_rfl) ?_ (fun hHeld => ?_)
        · exact ⟨(hFk.c 14).trans rfl, (hFk.c 20).trans rfl⟩
        refine wpAnyH_take (i := 0) (v := ?_) rfl (by kernel_rfl) (by kernel_rfl) (by kernel_rfl) (fun _ _ _ h => h) (Or.inl ⟨by rfl, ?_⟩) (by assumption) ?_
        rotate_left
        · (intro w hSw; (try dsimp only at hSw); go_simp; (try with_reducible rfl))
        (try simp only [Act.put, List.getElem_toArray, List.getElem_cons_zero, List.getElem_cons_succ, List.setIfInBounds_toArray, List.set_cons_zero, List.set_cons_succ])
        refine wpAnyH_take (i := 1) (v := ?_) rfl (by kernel_rfl) (by kernel_rfl) (by kernel_rfl) (fun _ _ _ h => h) (Or.inl ⟨by rfl, ?_⟩) (by assumption) ?_
        rotate_left
        · (intro w hSw; (try dsimp only at hSw); go_simp; (try with_reducible rfl))
        (try simp only [Act.put, List.getElem_toArray, List.getElem_cons_zero, List.getElem_cons_succ, List.setIfInBounds_toArray, List.set_cons_zero, List.set_cons_succ])
        refine wpAnyH_take (i := 2) (v := ?_) rfl (by kernel_rfl) (by kernel_rfl) (by kernel_rfl) (fun _ _ _ h => h) (Or.inl ⟨by rfl, ?_⟩) (by assumption) ?_
        rotate_left
        · (intro w hSw; (try dsimp only at hSw); go_simp; (try with_reducible rfl))
        (try simp only [Act.put, List.getElem_toArray, List.getElem_cons_zero, List.getElem_cons_succ, List.setIfInBounds_toArray, List.set_cons_zero, List.set_cons_succ])
        refine wpAnyH_take (i := 5) (v := ?_) rfl (by kernel_rfl) (by kernel_rfl) (by kernel_rfl) (fun _ _ _ h => h) (Or.inl ⟨by rfl, ?_⟩) (by assumption) ?_
        rotate_left
        · (intro w hSw; (try dsimp only at hSw); go_simp; (try with_reducible rfl))
        (try simp only [Act.put, List.getElem_toArray, List.getElem_cons_zero, List.getElem_cons_succ, List.setIfInBounds_toArray, List.set_cons_zero, List.set_cons_succ])
        refine wpAnyH_take (i := 6) (v := ?_) rfl (by kernel_rfl) (by kernel_rfl) (by kernel_rfl) (fun _ _ _ h => h) (Or.inl ⟨by rfl, ?_⟩) (by assumption) ?_
        rotate_left
        · (intro w hSw; (try dsimp only at hSw); go_simp; (try with_reducible rfl))
        (try simp only [Act.put, List.getElem_toArray, List.getElem_cons_zero, List.getElem_cons_succ, List.setIfInBounds_toArray, List.set_cons_zero, List.set_cons_succ])
        refine wpAnyH_ready (rs := [3]) (by kernel_rfl) (by simp) ?_
        refine AllReadyH.cons rfl (fun K hK => ?_) AllReadyH.nil
        simp only [List.getElem_toArray, List.getElem_cons_zero, List.getElem_cons_succ]
        go_simp
        go_at_call 11; (with_reducible refine (HB1.out _).mono ?_); rintro e w9 ⟨rfl, b9⟩; have hF9 := hF8.below b9 hF8.lt; have B9 := B8.trans (b9.mono B8.size)
        refine hK.out _ _ ?_ (fun hHeld => ?_)
        · exact ⟨(hF9.c 14).trans rfl, (hF9.c 20).trans rfl⟩
        clear hK K
        (try simp only [Act.put, List.getElem_toArray, List.getElem_cons_zero, List.getElem_cons_succ, List.setIfInBounds_toArray, List.set_cons_zero, List.set_cons_succ])
        refine wpAnyH_take (i := 4) (v := ?_) rfl (by kernel_rfl) (by kernel_rfl) (by kernel_rfl) (fun _ _ _ h => h) (Or.inl ⟨by rfl, ?_⟩) (by assumption) ?_
        rotate_left
        · (intro w hSw; (try dsimp only at hSw); go_simp; (try with_reducible rfl))
        (try simp only [Act.put, List.getElem_toArray, List.getElem_cons_zero, List.getElem_cons_succ, List.setIfInBounds_toArray, List.set_cons_zero, List.set_cons_succ])
        refine wpAnyH_take (i := 7) (v := ?_) rfl (by kernel_rfl) (by kernel_rfl) (by kernel_rfl) (fun _ _ _ h => h) (Or.inl ⟨by rfl, ?_⟩) (by assumption) ?_
        rotate_left
        · (intro w hSw; (try dsimp only at hSw); go_simp; (try with_reducible rfl))
        (try simp only [Act.put, List.getElem_toArray, List.getElem_cons_zero, List.getElem_cons_succ, List.setIfInBounds_toArray, List.set_cons_zero, List.set_cons_succ])
        refine wpAnyH_take (i := 8) (v := ?_) rfl (by kernel_rfl) (by kernel_rfl) (by kernel_rfl) (fun _ _ _ h => h) (Or.inl ⟨by rfl, ?_⟩) (by assumption) ?_
        rotate_left
        · (intro w hSw; (try dsimp only at hSw); go_simp; (try with_reducible rfl))
        (try simp only [Act.put, List.getElem_toArray, List.getElem_cons_zero, List.getElem_cons_succ, List.setIfInBounds_toArray, List.set_cons_zero, List.set_cons_succ])
        refine wpAnyH_take (i := 9) (v := ?_) rfl (by kernel_rfl) (by kernel_rfl) (by kernel_rfl) (fun _ _ _ h => h) (Or.inl ⟨by rfl, ?_⟩) (by assumption) ?_
        rotate_left
        · (intro w hSw; (try dsimp only at hSw); go_simp; (try with_reducible rfl))
        (try simp only [Act.put, List.getElem_toArray, List.getElem_cons_zero, List.getElem_cons_succ, List.setIfInBounds_toArray, List.set_cons_zero, List.set_cons_succ])
        refine wpAnyH_done (by kernel_rfl) ?_ _
        refine NoPanic.normal ?_
        go_wp2
        go_ret2
        exact ⟨by rw [HWR.out]; rfl, B9⟩
      · obtain ⟨z1, hz1⟩ : ∃ z, z = putL f.da.toNat 1 := ⟨_, rfl⟩
        have lz1 : z1.length = 1 := by rw [hz1]; exact putL_length _ _
        have HB1 : Hid (∀ W, Calls Tryd.prog 11 #[.int .i64 f.da, .int .i64 1] W fun e w' => e = .returned (.string ⟨z1.toArray⟩) ∧ Below W.heap.size W w') := fun W => by rw [hz1]; exact be_any f.da 1 W h1.1 (by omega) (by decide)
        obtain ⟨z2, hz2⟩ : ∃ z, z = putL f.sa.toNat 1 := ⟨_, rfl⟩
        have lz2 : z2.length = 1 := by rw [hz2]; exact putL_length _ _
        have HB2 : Hid (∀ W, Calls Tryd.prog 11 #[.int .i64 f.sa, .int .i64 1] W fun e w' => e = .returned (.string ⟨z2.toArray⟩) ∧ Below W.heap.size W w') := fun W => by rw [hz2]; exact be_any f.sa 1 W h2.1 (by omega) (by decide)
        obtain ⟨z3, hz3⟩ : ∃ z, z = putL f.ct.toNat 1 := ⟨_, rfl⟩
        have lz3 : z3.length = 1 := by rw [hz3]; exact putL_length _ _
        have HB3 : Hid (∀ W, Calls Tryd.prog 11 #[.int .i64 f.ct, .int .i64 1] W fun e w' => e = .returned (.string ⟨z3.toArray⟩) ∧ Below W.heap.size W w') := fun W => by rw [hz3]; exact be_any f.ct 1 W h3.1 (by omega) (by decide)
        obtain ⟨a1, ha1⟩ : ∃ a, a = z1 ++ z2 := ⟨_, rfl⟩
        obtain ⟨a2, ha2⟩ : ∃ a, a = a1 ++ z3 := ⟨_, rfl⟩
        obtain ⟨i, hi⟩ : ∃ i, i = a2 ++ f.bo.data.toList := ⟨_, rfl⟩
        have hin : innerL f = i := by rw [inner_2 f hk2, hi, ha2, ha1, hz1, hz2, hz3]
        have la1 : a1.length = 2 := by rw [ha1, List.length_append]; omega
        have la2 : a2.length = 3 := by rw [ha2, List.length_append]; omega
        have d1 : ∀ W, (Op.stringOp .add ⟨z1.toArray⟩ ⟨z2.toArray⟩).run Tryd.prog W = .ok (.string ⟨a1.toArray⟩) W := fun W => by rw [ha1]; exact run_string_add_lists (P := Tryd.prog) W z1 z2 (by omega) (by omega)
        have d2 : ∀ W, (Op.stringOp .add ⟨a1.toArray⟩ ⟨z3.toArray⟩).run Tryd.prog W = .ok (.string ⟨a2.toArray⟩) W := fun W => by rw [ha2]; exact run_string_add_lists (P := Tryd.prog) W a1 z3 (by omega) (by omega)
        have d3 : ∀ W, (Op.stringOp .add ⟨a2.toArray⟩ f.bo).run Tryd.prog W = .ok (.string ⟨i.toArray⟩) W := fun W => by rw [hi]; exact add_body a2 f.bo (by omega) hshort W
        have hil : i.length ≤ 3008 := by rw [hi, List.length_append]; have : f.bo.data.toList.length = f.bo.size := by simp
                                         omega
        obtain ⟨zl, hzl⟩ : ∃ z, z = putL i.length 2 := ⟨_, rfl⟩
        have lzl : zl.length = 2 := by rw [hzl]; exact putL_length _ _
        have HBL : Hid (∀ W, Calls Tryd.prog 11 #[.int .i64 (i.length : Int), .int .i64 2] W fun e w' => e = .returned (.string ⟨zl.toArray⟩) ∧ Below W.heap.size W w') := fun W => by
          have h := be_any (i.length : Int) 2 W (by omega) (by omega) (by decide)
          rw [Int.toNat_natCast, ← hzl] at h
          exact h
        obtain ⟨v, hv⟩ : ∃ v, v = hdL f f.tl.length ++ zl := ⟨_, rfl⟩
        obtain ⟨u, hu⟩ : ∃ u, u = v ++ i := ⟨_, rfl⟩
        have HWR : Hid (writeL f = u) := by show _ = _; rw [write_n f hk1, hin, hu, hv, hzl]
        have hyl := hdL_len f f.tl.length
        generalize hdL f f.tl.length = y at *
        have lv : v.length = y.length + 2 := by rw [hv, List.length_append, lzl]
        have d8 : ∀ W, (Op.stringOp .add ⟨y.toArray⟩ ⟨zl.toArray⟩).run Tryd.prog W = .ok (.string ⟨v.toArray⟩) W := fun W => by rw [hv]; exact run_string_add_lists (P := Tryd.prog) W y zl (by omega) (by omega)
        have d9 : ∀ W, (Op.stringOp .add ⟨v.toArray⟩ ⟨i.toArray⟩).run Tryd.prog W = .ok (.string ⟨u.toArray⟩) W := fun W => by rw [hu]; exact run_string_add_lists (P := Tryd.prog) W v i (by omega) (by omega)
        clear hv hu lv
        clear hz1 hz2 hz3 lz1 lz2 lz3 ha1 ha2 la1 la2 hi hin hzl lzl hyl hil h1 h2 h3
        go_upto_region 16 with (fail)
        have hF8 := hFk.drew
        have B8 := Bk.drew
        refine wp_region_noPanic ?_
        refine wp_region_held_drew (S := (fun w' => w'.cell? ⟨w.heap.size, 15, none⟩ = some (.int .i64 f.da) ∧ w'.cell? ⟨w.heap.size, 16, none⟩ = some (.int .i64 f.sa) ∧ w'.cell? ⟨w.heap.size, 17, none⟩ = some (.int .i64 f.ct) ∧ w'.cell? ⟨w.heap.size, 20, none⟩ = some (.string f.bo))) (by kernel_rfl) ?_ (fun hHeld => ?_)
        · exact ⟨(hFk.c 15).trans rfl, (hFk.c 16).trans rfl, (hFk.c 17).trans rfl, (hFk.c 20).trans rfl⟩
        refine wpAnyH_take (i := 0) (v := ?_) rfl (by kernel_rfl) (by kernel_rfl) (by kernel_rfl) (fun _ _ _ h => h) (Or.inl ⟨by rfl, ?_⟩) (by assumption) ?_
        rotate_left
        · (intro w hSw; (try dsimp only at hSw); go_simp; (try with_reducible rfl))
        (try simp only [Act.put, List.getElem_toArray, List.getElem_cons_zero, List.getElem_cons_succ, List.setIfInBounds_toArray, List.set_cons_zero, List.set_cons_succ])
        refine wpAnyH_take (i := 1) (v := ?_) rfl (by kernel_rfl) (by kernel_rfl) (by kernel_rfl) (fun _ _ _ h => h) (Or.inl ⟨by rfl, ?_⟩) (by assumption) ?_
        rotate_left
        · (intro w hSw; (try dsimp only at hSw); go_simp; (try with_reducible rfl))
        (try simp only [Act.put, List.getElem_toArray, List.getElem_cons_zero, List.getElem_cons_succ, List.setIfInBounds_toArray, List.set_cons_zero, List.set_cons_succ])
        refine wpAnyH_take (i := 3) (v := ?_) rfl (by kernel_rfl) (by kernel_rfl) (by kernel_rfl) (fun _ _ _ h => h) (Or.inl ⟨by rfl, ?_⟩) (by assumption) ?_
        rotate_left
        · (intro w hSw; (try dsimp only at hSw); go_simp; (try with_reducible rfl))
        (try simp only [Act.put, List.getElem_toArray, List.getElem_cons_zero, List.getElem_cons_succ, List.setIfInBounds_toArray, List.set_cons_zero, List.set_cons_succ])
        refine wpAnyH_take (i := 4) (v := ?_) rfl (by kernel_rfl) (by kernel_rfl) (by kernel_rfl) (fun _ _ _ h => h) (Or.inl ⟨by rfl, ?_⟩) (by assumption) ?_
        rotate_left
        · (intro w hSw; (try dsimp only at hSw); go_simp; (try with_reducible rfl))
        (try simp only [Act.put, List.getElem_toArray, List.getElem_cons_zero, List.getElem_cons_succ, List.setIfInBounds_toArray, List.set_cons_zero, List.set_cons_succ])
        refine wpAnyH_take (i := 7) (v := ?_) rfl (by kernel_rfl) (by kernel_rfl) (by kernel_rfl) (fun _ _ _ h => h) (Or.inl ⟨by rfl, ?_⟩) (by assumption) ?_
        rotate_left
        · (intro w hSw; (try dsimp only at hSw); go_simp; (try with_reducible rfl))
        (try simp only [Act.put, List.getElem_toArray, List.getElem_cons_zero, List.getElem_cons_succ, List.setIfInBounds_toArray, List.set_cons_zero, List.set_cons_succ])
        refine wpAnyH_take (i := 8) (v := ?_) rfl (by kernel_rfl) (by kernel_rfl) (by kernel_rfl) (fun _ _ _ h => h) (Or.inl ⟨by rfl, ?_⟩) (by assumption) ?_
        rotate_left
        · (intro w hSw; (try dsimp only at hSw); go_simp; (try with_reducible rfl))
        (try simp only [Act.put, List.getElem_toArray, List.getElem_cons_zero, List.getElem_cons_succ, List.setIfInBounds_toArray, List.set_cons_zero, List.set_cons_succ])
        refine wpAnyH_take (i := 11) (v := ?_) rfl (by kernel_rfl) (by kernel_rfl) (by kernel_rfl) (fun _ _ _ h => h) (Or.inl ⟨by rfl, ?_⟩) (by assumption) ?_
        rotate_left
        · (intro w hSw; (try dsimp only at hSw); go_simp; (try with_reducible rfl))
        (try simp only [Act.put, List.getElem_toArray, List.getElem_cons_zero, List.getElem_cons_succ, List.setIfInBounds_toArray, List.set_cons_zero, List.set_cons_succ])
        refine wpAnyH_take (i := 12) (v := ?_) rfl (by kernel_rfl) (by kernel_rfl) (by kernel_rfl) (fun _ _ _ h => h) (Or.inl ⟨by rfl, ?_⟩) (by assumption) ?_
        rotate_left
        · (intro w hSw; (try dsimp only at hSw); go_simp; (try with_reducible rfl))
        (try simp only [Act.put, List.getElem_toArray, List.getElem_cons_zero, List.getElem_cons_succ, List.setIfInBounds_toArray, List.set_cons_zero, List.set_cons_succ])
        refine wpAnyH_ready (rs := [2]) (by kernel_rfl) (by simp) ?_
        refine AllReadyH.cons rfl (fun K hK => ?_) AllReadyH.nil
        simp only [List.getElem_toArray, List.getElem_cons_zero, List.getElem_cons_succ]
        go_simp
        go_at_call 11; (with_reducible refine (HB1.out _).mono ?_); rintro e w9 ⟨rfl, b9⟩; have hF9 := hF8.below b9 hF8.lt; have B9 := B8.trans (b9.mono B8.size)
        refine hK.out _ _ ?_ (fun hHeld => ?_)
        · exact ⟨(hF9.c 15).trans rfl, (hF9.c 16).trans rfl, (hF9.c 17).trans rfl, (hF9.c 20).trans rfl⟩
        clear hK K
        (try simp only [Act.put, List.getElem_toArray, List.getElem_cons_zero, List.getElem_cons_succ, List.setIfInBounds_toArray, List.set_cons_zero, List.set_cons_succ])
        refine wpAnyH_ready (rs := [5]) (by kernel_rfl) (by simp) ?_
        refine AllReadyH.cons rfl (fun K hK => ?_) AllReadyH.nil
        simp only [List.getElem_toArray, List.getElem_cons_zero, List.getElem_cons_succ]
        go_simp
        go_at_call 11; (with_reducible refine (HB2.out _).mono ?_); rintro e w10 ⟨rfl, b10⟩; have hF10 := hF9.below b10 hF9.lt; have B10 := B9.trans (b10.mono B9.size)
        refine hK.out _ _ ?_ (fun hHeld => ?_)
        · exact ⟨(hF10.c 15).trans rfl, (hF10.c 16).trans rfl, (hF10.c 17).trans rfl, (hF10.c 20).trans rfl⟩
        clear hK K
        (try simp only [Act.put, List.getElem_toArray, List.getElem_cons_zero, List.getElem_cons_succ, List.setIfInBounds_toArray, List.set_cons_zero, List.set_cons_succ])
        refine wpAnyH_take (i := 6) (v := ?_) rfl (by kernel_rfl) (by kernel_rfl) (by kernel_rfl) (fun _ _ _ h => h) (Or.inl ⟨by rfl, ?_⟩) (by assumption) ?_
        rotate_left
        · (intro w hSw; (try dsimp only at hSw); go_simp; (try with_reducible rfl))
        (try simp only [Act.put, List.getElem_toArray, List.getElem_cons_zero, List.getElem_cons_succ, List.setIfInBounds_toArray, List.set_cons_zero, List.set_cons_succ])
        refine wpAnyH_ready (rs := [9]) (by kernel_rfl) (by simp) ?_
        refine AllReadyH.cons rfl (fun K hK => ?_) AllReadyH.nil
        simp only [List.getElem_toArray, List.getElem_cons_zero, List.getElem_cons_succ]
        go_simp
        go_at_call 11; (with_reducible refine (HB3.out _).mono ?_); rintro e w11 ⟨rfl, b11⟩; have hF11 := hF10.below b11 hF10.lt; have B11 := B10.trans (b11.mono B10.size)
        refine hK.out _ _ ?_ (fun hHeld => ?_)
        · exact ⟨(hF11.c 15).trans rfl, (hF11.c 16).trans rfl, (hF11.c 17).trans rfl, (hF11.c 20).trans rfl⟩
        clear hK K
        (try simp only [Act.put, List.getElem_toArray, List.getElem_cons_zero, List.getElem_cons_succ, List.setIfInBounds_toArray, List.set_cons_zero, List.set_cons_succ])
        refine wpAnyH_take (i := 10) (v := ?_) rfl (by kernel_rfl) (by kernel_rfl) (by kernel_rfl) (fun _ _ _ h => h) (Or.inl ⟨by rfl, ?_⟩) (by assumption) ?_
        rotate_left
        · (intro w hSw; (try dsimp only at hSw); go_simp; (try with_reducible rfl))
        (try simp only [Act.put, List.getElem_toArray, List.getElem_cons_zero, List.getElem_cons_succ, List.setIfInBounds_toArray, List.set_cons_zero, List.set_cons_succ])
        refine wpAnyH_take (i := 13) (v := ?_) rfl (by kernel_rfl) (by kernel_rfl) (by kernel_rfl) (fun _ _ _ h => h) (Or.inl ⟨by rfl, ?_⟩) (by assumption) ?_
        rotate_left
        · (intro w hSw; (try dsimp only at hSw); go_simp; (try with_reducible rfl))
        (try simp only [Act.put, List.getElem_toArray, List.getElem_cons_zero, List.getElem_cons_succ, List.setIfInBounds_toArray, List.set_cons_zero, List.set_cons_succ])
        refine wpAnyH_take (i := 14) (v := ?_) rfl (by kernel_rfl) (by kernel_rfl) (by kernel_rfl) (fun _ _ _ h => h) (Or.inl ⟨by rfl, ?_⟩) (by assumption) ?_
        rotate_left
        · (intro w hSw; (try dsimp only at hSw); go_simp; (try with_reducible rfl))
        (try simp only [Act.put, List.getElem_toArray, List.getElem_cons_zero, List.getElem_cons_succ, List.setIfInBounds_toArray, List.set_cons_zero, List.set_cons_succ])
        refine wpAnyH_done (by kernel_rfl) ?_ _
        refine NoPanic.normal ?_
        go_wp2_with fail
        refine (HBL.out _).mono ?_
        rintro e w12 ⟨rfl, b12⟩
        have B12 := B11.trans (b12.mono B11.size)
        go_wp2
        go_ret2
        exact ⟨by rw [HWR.out]; rfl, B12⟩
      · obtain ⟨z1, hz1⟩ : ∃ z, z = putL f.ou.toNat 3 := ⟨_, rfl⟩
        have lz1 : z1.length = 3 := by rw [hz1]; exact putL_length _ _
        have HB1 : Hid (∀ W, Calls Tryd.prog 11 #[.int .i64 f.ou, .int .i64 3] W fun e w' => e = .returned (.string ⟨z1.toArray⟩) ∧ Below W.heap.size W w') := fun W => by rw [hz1]; exact be_any f.ou 3 W h1.1 (by omega) (by decide)
        obtain ⟨z2, hz2⟩ : ∃ z, z = putL f.pi.toNat 2 := ⟨_, rfl⟩
        have lz2 : z2.length = 2 := by rw [hz2]; exact putL_length _ _
        have HB2 : Hid (∀ W, Calls Tryd.prog 11 #[.int .i64 f.pi, .int .i64 2] W fun e w' => e = .returned (.string ⟨z2.toArray⟩) ∧ Below W.heap.size W w') := fun W => by rw [hz2]; exact be_any f.pi 2 W h2.1 (by omega) (by decide)
        obtain ⟨a1, ha1⟩ : ∃ a : List UInt8, a = [170, 170, 3] ++ z1 := ⟨_, rfl⟩
        obtain ⟨a2, ha2⟩ : ∃ a, a = a1 ++ z2 := ⟨_, rfl⟩
        obtain ⟨i, hi⟩ : ∃ i, i = a2 ++ f.bo.data.toList := ⟨_, rfl⟩
        have hin : innerL f = i := by rw [inner_3 f hk2, hi, ha2, ha1, hz1, hz2]
        have la1 : a1.length = 6 := by rw [ha1, List.length_append, lz1]; rfl
        have la2 : a2.length = 8 := by rw [ha2, List.length_append]; omega
        have d1 : ∀ W, (Op.stringOp .add ⟨#[170, 170, 3]⟩ ⟨z1.toArray⟩).run Tryd.prog W = .ok (.string ⟨a1.toArray⟩) W := fun W => by rw [ha1]; exact run_string_add_lists (P := Tryd.prog) W [170, 170, 3] z1 (by decide) (by omega)
        have d2 : ∀ W, (Op.stringOp .add ⟨a1.toArray⟩ ⟨z2.toArray⟩).run Tryd.prog W = .ok (.string ⟨a2.toArray⟩) W := fun W => by rw [ha2]; exact run_string_add_lists (P := Tryd.prog) W a1 z2 (by omega) (by omega)
        have d3 : ∀ W, (Op.stringOp .add ⟨a2.toArray⟩ f.bo).run Tryd.prog W = .ok (.string ⟨i.toArray⟩) W := fun W => by rw [hi]; exact add_body a2 f.bo (by omega) hshort W
        have hil : i.length ≤ 3008 := by rw [hi, List.length_append]; have : f.bo.data.toList.length = f.bo.size := by simp
                                         omega
        obtain ⟨zl, hzl⟩ : ∃ z, z = putL i.length 2 := ⟨_, rfl⟩
        have lzl : zl.length = 2 := by rw [hzl]; exact putL_length _ _
        have HBL : Hid (∀ W, Calls Tryd.prog 11 #[.int .i64 (i.length : Int), .int .i64 2] W fun e w' => e = .returned (.string ⟨zl.toArray⟩) ∧ Below W.heap.size W w') := fun W => by
          have h := be_any (i.length : Int) 2 W (by omega) (by omega) (by decide)
          rw [Int.toNat_natCast, ← hzl] at h
          exact h
        obtain ⟨v, hv⟩ : ∃ v, v = hdL f f.tl.length ++ zl := ⟨_, rfl⟩
        obtain ⟨u, hu⟩ : ∃ u, u = v ++ i := ⟨_, rfl⟩
        have HWR : Hid (writeL f = u) := by show _ = _; rw [write_n f hk1, hin, hu, hv, hzl]
        have hyl := hdL_len f f.tl.length
        generalize hdL f f.tl.length = y at *
        have lv : v.length = y.length + 2 := by rw [hv, List.length_append, lzl]
        have d8 : ∀ W, (Op.stringOp .add ⟨y.toArray⟩ ⟨zl.toArray⟩).run Tryd.prog W = .ok (.string ⟨v.toArray⟩) W := fun W => by rw [hv]; exact run_string_add_lists (P := Tryd.prog) W y zl (by omega) (by omega)
        have d9 : ∀ W, (Op.stringOp .add ⟨v.toArray⟩ ⟨i.toArray⟩).run Tryd.prog W = .ok (.string ⟨u.toArray⟩) W := fun W => by rw [hu]; exact run_string_add_lists (P := Tryd.prog) W v i (by omega) (by omega)
        clear hv hu lv
        clear hz1 hz2 lz1 lz2 ha1 ha2 la1 la2 hi hin hzl lzl hyl hil h1 h2
        go_upto_region 12 with (fail)
        have hF8 := hFk.drew
        have B8 := Bk.drew
        refine wp_region_noPanic ?_
        refine wp_region_held_drew (S := (fun w' => w'.cell? ⟨w.heap.size, 18, none⟩ = some (.int .i64 f.ou) ∧ w'.cell? ⟨w.heap.size, 19, none⟩ = some (.int .i64 f.pi) ∧ w'.cell? ⟨w.heap.size, 20, none⟩ = some (.string f.bo))) (by kernel_rfl) ?_ (fun hHeld => ?_)
        · exact ⟨(hFk.c 18).trans rfl, (hFk.c 19).trans rfl, (hFk.c 20).trans rfl⟩
        refine wpAnyH_take (i := 0) (v := ?_) rfl (by kernel_rfl) (by kernel_rfl) (by kernel_rfl) (fun _ _ _ h => h) (Or.inl ⟨by rfl, ?_⟩) (by assumption) ?_
        rotate_left
        · (intro w hSw; (try dsimp only at hSw); go_simp; (try with_reducible rfl))
        (try simp only [Act.put, List.getElem_toArray, List.getElem_cons_zero, List.getElem_cons_succ, List.setIfInBounds_toArray, List.set_cons_zero, List.set_cons_succ])
        refine wpAnyH_take (i := 1) (v := ?_) rfl (by kernel_rfl) (by kernel_rfl) (by kernel_rfl) (fun _ _ _ h => h) (Or.inl ⟨by rfl, ?_⟩) (by assumption) ?_
        rotate_left
        · (intro w hSw; (try dsimp only at hSw); go_simp; (try with_reducible rfl))
        (try simp only [Act.put, List.getElem_toArray, List.getElem_cons_zero, List.getElem_cons_succ, List.setIfInBounds_toArray, List.set_cons_zero, List.set_cons_succ])
        refine wpAnyH_take (i := 4) (v := ?_) rfl (by kernel_rfl) (by kernel_rfl) (by kernel_rfl) (fun _ _ _ h => h) (Or.inl ⟨by rfl, ?_⟩) (by assumption) ?_
        rotate_left
        · (intro w hSw; (try dsimp only at hSw); go_simp; (try with_reducible rfl))
        (try simp only [Act.put, List.getElem_toArray, List.getElem_cons_zero, List.getElem_cons_succ, List.setIfInBounds_toArray, List.set_cons_zero, List.set_cons_succ])
        refine wpAnyH_take (i := 5) (v := ?_) rfl (by kernel_rfl) (by kernel_rfl) (by kernel_rfl) (fun _ _ _ h => h) (Or.inl ⟨by rfl, ?_⟩) (by assumption) ?_
        rotate_left
        · (intro w hSw; (try dsimp only at hSw); go_simp; (try with_reducible rfl))
        (try simp only [Act.put, List.getElem_toArray, List.getElem_cons_zero, List.getElem_cons_succ, List.setIfInBounds_toArray, List.set_cons_zero, List.set_cons_succ])
        refine wpAnyH_take (i := 8) (v := ?_) rfl (by kernel_rfl) (by kernel_rfl) (by kernel_rfl) (fun _ _ _ h => h) (Or.inl ⟨by rfl, ?_⟩) (by assumption) ?_
        rotate_left
        · (intro w hSw; (try dsimp only at hSw); go_simp; (try with_reducible rfl))
        (try simp only [Act.put, List.getElem_toArray, List.getElem_cons_zero, List.getElem_cons_succ, List.setIfInBounds_toArray, List.set_cons_zero, List.set_cons_succ])
        refine wpAnyH_take (i := 9) (v := ?_) rfl (by kernel_rfl) (by kernel_rfl) (by kernel_rfl) (fun _ _ _ h => h) (Or.inl ⟨by rfl, ?_⟩) (by assumption) ?_
        rotate_left
        · (intro w hSw; (try dsimp only at hSw); go_simp; (try with_reducible rfl))
        (try simp only [Act.put, List.getElem_toArray, List.getElem_cons_zero, List.getElem_cons_succ, List.setIfInBounds_toArray, List.set_cons_zero, List.set_cons_succ])
        refine wpAnyH_ready (rs := [2]) (by kernel_rfl) (by simp) ?_
        refine AllReadyH.cons rfl (fun K hK => ?_) AllReadyH.nil
        simp only [List.getElem_toArray, List.getElem_cons_zero, List.getElem_cons_succ]
        go_simp
        go_at_call 11; (with_reducible refine (HB1.out _).mono ?_); rintro e w10 ⟨rfl, b10⟩; have hF10 := hF8.below b10 hF8.lt; have B10 := B8.trans (b10.mono B8.size)
        refine hK.out _ _ ?_ (fun hHeld => ?_)
        · exact ⟨(hF10.c 18).trans rfl, (hF10.c 19).trans rfl, (hF10.c 20).trans rfl⟩
        clear hK K
        (try simp only [Act.put, List.getElem_toArray, List.getElem_cons_zero, List.getElem_cons_succ, List.setIfInBounds_toArray, List.set_cons_zero, List.set_cons_succ])
        refine wpAnyH_take (i := 3) (v := ?_) rfl (by kernel_rfl) (by kernel_rfl) (by kernel_rfl) (fun _ _ _ h => h) (Or.inl ⟨by rfl, ?_⟩) (by assumption) ?_
        rotate_left
        · (intro w hSw; (try dsimp only at hSw); go_simp; (try with_reducible rfl))
        (try simp only [Act.put, List.getElem_toArray, List.getElem_cons_zero, List.getElem_cons_succ, List.setIfInBounds_toArray, List.set_cons_zero, List.set_cons_succ])
        refine wpAnyH_ready (rs := [6]) (by kernel_rfl) (by simp) ?_
        refine AllReadyH.cons rfl (fun K hK => ?_) AllReadyH.nil
        simp only [List.getElem_toArray, List.getElem_cons_zero, List.getElem_cons_succ]
        go_simp
        go_at_call 11; (with_reducible refine (HB2.out _).mono ?_); rintro e w11 ⟨rfl, b11⟩; have hF11 := hF10.below b11 hF10.lt; have B11 := B10.trans (b11.mono B10.size)
        refine hK.out _ _ ?_ (fun hHeld => ?_)
        · exact ⟨(hF11.c 18).trans rfl, (hF11.c 19).trans rfl, (hF11.c 20).trans rfl⟩
        clear hK K
        (try simp only [Act.put, List.getElem_toArray, List.getElem_cons_zero, List.getElem_cons_succ, List.setIfInBounds_toArray, List.set_cons_zero, List.set_cons_succ])
        refine wpAnyH_take (i := 7) (v := ?_) rfl (by kernel_rfl) (by kernel_rfl) (by kernel_rfl) (fun _ _ _ h => h) (Or.inl ⟨by rfl, ?_⟩) (by assumption) ?_
        rotate_left
        · (intro w hSw; (try dsimp only at hSw); go_simp; (try with_reducible rfl))
        (try simp only [Act.put, List.getElem_toArray, List.getElem_cons_zero, List.getElem_cons_succ, List.setIfInBounds_toArray, List.set_cons_zero, List.set_cons_succ])
        refine wpAnyH_take (i := 10) (v := ?_) rfl (by kernel_rfl) (by kernel_rfl) (by kernel_rfl) (fun _ _ _ h => h) (Or.inl ⟨by rfl, ?_⟩) (by assumption) ?_
        rotate_left
        · (intro w hSw; (try dsimp only at hSw); go_simp; (try with_reducible rfl))
        (try simp only [Act.put, List.getElem_toArray, List.getElem_cons_zero, List.getElem_cons_succ, List.setIfInBounds_toArray, List.set_cons_zero, List.set_cons_succ])
        refine wpAnyH_take (i := 11) (v := ?_) rfl (by kernel_rfl) (by kernel_rfl) (by kernel_rfl) (fun _ _ _ h => h) (Or.inl ⟨by rfl, ?_⟩) (by assumption) ?_
        rotate_left
        · (intro w hSw; (try dsimp only at hSw); go_simp; (try with_reducible rfl))
        (try simp only [Act.put, List.getElem_toArray, List.getElem_cons_zero, List.getElem_cons_succ, List.setIfInBounds_toArray, List.set_cons_zero, List.set_cons_succ])
        refine wpAnyH_done (by kernel_rfl) ?_ _
        refine NoPanic.normal ?_
        go_wp2_with fail
        refine (HBL.out _).mono ?_
        rintro e w12 ⟨rfl, b12⟩
        have B12 := B11.trans (b12.mono B11.size)
        go_wp2
        go_ret2
        exact ⟨by rw [HWR.out]; rfl, B12⟩

end Go.Proofs.YtageodliabdhmaaDoor
