/- Texts one behind the other. The reference's cursor: what is thrown, eaten, counted, asked for. The reference's Fault; what was thrown is caught. -/
import Derived.Test.YtdjljnpbnhampaaDoorMkP1
import Derived.Test.YtdjljnpbnhampaaDoorRdT
import Derived.Lib.BufferWrite
import Derived.BigRegion
import Derived.Defers
import Derived.Recover
namespace Go.Proofs.YtdjljnpbnhampaaDoor
open Go.RowKit
attribute [local go_sem ↓] Go.wp_at_zero Go.wp_at_succ
set_option linter.unusedSimpArgs false
set_option linter.unusedVariables false
set_option maxRecDepth 100000

/-- Block c is a cursor over s, at p, from off on. -/
def Cur (w : World) (c : Nat) (s : ByteArray) (p off : Nat) : Prop := Blk w c 101 #[.string s, .int .i64 p, .int .i64 off]

/-- What is thrown. -/
def Thr (e pl : Int) : Value := .iface 154 (.agg #[.int .i64 e, .int .i64 pl])

def Thrown (e pl : Int) : List PanicEntry := [{ v := Thr e pl, recovered := false }]

theorem throw_any {w : World} {c p off : Nat} {s : ByteArray} (h : Cur w c s p off) (e : Int) (x : Int) (hx : 0 ≤ x) (hb : (off : Int) + x ≤ 281474976710656) :
    Calls Tryd.prog 34 #[.pointer (some ⟨c, 0, none⟩), .int .i64 e, .int .i64 x] w fun r w' => r = .panicked (Thrown e (off + x)) ∧ w = w' := by
  have c2 := h.cv 2 (.int .i64 off) rfl
  unfold Thrown Thr
  go_enter Tryd.func34, Tryd.ntmps34
  go_wp2
  exact ⟨rfl, rfl, rfl⟩

theorem Cur.set {w : World} {c p off : Nat} {s : ByteArray} (h : Cur w c s p off) (q : Int) : (w.setCell ⟨c, 1, none⟩ (.int .i64 q)).heap[c]? = some (.cells #[.string s, .int .i64 q, .int .i64 off] 101 (0, 0)) := by
  have h' : w.heap[c]? = some (.cells #[.string s, .int .i64 p, .int .i64 off] 101 (0, 0)) := h
  show (w.heap.modify c _)[c]? = _
  rw [Array.getElem?_modify, if_pos rfl, h']
  rfl

theorem Cur.drew {w : World} {c p off : Nat} {s : ByteArray} (h : Cur w c s p off) : Cur w.drew c s p off := h

theorem Cur.lt {w : World} {c p off : Nat} {s : ByteArray} (h : Cur w c s p off) : c < w.heap.size := Blk.lt h

theorem Cur.below {w w' : World} {c p off : Nat} {s : ByteArray} (h : Cur w c s p off) (hb : Below w.heap.size w w') : Cur w' c s p off := Blk.kept h hb

theorem grownC (w : World) (c i : Nat) (v : Value) : w.grownBy (w.setCell ⟨c, i, none⟩ v) (some c) :=
  ⟨rfl, rfl, rfl, by simp [World.setCell], fun k _ hne => Below.heap_setCell _ _ _ _ (by intro e; exact hne (by rw [e]))⟩

theorem cutT (s : ByteArray) (p n : Nat) : s.extract p (p + n) = ⟨((s.data.toList.drop p).take n).toArray⟩ := by
  apply ByteArray.ext
  apply Array.toList_inj.1
  rw [extract_list]
  simp

theorem eat_ok {w : World} {c p off : Nat} {s : ByteArray} (h : Cur w c s p off) (n : Nat) (hn : p + n ≤ s.size) (hb : off + s.size ≤ 281474976710656) :
    Calls Tryd.prog 35 #[.pointer (some ⟨c, 0, none⟩), .int .i64 n] w fun r w' => r = .returned (.string ⟨((s.data.toList.drop p).take n).toArray⟩) ∧ Cur w' c s (p + n) off ∧ w.grownBy w' (some c) := by
  have c0 := h.cv 0 (.string s) rfl
  have c1 := h.cv 1 (.int .i64 p) rfl
  have z1 := h.fz 1
  have hd : decide ((s.size : Int) - p < n) = false := decide_eq_false (by omega)
  have HC := Lib.hid (cutT s p n)
  have HS := Lib.hid (h.set ((p + n : Nat) : Int))
  have HG := Lib.hid (grownC w c 1 (.int .i64 ((p + n : Nat) : Int)))
  clear h
  rw [← HC.out]
  go_enter Tryd.func35, Tryd.ntmps35
  go_wp2
  go_region
  go_wp2
  go_region
  go_wp2
  go_ret
  exact ⟨rfl, HS.out, HG.out.os, HG.out.tape, HG.out.output, HG.out.size, HG.out.block⟩

theorem eat_bad {w : World} {c p off : Nat} {s : ByteArray} (h : Cur w c s p off) (n : Nat) (hn : ¬ p + n ≤ s.size) (hp : p ≤ s.size) (hn2 : n ≤ 1000000) (hb : off + s.size ≤ 281474976710656) :
    Calls Tryd.prog 35 #[.pointer (some ⟨c, 0, none⟩), .int .i64 n] w fun r w' => r = .panicked (Thrown 7 (off + p)) ∧ Below w.heap.size w w' := by
  have c0 := h.cv 0 (.string s) rfl
  have c1 := h.cv 1 (.int .i64 p) rfl
  have hd : decide ((s.size : Int) - p < n) = true := decide_eq_true (by omega)
  have hbl : Below w.heap.size w w := Below.refl _ _
  have HD : Cur w.drew c s p off := h
  clear h
  go_enter Tryd.func35, Tryd.ntmps35
  go_wp2
  go_region
  go_wp2_with fail
  refine (throw_any HD 7 p (by omega) (by omega)).mono ?_
  rintro e w2 ⟨rfl, rfl⟩
  go_wp2
  exact ⟨rfl, rfl, hbl.os, hbl.tape, hbl.output, hbl.size, hbl.block⟩

set_option maxHeartbeats 1000000 in
theorem cnum_ok {w : World} {c p off : Nat} {s : ByteArray} (h : Cur w c s p off) (n : Nat) (hn7 : n ≤ 7) (hn : p + n ≤ s.size) (hb : off + s.size ≤ 281474976710656) :
    Calls Tryd.prog 32 #[.pointer (some ⟨c, 0, none⟩), .int .i64 n] w fun r w' => r = .returned (.int .i64 (beN ((s.data.toList.drop p).take n))) ∧ Cur w' c s (p + n) off ∧ w.grownBy w' (some c) := by
  have hLn : ((s.data.toList.drop p).take n).length = n := by rw [List.length_take, List.length_drop]; simp; omega
  have HE : Hid (Calls Tryd.prog 35 #[.pointer (some ⟨c, 0, none⟩), .int .i64 n] w fun r w' => r = .returned (.string ⟨((s.data.toList.drop p).take n).toArray⟩) ∧ Cur w' c s (p + n) off ∧ w.grownBy w' (some c)) := eat_ok h n hn hb
  clear h hn hb
  generalize ((s.data.toList.drop p).take n) = t at *
  go_enter Tryd.func32, Tryd.ntmps32
  go_wp2_with fail
  refine HE.out.mono ?_
  rintro e w' ⟨rfl, hr, hg⟩
  have hcv := fun W => run_bytes_of_string (P := Tryd.prog) W 9 157 5 ⟨t.toArray⟩ Tryd.underlying9 Tryd.underlying157 Tryd.underlying5
  have hsz : (⟨t.toArray⟩ : ByteArray).size = n := by simp [ByteArray.size, hLn]
  go_wp2
  have hB := byteRow_new w' ⟨t.toArray⟩ (grownCap w' n 0 5) 5
  have hR : Cur ((w'.alloc (Obj.cells (bytesRow ⟨t.toArray⟩ (grownCap w' n 0 5)) 5 ((bytesRow ⟨t.toArray⟩ (grownCap w' n 0 5)).size, (bytesRow ⟨t.toArray⟩ (grownCap w' n 0 5)).size + 1))).drew) c s (p + n) off := Blk.alloc hr _
  have hG : w.grownBy ((w'.alloc (Obj.cells (bytesRow ⟨t.toArray⟩ (grownCap w' n 0 5)) 5 ((bytesRow ⟨t.toArray⟩ (grownCap w' n 0 5)).size, (bytesRow ⟨t.toArray⟩ (grownCap w' n 0 5)).size + 1))).drew) (some c) := by
    have k2 := grownBy_trans hg (World.grownBy_alloc w' (Obj.cells (bytesRow ⟨t.toArray⟩ (grownCap w' n 0 5)) 5 ((bytesRow ⟨t.toArray⟩ (grownCap w' n 0 5)).size, (bytesRow ⟨t.toArray⟩ (grownCap w' n 0 5)).size + 1)) (some c))
    exact ⟨k2.os, k2.tape, k2.output, k2.size, k2.block⟩
  have HL := Lib.hid hLn
  clear hLn hcv hsz hr hg
  generalize ((w'.alloc (Obj.cells (bytesRow ⟨t.toArray⟩ (grownCap w' n 0 5)) 5 ((bytesRow ⟨t.toArray⟩ (grownCap w' n 0 5)).size, (bytesRow ⟨t.toArray⟩ (grownCap w' n 0 5)).size + 1))).drew) = W1 at *
  have hB' : ByteRow W1 w'.heap.size t := hB
  clear hB
  go_loop [5, 13] (fun x i => ∃ k : Nat, k ≤ n ∧ i = .int .i64 k ∧ x = .int .i64 (beN (t.take k))) (fun _ i => n - (intOf i).toNat)
  case atStart => exact ⟨0, by omega, rfl, rfl⟩
  case round =>
    obtain ⟨k, hk, rfl, rfl⟩ := hrel
    by_cases hlt : k < n
    · have hcell := hB' k (t[k]'(by rw [HL.out]; exact hlt)) (List.getElem?_eq_getElem _)
      have hX : beN (t.take k) < 281474976710656 := by
        have h := beN_lt (t.take k)
        have hl : (t.take k).length = k := by rw [List.length_take, HL.out]; omega
        rw [hl] at h
        have h7 : 256 ^ k ≤ 256 ^ 6 := Nat.pow_le_pow_right (by omega) (by omega)
        omega
      have HN := Lib.hid (take_snoc t k (by rw [HL.out]; exact hlt))
      have hb8 := (t[k]'(by rw [HL.out]; exact hlt)).toNat_lt
      generalize (t[k]'(by rw [HL.out]; exact hlt)) = b at *
      have q1 : (0 : Int) ≤ (beN (t.take k) : Int) := by omega
      have q2 : (beN (t.take k) : Int) < 281474976710656 := by omega
      have q3 : (0 : Int) ≤ (b.toNat : Int) := by omega
      have q4 : (b.toNat : Int) < 256 := by omega
      clear hX hb8
      go_wp2
      go_round
      case rel => exact ⟨k + 1, by omega, by go_num, by rw [HN.out, beN_snoc]; simp⟩
      case measure => simp [intOf]; omega
    · obtain rfl : k = n := by omega
      have HK := Lib.hid (List.take_of_length_le (l := t) (i := k) (by rw [HL.out]; omega))
      go_wp2
      go_ret
      exact ⟨by rw [HK.out]; rfl, hR, hG⟩

/-- Missing bytes are missing for a number, too. -/
theorem cnum_bad {w : World} {c p off : Nat} {s : ByteArray} (h : Cur w c s p off) (n : Nat) (hn : ¬ p + n ≤ s.size) (hp : p ≤ s.size) (hn2 : n ≤ 1000000) (hb : off + s.size ≤ 281474976710656) :
    Calls Tryd.prog 32 #[.pointer (some ⟨c, 0, none⟩), .int .i64 n] w fun r w' => r = .panicked (Thrown 7 (off + p)) ∧ Below w.heap.size w w' := by
  have HE : Hid (Calls Tryd.prog 35 #[.pointer (some ⟨c, 0, none⟩), .int .i64 n] w fun r w' => r = .panicked (Thrown 7 (off + p)) ∧ Below w.heap.size w w') := eat_bad h n hn hp hn2 hb
  clear h hn hb
  go_enter Tryd.func32, Tryd.ntmps32
  go_wp2_with fail
  refine HE.out.mono ?_
  rintro e w' ⟨rfl, hb2⟩
  go_wp2
  exact ⟨rfl, rfl, hb2⟩

/-- Just these bytes. -/
theorem want_ok {w : World} {c p off : Nat} {s t : ByteArray} (h : Cur w c s p off) (hn : p + t.size ≤ s.size) (ht : (s.data.toList.drop p).take t.size = t.data.toList) (hb : off + s.size ≤ 281474976710656) :
    Calls Tryd.prog 30 #[.pointer (some ⟨c, 0, none⟩), .string t] w fun r w' => r = .returned (.tuple #[]) ∧ Cur w' c s (p + t.size) off ∧ w.grownBy w' (some c) := by
  have HE : Hid (Calls Tryd.prog 35 #[.pointer (some ⟨c, 0, none⟩), .int .i64 t.size] w fun r w' => r = .returned (.string t) ∧ Cur w' c s (p + t.size) off ∧ w.grownBy w' (some c)) := by
    have h2 := eat_ok h t.size hn hb
    rw [ht] at h2
    exact h2
  have c1 := h.cv 1 (.int .i64 p) rfl
  clear h hn hb ht
  go_enter Tryd.func30, Tryd.ntmps30
  go_wp2_with fail
  refine HE.out.mono ?_
  rintro e w' ⟨rfl, hr, hg⟩
  go_wp2
  go_end0
  exact ⟨rfl, hr, hg⟩

theorem want_bad {w : World} {c p off : Nat} {s t : ByteArray} (h : Cur w c s p off) (hn : ¬ p + t.size ≤ s.size) (hp : p ≤ s.size) (hn2 : t.size ≤ 1000000) (hb : off + s.size ≤ 281474976710656) :
    Calls Tryd.prog 30 #[.pointer (some ⟨c, 0, none⟩), .string t] w fun r w' => r = .panicked (Thrown 7 (off + p)) ∧ Below w.heap.size w w' := by
  have HE : Hid (Calls Tryd.prog 35 #[.pointer (some ⟨c, 0, none⟩), .int .i64 t.size] w fun r w' => r = .panicked (Thrown 7 (off + p)) ∧ Below w.heap.size w w') := eat_bad h t.size hn hp hn2 hb
  have c1 := h.cv 1 (.int .i64 p) rfl
  clear h hn hb
  go_enter Tryd.func30, Tryd.ntmps30
  go_wp2_with fail
  refine HE.out.mono ?_
  rintro e w' ⟨rfl, hb2⟩
  go_wp2
  exact ⟨rfl, rfl, hb2⟩

theorem want_form {w : World} {c p off : Nat} {s t : ByteArray} (h : Cur w c s p off) (hn : p + t.size ≤ s.size) (ht : (s.data.toList.drop p).take t.size ≠ t.data.toList) (hb : off + s.size ≤ 281474976710656) :
    Calls Tryd.prog 30 #[.pointer (some ⟨c, 0, none⟩), .string t] w fun r w' => r = .panicked (Thrown 3 (off + p)) ∧ w.grownBy w' (some c) := by
  obtain ⟨u, hu⟩ : ∃ u : ByteArray, u = ⟨((s.data.toList.drop p).take t.size).toArray⟩ := ⟨_, rfl⟩
  have HE : Hid (Calls Tryd.prog 35 #[.pointer (some ⟨c, 0, none⟩), .int .i64 t.size] w fun r w' => r = .returned (.string u) ∧ Cur w' c s (p + t.size) off ∧ w.grownBy w' (some c)) := by
    have h2 := eat_ok h t.size hn hb
    rw [← hu] at h2
    exact h2
  have hne : (u.toList == t.toList) = false := by
    apply beq_eq_false_iff_ne.2
    intro e
    rw [ByteArray.toList_eq, ByteArray.toList_eq, hu] at e
    exact ht e
  have c1 := h.cv 1 (.int .i64 p) rfl
  have hpb : off + p ≤ 281474976710656 := by omega
  clear h hn hb ht hu
  go_enter Tryd.func30, Tryd.ntmps30
  go_wp2_with fail
  refine HE.out.mono ?_
  rintro e w' ⟨rfl, hr, hg⟩
  go_wp2_with fail
  refine (throw_any hr 3 p (by omega) (by omega)).mono ?_
  rintro e w2 ⟨rfl, rfl⟩
  go_wp2
  exact ⟨rfl, rfl, hg⟩

theorem Tryd.addrZero : (Tryd.prog.info? 25).map (·.zero) = some (some (.agg (c6 z6))) := by kernel_rfl

theorem addr_ok {w : World} {c p off : Nat} {s : ByteArray} (h : Cur w c s p off) (hn : p + 6 ≤ s.size) (hb : off + s.size ≤ 281474976710656) :
    Calls Tryd.prog 71 #[.pointer (some ⟨c, 0, none⟩)] w fun r w' => r = .returned (.agg (c6 (byX ((s.data.toList.drop p).take 6)))) ∧ Cur w' c s (p + 6) off ∧ w.grownBy w' (some c) := by
  have HA := Blk.new w 25 (c6 z6)
  have hC : Cur (w.alloc (.cells (c6 z6) 25)) c s p off := Blk.alloc h _
  have hgA := World.grownBy_alloc w (.cells (c6 z6) 25) (some c)
  have hLn : ((s.data.toList.drop p).take 6).length = 6 := by rw [List.length_take, List.length_drop]; simp; omega
  have hcz : c < w.heap.size := h.lt
  have HE : Hid (∀ W, Cur W c s p off → Calls Tryd.prog 35 #[.pointer (some ⟨c, 0, none⟩), .int .i64 6] W fun r w' => r = .returned (.string ⟨((s.data.toList.drop p).take 6).toArray⟩) ∧ Cur w' c s (p + 6) off ∧ W.grownBy w' (some c)) := fun W h => eat_ok h 6 hn hb
  clear h hn hb
  generalize ((s.data.toList.drop p).take 6) = t at *
  have HL := Lib.hid hLn
  clear hLn
  go_enter Tryd.func71, Tryd.ntmps71
  go_upto_region 1 with (refine alloc_blk 25 (c6 z6) (by rfl) rfl Tryd.addrZero ?_)
  generalize w.alloc (.cells (c6 z6) 25) = w1 at *
  refine wp_region_noPanic ?_
  refine wp_region_held_drew (S := (fun _ => True)) (by kernel_rfl) ?_ (fun hHeld => ?_)
  · exact trivial
  refine wpAnyH_take (i := 0) (v := ?_) rfl (by kernel_rfl) (by kernel_rfl) (by kernel_rfl) (fun _ _ _ h => h) (Or.inl ⟨by rfl, ?_⟩) (by assumption) ?_
  rotate_left
  · (intro w hSw; (try dsimp only at hSw); go_simp; (try with_reducible rfl))
  (try simp only [Act.put, List.getElem_toArray, List.getElem_cons_zero, List.getElem_cons_succ, List.setIfInBounds_toArray, List.set_cons_zero, List.set_cons_succ])
  refine wpAnyH_take (i := 1) (v := ?_) rfl (by kernel_rfl) (by kernel_rfl) (by kernel_rfl) (fun _ _ _ h => h) (Or.inl ⟨by rfl, ?_⟩) (by assumption) ?_
  rotate_left
  · (intro w hSw; (try dsimp only at hSw); go_simp; (try with_reducible rfl))
  (try simp only [Act.put, List.getElem_toArray, List.getElem_cons_zero, List.getElem_cons_succ, List.setIfInBounds_toArray, List.set_cons_zero, List.set_cons_succ])
  refine wpAnyH_ready (rs := [2]) (by kernel_rfl) (by simp) ?_
  refine AllReadyH.cons rfl (fun K hK => ?_) AllReadyH.nil
  simp only [List.getElem_toArray, List.getElem_cons_zero, List.getElem_cons_succ]
  go_simp
  go_at_call 35; (with_reducible refine (HE.out _ hC.drew).mono ?_); rintro e w2 ⟨rfl, hC2, hg2⟩; have HA2 := HA.drew.grown hg2 (by simp; omega)
  refine hK.out _ _ ?_ (fun hHeld => ?_)
  · exact trivial
  clear hK K
  (try simp only [Act.put, List.getElem_toArray, List.getElem_cons_zero, List.getElem_cons_succ, List.setIfInBounds_toArray, List.set_cons_zero, List.set_cons_succ])
  refine wpAnyH_ready (rs := [3]) (by kernel_rfl) (by simp) ?_
  refine AllReadyH.cons rfl (fun K hK => ?_) AllReadyH.nil
  simp only [List.getElem_toArray, List.getElem_cons_zero, List.getElem_cons_succ]
  rw [if_pos (by rfl)]
  refine wp_copy_text ⟨t.toArray⟩ (c6 (byX t)) 5 rfl rfl rfl HA2 Tryd.underlying157 (by kernel_rfl) (by simp [ByteArray.size, HL.out]) (by simp [ByteArray.size, HL.out, c6]) ?_ (fun w3 HA3 b3 g3 => ?_)
  · rw [byX_c6 t HL.out]; simp [ByteArray.size, HL.out, c6]
  have hC3 : Cur w3 c s (p + 6) off := Blk.grown hC2 g3 (by simp; omega)
  refine hK.out _ _ ?_ (fun hHeld => ?_)
  · trivial
  clear hK K
  (try simp only [Act.put, List.getElem_toArray, List.getElem_cons_zero, List.getElem_cons_succ, List.setIfInBounds_toArray, List.set_cons_zero, List.set_cons_succ])
  refine wpAnyH_done (by kernel_rfl) ?_ _
  refine NoPanic.normal ?_
  go_wp2_with (first | (refine load_blk (k := 0) 25 (c6 (byX t)) (by rfl) rfl rfl HA3 (by kernel_rfl) (by kernel_rfl) rfl ?_) | (refine store_blk (k := 0) 25 (.agg (c6 (byX t))) (c6 (byX t)) (by rfl) rfl rfl rfl HA3 (by kernel_rfl) (by exact Nat.le_refl 6) rfl rfl (fun w4 HA4 b4 g4 => ?_)))
  have hC4 : Cur w4 c s (p + 6) off := Blk.grown hC3 g4 (by simp; omega)
  have hg1 : w.grownBy w2 (some c) := grownBy_trans hgA ⟨hg2.os, hg2.tape, hg2.output, hg2.size, hg2.block⟩
  have hs2 : w.heap.size < w2.heap.size := HA2.lt
  refine bodyPost_ret (results_blk rfl rfl HA4 (by kernel_rfl) (by kernel_rfl)) rfl ⟨rfl, hC4, g4.os.trans (g3.os.trans hg1.os), g4.tape.trans (g3.tape.trans hg1.tape), g4.output.trans (g3.output.trans hg1.output), Nat.le_trans hg1.size (Nat.le_trans g3.size g4.size), fun k hk hne => ?_⟩
  have k1 := hg1.block k hk hne
  have k2 := g3.block k (by omega) (by simp; omega)
  have k3 := g4.block k (Nat.lt_of_lt_of_le (by omega : k < w2.heap.size) g3.size) (by simp; omega)
  exact k3.trans (k2.trans k1)

theorem addr_bad {w : World} {c p off : Nat} {s : ByteArray} (h : Cur w c s p off) (hn : ¬ p + 6 ≤ s.size) (hp : p ≤ s.size) (hb : off + s.size ≤ 281474976710656) :
    Calls Tryd.prog 71 #[.pointer (some ⟨c, 0, none⟩)] w fun r w' => r = .panicked (Thrown 7 (off + p)) ∧ Below w.heap.size w w' := by
  have hC : Cur (w.alloc (.cells (c6 z6) 25)) c s p off := Blk.alloc h _
  have hb0 : Below w.heap.size w (w.alloc (.cells (c6 z6) 25)) := (Below.refl _ _).alloc (Nat.le_refl _) _
  have HE : Hid (∀ W, Cur W c s p off → Calls Tryd.prog 35 #[.pointer (some ⟨c, 0, none⟩), .int .i64 6] W fun r w' => r = .panicked (Thrown 7 (off + p)) ∧ Below W.heap.size W w') := fun W h => eat_bad h 6 hn hp (by decide) hb
  clear h hn hb
  go_enter Tryd.func71, Tryd.ntmps71
  go_upto_region 1 with (refine alloc_blk 25 (c6 z6) (by rfl) rfl Tryd.addrZero ?_)
  generalize w.alloc (.cells (c6 z6) 25) = w1 at *
  refine wp_region_held_drew (S := (fun _ => True)) (by kernel_rfl) trivial (fun hHeld => ?_)
  refine wpAnyH_ready (rs := [0, 1]) (by kernel_rfl) (by simp) ?_
  refine (AllReadyH.cons rfl (fun K hK => ?_) (AllReadyH.cons rfl (fun K hK => ?_) AllReadyH.nil))
  · simp only [List.getElem_toArray, List.getElem_cons_zero, List.getElem_cons_succ]
    go_simp
    refine hK.out _ _ ?_ (fun hHeld => ?_)
    · trivial
    clear hK K
    (try simp only [Act.put, List.getElem_toArray, List.getElem_cons_zero, List.getElem_cons_succ, List.setIfInBounds_toArray, List.set_cons_zero, List.set_cons_succ])
    refine wpAnyH_ready (rs := [1]) (by kernel_rfl) (by simp) ?_
    refine (AllReadyH.cons rfl (fun K hK => ?_) AllReadyH.nil)
    simp only [List.getElem_toArray, List.getElem_cons_zero, List.getElem_cons_succ]
    go_simp
    refine hK.out _ _ ?_ (fun hHeld => ?_)
    · trivial
    clear hK K
    (try simp only [Act.put, List.getElem_toArray, List.getElem_cons_zero, List.getElem_cons_succ, List.setIfInBounds_toArray, List.set_cons_zero, List.set_cons_succ])
    refine wpAnyH_ready (rs := [2]) (by kernel_rfl) (by simp) ?_
    refine (AllReadyH.cons rfl (fun K hK => ?_) AllReadyH.nil)
    simp only [List.getElem_toArray, List.getElem_cons_zero, List.getElem_cons_succ]
    go_simp
    go_at_call 35; (with_reducible refine (HE.out _ hC.drew).mono ?_); rintro e w2 ⟨rfl, b2⟩
    go_wp2
    exact ⟨rfl, rfl, hb0.drew.trans (b2.mono hb0.size)⟩
  · simp only [List.getElem_toArray, List.getElem_cons_zero, List.getElem_cons_succ]
    go_simp
    refine hK.out _ _ ?_ (fun hHeld => ?_)
    · trivial
    clear hK K
    (try simp only [Act.put, List.getElem_toArray, List.getElem_cons_zero, List.getElem_cons_succ, List.setIfInBounds_toArray, List.set_cons_zero, List.set_cons_succ])
    refine wpAnyH_ready (rs := [0, 2]) (by kernel_rfl) (by simp) ?_
    refine (AllReadyH.cons rfl (fun K hK => ?_) (AllReadyH.cons rfl (fun K hK => ?_) AllReadyH.nil))
    · simp only [List.getElem_toArray, List.getElem_cons_zero, List.getElem_cons_succ]
      go_simp
      refine hK.out _ _ ?_ (fun hHeld => ?_)
      · trivial
      clear hK K
      (try simp only [Act.put, List.getElem_toArray, List.getElem_cons_zero, List.getElem_cons_succ, List.setIfInBounds_toArray, List.set_cons_zero, List.set_cons_succ])
      refine wpAnyH_ready (rs := [2]) (by kernel_rfl) (by simp) ?_
      refine (AllReadyH.cons rfl (fun K hK => ?_) AllReadyH.nil)
      simp only [List.getElem_toArray, List.getElem_cons_zero, List.getElem_cons_succ]
      go_simp
      go_at_call 35; (with_reducible refine (HE.out _ hC.drew).mono ?_); rintro e w2 ⟨rfl, b2⟩
      go_wp2
      exact ⟨rfl, rfl, hb0.drew.trans (b2.mono hb0.size)⟩
    · simp only [List.getElem_toArray, List.getElem_cons_zero, List.getElem_cons_succ]
      go_simp
      go_at_call 35; (with_reducible refine (HE.out _ hC.drew).mono ?_); rintro e w2 ⟨rfl, b2⟩
      go_wp2
      exact ⟨rfl, rfl, hb0.drew.trans (b2.mono hb0.size)⟩

def curAt (w : World) (c : Nat) : Nat := match w.cell? ⟨c, 1, none⟩ with | some (.int _ n) => n.toNat | _ => 0

theorem Cur.at {w : World} {c p off : Nat} {s : ByteArray} (h : Cur w c s p off) : curAt w c = p := by
  unfold curAt
  rw [h.cv 1 (.int .i64 p) rfl]
  simp


end Go.Proofs.YtdjljnpbnhampaaDoor

namespace Go.Proofs.YtdjljnpbnhampaaDoor
open Go.RowKit
attribute [local go_sem ↓] Go.wp_at_zero Go.wp_at_succ
set_option linter.unusedSimpArgs false
set_option linter.unusedVariables false
set_option maxRecDepth 100000

/-- A Fault's cells. -/
def ftC (e pl : Int) : Array Value := #[.int .i64 e, .int .i64 pl]

theorem Tryd.ftZero : (Tryd.prog.info? 37).map (·.zero) = some (some (.agg (ftC 0 0))) := by kernel_rfl

theorem good_any (w : World) : Calls Tryd.prog 26 #[] w fun e w' => e = .returned (.agg (ftC 0 (-1))) ∧ Below w.heap.size w w' := by
  have HZ := Blk.new w 37 (ftC 0 0)
  have hb0 : Below w.heap.size w (w.alloc (.cells (ftC 0 0) 37)) := (Below.refl _ _).alloc (Nat.le_refl _) _
  go_enter Tryd.func26, Tryd.ntmps26
  go_wp2_with (first | (refine alloc_blk 37 (ftC 0 0) (by rfl) rfl Tryd.ftZero ?_) | (refine build_blk (t := 37) (ftC 0 (-1)) (by rfl) rfl (by kernel_rfl) ?_) | (refine store_blk (k := 0) 37 (.agg (ftC 0 (-1))) (ftC 0 (-1)) (by rfl) rfl rfl rfl HZ (by kernel_rfl) (by exact Nat.le_refl 2) rfl rfl (fun w2 H2 b2 g2 => ?_)))
  exact bodyPost_ret (results_blk rfl rfl H2 (by kernel_rfl) (by kernel_rfl)) rfl ⟨rfl, hb0.trans b2⟩

theorem is_any (e pl : Int) (w : World) : Calls Tryd.prog 28 #[.agg (ftC e pl)] w fun r w' => r = .returned (.bool (e == 0)) ∧ Below w.heap.size w w' := by
  have hb0 : Below w.heap.size w (w.alloc (.cells (ftC e pl) 37)) := (Below.refl _ _).alloc (Nat.le_refl _) _
  unfold ftC at *
  go_enter Tryd.func28, Tryd.ntmps28
  go_wp2
  go_ret
  exact ⟨rfl, hb0⟩

theorem Tryd.isThrown (v : Value) (w : World) : (Instr.typeAssert (.iface 154 v) 20 154 true).run Tryd.prog w = .ok (.tuple #[v, .bool true]) w := by kernel_rfl

theorem Tryd.thZero : (Tryd.prog.info? 154).map (·.zero) = some (some (.agg (ftC 0 0))) := by kernel_rfl

/-- The rest of a deferred call, where nothing more is recovered: its post behind a name. -/
theorem wpS_rest {P : Program} {c : Code} {Q : Exit → Act → List Frame → World → Prop} {a : Act} {cs : List Frame} {w : World} (T : Array Value) (hT : a = { tmps := T, defers := [] }) (h : ∀ Q' : Exit → Act → World → Prop, Hid (∀ e a' w', Q e a' cs w' → Q' e a' w') → c.wp P Q' { tmps := T, defers := [] } w) : c.wpS P Q a cs w := by
  subst hT
  exact wpS_of_wp (h _ (Lib.hid fun _ _ _ x => x))

/-- caught, where nothing was thrown. -/
theorem caught_idle (p : Addr) (w : World) :
    CallsD Tryd.prog 29 #[.pointer (some p)] .returning w fun e u' w' => e = .returned (.tuple #[]) ∧ u' = .returning ∧ w' = w := by
  have hnn : ∀ w : World, (binOp BinOp.neq 20 .nilIface .nilIface).run Tryd.prog w = .ok (.bool false) w := fun _ => by kernel_rfl
  refine callsD_of_wpS Tryd.func29 rfl fun c₀ cs hu => ?_
  apply wpS_seq
  apply wpS_region
  simp [wpOpsS, go_sem, recoverD, hu, Tryd.ntmps29, Exit.thenS]
  refine wpS_rest #[.pointer (some p), undef, .nilIface, undef, undef, .nilIface, undef, undef, undef, undef, undef, undef, undef, undef, undef, undef, undef, undef, undef, undef] (by kernel_rfl) fun Q' hQ' => ?_
  go_wp2
  refine hQ'.out _ _ _ ?_
  cases c₀
  simp_all [bodyPostS, results, Tryd.results29]

/-- caught, where something was thrown: it is laid. -/
theorem caught_thrown (B : Nat) (e0 pl0 e pl : Int) (older : List PanicEntry) (w : World) (hB : Blk w B 37 (ftC e0 pl0)) :
    CallsD Tryd.prog 29 #[.pointer (some ⟨B, 0, none⟩)] (.panicking ({ v := Thr e pl, recovered := false } :: older)) w fun r u' w' => r = .returned (.tuple #[]) ∧ u' = .panicking ({ v := Thr e pl, recovered := true } :: older) ∧ Blk w' B 37 (ftC e pl) ∧ w.grownBy w' (some B) := by
  have hta := Tryd.isThrown
  have hnn : ∀ w : World, (binOp BinOp.neq 20 (.iface 154 (.agg #[.int .i64 e, .int .i64 pl])) .nilIface).run Tryd.prog w = .ok (.bool true) w := fun _ => by kernel_rfl
  have HB2 := hB.alloc (.cells (ftC 0 0) 154)
  have HT := Blk.new w 154 (ftC 0 0)
  have hg0 := World.grownBy_alloc w (.cells (ftC 0 0) 154) (some B)
  have hlt := hB.lt
  refine callsD_of_wpS Tryd.func29 rfl fun c₀ cs hu => ?_
  unfold Thr at *
  apply wpS_seq
  apply wpS_region
  simp [wpOpsS, go_sem, recoverD, hu, Tryd.ntmps29, Exit.thenS]
  refine wpS_rest #[.pointer (some ⟨B, 0, none⟩), undef, .iface 154 (.agg #[.int .i64 e, .int .i64 pl]), undef, undef, .iface 154 (.agg #[.int .i64 e, .int .i64 pl]), undef, undef, undef, undef, undef, undef, undef, undef, undef, undef, undef, undef, undef, undef] (by kernel_rfl) fun Q' hQ' => ?_
  go_upto_region 5 with (first | (refine alloc_blk 154 (ftC 0 0) (by rfl) rfl Tryd.thZero ?_) | (refine store_blk (k := 0) 154 (.agg (ftC e pl)) (ftC e pl) (by rfl) rfl rfl rfl HT (by kernel_rfl) (by exact Nat.le_refl 2) rfl rfl (fun w2 HT2 b2 g2 => ?_)))
  have HB3 := HB2.grown g2 (by simp; omega)
  go_wp2_with (first | (refine load_blk (k := 0) 37 (ftC e pl) (by rfl) rfl rfl HT2 (by kernel_rfl) (by kernel_rfl) rfl ?_) | (refine store_blk (k := 0) 37 (.agg (ftC e pl)) (ftC e pl) (by rfl) rfl rfl rfl HB3 (by kernel_rfl) (by exact Nat.le_refl 2) rfl rfl (fun w3 HB4 b3 g3 => ?_)))
  have hG : w.grownBy w3 (some B) := by
    have h1 : w.grownBy w2 (some B) := ⟨g2.os, g2.tape, g2.output, Nat.le_trans hg0.size g2.size, fun k hk hne => (g2.block k (by simp; omega) (by simp; omega)).trans (hg0.block k hk hne)⟩
    exact grownBy_trans h1 g3
  refine hQ'.out _ _ _ ?_
  cases c₀
  simp_all [bodyPostS, results, Tryd.results29]

end Go.Proofs.YtdjljnpbnhampaaDoor

