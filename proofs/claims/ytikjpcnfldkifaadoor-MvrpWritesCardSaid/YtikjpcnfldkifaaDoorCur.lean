/- The reference's cursor: what is thrown, eaten, counted, asked for. -/
import Derived.Test.YtikjpcnfldkifaaDoorRdT
import Derived.Test.YtikjpcnfldkifaaDoorCopyT
import Derived.Lib.BufferWrite
import Derived.BigRegion
namespace Go.Proofs.YtikjpcnfldkifaaDoor
open Go.RowKit
attribute [local go_sem ↓] Go.wp_at_zero Go.wp_at_succ
set_option linter.unusedSimpArgs false
set_option linter.unusedVariables false
set_option maxRecDepth 100000

/-- Block c is a cursor over s, at p, from off on. -/
def Cur (w : World) (c : Nat) (s : ByteArray) (p off : Nat) : Prop := Blk w c 124 #[.string s, .int .i64 p, .int .i64 off]

/-- What is thrown. -/
def Thr (e pl : Int) : Value := .iface 177 (.agg #[.int .i64 e, .int .i64 pl])

def Thrown (e pl : Int) : List PanicEntry := [{ v := Thr e pl, recovered := false }]

theorem throw_any {w : World} {c p off : Nat} {s : ByteArray} (h : Cur w c s p off) (e : Int) (x : Int) (hx : 0 ≤ x) (hb : (off : Int) + x ≤ 281474976710656) :
    Calls Tryd.prog 52 #[.pointer (some ⟨c, 0, none⟩), .int .i64 e, .int .i64 x] w fun r w' => r = .panicked (Thrown e (off + x)) ∧ w = w' := by
  have c2 := h.cv 2 (.int .i64 off) rfl
  unfold Thrown Thr
  go_enter Tryd.func52, Tryd.ntmps52
  go_wp2
  exact ⟨rfl, rfl, rfl⟩

theorem Cur.set {w : World} {c p off : Nat} {s : ByteArray} (h : Cur w c s p off) (q : Int) : (w.setCell ⟨c, 1, none⟩ (.int .i64 q)).heap[c]? = some (.cells #[.string s, .int .i64 q, .int .i64 off] 124 (0, 0)) := by
  have h' : w.heap[c]? = some (.cells #[.string s, .int .i64 p, .int .i64 off] 124 (0, 0)) := h
  show (w.heap.modify c _)[c]? = _
  rw [Array.getElem?_modify, if_pos rfl, h']
  rfl

theorem Cur.drew {w : World} {c p off : Nat} {s : ByteArray} (h : Cur w c s p off) : Cur w.drew c s p off := h

theorem Cur.lt {w : World} {c p off : Nat} {s : ByteArray} (h : Cur w c s p off) : c < w.heap.size := Blk.lt h

theorem Cur.below {w w' : World} {c p off : Nat} {s : ByteArray} (h : Cur w c s p off) (hb : Below w.heap.size w w') : Cur w' c s p off := Blk.kept h hb

theorem grownC (w : World) (c i : Nat) (v : Value) : w.grownBy (w.setCell ⟨c, i, none⟩ v) (some c) :=
  ⟨rfl, rfl, rfl, by simp [World.setCell], fun k _ hne => Below.heap_setCell _ _ _ _ (by intro e; exact hne (by rw [e]))⟩

theorem cutT (s : ByteArray) (p n : Nat) : s.extract p (p + n) = ⟨((s.data.toList.drop p).take n).toArray⟩ := by
  apply ByteArray.ext
  apply Array.toList_inj.1
  rw [extract_list]
  simp

theorem eat_ok {w : World} {c p off : Nat} {s : ByteArray} (h : Cur w c s p off) (n : Nat) (hn : p + n ≤ s.size) (hb : off + s.size ≤ 281474976710656) :
    Calls Tryd.prog 81 #[.pointer (some ⟨c, 0, none⟩), .int .i64 n] w fun r w' => r = .returned (.string ⟨((s.data.toList.drop p).take n).toArray⟩) ∧ Cur w' c s (p + n) off ∧ w.grownBy w' (some c) := by
  have c0 := h.cv 0 (.string s) rfl
  have c1 := h.cv 1 (.int .i64 p) rfl
  have z1 := h.fz 1
  have hd : decide ((s.size : Int) - p < n) = false := decide_eq_false (by omega)
  have HC := Lib.hid (cutT s p n)
  have HS := Lib.hid (h.set ((p + n : Nat) : Int))
  have HG := Lib.hid (grownC w c 1 (.int .i64 ((p + n : Nat) : Int)))
  clear h
  rw [← HC.out]
  go_enter Tryd.func81, Tryd.ntmps81
  go_wp2
  go_region
  go_wp2
  go_region
  go_wp2
  go_ret
  exact ⟨rfl, HS.out, HG.out.os, HG.out.tape, HG.out.output, HG.out.size, HG.out.block⟩

theorem eat_bad {w : World} {c p off : Nat} {s : ByteArray} (h : Cur w c s p off) (n : Nat) (hn : ¬ p + n ≤ s.size) (hp : p ≤ s.size) (hn2 : n ≤ 1000000) (hb : off + s.size ≤ 281474976710656) :
    Calls Tryd.prog 81 #[.pointer (some ⟨c, 0, none⟩), .int .i64 n] w fun r w' => r = .panicked (Thrown 7 (off + p)) ∧ Below w.heap.size w w' := by
  have c0 := h.cv 0 (.string s) rfl
  have c1 := h.cv 1 (.int .i64 p) rfl
  have hd : decide ((s.size : Int) - p < n) = true := decide_eq_true (by omega)
  have hbl : Below w.heap.size w w := Below.refl _ _
  have HD : Cur w.drew c s p off := h
  clear h
  go_enter Tryd.func81, Tryd.ntmps81
  go_wp2
  go_region
  go_wp2_with fail
  refine (throw_any HD 7 p (by omega) (by omega)).mono ?_
  rintro e w2 ⟨rfl, rfl⟩
  go_wp2
  exact ⟨rfl, rfl, hbl.os, hbl.tape, hbl.output, hbl.size, hbl.block⟩

set_option maxHeartbeats 1000000 in
theorem cnum_ok {w : World} {c p off : Nat} {s : ByteArray} (h : Cur w c s p off) (n : Nat) (hn7 : n ≤ 7) (hn : p + n ≤ s.size) (hb : off + s.size ≤ 281474976710656) :
    Calls Tryd.prog 50 #[.pointer (some ⟨c, 0, none⟩), .int .i64 n] w fun r w' => r = .returned (.int .i64 (beN ((s.data.toList.drop p).take n))) ∧ Cur w' c s (p + n) off ∧ w.grownBy w' (some c) := by
  have hLn : ((s.data.toList.drop p).take n).length = n := by rw [List.length_take, List.length_drop]; simp; omega
  have HE : Hid (Calls Tryd.prog 81 #[.pointer (some ⟨c, 0, none⟩), .int .i64 n] w fun r w' => r = .returned (.string ⟨((s.data.toList.drop p).take n).toArray⟩) ∧ Cur w' c s (p + n) off ∧ w.grownBy w' (some c)) := eat_ok h n hn hb
  clear h hn hb
  generalize ((s.data.toList.drop p).take n) = t at *
  go_enter Tryd.func50, Tryd.ntmps50
  go_wp2_with fail
  refine HE.out.mono ?_
  rintro e w' ⟨rfl, hr, hg⟩
  have hcv := fun W => run_bytes_of_string (P := Tryd.prog) W 9 105 5 ⟨t.toArray⟩ Tryd.underlying9 Tryd.underlying105 Tryd.underlying5
  have hsz : (⟨t.toArray⟩ : ByteArray).size = n := by simp [ByteArray.size, hLn]
  go_wp2
  have hB := byteRow_new w' ⟨t.toArray⟩ (grownCap w' n 0 5) 5
  have hR : Cur ((w'.alloc (Obj.cells (bytesRow ⟨t.toArray⟩ (grownCap w' n 0 5)) 5 ((bytesRow ⟨t.toArray⟩ (grownCap w' n 0 5)).size, (bytesRow ⟨t.toArray⟩ (grownCap w' n 0 5)).size + 1))).drew) c s (p + n) off := Blk.alloc hr _
  have hG : w.grownBy ((w'.alloc (Obj.cells (bytesRow ⟨t.toArray⟩ (grownCap w' n 0 5)) 5 ((bytesRow ⟨t.toArray⟩ (grownCap w' n 0 5)).size, (bytesRow ⟨t.toArray⟩ (grownCap w' n 0 5)).size + 1))).drew) (some c) := by
    have k2 := grownBy_trans hg (World.grownBy_alloc w' (Obj.cells (bytesRow ⟨t.toArray⟩ (grownCap w' n 0 5)) 5 ((bytesRow ⟨t.toArray⟩ (grownCap w' n 0 5)).size, (bytesRow ⟨t.toArray⟩ (grownCap w' n 0 5)).size + 1)) (some c))
    exact ⟨k2.os, k2.tape, k2.output, k2.size, k2.block⟩
  have HL := Lib.hid hLn
  clear hLn hcv hsz hr hg
  generalize ((w'.alloc (Obj.cells (bytesRow ⟨t.toArray⟩ (grownCap w' n 0 5)) 5 ((bytesRow ⟨t.toArray⟩ (grownCap w' n 0 5)).size, (bytesRow ⟨t.toArray⟩ (grownCap w' n 0 5)).size + 1))).drew) = W1 at *
  have hB' : ByteRow W1 w'.heap.size t := hB
  clear hB
  go_loop [5, 13] (fun x i => ∃ k : Nat, k ≤ n ∧ i = .int .i64 k ∧ x = .int .i64 (beN (t.take k))) (fun _ i => n - (intOf i).toNat)
  case atStart => exact ⟨0, by omega, rfl, rfl⟩
  case round =>
    obtain ⟨k, hk, rfl, rfl⟩ := hrel
    by_cases hlt : k < n
    · have hcell := hB' k (t[k]'(by rw [HL.out]; exact hlt)) (List.getElem?_eq_getElem _)
      have hX : beN (t.take k) < 281474976710656 := by
        have h := beN_lt (t.take k)
        have hl : (t.take k).length = k := by rw [List.length_take, HL.out]; omega
        rw [hl] at h
        have h7 : 256 ^ k ≤ 256 ^ 6 := Nat.pow_le_pow_right (by omega) (by omega)
        omega
      have HN := Lib.hid (take_snoc t k (by rw [HL.out]; exact hlt))
      have hb8 := (t[k]'(by rw [HL.out]; exact hlt)).toNat_lt
      generalize (t[k]'(by rw [HL.out]; exact hlt)) = b at *
      have q1 : (0 : Int) ≤ (beN (t.take k) : Int) := by omega
      have q2 : (beN (t.take k) : Int) < 281474976710656 := by omega
      have q3 : (0 : Int) ≤ (b.toNat : Int) := by omega
      have q4 : (b.toNat : Int) < 256 := by omega
      clear hX hb8
      go_wp2
      go_round
      case rel => exact ⟨k + 1, by omega, by go_num, by rw [HN.out, beN_snoc]; simp⟩
      case measure => simp [intOf]; omega
    · obtain rfl : k = n := by omega
      have HK := Lib.hid (List.take_of_length_le (l := t) (i := k) (by rw [HL.out]; omega))
      go_wp2
      go_ret
      exact ⟨by rw [HK.out]; rfl, hR, hG⟩

/-- Missing bytes are missing for a number, too. -/
theorem cnum_bad {w : World} {c p off : Nat} {s : ByteArray} (h : Cur w c s p off) (n : Nat) (hn : ¬ p + n ≤ s.size) (hp : p ≤ s.size) (hn2 : n ≤ 1000000) (hb : off + s.size ≤ 281474976710656) :
    Calls Tryd.prog 50 #[.pointer (some ⟨c, 0, none⟩), .int .i64 n] w fun r w' => r = .panicked (Thrown 7 (off + p)) ∧ Below w.heap.size w w' := by
  have HE : Hid (Calls Tryd.prog 81 #[.pointer (some ⟨c, 0, none⟩), .int .i64 n] w fun r w' => r = .panicked (Thrown 7 (off + p)) ∧ Below w.heap.size w w') := eat_bad h n hn hp hn2 hb
  clear h hn hb
  go_enter Tryd.func50, Tryd.ntmps50
  go_wp2_with fail
  refine HE.out.mono ?_
  rintro e w' ⟨rfl, hb2⟩
  go_wp2
  exact ⟨rfl, rfl, hb2⟩

/-- Just these bytes. -/
theorem want_ok {w : World} {c p off : Nat} {s t : ByteArray} (h : Cur w c s p off) (hn : p + t.size ≤ s.size) (ht : (s.data.toList.drop p).take t.size = t.data.toList) (hb : off + s.size ≤ 281474976710656) :
    Calls Tryd.prog 49 #[.pointer (some ⟨c, 0, none⟩), .string t] w fun r w' => r = .returned (.tuple #[]) ∧ Cur w' c s (p + t.size) off ∧ w.grownBy w' (some c) := by
  have HE : Hid (Calls Tryd.prog 81 #[.pointer (some ⟨c, 0, none⟩), .int .i64 t.size] w fun r w' => r = .returned (.string t) ∧ Cur w' c s (p + t.size) off ∧ w.grownBy w' (some c)) := by
    have h2 := eat_ok h t.size hn hb
    rw [ht] at h2
    exact h2
  have c1 := h.cv 1 (.int .i64 p) rfl
  clear h hn hb ht
  go_enter Tryd.func49, Tryd.ntmps49
  go_wp2_with fail
  refine HE.out.mono ?_
  rintro e w' ⟨rfl, hr, hg⟩
  go_wp2
  go_end0
  exact ⟨rfl, hr, hg⟩

theorem want_bad {w : World} {c p off : Nat} {s t : ByteArray} (h : Cur w c s p off) (hn : ¬ p + t.size ≤ s.size) (hp : p ≤ s.size) (hn2 : t.size ≤ 1000000) (hb : off + s.size ≤ 281474976710656) :
    Calls Tryd.prog 49 #[.pointer (some ⟨c, 0, none⟩), .string t] w fun r w' => r = .panicked (Thrown 7 (off + p)) ∧ Below w.heap.size w w' := by
  have HE : Hid (Calls Tryd.prog 81 #[.pointer (some ⟨c, 0, none⟩), .int .i64 t.size] w fun r w' => r = .panicked (Thrown 7 (off + p)) ∧ Below w.heap.size w w') := eat_bad h t.size hn hp hn2 hb
  have c1 := h.cv 1 (.int .i64 p) rfl
  clear h hn hb
  go_enter Tryd.func49, Tryd.ntmps49
  go_wp2_with fail
  refine HE.out.mono ?_
  rintro e w' ⟨rfl, hb2⟩
  go_wp2
  exact ⟨rfl, rfl, hb2⟩

theorem want_form {w : World} {c p off : Nat} {s t : ByteArray} (h : Cur w c s p off) (hn : p + t.size ≤ s.size) (ht : (s.data.toList.drop p).take t.size ≠ t.data.toList) (hb : off + s.size ≤ 281474976710656) :
    Calls Tryd.prog 49 #[.pointer (some ⟨c, 0, none⟩), .string t] w fun r w' => r = .panicked (Thrown 3 (off + p)) ∧ w.grownBy w' (some c) := by
  obtain ⟨u, hu⟩ : ∃ u : ByteArray, u = ⟨((s.data.toList.drop p).take t.size).toArray⟩ := ⟨_, rfl⟩
  have HE : Hid (Calls Tryd.prog 81 #[.pointer (some ⟨c, 0, none⟩), .int .i64 t.size] w fun r w' => r = .returned (.string u) ∧ Cur w' c s (p + t.size) off ∧ w.grownBy w' (some c)) := by
    have h2 := eat_ok h t.size hn hb
    rw [← hu] at h2
    exact h2
  have hne : (u.toList == t.toList) = false := by
    apply beq_eq_false_iff_ne.2
    intro e
    rw [ByteArray.toList_eq, ByteArray.toList_eq, hu] at e
    exact ht e
  have c1 := h.cv 1 (.int .i64 p) rfl
  have hpb : off + p ≤ 281474976710656 := by omega
  clear h hn hb ht hu
  go_enter Tryd.func49, Tryd.ntmps49
  go_wp2_with fail
  refine HE.out.mono ?_
  rintro e w' ⟨rfl, hr, hg⟩
  go_wp2_with fail
  refine (throw_any hr 3 p (by omega) (by omega)).mono ?_
  rintro e w2 ⟨rfl, rfl⟩
  go_wp2
  exact ⟨rfl, rfl, hg⟩

theorem Tryd.addrZero : (Tryd.prog.info? 44).map (·.zero) = some (some (.agg (c6 z6))) := by kernel_rfl





def curAt (w : World) (c : Nat) : Nat := match w.cell? ⟨c, 1, none⟩ with | some (.int _ n) => n.toNat | _ => 0

theorem Cur.at {w : World} {c p off : Nat} {s : ByteArray} (h : Cur w c s p off) : curAt w c = p := by
  unfold curAt
  rw [h.cv 1 (.int .i64 p) rfl]
  simp


end Go.Proofs.YtikjpcnfldkifaaDoor
