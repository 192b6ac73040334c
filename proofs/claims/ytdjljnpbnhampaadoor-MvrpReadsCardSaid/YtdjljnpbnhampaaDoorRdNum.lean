/- (*wire.Reader).Num at every argument. -/
import Derived.Test.YtdjljnpbnhampaaDoorRd
import Derived.Lib.Hide
namespace Go.Proofs.YtdjljnpbnhampaaDoor
open Go.RowKit

/-- Num, n no width, nothing noted yet: ErrRange at the next byte. -/
theorem num_range {g : Nat} {s : ByteArray} {a : Int} (n : Int) (w : World) (h : Rd w g s a none) (hn : n < 1 ∨ 8 < n) :
    Calls Tryd.prog 44 #[.pointer (some ⟨g, 0, none⟩), .int .i64 n] w fun e w' => e = .returned (.int .i64 0) ∧
      Rd w' g s a (some ⟨w.heap.size, 0, none⟩) ∧ Flt w' w.heap.size 2 a ∧ w.grownBy w' (some g) := by
  have h1 := h.c1
  go_enter Tryd.func44, Tryd.ntmps44
  go_wp2_with fail
  refine (width_no _ _ hn).mono ?_
  rintro e w' ⟨rfl, rfl⟩
  go_wp2_with fail
  refine (fail_first _ _ _ h).mono ?_
  rintro e w' ⟨rfl, hr, hf, hg⟩
  go_wp2
  go_ret
  exact ⟨rfl, hr, hf, hg⟩

theorem num_range_noted {g : Nat} {s : ByteArray} {a : Int} {p : Addr} (n : Int) (w : World) (h : Rd w g s a (some p)) (hn : n < 1 ∨ 8 < n) :
    Calls Tryd.prog 44 #[.pointer (some ⟨g, 0, none⟩), .int .i64 n] w fun e w' => e = .returned (.int .i64 0) ∧ w = w' := by
  have h1 := h.c1
  go_enter Tryd.func44, Tryd.ntmps44
  go_wp2_with fail
  refine (width_no _ _ hn).mono ?_
  rintro e w' ⟨rfl, rfl⟩
  go_wp2_with fail
  refine (fail_noted _ _ _ h).mono ?_
  rintro e w' ⟨rfl, rfl⟩
  go_wp2
  go_ret
  exact ⟨rfl, rfl⟩

/-- The bytes l lie in block b from its head on. -/
def ByteRow (w : World) (b : Nat) (l : List UInt8) : Prop := ∀ k x, l[k]? = some x → w.cell? ⟨b, k, none⟩ = some (.int .u8 (x.toNat : Int))

theorem byteRow_new (W : World) (s : ByteArray) (c : Nat) (E : TypeId) : ByteRow (W.alloc (.cells (bytesRow s c) E ((bytesRow s c).size, (bytesRow s c).size + 1))).drew W.heap.size s.data.toList := by
  intro k x hx
  have e := World.cell?_alloc_mark W (bytesRow s c) E ((bytesRow s c).size, (bytesRow s c).size + 1) k
  refine Eq.trans e ?_
  have hk : k < s.data.size := by
    have := (List.getElem?_eq_some_iff.1 hx).1
    simpa using this
  rw [Array.getElem?_toList] at hx
  rw [bytesRow, Array.getElem?_append_left (by simpa using hk), Array.getElem?_map, hx]
  rfl

set_option maxHeartbeats 1000000 in
theorem num_read {g : Nat} {s : ByteArray} {a : Int} (n : Nat) (w : World) (h : Rd w g s a none) (h1 : 1 ≤ n) (h8 : n ≤ 8) (hn : n ≤ s.size) (ha : 0 ≤ a) (hb : a + s.size ≤ 281474976710656) :
    Calls Tryd.prog 44 #[.pointer (some ⟨g, 0, none⟩), .int .i64 n] w fun e w' => e = .returned (.int .i64 (wrap64 (beN (s.data.toList.take n)))) ∧
      Rd w' g (s.extract n s.size) (a + n) none ∧ w.grownBy w' (some g) := by
  have HT : Hid ((s.extract 0 n).data.toList = s.data.toList.take n) := by show _ = _; rw [Lib.extract_data]; simp
  go_enter Tryd.func44, Tryd.ntmps44
  go_wp2_with fail
  refine (width_yes _ _ (by omega) (by omega)).mono ?_
  rintro e w' ⟨rfl, rfl⟩
  go_wp2_with fail
  refine (bytes_read _ _ h hn ha hb).mono ?_
  rintro e w' ⟨rfl, hr, hg⟩
  have hcv := fun W => run_bytes_of_string (P := Tryd.prog) W 9 157 5 (s.extract 0 n) Tryd.underlying9 Tryd.underlying157 Tryd.underlying5
  go_wp2
  have hB := byteRow_new w' (s.extract 0 n) (grownCap w' n 0 5) 5
  have hR : Rd ((w'.alloc (Obj.cells (bytesRow (s.extract 0 n) (grownCap w' n 0 5)) 5 ((bytesRow (s.extract 0 n) (grownCap w' n 0 5)).size, (bytesRow (s.extract 0 n) (grownCap w' n 0 5)).size + 1))).drew) g (s.extract n s.size) (a + n) none := hr.alloc _
  have hG : w.grownBy ((w'.alloc (Obj.cells (bytesRow (s.extract 0 n) (grownCap w' n 0 5)) 5 ((bytesRow (s.extract 0 n) (grownCap w' n 0 5)).size, (bytesRow (s.extract 0 n) (grownCap w' n 0 5)).size + 1))).drew) (some g) := by
    have k2 := grownBy_trans hg (World.grownBy_alloc w' (Obj.cells (bytesRow (s.extract 0 n) (grownCap w' n 0 5)) 5 ((bytesRow (s.extract 0 n) (grownCap w' n 0 5)).size, (bytesRow (s.extract 0 n) (grownCap w' n 0 5)).size + 1)) (some g))
    exact ⟨k2.os, k2.tape, k2.output, k2.size, k2.block⟩
  have hL : (s.extract 0 n).data.toList.length = n := by simp; omega
  have HL := Lib.hid hL
  clear hL hcv
  generalize ((w'.alloc (Obj.cells (bytesRow (s.extract 0 n) (grownCap w' n 0 5)) 5 ((bytesRow (s.extract 0 n) (grownCap w' n 0 5)).size, (bytesRow (s.extract 0 n) (grownCap w' n 0 5)).size + 1))).drew) = W1 at *
  generalize (s.extract 0 n).data.toList = t at *
  go_loop [5, 22] (fun x i => ∃ k : Nat, k ≤ n ∧ i = .int .i64 k ∧ x = .int .u64 (beN (t.take k))) (fun _ i => n - (intOf i).toNat)
  case atStart => exact ⟨0, by omega, rfl, rfl⟩
  case round =>
    obtain ⟨k, hk, rfl, rfl⟩ := hrel
    by_cases hlt : k < n
    · have hcell := hB k (t[k]'(by rw [HL.out]; exact hlt)) (List.getElem?_eq_getElem _)
      have hX : beN (t.take k) < 72057594037927936 := by
        have h := beN_lt (t.take k)
        have hl : (t.take k).length = k := by rw [List.length_take, HL.out]; omega
        rw [hl] at h
        have h7 : 256 ^ k ≤ 256 ^ 7 := Nat.pow_le_pow_right (by omega) (by omega)
        omega
      have HS := Lib.hid (or_step (beN (t.take k)) (t[k]'(by rw [HL.out]; exact hlt)) hX)
      have HN := Lib.hid (take_snoc t k (by rw [HL.out]; exact hlt))
      clear hX
      go_wp2
      go_round
      case rel => exact ⟨k + 1, by omega, by go_num, by rw [HS.out, HN.out, beN_snoc]⟩
      case measure => simp [intOf]; omega
    · obtain rfl : k = n := by omega
      have HK := Lib.hid (List.take_of_length_le (l := t) (i := k) (by rw [HL.out]; omega))
      go_wp2
      go_ret
      exact ⟨by rw [HK.out, HT.out]; rfl, hR, hG⟩

/-- Num, a width, but there are not so many, nothing noted yet: ErrMissing at the next byte. -/
theorem num_missing {g : Nat} {s : ByteArray} {a : Int} (n : Int) (w : World) (h : Rd w g s a none) (h1 : 1 ≤ n) (h8 : n ≤ 8) (hn : (s.size : Int) < n) :
    Calls Tryd.prog 44 #[.pointer (some ⟨g, 0, none⟩), .int .i64 n] w fun e w' => e = .returned (.int .i64 0) ∧
      Rd w' g s a (some ⟨w.heap.size, 0, none⟩) ∧ Flt w' w.heap.size 7 a ∧ w.grownBy w' (some g) := by
  go_enter Tryd.func44, Tryd.ntmps44
  go_wp2_with fail
  refine (width_yes _ _ h1 h8).mono ?_
  rintro e w' ⟨rfl, rfl⟩
  go_wp2_with fail
  refine (bytes_missing _ _ h hn).mono ?_
  rintro e w' ⟨rfl, hr, hf, hg⟩
  have hcv := fun W => run_bytes_of_string (P := Tryd.prog) W 9 157 5 ⟨#[]⟩ Tryd.underlying9 Tryd.underlying157 Tryd.underlying5
  go_wp2
  refine wp_loop_rounds 1 ?_
  rw [rounds_succ]
  go_wp2
  go_ret
  have k2 := grownBy_trans hg (World.grownBy_alloc w' (.cells (bytesRow ⟨#[]⟩ (grownCap w' 0 0 5)) 5 ((bytesRow ⟨#[]⟩ (grownCap w' 0 0 5)).size, (bytesRow ⟨#[]⟩ (grownCap w' 0 0 5)).size + 1)) (some g))
  exact ⟨rfl, hr.alloc _, hf.alloc _, k2.os, k2.tape, k2.output, k2.size, k2.block⟩

/-- Num, a width, something noted already: nothing is read. -/
theorem num_noted {g : Nat} {s : ByteArray} {a : Int} {p : Addr} (n : Int) (w : World) (h : Rd w g s a (some p)) (h1 : 1 ≤ n) (h8 : n ≤ 8) :
    Calls Tryd.prog 44 #[.pointer (some ⟨g, 0, none⟩), .int .i64 n] w fun e w' => e = .returned (.int .i64 0) ∧
      Rd w' g s a (some p) ∧ w.grownBy w' none := by
  go_enter Tryd.func44, Tryd.ntmps44
  go_wp2_with fail
  refine (width_yes _ _ h1 h8).mono ?_
  rintro e w' ⟨rfl, rfl⟩
  go_wp2_with fail
  refine (bytes_noted _ _ h).mono ?_
  rintro e w' ⟨rfl, rfl⟩
  have hcv := fun W => run_bytes_of_string (P := Tryd.prog) W 9 157 5 ⟨#[]⟩ Tryd.underlying9 Tryd.underlying157 Tryd.underlying5
  go_wp2
  refine wp_loop_rounds 1 ?_
  rw [rounds_succ]
  go_wp2
  go_ret
  have k2 := World.grownBy_alloc w (.cells (bytesRow ⟨#[]⟩ (grownCap w 0 0 5)) 5 ((bytesRow ⟨#[]⟩ (grownCap w 0 0 5)).size, (bytesRow ⟨#[]⟩ (grownCap w 0 0 5)).size + 1)) none
  exact ⟨rfl, h.alloc _, k2.os, k2.tape, k2.output, k2.size, k2.block⟩

end Go.Proofs.YtdjljnpbnhampaaDoor
