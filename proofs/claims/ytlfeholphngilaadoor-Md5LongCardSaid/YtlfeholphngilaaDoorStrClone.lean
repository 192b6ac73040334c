/- strings.Clone at every text that is not long. -/
import Derived.Test.YtlfeholphngilaaDoorMdPadded
import Derived.Test.YtlfeholphngilaaDoorPut
import Derived.Lib.UnsafeStr
namespace Go.Proofs.YtlfeholphngilaaDoor
open Go.RowKit
attribute [local go_sem ↓] Go.wp_at_zero Go.wp_at_succ
set_option linter.unusedSimpArgs false
set_option linter.unusedVariables false
set_option maxRecDepth 100000

set_option maxHeartbeats 1600000 in
theorem slClone_any (s : ByteArray) (hs : s.size ≤ 1000) (w : World) :
    Calls Tryd.prog 40 #[.string s] w fun e w' => e = .returned (.string s) ∧ Below w.heap.size w w' := by
  by_cases h0 : s.size = 0
  · have he : s = ⟨#[]⟩ := by
      apply ByteArray.ext
      apply Array.eq_empty_of_size_eq_zero
      exact h0
    subst he
    go_enter Tryd.func40, Tryd.ntmps40
    go_wp2
    go_ret
    exact ⟨rfl, Below.refl _ _⟩
  · obtain ⟨n, hn⟩ : ∃ n, n = s.size := ⟨_, rfl⟩
    obtain ⟨i0, hi, hz0, hz1, hz2⟩ := info_parts Tryd.info5
    have hmk := run_make (P := Tryd.prog) w 51 5 i0 (.int .u8 0) Tryd.underlying51 hi hz0 .i64 .i64 n n (by omega) (by omega) (by rw [hz2]; omega) (by omega)
    rw [hz1, Int.toNat_natCast, Nat.mul_one, show (Value.int IntKind.u8 0).cells = #[Value.int .u8 0] from rfl] at hmk
    have hC : (madeCells #[Value.int .u8 0] n).size = n := by simp [madeCells]
    have hcp : ((madeCells #[Value.int .u8 0] n).toList.take 0 ++ Lib.byteCells s.data.toList ++ (madeCells #[Value.int .u8 0] n).toList.drop (0 + s.size)).toArray = bC s.data.toList := by
      rw [List.take_zero, List.nil_append, Nat.zero_add, ← hn, List.drop_of_length_le (by simpa using Nat.le_of_eq hC), List.append_nil]
      rfl
    have HN := Blk.new w 5 (madeCells #[Value.int .u8 0] n)
    have B0 : Below w.heap.size w (w.alloc (.cells (madeCells #[Value.int .u8 0] n) 5)) := (Below.refl _ _).alloc (Nat.le_refl _) _
    have hsn : s.size = n := hn.symm
    have hd : ((n : Int) == 0) = false := by rw [beq_eq_false_iff_ne]; omega
    have hpos : 0 < n := by omega
    have hposI : (0 : Int) < (n : Int) := by omega
    have hle : s.size ≤ n := by omega
    have hfit : 0 + s.size ≤ (madeCells #[Value.int .u8 0] n).size := by omega
    have hll : s.data.toList.length = n := by simp [hn]
    have HUS : Hid (∀ W, Blk W w.heap.size 5 (bC s.data.toList) → (Builtin.unsafeString_ #[77, 3] 9 #[.pointer (some ⟨w.heap.size, 0, none⟩), .int .i64 n]).run Tryd.prog W = .ok (.string s) (W.freeze ⟨w.heap.size, 0, none⟩ n)) := fun W hW => by
      have hsh : W.shape? w.heap.size = some (5, n) := by
        have h1 : W.heap[w.heap.size]? = _ := hW
        unfold World.shape?
        rw [h1]
        have hbs := bC_size s.data.toList
        rw [hll] at hbs
        simp [hbs]
      have h := Lib.run_unsafeString_row (P := Tryd.prog) (w := W) 77 3 9 5 Tryd.underlying77 (by kernel_rfl) w.heap.size n hsh s.data.toList (by intro q; rw [q] at hll; simp at hll; omega) (by omega) (by omega) (fun j x hj => by
        have hjl : j < s.data.toList.length := (List.getElem?_eq_some_iff.1 hj).1
        have q := hW.cv j _ (bC_at s.data.toList j hjl)
        rw [Addr.add_lit, Nat.zero_add, q, List.getD_eq_getElem?_getD, hj]
        rfl)
      rw [list_ba, hll] at h
      exact h
    have HCP := Lib.hid hcp
    have HNN := Lib.hid hn
    clear hi hz0 hz1 hz2 hcp hn hC h0
    go_enter Tryd.func40, Tryd.ntmps40
    go_upto_region 4 with (fail)
    generalize madeCells #[Value.int .u8 0] n = C0 at *
    generalize w.alloc (.cells C0 5) = w1 at *
    go_upto_region 5 with (refine copy_text (k := 0) (dLen := n) (dCap := n) (T := 5) s (bC s.data.toList) 5 (by rfl) rfl rfl rfl HN Tryd.underlying51 (by kernel_rfl) hle hfit HCP.out (fun w2 H2 b2 g2 => ?_))
    have B2 := B0.trans b2
    have hus := HUS.out w2 H2
    clear HN B0 b2 g2 HCP hfit hmk
    go_wp2
    go_ret
    exact ⟨rfl, Lib.below_freeze B2 (Nat.le_refl _) n⟩
theorem strClone_any (s : ByteArray) (hs : s.size ≤ 1000) (w : World) :
    Calls Tryd.prog 15 #[.string s] w fun e w' => e = .returned (.string s) ∧ Below w.heap.size w w' := by
  have H := Lib.hid (fun W => slClone_any s hs W)
  clear hs
  go_enter Tryd.func15, Tryd.ntmps15
  go_wp2_with fail
  refine (H.out _).mono ?_
  rintro e w1 ⟨rfl, k1⟩
  go_wp2
  go_ret
  exact ⟨rfl, k1⟩

end Go.Proofs.YtlfeholphngilaaDoor
