/- strings.Join of six texts, nothing between them. -/
import Derived.Test.YticjmjoiggnblaaDoorGrowB
namespace Go.Proofs.YticjmjoiggnblaaDoor
open Go.RowKit
attribute [local go_sem ↓] Go.wp_at_zero Go.wp_at_succ
set_option linter.unusedSimpArgs false
set_option linter.unusedVariables false
set_option maxRecDepth 100000

def catB (l : List ByteArray) : List UInt8 := l.flatMap (·.data.toList)
theorem catB_take (l : List ByteArray) (k : Nat) (hk : k < l.length) : catB (l.take (k + 1)) = catB (l.take k) ++ l[k].data.toList := by
  unfold catB
  rw [List.take_add_one, List.getElem?_eq_getElem hk, List.flatMap_append]
  simp
theorem catB_le (l : List ByteArray) (k : Nat) : (catB (l.take k)).length ≤ (catB l).length := by
  have h : catB l = catB (l.take k) ++ catB (l.drop k) := by
    unfold catB
    rw [← List.flatMap_append, List.take_append_drop]
  rw [h, List.length_append]
  omega

theorem write_bs (b : Nat) (y : List UInt8) (s : ByteArray) (w : World) (h : BU b y w) (hlen : y.length + s.size ≤ 1000000) (hBw : b ≤ w.heap.size) :
    Calls Tryd.prog 38 #[.pointer (some ⟨b, 0, none⟩), .string s] w fun e w' => e = .returned (.tuple #[.int .i64 s.size, .nilIface]) ∧ BU b (y ++ s.data.toList) w' ∧ Below b w w' := by
  have hz : s.data.toList.length = s.size := by simp
  have q := write_bu b y s.data.toList w h (by omega) hBw
  rw [hz] at q
  exact q.mono fun e w' ⟨h1, h2, h3, _⟩ => ⟨h1, h2, h3⟩

set_option maxHeartbeats 3200000 in
theorem join6 (B0 : Nat) (l : List ByteArray) (h6 : l.length = 6) (w : World) (hB0 : B0 < w.heap.size) (hat : StAt w B0 0 l) (hp : 0 < (catB l).length) (hs : (catB l).length ≤ 1000000) :
    Calls Tryd.prog 109 #[.slice (some ⟨B0, 0, none⟩) 6 6, .string ⟨#[]⟩] w fun e w' => e = .returned (.string ⟨(catB l).toArray⟩) ∧ Below w.heap.size w w' := by
  have HC : Hid (∀ k, k < 6 → ∃ x : ByteArray, w.cell? ⟨B0, k, none⟩ = some (.string x) ∧ catB (l.take (k + 1)) = catB (l.take k) ++ x.data.toList) := fun k hk => by
    have hk2 : k < l.length := by omega
    have q := hat k hk2 0 (.string l[k]) rfl
    rw [Nat.mul_one, Nat.add_zero, Nat.zero_add] at q
    exact ⟨l[k], q, catB_take l k hk2⟩
  have HL := Lib.hid (catB_le l)
  have H6 : Hid (catB (l.take 6) = catB l) := by
    show _ = _
    rw [← h6, List.take_length]
  have HB := bu_new w
  have hbk : (w.alloc (.cells #[.pointer none, .slice none 0 0] 75)).heap[w.heap.size]? = some (.cells #[.pointer none, .slice none 0 0] 75 (0, 0)) := by
    exact heap_alloc_new w _
  have bA : Below w.heap.size w (w.alloc (.cells #[.pointer none, .slice none 0 0] 75)) := (Below.refl _ _).alloc (Nat.le_refl _) _
  have HG := Lib.hid (Grow_fresh w.heap.size (catB l).length _ hbk bA.size hp (by omega))
  generalize hn : (catB l).length = n at *
  clear hat h6
  go_enter Tryd.func109, Tryd.ntmps109
  go_wp2_with fail
  go_loopw [5, 41] (fun v i wr => ∃ k : Nat, k ≤ 6 ∧ i = .int .i64 k ∧ v = .int .i64 ((catB (l.take k)).length : Nat) ∧ wr = w) (fun v i _ => 6 - (intOf i).toNat)
  case atStart => exact ⟨0, by omega, rfl, by rw [List.take_zero]; rfl, rfl⟩
  case round =>
    obtain ⟨k, hk, rfl, rfl, hw⟩ := hrel
    have hw2 := hw.symm
    clear hw
    subst hw2
    have hlk := HL.out k
    by_cases hlt : k < 6
    · obtain ⟨x, hc, hx⟩ := HC.out k hlt
      have q1 : (k : Int) < 6 := by omega
      have q2 : decide ((k : Int) < 6) = true := decide_eq_true q1
      have q3 : (0 : Int) ≤ (k : Int) := by omega
      have hlk2 := HL.out (k + 1)
      have HX : Hid ((catB (List.take k l)).length + x.size = (catB (List.take (k + 1) l)).length) := by
        show _ = _
        rw [hx, List.length_append]
        simp
      have hx2 := HX.out
      generalize hm2 : (catB (List.take (k + 1) l)).length = m2 at *
      generalize (catB (List.take k l)).length = m at *
      have s1 : IntKind.i64.wrap (9223372036854775807 - (m : Int)) = 9223372036854775807 - (m : Int) := by rw [IntKind.wrap_i64] <;> omega
      have s2 : ¬ ((9223372036854775807 : Int) - (m : Int) < (x.size : Int)) := by omega
      have s3 : decide ((9223372036854775807 : Int) - (m : Int) < (x.size : Int)) = false := decide_eq_false s2
      have s4 : IntKind.i64.wrap ((m : Int) + (x.size : Int)) = (m2 : Int) := by rw [IntKind.wrap_i64] <;> omega
      clear hx2 hx
      go_wp2
      go_roundw
      case rel => exact ⟨k + 1, by omega, by go_num, by rw [hm2], trivial⟩
      case measure => simp [intOf]; omega
    · obtain rfl : k = 6 := by omega
      rw [H6.out, hn]
      go_wp2_with fail
      refine HG.out.mono ?_
      rintro e w1 ⟨rfl, IB1, b1⟩
      have B1 := bA.trans b1
      clear HG bA b1 hbk HB
      obtain ⟨x0, hc0, hx0⟩ := HC.out 0 (by omega)
      have c0 : w1.cell? ⟨B0, 0, none⟩ = some (.string x0) := (B1.cell hB0).trans hc0
      have hl1 := HL.out 1
      rw [hx0, List.take_zero, List.length_append] at hl1
      have hz0 : x0.data.toList.length = x0.size := by simp
      have hcn : (catB []).length = 0 := rfl
      have hs0 : B0 < w1.heap.size := Nat.lt_of_lt_of_le hB0 B1.size
      clear hc0
      go_wp2_with fail
      refine (write_bs _ [] x0 _ IB1 (by simp only [List.length_nil]; omega) B1.size).mono ?_
      rintro e w2 ⟨rfl, IB2, b2⟩
      have B2 := B1.trans b2
      rw [show ([] : List UInt8) ++ x0.data.toList = catB (l.take 1) by rw [hx0]; rfl] at IB2
      clear c0 IB1 b2 B1 hz0 hcn hl1 hx0 hs0
      go_wp2_with fail
      have hsw := B2.size
      go_loopw [65] (fun i wz => ∃ k : Nat, k ≤ 5 ∧ i = .int .i64 k ∧ BU w.heap.size (catB (l.take (k + 1))) wz ∧ Below w.heap.size w wz) (fun i _ => 5 - (intOf i).toNat)
      case atStart => exact ⟨0, by omega, rfl, IB2, B2⟩
      case round =>
        obtain ⟨k, hk2, rfl, IB3, B3⟩ := hrel
        by_cases hlt2 : k < 5
        · obtain ⟨x, hc, hx⟩ := HC.out (k + 1) (by omega)
          have q1 : (k : Int) < 5 := by omega
          have q2 : decide ((k : Int) < 5) = true := decide_eq_true q1
          have q3 : (0 : Int) ≤ (k : Int) := by omega
          have hB3 := B3.size
          have c0 : wr.cell? ⟨B0, 1 + k, none⟩ = some (.string x) := by
            rw [Nat.add_comm]
            exact (B3.cell hB0).trans hc
          have hl2 := HL.out (k + 1 + 1)
          rw [hx, List.length_append] at hl2
          have hl3 := HL.out (k + 1)
          have hz0 : x.data.toList.length = x.size := by simp
          have HX := Lib.hid hx
          clear hx hc
          go_wp2_with fail
          refine (write_bs _ _ ⟨#[]⟩ _ IB3 (by show _ + 0 ≤ _; omega) hB3).mono ?_
          rintro e w4 ⟨rfl, IB4, b4⟩
          rw [show (⟨#[]⟩ : ByteArray).data.toList = [] from rfl, List.append_nil] at IB4
          have B4 := B3.trans b4
          have c0 : w4.cell? ⟨B0, 1 + k, none⟩ = some (.string x) := (b4.cell hB0).trans c0
          go_wp2_with fail
          refine (write_bs _ _ x _ IB4 (by omega) B4.size).mono ?_
          rintro e w5 ⟨rfl, IB5, b5⟩
          rw [← HX.out] at IB5
          have B5 := B4.trans b5
          go_wp2
          go_roundw
          case rel => exact ⟨k + 1, by omega, by go_num, IB5, B5⟩
          case measure => simp [intOf]; omega
        · obtain rfl : k = 5 := by omega
          rw [H6.out] at IB3
          have hB3 := B3.size
          go_wp2_with fail
          refine (Tryd.Builder_String_any w.heap.size w.heap.size _ _ IB3 B3.size).mono ?_
          rintro e w8 ⟨rfl, k8⟩
          go_wp2
          go_ret
          exact ⟨rfl, B3.trans k8⟩

end Go.Proofs.YticjmjoiggnblaaDoor
