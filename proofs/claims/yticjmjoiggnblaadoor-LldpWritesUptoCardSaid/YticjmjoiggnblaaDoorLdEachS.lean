/- lldp.isEach, isFew of string. -/
import Derived.Test.YticjmjoiggnblaaDoorLdIs
namespace Go.Proofs.YticjmjoiggnblaaDoor
open Go.RowKit
attribute [local go_sem ↓] Go.wp_at_zero Go.wp_at_succ
set_option linter.unusedSimpArgs false
set_option linter.unusedVariables false
set_option maxRecDepth 100000

theorem st_no (x : ByteArray) (B : Nat) (w : World) (HB : Blk w B 41 #[.func (.func 64) #[] #[]]) : Calls Tryd.prog 111 #[.string x, .pointer (some ⟨B, 0, none⟩)] w fun e w' => e = .returned (.bool (!(okSt x))) ∧ Below w.heap.size w w' := by
  have HM := Lib.hid (fun W => isText_any x W)
  have c0 := HB.cv 0 (.func (.func 64) #[] #[]) rfl
  go_enter Tryd.func111, Tryd.ntmps111
  go_wp2_with fail
  refine (HM.out _).mono ?_
  rintro e w2 ⟨rfl, k2⟩
  go_wp2
  go_ret
  exact ⟨rfl, k2⟩

set_option maxHeartbeats 1600000 in
theorem st_index (a : Option Addr) (c : Nat) (l : List ByteArray) (B : Nat) (w : World) (h : StIn w a l) (hlen : l.length ≤ maxLen) (HB : Blk w B 41 #[.func (.func 64) #[] #[]]) :
    Calls Tryd.prog 133 #[.slice a l.length c, .func (.func 111) #[] #[.pointer (some ⟨B, 0, none⟩)]] w fun e w' => (∃ r : Int, e = .returned (.int .i64 r) ∧ decide ((0 : Int) ≤ r) = !(l.all okSt)) ∧ Below w.heap.size w w' := by
  have hll : l.length ≤ 9223372036854775807 := hlen
  have HNO := Lib.hid (fun (x : ByteArray) (W : World) (h : Blk W B 41 #[.func (.func 64) #[] #[]]) => st_no x B W h)
  skip
  clear hlen
  go_enter Tryd.func133, Tryd.ntmps133
  go_wp2_with fail
  go_loopw [8] (fun i wr => ∃ k : Nat, k ≤ l.length ∧ i = .int .i64 k ∧ (∀ x ∈ l.take k, okSt x = true) ∧ Below w.heap.size w wr) (fun i _ => l.length - (intOf i).toNat)
  case atStart => exact ⟨0, by omega, rfl, by simp, Below.refl _ _⟩
  case round =>
    obtain ⟨k, hk, rfl, hall, Bk⟩ := hrel
    by_cases hlt : k < l.length
    · have hIk := h.below Bk
      obtain ⟨b, lo, rfl, hbl, hat⟩ := hIk.at hlt
      have q1 : (k : Int) < (l.length : Int) := by omega
      have q2 : decide ((k : Int) < (l.length : Int)) = true := decide_eq_true q1
      have q3 : (0 : Int) ≤ (k : Int) := by omega
      have q4 : IntKind.i64.wrap ((k : Int) + 1) = (k : Int) + 1 := by rw [IntKind.wrap_i64] <;> omega
      have HK := hat k hlt
      have hmem := List.getElem_mem hlt
      have hsn : l.take (k + 1) = l.take k ++ [l[k]] := by rw [List.take_add_one, List.getElem?_eq_getElem hlt]; rfl
      have HBk := HB.kept Bk
      skip
      have HN2 := Lib.hid (HNO.out l[k] wr HBk)
      have hsw := Bk.size
      have HS := Lib.hid hsn
      have HME := Lib.hid hmem
      generalize l[k] = x at *
      clear hat hsn hmem hIk HNO
      have KX : wr.cell? ⟨b, lo + k, none⟩ = some (.string x) := by
        have q := HK 0 (.string x) rfl
        rw [Nat.mul_one, Nat.add_zero] at q
        exact q
      clear HK
      go_wp2_with fail
      refine HN2.out.mono ?_
      rintro e w2 ⟨rfl, k2⟩
      have B2 := Bk.trans (k2.mono hsw)
      clear HN2
      cases hx : okSt x with
      | true =>
        have hd : (!true) = false := rfl
        go_wp2
        go_roundw
        case rel => exact ⟨k + 1, by omega, by go_num, by
          rw [HS.out]
          intro y hy
          rcases List.mem_append.1 hy with q | q
          · exact hall y q
          · rw [List.mem_singleton.1 q]; exact hx, B2⟩
        case measure => simp [intOf]; omega
      | false =>
        have hd : (!false) = true := rfl
        have hno : Hid (l.all okSt = false) := by
          show _ = _
          rw [Bool.eq_false_iff]
          intro q
          have q2 := List.all_eq_true.1 q x HME.out
          rw [hx] at q2
          cases q2
        go_wp2
        go_ret
        refine ⟨⟨_, rfl, ?_⟩, B2⟩
        rw [hno.out]
        exact decide_eq_true q3
    · obtain rfl : k = l.length := by omega
      have q2 : decide ((l.length : Int) < (l.length : Int)) = false := decide_eq_false (by omega)
      have hyes : Hid (l.all okSt = true) := by
        show _ = _
        rw [List.take_length] at hall
        exact List.all_eq_true.2 hall
      clear hall
      go_wp2
      go_ret
      refine ⟨⟨_, rfl, ?_⟩, Bk⟩
      rw [hyes.out]
      rfl
theorem st_contains (a : Option Addr) (c : Nat) (l : List ByteArray) (B : Nat) (w : World) (h : StIn w a l) (hlen : l.length ≤ maxLen) (HB : Blk w B 41 #[.func (.func 64) #[] #[]]) :
    Calls Tryd.prog 110 #[.slice a l.length c, .func (.func 111) #[] #[.pointer (some ⟨B, 0, none⟩)]] w fun e w' => e = .returned (.bool (!(l.all okSt))) ∧ Below w.heap.size w w' := by
  have HX := Lib.hid (st_index a c l B w h hlen HB)
  go_enter Tryd.func110, Tryd.ntmps110
  go_wp2_with fail
  refine HX.out.mono ?_
  rintro e w2 ⟨⟨r, rfl, hd⟩, k2⟩
  go_wp2
  go_ret
  exact ⟨by rw [← hd]; rfl, k2⟩
theorem st_each (a : Option Addr) (c : Nat) (l : List ByteArray) (w : World) (h : StIn w a l) (hlen : l.length ≤ maxLen) :
    Calls Tryd.prog 93 #[.slice a l.length c, .func (.func 64) #[] #[]] w fun e w' => e = .returned (.bool (l.all okSt)) ∧ Below w.heap.size w w' := by
  have hmf : ∀ (fn : Fn) (first cap : Array Value) (w : World), (Instr.makeFunc fn first cap).run Tryd.prog w = .ok (.func fn first cap) w := fun _ _ _ _ => rfl
  have HA0 := Blk.new w 41 #[.func (.func 64) #[] #[]]
  have B0 : Below w.heap.size w (w.alloc (.cells #[.func (.func 64) #[] #[]] 41)) := (Below.refl _ _).alloc (Nat.le_refl _) _
  have HX := Lib.hid (st_contains a c l w.heap.size _ (h.below B0) hlen HA0)
  generalize l.all okSt = r at *
  go_enter Tryd.func93, Tryd.ntmps93
  go_wp2_with fail
  refine HX.out.mono ?_
  rintro e w2 ⟨rfl, k2⟩
  go_wp2
  go_ret
  exact ⟨by simp, B0.trans (k2.mono B0.size)⟩
theorem st_few (a : Option Addr) (c : Nat) (l : List ByteArray) (w : World) (h : StIn w a l) (hlen : l.length ≤ maxLen) :
    Calls Tryd.prog 63 #[.slice a l.length c, .func (.func 64) #[] #[]] w fun e w' => e = .returned (.bool (few okSt l)) ∧ Below w.heap.size w w' := by
  have HX := Lib.hid (st_each a c l w h hlen)
  unfold few
  generalize l.all okSt = r at *
  by_cases h1 : l.length ≤ 1
  · have d1 : decide ((l.length : Int) ≤ 1) = true := decide_eq_true (by omega)
    rw [d1, Bool.true_and]
    go_enter Tryd.func63, Tryd.ntmps63
    go_wp2_with fail
    refine HX.out.mono ?_
    rintro e w2 ⟨rfl, k2⟩
    go_wp2
    go_ret
    exact ⟨rfl, k2⟩
  · have d1 : decide ((l.length : Int) ≤ 1) = false := decide_eq_false (by omega)
    rw [d1, Bool.false_and]
    go_enter Tryd.func63, Tryd.ntmps63
    go_wp2
    go_ret
    exact ⟨rfl, Below.refl _ _⟩


end Go.Proofs.YticjmjoiggnblaaDoor
