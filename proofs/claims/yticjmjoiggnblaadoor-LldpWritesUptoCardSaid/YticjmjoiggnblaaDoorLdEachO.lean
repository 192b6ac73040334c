/- lldp.isEach, isFew of api.Org. -/
import Derived.Test.YticjmjoiggnblaaDoorLdIs
namespace Go.Proofs.YticjmjoiggnblaaDoor
open Go.RowKit
attribute [local go_sem ↓] Go.wp_at_zero Go.wp_at_succ
set_option linter.unusedSimpArgs false
set_option linter.unusedVariables false
set_option maxRecDepth 100000

theorem og_no (x : Og) (hr : rgOg x) (B : Nat) (w : World) (HB : Blk w B 117 #[.func (.func 70) #[] #[]]) : Calls Tryd.prog 98 #[.agg (ogC x), .pointer (some ⟨B, 0, none⟩)] w fun e w' => e = .returned (.bool (!(okOg x))) ∧ Below w.heap.size w w' := by
  have HM := Lib.hid (fun W => isOrg_any x hr W)
  have HA0 := Blk.new w 61 (ogC x)
  have B0 : Below w.heap.size w (w.alloc (.cells (ogC x) 61)) := (Below.refl _ _).alloc (Nat.le_refl _) _
  have HB1 := HB.kept B0
  have c0 := HB1.cv 0 (.func (.func 70) #[] #[]) rfl
  go_enter Tryd.func98, Tryd.ntmps98
  go_upto_region 1 with (fail)
  generalize (w.alloc (.cells (ogC x) 61)) = w1 at *
  go_wp2_with (refine load_blk (k := 0) 61 (ogC x) (by rfl) rfl rfl HA0 (by kernel_rfl) (by kernel_rfl) rfl ?_)
  refine (HM.out _).mono ?_
  rintro e w2 ⟨rfl, k2⟩
  go_wp2
  go_ret
  exact ⟨rfl, B0.trans (k2.mono B0.size)⟩

set_option maxHeartbeats 1600000 in
theorem og_index (a : Option Addr) (c : Nat) (l : List Og) (hr : ∀ x ∈ l, rgOg x) (B : Nat) (w : World) (h : OgIn w a l) (hlen : l.length ≤ maxLen) (HB : Blk w B 117 #[.func (.func 70) #[] #[]]) :
    Calls Tryd.prog 115 #[.slice a l.length c, .func (.func 98) #[] #[.pointer (some ⟨B, 0, none⟩)]] w fun e w' => (∃ r : Int, e = .returned (.int .i64 r) ∧ decide ((0 : Int) ≤ r) = !(l.all okOg)) ∧ Below w.heap.size w w' := by
  have hll : l.length ≤ 9223372036854775807 := hlen
  have HNO := Lib.hid (fun (x : Og) (hr : rgOg x) (W : World) (h : Blk W B 117 #[.func (.func 70) #[] #[]]) => og_no x hr B W h)
  have HRG := Lib.hid hr
  clear hr hlen
  go_enter Tryd.func115, Tryd.ntmps115
  go_wp2_with fail
  go_loopw [8] (fun i wr => ∃ k : Nat, k ≤ l.length ∧ i = .int .i64 k ∧ (∀ x ∈ l.take k, okOg x = true) ∧ Below w.heap.size w wr) (fun i _ => l.length - (intOf i).toNat)
  case atStart => exact ⟨0, by omega, rfl, by simp, Below.refl _ _⟩
  case round =>
    obtain ⟨k, hk, rfl, hall, Bk⟩ := hrel
    by_cases hlt : k < l.length
    · have hIk := h.below Bk
      obtain ⟨b, lo, rfl, hbl, hat⟩ := hIk.at hlt
      have q1 : (k : Int) < (l.length : Int) := by omega
      have q2 : decide ((k : Int) < (l.length : Int)) = true := decide_eq_true q1
      have q3 : (0 : Int) ≤ (k : Int) := by omega
      have q4 : IntKind.i64.wrap ((k : Int) + 1) = (k : Int) + 1 := by rw [IntKind.wrap_i64] <;> omega
      have HK := hat k hlt
      have hmem := List.getElem_mem hlt
      have hsn : l.take (k + 1) = l.take k ++ [l[k]] := by rw [List.take_add_one, List.getElem?_eq_getElem hlt]; rfl
      have HBk := HB.kept Bk
      have hrx := HRG.out _ hmem
      have HN2 := Lib.hid (HNO.out l[k] hrx wr HBk)
      have hsw := Bk.size
      have HS := Lib.hid hsn
      have HME := Lib.hid hmem
      generalize l[k] = x at *
      clear hat hsn hmem hIk HNO
      go_wp2_with (refine load_cells (B := b) (k := lo + k * 3) 61 (ogC x) (by rfl) rfl rfl HK (by kernel_rfl) (by kernel_rfl) ?_)
      refine HN2.out.mono ?_
      rintro e w2 ⟨rfl, k2⟩
      have B2 := Bk.trans (k2.mono hsw)
      clear HN2
      cases hx : okOg x with
      | true =>
        have hd : (!true) = false := rfl
        go_wp2
        go_roundw
        case rel => exact ⟨k + 1, by omega, by go_num, by
          rw [HS.out]
          intro y hy
          rcases List.mem_append.1 hy with q | q
          · exact hall y q
          · rw [List.mem_singleton.1 q]; exact hx, B2⟩
        case measure => simp [intOf]; omega
      | false =>
        have hd : (!false) = true := rfl
        have hno : Hid (l.all okOg = false) := by
          show _ = _
          rw [Bool.eq_false_iff]
          intro q
          have q2 := List.all_eq_true.1 q x HME.out
          rw [hx] at q2
          cases q2
        go_wp2
        go_ret
        refine ⟨⟨_, rfl, ?_⟩, B2⟩
        rw [hno.out]
        exact decide_eq_true q3
    · obtain rfl : k = l.length := by omega
      have q2 : decide ((l.length : Int) < (l.length : Int)) = false := decide_eq_false (by omega)
      have hyes : Hid (l.all okOg = true) := by
        show _ = _
        rw [List.take_length] at hall
        exact List.all_eq_true.2 hall
      clear hall
      go_wp2
      go_ret
      refine ⟨⟨_, rfl, ?_⟩, Bk⟩
      rw [hyes.out]
      rfl
theorem og_contains (a : Option Addr) (c : Nat) (l : List Og) (hr : ∀ x ∈ l, rgOg x) (B : Nat) (w : World) (h : OgIn w a l) (hlen : l.length ≤ maxLen) (HB : Blk w B 117 #[.func (.func 70) #[] #[]]) :
    Calls Tryd.prog 97 #[.slice a l.length c, .func (.func 98) #[] #[.pointer (some ⟨B, 0, none⟩)]] w fun e w' => e = .returned (.bool (!(l.all okOg))) ∧ Below w.heap.size w w' := by
  have HX := Lib.hid (og_index a c l hr B w h hlen HB)
  go_enter Tryd.func97, Tryd.ntmps97
  go_wp2_with fail
  refine HX.out.mono ?_
  rintro e w2 ⟨⟨r, rfl, hd⟩, k2⟩
  go_wp2
  go_ret
  exact ⟨by rw [← hd]; rfl, k2⟩
theorem og_each (a : Option Addr) (c : Nat) (l : List Og) (hr : ∀ x ∈ l, rgOg x) (w : World) (h : OgIn w a l) (hlen : l.length ≤ maxLen) :
    Calls Tryd.prog 69 #[.slice a l.length c, .func (.func 70) #[] #[]] w fun e w' => e = .returned (.bool (l.all okOg)) ∧ Below w.heap.size w w' := by
  have hmf : ∀ (fn : Fn) (first cap : Array Value) (w : World), (Instr.makeFunc fn first cap).run Tryd.prog w = .ok (.func fn first cap) w := fun _ _ _ _ => rfl
  have HA0 := Blk.new w 117 #[.func (.func 70) #[] #[]]
  have B0 : Below w.heap.size w (w.alloc (.cells #[.func (.func 70) #[] #[]] 117)) := (Below.refl _ _).alloc (Nat.le_refl _) _
  have HX := Lib.hid (og_contains a c l hr w.heap.size _ (h.below B0) hlen HA0)
  generalize l.all okOg = r at *
  go_enter Tryd.func69, Tryd.ntmps69
  go_wp2_with fail
  refine HX.out.mono ?_
  rintro e w2 ⟨rfl, k2⟩
  go_wp2
  go_ret
  exact ⟨by simp, B0.trans (k2.mono B0.size)⟩


end Go.Proofs.YticjmjoiggnblaaDoor
