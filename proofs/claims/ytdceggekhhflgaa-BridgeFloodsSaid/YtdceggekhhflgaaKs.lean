/- switchyardkeep: sets, plainPorts. -/
import Derived.Test.YtdceggekhhflgaaSv
namespace Go.Proofs.Ytdceggekhhflgaa
open Go.RowKit
attribute [local go_sem ↓] Go.wp_at_zero Go.wp_at_succ
set_option linter.unusedSimpArgs false
set_option linter.unusedVariables false
set_option maxRecDepth 100000

/-- May ports be held? -/
def setsB (l : List PsH) : Bool := (decide (1 ≤ l.length) && decide (l.length ≤ 8)) && l.all fun x => okPs x.x

theorem setsB_yes {l : List PsH} (h : setsB l = true) : 1 ≤ l.length ∧ l.length ≤ 8 ∧ ∀ x ∈ l, okPs x.x = true := by
  unfold setsB at h
  simp only [Bool.and_eq_true, decide_eq_true_eq, List.all_eq_true] at h
  exact ⟨h.1.1, h.1.2, h.2⟩

set_option maxHeartbeats 3200000 in
theorem sets_any (a : Option Addr) (c : Nat) (l : List PsH) (w : World) (h : PsIn w a l) (hok : ∀ x ∈ l, PsOk w x) (hl : l.length ≤ maxLen) :
    Calls Try.prog 22 #[.slice a l.length c] w fun e w' => e = .returned (.bool (setsB l)) ∧ Below w.heap.size w w' := by
  by_cases h0 : l.length = 0
  · have HR : Hid (setsB l = false) := by
      show _ = _
      unfold setsB
      rw [h0]
      rfl
    rw [h0]
    clear h hok hl h0
    go_enter Try.func22, Try.ntmps22
    go_wp2
    go_ret
    exact ⟨by rw [HR.out]; rfl, Below.refl _ _⟩
  have e0 : ((l.length : Int) == 0) = false := by rw [beq_eq_false_iff_ne]; omega
  have e0n : (l.length == 0) = false := by rw [beq_eq_false_iff_ne]; omega
  by_cases h8 : 8 < l.length
  · have HR : Hid (setsB l = false) := by
      show _ = _
      unfold setsB
      rw [decide_eq_false (show ¬ l.length ≤ 8 by omega)]
      simp
    have e8 : decide ((8 : Int) < (l.length : Int)) = true := decide_eq_true (by omega)
    clear h hok hl h0
    go_enter Try.func22, Try.ntmps22
    go_wp2
    go_ret
    exact ⟨by rw [HR.out]; rfl, Below.refl _ _⟩
  have e8 : decide ((8 : Int) < (l.length : Int)) = false := decide_eq_false (by omega)
  have HL8 : Hid (l.length ≤ 8) := by show _ ≤ _; omega
  have HSB : Hid (setsB l = l.all fun x => okPs x.x) := by
    show _ = _
    unfold setsB
    rw [decide_eq_true (show 1 ≤ l.length by omega), decide_eq_true (show l.length ≤ 8 by omega)]
    rfl
  have HOK := Lib.hid hok
  clear hok hl h0 h8
  go_enter Try.func22, Try.ntmps22
  go_wp2_with fail
  go_loopw [15] (fun i wr => ∃ k : Nat, k ≤ l.length ∧ i = .int .i64 k ∧ (∀ x ∈ l.take k, okPs x.x = true) ∧ Below w.heap.size w wr) (fun i _ => l.length - (intOf i).toNat)
  case atStart => exact ⟨0, by omega, rfl, by simp, Below.refl _ _⟩
  case round =>
    obtain ⟨k, hk, rfl, hall, Bk⟩ := hrel
    by_cases hlt : k < l.length
    · have hI := h.below Bk
      obtain ⟨b, lo, rfl, hbl, hat⟩ := hI.at hlt
      have q1 : (k : Int) < (l.length : Int) := by omega
      have q2 : decide ((k : Int) < (l.length : Int)) = true := decide_eq_true q1
      have q3 : (0 : Int) ≤ (k : Int) := by omega
      have q4 : IntKind.i64.wrap ((k : Int) + 1) = (k : Int) + 1 := by have := HL8.out; rw [IntKind.wrap_i64] <;> omega
      have HK := hat k hlt
      have hkx := (HOK.out _ (List.getElem_mem hlt)).below Bk
      have hsn := Lib.hid (show l.take (k + 1) = l.take k ++ [l[k]] by rw [List.take_add_one, List.getElem?_eq_getElem hlt]; rfl)
      have HBAD : Hid (okPs l[k].x = false → setsB l = false) := fun q => by
        rw [HSB.out, List.all_eq_false]
        exact ⟨l[k], List.getElem_mem hlt, by simp [q]⟩
      generalize l[k] = x at *
      have HQ := Blk.new wr 59 (psC zPsH)
      have bQ : Below wr.heap.size wr (wr.alloc (.cells (psC zPsH) 59)) := (Below.refl _ _).alloc (Nat.le_refl _) _
      have hsum : ∃ z : Int, wrap64 ((x.x.inn.length : Int) + (x.x.bare.length : Int)) = z ∧ IntKind.i64.wrap ((x.x.inn.length : Int) + (x.x.bare.length : Int)) = z ∧ (140 < z → okPs x.x = false) := by
        refine ⟨_, rfl, ?_, fun hz => ?_⟩
        · have h1 := hkx.ic; have h2 := hkx.im; have h3 := hkx.bc; have h4 := hkx.bm
          unfold maxLen at h2 h4
          unfold wrap64 IntKind.wrap
          simp [IntKind.bits, IntKind.signed]
          try omega
        · cases q : okPs x.x with
          | false => rfl
          | true =>
            have := okPs_short q
            unfold wrap64 at hz
            omega
      obtain ⟨z, hz1, hz2, hz3⟩ := hsum
      have HZ3 := Lib.hid hz3
      clear hat hI h hbl hz3
      go_upto_region 6 with (first
        | (refine load_cells (B := b) (k := lo + k * 4) 59 (psC x) (by rfl) rfl rfl HK (by kernel_rfl) (by kernel_rfl) ?_)
        | (refine alloc_blk 59 (psC zPsH) (by rfl) rfl Try.psZero ?_)
        | (refine store_blk (B := wr.heap.size) (k := 0) 59 (.agg (psC x)) (psC x) (by rfl) rfl rfl rfl HQ (by kernel_rfl) (show (4 : Nat) ≤ 4 from Nat.le_refl 4) (by rfl) (st_whole' _ _ rfl) ?_; intro w0 HQ0 b0 g0))
      have k0 := bQ.trans b0
      have hk0 := hkx.below k0
      have B0 := Bk.trans (k0.mono Bk.size)
      have c1 := HQ0.cv 1 (.slice x.ia x.x.inn.length x.ic) rfl
      have c2 := HQ0.cv 2 (.slice x.ba x.x.bare.length x.bc) rfl
      have HRI := Lib.hid (psRight_any x w0 hk0)
      clear bQ b0 g0 HK hkx HQ k0 hk0 Bk
      generalize wr.heap.size = Q at *
      by_cases h140 : 140 < z
      · have HR := Lib.hid (HBAD.out (HZ3.out h140))
        have e1 : decide ((140 : Int) < z) = true := decide_eq_true h140
        clear HBAD HZ3 h140 hall
        go_wp2
        go_ret
        exact ⟨by rw [HR.out]; rfl, B0⟩
      · have e1 : decide ((140 : Int) < z) = false := decide_eq_false h140
        clear HZ3 h140
        cases hb : okPs x.x with
        | false =>
          have HR := Lib.hid (HBAD.out hb)
          rw [hb] at HRI
          clear HBAD hall
          go_wp2_with (first
            | (refine load_blk 59 (psC x) (by rfl) rfl rfl HQ0 (by kernel_rfl) (by kernel_rfl) (by rfl) ?_)
            | (go_at_call 30; refine HRI.out.mono ?_; rintro e w1 ⟨rfl, k1⟩))
          go_ret
          exact ⟨by rw [HR.out]; rfl, B0.trans (k1.mono B0.size)⟩
        | true =>
          rw [hb] at HRI
          have HALL : Hid (∀ y ∈ l.take (k + 1), okPs y.x = true) := fun y hy => by
            rw [hsn.out] at hy
            rcases List.mem_append.1 hy with q | q
            · exact hall y q
            · rw [List.mem_singleton.1 q]; exact hb
          clear HBAD hall
          go_wp2_with (first
            | (refine load_blk 59 (psC x) (by rfl) rfl rfl HQ0 (by kernel_rfl) (by kernel_rfl) (by rfl) ?_)
            | (go_at_call 30; refine HRI.out.mono ?_; rintro e w1 ⟨rfl, k1⟩))
          go_roundw
          case rel => exact ⟨k + 1, by omega, by go_num, HALL.out, B0.trans (k1.mono B0.size)⟩
          case measure => simp [intOf]; omega
    · obtain rfl : k = l.length := by omega
      have q2 : decide ((l.length : Int) < (l.length : Int)) = false := decide_eq_false (by omega)
      rw [List.take_length] at hall
      have HR : Hid (setsB l = true) := by
        show _ = _
        rw [HSB.out]
        exact List.all_eq_true.2 fun x hx => hall x hx
      clear hall
      go_wp2
      go_ret
      exact ⟨by rw [HR.out]; rfl, Bk⟩

end Go.Proofs.Ytdceggekhhflgaa
