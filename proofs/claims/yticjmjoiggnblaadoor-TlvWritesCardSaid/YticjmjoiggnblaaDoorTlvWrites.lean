/- switchyardlaw.TlvWrites: every list as bytes, by the program and by the document: true, and what was there is as it was. -/
import Derived.Test.YticjmjoiggnblaaDoorTlWrite
import Derived.Test.YticjmjoiggnblaaDoorRefTlWrite
import Derived.Test.YticjmjoiggnblaaDoorPlaced
namespace Go.Proofs.YticjmjoiggnblaaDoor.tlvWrites
open Go.RowKit
attribute [local go_sem ↓] Go.wp_at_zero Go.wp_at_succ
set_option linter.unusedSimpArgs false
set_option linter.unusedVariables false
set_option maxRecDepth 100000

/-- How far a list may be written. -/
theorem upto (l : List Tl) : ∃ (m : Nat) (X : List UInt8) (e0 pl : Int), m ≤ l.length ∧ (∀ x ∈ l.take m, okTl x = true) ∧ ((m = l.length ∧ X = tlWrite l ∧ e0 = 0 ∧ pl = -1) ∨ (∃ hk : m < l.length, okTl l[m] = false ∧ X = [] ∧ e0 = 1 ∧ pl = m)) := by
  rcases all_or l with h | ⟨k, hk, h1, h2⟩
  · exact ⟨l.length, _, _, _, Nat.le_refl _, fun x hx => h x (List.mem_of_mem_take hx), Or.inl ⟨rfl, rfl, rfl, rfl⟩⟩
  · exact ⟨k, _, _, _, by omega, h2, Or.inr ⟨hk, h1, rfl, rfl, rfl⟩⟩

set_option maxHeartbeats 6400000 in
theorem walk (a : Option Addr) (c : Nat) (l : List Tl) (w : World) (h : TlIn w a l) (hlm : l.length ≤ maxLen) (hE : HasErr w) :
    Calls Tryd.prog 3 #[.slice a l.length c] w fun e w' => e = .returned (.bool true) ∧ Below w.heap.size w w' := by
  obtain ⟨m, X, e0, pl, hm, hok, hend⟩ := upto l
  have hll : l.length ≤ 9223372036854775807 := hlm
  have HV := Lib.hid (fun (hlen : l.length ≤ 1000) (W : World) (h : TlIn W a l) => refTlWrite_any a c l m hm hok hlen X e0 pl hend W h)
  have HW := Lib.hid (fun (hlen : l.length ≤ 1000) (W : World) (h : TlIn W a l) => tlWrite_any a c l m hm hok hlen X e0 pl hend W h)
  clear hm hok hend hlm
  go_enter Tryd.func3, Tryd.ntmps3
  go_wp2_with fail
  go_loopw [3, 12] (fun n i wr => ∃ (k : Nat) (v : Int), k ≤ l.length ∧ i = .int .i64 k ∧ n = .int .i64 v ∧ Below w.heap.size w wr) (fun _ i _ => l.length - (intOf i).toNat)
  case atStart => exact ⟨0, 0, by omega, rfl, rfl, Below.refl _ _⟩
  case round =>
    obtain ⟨k, v, hk, rfl, rfl, Bk⟩ := hrel
    have hsw := Bk.size
    by_cases hlt : k < l.length
    · have hIk := h.below Bk
      obtain ⟨b, lo, rfl, hbl, hat⟩ := hIk.at hlt
      have q1 : (k : Int) < (l.length : Int) := by omega
      have q2 : decide ((k : Int) < (l.length : Int)) = true := decide_eq_true q1
      have q3 : (0 : Int) ≤ (k : Int) := by omega
      have HK := hat k hlt
      have HA4 := Blk.new wr 24 (tlC zTl)
      have B4 := Bk.alloc Bk.size (.cells (tlC zTl) 24)
      obtain ⟨V, hV⟩ : ∃ V, IntKind.i64.wrap (v + (l[k].t.size : Int)) = V := ⟨_, rfl⟩
      have q4 : IntKind.i64.wrap ((k : Int) + 1) = (k : Int) + 1 := by rw [IntKind.wrap_i64] <;> omega
      generalize l[k] = x at *
      clear hat Bk hIk
      go_upto_region 5 with (first
        | (refine load_cells (B := b) (k := lo + k * 2) 24 (tlC x) (by rfl) rfl rfl HK (by kernel_rfl) (by kernel_rfl) ?_)
        | (refine alloc_blk 24 (tlC zTl) (by rfl) rfl Tryd.tlZero ?_)
        | (refine store_blk (k := 0) 24 (.agg (tlC x)) (tlC x) (by rfl) rfl rfl rfl HA4 (by kernel_rfl) (show (2 : Nat) ≤ 2 from Nat.le_refl 2) (by rfl) (st_whole _ _ rfl) ?_; intro w5 HA5 b5 g5))
      have B5 := B4.trans (b5.mono hsw)
      have c1 := HA5.cv 1 (.string x.t) rfl
      clear HA4 B4 b5 g5 HK HA5
      go_wp2
      go_roundw
      case rel => exact ⟨k + 1, V, by omega, by go_num, rfl, B5⟩
      case measure => simp [intOf]; omega
    · obtain rfl : k = l.length := by omega
      have q2 : decide ((l.length : Int) < (l.length : Int)) = false := decide_eq_false (by omega)
      by_cases h60 : 60 < l.length
      · have d6 : decide ((60 : Int) < (l.length : Int)) = true := decide_eq_true (by omega)
        go_wp2
        go_ret
        exact ⟨rfl, Bk⟩
      have d6 : decide ((60 : Int) < (l.length : Int)) = false := decide_eq_false (by omega)
      by_cases h40 : 4000 < v
      · have d4 : decide ((4000 : Int) < v) = true := decide_eq_true h40
        go_wp2
        go_ret
        exact ⟨rfl, Bk⟩
      have d4 : decide ((4000 : Int) < v) = false := decide_eq_false h40
      have HV2 := Lib.hid (HV.out (by omega))
      have HW2 := Lib.hid (HW.out (by omega))
      have hI := h.below Bk
      clear HV HW h40 h60
      go_wp2_with fail
      refine (HV2.out _ hI).mono ?_
      rintro e w2 ⟨rfl, b2⟩
      have hI2 := hI.below b2
      have B2 := Bk.trans (b2.mono hsw)
      have HF3 := Blk.new w2 27 (ftC 0 0)
      have B3 := B2.alloc B2.size (.cells (ftC 0 0) 27)
      have hI3 := hI2.below ((Below.refl w2.heap.size w2).alloc (Nat.le_refl _) (.cells (ftC 0 0) 27))
      have hs2 := B2.size
      go_upto_region 10 with (first | (refine alloc_blk 27 (ftC 0 0) (by rfl) rfl Tryd.ftZero ?_) | (refine store_blk (k := 0) 27 (.agg (ftC e0 pl)) (ftC e0 pl) (by rfl) rfl rfl rfl HF3 (by kernel_rfl) (by exact Nat.le_refl 2) rfl rfl (fun w4 HF4 b4 g4 => ?_)))
      have hI4 := hI3.late hI2 b4
      have B4 := B3.trans (b4.mono hs2)
      clear HF3 B3 hI3 hI2 hI B2 Bk b4 g4 b2
      go_wp2_with fail
      refine (HW2.out _ hI4).mono ?_
      rintro e w5 ⟨er, rfl, hp5, b5⟩
      have HF5 := HF4.kept b5
      have B5 := B4.trans (b5.mono B4.size)
      have hE5 := hE.below B5
      have hL : (X == X) = true := by simp
      clear HF4 hI4 B4 b5 HV2 HW2
      go_wp2_with (refine load_blk (k := 0) 27 (ftC e0 pl) (by rfl) rfl rfl HF5 (by kernel_rfl) (by kernel_rfl) rfl ?_)
      refine (placed_any er e0 pl _ hE5 hp5).mono ?_
      rintro e w6 ⟨rfl, b6⟩
      go_wp2
      go_ret
      exact ⟨rfl, B5.trans (b6.mono B5.size)⟩

end Go.Proofs.YticjmjoiggnblaaDoor.tlvWrites
