/- The card of switchyardlaw.MvrpReads: for every argument it returns true, and the arguments read as they did; what its row lists of package-level variables is tied to the program's text. -/
import Derived.Test.YtdjljnpbnhampaaDoorMkR1
import Derived.Test.YtdjljnpbnhampaaDoorMkR2
import Derived.Test.YtdjljnpbnhampaaDoorMkR3
import Derived.Defers
import Derived.Recover
import Derived.Test.YtdjljnpbnhampaaDoorRdZ
import Derived.Test.YtdjljnpbnhampaaDoorBlk
import Derived.Test.YtdjljnpbnhampaaDoorMvBackM
import Derived.Deep.RegionHeld3
import Derived.Test.YtdjljnpbnhampaaDoorFlt
import Derived.LaidEql
import Derived.Stop.Asserts
import Derived.RowKitTokens
import Derived.Lib.Hide
import Derived.Below
import Derived.ChangeSame
import Derived.Test.YtdjljnpbnhampaaDoorRows
import Derived.Test.YtdjljnpbnhampaaDoorCards
import Derived.Test.YtdjljnpbnhampaaDoorTie
import Derived.ProofKit
import Derived.OpenShut
import Derived.LaidHandle
import Derived.LaidMore
import Derived.LaidSub
import Derived.Deep.DeepHandedRow
import Derived.Lib.LaidTab
namespace Go.Proofs.YtdjljnpbnhampaaDoor
open Go.RowKit
attribute [local go_sem ↓] Go.wp_at_zero Go.wp_at_succ
set_option linter.unusedSimpArgs false
set_option linter.unusedVariables false
set_option maxRecDepth 100000

/-- A Fault's cells. -/
def ftC (e pl : Int) : Array Value := #[.int .i64 e, .int .i64 pl]

theorem Tryd.ftZero : (Tryd.prog.info? 37).map (·.zero) = some (some (.agg (ftC 0 0))) := by kernel_rfl

theorem good_any (w : World) : Calls Tryd.prog 26 #[] w fun e w' => e = .returned (.agg (ftC 0 (-1))) ∧ Below w.heap.size w w' := by
  have HZ := Blk.new w 37 (ftC 0 0)
  have hb0 : Below w.heap.size w (w.alloc (.cells (ftC 0 0) 37)) := (Below.refl _ _).alloc (Nat.le_refl _) _
  go_enter Tryd.func26, Tryd.ntmps26
  go_wp2_with (first | (refine alloc_blk 37 (ftC 0 0) (by rfl) rfl Tryd.ftZero ?_) | (refine build_blk (t := 37) (ftC 0 (-1)) (by rfl) rfl (by kernel_rfl) ?_) | (refine store_blk (k := 0) 37 (.agg (ftC 0 (-1))) (ftC 0 (-1)) (by rfl) rfl rfl rfl HZ (by kernel_rfl) (by exact Nat.le_refl 2) rfl rfl (fun w2 H2 b2 g2 => ?_)))
  exact bodyPost_ret (results_blk rfl rfl H2 (by kernel_rfl) (by kernel_rfl)) rfl ⟨rfl, hb0.trans b2⟩

theorem is_any (e pl : Int) (w : World) : Calls Tryd.prog 28 #[.agg (ftC e pl)] w fun r w' => r = .returned (.bool (e == 0)) ∧ Below w.heap.size w w' := by
  have hb0 : Below w.heap.size w (w.alloc (.cells (ftC e pl) 37)) := (Below.refl _ _).alloc (Nat.le_refl _) _
  unfold ftC at *
  go_enter Tryd.func28, Tryd.ntmps28
  go_wp2
  go_ret
  exact ⟨rfl, hb0⟩

theorem Tryd.isThrown (v : Value) (w : World) : (Instr.typeAssert (.iface 154 v) 20 154 true).run Tryd.prog w = .ok (.tuple #[v, .bool true]) w := by kernel_rfl

theorem Tryd.thZero : (Tryd.prog.info? 154).map (·.zero) = some (some (.agg (ftC 0 0))) := by kernel_rfl

/-- The rest of a deferred call, where nothing more is recovered: its post behind a name. -/
theorem wpS_rest {P : Program} {c : Code} {Q : Exit → Act → List Frame → World → Prop} {a : Act} {cs : List Frame} {w : World} (T : Array Value) (hT : a = { tmps := T, defers := [] }) (h : ∀ Q' : Exit → Act → World → Prop, Hid (∀ e a' w', Q e a' cs w' → Q' e a' w') → c.wp P Q' { tmps := T, defers := [] } w) : c.wpS P Q a cs w := by
  subst hT
  exact wpS_of_wp (h _ (Lib.hid fun _ _ _ x => x))

/-- caught, where nothing was thrown. -/
theorem caught_idle (p : Addr) (w : World) :
    CallsD Tryd.prog 29 #[.pointer (some p)] .returning w fun e u' w' => e = .returned (.tuple #[]) ∧ u' = .returning ∧ w' = w := by
  have hnn : ∀ w : World, (binOp BinOp.neq 20 .nilIface .nilIface).run Tryd.prog w = .ok (.bool false) w := fun _ => by kernel_rfl
  refine callsD_of_wpS Tryd.func29 rfl fun c₀ cs hu => ?_
  apply wpS_seq
  apply wpS_region
  simp [wpOpsS, go_sem, recoverD, hu, Tryd.ntmps29, Exit.thenS]
  refine wpS_rest #[.pointer (some p), undef, .nilIface, undef, undef, .nilIface, undef, undef, undef, undef, undef, undef, undef, undef, undef, undef, undef, undef, undef, undef] (by kernel_rfl) fun Q' hQ' => ?_
  go_wp2
  refine hQ'.out _ _ _ ?_
  cases c₀
  simp_all [bodyPostS, results, Tryd.results29]

/-- caught, where something was thrown: it is laid. -/
theorem caught_thrown (B : Nat) (e0 pl0 e pl : Int) (older : List PanicEntry) (w : World) (hB : Blk w B 37 (ftC e0 pl0)) :
    CallsD Tryd.prog 29 #[.pointer (some ⟨B, 0, none⟩)] (.panicking ({ v := Thr e pl, recovered := false } :: older)) w fun r u' w' => r = .returned (.tuple #[]) ∧ u' = .panicking ({ v := Thr e pl, recovered := true } :: older) ∧ Blk w' B 37 (ftC e pl) ∧ w.grownBy w' (some B) := by
  have hta := Tryd.isThrown
  have hnn : ∀ w : World, (binOp BinOp.neq 20 (.iface 154 (.agg #[.int .i64 e, .int .i64 pl])) .nilIface).run Tryd.prog w = .ok (.bool true) w := fun _ => by kernel_rfl
  have HB2 := hB.alloc (.cells (ftC 0 0) 154)
  have HT := Blk.new w 154 (ftC 0 0)
  have hg0 := World.grownBy_alloc w (.cells (ftC 0 0) 154) (some B)
  have hlt := hB.lt
  refine callsD_of_wpS Tryd.func29 rfl fun c₀ cs hu => ?_
  unfold Thr at *
  apply wpS_seq
  apply wpS_region
  simp [wpOpsS, go_sem, recoverD, hu, Tryd.ntmps29, Exit.thenS]
  refine wpS_rest #[.pointer (some ⟨B, 0, none⟩), undef, .iface 154 (.agg #[.int .i64 e, .int .i64 pl]), undef, undef, .iface 154 (.agg #[.int .i64 e, .int .i64 pl]), undef, undef, undef, undef, undef, undef, undef, undef, undef, undef, undef, undef, undef, undef] (by kernel_rfl) fun Q' hQ' => ?_
  go_upto_region 5 with (first | (refine alloc_blk 154 (ftC 0 0) (by rfl) rfl Tryd.thZero ?_) | (refine store_blk (k := 0) 154 (.agg (ftC e pl)) (ftC e pl) (by rfl) rfl rfl rfl HT (by kernel_rfl) (by exact Nat.le_refl 2) rfl rfl (fun w2 HT2 b2 g2 => ?_)))
  have HB3 := HB2.grown g2 (by simp; omega)
  go_wp2_with (first | (refine load_blk (k := 0) 37 (ftC e pl) (by rfl) rfl rfl HT2 (by kernel_rfl) (by kernel_rfl) rfl ?_) | (refine store_blk (k := 0) 37 (.agg (ftC e pl)) (ftC e pl) (by rfl) rfl rfl rfl HB3 (by kernel_rfl) (by exact Nat.le_refl 2) rfl rfl (fun w3 HB4 b3 g3 => ?_)))
  have hG : w.grownBy w3 (some B) := by
    have h1 : w.grownBy w2 (some B) := ⟨g2.os, g2.tape, g2.output, Nat.le_trans hg0.size g2.size, fun k hk hne => (g2.block k (by simp; omega) (by simp; omega)).trans (hg0.block k hk hne)⟩
    exact grownBy_trans h1 g3
  refine hQ'.out _ _ _ ?_
  cases c₀
  simp_all [bodyPostS, results, Tryd.results29]

end Go.Proofs.YtdjljnpbnhampaaDoor

namespace Go.Proofs.YtdjljnpbnhampaaDoor
open Go.RowKit
attribute [local go_sem ↓] Go.wp_at_zero Go.wp_at_succ
set_option linter.unusedSimpArgs false
set_option linter.unusedVariables false
set_option maxRecDepth 100000

/-- Only noughts are left. -/
theorem noughts_ok {w : World} {c p off : Nat} {s : ByteArray} (h : Cur w c s p off) (hp : p ≤ s.size) (hz : ∀ (j : Nat) b, p ≤ j → s.data.toList[j]? = some b → b = 0) (hb : off + s.size ≤ 281474976710656) :
    Calls Tryd.prog 57 #[.pointer (some ⟨c, 0, none⟩)] w fun r w' => r = .returned (.tuple #[]) ∧ w.grownBy w' (some c) := by
  have hlt := h.lt
  have HZ := Lib.hid hz
  clear hz
  go_enter Tryd.func57, Tryd.ntmps57
  go_wp2_with fail
  go_loopw [2] (fun _ wr => ∃ k : Nat, p ≤ k ∧ k ≤ s.size ∧ Cur wr c s k off ∧ w.grownBy wr (some c)) (fun _ wr => s.size - curAt wr c)
  case atStart => exact ⟨p, Nat.le_refl _, hp, h, World.grownBy.refl _ _⟩
  case round =>
    obtain ⟨k, hk, hks, hr, hg⟩ := hrel
    have c0 := hr.cv 0 (.string s) rfl
    have c1 := hr.cv 1 (.int .i64 k) rfl
    have z1 := hr.fz 1
    have HM := Lib.hid hr.at
    by_cases hlt2 : k < s.size
    · have hI : (0 : Int) ≤ (k : Int) := by omega
      have hks2 : k < s.size := by omega
      have hI2 : (k : Int) < (s.size : Int) := by omega
      have ht : ((s[k].toNat : Int) != 0) = false := by rw [HZ.out k s[k] hk (by rw [Array.getElem?_toList]; exact Array.getElem?_eq_getElem _)]; rfl
      have HS : Hid (Cur (wr.setCell ⟨c, 1, none⟩ (.int .i64 ((k + 1 : Nat) : Int))) c s (k + 1) off) := hr.set ((k + 1 : Nat) : Int)
      have HG := Lib.hid (grownBy_trans hg (grownC wr c 1 (.int .i64 ((k + 1 : Nat) : Int))))
      go_wp2
      go_region
      go_wp2
      go_region
      go_wp2
      go_roundw
      case rel => exact ⟨k + 1, by omega, by omega, HS.out, HG.out.os, HG.out.tape, HG.out.output, HG.out.size, HG.out.block⟩
      case measure =>
        have e2 := Cur.at HS.out
        have e3 : curAt wr c = k := HM.out
        show s.size - curAt (wr.setCell ⟨c, 1, none⟩ (.int .i64 ((k + 1 : Nat) : Int))) c < s.size - curAt wr c
        rw [e2, e3]
        omega
    · have HG := Lib.hid hg
      go_wp2
      go_region
      go_wp2
      go_end0
      exact ⟨rfl, HG.out.os, HG.out.tape, HG.out.output, HG.out.size, HG.out.block⟩

/-- Another byte, and where. -/
theorem noughts_bad {w : World} {c p off m : Nat} {s : ByteArray} (h : Cur w c s p off) (hp : p ≤ m) (hms : m < s.size) (hz : ∀ (j : Nat) b, p ≤ j → j < m → s.data.toList[j]? = some b → b = 0) (hm : s[m] ≠ 0) (hb : off + s.size ≤ 281474976710656) :
    Calls Tryd.prog 57 #[.pointer (some ⟨c, 0, none⟩)] w fun r w' => r = .panicked (Thrown 15 (off + m)) ∧ w.grownBy w' (some c) := by
  have hlt := h.lt
  have HZ := Lib.hid hz
  clear hz
  go_enter Tryd.func57, Tryd.ntmps57
  go_wp2_with fail
  go_loopw [2] (fun _ wr => ∃ k : Nat, p ≤ k ∧ k ≤ m ∧ Cur wr c s k off ∧ w.grownBy wr (some c)) (fun _ wr => s.size - curAt wr c)
  case atStart => exact ⟨p, Nat.le_refl _, hp, h, World.grownBy.refl _ _⟩
  case round =>
    obtain ⟨k, hk, hks, hr, hg⟩ := hrel
    have c0 := hr.cv 0 (.string s) rfl
    have c1 := hr.cv 1 (.int .i64 k) rfl
    have z1 := hr.fz 1
    have HM := Lib.hid hr.at
    by_cases hlt2 : k < m
    · have hI : (0 : Int) ≤ (k : Int) := by omega
      have hks2 : k < s.size := by omega
      have hI2 : (k : Int) < (s.size : Int) := by omega
      have ht : ((s[k].toNat : Int) != 0) = false := by rw [HZ.out k s[k] hk hlt2 (by rw [Array.getElem?_toList]; exact Array.getElem?_eq_getElem _)]; rfl
      have HS : Hid (Cur (wr.setCell ⟨c, 1, none⟩ (.int .i64 ((k + 1 : Nat) : Int))) c s (k + 1) off) := hr.set ((k + 1 : Nat) : Int)
      have HG := Lib.hid (grownBy_trans hg (grownC wr c 1 (.int .i64 ((k + 1 : Nat) : Int))))
      go_wp2
      go_region
      go_wp2
      go_region
      go_wp2
      go_roundw
      case rel => exact ⟨k + 1, by omega, by omega, HS.out, HG.out.os, HG.out.tape, HG.out.output, HG.out.size, HG.out.block⟩
      case measure =>
        have e2 := Cur.at HS.out
        have e3 : curAt wr c = k := HM.out
        show s.size - curAt (wr.setCell ⟨c, 1, none⟩ (.int .i64 ((k + 1 : Nat) : Int))) c < s.size - curAt wr c
        rw [e2, e3]
        omega
    · obtain rfl : k = m := by omega
      have hI : (0 : Int) ≤ (k : Int) := by omega
      have hI2 : (k : Int) < (s.size : Int) := by omega
      have ht : ((s[k].toNat : Int) != 0) = true := by
        apply bne_iff_ne.2
        intro e
        exact hm (UInt8.toNat_inj.1 (by show _ = 0; omega))
      have hbl : off + k ≤ 281474976710656 := by omega
      have HG := Lib.hid hg
      go_wp2
      go_region
      go_wp2
      go_region
      go_wp2_with fail
      refine (throw_any (show Cur wr.drew.drew c s k off from hr) 15 k (by omega) (by omega)).mono ?_
      rintro e w2 ⟨rfl, rfl⟩
      go_wp2
      exact ⟨rfl, rfl, HG.out.os, HG.out.tape, HG.out.output, HG.out.size, HG.out.block⟩

end Go.Proofs.YtdjljnpbnhampaaDoor

namespace Go.Proofs.YtdjljnpbnhampaaDoor
open Go.RowKit
set_option linter.unusedVariables false
set_option maxRecDepth 100000

theorem within_yes (n lo hi : Int) (w : World) (h1 : lo ≤ n) (h2 : n ≤ hi) :
    Calls Tryd.prog 33 #[.int .i64 n, .int .i64 lo, .int .i64 hi] w fun e w' => e = .returned (.bool true) ∧ w = w' := by
  have d1 : decide (lo ≤ n) = true := decide_eq_true h1
  have d2 : decide (n ≤ hi) = true := decide_eq_true h2
  go_enter Tryd.func33, Tryd.ntmps33
  go_wp2
  go_ret
  exact ⟨rfl, rfl⟩

theorem within_no (n lo hi : Int) (w : World) (h : n < lo ∨ hi < n) :
    Calls Tryd.prog 33 #[.int .i64 n, .int .i64 lo, .int .i64 hi] w fun e w' => e = .returned (.bool false) ∧ w = w' := by
  by_cases h1 : lo ≤ n
  · have d1 : decide (lo ≤ n) = true := decide_eq_true h1
    have d2 : decide (n ≤ hi) = false := decide_eq_false (by omega)
    go_enter Tryd.func33, Tryd.ntmps33
    go_wp2
    go_ret
    exact ⟨rfl, rfl⟩
  · have d1 : decide (lo ≤ n) = false := decide_eq_false h1
    go_enter Tryd.func33, Tryd.ntmps33
    go_wp2
    go_ret
    exact ⟨rfl, rfl⟩


end Go.Proofs.YtdjljnpbnhampaaDoor

namespace Go.Proofs.YtdjljnpbnhampaaDoor
open Go.RowKit
attribute [local go_sem ↓] Go.wp_at_zero Go.wp_at_succ
set_option linter.unusedSimpArgs false
set_option linter.unusedVariables false
set_option maxRecDepth 100000

theorem withinM (x a b : Int) (w : World) : Calls Tryd.prog 33 #[.int .i64 x, .int .i64 a, .int .i64 b] w fun e w' => e = .returned (.bool (decide (a ≤ x) && decide (x ≤ b))) ∧ Below w.heap.size w w' := by
  by_cases h1 : a ≤ x
  · by_cases h2 : x ≤ b
    · rw [decide_eq_true h1, decide_eq_true h2]
      refine (within_yes x a b w h1 h2).mono ?_
      rintro e w' ⟨rfl, rfl⟩
      exact ⟨rfl, Below.refl _ _⟩
    · rw [decide_eq_false h2, Bool.and_false]
      refine (within_no x a b w (by omega)).mono ?_
      rintro e w' ⟨rfl, rfl⟩
      exact ⟨rfl, Below.refl _ _⟩
  · rw [decide_eq_false h1, Bool.false_and]
    refine (within_no x a b w (by omega)).mono ?_
    rintro e w' ⟨rfl, rfl⟩
    exact ⟨rfl, Below.refl _ _⟩

def okAt (f : Int) (k : Nat) (e : Int) : Bool := okE5 e && (decide (1 ≤ IntKind.i64.wrap (f + (k : Int))) && decide (IntKind.i64.wrap (f + (k : Int)) ≤ 4094))

theorem okAt_all (x : Mv) (hr : i64R x.first) (h0 : x.ev ≠ []) (h : ∀ (k : Nat) (hk : k < x.ev.length), okAt x.first k x.ev[k] = true) : okMv x = decide (x.ev.length ≤ 400) := by
  have hl := List.length_pos_iff.2 h0
  unfold okMv
  rw [if_neg (by omega)]
  by_cases hc : x.ev.length ≤ 400
  · rw [decide_eq_true hc, Bool.true_and]
    have e0 := h 0 hl
    have e1 := h (x.ev.length - 1) (by omega)
    simp only [okAt, Bool.and_eq_true, decide_eq_true_eq] at e0 e1
    have w0 : IntKind.i64.wrap (x.first + ((0 : Nat) : Int)) = x.first := by
      have := hr.1
      have := hr.2
      rw [IntKind.wrap_i64] <;> omega
    rw [w0] at e0
    have w1 : IntKind.i64.wrap (x.first + ((x.ev.length - 1 : Nat) : Int)) = x.first + ((x.ev.length - 1 : Nat) : Int) := by rw [IntKind.wrap_i64] <;> omega
    rw [w1] at e1
    rw [decide_eq_true e0.2.1, decide_eq_true (show x.first ≤ 4095 - (x.ev.length : Int) by omega), Bool.true_and, Bool.true_and, List.all_eq_true]
    intro e he
    obtain ⟨k, hk, rfl⟩ := List.getElem_of_mem he
    have := h k hk
    simp only [okAt, Bool.and_eq_true] at this
    exact this.1
  · rw [decide_eq_false hc, Bool.false_and]

theorem okAt_bad (x : Mv) (k : Nat) (hk : k < x.ev.length) (h : okAt x.first k x.ev[k] = false) : okMv x = false := by
  rw [Bool.eq_false_iff]
  intro hok
  have h0 : x.ev ≠ [] := by
    intro q
    rw [q] at hk
    simp at hk
  obtain ⟨h1, h2, h3, h4⟩ := okMv_cons hok h0
  have h5 := h4 _ (List.getElem_mem hk)
  have w1 : IntKind.i64.wrap (x.first + (k : Int)) = x.first + (k : Int) := by rw [IntKind.wrap_i64] <;> omega
  unfold okAt okE5 at h
  rw [w1, decide_eq_true h5.1, decide_eq_true h5.2, decide_eq_true (show 1 ≤ x.first + (k : Int) by omega), decide_eq_true (show x.first + (k : Int) ≤ 4094 by omega)] at h
  cases h

set_option maxHeartbeats 3200000 in
theorem attrRight_any (x : Mv) (a : Option Addr) (c : Nat) (w : World) (hr : i64R x.first) (h : IvIn w a x.ev) (hlen : x.ev.length ≤ maxLen) :
    Calls Tryd.prog 58 #[.agg (mvC ⟨x, a, c⟩)] w fun e w' => e = .returned (.bool (okMv x)) ∧ Below w.heap.size w w' := by
  have hAL := Lib.hid (okAt_all x hr)
  have hBD := Lib.hid (okAt_bad x)
  have hll : x.ev.length ≤ 9223372036854775807 := hlen
  have h00 : x.ev.length = 0 → okMv x = (x.all && (decide (0 ≤ x.first) && decide (x.first ≤ 4094))) := fun q => by unfold okMv; rw [if_pos q]
  obtain ⟨al, fi, ev⟩ := x
  simp only at *
  have hb0 : Below w.heap.size w (w.alloc (.cells #[.bool al, .int .i64 fi, .slice a ev.length c] 92)) := (Below.refl _ _).alloc (Nat.le_refl _) _
  have hB0 := Blk.new w 92 #[.bool al, .int .i64 fi, .slice a ev.length c]
  obtain ⟨OK, hOK⟩ : ∃ OK, okMv ⟨al, fi, ev⟩ = OK := ⟨_, rfl⟩
  rw [hOK] at hAL h00 hBD ⊢
  clear hOK hlen
  unfold mvC
  simp only
  by_cases h0 : ev.length = 0
  · have h000 := h00 h0
    clear h00 hAL hBD h
    rw [h0] at hb0 hB0 ⊢
    subst h000
    cases al with
    | false =>
      rw [Bool.false_and]
      clear hB0
      go_enter Tryd.func58, Tryd.ntmps58
      go_wp2
      go_ret
      exact ⟨rfl, hb0⟩
    | true =>
      rw [Bool.true_and]
      have HW := Lib.hid (fun W => withinM fi 0 4094 W)
      generalize (decide (0 ≤ fi) && decide (fi ≤ 4094)) = r at *
      clear hB0
      go_enter Tryd.func58, Tryd.ntmps58
      go_wp2_with fail
      refine (HW.out _).mono ?_
      rintro e w2 ⟨rfl, b2⟩
      go_wp2
      go_ret
      exact ⟨rfl, hb0.trans (b2.mono hb0.size)⟩
  · clear h00
    have d0 : ((ev.length : Int) == 0) = false := beq_eq_false_iff_ne.2 (by omega)
    have hIV := Lib.hid h
    clear h
    go_enter Tryd.func58, Tryd.ntmps58
    go_wp2_with fail
    go_loopw [19] (fun i wr => ∃ k : Nat, k ≤ ev.length ∧ i = .int .i64 k ∧ (∀ (j : Nat) (hj : j < ev.length), j < k → okAt fi j ev[j] = true) ∧ Blk wr w.heap.size 92 #[.bool al, .int .i64 fi, .slice a ev.length c] ∧ Below w.heap.size w wr) (fun i _ => ev.length - (intOf i).toNat)
    case atStart => exact ⟨0, by omega, rfl, fun j hj q => absurd q (Nat.not_lt_zero _), hB0, hb0⟩
    case round =>
      clear hB0 hb0
      obtain ⟨k, hk, rfl, hall, hB, hb⟩ := hrel
      by_cases hlt : k < ev.length
      · have hin : IvIn wr a ev := hIV.out.below hb
        obtain ⟨eb, eo, rfl, hel, het⟩ := hin.at hlt
        have q1 : (k : Int) < (ev.length : Int) := by omega
        have q2 : decide ((k : Int) < (ev.length : Int)) = true := decide_eq_true q1
        have q3 : (0 : Int) ≤ (k : Int) := by omega
        have q4 : IntKind.i64.wrap ((k : Int) + 1) = (k : Int) + 1 := by rw [IntKind.wrap_i64] <;> omega
        have HJ := het k hlt
        have hbad := Lib.hid (hBD.out k hlt)
        have hgood : Hid (okAt fi k ev[k] = true → ∀ (j : Nat) (hj : j < ev.length), j < k + 1 → okAt fi j ev[j] = true) := fun q j hj hjk => by
          by_cases hjk2 : j = k
          · subst hjk2
            exact q
          · exact hall j hj (by omega)
        have HW1 : Hid (∀ W, Calls Tryd.prog 33 #[.int .i64 ev[k], .int .i64 0, .int .i64 5] W fun e w' => e = .returned (.bool (okE5 ev[k])) ∧ Below W.heap.size W w') := fun W => withinM _ 0 5 W
        obtain ⟨vid, hvid⟩ : ∃ vid, IntKind.i64.wrap (fi + (k : Int)) = vid := ⟨_, rfl⟩
        have HW2 := Lib.hid (fun W => withinM vid 1 4094 W)
        unfold okAt at hbad hgood
        rw [hvid] at hbad hgood
        generalize (decide (1 ≤ vid) && decide (vid ≤ 4094)) = b2 at *
        have hgd : Hid ((okE5 ev[k] && b2) = true → ∀ (j : Nat) (hj : j < ev.length), j < k + 1 → okAt fi j ev[j] = true) := hgood
        have KX : wr.cell? ⟨eb, eo + k, none⟩ = some (.int .i64 ev[k]) := by
          have q := HJ 0 (.int .i64 ev[k]) rfl
          rw [Nat.mul_one, Nat.add_zero] at q
          exact q
        clear HJ het hin hall hgood hAL hBD hIV
        generalize okE5 ev[k] = b1 at *
        generalize ev[k] = x at *
        have c1 := hB.cv 1 (.int .i64 fi) rfl
        have hlB := hB.lt
        have hsz := hb.size
        cases b1 with
        | false =>
          go_wp2_with (go_at_call 33; refine (HW1.out _).mono ?_; rintro e w2 ⟨rfl, k2⟩)
          go_ret
          exact ⟨by rw [hbad.out (Bool.false_and _)]; rfl, hb.trans (k2.mono hsz)⟩
        | true =>
          cases b2 with
          | false =>
            go_wp2_with (first
              | (go_at_call 33; (have _ := k2); refine (HW2.out _).mono ?_; rintro e w3 ⟨rfl, k3⟩; have B3 := hb.trans ((k2.trans (k3.mono k2.size)).mono hsz))
              | (go_at_call 33; refine (HW1.out _).mono ?_; rintro e w2 ⟨rfl, k2⟩; have c1' := (hB.kept k2).cv 1 (.int .i64 fi) rfl))
            go_ret
            exact ⟨by rw [hbad.out rfl]; rfl, B3⟩
          | true =>
            go_wp2_with (first
              | (go_at_call 33; (have _ := k2); refine (HW2.out _).mono ?_; rintro e w3 ⟨rfl, k3⟩; have B3 := hb.trans ((k2.trans (k3.mono k2.size)).mono hsz))
              | (go_at_call 33; refine (HW1.out _).mono ?_; rintro e w2 ⟨rfl, k2⟩; have c1' := (hB.kept k2).cv 1 (.int .i64 fi) rfl))
            go_roundw
            case rel => exact ⟨k + 1, by omega, by go_num, hgd.out rfl, (hB.kept k2).kept k3, B3⟩
            case measure => simp [intOf]; omega
      · obtain rfl : k = ev.length := by omega
        have q2 : decide ((ev.length : Int) < (ev.length : Int)) = false := decide_eq_false (by omega)
        have hOK := hAL.out (by intro q; rw [q] at h0; simp at h0) (fun j hj => hall j hj hj)
        have hde : Hid (decide ((ev.length : Int) ≤ 400) = decide (ev.length ≤ 400)) := by
          show _ = _
          by_cases hq : ev.length ≤ 400
          · rw [decide_eq_true hq, decide_eq_true (by omega)]
          · rw [decide_eq_false hq, decide_eq_false (by omega)]
        have c2 := hB.cv 2 (.slice a ev.length c) rfl
        clear hAL hBD hall hIV
        subst hOK
        clear hB
        go_wp2
        go_ret
        exact ⟨by rw [← hde.out]; rfl, hb⟩

end Go.Proofs.YtdjljnpbnhampaaDoor

namespace Go.Proofs.YtdjljnpbnhampaaDoor
open Go.RowKit
attribute [local go_sem ↓] Go.wp_at_zero Go.wp_at_succ
set_option linter.unusedSimpArgs false
set_option linter.unusedVariables false
set_option maxRecDepth 100000

theorem run_load_oneV {P : Program} {w : World} {B : Nat} {T t : TypeId} {v : Value} (hB : Blk w B T #[v]) (hu : (match P.underlying t with | some (.struct _) | some (.array _ _) => true | some _ => false | none => true) = false) : (loadVar t ⟨B, 0, none⟩).run P w = .ok v w := by
  have hc := hB.cv 0 v rfl
  cases hd : P.underlying t with
  | none => simp [hd] at hu
  | some d => cases d <;> simp [hd] at hu <;> simp [loadVar, isAgg, run_underlying hd, hc]

theorem results_cells2V {P : Program} {fn : Func} {tmps : Array Value} {w : World} {a t b u A B : Nat} {T U : TypeId} {v : Value} {Y : Array Value} (h : fn.results = #[.cell a t, .cell b u])
    (ha : tmps.getD a undef = .pointer (some ⟨A, 0, none⟩)) (hb : tmps.getD b undef = .pointer (some ⟨B, 0, none⟩)) (hA : Blk w A T #[v]) (hB : Blk w B U Y)
    (h1 : (match P.underlying t with | some (.struct _) | some (.array _ _) => true | some _ => false | none => true) = false) (hu : (match P.underlying u with | some (.struct _) | some (.array _ _) => true | _ => false) = true) (hn : (P.info? u).map (·.size) = some Y.size) :
    (results fn tmps).run P w = .ok (.tuple #[v, .agg Y]) w := by
  have e1 := run_load_oneV (P := P) hA h1
  have e4 := run_load_blk (P := P) w B 0 U u Y Y hB hu hn (by rw [List.drop_zero]; exact List.take_of_length_le (by simp))
  rw [Array.getD_eq_getD_getElem?] at ha hb
  simp only [results, h]
  simp [ha, hb, asAddr, e1, e4]

theorem mvr_clo_ok (E A : Nat) (pl : Int) (w : World) (HE : Blk w E 37 (ftC 0 pl)) :
    CallsD Tryd.prog 56 #[.pointer (some ⟨E, 0, none⟩), .pointer (some ⟨A, 0, none⟩)] .returning w fun r u' w' => u' = .returning ∧ (r = .returned (.tuple #[]) ∧ Below w.heap.size w w') := by
  go_enter_d Tryd.func56, Tryd.ntmps56
  go_wp2_with (refine load_blk (k := 0) 37 (ftC 0 pl) (by rfl) rfl rfl HE (by kernel_rfl) (by kernel_rfl) rfl ?_)
  refine (is_any 0 pl _).mono ?_
  rintro e w2 ⟨rfl, b2⟩
  go_wp2
  go_end0
  exact ⟨rfl, b2⟩

theorem mvr_clo_bad (E A : Nat) (e pl : Int) (v : Value) (w : World) (he : e ≠ 0) (HE : Blk w E 37 (ftC e pl)) (HA : Blk w A 69 #[v]) (hn : A ≠ E) (D : Nat) (hD : D ≤ A ∧ D ≤ w.heap.size) :
    CallsD Tryd.prog 56 #[.pointer (some ⟨E, 0, none⟩), .pointer (some ⟨A, 0, none⟩)] .returning w fun r u' w' => u' = .returning ∧ (r = .returned (.tuple #[]) ∧ Blk w' A 69 #[.slice none 0 0] ∧ Blk w' E 37 (ftC e pl) ∧ Below D w w') := by
  have h1 : (e == 0) = false := by simp [he]
  obtain ⟨d1, d4⟩ := hD
  clear he
  go_enter_d Tryd.func56, Tryd.ntmps56
  go_wp2_with (refine load_blk (k := 0) 37 (ftC e pl) (by rfl) rfl rfl HE (by kernel_rfl) (by kernel_rfl) rfl ?_)
  refine (is_any e pl _).mono ?_
  rintro r w2 ⟨rfl, b2⟩
  have HA2 := HA.kept b2
  have HE2 := HE.kept b2
  have hs2 := b2.size
  have D2 : Below D w w2 := b2.mono d4
  go_wp2_with (refine store_blk (k := 0) 69 (.slice none 0 0) #[.slice none 0 0] (by rfl) rfl rfl rfl HA2 (by kernel_rfl) (by exact Nat.le_refl 1) (by rfl) rfl ?_; intro w3 HA3 b3 g3; have HE3 := HE2.grown g3 (by simp; omega); have D3 := D2.trans (b3.mono d1))
  go_end0
  exact ⟨rfl, HA3, HE3, D3⟩

/-- Behind what was thrown. -/
theorem mvr_door_bad {Q : Ending → World → Prop} {w0 w : World} {tmps : Array Value} {A E : Nat} {v : Value} {e0 pl0 e pl : Int} (hQ : ∀ w', Below w0.heap.size w0 w' → Q (.returned (.tuple #[.slice none 0 0, .agg (ftC e pl)])) w')
    (ht2 : tmps.getD 2 undef = .pointer (some ⟨A, 0, none⟩)) (ht3 : tmps.getD 3 undef = .pointer (some ⟨E, 0, none⟩)) (he : e ≠ 0)
    (HA : Blk w A 69 #[v]) (HE : Blk w E 37 (ftC e0 pl0)) (hn : A ≠ E) (hA : w0.heap.size ≤ A ∧ w0.heap.size ≤ E) (hb : Below w0.heap.size w0 w) :
    Leaves Tryd.prog Tryd.f11 tmps Q
      [{ target := .fn (.func 29) #[], args := #[.pointer (some ⟨E, 0, none⟩)] }, { target := .fn (.func 56) #[.pointer (some ⟨E, 0, none⟩), .pointer (some ⟨A, 0, none⟩)], args := #[] }] (.panicking (Thrown e pl)) w := by
  obtain ⟨d1, d4⟩ := hA
  refine leaves_cons (f := 29) (args := #[.pointer (some ⟨E, 0, none⟩)]) (by simp [Thrown]) (by simp [go_sem]) ?_
  refine (caught_thrown E e0 pl0 e pl [] w HE).mono ?_
  rintro r u' w2 ⟨rfl, rfl, HE2, g2⟩
  have HA2 := HA.grown g2 (by simp; omega)
  have b2 : Below w0.heap.size w0 w2 := hb.grown g2 hb.size (fun k e => by cases e; exact d4)
  refine leaves_cons (f := 56) (args := #[.pointer (some ⟨E, 0, none⟩), .pointer (some ⟨A, 0, none⟩)]) (by simp [settle]) (by simp [go_sem]) ?_
  refine (mvr_clo_bad E A e pl v w2 he HE2 HA2 hn w0.heap.size ⟨d1, b2.size⟩).mono ?_
  rintro r u' w3 ⟨rfl, rfl, HA3, HE3, b3⟩
  exact ⟨_, results_cells2V rfl ht2 ht3 HA3 HE3 (by kernel_rfl) (by kernel_rfl) (by kernel_rfl), hQ _ (b2.trans b3)⟩

/-- Where nothing was thrown. -/
theorem mvr_door_ok {Q : Ending → World → Prop} {w0 w : World} {tmps : Array Value} {A E : Nat} {v : Value} {pl : Int} (hQ : ∀ w', Below w.heap.size w w' → Below w0.heap.size w0 w' → Q (.returned (.tuple #[v, .agg (ftC 0 pl)])) w')
    (ht2 : tmps.getD 2 undef = .pointer (some ⟨A, 0, none⟩)) (ht3 : tmps.getD 3 undef = .pointer (some ⟨E, 0, none⟩))
    (HA : Blk w A 69 #[v]) (HE : Blk w E 37 (ftC 0 pl)) (hb : Below w0.heap.size w0 w) :
    Leaves Tryd.prog Tryd.f11 tmps Q
      [{ target := .fn (.func 29) #[], args := #[.pointer (some ⟨E, 0, none⟩)] }, { target := .fn (.func 56) #[.pointer (some ⟨E, 0, none⟩), .pointer (some ⟨A, 0, none⟩)], args := #[] }] .returning w := by
  refine leaves_cons (f := 29) (args := #[.pointer (some ⟨E, 0, none⟩)]) (by simp) (by simp [go_sem]) ?_
  refine (caught_idle ⟨E, 0, none⟩ w).mono ?_
  rintro r u' w2 ⟨rfl, rfl, rfl⟩
  refine leaves_cons (f := 56) (args := #[.pointer (some ⟨E, 0, none⟩), .pointer (some ⟨A, 0, none⟩)]) (by simp [settle]) (by simp [go_sem]) ?_
  refine (mvr_clo_ok E A pl w2 HE).mono ?_
  rintro r u' w3 ⟨rfl, rfl, b3⟩
  exact ⟨_, results_cells2V rfl ht2 ht3 (HA.kept b3) (HE.kept b3) (by kernel_rfl) (by kernel_rfl) (by kernel_rfl), hQ _ b3 (hb.trans (b3.mono hb.size))⟩

/-- All that was there is as it was, but for two blocks. -/
structure Kx (c Y : Nat) (w w' : World) : Prop where
  os : w'.os = w.os
  tape : w'.tape = w.tape
  output : w'.output = w.output
  size : w.heap.size ≤ w'.heap.size
  block : ∀ k, k < w.heap.size → k ≠ c → k ≠ Y → w'.heap[k]? = w.heap[k]?

theorem Kx.of {c Y : Nat} {w w' : World} (h : Below w.heap.size w w') : Kx c Y w w' := ⟨h.os, h.tape, h.output, h.size, fun k hk _ _ => h.block k hk⟩

theorem Kx.refl (c Y : Nat) (w : World) : Kx c Y w w := ⟨rfl, rfl, rfl, Nat.le_refl _, fun _ _ _ _ => rfl⟩

theorem Kx.then_ {c Y D : Nat} {w w1 w2 : World} (h : Kx c Y w w1) (hb : Below D w1 w2) (hD : w.heap.size ≤ D) : Kx c Y w w2 :=
  ⟨hb.os.trans h.os, hb.tape.trans h.tape, hb.output.trans h.output, Nat.le_trans h.size hb.size, fun k hk h1 h2 => (hb.block k (Nat.lt_of_lt_of_le hk hD)).trans (h.block k hk h1 h2)⟩

theorem Kx.grown {c Y B : Nat} {w w1 w2 : World} (h : Kx c Y w w1) (hg : w1.grownBy w2 (some B)) (hB : B = c ∨ B = Y) : Kx c Y w w2 :=
  ⟨hg.os.trans h.os, hg.tape.trans h.tape, hg.output.trans h.output, Nat.le_trans h.size hg.size, fun k hk h1 h2 => (hg.block k (Nat.lt_of_lt_of_le hk h.size) (by intro e; cases e; exact hB.elim h1 h2)).trans (h.block k hk h1 h2)⟩

theorem Kx.blk {c Y B : Nat} {w w' : World} {T : TypeId} {C : Array Value} (h : Kx c Y w w') (hB : Blk w B T C) (h1 : B ≠ c) (h2 : B ≠ Y) : Blk w' B T C := (h.block B hB.lt h1 h2).trans hB

theorem Kx.below {c Y D : Nat} {w0 w w' : World} (h : Kx c Y w w') (hb : Below D w0 w) (hD : D ≤ w.heap.size) (h1 : D ≤ c) (h2 : D ≤ Y) : Below D w0 w' :=
  hb.trans ⟨h.os, h.tape, h.output, h.size, fun k hk => h.block k (Nat.lt_of_lt_of_le hk hD) (by omega) (by omega)⟩

theorem Kx.iv {c Y B : Nat} {w w' : World} {v : Value} {l : List Int} {T : TypeId} {C : Array Value} (h : Kx c Y w w') (hO : OwnIv w B v l) (hC : Blk w c T C) (hT : T ≠ 3) (hY : w.heap.size ≤ Y) : OwnIv w' B v l := by
  have hb := hO.blk
  rcases hO with hO | ⟨h1, g, cap, rfl, h2, h3⟩
  · exact Or.inl hO
  · refine Or.inr ⟨h1, g, cap, rfl, h2, ?_⟩
    rcases h3 with ⟨h3, _⟩ | ⟨g', cap', cur, e1, e2, e3, e4⟩
    · cases h3
    · refine Or.inr ⟨g', cap', cur, e1, e2, ?_, e4⟩
      have hg : g' < w.heap.size := (Array.getElem?_eq_some_iff.1 e3).1
      rw [h.block g' hg ?_ (by omega)]
      · exact e3
      · rintro rfl
        exact blk_ne hC (show Blk w g' 3 cur from e3) hT rfl

theorem Kx.mh {c Y B : Nat} {w w' : World} {v : Value} {l : List MvH} {T : TypeId} {C : Array Value} (h : Kx c Y w w') (hO : OwnMh w B v l) (hC : Blk w c T C) (hT : T ≠ 92) (hY : w.heap.size ≤ Y) : OwnMh w' B v l := by
  rcases hO with hO | ⟨h1, g, cap, rfl, h2, h3⟩
  · exact Or.inl hO
  · refine Or.inr ⟨h1, g, cap, rfl, h2, ?_⟩
    rcases h3 with ⟨h3, _⟩ | ⟨g', cap', cur, e1, e2, e3, e4⟩
    · cases h3
    · refine Or.inr ⟨g', cap', cur, e1, e2, ?_, e4⟩
      have hg : g' < w.heap.size := (Array.getElem?_eq_some_iff.1 e3).1
      rw [h.block g' hg ?_ (by omega)]
      · exact e3
      · rintro rfl
        exact blk_ne hC (show Blk w g' 92 cur from e3) hT rfl

theorem Kx.asb {c Y B : Nat} {w w' : World} {v : Value} {l : List MvH} {C : Array Value} (h : Kx c Y w w') (hO : OwnAs w B v l) (hC : Blk w c 101 C) (hY : w.heap.size ≤ Y) : OwnAs w' B v l :=
  ⟨h.mh hO.row hC (by decide) hY, fun x hx => h.iv (hO.ev x hx) hC (by decide) hY⟩

/-- One comes behind: the row lies where it lay, or anew. -/
theorem appendF_iv {ops : Array Oper} {rest : List Oper} {o : Oper} {a : Act} {w : World} {Q : Exit → Act → World → Prop} {s x : Operand} {base G : Nat} {v : Value} {l : List Int} (y : Int) (hg : o.guard = none)
    (ho : o.op = .call { callee := .builtin .append, args := #[s, x], argTypes := #[90, 90] }) (hs : a.eval s = v) (hx : a.eval x = .slice (some ⟨G, 0, none⟩) 1 1)
    (hO : OwnIv w base v l) (hG : Blk w G 3 (ivC y)) (hlen : l.length ≤ 100000) (hbase : base ≤ w.heap.size)
    (h : ∀ g cap n w', OwnIv w' base (.slice (some ⟨g, 0, none⟩) n cap) (l ++ [y]) → n = (l ++ [y]).length → Below base w w' → w.grownBy w' v.ownBlock → (v.ownBlock = some g ∨ g = w.heap.size) → wpList Tryd.prog ops Q rest (a.put o.dst (.slice (some ⟨g, 0, none⟩) n cap)) w') : wpList Tryd.prog ops Q (o :: rest) a w := by
  obtain ⟨i0, hi, hz0, hz1, hz2⟩ := info_parts Tryd.ivParts
  have hnews : ∀ (j : Nat) u, (ivC y).toList[j]? = some u → w.cell? ((⟨G, 0, none⟩ : Addr).add j) = some u := fun j u hu => by
    rw [Addr.add_lit, Nat.zero_add]
    exact hG.cv j u (by simpa using hu)
  rcases hO with ⟨rfl, rfl⟩ | ⟨hne, g, cap, rfl, hown⟩
  · refine wpList_append_lies w hg s x _ ho base 3 i0 (.int .i64 0) 1 8 Tryd.underlying90 hi hz0 hz1 hz2 rfl (by decide) (.slice none 0 0) 0 [] hs (World.ownsRow_nil w base _ 1) ⟨G, 0, none⟩ 1 1 (ivC y).toList hx rfl hnews (ivC_cells y) (by decide) (by unfold maxLen; omega) (by decide) hbase _ rfl ?_
    intro g cap w' hown hgrow hat hlt
    refine h _ _ _ _ (Or.inr ⟨by simp, g, cap, rfl, ?_⟩) rfl ((Below.refl base w).grown hgrow hbase (fun q hq => by simp [Value.ownBlock] at hq)) hgrow hat
    rw [List.nil_append, ivR_one]
    exact hown
  · have hown' := hown
    refine wpList_append_lies w hg s x _ ho base 3 i0 (.int .i64 0) 1 8 Tryd.underlying90 hi hz0 hz1 hz2 rfl (by decide) (.slice (some ⟨g, 0, none⟩) l.length cap) l.length (ivR l) hs hown ⟨G, 0, none⟩ 1 1 (ivC y).toList hx rfl hnews (ivC_cells y) (by decide) (by unfold maxLen; omega) (by omega) hbase _ rfl ?_
    intro g' cap' w' hown2 hgrow hat hlt
    obtain ⟨cur, hB, hge⟩ : ∃ cur, Blk w g 3 cur ∧ base ≤ g := by
      rcases hown'.2 with ⟨h1, -⟩ | ⟨g1, cap1, cur1, e1, e2, e3, -⟩
      · cases h1
      · cases e1
        exact ⟨cur1, e3, e2⟩
    refine h _ _ _ _ (Or.inr ⟨by simp, g', cap', by rw [List.length_append]; rfl, ?_⟩) (by rw [List.length_append]; rfl) ((Below.refl base w).grown hgrow hbase (fun q hq => by cases hq; exact hge)) hgrow hat
    rw [ivR_snoc, List.length_append]
    exact hown2

end Go.Proofs.YtdjljnpbnhampaaDoor

namespace Go.Proofs.YtdjljnpbnhampaaDoor
open Go.RowKit
attribute [local go_sem ↓] Go.wp_at_zero Go.wp_at_succ
set_option linter.unusedSimpArgs false
set_option linter.unusedVariables false
set_option maxRecDepth 100000

theorem by1_at (S : List UInt8) (p : Nat) (h : p < S.length) : (S.drop p).take 1 = [S[p]] ∧ by1 S p = S[p].toNat := by
  have e : (S.drop p).take 1 = [S[p]] := by rw [List.drop_eq_getElem_cons h]; rfl
  refine ⟨e, ?_⟩
  unfold by1
  rw [e]
  simp [beN]

theorem rf_miss {S : List UInt8} {p : Nat} (h : S.length < p + 2) : rdAt S p = .bad 7 p := by unfold rdAt; rw [if_pos h]

theorem rf_fin {S : List UInt8} {p : Nat} (h : ¬ S.length < p + 2) (h1 : hdN S p = 0) : rdAt S p = .fin (p + 2) := by unfold rdAt; rw [if_neg h, if_pos h1]

theorem rf_range {S : List UInt8} {p : Nat} (h : ¬ S.length < p + 2) (h1 : ¬ hdN S p = 0) (h2 : 16384 ≤ hdN S p ∨ 400 < hdN S p % 8192) : rdAt S p = .bad 2 p := by unfold rdAt; rw [if_neg h, if_neg h1, if_pos h2]

theorem rf_miss2 {S : List UInt8} {p : Nat} (h : ¬ S.length < p + 2) (h1 : ¬ hdN S p = 0) (h2 : ¬ (16384 ≤ hdN S p ∨ 400 < hdN S p % 8192)) (h3 : S.length < p + 4) : rdAt S p = .bad 7 (p + 2) := by unfold rdAt; rw [if_neg h, if_neg h1, if_neg h2, if_pos h3]

theorem rf_evs {S : List UInt8} {p : Nat} {e : Int} {q : Nat} (h : ¬ S.length < p + 2) (h1 : ¬ hdN S p = 0) (h2 : ¬ (16384 ≤ hdN S p ∨ 400 < hdN S p % 8192)) (h3 : ¬ S.length < p + 4) (hE : rdEv S (hdN S p % 8192) (hdN S p % 8192) (p + 4) [] = .bad e q) : rdAt S p = .bad e q := by
  unfold rdAt
  rw [if_neg h, if_neg h1, if_neg h2, if_neg h3, hE]

theorem rf_got {S : List UInt8} {p : Nat} {l : List Int} {q : Nat} (h : ¬ S.length < p + 2) (h1 : ¬ hdN S p = 0) (h2 : ¬ (16384 ≤ hdN S p ∨ 400 < hdN S p % 8192)) (h3 : ¬ S.length < p + 4) (hE : rdEv S (hdN S p % 8192) (hdN S p % 8192) (p + 4) [] = .ok l q) (hk : okMv ⟨decide (8192 ≤ hdN S p), (hdN S (p + 2) : Nat), l⟩ = true) : rdAt S p = .got ⟨decide (8192 ≤ hdN S p), (hdN S (p + 2) : Nat), l⟩ q := by
  unfold rdAt
  rw [if_neg h, if_neg h1, if_neg h2, if_neg h3, hE]
  simp only
  rw [if_pos hk]

theorem rf_not {S : List UInt8} {p : Nat} {l : List Int} {q : Nat} (h : ¬ S.length < p + 2) (h1 : ¬ hdN S p = 0) (h2 : ¬ (16384 ≤ hdN S p ∨ 400 < hdN S p % 8192)) (h3 : ¬ S.length < p + 4) (hE : rdEv S (hdN S p % 8192) (hdN S p % 8192) (p + 4) [] = .ok l q) (hk : okMv ⟨decide (8192 ≤ hdN S p), (hdN S (p + 2) : Nat), l⟩ = false) : rdAt S p = .bad 2 p := by
  unfold rdAt
  rw [if_neg h, if_neg h1, if_neg h2, if_neg h3, hE]
  simp only
  rw [if_neg (by rw [hk]; decide)]

theorem trip_rg (x t : Nat) : 0 ≤ (trip x).getD t 0 := by
  unfold trip
  rcases t with _ | _ | _ | t <;> simp <;> omega

theorem trip_take (x q k : Nat) (hq : q < 3) (hk : q < k) : (trip x).take (min (q + 1) k) = (trip x).take (min q k) ++ [(trip x).getD q 0] := by
  rw [Nat.min_eq_left (by omega), Nat.min_eq_left (by omega)]
  have hl : q < (trip x).length := hq
  rw [List.take_add_one, List.getElem?_eq_getElem hl, List.getD_eq_getElem?_getD, List.getElem?_eq_getElem hl]
  rfl

theorem trip_keep (x q k : Nat) (hk : k ≤ q) : (trip x).take (min (q + 1) k) = (trip x).take (min q k) := by
  rw [Nat.min_eq_right (by omega), Nat.min_eq_right (by omega)]

theorem trip_len2 (x q k : Nat) (hq : q ≤ 3) : ((trip x).take (min q k)).length = min q k := by
  rw [List.length_take]
  show min (min q k) 3 = min q k
  omega

theorem trip_all (x k : Nat) : ((trip x).drop k).all (fun x => x == 0) = true ↔ ∀ t, k ≤ t → t < 3 → (trip x).getD t 0 = 0 := by
  rw [List.all_eq_true]
  constructor
  · intro h t h1 h2
    have hl : t < (trip x).length := h2
    have hm : (trip x)[t] ∈ (trip x).drop k := by
      rw [List.mem_drop_iff_getElem]
      exact ⟨t - k, by show t - k + k < 3; omega, by congr 1; omega⟩
    have q := h _ hm
    rw [List.getD_eq_getElem?_getD, List.getElem?_eq_getElem hl]
    simpa using q
  · intro h y hy
    rw [List.mem_drop_iff_getElem] at hy
    obtain ⟨j, hj, rfl⟩ := hy
    have hj3 : j + k < 3 := hj
    have hl : k + j < (trip x).length := by show k + j < 3; omega
    have q := h (k + j) (by omega) hl
    rw [List.getD_eq_getElem?_getD, List.getElem?_eq_getElem hl] at q
    simpa using q

/-- What holds ahead of a message (none), or of an attribute of the one that begins at m; reading is at lo or behind. -/
def RmInv (w : World) (s : ByteArray) (R : MvR) (Bs c : Nat) (m : Option Nat) (lo : Nat) (wr : World) : Prop := ∃ (p f : Nat) (hs : List MvH) (a1 : Option Addr) (c1 : Nat),
  Cur wr c s p 0 ∧ p ≤ s.size ∧ lo ≤ p ∧ rdMv s.data.toList f m p (xs hs) = R ∧ s.size + 1 - p ≤ f ∧ hs.length ≤ 40 ∧ OwnAs wr Bs (.slice a1 hs.length c1) hs ∧ Blk wr w.heap.size 69 #[.slice a1 hs.length c1] ∧ Blk wr (w.heap.size + 1) 37 (ftC 0 (-1)) ∧ Below w.heap.size w wr ∧ Bs ≤ wr.heap.size

/-- What holds ahead of a byte of events. -/
def ReInv (s : ByteArray) (R3 : EvR) (c Y N lo : Nat) (al : Bool) (first : Int) (wy wx : World) : Prop := ∃ (p f : Nat) (l : List Int) (a3 : Option Addr) (c3 : Nat),
  Cur wx c s p 0 ∧ p ≤ s.size ∧ lo ≤ p ∧ rdEv s.data.toList N f p l = R3 ∧ N ≤ l.length + f ∧ l.length ≤ N ∧ OwnIv wx (Y + 1) (.slice a3 l.length c3) l ∧ Blk wx Y 92 #[.bool al, .int .i64 first, .slice a3 l.length c3] ∧ Kx c Y wy wx ∧ Y + 1 ≤ wx.heap.size

/-- What holds ahead of one of three events. -/
def RtInv (s : ByteArray) (c Y T x k p : Nat) (l : List Int) (al : Bool) (first : Int) (i : Value) (wy wx : World) : Prop := ∃ (q : Nat) (a3 : Option Addr) (c3 n : Nat) (E : List Int),
  q ≤ 3 ∧ i = .int .i64 q ∧ E = l ++ (trip x).take (min q k) ∧ n = E.length ∧ (∀ t, k ≤ t → t < q → (trip x).getD t 0 = 0) ∧ Cur wx c s p 0 ∧ OwnIv wx (Y + 1) (.slice a3 n c3) E ∧ Blk wx Y 92 #[.bool al, .int .i64 first, .slice a3 n c3] ∧
  Blk wx T 3 #[.int .i64 ((x / 36 : Nat) : Int), .int .i64 ((x / 6 % 6 : Nat) : Int), .int .i64 ((x % 6 : Nat) : Int)] ∧ (Value.slice a3 n c3).ownBlock ≠ some T ∧ Kx c Y wy wx ∧ Y + 1 ≤ wx.heap.size

set_option maxHeartbeats 25600000 in
theorem refMvRead_any (s : ByteArray) (w : World) (hs : s.size ≤ 100000) (R : MvR) (hR : rdMvs s.data.toList = R) (Q : Ending → World → Prop)
    (hQ0 : ∀ a c l w', xs l = R.recs → MvsIn w' a l → Below w.heap.size w w' → Q (.returned (.tuple #[.slice a l.length c, .agg (ftC R.er R.pl)])) w') :
    Calls Tryd.prog 11 #[.string s] w Q := by
  have hBad : Hid (∀ (e : Int) (x : Nat) w', R = .bad e x → Below w.heap.size w w' → Q (.returned (.tuple #[.slice none 0 0, .agg (ftC e x)])) w') := fun e x w' h hb => by
    subst h
    exact hQ0 none 0 [] w' rfl ⟨Or.inl rfl, by simp⟩ hb
  have hQ := Lib.hid hQ0
  have hls : s.data.toList.length = s.size := by simp
  have hmf : ∀ (fn : Fn) (first cap : Array Value) (w : World), (Instr.makeFunc fn first cap).run Tryd.prog w = .ok (.func fn first cap) w := fun _ _ _ _ => rfl
  clear hQ0
  obtain ⟨W1, hW1⟩ : ∃ W1, W1 = w.alloc (.cells #[.slice none 0 0] 69) := ⟨_, rfl⟩
  obtain ⟨W4, hW4⟩ : ∃ W4, W4 = W1.alloc (.cells (ftC 0 0) 37) := ⟨_, rfl⟩
  have z1 : W1.heap.size = w.heap.size + 1 := by rw [hW1]; simp
  have z4 : W4.heap.size = w.heap.size + 2 := by rw [hW4]; simp [z1]
  have HA0 : Blk W4 w.heap.size 69 #[.slice none 0 0] := by
    rw [hW4, hW1]
    exact (Blk.new w _ _).alloc _
  have HE0 : Blk W4 (w.heap.size + 1) 37 (ftC 0 0) := by
    have q := Blk.new W1 37 (ftC 0 0)
    rw [z1] at q
    rw [hW4]
    exact q
  have B0 : Below w.heap.size w W4 := by
    rw [hW4]
    refine Below.alloc ?_ (by omega) _
    rw [hW1]
    exact (Below.refl _ _).alloc (Nat.le_refl _) _
  go_enter_defers Tryd.func11, Tryd.ntmps11
  go_upto_region 1 with (refine alloc_blk 37 (ftC 0 0) (by rfl) rfl Tryd.ftZero ?_)
  rw [← hW1, ← hW4]
  (try rw [z1])
  clear hW1 hW4 z1
  go_wp2_with fail
  refine (good_any _).mono ?_
  rintro e w2 ⟨rfl, b2⟩
  have HA2 := HA0.kept b2
  have HE2 := HE0.kept b2
  have B2 := B0.trans (b2.mono B0.size)
  clear HA0 HE0 B0 b2 z4
  go_upto_region 4 with (first | (refine store_blk (k := 0) 37 (.agg (ftC 0 (-1))) (ftC 0 (-1)) (by rfl) rfl rfl rfl HE2 (by kernel_rfl) (by exact Nat.le_refl 2) rfl rfl (fun w3 HE3 b3 g3 => ?_)))
  have HA3 := HA2.grown g3 (by simp)
  have B3 : Below w.heap.size w w3 := B2.trans (b3.mono (by omega))
  clear HA2 HE2 B2 b3 g3
  have HA4 := HA3.alloc (.cells #[.string s, .int .i64 (0 : Nat), .int .i64 (0 : Nat)] 101)
  have HE4 := HE3.alloc (.cells #[.string s, .int .i64 (0 : Nat), .int .i64 (0 : Nat)] 101)
  have HU4 : Cur (w3.alloc (.cells #[.string s, .int .i64 (0 : Nat), .int .i64 (0 : Nat)] 101)) w3.heap.size s 0 0 := Blk.new w3 101 _
  have B4 := B3.alloc B3.size (.cells #[.string s, .int .i64 (0 : Nat), .int .i64 (0 : Nat)] 101)
  have hc4 : w.heap.size + 1 < w3.heap.size := HE3.lt
  clear HA3 HE3 B3
  go_upto_region 5 with (refine build_blk (t := 101) #[.string s, .int .i64 (0 : Nat), .int .i64 (0 : Nat)] (by rfl) rfl (by kernel_rfl) ?_)
  generalize w3.alloc (.cells #[.string s, .int .i64 0, .int .i64 0] 101) = w4 at *
  generalize w3.heap.size = c at *
  have hcl := HU4.lt
  go_wp2_with fail
  have ht1 : (⟨#[0]⟩ : ByteArray).size = 1 := rfl
  by_cases h0 : s.size < 1
  · have hRb : R = .bad 7 0 := by rw [← hR]; unfold rdMvs; rw [if_pos (by omega)]
    refine (want_bad HU4 (t := ⟨#[0]⟩) (by omega) (by omega) (by decide) (by omega)).mono ?_
    rintro e wb ⟨rfl, bb⟩
    have HAb := HA4.kept bb
    have HEb := HE4.kept bb
    have Bb := B4.trans (bb.mono B4.size)
    go_wp2
    exact mvr_door_bad (fun w' B' => by have q := hBad.out 7 0 w' hRb B'; simpa using q) rfl rfl (by decide) HAb HEb (by omega) (by omega) Bb
  obtain ⟨hb1, hb2⟩ := by1_at s.data.toList 0 (by omega)
  by_cases h1 : by1 s.data.toList 0 ≠ 0
  · have hRb : R = .bad 3 0 := by rw [← hR]; unfold rdMvs; rw [if_neg (by omega), if_pos h1]
    have hne : (s.data.toList.drop 0).take (⟨#[0]⟩ : ByteArray).size ≠ (⟨#[0]⟩ : ByteArray).data.toList := by
      intro e
      have e : (s.data.toList.drop 0).take 1 = [0] := e
      rw [hb1] at e
      have e2 : s.data.toList[0] = 0 := by simpa using e
      rw [hb2, e2] at h1
      exact h1 rfl
    refine (want_form HU4 (t := ⟨#[0]⟩) (by omega) hne (by omega)).mono ?_
    rintro e wb ⟨rfl, gb⟩
    have HAb := HA4.grown gb (by simp; omega)
    have HEb := HE4.grown gb (by simp; omega)
    have Bb : Below w.heap.size w wb := B4.grown gb B4.size (fun k e => by cases e; omega)
    go_wp2
    exact mvr_door_bad (fun w' B' => by have q := hBad.out 3 0 w' hRb B'; simpa using q) rfl rfl (by decide) HAb HEb (by omega) (by omega) Bb
  have h1 : by1 s.data.toList 0 = 0 := by omega
  have hRg : rdMv s.data.toList (s.size + 1) none 1 [] = R := by rw [← hR]; unfold rdMvs; rw [if_neg (by omega), if_neg (by omega), hls]
  have heq : (s.data.toList.drop 0).take (⟨#[0]⟩ : ByteArray).size = (⟨#[0]⟩ : ByteArray).data.toList := by
    show (s.data.toList.drop 0).take 1 = [0]
    rw [hb1]
    rw [hb2] at h1
    congr 1
    exact UInt8.toNat_inj.1 (by simpa using h1)
  refine (want_ok HU4 (t := ⟨#[0]⟩) (by omega) heq (by omega)).mono ?_
  rintro e w5 ⟨rfl, HU5, g5⟩
  have HA5 := HA4.grown g5 (by simp; omega)
  have HE5 := HE4.grown g5 (by simp; omega)
  have B5 : Below w.heap.size w w5 := B4.grown g5 B4.size (fun k e => by cases e; omega)
  have HU5 : Cur w5 c s 1 0 := HU5
  have hcl5 := HU5.lt
  clear HA4 HE4 HU4 B4 hcl g5 hR h1 hb1 hb2 heq ht1
  obtain ⟨Bs, hBs⟩ : ∃ Bs, Bs = w5.heap.size := ⟨_, rfl⟩
  have hcB : c < Bs := by omega
  go_wp2_with fail
  go_loopw [5] (fun _ wr => RmInv w s R Bs c none 1 wr) (fun _ wr => s.size + 1 - curAt wr c)
  case atStart => exact ⟨1, s.size + 1, [], none, 0, HU5, by omega, Nat.le_refl _, hRg, by omega, by simp, OwnAs.nil _ _, HA5, HE5, B5, by omega⟩
  case round =>
    clear HA5 HE5 HU5 B5 hcl5 hBs hRg
    obtain ⟨p, f, hh, a1, c1, HU, hp, hlo, hRp, hf, h40, HO, HA, HE, Bk, hsz⟩ := hrel
    obtain ⟨f, rfl⟩ : ∃ f', f = f' + 1 := ⟨f - 1, by omega⟩
    have cu := HU.cv 1 (.int .i64 (p : Nat)) rfl
    have hmu := Lib.hid HU.at
    have hwr := Bk.size
    generalize wr = wo at *
    go_wp2_with fail
    clear cu
    by_cases g0 : s.data.toList.length < p + 1
    · have hRb := (mv_miss g0).symm.trans hRp
      refine (cnum_bad HU 1 (by omega) hp (by decide) (by omega)).mono ?_
      rintro e wb ⟨rfl, bb⟩
      have HAb := HA.kept bb
      have HEb := HE.kept bb
      have Bb := Bk.trans (bb.mono hwr)
      go_wp2
      exact mvr_door_bad (fun w' B' => by have q := hBad.out 7 p w' hRb.symm B'; simpa using q) rfl rfl (by decide) HAb HEb (by omega) (by omega) Bb
    refine (cnum_ok HU 1 (by decide) (by omega) (by omega)).mono ?_
    rintro e w6 ⟨rfl, HU6, g6⟩
    rw [show beN ((s.data.toList.drop p).take 1) = by1 s.data.toList p from rfl]
    have HA6 := HA.grown g6 (by simp; omega)
    have HE6 := HE.grown g6 (by simp; omega)
    have HO6 := HO.grown g6 hcB
    have B6 : Below w.heap.size w w6 := Bk.grown g6 hwr (fun k e => by cases e; omega)
    have hs6 : Bs ≤ w6.heap.size := Nat.le_trans hsz g6.size
    have hw6 := B6.size
    clear HA HE HU HO Bk g6 hsz hwr
    go_wp2_with fail
    by_cases g1 : s.data.toList.length < p + 2
    · have hRb := (mv_miss2 g0 g1).symm.trans hRp
      refine (cnum_bad HU6 1 (by omega) (by omega) (by decide) (by omega)).mono ?_
      rintro e wb ⟨rfl, bb⟩
      have HAb := HA6.kept bb
      have HEb := HE6.kept bb
      have Bb := B6.trans (bb.mono hw6)
      go_wp2
      exact mvr_door_bad (fun w' B' => by have q := hBad.out 7 (p + 1) w' hRb.symm B'; simpa using q) rfl rfl (by decide) HAb HEb (by omega) (by omega) Bb
    refine (cnum_ok HU6 1 (by decide) (by omega) (by omega)).mono ?_
    rintro e w7 ⟨rfl, HU7, g7⟩
    rw [show beN ((s.data.toList.drop (p + 1)).take 1) = by1 s.data.toList (p + 1) from rfl]
    have HA7 := HA6.grown g7 (by simp; omega)
    have HE7 := HE6.grown g7 (by simp; omega)
    have HO7 := HO6.grown g7 hcB
    have B7 : Below w.heap.size w w7 := B6.grown g7 hw6 (fun k e => by cases e; omega)
    have hs7 : Bs ≤ w7.heap.size := Nat.le_trans hs6 g7.size
    have hw7 := B7.size
    have HU7 : Cur w7 c s (p + 2) 0 := HU7
    clear HA6 HE6 HU6 HO6 B6 g7 hs6 hw6
    have HEN := Lib.hid (fun (h2 : by1 s.data.toList p = 0) (h3 : by1 s.data.toList (p + 1) = 0) (h4 : p + 2 + lead (s.data.toList.drop (p + 2)) = s.data.toList.length) => (mv_end (f := f) (l := xs hh) g1 h2 h3 h4).symm.trans hRp)
    have HSP := Lib.hid (fun (h2 : by1 s.data.toList p = 0) (h3 : by1 s.data.toList (p + 1) = 0) (h4 : ¬ p + 2 + lead (s.data.toList.drop (p + 2)) = s.data.toList.length) => (mv_spoilt (f := f) (l := xs hh) g1 h2 h3 h4).symm.trans hRp)
    have HNA := Lib.hid (fun (h2 : ¬ (by1 s.data.toList p = 0 ∧ by1 s.data.toList (p + 1) = 0)) (h3 : by1 s.data.toList p ≠ 1) => (mv_name (f := f) (l := xs hh) g1 h2 h3).symm.trans hRp)
    have HFO := Lib.hid (fun (h3 : by1 s.data.toList p = 1) (h4 : by1 s.data.toList (p + 1) ≠ 2) => (mv_form (f := f) (l := xs hh) g1 h3 h4).symm.trans hRp)
    have HHE := Lib.hid (fun (h3 : by1 s.data.toList p = 1) (h4 : by1 s.data.toList (p + 1) = 2) => (mv_head (f := f) (l := xs hh) g1 h3 h4).symm.trans hRp)
    clear hRp
    generalize by1 s.data.toList p = K at *
    generalize by1 s.data.toList (p + 1) = Z at *
    by_cases e0 : K = 0 ∧ Z = 0
    · obtain ⟨rfl, rfl⟩ := e0
      replace HEN := Lib.hid (fun h4 => HEN.out rfl rfl h4)
      replace HSP := Lib.hid (fun h4 => HSP.out rfl rfl h4)
      clear HNA HFO HHE
      have q0 : (((0 : Nat) : Int) == 0) = true := rfl
      go_wp2_with fail
      rcases lead_ways s (p + 2) (by omega) with ⟨hz, hle⟩ | ⟨m, hm, hpm, hz, hnz, hle⟩
      · have hRo := HEN.out hle
        subst hRo
        clear HEN HSP
        refine (noughts_ok HU7 (by omega) hz (by omega)).mono ?_
        rintro e w8 ⟨rfl, g8⟩
        have HA8 := HA7.grown g8 (by simp; omega)
        have HE8 := HE7.grown g8 (by simp; omega)
        have HO8 := HO7.grown g8 hcB
        have B8 : Below w.heap.size w w8 := B7.grown g8 hw7 (fun k e => by cases e; omega)
        clear HA7 HE7 HO7 B7 HU7 hle hz g8
        go_upto_region 10 with (fail)
        refine wp_region_noPanic ?_
        refine wp_region_held_drew (S := (fun w' => Blk w' w.heap.size 69 #[.slice a1 hh.length c1] ∧ Blk w' (w.heap.size + 1) 37 (ftC 0 (-1)))) (by kernel_rfl) ?_ (fun hHeld => ?_)
        · exact ⟨HA8.drew, HE8.drew⟩
        refine wpAnyH_take (i := 0) (v := .slice a1 hh.length c1) rfl (by kernel_rfl) (by kernel_rfl) (by kernel_rfl) (fun _ _ _ h => h) (Or.inl ⟨by rfl, fun w hSw => by have c := hSw.1.cv 0 (.slice a1 hh.length c1) rfl; go_simp⟩) (by assumption) ?_
        (try simp only [Act.put, List.getElem_toArray, List.getElem_cons_zero, List.getElem_cons_succ, List.setIfInBounds_toArray, List.set_cons_zero, List.set_cons_succ])
        refine wpAnyH_take (i := 1) (v := .agg (ftC 0 (-1))) rfl (by kernel_rfl) (by kernel_rfl) (by kernel_rfl) (fun _ _ _ h => h) (Or.inl ⟨by rfl, fun w hSw => exec_load_blk (k := 0) 37 (ftC 0 (-1)) rfl rfl hSw.2 (by kernel_rfl) (by kernel_rfl) rfl⟩) (by assumption) ?_
        (try simp only [Act.put, List.getElem_toArray, List.getElem_cons_zero, List.getElem_cons_succ, List.setIfInBounds_toArray, List.set_cons_zero, List.set_cons_succ])
        refine wpAnyH_ready (rs := [2]) (by kernel_rfl) (by simp) ?_
        refine AllReadyH.cons rfl (fun K hK => ?_) AllReadyH.nil
        simp only [List.getElem_toArray, List.getElem_cons_zero, List.getElem_cons_succ]
        rw [if_pos (by rfl)]
        refine wp_store_op (k := 0) 69 (.slice a1 hh.length c1) (#[.slice a1 hh.length c1]) (by rfl) rfl rfl HA8.drew (by kernel_rfl) (by exact Nat.le_refl 1) (by rfl) rfl (fun ua HAa ba ga => ?_)
        have HEa := HE8.drew.grown ga (by simp)
        have HO8d : OwnAs w8.drew Bs (.slice a1 hh.length c1) hh := ⟨HO8.row, HO8.ev⟩
        have HOa := HO8d.other HA8.drew (by decide) (by decide) ga
        have Ba : Below w.heap.size w ua := B8.drew.trans (ba.mono (Nat.le_refl _))
        refine hK.out _ _ ?_ (fun hHeld => ?_)
        · exact ⟨HAa, HEa⟩
        clear hK K
        (try simp only [Act.put, List.getElem_toArray, List.getElem_cons_zero, List.getElem_cons_succ, List.setIfInBounds_toArray, List.set_cons_zero, List.set_cons_succ])
        refine wpAnyH_ready (rs := [3]) (by kernel_rfl) (by simp) ?_
        refine AllReadyH.cons rfl (fun K hK => ?_) AllReadyH.nil
        simp only [List.getElem_toArray, List.getElem_cons_zero, List.getElem_cons_succ]
        rw [if_pos (by rfl)]
        refine wp_store_op (k := 0) 37 (.agg (ftC 0 (-1))) (ftC 0 (-1)) (by rfl) rfl rfl HEa (by kernel_rfl) (by exact Nat.le_refl 2) (by rfl) (st_whole _ _ rfl) (fun ub HEb bb gb => ?_)
        have HAb := HAa.grown gb (by simp)
        have HOb := HOa.other HEa (by decide) (by decide) gb
        have Bb : Below w.heap.size w ub := Ba.trans (bb.mono (by omega))
        refine hK.out _ _ ?_ (fun hHeld => ?_)
        · exact ⟨HAb, HEb⟩
        clear hK K
        (try simp only [Act.put, List.getElem_toArray, List.getElem_cons_zero, List.getElem_cons_succ, List.setIfInBounds_toArray, List.set_cons_zero, List.set_cons_succ])
        refine wpAnyH_done (by kernel_rfl) ?_ _
        refine NoPanic.normal ?_
        go_wp2
        exact mvr_door_ok (fun w' b' B' => by
          obtain ⟨a9, c9, e9, M9⟩ := ownAs_in (HOb.kept b')
          cases e9
          exact hQ.out _ _ hh w' rfl M9 B') rfl rfl HAb HEb Bb
      · have hRb := HSP.out (by omega)
        rw [hle] at hRb
        clear HEN HSP
        refine (noughts_bad HU7 hpm hm hz hnz (by omega)).mono ?_
        rintro e w8 ⟨rfl, g8⟩
        have HA8 := HA7.grown g8 (by simp; omega)
        have HE8 := HE7.grown g8 (by simp; omega)
        have B8 : Below w.heap.size w w8 := B7.grown g8 hw7 (fun k e => by cases e; omega)
        go_wp2
        exact mvr_door_bad (fun w' B' => by have q := hBad.out 15 m w' hRb.symm B'; simpa using q) rfl rfl (by decide) HA8 HE8 (by omega) (by omega) B8
    by_cases e1 : K ≠ 1
    · have hRb := HNA.out e0 e1
      have n1 : ((K : Int) != 1) = true := by rw [bne_iff_ne]; omega
      clear HEN HSP HNA HFO HHE
      by_cases ek : K = 0
      · have hz0 : ((Z : Int) == 0) = false := by rw [beq_eq_false_iff_ne]; omega
        subst ek
        have q0 : (((0 : Nat) : Int) == 0) = true := rfl
        go_wp2_with fail
        refine (throw_any HU7 5 p (by omega) (by omega)).mono ?_
        rintro e wb ⟨rfl, rfl⟩
        go_wp2
        exact mvr_door_bad (fun w' B' => by have q := hBad.out 5 p w' hRb.symm B'; simpa using q) rfl rfl (by decide) HA7 HE7 (by omega) (by omega) B7
      · have hk0 : ((K : Int) == 0) = false := by rw [beq_eq_false_iff_ne]; omega
        go_wp2_with fail
        refine (throw_any HU7 5 p (by omega) (by omega)).mono ?_
        rintro e wb ⟨rfl, rfl⟩
        go_wp2
        exact mvr_door_bad (fun w' B' => by have q := hBad.out 5 p w' hRb.symm B'; simpa using q) rfl rfl (by decide) HA7 HE7 (by omega) (by omega) B7
    obtain rfl : K = 1 := by omega
    have k10 : (((1 : Nat) : Int) == 0) = false := rfl
    have k11 : (((1 : Nat) : Int) != 1) = false := rfl
    by_cases e2 : Z ≠ 2
    · have hRb := HFO.out rfl e2
      have n2 : ((Z : Int) != 2) = true := by rw [bne_iff_ne]; omega
      have hp1 : IntKind.i64.wrap ((p : Int) + 1) = ((p + 1 : Nat) : Int) := by rw [IntKind.wrap_i64] <;> omega
      clear HEN HSP HNA HFO HHE
      go_wp2_with fail
      refine (throw_any HU7 3 ((p + 1 : Nat) : Int) (by omega) (by omega)).mono ?_
      rintro e wb ⟨rfl, rfl⟩
      go_wp2
      exact mvr_door_bad (fun w' B' => by have q := hBad.out 3 (p + 1) w' hRb.symm B'; simpa using q) rfl rfl (by decide) HA7 HE7 (by omega) (by omega) B7
    obtain rfl : Z = 2 := by omega
    have k22 : (((2 : Nat) : Int) != 2) = false := rfl
    have hRh := HHE.out rfl rfl
    have hp2s : p + 2 ≤ s.size := by omega
    clear HEN HSP HNA HFO HHE e0 e1 e2 g0 g1
    go_wp2_with fail
    go_loopw [8] (fun _ wx => RmInv w s R Bs c (some p) (p + 2) wx) (fun _ wx => s.size + 1 - curAt wx c)
    case atStart => exact ⟨p + 2, f, hh, a1, c1, HU7, by omega, Nat.le_refl _, hRh, by omega, h40, HO7, HA7, HE7, B7, hs7⟩
    case round =>
      clear HU7 hRh HO7 HA7 HE7 B7 hs7 hw7 h40 hf hlo
      obtain ⟨p2, f2, h2, a2, c2, HU, hp2, hlo2, hRp, hf2, h40, HO, HA, HE, Bk, hsz⟩ := hrel
      obtain ⟨f2, rfl⟩ : ∃ f', f2 = f' + 1 := ⟨f2 - 1, by omega⟩
      have cu := HU.cv 1 (.int .i64 (p2 : Nat)) rfl
      have hmu2 := Lib.hid HU.at
      have hwr := Bk.size
      generalize wr = wi at *
      go_wp2_with fail
      clear cu
      by_cases g0 : s.data.toList.length < p2 + 2
      · have hRb := (mv_bad (f := f2) (m := p) (l := xs h2) (rf_miss g0)).symm.trans hRp
        refine (cnum_bad HU 2 (by omega) hp2 (by decide) (by omega)).mono ?_
        rintro e wb ⟨rfl, bb⟩
        have HAb := HA.kept bb
        have HEb := HE.kept bb
        have Bb := Bk.trans (bb.mono hwr)
        go_wp2
        exact mvr_door_bad (fun w' B' => by have q := hBad.out 7 p2 w' hRb.symm B'; simpa using q) rfl rfl (by decide) HAb HEb (by omega) (by omega) Bb
      refine (cnum_ok HU 2 (by decide) (by omega) (by omega)).mono ?_
      rintro e w6 ⟨rfl, HU6, g6⟩
      rw [show beN ((s.data.toList.drop p2).take 2) = hdN s.data.toList p2 from rfl]
      have HA6 := HA.grown g6 (by simp; omega)
      have HE6 := HE.grown g6 (by simp; omega)
      have HO6 := HO.grown g6 hcB
      have B6 : Below w.heap.size w w6 := Bk.grown g6 hwr (fun k e => by cases e; omega)
      have hs6 : Bs ≤ w6.heap.size := Nat.le_trans hsz g6.size
      have hw6 := B6.size
      have HU6 : Cur w6 c s (p2 + 2) 0 := HU6
      have hnlt := hdN_lt s.data.toList p2
      clear HA HE HU HO Bk g6 hsz hwr
      by_cases n0 : hdN s.data.toList p2 = 0
      · have hRf := Lib.hid ((mv_fin (f := f2) (m := p) (l := xs h2) (rf_fin g0 n0)).symm.trans hRp)
        rw [n0]
        have q0 : (((0 : Nat) : Int) == 0) = true := rfl
        clear hRp n0 hnlt
        go_wp2
        go_roundw
        case rel => exact ⟨p2 + 2, f2, h2, a2, c2, HU6, by omega, by omega, hRf.out, by omega, h40, HO6, HA6, HE6, B6, hs6⟩
        case measure =>
          have q1 := HU6.at
          have q2 : curAt wo c = p := hmu.out
          show s.size + 1 - curAt w6 c < s.size + 1 - curAt wo c
          rw [q1, q2]
          omega
      by_cases n1 : 16384 ≤ hdN s.data.toList p2 ∨ 400 < hdN s.data.toList p2 % 8192
      · have hRb := (mv_bad (f := f2) (m := p) (l := xs h2) (rf_range g0 n0 n1)).symm.trans hRp
        clear hRp
        generalize hdN s.data.toList p2 = n at *
        have q0 : ((n : Int) == 0) = false := by rw [beq_eq_false_iff_ne]; omega
        by_cases n2 : 16384 ≤ n
        · have d1 : decide ((16384 : Int) ≤ (n : Int)) = true := decide_eq_true (by omega)
          have d1N : decide (16384 ≤ n) = true := decide_eq_true n2
          go_wp2_with fail
          refine (throw_any HU6 2 p2 (by omega) (by omega)).mono ?_
          rintro e wb ⟨rfl, rfl⟩
          go_wp2
          exact mvr_door_bad (fun w' B' => by have q := hBad.out 2 p2 w' hRb.symm B'; simpa using q) rfl rfl (by decide) HA6 HE6 (by omega) (by omega) B6
        · have d1 : decide ((16384 : Int) ≤ (n : Int)) = false := decide_eq_false (by omega)
          have d1N : decide (16384 ≤ n) = false := decide_eq_false n2
          obtain ⟨M, hM⟩ : ∃ M, n % 8192 = M := ⟨_, rfl⟩
          have k3 : (n : Int).tmod 8192 = (M : Int) := by rw [Int.tmod_eq_emod_of_nonneg (by omega)]; omega
          have k4 : (n : Int) % 8192 = (M : Int) := by omega
          have k5 : IntKind.i64.wrap (M : Int) = (M : Int) := by rw [IntKind.wrap_i64] <;> omega
          have d2 : decide ((400 : Int) < (M : Int)) = true := decide_eq_true (by omega)
          have d2N : decide (400 < M) = true := decide_eq_true (by omega)
          replace hM := Lib.hid hM
          go_wp2_with fail
          refine (throw_any HU6 2 p2 (by omega) (by omega)).mono ?_
          rintro e wb ⟨rfl, rfl⟩
          go_wp2
          exact mvr_door_bad (fun w' B' => by have q := hBad.out 2 p2 w' hRb.symm B'; simpa using q) rfl rfl (by decide) HA6 HE6 (by omega) (by omega) B6
      have HM2 := Lib.hid (fun (h3 : s.data.toList.length < p2 + 4) => (mv_bad (f := f2) (m := p) (l := xs h2) (rf_miss2 g0 n0 n1 h3)).symm.trans hRp)
      have HEV := Lib.hid (fun (h3 : ¬ s.data.toList.length < p2 + 4) (e : Int) (q : Nat) (hE : rdEv s.data.toList (hdN s.data.toList p2 % 8192) (hdN s.data.toList p2 % 8192) (p2 + 4) [] = .bad e q) => (mv_bad (f := f2) (m := p) (l := xs h2) (rf_evs g0 n0 n1 h3 hE)).symm.trans hRp)
      have HNO := Lib.hid (fun (h3 : ¬ s.data.toList.length < p2 + 4) (l : List Int) (q : Nat) (hE : rdEv s.data.toList (hdN s.data.toList p2 % 8192) (hdN s.data.toList p2 % 8192) (p2 + 4) [] = .ok l q) (hk : okMv ⟨decide (8192 ≤ hdN s.data.toList p2), (hdN s.data.toList (p2 + 2) : Nat), l⟩ = false) => (mv_bad (f := f2) (m := p) (l := xs h2) (rf_not g0 n0 n1 h3 hE hk)).symm.trans hRp)
      have HMA := Lib.hid (fun (h3 : ¬ s.data.toList.length < p2 + 4) (l : List Int) (q : Nat) (hE : rdEv s.data.toList (hdN s.data.toList p2 % 8192) (hdN s.data.toList p2 % 8192) (p2 + 4) [] = .ok l q) (hk : okMv ⟨decide (8192 ≤ hdN s.data.toList p2), (hdN s.data.toList (p2 + 2) : Nat), l⟩ = true) (h9 : 40 < (xs h2 ++ [(⟨decide (8192 ≤ hdN s.data.toList p2), (hdN s.data.toList (p2 + 2) : Nat), l⟩ : Mv)]).length) => (mv_many (f := f2) (m := p) (l := xs h2) (rf_got g0 n0 n1 h3 hE hk) h9).symm.trans hRp)
      have HGO := Lib.hid (fun (h3 : ¬ s.data.toList.length < p2 + 4) (l : List Int) (q : Nat) (hE : rdEv s.data.toList (hdN s.data.toList p2 % 8192) (hdN s.data.toList p2 % 8192) (p2 + 4) [] = .ok l q) (hk : okMv ⟨decide (8192 ≤ hdN s.data.toList p2), (hdN s.data.toList (p2 + 2) : Nat), l⟩ = true) (h9 : ¬ 40 < (xs h2 ++ [(⟨decide (8192 ≤ hdN s.data.toList p2), (hdN s.data.toList (p2 + 2) : Nat), l⟩ : Mv)]).length) => (mv_got (f := f2) (m := p) (l := xs h2) (rf_got g0 n0 n1 h3 hE hk) h9).symm.trans hRp)
      clear hRp
      have hN400 : hdN s.data.toList p2 % 8192 ≤ 400 := by omega
      have hn16 : hdN s.data.toList p2 < 16384 := by omega
      generalize hdN s.data.toList p2 = n at *
      have q0 : ((n : Int) == 0) = false := by rw [beq_eq_false_iff_ne]; omega
      obtain ⟨al, hal⟩ : ∃ al, decide (8192 ≤ n) = al := ⟨_, rfl⟩
      have hal2 : decide ((8192 : Int) ≤ (n : Int)) = al := by
        rw [← hal]
        by_cases q : 8192 ≤ n
        · rw [decide_eq_true q, decide_eq_true (by omega)]
        · rw [decide_eq_false q, decide_eq_false (by omega)]
      obtain ⟨N, hN⟩ : ∃ N, n % 8192 = N := ⟨_, rfl⟩
      have k3 : (n : Int).tmod 8192 = (N : Int) := by rw [Int.tmod_eq_emod_of_nonneg (by omega)]; omega
      have k4 : (n : Int) % 8192 = (N : Int) := by omega
      have k5 : IntKind.i64.wrap (N : Int) = (N : Int) := by rw [IntKind.wrap_i64] <;> omega
      have d1 : decide ((16384 : Int) ≤ (n : Int)) = false := decide_eq_false (by omega)
      have d1N : decide (16384 ≤ n) = false := decide_eq_false (by omega)
      have d2 : decide ((400 : Int) < (N : Int)) = false := decide_eq_false (by omega)
      have d2N : decide (400 < N) = false := decide_eq_false (by omega)
      rw [hN] at HEV HNO HMA HGO hN400
      rw [hal] at HNO HMA HGO
      replace hN := Lib.hid hN
      replace hal := Lib.hid hal
      have hp22 : p2 + 2 ≤ s.size := by omega
      clear n0 n1 g0 hnlt
      go_wp2_with fail
      by_cases g2 : s.data.toList.length < p2 + 4
      · have hRb := HM2.out g2
        refine (cnum_bad HU6 2 (by omega) (by omega) (by decide) (by omega)).mono ?_
        rintro e wb ⟨rfl, bb⟩
        have HAb := HA6.kept bb
        have HEb := HE6.kept bb
        have Bb := B6.trans (bb.mono hw6)
        go_wp2
        exact mvr_door_bad (fun w' B' => by have q := hBad.out 7 (p2 + 2) w' hRb.symm B'; simpa using q) rfl rfl (by decide) HAb HEb (by omega) (by omega) Bb
      replace HEV := Lib.hid (HEV.out g2)
      replace HNO := Lib.hid (HNO.out g2)
      replace HMA := Lib.hid (HMA.out g2)
      replace HGO := Lib.hid (HGO.out g2)
      clear HM2
      refine (cnum_ok HU6 2 (by decide) (by omega) (by omega)).mono ?_
      rintro e w7 ⟨rfl, HU7, g7⟩
      rw [show beN ((s.data.toList.drop (p2 + 2)).take 2) = hdN s.data.toList (p2 + 2) from rfl]
      have HA7 := HA6.grown g7 (by simp; omega)
      have HE7 := HE6.grown g7 (by simp; omega)
      have HO7 := HO6.grown g7 hcB
      have B7 : Below w.heap.size w w7 := B6.grown g7 hw6 (fun k e => by cases e; omega)
      have hs7 : Bs ≤ w7.heap.size := Nat.le_trans hs6 g7.size
      have hw7 := B7.size
      have HU7 : Cur w7 c s (p2 + 4) 0 := HU7
      have hflt := hdN_lt s.data.toList (p2 + 2)
      clear HA6 HE6 HU6 HO6 B6 g7 hs6 hw6
      obtain ⟨fi, hfi⟩ : ∃ fi : Int, ((hdN s.data.toList (p2 + 2) : Nat) : Int) = fi := ⟨_, rfl⟩
      have hfr : i64R fi := by rw [← hfi]; unfold i64R; omega
      rw [hfi] at HNO HMA HGO ⊢
      clear hfi hflt
      obtain ⟨R3, hR3⟩ : ∃ R3, rdEv s.data.toList N N (p2 + 4) [] = R3 := ⟨_, rfl⟩
      rw [hR3] at HEV HNO HMA HGO
      have HY0 := Blk.new w7 92 (mvC zMvH)
      have e0 : Below w7.heap.size w7 (w7.alloc (.cells (mvC zMvH) 92)) := (Below.refl _ _).alloc (Nat.le_refl _) _
      go_upto_region 21 with (first
        | (refine build_blk (t := 92) (mvC ⟨⟨al, fi, []⟩, none, 0⟩) (by rfl) rfl (by kernel_rfl) ?_)
        | (refine alloc_blk 92 (mvC zMvH) (by rfl) rfl Tryd.mhZero ?_)
        | (refine store_blk (k := 0) 92 (.agg (mvC ⟨⟨al, fi, []⟩, none, 0⟩)) (mvC ⟨⟨al, fi, []⟩, none, 0⟩) (by rfl) rfl rfl rfl HY0 (by kernel_rfl) (show (3 : Nat) ≤ 3 from Nat.le_refl 3) (by rfl) (st_whole _ _ rfl) ?_; intro w8 HY8 b8 g8))
      have HK8 : Kx c w7.heap.size w7 w8 := Kx.of (e0.trans b8)
      have HU8 : Cur w8 c s (p2 + 4) 0 := HU7.below (e0.trans b8)
      have hy8 : w7.heap.size + 1 ≤ w8.heap.size := HY8.lt
      have hcY : c < w7.heap.size := HU7.lt
      obtain ⟨Y, hY⟩ : ∃ Y, w7.heap.size = Y := ⟨_, rfl⟩
      have hwY : w.heap.size + 1 < Y := by omega
      have hBY : Bs ≤ Y := by omega
      have HY7 := Lib.hid (show w7.heap.size ≤ Y by omega)
      rw [hY] at HY8 HK8 hy8 hcY
      have hI8 := OwnIv.nil w8 (Y + 1)
      clear HY0 e0 b8 g8 hs7 hw7
      go_wp2_with fail
      go_loopw [11] (fun _ wx => ReInv s R3 c Y N (p2 + 4) al fi w7 wx) (fun _ wx => s.size + 1 - curAt wx c)
      case atStart => exact ⟨p2 + 4, N, [], none, 0, HU8, by omega, Nat.le_refl _, hR3, by simp, Nat.zero_le _, hI8, HY8, HK8, hy8⟩
      case round =>
        clear HU8 hR3 hI8 HY8 HK8 hy8
        obtain ⟨p3, f3, l, a3, c3, HU, hp3, hlo3, hRe, hf3, hlN, HI, HY, HK, hsy⟩ := hrel
        have hmu3 := Lib.hid HU.at
        by_cases hlt : l.length < N
        · obtain ⟨f3, rfl⟩ : ∃ f', f3 = f' + 1 := ⟨f3 - 1, by omega⟩
          have l1 : decide ((l.length : Int) < (N : Int)) = true := decide_eq_true (by omega)
          have l1N : decide (l.length < N) = true := decide_eq_true hlt
          have cu := HU.cv 1 (.int .i64 (p3 : Nat)) rfl
          have cy := HY.cv 2 (.slice a3 l.length c3) rfl
          generalize wr = wj at *
          go_wp2_with fail
          clear cu cy
          by_cases g3 : s.data.toList.length < p3 + 1
          · have hRb := HEV.out _ _ (hRe.symm.trans (ev_miss (by omega) g3))
            have HAj := HK.blk HA7 (by omega) (by omega)
            have HEj := HK.blk HE7 (by omega) (by omega)
            have Bj := HK.below B7 (by omega) (by omega) (by omega)
            refine (cnum_bad HU 1 (by omega) hp3 (by decide) (by omega)).mono ?_
            rintro e wb ⟨rfl, bb⟩
            have HAb := HAj.kept bb
            have HEb := HEj.kept bb
            have Bb := Bj.trans (bb.mono Bj.size)
            go_wp2
            exact mvr_door_bad (fun w' B' => by have q := hBad.out 7 p3 w' hRb.symm B'; simpa using q) rfl rfl (by decide) HAb HEb (by omega) (by omega) Bb
          refine (cnum_ok HU 1 (by decide) (by omega) (by omega)).mono ?_
          rintro e wa ⟨rfl, HUa, ga⟩
          rw [show beN ((s.data.toList.drop p3).take 1) = by1 s.data.toList p3 from rfl]
          have HUa : Cur wa c s (p3 + 1) 0 := HUa
          have HYa := HY.grown ga (by simp; omega)
          have HIa := HI.grown ga (fun q hq => by cases hq; omega)
          have HKa := HK.grown ga (Or.inl rfl)
          have hsa : Y + 1 ≤ wa.heap.size := Nat.le_trans hsy ga.size
          have hx256 := by1_lt s.data.toList p3
          clear HU HY HI HK ga hsy
          have HER := Lib.hid (fun (h2 : 215 < by1 s.data.toList p3) => HEV.out _ _ (hRe.symm.trans (ev_range (by omega) g3 h2)))
          have HES := Lib.hid (fun (h2 : ¬ 215 < by1 s.data.toList p3) (h3 : ((trip (by1 s.data.toList p3)).drop (N - l.length)).all (fun x => x == 0) = false) => HEV.out _ _ (hRe.symm.trans (ev_spoilt (by omega) g3 h2 h3)))
          have HET := Lib.hid (fun (h2 : ¬ 215 < by1 s.data.toList p3) (h3 : ((trip (by1 s.data.toList p3)).drop (N - l.length)).all (fun x => x == 0) = true) => (ev_step (by omega) g3 h2 h3).symm.trans hRe)
          clear hRe
          generalize by1 s.data.toList p3 = x at *
          have HAa := HKa.blk HA7 (by omega) (by omega)
          have HEa := HKa.blk HE7 (by omega) (by omega)
          have Ba := HKa.below B7 (by omega) (by omega) (by omega)
          by_cases hx : 215 < x
          · have hRb := HER.out hx
            have x1 : decide ((215 : Int) < (x : Int)) = true := decide_eq_true (by omega)
            have x1N : decide (215 < x) = true := decide_eq_true hx
            clear HER HES HET
            go_wp2_with fail
            refine (throw_any HUa 2 p3 (by omega) (by omega)).mono ?_
            rintro e wb ⟨rfl, rfl⟩
            go_wp2
            exact mvr_door_bad (fun w' B' => by have q := hBad.out 2 p3 w' hRb.symm B'; simpa using q) rfl rfl (by decide) HAa HEa (by omega) (by omega) Ba
          have x1 : decide ((215 : Int) < (x : Int)) = false := decide_eq_false (by omega)
          have x1N : decide (215 < x) = false := decide_eq_false hx
          replace HES := Lib.hid (HES.out hx)
          replace HET := Lib.hid (HET.out hx)
          clear HER HAa HEa Ba
          obtain ⟨k, hk⟩ : ∃ k, N - l.length = k := ⟨_, rfl⟩
          rw [hk] at HES HET
          have hk1 : 0 < k := by omega
          have hkN : l.length + k = N := by omega
          replace hk := Lib.hid hk
          have y1 : (x : Int).tdiv 36 = ((x / 36 : Nat) : Int) := by rw [Int.tdiv_eq_ediv_of_nonneg (by omega)]; omega
          have y1' : (x : Int) / 36 = ((x / 36 : Nat) : Int) := by omega
          have y2 : (x : Int).tmod 36 = ((x % 36 : Nat) : Int) := by rw [Int.tmod_eq_emod_of_nonneg (by omega)]; omega
          have y2' : (x : Int) % 36 = ((x % 36 : Nat) : Int) := by omega
          have y3 : ((x % 36 : Nat) : Int).tdiv 6 = ((x / 6 % 6 : Nat) : Int) := by rw [Int.tdiv_eq_ediv_of_nonneg (by omega)]; omega
          have y3' : ((x % 36 : Nat) : Int) / 6 = ((x / 6 % 6 : Nat) : Int) := by omega
          have y4 : (x : Int).tmod 6 = ((x % 6 : Nat) : Int) := by rw [Int.tmod_eq_emod_of_nonneg (by omega)]; omega
          have y4' : (x : Int) % 6 = ((x % 6 : Nat) : Int) := by omega
          have HTR : Hid (∀ q, q < 3 → (#[.int .i64 ((x / 36 : Nat) : Int), .int .i64 ((x / 6 % 6 : Nat) : Int), .int .i64 ((x % 6 : Nat) : Int)] : Array Value)[q]? = some (.int .i64 ((trip x).getD q 0))) := fun q hq => by
            have hc : q = 0 ∨ q = 1 ∨ q = 2 := by omega
            rcases hc with rfl | rfl | rfl <;> rfl
          obtain ⟨z0, hz0⟩ : ∃ z0 : Nat, x / 36 = z0 := ⟨_, rfl⟩
          obtain ⟨z1, hz1⟩ : ∃ z1 : Nat, x / 6 % 6 = z1 := ⟨_, rfl⟩
          obtain ⟨z2, hz2⟩ : ∃ z2 : Nat, x % 6 = z2 := ⟨_, rfl⟩
          obtain ⟨z3, hz3⟩ : ∃ z3 : Nat, x % 36 = z3 := ⟨_, rfl⟩
          have y5 : IntKind.i64.wrap (z0 : Int) = (z0 : Int) := by rw [IntKind.wrap_i64] <;> omega
          have y6 : IntKind.i64.wrap (z1 : Int) = (z1 : Int) := by rw [IntKind.wrap_i64] <;> omega
          have y7 : IntKind.i64.wrap (z2 : Int) = (z2 : Int) := by rw [IntKind.wrap_i64] <;> omega
          have y8 : IntKind.i64.wrap (z3 : Int) = (z3 : Int) := by rw [IntKind.wrap_i64] <;> omega
          rw [hz0] at y1 y1' HTR
          rw [hz1] at y3 y3' HTR
          rw [hz2] at y4 y4' HTR
          rw [hz3] at y2 y2' y3 y3'
          have HZZ := Lib.hid (show x / 36 = z0 ∧ x / 6 % 6 = z1 ∧ x % 6 = z2 from ⟨hz0, hz1, hz2⟩)
          clear hz0 hz1 hz2 hz3
          have HT8 := Blk.new wa 3 #[.int .i64 (z0 : Int), .int .i64 (z1 : Int), .int .i64 (z2 : Int)]
          have e8 : Below wa.heap.size wa (wa.alloc (.cells #[.int .i64 (z0 : Int), .int .i64 (z1 : Int), .int .i64 (z2 : Int)] 3)) := (Below.refl _ _).alloc (Nat.le_refl _) _
          have HU8 := HUa.below e8
          have HI8 := HIa.kept e8
          have HY8 := HYa.kept e8
          have HK8 := HKa.then_ e8 (Nat.le_trans HY7.out (by omega))
          have hs8 := Nat.le_trans hsa e8.size
          have hT8 : (Value.slice a3 l.length c3).ownBlock ≠ some wa.heap.size := fun q => by
            have := (HIa.lt _ q).2
            omega
          have hYT0 : Y < wa.heap.size := by omega
          clear HUa HIa HYa HKa hsa e8
          go_wp2_with fail
          obtain ⟨T, hT⟩ : ∃ T, wa.heap.size = T := ⟨_, rfl⟩
          rw [hT] at HT8 hT8 ⊢
          have hYT : Y < T := by rw [← hT]; exact hYT0
          generalize wa.alloc (.cells #[.int .i64 (z0 : Int), .int .i64 (z1 : Int), .int .i64 (z2 : Int)] 3) = w8' at *
          clear hT
          go_loopw [101] (fun i wx => RtInv s c Y T x k (p3 + 1) l al fi i w7 wx) (fun i _ => 3 - (intOf i).toNat)
          case atStart => exact ⟨0, a3, c3, l.length, l, by omega, rfl, by rw [Nat.zero_min, List.take_zero, List.append_nil], rfl, fun t h1 h2 => absurd h2 (Nat.not_lt_zero _), HU8, HI8, HY8, by rw [HZZ.out.1, HZZ.out.2.1, HZZ.out.2.2]; exact HT8, hT8, HK8, hs8⟩
          case round =>
            clear HU8 HI8 HY8 HT8 hT8 HK8 hs8
            obtain ⟨q, a4, c4, n4, E, hq, rfl, hE, hn4, hzr, HU, HI, HY, HT, hTo, HK, hsy⟩ := hrel
            have hEl : E.length = l.length + min q k := by rw [hE, List.length_append, trip_len2 x q k hq]
            have q4 : IntKind.i64.wrap ((q : Int) + 1) = (q : Int) + 1 := by rw [IntKind.wrap_i64] <;> omega
            by_cases hq3 : q < 3
            · have HT' : Blk wr T 3 #[.int .i64 (z0 : Int), .int .i64 (z1 : Int), .int .i64 (z2 : Int)] := by rw [← HZZ.out.1, ← HZZ.out.2.1, ← HZZ.out.2.2]; exact HT
              have KX := HT'.cv q _ (HTR.out q hq3)
              have hq5 : (q : Int) < 3 := by omega
              have hq6 : (0 : Int) ≤ (q : Int) := by omega
              have hq7 : decide ((q : Int) < 3) = true := decide_eq_true hq5
              have hq8 : decide (q < 3) = true := decide_eq_true hq3
              have cy := HY.cv 2 (.slice a4 n4 c4) rfl
              have hlT : T < wr.heap.size := HT.lt
              have hge := trip_rg x q
              clear HT'
              by_cases hqk : q < k
              · have hnN : n4 < N := by rw [hn4, hEl, Nat.min_eq_left (by omega)]; omega
                have m1 : decide ((n4 : Int) < (N : Int)) = true := decide_eq_true (by omega)
                have m1N : decide (n4 < N) = true := decide_eq_true hnN
                have HNX := Lib.hid (trip_take x q k hq3 hqk)
                have hll : E.length ≤ 100000 := by omega
                replace hE := Lib.hid hE
                replace hn4 := Lib.hid hn4
                obtain ⟨tq, htq⟩ : ∃ tq, (trip x).getD q 0 = tq := ⟨_, rfl⟩
                rw [htq] at KX HNX
                clear htq hge hEl
                go_wp2_with (first
                  | (refine sliceL_iv tq rfl rfl rfl ?_; intro wb HSb bb sb; have HIb := HI.kept bb; have HYb := HY.kept bb; have HTb := HT.kept bb; have HUb := HU.below bb; have HKb := HK.then_ bb HK.size; have hsb : Y + 1 ≤ wb.heap.size := Nat.le_trans hsy bb.size; have hlb : T < wb.heap.size := HTb.lt)
                  | (refine appendF_iv (v := .slice a4 n4 c4) tq rfl rfl rfl rfl HIb HSb hll hsb ?_; intro gx cx nx wd HId hnx bd gd hat; have HYd := HYb.below bd (Nat.lt_succ_self Y); have HUd : Cur wd c s (p3 + 1) 0 := Blk.below HUb bd (by omega); have HTd : Blk wd T 3 _ := HTb.grown gd (fun e => hTo e.symm); have HKd := HKb.then_ bd (Nat.le_trans HY7.out (Nat.le_succ Y)); have hsd : Y + 1 ≤ wd.heap.size := Nat.le_trans hsb bd.size; have hgT : gx ≠ T := (by intro e; subst e; rcases hat with r | r; exact hTo r; omega); replace hnx := Lib.hid hnx; replace hat := Lib.hid hat)
                  | (refine store_blk (k := 2) 90 (.slice (some ⟨gx, 0, none⟩) nx cx) #[.bool al, .int .i64 fi, .slice (some ⟨gx, 0, none⟩) nx cx] (by rfl) rfl rfl rfl HYd (by kernel_rfl) (show (3 : Nat) ≤ 3 from Nat.le_refl 3) (by rfl) rfl ?_; intro wf HYf bf gf))
                have HIf := HId.other HYd (by decide) gf
                have HUf : Cur wf c s (p3 + 1) 0 := Blk.grown HUd gf (by simp; omega)
                have HTf := HTd.grown gf (by simp; omega)
                have HKf := HKd.grown gf (Or.inr rfl)
                have hsf : Y + 1 ≤ wf.heap.size := Nat.le_trans hsd gf.size
                go_roundw
                case rel => exact ⟨q + 1, some ⟨gx, 0, none⟩, cx, nx, E ++ [tq], by omega, by go_num, by rw [hE.out, HNX.out, List.append_assoc], hnx.out, fun t h1 h2 => by omega, HUf, HIf, HYf, HTf, by simpa [Value.ownBlock] using hgT, HKf, hsf⟩
                case measure => simp [intOf]; omega
              · have hnN : n4 = N := by rw [hn4, hEl, Nat.min_eq_right (by omega)]; omega
                have m1 : decide ((n4 : Int) < (N : Int)) = false := decide_eq_false (by omega)
                have m1N : decide (n4 < N) = false := decide_eq_false (by omega)
                replace hE := Lib.hid hE
                replace hn4 := Lib.hid hn4
                replace hnN := Lib.hid hnN
                by_cases ht : 0 < (trip x).getD q 0
                · have hRb := HES.out (by
                    rw [Bool.eq_false_iff]
                    intro r
                    have := (trip_all x k).1 r q (by omega) hq3
                    omega)
                  obtain ⟨tq, htq⟩ : ∃ tq, (trip x).getD q 0 = tq := ⟨_, rfl⟩
                  rw [htq] at KX ht
                  have t1 : decide ((0 : Int) < tq) = true := decide_eq_true ht
                  have HAr := HK.blk HA7 (by omega) (by omega)
                  have HEr := HK.blk HE7 (by omega) (by omega)
                  have Br := HK.below B7 (by omega) (by omega) (by omega)
                  clear htq hge hEl HES HET
                  go_wp2_with fail
                  refine (throw_any HU 15 p3 (by omega) (by omega)).mono ?_
                  rintro e wb ⟨rfl, rfl⟩
                  go_wp2
                  exact mvr_door_bad (fun w' B' => by have q := hBad.out 15 p3 w' hRb.symm B'; simpa using q) rfl rfl (by decide) HAr HEr (by omega) (by omega) Br
                · have htz : (trip x).getD q 0 = 0 := by omega
                  have HZ2 := Lib.hid htz
                  rw [htz] at KX
                  have HKP := Lib.hid (trip_keep x q k (by omega))
                  clear ht htz hge hEl
                  go_wp2
                  go_roundw
                  case rel => exact ⟨q + 1, a4, c4, n4, E, by omega, by go_num, by rw [hE.out, HKP.out], hn4.out, fun t h1 h2 => by
                    by_cases e : t = q
                    · subst e; exact HZ2.out
                    · exact hzr t h1 (by omega), HU, HI, HY, HT, hTo, HK, hsy⟩
                  case measure => simp [intOf]; omega
            · obtain rfl : q = 3 := by omega
              have hm3 : (trip x).take (min 3 k) = (trip x).take k := by
                by_cases r : k ≤ 3
                · rw [Nat.min_eq_right r]
                · rw [Nat.min_eq_left (by omega), List.take_of_length_le (by rw [trip_len]; omega), List.take_of_length_le (by rw [trip_len]; omega)]
              have hRn := Lib.hid (HET.out ((trip_all x k).2 hzr))
              subst hn4
              have hRn2 : Hid (rdEv s.data.toList N f3 (p3 + 1) E = R3) := by show _ = _; rw [hE, hm3]; exact hRn.out
              have hEN : E.length ≤ N := by omega
              have hEf : N ≤ E.length + f3 := by omega
              clear hRn hm3 hE hEl HES HET HZZ HTR
              go_wp2
              go_roundw
              case rel => exact ⟨p3 + 1, f3, E, a4, c4, HU, by omega, by omega, hRn2.out, hEf, hEN, HI, HY, HK, hsy⟩
              case measure =>
                have q1 := HU.at
                have q2 : curAt wj c = p3 := hmu3.out
                show s.size + 1 - curAt wr c < s.size + 1 - curAt wj c
                rw [q1, q2]
                omega
        · have hRo : R3 = .ok l p3 := (hRe.symm.trans (ev_end (by omega)))
          replace HNO := Lib.hid (HNO.out l p3 hRo)
          replace HMA := Lib.hid (HMA.out l p3 hRo)
          replace HGO := Lib.hid (HGO.out l p3 hRo)
          have hlN2 : l.length = N := by omega
          have l1 : decide ((l.length : Int) < (N : Int)) = false := decide_eq_false (by omega)
          have l1N : decide (l.length < N) = false := decide_eq_false (by omega)
          have HA := HK.blk HA7 (by omega) (by omega)
          have HE := HK.blk HE7 (by omega) (by omega)
          have B := HK.below B7 (by omega) (by omega) (by omega)
          have HO := HK.asb HO7 HU7 HY7.out
          have hsB : Bs ≤ wr.heap.size := by omega
          have cy := HY.cv 2 (.slice a3 l.length c3) rfl
          have HAR := Lib.hid (fun (W : World) (hb : Below wr.heap.size wr W) => attrRight_any ⟨al, fi, l⟩ a3 c3 W hfr ((ownIv_cap rfl HI).1.below hb) (by show l.length ≤ maxLen; unfold maxLen; omega))
          have HYm : Blk wr Y 92 (mvC ⟨⟨al, fi, l⟩, a3, c3⟩) := HY
          replace HAR : Hid (∀ W, Below wr.heap.size wr W → Calls Tryd.prog 58 #[.agg (mvC ⟨⟨al, fi, l⟩, a3, c3⟩)] W fun e w' => e = .returned (.bool (okMv ⟨al, fi, l⟩)) ∧ Below W.heap.size W w') := HAR
          obtain ⟨ok, hok⟩ : ∃ ok, okMv ⟨al, fi, l⟩ = ok := ⟨_, rfl⟩
          rw [hok] at HAR HNO HMA HGO
          clear hRe hRo HEV HK HY hok hlt
          go_wp2_with (refine load_blk (k := 0) 92 (mvC ⟨⟨al, fi, l⟩, a3, c3⟩) (by rfl) rfl rfl HYm (by kernel_rfl) (by kernel_rfl) rfl ?_)
          refine (HAR.out _ (Below.refl _ _)).mono ?_
          rintro e w9 ⟨rfl, b9⟩
          have HA9 := HA.kept b9
          have HE9 := HE.kept b9
          have HO9 := HO.kept b9
          have HU9 := HU.below b9
          have HI9 := HI.kept b9
          have HY9 := HYm.kept b9
          have B9 := B.trans (b9.mono B.size)
          have hs9 : Bs ≤ w9.heap.size := Nat.le_trans hsB b9.size
          clear HA HE HO HU HI HYm B b9 hsB cy HAR
          cases ok with
          | false =>
            have hRb := HNO.out rfl
            clear HNO HMA HGO
            go_wp2_with fail
            refine (throw_any HU9 2 p2 (by omega) (by omega)).mono ?_
            rintro e wb ⟨rfl, rfl⟩
            go_wp2
            exact mvr_door_bad (fun w' B' => by have q := hBad.out 2 p2 w' hRb.symm B'; simpa using q) rfl rfl (by decide) HA9 HE9 (by omega) (by omega) B9
          | true =>
            replace HMA := Lib.hid (HMA.out rfl)
            replace HGO := Lib.hid (HGO.out rfl)
            have hxl : (xs h2 ++ [(⟨al, fi, l⟩ : Mv)]).length = h2.length + 1 := by rw [List.length_append, xs_len]; rfl
            have hxs := Lib.hid (xs_snoc h2 ⟨⟨al, fi, l⟩, a3, c3⟩)
            have cA := HA9.cv 0 (.slice a2 h2.length c2) rfl
            have h2l : h2.length ≤ 100000 := by omega
            clear HNO
            by_cases h9 : 40 < h2.length + 1
            · have hRb := HMA.out (by rw [hxl]; exact h9)
              clear HMA HGO hxl
              go_wp2_with (first
                | (refine load_blk (k := 0) 92 (mvC ⟨⟨al, fi, l⟩, a3, c3⟩) (by rfl) rfl rfl HY9 (by kernel_rfl) (by kernel_rfl) rfl ?_)
                | (refine sliceL_mh ⟨⟨al, fi, l⟩, a3, c3⟩ rfl rfl rfl ?_; intro wb HSb bb sb; have HAb := HA9.kept bb; have HEb := HE9.kept bb; have HOb := HO9.row.kept bb; have HUb := HU9.below bb; have Bb := B9.trans (bb.mono B9.size); have hsb : Bs ≤ wb.heap.size := Nat.le_trans hs9 bb.size)
                | (refine appendL_mh (v := .slice a2 h2.length c2) ⟨⟨al, fi, l⟩, a3, c3⟩ rfl rfl rfl rfl HOb HSb h2l hsb ?_; intro v10 w10 HM10 b10 g10; have HA10 := HAb.below b10 (by omega); have HE10 := HEb.below b10 (by omega); have HU10 : Cur w10 c s p3 0 := Blk.below HUb b10 hcB; have B10 := Bb.trans (b10.mono (by omega)); obtain ⟨a10, c10, hv10, -⟩ := HM10.inL; obtain ⟨L10, hL10⟩ : ∃ L10, (h2 ++ [(⟨⟨al, fi, l⟩, a3, c3⟩ : MvH)]).length = L10 := ⟨_, rfl⟩; rw [hL10] at hv10; have hL11 : L10 = h2.length + 1 := (by rw [← hL10, List.length_append]; rfl); have dL : decide ((40 : Int) < (L10 : Int)) = true := decide_eq_true (by omega); have dLN : decide (40 < L10) = true := decide_eq_true (by omega); replace hL10 := Lib.hid hL10; replace hL11 := Lib.hid hL11; subst hv10)
                | (refine store_blk (k := 0) 69 (.slice a10 L10 c10) #[.slice a10 L10 c10] (by rfl) rfl rfl rfl HA10 (by kernel_rfl) (by exact Nat.le_refl 1) (by rfl) rfl ?_; intro w11 HA11 b11 g11; have HE11 := HE10.grown g11 (by simp); have HU11 : Cur w11 c s p3 0 := Blk.grown HU10 g11 (by simp; omega); have B11 : Below w.heap.size w w11 := B10.trans (b11.mono (Nat.le_refl _)); have cA11 := HA11.cv 0 (.slice a10 L10 c10) rfl))
              refine (throw_any HU11 4 p (by omega) (by omega)).mono ?_
              rintro e wz ⟨rfl, rfl⟩
              go_wp2
              exact mvr_door_bad (fun w' B' => by have q := hBad.out 4 p w' hRb.symm B'; simpa using q) rfl rfl (by decide) HA11 HE11 (by omega) (by omega) B11
            · have hRg := Lib.hid (HGO.out (by rw [hxl]; exact h9))
              clear HMA HGO hxl
              go_wp2_with (first
                | (refine load_blk (k := 0) 92 (mvC ⟨⟨al, fi, l⟩, a3, c3⟩) (by rfl) rfl rfl HY9 (by kernel_rfl) (by kernel_rfl) rfl ?_)
                | (refine sliceL_mh ⟨⟨al, fi, l⟩, a3, c3⟩ rfl rfl rfl ?_; intro wb HSb bb sb; have HAb := HA9.kept bb; have HEb := HE9.kept bb; have HOb := HO9.kept bb; have HIb := HI9.kept bb; have HUb := HU9.below bb; have Bb := B9.trans (bb.mono B9.size); have hsb : Bs ≤ wb.heap.size := Nat.le_trans hs9 bb.size)
                | (refine appendL_mh (v := .slice a2 h2.length c2) ⟨⟨al, fi, l⟩, a3, c3⟩ rfl rfl rfl rfl HOb.row HSb h2l hsb ?_; intro v10 w10 HM10 b10 g10; have HA10 := HAb.below b10 (by omega); have HE10 := HEb.below b10 (by omega); have HU10 : Cur w10 c s p3 0 := Blk.below HUb b10 hcB; have B10 := Bb.trans (b10.mono (by omega)); have hs10 : Bs ≤ w10.heap.size := Nat.le_trans hsb b10.size; have HO10 : OwnAs w10 Bs v10 (h2 ++ [⟨⟨al, fi, l⟩, a3, c3⟩]) := ⟨HM10, fun y hy => (List.mem_append.1 hy).elim (fun r => iv_mh HOb.row g10 (HOb.ev y r)) (fun r => by rw [List.mem_singleton.1 r]; exact (iv_mh HOb.row g10 HIb).mono (by omega))⟩; obtain ⟨a10, c10, hv10, -⟩ := HM10.inL; obtain ⟨L10, hL10⟩ : ∃ L10, (h2 ++ [(⟨⟨al, fi, l⟩, a3, c3⟩ : MvH)]).length = L10 := ⟨_, rfl⟩; rw [hL10] at hv10; have hL11 : L10 = h2.length + 1 := (by rw [← hL10, List.length_append]; rfl); have dL : decide ((40 : Int) < (L10 : Int)) = false := decide_eq_false (by omega); have dLN : decide (40 < L10) = false := decide_eq_false (by omega); replace hL10 := Lib.hid hL10; replace hL11 := Lib.hid hL11; subst hv10)
                | (refine store_blk (k := 0) 69 (.slice a10 L10 c10) #[.slice a10 L10 c10] (by rfl) rfl rfl rfl HA10 (by kernel_rfl) (by exact Nat.le_refl 1) (by rfl) rfl ?_; intro w11 HA11 b11 g11; have HE11 := HE10.grown g11 (by simp); have HU11 : Cur w11 c s p3 0 := Blk.grown HU10 g11 (by simp; omega); have B11 : Below w.heap.size w w11 := B10.trans (b11.mono (Nat.le_refl _)); have HO11 := HO10.other HA10 (by decide) (by decide) g11; have hs11 : Bs ≤ w11.heap.size := Nat.le_trans hs10 g11.size; have cA11 := HA11.cv 0 (.slice a10 L10 c10) rfl))
              go_roundw
              case rel =>
                refine ⟨p3, f2, h2 ++ [⟨⟨al, fi, l⟩, a3, c3⟩], a10, c10, HU11, by omega, by omega, ?_, by omega, ?_, ?_, ?_, HE11, B11, hs11⟩
                · rw [hxs.out]; exact hRg.out
                · rw [hL10.out, hL11.out]; omega
                · rw [hL10.out]; exact HO11
                · rw [hL10.out]; exact HA11
              case measure =>
                have q1 := HU11.at
                have q2 : curAt wi c = p2 := hmu2.out
                show s.size + 1 - curAt w11 c < s.size + 1 - curAt wi c
                rw [q1, q2]
                omega

end Go.Proofs.YtdjljnpbnhampaaDoor

namespace Go.Proofs.YtdjljnpbnhampaaDoor
open Go.RowKit Go.Extern.Stop Go.Stop Go.Extern

/-! Closed facts on the entries for internal/reflectlite at this program's types. -/

theorem Tryd.rlValueOfPE (t : Addr) (w : World) : (ReflectliteValue.unpack (.iface 152 (.pointer (some t)))).run Tryd.prog w
    = .ok (.agg #[.pointer (some ⟨4, 152, none⟩), .pointer (some ⟨w.heap.size, 0, none⟩), .int .u64 150]) (w.alloc (.cells #[.pointer (some t)] 152)) := by kernel_rfl

theorem Tryd.rlTypePE (a : Addr) (w : World) : (ReflectliteValue.methodAny (ReflectliteValue.valueError "reflectlite.Value.Type" 0) (fun t _ _ _ => ReflectliteType.toType t) #[.agg #[.pointer (some ⟨4, 152, none⟩), .pointer (some a), .int .u64 150]]).run Tryd.prog w
    = .ok (.iface 221 (.agg #[.pointer (some ⟨4, 152, none⟩)])) w := by kernel_rfl

theorem Tryd.rlMethodKind (h : Value) (w : World) : (Go.method 372 221 (.agg #[h]) "Kind").run Tryd.prog w = .ok (147, h) w := by kernel_rfl

theorem Tryd.rlKindPE (w : World) : ((ReflectliteType.abiMethod fun t => (fun a : Nat => Value.int IntKind.u8 (a : Int)) <$> Rtype.kind t) #[.pointer (some ⟨4, 152, none⟩)]).run Tryd.prog w = .ok (.int .u8 22) w := by kernel_rfl

theorem Tryd.rlKindE (w : World) : ((ReflectliteType.abiMethod fun t => (fun a : Nat => Value.int IntKind.u8 (a : Int)) <$> Rtype.kind t) #[.pointer (some ⟨4, 35, none⟩)]).run Tryd.prog w = .ok (.int .u8 2) w := by kernel_rfl

theorem Tryd.rlPartsPE (a : Addr) (w : World) : (ReflectliteValue.parts (.agg #[.pointer (some ⟨4, 152, none⟩), .pointer (some a), .int .u64 150])).run Tryd.prog w = .ok (some (152, a, 150)) w := by kernel_rfl

theorem Tryd.rlIsNilPE (a p : Addr) (W : World) (ha : W.cell? a = some (.pointer (some p))) :
    (ReflectliteValue.method (ReflectliteValue.valueError "reflectlite.Value.IsNil" 0) ReflectliteValue.isNil #[.agg #[.pointer (some ⟨4, 152, none⟩), .pointer (some a), .int .u64 150]]).run Tryd.prog W = .ok (.bool false) W := by
  change Sem.run _ (ReflectliteValue.parts (.agg #[.pointer (some ⟨4, 152, none⟩), .pointer (some a), .int .u64 150]) >>= _) _ = _
  simp only [Sem.run_bind, Tryd.rlPartsPE, Result.andThen]
  simp [ReflectliteValue.isNil, loadVar, isAgg, underlying, Tryd.underlying152, ha, Result.andThen]

theorem Tryd.rlMethodElem (h : Value) (w : World) : (Go.method 372 221 (.agg #[h]) "Elem").run Tryd.prog w = .ok (160, .agg #[h]) w := by kernel_rfl

theorem Tryd.rlMethodImplements (h : Value) (w : World) : (Go.method 372 221 (.agg #[h]) "Implements").run Tryd.prog w = .ok (161, .agg #[h]) w := by kernel_rfl

theorem Tryd.rlMethodAssignableTo (h : Value) (w : World) : (Go.method 372 221 (.agg #[h]) "AssignableTo").run Tryd.prog w = .ok (158, .agg #[h]) w := by kernel_rfl

theorem Tryd.rlElemPE (w : World) : (ReflectliteType.method ReflectliteType.elem #[.agg #[.pointer (some ⟨4, 152, none⟩)]]).run Tryd.prog w = .ok (.iface 221 (.agg #[.pointer (some ⟨4, 35, none⟩)])) w := by kernel_rfl

theorem Tryd.rlImplementsE (w : World) : (ReflectliteType.relation "Implements" ReflectliteType.implements_ #[.agg #[.pointer (some ⟨4, 35, none⟩)], .iface 221 (.agg #[.pointer (some ⟨4, 41, none⟩)])]).run Tryd.prog w = .ok (.bool true) w := by kernel_rfl

theorem Tryd.rlTypeOfE (v : Value) (w : World) : (ReflectliteType.typeOf #[.iface 35 v]).run Tryd.prog w = .ok (.iface 221 (.agg #[.pointer (some ⟨4, 35, none⟩)])) w := by kernel_rfl

theorem Tryd.rlTypeOfA (v : Value) (w : World) : (ReflectliteType.typeOf #[.iface 142 v]).run Tryd.prog w = .ok (.iface 221 (.agg #[.pointer (some ⟨4, 142, none⟩)])) w := by kernel_rfl

theorem Tryd.rlAssignableEE (w : World) : (ReflectliteType.relation "AssignableTo" ReflectliteType.assignableTo #[.agg #[.pointer (some ⟨4, 35, none⟩)], .iface 221 (.agg #[.pointer (some ⟨4, 35, none⟩)])]).run Tryd.prog w = .ok (.bool true) w := by kernel_rfl

theorem Tryd.rlAssignableAE (w : World) : (ReflectliteType.relation "AssignableTo" ReflectliteType.assignableTo #[.agg #[.pointer (some ⟨4, 142, none⟩)], .iface 221 (.agg #[.pointer (some ⟨4, 35, none⟩)])]).run Tryd.prog w = .ok (.bool false) w := by kernel_rfl

theorem Tryd.rlValueOfE (x : Int) (w : World) : (ReflectliteValue.unpack (.iface 35 (.int .i64 x))).run Tryd.prog w
    = .ok (.agg #[.pointer (some ⟨4, 35, none⟩), .pointer (some ⟨w.heap.size, 0, none⟩), .int .u64 130]) (w.alloc (.cells #[.int .i64 x] 35)) := by kernel_rfl

theorem Tryd.rlElemOfPE (w : World) : (Rtype.elem? 152).run Tryd.prog w = .ok (some 35) w := by kernel_rfl

theorem Tryd.rlMkE (p : Addr) (w : World) : (ReflectliteValue.mk 35 p ReflectliteValue.flagAddr).run Tryd.prog w = .ok (.agg #[.pointer (some ⟨4, 35, none⟩), .pointer (some p), .int .u64 386]) w := by kernel_rfl

theorem Tryd.rlElemVPE (a p : Addr) (W : World) (ha : W.cell? a = some (.pointer (some p))) :
    (ReflectliteValue.method (ReflectliteValue.valueError "reflectlite.Value.Elem" 0) ReflectliteValue.elem #[.agg #[.pointer (some ⟨4, 152, none⟩), .pointer (some a), .int .u64 150]]).run Tryd.prog W
      = .ok (.agg #[.pointer (some ⟨4, 35, none⟩), .pointer (some p), .int .u64 386]) W := by
  change Sem.run _ (ReflectliteValue.parts (.agg #[.pointer (some ⟨4, 152, none⟩), .pointer (some a), .int .u64 150]) >>= _) _ = _
  simp only [Sem.run_bind, Tryd.rlPartsPE, Result.andThen]
  simp [ReflectliteValue.elem, loadVar, isAgg, underlying, Tryd.underlying152, ha, Result.andThen, Tryd.rlElemOfPE, Tryd.rlMkE]

theorem Tryd.rlPartsEa (a : Addr) (w : World) : (ReflectliteValue.parts (.agg #[.pointer (some ⟨4, 35, none⟩), .pointer (some a), .int .u64 386])).run Tryd.prog w = .ok (some (35, a, 386)) w := by kernel_rfl

theorem Tryd.rlPartsE (a : Addr) (w : World) : (ReflectliteValue.parts (.agg #[.pointer (some ⟨4, 35, none⟩), .pointer (some a), .int .u64 130])).run Tryd.prog w = .ok (some (35, a, 130)) w := by kernel_rfl

theorem Tryd.rlDirectE (w : World) : (Rtype.directlyAssignable 35 35).run Tryd.prog w = .ok true w := by kernel_rfl

theorem Tryd.rlSizeE (w : World) : (sizeOf 35).run Tryd.prog w = .ok 1 w := by kernel_rfl

theorem Tryd.rlSetE (ta b : Addr) (x : Int) (old : Value) (W : World) (hb : W.cell? b = some (.int .i64 x)) (ht : W.cell? ta = some old) (hf : W.frozen? ta = false) :
    (ReflectliteValue.set #[.agg #[.pointer (some ⟨4, 35, none⟩), .pointer (some ta), .int .u64 386], .agg #[.pointer (some ⟨4, 35, none⟩), .pointer (some b), .int .u64 130]]).run Tryd.prog W
      = .ok (.tuple #[]) (W.setCell ta (.int .i64 x)) := by
  change Sem.run _ (ReflectliteValue.parts (.agg #[.pointer (some ⟨4, 35, none⟩), .pointer (some ta), .int .u64 386]) >>= fun _ => ReflectliteValue.parts (.agg #[.pointer (some ⟨4, 35, none⟩), .pointer (some b), .int .u64 130]) >>= _) _ = _
  simp only [Sem.run_bind, Tryd.rlPartsEa, Tryd.rlPartsE, Result.andThen]
  simp [ReflectliteValue.flagAddr, loadVar, isAgg, underlying, Tryd.underlying35, hb, Result.andThen, Tryd.rlDirectE, storeVar, Value.cells, storeCells, Addr.add]
  rw [run_store Tryd.prog W ta _ _ (by rfl)]
  simp [ht, hf]

end Go.Proofs.YtdjljnpbnhampaaDoor

namespace Go.Proofs.YtdjljnpbnhampaaDoor
open Go.RowKit Go.Extern.Stop Go.Stop Go.Extern

/-- The variable errors.errorType holds the type error's handle. -/
def HasErr (w : World) : Prop := w.cell? ⟨0, 0, none⟩ = some (.iface 221 (.agg #[.pointer (some ⟨4, 41, none⟩)]))

theorem HasErr.lt {w : World} (h : HasErr w) : 0 < w.heap.size := by
  rcases Nat.lt_or_ge 0 w.heap.size with h' | h'
  · exact h'
  · have : w.cell? ⟨0, 0, none⟩ = none := by simp [World.cell?, Array.getElem?_eq_none h']
    unfold HasErr at h
    rw [this] at h
    cases h

theorem HasErr.alloc {w : World} (h : HasErr w) (o : Obj) : HasErr (w.alloc o) := (World.cell?_alloc_lt _ _ _ h.lt).trans h

theorem HasErr.below {w w' : World} (h : HasErr w) (hb : Below w.heap.size w w') : HasErr w' := (hb.cell (p := ⟨0, 0, none⟩) h.lt).trans h

theorem as_nil (t : Value) (w : World) :
    Calls Tryd.prog 69 #[.nilIface, t] w fun e w' => e = .returned (.bool false) ∧ w' = w := by
  go_enter Tryd.func69, Tryd.ntmps69
  go_wp2
  go_ret
  exact ⟨rfl, rfl⟩

set_option maxHeartbeats 4000000 in
/-- errors.As, the error is an Errno: it is found. -/
theorem as_errno (x : Int) (t : Addr) (old : Value) (w : World) (hg : HasErr w) (ht0 : w.cell? t = some old) (hf0 : w.frozen? t = false) :
    Calls Tryd.prog 69 #[.iface 35 (.int .i64 x), .iface 152 (.pointer (some t))] w fun ev w' => ev = .returned (.bool true) ∧ ∃ w1, Below w.heap.size w w1 ∧ w' = w1.setCell t (.int .i64 x) := by
  have hVO := @run_callFunc_extern Tryd.prog 97 _ (fun args => ReflectliteValue.unpack (args.getD 0 (.tuple #[]))) Tryd.func97 (by kernel_rfl) (by kernel_rfl) (by kernel_rfl) (by kernel_rfl)
  have hTy := @run_callFunc_extern Tryd.prog 98 _ (ReflectliteValue.methodAny (ReflectliteValue.valueError "reflectlite.Value.Type" 0) (fun t _ _ _ => ReflectliteType.toType t)) Tryd.func98 (by kernel_rfl) (by kernel_rfl) (by kernel_rfl) (by kernel_rfl)
  have hIN := @run_callFunc_extern Tryd.prog 99 _ (ReflectliteValue.method (ReflectliteValue.valueError "reflectlite.Value.IsNil" 0) ReflectliteValue.isNil) Tryd.func99 (by kernel_rfl) (by kernel_rfl) (by kernel_rfl) (by kernel_rfl)
  have hKi := @run_callFunc_extern Tryd.prog 147 _ (ReflectliteType.abiMethod fun t => do pure (.int .u8 (← Rtype.kind t))) Tryd.func147 (by kernel_rfl) (by kernel_rfl) (by kernel_rfl) (by kernel_rfl)
  have hEl := @run_callFunc_extern Tryd.prog 160 _ (ReflectliteType.method ReflectliteType.elem) Tryd.func160 (by kernel_rfl) (by kernel_rfl) (by kernel_rfl) (by kernel_rfl)
  have hIm := @run_callFunc_extern Tryd.prog 161 _ (ReflectliteType.relation "Implements" ReflectliteType.implements_) Tryd.func161 (by kernel_rfl) (by kernel_rfl) (by kernel_rfl) (by kernel_rfl)
  have hTO := @run_callFunc_extern Tryd.prog 115 _ ReflectliteType.typeOf Tryd.func115 (by kernel_rfl) (by kernel_rfl) (by kernel_rfl) (by kernel_rfl)
  have hAT := @run_callFunc_extern Tryd.prog 158 _ (ReflectliteType.relation "AssignableTo" ReflectliteType.assignableTo) Tryd.func158 (by kernel_rfl) (by kernel_rfl) (by kernel_rfl) (by kernel_rfl)
  have hEV := @run_callFunc_extern Tryd.prog 116 _ (ReflectliteValue.method (ReflectliteValue.valueError "reflectlite.Value.Elem" 0) ReflectliteValue.elem) Tryd.func116 (by kernel_rfl) (by kernel_rfl) (by kernel_rfl) (by kernel_rfl)
  have hSe := @run_callFunc_extern Tryd.prog 117 _ ReflectliteValue.set Tryd.func117 (by kernel_rfl) (by kernel_rfl) (by kernel_rfl) (by kernel_rfl)
  have q1 := Tryd.rlValueOfPE
  have q2 := Tryd.rlTypePE
  have q3 := Tryd.rlMethodKind
  have q4 := Tryd.rlKindPE
  have q5 := Tryd.rlKindE
  have q6 := Tryd.rlMethodElem
  have q7 := Tryd.rlMethodImplements
  have q8 := Tryd.rlMethodAssignableTo
  have q9 := Tryd.rlElemPE
  have q10 := Tryd.rlImplementsE
  have q11 := Tryd.rlTypeOfE
  have q12 := Tryd.rlAssignableEE
  have q13 := Tryd.rlValueOfE
  have n8 := Tryd.rlIsNilPE ⟨w.heap.size, 0, none⟩ t ((w.alloc (.cells #[.pointer (some t)] 152)).alloc (.cells #[.pointer (some ⟨4, 152, none⟩), .pointer (some ⟨w.heap.size, 0, none⟩), .int .u64 150] 197)) (by simp)
  have hg2 : ((w.alloc (.cells #[.pointer (some t)] 152)).alloc (.cells #[.pointer (some ⟨4, 152, none⟩), .pointer (some ⟨w.heap.size, 0, none⟩), .int .u64 150] 197)).cell? ⟨0, 0, none⟩ = some (.iface 221 (.agg #[.pointer (some ⟨4, 41, none⟩)])) := (hg.alloc _).alloc _
  have htl : t.block < w.heap.size := by
    rcases Nat.lt_or_ge t.block w.heap.size with h | h
    · exact h
    · simp [World.cell?, Array.getElem?_eq_none h] at ht0
  have el := Tryd.rlElemVPE ⟨w.heap.size, 0, none⟩ t (((w.alloc (.cells #[.pointer (some t)] 152)).alloc (.cells #[.pointer (some ⟨4, 152, none⟩), .pointer (some ⟨w.heap.size, 0, none⟩), .int .u64 150] 197)).alloc (.cells #[.pointer (some ⟨4, 152, none⟩), .pointer (some ⟨w.heap.size, 0, none⟩), .int .u64 150] 197)) (by rw [World.cell?_alloc_lt _ _ ⟨w.heap.size, 0, none⟩ (by simp; omega)]; simp)
  have st := Tryd.rlSetE t ⟨w.heap.size + 1 + 1 + 1, 0, none⟩ x old ((((w.alloc (.cells #[.pointer (some t)] 152)).alloc (.cells #[.pointer (some ⟨4, 152, none⟩), .pointer (some ⟨w.heap.size, 0, none⟩), .int .u64 150] 197)).alloc (.cells #[.pointer (some ⟨4, 152, none⟩), .pointer (some ⟨w.heap.size, 0, none⟩), .int .u64 150] 197)).alloc (.cells #[.int .i64 x] 35))
    (by rw [World.cell?_alloc_at _ _ _ _ (by simp)]; rfl)
    (by rw [World.cell?_alloc_lt _ _ t (by simp; omega), World.cell?_alloc_lt _ _ t (by simp; omega), World.cell?_alloc_lt _ _ t (by simp; omega), World.cell?_alloc_lt _ _ t htl]; exact ht0)
    (by rw [World.frozen?_alloc_old _ _ t (by simp; omega), World.frozen?_alloc_old _ _ t (by simp; omega), World.frozen?_alloc_old _ _ t (by simp; omega), World.frozen?_alloc_old _ _ t (Nat.ne_of_lt htl)]; exact hf0)
  have hB : Below w.heap.size w ((((w.alloc (.cells #[.pointer (some t)] 152)).alloc (.cells #[.pointer (some ⟨4, 152, none⟩), .pointer (some ⟨w.heap.size, 0, none⟩), .int .u64 150] 197)).alloc (.cells #[.pointer (some ⟨4, 152, none⟩), .pointer (some ⟨w.heap.size, 0, none⟩), .int .u64 150] 197)).alloc (.cells #[.int .i64 x] 35)) := ((((Below.refl _ _).alloc (Nat.le_refl _) _).alloc (by simp) _).alloc (by simp; omega) _).alloc (by simp; omega) _
  have HB := Lib.hid hB
  clear hB
  go_enter Tryd.func69, Tryd.ntmps69
  go_wp2
  refine wp_loop_rounds 1 ?_
  rw [rounds_succ]
  go_wp2
  go_ret
  exact ⟨rfl, _, HB.out, rfl⟩
/-! What is asked of an *api.At: it has no As, it has an Unwrap. -/

theorem Tryd.noAsA (v : Value) (xT : TypeId) (w : World) : (Instr.typeAssert (.iface 142 v) xT 226 true).run Tryd.prog w = .ok (.tuple #[.nilIface, .bool false]) w :=
  run_typeAssert_lacksB Tryd.underlying226 (by kernel_rfl) (by kernel_rfl) v xT w

theorem Tryd.hasUnwrapA (v : Value) (xT : TypeId) (w : World) : (Instr.typeAssert (.iface 142 v) xT 175 true).run Tryd.prog w = .ok (.tuple #[.iface 142 v, .bool true]) w :=
  run_typeAssert_hasB Tryd.underlying175 (by kernel_rfl) v xT w

theorem Tryd.methodUnwrapA (a : Addr) (w : World) : (Go.method 372 142 (.pointer (some a)) "Unwrap").run Tryd.prog w = .ok (152, .pointer (some a)) w := by kernel_rfl

theorem Tryd.nilAheadA (a : Addr) (w : World) : (Go.nilAhead 372 142 (.pointer (some a)) "Unwrap").run Tryd.prog w = .ok (some false) w := by kernel_rfl

set_option maxHeartbeats 4000000 in
/-- errors.As, the error is an *api.At: its Unwrap is asked, and is an Errno. -/
theorem as_at (p : Nat) (x y : Int) (t : Addr) (old : Value) (w : World) (hp : Flt w p x y) (hg : HasErr w) (ht0 : w.cell? t = some old) (hf0 : w.frozen? t = false) :
    Calls Tryd.prog 69 #[.iface 142 (.pointer (some ⟨p, 0, none⟩)), .iface 152 (.pointer (some t))] w fun ev w' => ev = .returned (.bool true) ∧ ∃ w1, Below w.heap.size w w1 ∧ w' = w1.setCell t (.int .i64 x) := by
  have hVO := @run_callFunc_extern Tryd.prog 97 _ (fun args => ReflectliteValue.unpack (args.getD 0 (.tuple #[]))) Tryd.func97 (by kernel_rfl) (by kernel_rfl) (by kernel_rfl) (by kernel_rfl)
  have hTy := @run_callFunc_extern Tryd.prog 98 _ (ReflectliteValue.methodAny (ReflectliteValue.valueError "reflectlite.Value.Type" 0) (fun t _ _ _ => ReflectliteType.toType t)) Tryd.func98 (by kernel_rfl) (by kernel_rfl) (by kernel_rfl) (by kernel_rfl)
  have hIN := @run_callFunc_extern Tryd.prog 99 _ (ReflectliteValue.method (ReflectliteValue.valueError "reflectlite.Value.IsNil" 0) ReflectliteValue.isNil) Tryd.func99 (by kernel_rfl) (by kernel_rfl) (by kernel_rfl) (by kernel_rfl)
  have hKi := @run_callFunc_extern Tryd.prog 147 _ (ReflectliteType.abiMethod fun t => do pure (.int .u8 (← Rtype.kind t))) Tryd.func147 (by kernel_rfl) (by kernel_rfl) (by kernel_rfl) (by kernel_rfl)
  have hEl := @run_callFunc_extern Tryd.prog 160 _ (ReflectliteType.method ReflectliteType.elem) Tryd.func160 (by kernel_rfl) (by kernel_rfl) (by kernel_rfl) (by kernel_rfl)
  have hIm := @run_callFunc_extern Tryd.prog 161 _ (ReflectliteType.relation "Implements" ReflectliteType.implements_) Tryd.func161 (by kernel_rfl) (by kernel_rfl) (by kernel_rfl) (by kernel_rfl)
  have hTO := @run_callFunc_extern Tryd.prog 115 _ ReflectliteType.typeOf Tryd.func115 (by kernel_rfl) (by kernel_rfl) (by kernel_rfl) (by kernel_rfl)
  have hAT := @run_callFunc_extern Tryd.prog 158 _ (ReflectliteType.relation "AssignableTo" ReflectliteType.assignableTo) Tryd.func158 (by kernel_rfl) (by kernel_rfl) (by kernel_rfl) (by kernel_rfl)
  have hEV := @run_callFunc_extern Tryd.prog 116 _ (ReflectliteValue.method (ReflectliteValue.valueError "reflectlite.Value.Elem" 0) ReflectliteValue.elem) Tryd.func116 (by kernel_rfl) (by kernel_rfl) (by kernel_rfl) (by kernel_rfl)
  have hSe := @run_callFunc_extern Tryd.prog 117 _ ReflectliteValue.set Tryd.func117 (by kernel_rfl) (by kernel_rfl) (by kernel_rfl) (by kernel_rfl)
  have q1 := Tryd.rlValueOfPE
  have q2 := Tryd.rlTypePE
  have q3 := Tryd.rlMethodKind
  have q4 := Tryd.rlKindPE
  have q5 := Tryd.rlKindE
  have q6 := Tryd.rlMethodElem
  have q7 := Tryd.rlMethodImplements
  have q8 := Tryd.rlMethodAssignableTo
  have q9 := Tryd.rlElemPE
  have q10 := Tryd.rlImplementsE
  have q11 := Tryd.rlTypeOfE
  have q12 := Tryd.rlAssignableEE
  have q13 := Tryd.rlValueOfE
  have q14 := Tryd.rlTypeOfA
  have q15 := Tryd.rlAssignableAE
  have q16 := Tryd.noAsA
  have q17 := Tryd.hasUnwrapA
  have q18 := Tryd.methodUnwrapA
  have q19 := Tryd.nilAheadA
  have n8 := Tryd.rlIsNilPE ⟨w.heap.size, 0, none⟩ t ((w.alloc (.cells #[.pointer (some t)] 152)).alloc (.cells #[.pointer (some ⟨4, 152, none⟩), .pointer (some ⟨w.heap.size, 0, none⟩), .int .u64 150] 197)) (by simp)
  have hg2 : ((w.alloc (.cells #[.pointer (some t)] 152)).alloc (.cells #[.pointer (some ⟨4, 152, none⟩), .pointer (some ⟨w.heap.size, 0, none⟩), .int .u64 150] 197)).cell? ⟨0, 0, none⟩ = some (.iface 221 (.agg #[.pointer (some ⟨4, 41, none⟩)])) := (hg.alloc _).alloc _
  have htl : t.block < w.heap.size := by
    rcases Nat.lt_or_ge t.block w.heap.size with h | h
    · exact h
    · simp [World.cell?, Array.getElem?_eq_none h] at ht0
  have el := Tryd.rlElemVPE ⟨w.heap.size, 0, none⟩ t (((w.alloc (.cells #[.pointer (some t)] 152)).alloc (.cells #[.pointer (some ⟨4, 152, none⟩), .pointer (some ⟨w.heap.size, 0, none⟩), .int .u64 150] 197)).alloc (.cells #[.pointer (some ⟨4, 152, none⟩), .pointer (some ⟨w.heap.size, 0, none⟩), .int .u64 150] 197)) (by rw [World.cell?_alloc_lt _ _ ⟨w.heap.size, 0, none⟩ (by simp; omega)]; simp)
  have st := Tryd.rlSetE t ⟨w.heap.size + 1 + 1 + 1, 0, none⟩ x old ((((w.alloc (.cells #[.pointer (some t)] 152)).alloc (.cells #[.pointer (some ⟨4, 152, none⟩), .pointer (some ⟨w.heap.size, 0, none⟩), .int .u64 150] 197)).alloc (.cells #[.pointer (some ⟨4, 152, none⟩), .pointer (some ⟨w.heap.size, 0, none⟩), .int .u64 150] 197)).alloc (.cells #[.int .i64 x] 35))
    (by rw [World.cell?_alloc_at _ _ _ _ (by simp)]; rfl)
    (by rw [World.cell?_alloc_lt _ _ t (by simp; omega), World.cell?_alloc_lt _ _ t (by simp; omega), World.cell?_alloc_lt _ _ t (by simp; omega), World.cell?_alloc_lt _ _ t htl]; exact ht0)
    (by rw [World.frozen?_alloc_old _ _ t (by simp; omega), World.frozen?_alloc_old _ _ t (by simp; omega), World.frozen?_alloc_old _ _ t (by simp; omega), World.frozen?_alloc_old _ _ t (Nat.ne_of_lt htl)]; exact hf0)
  have hB : Below w.heap.size w ((((w.alloc (.cells #[.pointer (some t)] 152)).alloc (.cells #[.pointer (some ⟨4, 152, none⟩), .pointer (some ⟨w.heap.size, 0, none⟩), .int .u64 150] 197)).alloc (.cells #[.pointer (some ⟨4, 152, none⟩), .pointer (some ⟨w.heap.size, 0, none⟩), .int .u64 150] 197)).alloc (.cells #[.int .i64 x] 35)) := ((((Below.refl _ _).alloc (Nat.le_refl _) _).alloc (by simp) _).alloc (by simp; omega) _).alloc (by simp; omega) _
  have hc0 : (((w.alloc (.cells #[.pointer (some t)] 152)).alloc (.cells #[.pointer (some ⟨4, 152, none⟩), .pointer (some ⟨w.heap.size, 0, none⟩), .int .u64 150] 197)).alloc (.cells #[.pointer (some ⟨4, 152, none⟩), .pointer (some ⟨w.heap.size, 0, none⟩), .int .u64 150] 197)).cell? ⟨p, 0, none⟩ = some (.int .i64 x) := (((hp.alloc _).alloc _).alloc _).c0
  have HB := Lib.hid hB
  clear hB
  go_enter Tryd.func69, Tryd.ntmps69
  go_wp2
  refine wp_loop_rounds 2 ?_
  rw [rounds_succ]
  go_wp2
  rw [rounds_succ]
  go_wp2
  go_ret
  exact ⟨rfl, _, HB.out, rfl⟩

end Go.Proofs.YtdjljnpbnhampaaDoor

namespace Go.Proofs.YtdjljnpbnhampaaDoor
open Go.RowKit Go.Extern.Stop Go.Stop Go.Extern

/-- What errors.As leaves: the target holds the Errno; nothing else that was there is changed. -/
theorem as_left {t : Addr} {x : Int} {old : Value} {w w1 : World} (hb : Below w.heap.size w w1) (ht : w.cell? t = some old) :
    (w1.setCell t (.int .i64 x)).cell? t = some (.int .i64 x) ∧ w.grownBy (w1.setCell t (.int .i64 x)) (some t.block) := by
  have hlt : t.block < w.heap.size := World.block_lt_of_cell? w t ht
  have hc : w1.cell? t = some old := (hb.cell hlt).trans ht
  refine ⟨World.cell?_setCell_same' w1 t _ (by rw [hc]; rfl), hb.os, hb.tape, hb.output, by simpa [World.setCell] using hb.size, fun k hk hne => ?_⟩
  exact (Below.heap_setCell _ _ _ _ (by intro e; exact hne (by rw [e]))).trans (hb.block k hk)

theorem tell_nil (w : World) : Calls Tryd.prog 23 #[.nilIface] w fun e w' => e = .returned (.int .i64 0) ∧ w = w' := by
  go_enter Tryd.func23, Tryd.ntmps23
  go_wp2
  go_ret
  exact ⟨rfl, rfl⟩

theorem tell_errno (x : Int) (w : World) (hg : HasErr w) : Calls Tryd.prog 23 #[.iface 35 (.int .i64 x)] w fun e w' => e = .returned (.int .i64 x) ∧ Below w.heap.size w w' := by
  go_enter Tryd.func23, Tryd.ntmps23
  go_wp2_with fail
  have hc : (w.alloc (.cells #[.int .i64 0] 35)).cell? ⟨w.heap.size, 0, none⟩ = some (.int .i64 0) := by simp
  refine (as_errno x ⟨w.heap.size, 0, none⟩ (.int .i64 0) _ (hg.alloc _) hc (by simp)).mono ?_
  rintro e w' ⟨rfl, w1, hb1, rfl⟩
  obtain ⟨h1, h2⟩ := as_left (x := x) hb1 hc
  have hB : Below w.heap.size w (w1.setCell ⟨w.heap.size, 0, none⟩ (.int .i64 x)) := ((Below.refl _ _).alloc (Nat.le_refl _) _).grown h2 (by simp) (fun k e => by cases e; exact Nat.le_refl _)
  clear hb1 h2 hc
  generalize w1.setCell ⟨w.heap.size, 0, none⟩ (.int .i64 x) = w2 at *
  go_wp2
  go_ret
  exact ⟨rfl, hB⟩

theorem tell_at (p : Nat) (x y : Int) (w : World) (hg : HasErr w) (hp : Flt w p x y) : Calls Tryd.prog 23 #[.iface 142 (.pointer (some ⟨p, 0, none⟩))] w fun e w' => e = .returned (.int .i64 x) ∧ Below w.heap.size w w' := by
  go_enter Tryd.func23, Tryd.ntmps23
  go_wp2_with fail
  have hc : (w.alloc (.cells #[.int .i64 0] 35)).cell? ⟨w.heap.size, 0, none⟩ = some (.int .i64 0) := by simp
  refine (as_at p x y ⟨w.heap.size, 0, none⟩ (.int .i64 0) _ (hp.alloc _) (hg.alloc _) hc (by simp)).mono ?_
  rintro e w' ⟨rfl, w1, hb1, rfl⟩
  obtain ⟨h1, h2⟩ := as_left (x := x) hb1 hc
  have hB : Below w.heap.size w (w1.setCell ⟨w.heap.size, 0, none⟩ (.int .i64 x)) := ((Below.refl _ _).alloc (Nat.le_refl _) _).grown h2 (by simp) (fun k e => by cases e; exact Nat.le_refl _)
  clear hb1 h2 hc
  generalize w1.setCell ⟨w.heap.size, 0, none⟩ (.int .i64 x) = w2 at *
  go_wp2
  go_ret
  exact ⟨rfl, hB⟩

theorem Tryd.noUnwrapE (v : Value) (xT : TypeId) (w : World) : (Instr.typeAssert (.iface 35 v) xT 175 true).run Tryd.prog w = .ok (.tuple #[.nilIface, .bool false]) w :=
  run_typeAssert_lacksB Tryd.underlying175 (by kernel_rfl) (by kernel_rfl) v xT w

theorem Tryd.noAtE (v : Value) (w : World) : (Instr.typeAssert (.iface 35 v) 41 142 true).run Tryd.prog w = .ok (.tuple #[.pointer none, .bool false]) w := by kernel_rfl

theorem Tryd.isAtA (v : Value) (w : World) : (Instr.typeAssert (.iface 142 v) 41 142 true).run Tryd.prog w = .ok (.tuple #[v, .bool true]) w := by kernel_rfl

theorem place_nil (w : World) : Calls Tryd.prog 48 #[.nilIface] w fun e w' => e = .returned (.tuple #[.int .i64 0, .int .i64 (-1)]) ∧ w = w' := by
  go_enter Tryd.func48, Tryd.ntmps48
  go_wp2_with fail
  refine (tell_nil _).mono ?_
  rintro e w' ⟨rfl, rfl⟩
  go_wp2
  refine wp_loop_rounds 1 ?_
  rw [rounds_succ]
  go_wp2
  go_ret2
  exact ⟨rfl, rfl⟩

set_option maxRecDepth 100000 in
theorem place_errno (x : Int) (w : World) (hg : HasErr w) : Calls Tryd.prog 48 #[.iface 35 (.int .i64 x)] w fun e w' => e = .returned (.tuple #[.int .i64 x, .int .i64 (-1)]) ∧ Below w.heap.size w w' := by
  have q := Tryd.noUnwrapE
  have q2 := Tryd.noAtE
  go_enter Tryd.func48, Tryd.ntmps48
  go_wp2_with fail
  refine (tell_errno x _ hg).mono ?_
  rintro e w' ⟨rfl, hB⟩
  go_wp2
  refine wp_loop_rounds 1 ?_
  rw [rounds_succ]
  go_wp2
  go_ret2
  exact ⟨rfl, hB⟩

set_option maxRecDepth 100000 in
theorem place_at (p : Nat) (x y : Int) (w : World) (hg : HasErr w) (hp : Flt w p x y) : Calls Tryd.prog 48 #[.iface 142 (.pointer (some ⟨p, 0, none⟩))] w fun e w' => e = .returned (.tuple #[.int .i64 x, .int .i64 y]) ∧ Below w.heap.size w w' := by
  have q2 := Tryd.isAtA
  go_enter Tryd.func48, Tryd.ntmps48
  go_wp2_with fail
  refine (tell_at p x y _ hg hp).mono ?_
  rintro e w' ⟨rfl, hB⟩
  have hc : w'.cell? ⟨p, 1, none⟩ = some (.int .i64 y) := (hB.cell (p := ⟨p, 1, none⟩) hp.lt).trans hp.c1
  go_wp2
  refine wp_loop_rounds 1 ?_
  rw [rounds_succ]
  go_wp2
  go_region
  all_goals go_wp2
  all_goals go_ret2
  all_goals exact ⟨rfl, hB.drew⟩

end Go.Proofs.YtdjljnpbnhampaaDoor

namespace Go.Proofs.YtdjljnpbnhampaaDoor
open Go.RowKit
set_option linter.unusedVariables false

theorem placed_nil (w : World) : Calls Tryd.prog 9 #[.nilIface, .agg (ftC 0 (-1))] w fun e w' => e = .returned (.bool true) ∧ Below w.heap.size w w' := by
  have hb0 : Below w.heap.size w (w.alloc (.cells (ftC 0 (-1)) 37)) := (Below.refl _ _).alloc (Nat.le_refl _) _
  unfold ftC at *
  go_enter Tryd.func9, Tryd.ntmps9
  go_wp2_with fail
  refine (place_nil _).mono ?_
  rintro e w' ⟨rfl, rfl⟩
  go_wp2
  go_ret
  exact ⟨rfl, hb0⟩

theorem placed_at (q : Nat) (x y : Int) (w : World) (hE : HasErr w) (hq : Flt w q x y) : Calls Tryd.prog 9 #[.iface 142 (.pointer (some ⟨q, 0, none⟩)), .agg (ftC x y)] w fun e w' => e = .returned (.bool true) ∧ Below w.heap.size w w' := by
  have hb0 : Below w.heap.size w (w.alloc (.cells (ftC x y) 37)) := (Below.refl _ _).alloc (Nat.le_refl _) _
  have HB := Blk.new w 37 (ftC x y)
  have hq1 := hq.below hb0
  have hE1 : HasErr (w.alloc (.cells (ftC x y) 37)) := hE.below hb0
  go_enter Tryd.func9, Tryd.ntmps9
  go_upto_region 1 with (fail)
  generalize w.alloc (.cells (ftC x y) 37) = w1 at *
  go_wp2_with fail
  refine (place_at q x y _ hE1 hq1).mono ?_
  rintro e w2 ⟨rfl, b2⟩
  have HB2 := HB.kept b2
  have c0 := HB2.cv 0 (.int .i64 x) rfl
  have c1 := HB2.cv 1 (.int .i64 y) rfl
  have e1 : (x == x) = true := by simp
  have e2 : (y == y) = true := by simp
  go_wp2
  go_ret
  exact ⟨rfl, hb0.trans (b2.mono hb0.size)⟩

theorem placed_any (er : Value) (x y : Int) (w : World) (hE : HasErr w) (h : ErrAs w er x y) : Calls Tryd.prog 9 #[er, .agg (ftC x y)] w fun e w' => e = .returned (.bool true) ∧ Below w.heap.size w w' := by
  rcases h with ⟨rfl, rfl, rfl⟩ | ⟨_, q, rfl, hf⟩
  · exact placed_nil w
  · exact placed_at q x y w hE hf

end Go.Proofs.YtdjljnpbnhampaaDoor

namespace Go.Proofs.YtdjljnpbnhampaaDoor.mvrpReads
open Go.RowKit
attribute [local go_sem ↓] Go.wp_at_zero Go.wp_at_succ
set_option linter.unusedSimpArgs false
set_option linter.unusedVariables false
set_option maxRecDepth 100000

theorem recs_len (S : List UInt8) : (rdMvs S).recs.length ≤ 40 := by
  cases hR : rdMvs S with
  | bad e p => exact (show ([] : List Mv).length ≤ 40 from Nat.zero_le _)
  | ok l => exact (mvs_was hR).2.1

set_option maxHeartbeats 6400000 in
theorem walk_some (s : ByteArray) (w : World) (hE : HasErr w) (hs : s.size ≤ 2000) (X : List Mv) (hX : X.length ≤ 40) (e0 pl : Int)
    (HP1 : Hid (∀ W, Calls Tryd.prog 11 #[.string s] W fun e w' => ∃ a1 c1 l1, e = .returned (.tuple #[.slice a1 l1.length c1, .agg (ftC e0 pl)]) ∧ xs l1 = X ∧ MvsIn w' a1 l1 ∧ Below W.heap.size W w'))
    (HP2 : Hid (∀ W, Calls Tryd.prog 12 #[.string s] W fun e w' => ∃ a1 c1 l1 er, e = .returned (.tuple #[.slice a1 l1.length c1, er]) ∧ xs l1 = X ∧ MvsIn w' a1 l1 ∧ ErrAs w' er e0 pl ∧ Below W.heap.size W w')) :
    Calls Tryd.prog 4 #[.string s] w fun e w' => e = .returned (.bool true) ∧ Below w.heap.size w w' := by
  have h3 : decide ((2000 : Int) < (s.size : Int)) = false := decide_eq_false (by omega)
  have h3N : decide (2000 < s.size) = false := decide_eq_false (by omega)
  go_enter Tryd.func4, Tryd.ntmps4
  go_wp2_with fail
  refine (HP1.out _).mono ?_
  rintro e w2 ⟨a1, c1, l1, rfl, x1, M1, b2⟩
  have B2 := b2
  clear HP1 b2
  have HF3 := Blk.new w2 37 (ftC 0 0)
  have e3 : Below w2.heap.size w2 (w2.alloc (.cells (ftC 0 0) 37)) := (Below.refl _ _).alloc (Nat.le_refl _) _
  go_upto_region 4 with (first
    | (refine alloc_blk 37 (ftC 0 0) (by rfl) rfl Tryd.ftZero ?_)
    | (refine store_blk (k := 0) 37 (.agg (ftC e0 pl)) (ftC e0 pl) (by rfl) rfl rfl rfl HF3 (by kernel_rfl) (by exact Nat.le_refl 2) rfl rfl (fun w4 HF4 b4 g4 => ?_)))
  have e4 := e3.trans b4
  have M4 := M1.below e4
  have B4 := B2.trans (e4.mono B2.size)
  clear HF3 e3 b4 g4 e4 M1 B2
  generalize w2.heap.size = gf at *
  go_wp2_with fail
  refine (HP2.out _).mono ?_
  rintro e w5 ⟨a2, c2, l2, er, rfl, x2, M5, hE5, b5⟩
  have HF5 := HF4.kept b5
  have N5 := M4.below b5
  have B5 := B4.trans (b5.mono B4.size)
  have hEr := hE.below B5
  clear HP2 M4 B4 HF4 b5
  go_wp2_with (refine load_blk (k := 0) 37 (ftC e0 pl) (by rfl) rfl rfl HF5 (by kernel_rfl) (by kernel_rfl) rfl ?_)
  refine (placed_any er e0 pl _ hEr hE5).mono ?_
  rintro e w8 ⟨rfl, b8⟩
  have I8 := N5.below b8
  have K8 := M5.below b8
  have B8 := B5.trans (b8.mono B5.size)
  clear HF5 N5 M5 B5 b8 hEr hE5
  have hxx := x1.trans x2.symm
  have m1 : l1.length ≤ maxLen := by rw [← xs_len, x1]; unfold maxLen; omega
  have m2 : l2.length ≤ maxLen := by rw [← xs_len, x2]; unfold maxLen; omega
  have HSV := Lib.hid (sameVerdict_mv a1 a2 c1 c2 l1 l2 w8 I8 K8 m1 m2 hxx)
  clear x1 x2 hxx m1 m2 I8 K8
  generalize l1.length = n1 at *
  generalize l2.length = n2 at *
  go_wp2_with (first | (refine build_blk (o := ⟨some 25, _, _, _, _, _⟩) (t := 71) (vdV (.slice a1 n1 c1)) (by rfl) rfl (by kernel_rfl) ?_) | (refine build_blk (o := ⟨some 27, _, _, _, _, _⟩) (t := 71) (vdV (.slice a2 n2 c2)) (by rfl) rfl (by kernel_rfl) ?_))
  refine HSV.out.mono ?_
  rintro e w9 ⟨rfl, b9⟩
  go_wp2
  go_ret
  exact ⟨rfl, B8.trans (b9.mono B8.size)⟩

theorem walk (s : ByteArray) (w : World) (hE : HasErr w) :
    Calls Tryd.prog 4 #[.string s] w fun e w' => e = .returned (.bool true) ∧ Below w.heap.size w w' := by
  by_cases hs : s.size ≤ 2000
  · obtain ⟨R, hR⟩ : ∃ R, rdMvs s.data.toList = R := ⟨_, rfl⟩
    have hl : R.recs.length ≤ 40 := by rw [← hR]; exact recs_len _
    refine walk_some s w hE hs R.recs hl R.er R.pl (Lib.hid fun W => refMvRead_any s W (by omega) R hR _ fun a c l w' hx hi hb => ⟨a, c, l, rfl, hx, hi, hb⟩) (Lib.hid fun W => (mvRead_any s W (by omega)).mono ?_)
    rintro r w' ⟨v, er, hs2, rfl, h1, h2, h3, h4⟩
    rw [hR] at h1 h3
    obtain ⟨a, c, rfl, hm⟩ := ownAs_in h2
    exact ⟨a, c, hs2, er, rfl, h1, hm, h3, h4⟩
  · have h3 : decide ((2000 : Int) < (s.size : Int)) = true := decide_eq_true (by omega)
    have h3N : decide (2000 < s.size) = true := decide_eq_true (by omega)
    go_enter Tryd.func4, Tryd.ntmps4
    go_wp2
    go_ret
    exact ⟨rfl, Below.refl _ _⟩

end Go.Proofs.YtdjljnpbnhampaaDoor.mvrpReads

namespace Go.Proofs.YtdjljnpbnhampaaDoor
open Go.RowKit Go.WideShapes Go.ChangeShapes

/-- The specification is met: one result, which reads as told; the arguments and the named variables read as they did; old memory is as it was. -/
theorem met_below {P : Program} {H : Type} {enc : TypeId × Value → H} {f : Func} {s : ChangeSpec} {apart fresh handsOn again : Bool} {W W' : World} {args : Array Value} {v : Value} {ds gs : List (DataW H)} {places : List MemPlace}
    (whole : DataW.Whole enc P f.params.toList s.vars apart W args.toList ds gs places)
    (results : ∀ (b : Nat) (sp : Nat → Bool) (hd : Bool), DataW.TrodAll enc P W' b sp hd f.resultTypes.toList (v.resultList f.resultTypes.size) (s.fn H (ds ++ gs)).results [])
    (arguments : ∀ sp : Nat → Bool, (∀ p ∈ places, sp p.block = true) → DataW.TrodAll enc P W' 0 sp true f.params.toList args.toList (s.fn H (ds ++ gs)).args places)
    (variables : ∀ sp : Nat → Bool, DataW.TrodVars enc P W' sp s.vars (s.fn H (ds ++ gs)).vars [])
    (below : Below W.heap.size W W')
    (formed : ∀ (j : Nat) (t : TypeId) (r : Value), f.resultTypes[j]? = some t → (v.resultList f.resultTypes.size)[j]? = some r → Value.okWide P W' .any 0 t r) :
    s.post enc P f apart fresh handsOn again W args v W' := by
  have old : ∀ p ∈ places, p.block < W.heap.size := fun p hp => whole.lt p hp
  have oldB : ∀ p ∈ places, (fun b => decide (b < W.heap.size)) p.block = true := fun p hp => decide_eq_true (old p hp)
  obtain ⟨_, _, _, _, _, unfrozen, once⟩ := id whole
  refine ⟨ds, gs, places, [], places, [], whole, results _ _ _, arguments _ oldB, variables _, below.frame _, fun _ => ⟨formed, _, _, ([] ++ places) ++ [], ⟨[] ++ places, [], trodAll_append (arguments _ fun _ _ => rfl) (results _ _ _), variables _, rfl, fun b off hp => ?_, fun ha => by simpa using once ha⟩, fun p hp _ => by simpa using hp⟩⟩
  have hin : MemPlace.cell b off ∈ places := by simpa using hp
  exact (below.frozen (p := ⟨b, off, none⟩) (old _ hin)).trans (unfrozen b off hin)

end Go.Proofs.YtdjljnpbnhampaaDoor

namespace Go.Proofs.YtdjljnpbnhampaaDoor
open Go.ChangeShapes Go.WideShapes Go.ChangeAt Go.RowKit

theorem own : ownKnob Tryd.prog.godebug = none := by kernel_rfl

theorem Tryd.gErr : Tryd.prog.globalNamed "errors.errorType" = some 0 := by kernel_rfl

theorem Tryd.rtRow : (Tryd.prog.cutTypes.find? (·.1 == "internal/reflectlite.rtype")).map (·.2) = some 221 := by kernel_rfl

theorem Tryd.errRow : ((List.range 272).filter fun t => Tryd.prog.rowNamed t [101, 114, 114, 111, 114]) = [41] := by kernel_rfl

theorem Tryd.typesSize : Tryd.prog.types.size = 272 := by kernel_rfl

/-- A list that holds errors.errorType with the handle of the type error says what errors.As asks. -/
theorem hasErr_of_laid {W : World} {l : List (String × DataW Unit)} (h : laidMetH Tryd.prog l W) (hm : ("errors.errorType", Rows.laid_errors_errorType) ∈ l) : HasErr W := by
  obtain ⟨_, h2⟩ := laidMetH_iff.1 h
  obtain ⟨name, u, ty, e1, e2, e3, e4, e5⟩ := h2 _ (List.mem_filter.2 ⟨hm, by kernel_rfl⟩)
  have en : name = [101, 114, 114, 111, 114] := (Option.some.inj e1).symm
  subst en
  obtain rfl := Option.some.inj (Tryd.rtRow.symm.trans e2)
  have hin : ty ∈ (List.range 272).filter fun t => Tryd.prog.rowNamed t [101, 114, 114, 111, 114] := List.mem_filter.2 ⟨List.mem_range.2 (by rw [← Tryd.typesSize]; exact e3), e4⟩
  rw [Tryd.errRow] at hin
  obtain rfl := List.mem_singleton.1 hin
  have hh : typeHandle Tryd.prog 41 = .pointer (some ⟨4, 41, none⟩) := by kernel_rfl
  rw [hh] at e5
  have hc := World.var?_cell Tryd.gErr e5 0
  unfold HasErr
  simpa using hc

/-- The cells that a flat datum of integers lays. -/
def cellsOfDatum : DataW Unit → Array Value
  | .agg l => (l.map fun d => match d with | .lit (.int k n) => Value.int k n | _ => .int .u8 0).toArray
  | _ => #[]

/-- The door's own heap, and Go's own table beside it. -/
noncomputable def laidWorld (os : Os) : World :=
  let w0 := World.doorLaid Tryd.prog 400 os
  { w0 with heap := w0.heap.modify 1 fun | .cells _ t fr => .cells (cellsOfDatum Go.Pinned.utf8First) t fr | o => o }

end Go.Proofs.YtdjljnpbnhampaaDoor

namespace Go.Proofs.YtdjljnpbnhampaaDoor.mvrpReads
open Go.ChangeShapes Go.WideShapes Go.ChangeAt Go.RowKit
set_option linter.unusedVariables false

theorem laid_met (os : Os) : laidMetH Tryd.prog Rows.mvrpReadsRow.laid ((laidWorld os).forCall (fun _ _ => 0) ⟨#[], #[.string ⟨#[]⟩], []⟩).memory :=
  laidMetH_of_parts3 (fuel := 8) (laidMet_of_run' 8 (by kernel_rfl) (by kernel_rfl)) (by kernel_rfl) (by kernel_rfl)

theorem reads (os : Os) {H : Type} (enc : TypeId × Value → H) : ∃ places, DataW.whole enc Tryd.prog ((laidWorld os).forCall (fun _ _ => 0) ⟨#[], #[.string ⟨#[]⟩], []⟩).memory Tryd.f4.params.toList Rows.mvrpReadsSpec.vars false #[Value.string ⟨#[]⟩].toList 8 = some ([.lit (.string [])], [], places) :=
  ⟨[], by kernel_rfl⟩

set_option maxRecDepth 100000 in
theorem lifted (os : Os) (started : os.Started) (H : Type) (enc : TypeId × Value → H) (F : Stop.Interp) :
    ReturnsInHanded {} Tryd.checked os 4 .any ((OpenSpec.ofChange Rows.mvrpReadsSpec).preRow enc Tryd.prog Tryd.f4 Rows.mvrpReadsRow.domain false Rows.mvrpReadsRow.laid) (((OpenSpec.ofChange Rows.mvrpReadsSpec).at F).post enc Tryd.prog Tryd.f4 false true false false) := by
  obtain ⟨places, hx⟩ := reads os enc
  refine returnsInHanded_of_row (C := Tryd.checked) (s := OpenSpec.ofChange Rows.mvrpReadsSpec) own started (by kernel_rfl) Tryd.func4
    (witness_row_at (enc := enc) (C := Tryd.checked) false (laidWorld os) #[.string ⟨#[]⟩] rfl (by kernel_rfl) (by kernel_rfl) (by kernel_rfl)
      (OpenSpec.preRow_of_cond 8 hx (by kernel_rfl) (fun k hk => by cases hk) (by kernel_rfl) (laid_met os))) ?_
  intro W base args ds gs before hval0 hW _ _ hSz hL hsh _
  have hval : ∀ (j : Nat) t v, Tryd.f4.params[j]? = some t → args[j]? = some v → Value.okWide Tryd.prog W .any base t v := hval0
  have hE := hasErr_of_laid hL (by simp [Rows.mvrpReadsRow])
  have hW' := hW
  obtain ⟨p, q, hA0, hV, rfl, hfz, hnd⟩ := hW
  have hA : DataW.TrodAll enc Tryd.prog W 0 (fun _ => true) true Tryd.f4.params.toList args.toList ds p := hA0
  rw [Tryd.params4] at hA hval
  obtain ⟨v0, vs0, d0, ds0, p0, q0, hargs, rfl, rfl, h0, r0⟩ := trodAll_cons hA
  obtain ⟨rfl, rfl, rfl⟩ := trodAll_nil r0
  obtain rfl : args = #[v0] := by cases args; simp_all
  obtain ⟨rfl, rfl⟩ := trodVars_none hV
  obtain ⟨a0, rfl, rfl, rfl, w0⟩ := ChangeMaps.open_string Tryd.underlying9 (hval 0 9 v0 rfl rfl) h0
  clear hA0
  simp only [List.append_nil] at hW'
  refine (walk a0 W hE).mono fun e W' ⟨he, hb⟩ => ?_
  subst he
  exact ⟨_, rfl, met_below hW' (fun _ _ _ => (trodAll_cons_mk (shut_bool Tryd.underlying4 _) trodAll_mk0)) (fun sp _ => (trodAll_cons_mk (ChangeMaps.shut_string Tryd.underlying9 w0) trodAll_mk0)) (fun _ => rfl) hb
    (ok_one (by kernel_rfl) rfl (okWide_bool_mk Tryd.underlying4 _))⟩

theorem said : Rows.MvrpReadsSaid :=
  OpenClaim.holds_of_cond 4 Tryd.f4 rfl rfl rfl rfl rfl rfl rfl ⟨rfl, rfl, rfl, rfl, rfl⟩ rfl rfl rfl rfl rfl (by kernel_rfl) Tryd.func4 (by kernel_rfl)
    (of_decide_eq_true (by kernel_rfl)) (by unfold Func.isWrapper; first | (rw [if_pos (by decide +kernel)]; kernel_rfl) | (rw [if_neg (by decide +kernel)]; exact ⟨rfl, rfl⟩))
    (fun os started H enc _ F => by rw [OpenClaim.pre_eq_preRow]; exact lifted os started H enc F)

theorem plain (f : FuncId) (fn : Func) (hf : Tryd.pinned.checked.prog.funcNamed "switchyard/switchyardlaw.MvrpReads" = some f) (hfn : Tryd.pinned.checked.prog.funcs[f]? = some fn) :
    true = Tryd.pinned.checked.prog.looks [] ∧ ∀ (j : Nat) t, fn.params[j]? = some t → Tryd.pinned.checked.prog.wantsStandIn t = false := by
  obtain rfl : f = 4 := Option.some.inj ((show Tryd.prog.funcNamed "switchyard/switchyardlaw.MvrpReads" = some 4 by kernel_rfl).symm.trans hf) |>.symm
  obtain rfl : fn = Tryd.f4 := (Option.some.inj (Tryd.func4.symm.trans hfn)).symm
  refine ⟨by kernel_rfl, fun j t ht => ?_⟩
  rw [Tryd.params4] at ht
  have hm : t ∈ #[9] := Array.mem_of_getElem? ht
  simp only [List.mem_toArray, List.mem_cons, List.not_mem_nil, or_false] at hm
  rcases hm with rfl
  · exact (show Tryd.prog.wantsStandIn 9 = false by kernel_rfl)

theorem card : Rows.MvrpReadsCardSaid :=
  Claim7.holds_tied_plain_at .later [] _ _ _ _ said (fun _ h => by cases h) (by kernel_rfl) (fun _ h => by cases h) mvrpReads_row_tie rfl ⟨rfl, rfl⟩ (by kernel_rfl) rfl plain (by kernel_rfl)
#print axioms card

end Go.Proofs.YtdjljnpbnhampaaDoor.mvrpReads

