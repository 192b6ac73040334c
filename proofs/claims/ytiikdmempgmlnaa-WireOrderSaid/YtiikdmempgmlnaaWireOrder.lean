/- switchyardkeep.WireOrder returns true for every two numbers and every width, and changes nothing that was there. -/
import Derived.Test.YtiikdmempgmlnaaLow
import Derived.Test.YtiikdmempgmlnaaPost
import Derived.Test.YtiikdmempgmlnaaRows
import Derived.ProofKit
import Derived.OpenShut
namespace Go.Proofs.Ytiikdmempgmlnaa.wireOrder
open Go.ChangeShapes Go.WideShapes Go.ChangeAt Go.RowKit
set_option linter.unusedVariables false

/-- One call of Put, whichever way it ends. -/
def PutPost (X n : Nat) (w : World) (e : Ending) (w' : World) : Prop :=
  (X < 256 ^ n ∧ e = .returned (.tuple #[.string ⟨(putL X n).toArray⟩, .nilIface]) ∧ Below w.heap.size w w') ∨
  (¬ X < 256 ^ n ∧ e = .returned (.tuple #[.string ⟨#[]⟩, .iface 39 (.int .i64 12)]) ∧ w = w')

theorem put_any (X n : Nat) (w : World) (h1 : 1 ≤ n) (h8 : n ≤ 8) :
    Calls Try.prog 7 #[.int .u64 X, .int .i64 n] w (PutPost X n w) := by
  by_cases h : X < 256 ^ n
  · exact (put_fits X n w h1 h8 (fits_to X n h)).mono fun e w' q => Or.inl ⟨h, q⟩
  · exact (put_full X n w h1 h8 (fits_not X n h)).mono fun e w' q => Or.inr ⟨h, q⟩

set_option maxHeartbeats 800000 in
theorem walk (X Y : Nat) (a2 : Int) (w : World) :
    Calls Try.prog 3 #[.int .u64 X, .int .u64 Y, .int .i64 a2] w fun e w' => e = .returned (.bool true) ∧ Below w.heap.size w w' := by
  go_enter Try.func3, Try.ntmps3
  go_wp2_with fail
  refine (wired_any _).mono ?_
  rintro e w1 ⟨rfl, hb1⟩
  go_wp2_with fail
  refine (pick_any _ 8 _ (by omega) (by omega)).mono ?_
  rintro e w2 ⟨r, rfl, hr, rfl⟩
  have hs1 := hb1.size
  go_wp2_with fail
  rw [show (1 : Int) + (r : Int) = ((1 + r : Nat) : Int) by omega]
  refine (put_any X (1 + r) _ (by omega) (by omega)).mono ?_
  rintro e w2 (⟨hx, rfl, hb2⟩ | ⟨hx, rfl, rfl⟩)
  · have hb2' : Below w.heap.size w w2 := hb1.trans (hb2.mono hs1)
    have hs2 := hb2'.size
    clear hb1 hb2
    go_wp2_with fail
    refine (put_any Y (1 + r) _ (by omega) (by omega)).mono ?_
    rintro e w3 (⟨hy, rfl, hb3⟩ | ⟨hy, rfl, rfl⟩)
    · have hb3' : Below w.heap.size w w3 := hb2'.trans (hb3.mono hs2)
      have hl := less_putL_fits X Y (1 + r) hx hy
      have hi := putL_inj X Y (1 + r) hx hy
      clear hb3 hb2' hx hy
      rcases Nat.lt_trichotomy X Y with h | h | h
      · have e1 : Op.bytesLess (putL X (1 + r)) (putL Y (1 + r)) = true := by rw [hl]; exact decide_eq_true h
        have e2 : (putL X (1 + r) == putL Y (1 + r)) = false := beq_eq_false_iff_ne.2 fun q => by have := hi q; omega
        have e3 : ((X : Int) == (Y : Int)) = false := beq_eq_false_iff_ne.2 (by omega)
        clear hl hi
        go_wp2
        go_ret
        exact ⟨rfl, hb3'⟩
      · subst h
        have e1 : Op.bytesLess (putL X (1 + r)) (putL X (1 + r)) = false := by rw [hl]; exact decide_eq_false (by omega)
        clear hl hi
        go_wp2
        go_ret
        exact ⟨rfl, hb3'⟩
      · have e1 : Op.bytesLess (putL X (1 + r)) (putL Y (1 + r)) = false := by rw [hl]; exact decide_eq_false (by omega)
        have e2 : (putL X (1 + r) == putL Y (1 + r)) = false := beq_eq_false_iff_ne.2 fun q => by have := hi q; omega
        have e3 : ((X : Int) == (Y : Int)) = false := beq_eq_false_iff_ne.2 (by omega)
        have e4 : ¬ X < Y := by omega
        clear hl hi
        go_wp2
        go_ret
        exact ⟨rfl, hb3'⟩
    · go_wp2
      go_ret
      exact ⟨rfl, hb2'⟩
  · go_wp2_with fail
    refine (put_any Y (1 + r) _ (by omega) (by omega)).mono ?_
    rintro e w3 (⟨hy, rfl, hb3⟩ | ⟨hy, rfl, rfl⟩)
    · have hb3' : Below w.heap.size w w3 := hb1.trans (hb3.mono hs1)
      go_wp2
      go_ret
      exact ⟨rfl, hb3'⟩
    · go_wp2
      go_ret
      exact ⟨rfl, hb1⟩

theorem own : ownKnob Try.prog.godebug = none := by kernel_rfl

set_option maxRecDepth 100000 in
theorem lifted (os : Os) (started : os.Started) (H : Type) (enc : TypeId × Value → H) :
    ReturnsInHanded {} Try.checked os 3 .any (Rows.wireOrderSpec.pre6 enc Try.prog Try.f3 Rows.wireOrderRow.domain false) (Rows.wireOrderSpec.post enc Try.prog Try.f3 false true false false) := by
  refine returnsInHanded_of_change (C := Try.checked) own started (by kernel_rfl) Try.func3
    (ChangeSpec.witness6 (enc := enc) (C := Try.checked) false ⟨#[], #[.int .u64 0, .int .u64 0, .int .i64 0], []⟩ 8 (by kernel_rfl) (by kernel_rfl) (by kernel_rfl) (by kernel_rfl)) ?_
  intro W base args ds gs before hval0 hW hcnd _
  have hval : ∀ (j : Nat) t v, Try.f3.params[j]? = some t → args[j]? = some v → Value.okWide Try.prog W .any base t v := hval0
  have hW' := hW
  obtain ⟨p, q, hA0, hV, rfl, hfz, hnd⟩ := hW
  have hA : DataW.TrodAll enc Try.prog W 0 (fun _ => true) true Try.f3.params.toList args.toList ds p := hA0
  rw [Try.params3] at hA hval
  obtain ⟨v0, vs0, d0, ds0, p0, q0, hargs, rfl, rfl, h0, r0⟩ := trodAll_cons hA
  obtain ⟨v1, vs1, d1, ds1, p1, q1, rfl, rfl, rfl, h1, r1⟩ := trodAll_cons r0
  obtain ⟨v2, vs2, d2, ds2, p2, q2, rfl, rfl, rfl, h2, r2⟩ := trodAll_cons r1
  obtain ⟨rfl, rfl, rfl⟩ := trodAll_nil r2
  obtain rfl : args = #[v0, v1, v2] := by cases args; simp_all
  obtain ⟨rfl, rfl⟩ := trodVars_none hV
  obtain ⟨a0, rfl, rfl, rfl, w0⟩ := open_int Try.underlying22 (hval 0 22 v0 rfl rfl) h0
  obtain ⟨a1, rfl, rfl, rfl, w1⟩ := open_int Try.underlying22 (hval 1 22 v1 rfl rfl) h1
  obtain ⟨a2, rfl, rfl, rfl, w2⟩ := open_int Try.underlying3 (hval 2 3 v2 rfl rfl) h2
  clear hA0 hval0
  simp only [List.append_nil] at hW'
  obtain ⟨X, rfl⟩ := Int.eq_ofNat_of_zero_le (show 0 ≤ a0 by simp [Lit.wf, IntKind.min, IntKind.signed] at w0; omega)
  obtain ⟨Y, rfl⟩ := Int.eq_ofNat_of_zero_le (show 0 ≤ a1 by simp [Lit.wf, IntKind.min, IntKind.signed] at w1; omega)
  refine (walk X Y a2 W).mono fun e W' ⟨he, hb⟩ => ?_
  subst he
  exact ⟨_, rfl, met_below hW' (fun _ _ _ => (trodAll_cons_mk (shut_bool Try.underlying4 _) trodAll_mk0)) (fun sp _ => (trodAll_cons_mk (shut_int Try.underlying22 w0) (trodAll_cons_mk (shut_int Try.underlying22 w1) (trodAll_cons_mk (shut_int Try.underlying3 w2) trodAll_mk0)))) (fun _ => rfl) hb
    (ok_one (by kernel_rfl) rfl (okWide_bool_mk Try.underlying4 _))⟩

theorem over : Rows.wireOrderRow.holds Try.pinned (OpenSpec.ofChange Rows.wireOrderSpec) :=
  OpenClaim.holds_of_wide 3 Try.f3 rfl rfl rfl rfl rfl rfl rfl ⟨rfl, rfl, rfl, rfl, rfl⟩ rfl rfl rfl rfl rfl (by kernel_rfl) Try.func3 (by kernel_rfl)
    (of_decide_eq_true (by kernel_rfl)) (by unfold Func.isWrapper; first | (rw [if_pos (by decide +kernel)]; kernel_rfl) | (rw [if_neg (by decide +kernel)]; exact ⟨rfl, rfl⟩))
    (fun os started H enc _ => lifted os started H enc)

theorem proved : Rows.WireOrderSaid := over
#print axioms proved
end Go.Proofs.Ytiikdmempgmlnaa.wireOrder
