/- switchyardkeep.WireParts returns true for every text and every two numbers, and changes nothing that was there. -/
import Derived.Test.YtiikdmempgmlnaaLow
import Derived.Test.YtiikdmempgmlnaaPost
import Derived.Test.YtiikdmempgmlnaaRows
import Derived.ProofKit
import Derived.OpenShut
namespace Go.Proofs.Ytiikdmempgmlnaa.wireParts
open Go.ChangeShapes Go.WideShapes Go.ChangeAt Go.RowKit
set_option linter.unusedVariables false

theorem long (s : ByteArray) (a1 a2 : Int) (w : World) (hs : 200 < s.size) :
    Calls Try.prog 4 #[.string s, .int .i64 a1, .int .i64 a2] w fun e w' => e = .returned (.bool true) ∧ Below w.heap.size w w' := by
  go_enter Try.func4, Try.ntmps4
  go_wp2_with fail
  refine (wired_any _).mono ?_
  rintro e w1 ⟨rfl, hb1⟩
  go_wp2
  go_ret
  exact ⟨rfl, hb1⟩

set_option maxHeartbeats 800000 in
theorem short (s : ByteArray) (a1 a2 : Int) (w : World) (hs : ¬ 200 < s.size) :
    Calls Try.prog 4 #[.string s, .int .i64 a1, .int .i64 a2] w fun e w' => e = .returned (.bool true) ∧ Below w.heap.size w w' := by
  go_enter Try.func4, Try.ntmps4
  go_wp2_with fail
  refine (wired_any _).mono ?_
  rintro e w1 ⟨rfl, hb1⟩
  have hs1 := hb1.size
  go_wp2_with fail
  rw [show (s.size : Int) + 1 = ((s.size + 1 : Nat) : Int) by omega]
  refine (pick_any _ (s.size + 1) _ (by omega) (by omega)).mono ?_
  rintro e w2 ⟨n, rfl, hn, rfl⟩
  go_wp2_with fail
  rw [show (s.size : Int) - n + 1 = ((s.size - n + 1 : Nat) : Int) by omega]
  refine (pick_any _ (s.size - n + 1) _ (by omega) (by omega)).mono ?_
  rintro e w2 ⟨m, rfl, hm, rfl⟩
  go_wp2_with fail
  refine (new_any _ _ _).mono ?_
  rintro e w2 ⟨rfl, rfl⟩
  go_wp2_with fail
  refine (new_any _ _ _).mono ?_
  rintro e w2 ⟨rfl, rfl⟩
  have ra : Rd ((w1.alloc (.cells #[.string s, .int .i64 0, .pointer none] 43)).alloc (.cells #[.string s, .int .i64 0, .pointer none] 43)) w1.heap.size s 0 none := Rd.alloc (heap_alloc_new w1 _) _
  have rb : Rd ((w1.alloc (.cells #[.string s, .int .i64 0, .pointer none] 43)).alloc (.cells #[.string s, .int .i64 0, .pointer none] 43)) (w1.heap.size + 1) s 0 none := by
    have h := heap_alloc_new (w1.alloc (.cells #[.string s, .int .i64 0, .pointer none] 43)) (.cells #[.string s, .int .i64 0, .pointer none] 43)
    rw [show (w1.alloc (.cells #[.string s, .int .i64 0, .pointer none] 43)).heap.size = w1.heap.size + 1 by simp] at h
    exact h
  have hb2 : Below w.heap.size w ((w1.alloc (.cells #[.string s, .int .i64 0, .pointer none] 43)).alloc (.cells #[.string s, .int .i64 0, .pointer none] 43)) := (hb1.alloc hs1 _).alloc (by simp; omega) _
  have hs2 := hb2.size
  go_wp2_with fail
  refine (bytes_read n _ ra (by omega) (by omega) (by omega)).mono ?_
  rintro e w3 ⟨rfl, ra3, g3⟩
  have rb3 := rb.kept g3 (by simp)
  have hb3 := grown_below hb2 g3 hs2 hs1
  clear ra rb g3 hb2
  go_wp2_with fail
  have hz : (s.extract n s.size).size = s.size - n := by simp
  refine (bytes_read m _ ra3 (by rw [hz]; omega) (by omega) (by rw [hz]; omega)).mono ?_
  clear hz
  rintro e w4 ⟨rfl, ra4, g4⟩
  have rb4 := rb3.kept g4 (by simp)
  have hb4 := grown_below hb3 g4 hb3.size hs1
  clear ra3 rb3 g4 hb3
  go_wp2_with fail
  rw [extract_cat s n m (by omega), show (n : Int) + m = ((n + m : Nat) : Int) by omega]
  rw [extract_extract s n m] at ra4
  refine (bytes_read (n + m) _ rb4 (by omega) (by omega) (by omega)).mono ?_
  rintro e w5 ⟨rfl, rb5, g5⟩
  have ra5 := ra4.kept g5 (by simp)
  have hb5 := grown_below hb4 g5 hb4.size (by omega)
  clear ra4 rb4 g5 hb4
  have ea : (0 : Int) + n + m = (n + m : Nat) := by omega
  have eb : (0 : Int) + ((n + m : Nat) : Int) = (n + m : Nat) := by omega
  rw [ea] at ra5
  rw [eb] at rb5
  clear ea eb
  go_wp2_with fail
  refine (at_any _ ra5).mono ?_
  rintro e w6 ⟨rfl, rfl⟩
  go_wp2_with fail
  refine (at_any _ rb5).mono ?_
  rintro e w6 ⟨rfl, rfl⟩
  go_wp2_with fail
  refine (left_any _ ra5).mono ?_
  rintro e w6 ⟨rfl, rfl⟩
  go_wp2_with fail
  refine (left_any _ rb5).mono ?_
  rintro e w6 ⟨rfl, rfl⟩
  go_wp2_with fail
  refine (err_none _ ra5).mono ?_
  rintro e w6 ⟨rfl, rfl⟩
  go_wp2_with fail
  refine (err_none _ rb5).mono ?_
  rintro e w6 ⟨rfl, rfl⟩
  go_wp2
  go_ret
  exact ⟨rfl, hb5⟩

theorem walk (s : ByteArray) (a1 a2 : Int) (w : World) :
    Calls Try.prog 4 #[.string s, .int .i64 a1, .int .i64 a2] w fun e w' => e = .returned (.bool true) ∧ Below w.heap.size w w' := by
  by_cases hs : 200 < s.size
  · exact long s a1 a2 w hs
  · exact short s a1 a2 w hs

theorem own : ownKnob Try.prog.godebug = none := by kernel_rfl

set_option maxRecDepth 100000 in
theorem lifted (os : Os) (started : os.Started) (H : Type) (enc : TypeId × Value → H) :
    ReturnsInHanded {} Try.checked os 4 .any (Rows.wirePartsSpec.pre6 enc Try.prog Try.f4 Rows.wirePartsRow.domain false) (Rows.wirePartsSpec.post enc Try.prog Try.f4 false true false false) := by
  refine returnsInHanded_of_change (C := Try.checked) own started (by kernel_rfl) Try.func4
    (ChangeSpec.witness6 (enc := enc) (C := Try.checked) false ⟨#[], #[.string ⟨#[]⟩, .int .i64 0, .int .i64 0], []⟩ 8 (by kernel_rfl) (by kernel_rfl) (by kernel_rfl) (by kernel_rfl)) ?_
  intro W base args ds gs before hval0 hW hcnd _
  have hval : ∀ (j : Nat) t v, Try.f4.params[j]? = some t → args[j]? = some v → Value.okWide Try.prog W .any base t v := hval0
  have hW' := hW
  obtain ⟨p, q, hA0, hV, rfl, hfz, hnd⟩ := hW
  have hA : DataW.TrodAll enc Try.prog W 0 (fun _ => true) true Try.f4.params.toList args.toList ds p := hA0
  rw [Try.params4] at hA hval
  obtain ⟨v0, vs0, d0, ds0, p0, q0, hargs, rfl, rfl, h0, r0⟩ := trodAll_cons hA
  obtain ⟨v1, vs1, d1, ds1, p1, q1, rfl, rfl, rfl, h1, r1⟩ := trodAll_cons r0
  obtain ⟨v2, vs2, d2, ds2, p2, q2, rfl, rfl, rfl, h2, r2⟩ := trodAll_cons r1
  obtain ⟨rfl, rfl, rfl⟩ := trodAll_nil r2
  obtain rfl : args = #[v0, v1, v2] := by cases args; simp_all
  obtain ⟨rfl, rfl⟩ := trodVars_none hV
  obtain ⟨a0, rfl, rfl, rfl, w0⟩ := ChangeMaps.open_string Try.underlying9 (hval 0 9 v0 rfl rfl) h0
  obtain ⟨a1, rfl, rfl, rfl, w1⟩ := open_int Try.underlying3 (hval 1 3 v1 rfl rfl) h1
  obtain ⟨a2, rfl, rfl, rfl, w2⟩ := open_int Try.underlying3 (hval 2 3 v2 rfl rfl) h2
  clear hA0 hval0
  simp only [List.append_nil] at hW'
  refine (walk a0 a1 a2 W).mono fun e W' ⟨he, hb⟩ => ?_
  subst he
  exact ⟨_, rfl, met_below hW' (fun _ _ _ => (trodAll_cons_mk (shut_bool Try.underlying4 _) trodAll_mk0)) (fun sp _ => (trodAll_cons_mk (ChangeMaps.shut_string Try.underlying9 w0) (trodAll_cons_mk (shut_int Try.underlying3 w1) (trodAll_cons_mk (shut_int Try.underlying3 w2) trodAll_mk0)))) (fun _ => rfl) hb
    (ok_one (by kernel_rfl) rfl (okWide_bool_mk Try.underlying4 _))⟩

theorem over : Rows.wirePartsRow.holds Try.pinned (OpenSpec.ofChange Rows.wirePartsSpec) :=
  OpenClaim.holds_of_wide 4 Try.f4 rfl rfl rfl rfl rfl rfl rfl ⟨rfl, rfl, rfl, rfl, rfl⟩ rfl rfl rfl rfl rfl (by kernel_rfl) Try.func4 (by kernel_rfl)
    (of_decide_eq_true (by kernel_rfl)) (by unfold Func.isWrapper; first | (rw [if_pos (by decide +kernel)]; kernel_rfl) | (rw [if_neg (by decide +kernel)]; exact ⟨rfl, rfl⟩))
    (fun os started H enc _ => lifted os started H enc)

theorem proved : Rows.WirePartsSaid := over
#print axioms proved
end Go.Proofs.Ytiikdmempgmlnaa.wireParts
