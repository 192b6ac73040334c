/- The card of switchyardlaw.MvrpReads: for every argument it returns true, and the arguments read as they did; what its row lists of package-level variables is tied to the program's text. -/
import Derived.Test.YtdjljnpbnhampaaDoorMkR2
import Derived.Test.YtdjljnpbnhampaaDoorMkR3
import Derived.Test.YtdjljnpbnhampaaDoorMkR4
import Derived.Below
import Derived.ChangeSame
import Derived.Test.YtdjljnpbnhampaaDoorRows
import Derived.Test.YtdjljnpbnhampaaDoorCards
import Derived.Test.YtdjljnpbnhampaaDoorTie
import Derived.ProofKit
import Derived.OpenShut
import Derived.LaidHandle
import Derived.LaidMore
import Derived.LaidSub
import Derived.Deep.DeepHandedRow
import Derived.Lib.LaidTab
namespace Go.Proofs.YtdjljnpbnhampaaDoor.mvrpReads
open Go.RowKit
attribute [local go_sem ↓] Go.wp_at_zero Go.wp_at_succ
set_option linter.unusedSimpArgs false
set_option linter.unusedVariables false
set_option maxRecDepth 100000

theorem recs_len (S : List UInt8) : (rdMvs S).recs.length ≤ 40 := by
  cases hR : rdMvs S with
  | bad e p => exact (show ([] : List Mv).length ≤ 40 from Nat.zero_le _)
  | ok l => exact (mvs_was hR).2.1

set_option maxHeartbeats 6400000 in
theorem walk_some (s : ByteArray) (w : World) (hE : HasErr w) (hs : s.size ≤ 2000) (X : List Mv) (hX : X.length ≤ 40) (e0 pl : Int)
    (HP1 : Hid (∀ W, Calls Tryd.prog 11 #[.string s] W fun e w' => ∃ a1 c1 l1, e = .returned (.tuple #[.slice a1 l1.length c1, .agg (ftC e0 pl)]) ∧ xs l1 = X ∧ MvsIn w' a1 l1 ∧ Below W.heap.size W w'))
    (HP2 : Hid (∀ W, Calls Tryd.prog 12 #[.string s] W fun e w' => ∃ a1 c1 l1 er, e = .returned (.tuple #[.slice a1 l1.length c1, er]) ∧ xs l1 = X ∧ MvsIn w' a1 l1 ∧ ErrAs w' er e0 pl ∧ Below W.heap.size W w')) :
    Calls Tryd.prog 4 #[.string s] w fun e w' => e = .returned (.bool true) ∧ Below w.heap.size w w' := by
  have h3 : decide ((2000 : Int) < (s.size : Int)) = false := decide_eq_false (by omega)
  have h3N : decide (2000 < s.size) = false := decide_eq_false (by omega)
  go_enter Tryd.func4, Tryd.ntmps4
  go_wp2_with fail
  refine (HP1.out _).mono ?_
  rintro e w2 ⟨a1, c1, l1, rfl, x1, M1, b2⟩
  have B2 := b2
  clear HP1 b2
  have HF3 := Blk.new w2 37 (ftC 0 0)
  have e3 : Below w2.heap.size w2 (w2.alloc (.cells (ftC 0 0) 37)) := (Below.refl _ _).alloc (Nat.le_refl _) _
  go_upto_region 4 with (first
    | (refine alloc_blk 37 (ftC 0 0) (by rfl) rfl Tryd.ftZero ?_)
    | (refine store_blk (k := 0) 37 (.agg (ftC e0 pl)) (ftC e0 pl) (by rfl) rfl rfl rfl HF3 (by kernel_rfl) (by exact Nat.le_refl 2) rfl rfl (fun w4 HF4 b4 g4 => ?_)))
  have e4 := e3.trans b4
  have M4 := M1.below e4
  have B4 := B2.trans (e4.mono B2.size)
  clear HF3 e3 b4 g4 e4 M1 B2
  generalize w2.heap.size = gf at *
  go_wp2_with fail
  refine (HP2.out _).mono ?_
  rintro e w5 ⟨a2, c2, l2, er, rfl, x2, M5, hE5, b5⟩
  have HF5 := HF4.kept b5
  have N5 := M4.below b5
  have B5 := B4.trans (b5.mono B4.size)
  have hEr := hE.below B5
  clear HP2 M4 B4 HF4 b5
  go_wp2_with (refine load_blk (k := 0) 37 (ftC e0 pl) (by rfl) rfl rfl HF5 (by kernel_rfl) (by kernel_rfl) rfl ?_)
  refine (placed_any er e0 pl _ hEr hE5).mono ?_
  rintro e w8 ⟨rfl, b8⟩
  have I8 := N5.below b8
  have K8 := M5.below b8
  have B8 := B5.trans (b8.mono B5.size)
  clear HF5 N5 M5 B5 b8 hEr hE5
  have hxx := x1.trans x2.symm
  have m1 : l1.length ≤ maxLen := by rw [← xs_len, x1]; unfold maxLen; omega
  have m2 : l2.length ≤ maxLen := by rw [← xs_len, x2]; unfold maxLen; omega
  have HSV := Lib.hid (sameVerdict_mv a1 a2 c1 c2 l1 l2 w8 I8 K8 m1 m2 hxx)
  clear x1 x2 hxx m1 m2 I8 K8
  generalize l1.length = n1 at *
  generalize l2.length = n2 at *
  go_wp2_with (first | (refine build_blk (o := ⟨some 25, _, _, _, _, _⟩) (t := 71) (vdV (.slice a1 n1 c1)) (by rfl) rfl (by kernel_rfl) ?_) | (refine build_blk (o := ⟨some 27, _, _, _, _, _⟩) (t := 71) (vdV (.slice a2 n2 c2)) (by rfl) rfl (by kernel_rfl) ?_))
  refine HSV.out.mono ?_
  rintro e w9 ⟨rfl, b9⟩
  go_wp2
  go_ret
  exact ⟨rfl, B8.trans (b9.mono B8.size)⟩

theorem walk (s : ByteArray) (w : World) (hE : HasErr w) :
    Calls Tryd.prog 4 #[.string s] w fun e w' => e = .returned (.bool true) ∧ Below w.heap.size w w' := by
  by_cases hs : s.size ≤ 2000
  · obtain ⟨R, hR⟩ : ∃ R, rdMvs s.data.toList = R := ⟨_, rfl⟩
    have hl : R.recs.length ≤ 40 := by rw [← hR]; exact recs_len _
    refine walk_some s w hE hs R.recs hl R.er R.pl (Lib.hid fun W => refMvRead_any s W (by omega) R hR _ fun a c l w' hx hi hb => ⟨a, c, l, rfl, hx, hi, hb⟩) (Lib.hid fun W => (mvRead_any s W (by omega)).mono ?_)
    rintro r w' ⟨v, er, hs2, rfl, h1, h2, h3, h4⟩
    rw [hR] at h1 h3
    obtain ⟨a, c, rfl, hm⟩ := ownAs_in h2
    exact ⟨a, c, hs2, er, rfl, h1, hm, h3, h4⟩
  · have h3 : decide ((2000 : Int) < (s.size : Int)) = true := decide_eq_true (by omega)
    have h3N : decide (2000 < s.size) = true := decide_eq_true (by omega)
    go_enter Tryd.func4, Tryd.ntmps4
    go_wp2
    go_ret
    exact ⟨rfl, Below.refl _ _⟩

end Go.Proofs.YtdjljnpbnhampaaDoor.mvrpReads

namespace Go.Proofs.YtdjljnpbnhampaaDoor
open Go.RowKit Go.WideShapes Go.ChangeShapes

/-- The specification is met: one result, which reads as told; the arguments and the named variables read as they did; old memory is as it was. -/
theorem met_below {P : Program} {H : Type} {enc : TypeId × Value → H} {f : Func} {s : ChangeSpec} {apart fresh handsOn again : Bool} {W W' : World} {args : Array Value} {v : Value} {ds gs : List (DataW H)} {places : List MemPlace}
    (whole : DataW.Whole enc P f.params.toList s.vars apart W args.toList ds gs places)
    (results : ∀ (b : Nat) (sp : Nat → Bool) (hd : Bool), DataW.TrodAll enc P W' b sp hd f.resultTypes.toList (v.resultList f.resultTypes.size) (s.fn H (ds ++ gs)).results [])
    (arguments : ∀ sp : Nat → Bool, (∀ p ∈ places, sp p.block = true) → DataW.TrodAll enc P W' 0 sp true f.params.toList args.toList (s.fn H (ds ++ gs)).args places)
    (variables : ∀ sp : Nat → Bool, DataW.TrodVars enc P W' sp s.vars (s.fn H (ds ++ gs)).vars [])
    (below : Below W.heap.size W W')
    (formed : ∀ (j : Nat) (t : TypeId) (r : Value), f.resultTypes[j]? = some t → (v.resultList f.resultTypes.size)[j]? = some r → Value.okWide P W' .any 0 t r) :
    s.post enc P f apart fresh handsOn again W args v W' := by
  have old : ∀ p ∈ places, p.block < W.heap.size := fun p hp => whole.lt p hp
  have oldB : ∀ p ∈ places, (fun b => decide (b < W.heap.size)) p.block = true := fun p hp => decide_eq_true (old p hp)
  obtain ⟨_, _, _, _, _, unfrozen, once⟩ := id whole
  refine ⟨ds, gs, places, [], places, [], whole, results _ _ _, arguments _ oldB, variables _, below.frame _, fun _ => ⟨formed, _, _, ([] ++ places) ++ [], ⟨[] ++ places, [], trodAll_append (arguments _ fun _ _ => rfl) (results _ _ _), variables _, rfl, fun b off hp => ?_, fun ha => by simpa using once ha⟩, fun p hp _ => by simpa using hp⟩⟩
  have hin : MemPlace.cell b off ∈ places := by simpa using hp
  exact (below.frozen (p := ⟨b, off, none⟩) (old _ hin)).trans (unfrozen b off hin)

end Go.Proofs.YtdjljnpbnhampaaDoor

namespace Go.Proofs.YtdjljnpbnhampaaDoor
open Go.ChangeShapes Go.WideShapes Go.ChangeAt Go.RowKit

theorem own : ownKnob Tryd.prog.godebug = none := by kernel_rfl

theorem Tryd.gErr : Tryd.prog.globalNamed "errors.errorType" = some 0 := by kernel_rfl

theorem Tryd.rtRow : (Tryd.prog.cutTypes.find? (·.1 == "internal/reflectlite.rtype")).map (·.2) = some 221 := by kernel_rfl

theorem Tryd.errRow : ((List.range 272).filter fun t => Tryd.prog.rowNamed t [101, 114, 114, 111, 114]) = [41] := by kernel_rfl

theorem Tryd.typesSize : Tryd.prog.types.size = 272 := by kernel_rfl

/-- A list that holds errors.errorType with the handle of the type error says what errors.As asks. -/
theorem hasErr_of_laid {W : World} {l : List (String × DataW Unit)} (h : laidMetH Tryd.prog l W) (hm : ("errors.errorType", Rows.laid_errors_errorType) ∈ l) : HasErr W := by
  obtain ⟨_, h2⟩ := laidMetH_iff.1 h
  obtain ⟨name, u, ty, e1, e2, e3, e4, e5⟩ := h2 _ (List.mem_filter.2 ⟨hm, by kernel_rfl⟩)
  have en : name = [101, 114, 114, 111, 114] := (Option.some.inj e1).symm
  subst en
  obtain rfl := Option.some.inj (Tryd.rtRow.symm.trans e2)
  have hin : ty ∈ (List.range 272).filter fun t => Tryd.prog.rowNamed t [101, 114, 114, 111, 114] := List.mem_filter.2 ⟨List.mem_range.2 (by rw [← Tryd.typesSize]; exact e3), e4⟩
  rw [Tryd.errRow] at hin
  obtain rfl := List.mem_singleton.1 hin
  have hh : typeHandle Tryd.prog 41 = .pointer (some ⟨4, 41, none⟩) := by kernel_rfl
  rw [hh] at e5
  have hc := World.var?_cell Tryd.gErr e5 0
  unfold HasErr
  simpa using hc

/-- The cells that a flat datum of integers lays. -/
def cellsOfDatum : DataW Unit → Array Value
  | .agg l => (l.map fun d => match d with | .lit (.int k n) => Value.int k n | _ => .int .u8 0).toArray
  | _ => #[]

/-- The door's own heap, and Go's own table beside it. -/
noncomputable def laidWorld (os : Os) : World :=
  let w0 := World.doorLaid Tryd.prog 400 os
  { w0 with heap := w0.heap.modify 1 fun | .cells _ t fr => .cells (cellsOfDatum Go.Pinned.utf8First) t fr | o => o }

end Go.Proofs.YtdjljnpbnhampaaDoor

namespace Go.Proofs.YtdjljnpbnhampaaDoor.mvrpReads
open Go.ChangeShapes Go.WideShapes Go.ChangeAt Go.RowKit
set_option linter.unusedVariables false

theorem laid_met (os : Os) : laidMetH Tryd.prog Rows.mvrpReadsRow.laid ((laidWorld os).forCall (fun _ _ => 0) ⟨#[], #[.string ⟨#[]⟩], []⟩).memory :=
  laidMetH_of_parts3 (fuel := 8) (laidMet_of_run' 8 (by kernel_rfl) (by kernel_rfl)) (by kernel_rfl) (by kernel_rfl)

theorem reads (os : Os) {H : Type} (enc : TypeId × Value → H) : ∃ places, DataW.whole enc Tryd.prog ((laidWorld os).forCall (fun _ _ => 0) ⟨#[], #[.string ⟨#[]⟩], []⟩).memory Tryd.f4.params.toList Rows.mvrpReadsSpec.vars false #[Value.string ⟨#[]⟩].toList 8 = some ([.lit (.string [])], [], places) :=
  ⟨[], by kernel_rfl⟩

set_option maxRecDepth 100000 in
theorem lifted (os : Os) (started : os.Started) (H : Type) (enc : TypeId × Value → H) (F : Stop.Interp) :
    ReturnsInHanded {} Tryd.checked os 4 .any ((OpenSpec.ofChange Rows.mvrpReadsSpec).preRow enc Tryd.prog Tryd.f4 Rows.mvrpReadsRow.domain false Rows.mvrpReadsRow.laid) (((OpenSpec.ofChange Rows.mvrpReadsSpec).at F).post enc Tryd.prog Tryd.f4 false true false false) := by
  obtain ⟨places, hx⟩ := reads os enc
  refine returnsInHanded_of_row (C := Tryd.checked) (s := OpenSpec.ofChange Rows.mvrpReadsSpec) own started (by kernel_rfl) Tryd.func4
    (witness_row_at (enc := enc) (C := Tryd.checked) false (laidWorld os) #[.string ⟨#[]⟩] rfl (by kernel_rfl) (by kernel_rfl) (by kernel_rfl)
      (OpenSpec.preRow_of_cond 8 hx (by kernel_rfl) (fun k hk => by cases hk) (by kernel_rfl) (laid_met os))) ?_
  intro W base args ds gs before hval0 hW _ _ hSz hL hsh _
  have hval : ∀ (j : Nat) t v, Tryd.f4.params[j]? = some t → args[j]? = some v → Value.okWide Tryd.prog W .any base t v := hval0
  have hE := hasErr_of_laid hL (by simp [Rows.mvrpReadsRow])
  have hW' := hW
  obtain ⟨p, q, hA0, hV, rfl, hfz, hnd⟩ := hW
  have hA : DataW.TrodAll enc Tryd.prog W 0 (fun _ => true) true Tryd.f4.params.toList args.toList ds p := hA0
  rw [Tryd.params4] at hA hval
  obtain ⟨v0, vs0, d0, ds0, p0, q0, hargs, rfl, rfl, h0, r0⟩ := trodAll_cons hA
  obtain ⟨rfl, rfl, rfl⟩ := trodAll_nil r0
  obtain rfl : args = #[v0] := by cases args; simp_all
  obtain ⟨rfl, rfl⟩ := trodVars_none hV
  obtain ⟨a0, rfl, rfl, rfl, w0⟩ := ChangeMaps.open_string Tryd.underlying9 (hval 0 9 v0 rfl rfl) h0
  clear hA0
  simp only [List.append_nil] at hW'
  refine (walk a0 W hE).mono fun e W' ⟨he, hb⟩ => ?_
  subst he
  exact ⟨_, rfl, met_below hW' (fun _ _ _ => (trodAll_cons_mk (shut_bool Tryd.underlying4 _) trodAll_mk0)) (fun sp _ => (trodAll_cons_mk (ChangeMaps.shut_string Tryd.underlying9 w0) trodAll_mk0)) (fun _ => rfl) hb
    (ok_one (by kernel_rfl) rfl (okWide_bool_mk Tryd.underlying4 _))⟩

theorem said : Rows.MvrpReadsSaid :=
  OpenClaim.holds_of_cond 4 Tryd.f4 rfl rfl rfl rfl rfl rfl rfl ⟨rfl, rfl, rfl, rfl, rfl⟩ rfl rfl rfl rfl rfl (by kernel_rfl) Tryd.func4 (by kernel_rfl)
    (of_decide_eq_true (by kernel_rfl)) (by unfold Func.isWrapper; first | (rw [if_pos (by decide +kernel)]; kernel_rfl) | (rw [if_neg (by decide +kernel)]; exact ⟨rfl, rfl⟩))
    (fun os started H enc _ F => by rw [OpenClaim.pre_eq_preRow]; exact lifted os started H enc F)

theorem plain (f : FuncId) (fn : Func) (hf : Tryd.pinned.checked.prog.funcNamed "switchyard/switchyardlaw.MvrpReads" = some f) (hfn : Tryd.pinned.checked.prog.funcs[f]? = some fn) :
    true = Tryd.pinned.checked.prog.looks [] ∧ ∀ (j : Nat) t, fn.params[j]? = some t → Tryd.pinned.checked.prog.wantsStandIn t = false := by
  obtain rfl : f = 4 := Option.some.inj ((show Tryd.prog.funcNamed "switchyard/switchyardlaw.MvrpReads" = some 4 by kernel_rfl).symm.trans hf) |>.symm
  obtain rfl : fn = Tryd.f4 := (Option.some.inj (Tryd.func4.symm.trans hfn)).symm
  refine ⟨by kernel_rfl, fun j t ht => ?_⟩
  rw [Tryd.params4] at ht
  have hm : t ∈ #[9] := Array.mem_of_getElem? ht
  simp only [List.mem_toArray, List.mem_cons, List.not_mem_nil, or_false] at hm
  rcases hm with rfl
  · exact (show Tryd.prog.wantsStandIn 9 = false by kernel_rfl)

theorem card : Rows.MvrpReadsCardSaid :=
  Claim7.holds_tied_plain_at .later [] _ _ _ _ said (fun _ h => by cases h) (by kernel_rfl) (fun _ h => by cases h) mvrpReads_row_tie rfl ⟨rfl, rfl⟩ (by kernel_rfl) rfl plain (by kernel_rfl)
#print axioms card

end Go.Proofs.YtdjljnpbnhampaaDoor.mvrpReads

