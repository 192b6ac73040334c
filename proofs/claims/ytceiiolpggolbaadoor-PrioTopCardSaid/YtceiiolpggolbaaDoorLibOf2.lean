/- What a row's list of variables, and the shape of its worlds, give a walk over strconv.Atoi and strings.Cut. -/
import Derived.Test.YtceiiolpggolbaaDoorLibs
import Derived.Test.YtceiiolpggolbaaDoorFrame
import Derived.Stop.LaidErr
namespace Go.Proofs.YtceiiolpggolbaaDoor
open Go.ChangeShapes Go.WideShapes Go.ChangeAt Go.RowKit Go.Shelf
set_option linter.unusedVariables false

/-- A list that holds the table of powers says what Itoa asks. -/
theorem hasTab_of_laid {W : World} {l : List (String × DataW Unit)} (h : laidMetH Tryd.prog l W)
    (e : ((l.filter fun x => x.2.handleName?.isNone).filter fun x => x.1 == "internal/strconv.uint64pow10") = [("internal/strconv.uint64pow10", Lib.tabData .u64 Lib.pow10Tab)]) : HasTab W := by
  have h1 := (laidMetH_iff.1 h).1.filter (fun x => x.1 == "internal/strconv.uint64pow10")
  rw [e] at h1
  exact Lib.tabIs_of_head (g := 4) (t := 172) (e := 106) (n := 20) Tryd.gPow (by kernel_rfl) (by kernel_rfl) (by kernel_rfl) (by kernel_rfl) (by kernel_rfl) h1

theorem Tryd.starE : "*" ++ "errors.errorString" = "*errors.errorString" := by decide
theorem Tryd.rowES (u : TypeId) (h : Tryd.prog.typeName? 3 u = some "*errors.errorString") : u = 179 :=
  typeName_ptr_named (nm := "errors.errorString") (by rw [Tryd.starE]; kernel_rfl) (by kernel_rfl) (by decide) u (by rw [Tryd.starE]; exact h)

theorem sentinel_of_laid {W : World} {l : List (String × DataW Unit)} (h : laidMetH Tryd.prog l W) (n : String) (g : Nat) (text : List UInt8) (hg : Tryd.prog.globalNamed n = some g) (ht : (Tryd.prog.globals[g]?).map (·.type) = some 32)
    (e : ((l.filter fun x => x.2.handleName?.isNone).filter fun x => x.1 == n) = [(n, .iface "*errors.errorString" (.ptr (.agg [.lit (.string text)])))]) : ∃ tp p, W.var? Tryd.prog n = some #[.iface tp p] := by
  have h1 := (laidMetH_iff.1 h).1.filter (fun x => x.1 == n)
  rw [e] at h1
  obtain ⟨a0, s0, hv0, -, -, -⟩ := laid_sentinel h1 hg ht Tryd.underlying32 Tryd.rowES Tryd.underlying179 Tryd.underlying181 rfl rfl Tryd.underlying9 (by kernel_rfl) (by kernel_rfl)
  exact ⟨_, _, hv0⟩

theorem hasLib_of_laid {W : World} {l : List (String × DataW Unit)} (h : laidMetH Tryd.prog l W) (hsh : W.ShapedOpen Tryd.prog)
    (e1 : ((l.filter fun x => x.2.handleName?.isNone).filter fun x => x.1 == "internal/strconv.uint64pow10") = [("internal/strconv.uint64pow10", Lib.tabData .u64 Lib.pow10Tab)])
    (e2 : ((l.filter fun x => x.2.handleName?.isNone).filter fun x => x.1 == "strconv.ErrSyntax") = [("strconv.ErrSyntax", Rows.laid_strconv_ErrSyntax)])
    (e3 : ((l.filter fun x => x.2.handleName?.isNone).filter fun x => x.1 == "strconv.ErrRange") = [("strconv.ErrRange", Rows.laid_strconv_ErrRange)]) : HasLib W :=
  ⟨hasTab_of_laid h e1, sentinel_of_laid h _ _ _ Tryd.gSyn (by kernel_rfl) e2, sentinel_of_laid h _ _ _ Tryd.gRng (by kernel_rfl) e3, Tryd.laysM145.s1_3 W hsh⟩

end Go.Proofs.YtceiiolpggolbaaDoor
