/- What a row's list of variables gives a walk that formats numbers in hexadecimal. -/
import Derived.Test.YtceiiolpggolbaaDoorFmt16
import Derived.Test.YtceiiolpggolbaaDoorFrame
import Derived.Stop.LaidErr
namespace Go.Proofs.YtceiiolpggolbaaDoor
open Go.ChangeShapes Go.WideShapes Go.ChangeAt Go.RowKit
set_option linter.unusedVariables false

theorem Tryd.gTz : Tryd.prog.globalNamed "math/bits.deBruijn64tab" = some 6 := by kernel_rfl

/-- The library's table for trailing zeros. -/
def tz64 : List Int := [0, 1, 56, 2, 57, 49, 28, 3, 61, 58, 42, 50, 38, 29, 17, 4, 62, 47, 59, 36, 45, 43, 51, 22, 53, 39, 33, 30, 24, 18, 12, 5, 63, 55, 48, 27, 60, 41, 37, 16, 46, 35, 44, 21, 52, 32, 23, 11, 54, 26, 40, 15, 34, 20, 31, 10, 25, 14, 19, 9, 13, 8, 7, 6]

/-- A list that holds the table for trailing zeros says what formatting asks. -/
theorem hasTz_of_laid {W : World} {l : List (String × DataW Unit)} (h : laidMetH Tryd.prog l W)
    (e : ((l.filter fun x => x.2.handleName?.isNone).filter fun x => x.1 == "math/bits.deBruijn64tab") = [("math/bits.deBruijn64tab", Lib.tabData .u8 tz64)]) : HasTz W := by
  have h1 := (laidMetH_iff.1 h).1.filter (fun x => x.1 == "math/bits.deBruijn64tab")
  rw [e] at h1
  exact (Lib.tabIs_of_head (g := 6) (t := 184) (e := 5) (n := 64) Tryd.gTz (by kernel_rfl) (by kernel_rfl) (by kernel_rfl) (by kernel_rfl) (by kernel_rfl) h1).cell Tryd.gTz 15 (by decide)

end Go.Proofs.YtceiiolpggolbaaDoor
