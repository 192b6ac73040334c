/- What a row's list of variables gives a walk of package md5. -/
import Derived.Test.YtlfeholphngilaaDoorHasMd
import Derived.Test.YtlfeholphngilaaDoorFrame
import Derived.Stop.LaidErr
import Derived.SizedLaws
namespace Go.Proofs.YtlfeholphngilaaDoor
open Go.ChangeShapes Go.WideShapes Go.ChangeAt Go.RowKit
set_option linter.unusedVariables false

/-- What the form says of a text's size. -/
theorem size_of_sized {H : Type} {P : Program} {ts : List TypeId} {ds : List (DataW H)} (h : (DataW.weightsEach P ts ds).all (· ≤ reachBytes) = true) {j : Nat} {t : TypeId} {s : ByteArray} (ht : ts[j]? = some t) (hd : ds[j]? = some (.lit (.string s.data.toList))) : s.size ≤ 140737488355328 := by
  have h1 := sized_string h ht hd
  have h2 := reachBytes_lt
  have e : s.data.toList.length = s.size := by simp
  omega
theorem hasMd_of_laid {W : World} {l : List (String × DataW Unit)} (h : laidMetH Tryd.prog l W)
    (e1 : ((l.filter fun x => x.2.handleName?.isNone).filter fun x => x.1 == "switchyard/md5.sines") = [("switchyard/md5.sines", Lib.tabData .u32 sinI)])
    (e2 : ((l.filter fun x => x.2.handleName?.isNone).filter fun x => x.1 == "switchyard/md5.turns") = [("switchyard/md5.turns", .agg (turnI.map (Lib.tabData .i64)))]) : HasMd W := by
  refine ⟨fun j hj => ?_, fun j hj => ?_⟩
  · have h1 := (laidMetH_iff.1 h).1.filter (fun x => x.1 == "switchyard/md5.sines")
    rw [e1] at h1
    have h2 := (Lib.tabIs_of_head (g := 1) (t := 94) (e := 46) (n := 64) Tryd.gSines (by kernel_rfl) (by kernel_rfl) (by kernel_rfl) (by kernel_rfl) (by kernel_rfl) h1).cell Tryd.gSines j hj
    rw [sinI_at j hj] at h2
    exact h2
  · have h1 := (laidMetH_iff.1 h).1.filter (fun x => x.1 == "switchyard/md5.turns")
    rw [e2] at h1
    obtain ⟨row, hr, hz⟩ := Option.bind_eq_some_iff.1 (turnI_at j hj)
    exact tab2_of_head (g := 0) (t := 92) (e := 91) (e2 := 3) (n := 4) (m := 4) Tryd.gTurns (by kernel_rfl) (by kernel_rfl) (by kernel_rfl) (by kernel_rfl) (by kernel_rfl) (by kernel_rfl) (by kernel_rfl) h1 (j / 16) (j % 4) row _ hr hz (Nat.mod_lt _ (by decide))

end Go.Proofs.YtlfeholphngilaaDoor
