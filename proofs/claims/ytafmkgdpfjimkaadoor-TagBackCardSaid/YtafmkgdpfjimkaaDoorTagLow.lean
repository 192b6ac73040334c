/- What the laws on tags share: Parse of a tag's text; tagged (a fact on package tag). -/
import Derived.Test.YtafmkgdpfjimkaaDoorTagParse
import Derived.Test.YtafmkgdpfjimkaaDoorTagStack
import Derived.Test.YtafmkgdpfjimkaaDoorTagEq
import Derived.Test.YtafmkgdpfjimkaaDoorPick
namespace Go.Proofs.YtafmkgdpfjimkaaDoor
open Go.RowKit

theorem parse_textT (t : Tg) (h : okT t = true) (w : World) (hL : HasLib w) :
    Calls Tryd.prog 29 #[.string ⟨(textT t).toArray⟩] w fun e w' => e = .returned (.tuple #[tagV t, .nilIface]) ∧ Below w.heap.size w w' := by
  have hl := (textT_long t h).1
  refine (tagParse_any _ w hL (by show (textT t).toArray.size < _; rw [List.size_toArray]; omega)).mono fun e w' q => ⟨?_, q.2⟩
  rcases q.1 with ⟨u, hu, he, hr⟩ | ⟨hno, _⟩
  · have e1 := guess_text u hu
    have e2 := guess_text t h
    replace he : textT u = textT t := he
    rw [he, e2] at e1
    rw [hr, e1]
  · exact absurd rfl (hno t h)

theorem ok1 : okT ⟨false, 3, true, 100⟩ = true := by decide
theorem ok2 : okT ⟨true, 7, false, 5⟩ = true := by decide

theorem pack1 (w : World) :
    Calls Tryd.prog 21 #[.agg #[.bool false, .int .i64 3, .bool true, .int .i64 100]] w fun e w' => e = .returned (.tuple #[.int .i64 28772, .nilIface]) ∧ Below w.heap.size w w' :=
  pack_yes ⟨false, 3, true, 100⟩ ok1 w
theorem parse2 (w : World) (hL : HasLib w) :
    Calls Tryd.prog 29 #[.string ⟨#[115, 55, 46, 53]⟩] w fun e w' => e = .returned (.tuple #[.agg #[.bool true, .int .i64 7, .bool false, .int .i64 5], .nilIface]) ∧ Below w.heap.size w w' := by
  have e : textT ⟨true, 7, false, 5⟩ = [115, 55, 46, 53] := by
    simp [textT, Lib.itoa, Lib.decDigits_one]
  have h := parse_textT ⟨true, 7, false, 5⟩ ok2 w hL
  rw [e] at h
  exact h

theorem tagged_any (w : World) (hL : HasLib w) :
    Calls Tryd.prog 30 #[] w fun e w' => e = .returned (.bool true) ∧ Below w.heap.size w w' := by
  have hq : ∀ W, (Op.equalIn 10000 40 (.agg #[.bool true, .int .i64 7, .bool false, .int .i64 5]) (.agg #[.bool true, .int .i64 7, .bool false, .int .i64 5])).run Tryd.prog W = .ok true W := fun W => by
    have h := run_eql_tag ⟨true, 7, false, 5⟩ ⟨true, 7, false, 5⟩ W
    rw [eqT_refl] at h
    exact h
  go_enter Tryd.func30, Tryd.ntmps30
  go_wp2_with fail
  refine (pack1 _).mono ?_
  rintro e w1 ⟨rfl, k1⟩
  go_wp2_with fail
  refine (parse2 _ (hL.below k1)).mono ?_
  rintro e w2 ⟨rfl, k2⟩
  have hb2 := k1.trans (k2.mono k1.size)
  have hb3 : Below w.heap.size w (w2.alloc (.cells #[.bool true, .int .i64 7, .bool false, .int .i64 5] 40)) := hb2.alloc hb2.size _
  clear k1 k2 hb2
  go_wp2
  go_ret
  exact ⟨rfl, hb3⟩
end Go.Proofs.YtafmkgdpfjimkaaDoor
