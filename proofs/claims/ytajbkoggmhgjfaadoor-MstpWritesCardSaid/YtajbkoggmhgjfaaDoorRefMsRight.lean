/- The reference's MstRight at every message. -/
import Derived.Test.YtajbkoggmhgjfaaDoorRefMsRE
import Derived.Test.YtajbkoggmhgjfaaDoorRefMsRN
namespace Go.Proofs.YtajbkoggmhgjfaaDoor
open Go.RowKit
set_option linter.unusedVariables false

theorem refMsRight_any (m : Ms) (a : Option Addr) (c : Nat) (l : List Ins) (w : World) (h : InIn w a l) (hlen : l.length ≤ 1000000) (hn : m.name.size ≤ 1000000) (hd : m.dig.size ≤ 1000000) :
    Calls Tryd.prog 10 #[.agg (msC m (.slice a l.length c))] w fun e w' => e = .returned (.bool (okMs m l)) ∧ Below w.heap.size w w' := by
  rcases Nat.eq_zero_or_pos m.name.size with h0 | h0
  · refine refMsRight_E m a c l w h hlen hn hd ?_
    apply ByteArray.ext
    apply Array.toList_inj.1
    have : m.name.data.toList.length = 0 := by rw [← h0]; simp
    exact List.length_eq_zero_iff.1 this
  · exact refMsRight_N m a c l w h hlen hn hd h0

end Go.Proofs.YtajbkoggmhgjfaaDoor
