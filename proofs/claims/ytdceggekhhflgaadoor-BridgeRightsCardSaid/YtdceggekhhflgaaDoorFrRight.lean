/- frame.Right at every frame. -/
import Derived.Test.YtdceggekhhflgaaDoorFr
namespace Go.Proofs.YtdceggekhhflgaaDoor
open Go.RowKit
attribute [local go_sem ↓] Go.wp_at_zero Go.wp_at_succ
set_option linter.unusedSimpArgs false

def kindB (f : Fr) : Bool :=
  if f.k = 1 then typB f.t && upB 0 [f.da, f.sa, f.ct, f.ou, f.pi]
  else if f.k = 2 then llcB f && (decide (hdI f.k + f.bo.size ≤ 1500) && upB 0 [f.t, f.ou, f.pi])
  else if f.k = 3 then snapB f && (decide (hdI f.k + f.bo.size ≤ 1500) && upB 0 [f.t, f.da, f.sa, f.ct])
  else false

def longB (f : Fr) : Bool := decide (2000 < 14 + 4 * (f.tl.length : Int) + hdI f.k + f.bo.size)

def rightB (f : Fr) : Bool := stackB f.tl && (!longB f && kindB f)

















end Go.Proofs.YtdceggekhhflgaaDoor
