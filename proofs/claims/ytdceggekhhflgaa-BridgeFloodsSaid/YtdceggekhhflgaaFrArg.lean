/- A frame that comes in. -/
import Derived.Test.YtdceggekhhflgaaFr
namespace Go.Proofs.Ytdceggekhhflgaa
open Go.RowKit

/-- A frame that comes in. -/
structure FrArg (w : World) (f : Fr) : Prop where
  tags : TagsIn w f.ta f.tl
  cap : f.tl.length ≤ f.tc
  most : f.tc ≤ maxLen
  text : f.bo.size ≤ maxLen

theorem FrIn.drew {w : World} {f : Fr} (h : FrIn w f) : FrIn w.drew f := ⟨h.tags, h.few, h.cap, h.short⟩

theorem FrArg.in {w : World} {f : Fr} (h : FrArg w f) (h1 : f.tl.length ≤ 20) (h2 : f.bo.size ≤ 3000) : FrIn w f := ⟨h.tags, h1, h.cap, h2⟩

end Go.Proofs.Ytdceggekhhflgaa
