import Derived.Test.YtelogmjfekhmpaaGreatDoorNB5
import Derived.Test.YtelogmjfekhmpaaGreatDoorTWalk
import Derived.Test.YtelogmjfekhmpaaGreatDoorKImplRead
import Derived.BigQuiet
namespace Go.Proofs.YtelogmjfekhmpaaGreatDoor
open Go.RowKit
theorem Book.lt {w:World} {b:Nat} (h:Book w b):b<w.heap.size:=by
 have:=(h 0 (by omega)).1
 exact Classical.byContradiction fun hge=>by
  have h0:w.heap[b]?=none:=Array.getElem?_eq_none (by omega)
  simp[World.cell?,h0]at this
end Go.Proofs.YtelogmjfekhmpaaGreatDoor
