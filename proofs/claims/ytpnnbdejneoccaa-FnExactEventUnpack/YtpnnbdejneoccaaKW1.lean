/-
  The program's widenings: how the making of one ends; what is made of leaves.
-/
import Derived.Test.YtpnnbdejneoccaaKInner
import Derived.Deep.RegionLaw
import Derived.Test.YtpnnbdejneoccaaB1
import Derived.Maps.Views
import Derived.Maps.OwnSet
import Derived.Test.YtpnnbdejneoccaaB3
import Derived.Test.YtpnnbdejneoccaaB5
import Derived.Test.YtpnnbdejneoccaaB11
import Derived.Deep.QuietTactic
import Derived.BigQuiet
import Derived.Deep.WholeRow
import Derived.Deep.Cut
import Derived.Deep.CutRange
import Derived.LoopTactic
import Derived.Test.YtpnnbdejneoccaaBufN
import Derived.Deep.RegionWith
import Derived.Deep.RegionHeld
namespace Go.Proofs.Ytpnnbdejneoccaa
open Go.RowKit

theorem below_alloc {w V : World} (h : Below w.heap.size w V) (o : Obj) : Below w.heap.size w (V.alloc o) := h.alloc h.size o

theorem below_allocD {w V : World} (h : Below w.heap.size w V.drew) (o : Obj) : Below w.heap.size w (V.alloc o).drew := by
  have h' : Below w.heap.size w V := ⟨h.os, h.tape, h.output, h.size, h.block⟩
  exact (below_alloc h' o).drew

end Go.Proofs.Ytpnnbdejneoccaa
