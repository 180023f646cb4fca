/-
  Closed facts on the types of schemas, for the rows' proofs.
-/
import Derived.Test.YtamkblgldlkooaaDoorKOpen
import Derived.ProofKit
namespace Go.Proofs.YtamkblgldlkooaaDoor
open Go.ChangeShapes Go.WideShapes Go.ChangeAt Go.RowKit

theorem Tryd.ownk : ownKnob Tryd.prog.godebug = none := by kernel_rfl
theorem Tryd.laidOutk : laidOutB Tryd.prog = true := by kernel_rfl
theorem Tryd.cells_kind : Tryd.prog.cellsOf 25 = 3 := by kernel_rfl
theorem Tryd.cells_kkids : Tryd.prog.cellsOf 23 = 1 := by kernel_rfl
theorem Tryd.cells_knames : Tryd.prog.cellsOf 22 = 1 := by kernel_rfl
theorem Tryd.cells_kint : Tryd.prog.cellsOf 3 = 1 := by kernel_rfl
theorem Tryd.cells_kstr : Tryd.prog.cellsOf 9 = 1 := by kernel_rfl

theorem Tryd.kindType : ∃ fs, KindType Tryd.prog 25 23 fs 3 9 22 :=
  ⟨_, Tryd.underlying25, Tryd.cells_kind, Tryd.underlying23, Tryd.underlying3, Tryd.underlying9, Tryd.underlying22, Tryd.cells_kint, Tryd.cells_kstr, Tryd.cells_knames, Tryd.cells_kkids,
    ⟨_, rfl, rfl, rfl⟩, ⟨_, rfl, rfl, rfl⟩, ⟨_, rfl, rfl, rfl⟩, rfl⟩

end Go.Proofs.YtamkblgldlkooaaDoor
