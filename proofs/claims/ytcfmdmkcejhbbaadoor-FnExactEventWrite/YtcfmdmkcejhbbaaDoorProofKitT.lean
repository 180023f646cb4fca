/-
  Closed facts on the types of trees, for the rows' proofs.
-/
import Derived.Test.YtcfmdmkcejhbbaaDoorOpen
import Derived.ProofKit
namespace Go.Proofs.YtcfmdmkcejhbbaaDoor
open Go.ChangeShapes Go.WideShapes Go.ChangeAt Go.RowKit

theorem Tryd.own : ownKnob Tryd.prog.godebug = none := by kernel_rfl
theorem Tryd.laidOut : laidOutB Tryd.prog = true := by kernel_rfl
theorem Tryd.cells_tree : Tryd.prog.cellsOf 25 = 5 := by kernel_rfl
theorem Tryd.cells_kids : Tryd.prog.cellsOf 23 = 1 := by kernel_rfl
theorem Tryd.cells_names : Tryd.prog.cellsOf 22 = 1 := by kernel_rfl
theorem Tryd.cells_int : Tryd.prog.cellsOf 3 = 1 := by kernel_rfl
theorem Tryd.cells_str : Tryd.prog.cellsOf 9 = 1 := by kernel_rfl

theorem Tryd.treeType : ∃ fs, TreeType Tryd.prog 25 23 fs 3 9 22 :=
  ⟨_, Tryd.underlying25, Tryd.cells_tree, Tryd.underlying23, Tryd.underlying3, Tryd.underlying9, Tryd.underlying22, Tryd.cells_int, Tryd.cells_str, Tryd.cells_names, Tryd.cells_kids,
    ⟨_, rfl, rfl, rfl⟩, ⟨_, rfl, rfl, rfl⟩, ⟨_, rfl, rfl, rfl⟩, ⟨_, rfl, rfl, rfl⟩, ⟨_, rfl, rfl, rfl⟩, rfl⟩

end Go.Proofs.YtcfmdmkcejhbbaaDoor
