/-
  Closed facts on the types of trees, for the rows' proofs.
-/
import Derived.Test.YtcfmdmkcejhbbaaOpen
import Derived.ProofKit
namespace Go.Proofs.Ytcfmdmkcejhbbaa
open Go.ChangeShapes Go.WideShapes Go.ChangeAt Go.RowKit

theorem Try.own : ownKnob Try.prog.godebug = none := by kernel_rfl
theorem Try.laidOut : laidOutB Try.prog = true := by kernel_rfl
theorem Try.cells_tree : Try.prog.cellsOf 25 = 5 := by kernel_rfl
theorem Try.cells_kids : Try.prog.cellsOf 23 = 1 := by kernel_rfl
theorem Try.cells_names : Try.prog.cellsOf 22 = 1 := by kernel_rfl
theorem Try.cells_int : Try.prog.cellsOf 3 = 1 := by kernel_rfl
theorem Try.cells_str : Try.prog.cellsOf 9 = 1 := by kernel_rfl

theorem Try.treeType : ∃ fs, TreeType Try.prog 25 23 fs 3 9 22 :=
  ⟨_, Try.underlying25, Try.cells_tree, Try.underlying23, Try.underlying3, Try.underlying9, Try.underlying22, Try.cells_int, Try.cells_str, Try.cells_names, Try.cells_kids,
    ⟨_, rfl, rfl, rfl⟩, ⟨_, rfl, rfl, rfl⟩, ⟨_, rfl, rfl, rfl⟩, ⟨_, rfl, rfl, rfl⟩, ⟨_, rfl, rfl, rfl⟩, rfl⟩

end Go.Proofs.Ytcfmdmkcejhbbaa
