/-
  Closed facts on the types of schemas, for the rows' proofs.
-/
import Derived.Test.YtkaannpoldenkafKOpen
import Derived.ProofKit
namespace Go.Proofs.Ytkaannpoldenkaf
open Go.ChangeShapes Go.WideShapes Go.ChangeAt Go.RowKit

theorem Try.ownk : ownKnob Try.prog.godebug = none := by kernel_rfl
theorem Try.laidOutk : laidOutB Try.prog = true := by kernel_rfl
theorem Try.cells_kind : Try.prog.cellsOf 37 = 3 := by kernel_rfl
theorem Try.cells_kkids : Try.prog.cellsOf 35 = 1 := by kernel_rfl
theorem Try.cells_knames : Try.prog.cellsOf 22 = 1 := by kernel_rfl
theorem Try.cells_kint : Try.prog.cellsOf 3 = 1 := by kernel_rfl
theorem Try.cells_kstr : Try.prog.cellsOf 9 = 1 := by kernel_rfl

theorem Try.kindType : ∃ fs, KindType Try.prog 37 35 fs 3 9 22 :=
  ⟨_, Try.underlying37, Try.cells_kind, Try.underlying35, Try.underlying3, Try.underlying9, Try.underlying22, Try.cells_kint, Try.cells_kstr, Try.cells_knames, Try.cells_kkids,
    ⟨_, rfl, rfl, rfl⟩, ⟨_, rfl, rfl, rfl⟩, ⟨_, rfl, rfl, rfl⟩, rfl⟩

end Go.Proofs.Ytkaannpoldenkaf
