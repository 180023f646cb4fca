/-
  DERIVED. GIVEN WITH THE SEED: THE CARDS: each row of YtfjgdogolefpfafDoorRows.lean that lists a variable, with what it lists TIED to the program's text (the seventh form; the later family's looks); each row that meets fmt, with fmt's text TOLD by the authors' own Lean function (tested against real Go, not proved from fmt's source: count such statements apart). THE CARD IS WHAT COUNTS. Prove the row's statement (the work); the ties are given (YtfjgdogolefpfafDoorTie.lean); close each card by the builder's one call (the guide's Derived/Test/ToyasCard.lean, 'card_holds'). Laid BY PROGRAM, IN A SANDBOX (cutbox-door.mjs). By AI agents, Wed Nov 11 2026. No macro, syntax, notation, axiom, sorry.
-/
import Derived.Test.YtfjgdogolefpfafDoorRows
import GoSem.ClaimSeven
namespace Go.Proofs.YtfjgdogolefpfafDoor
namespace Rows

/-- THE TIED CARD OF 'laws.FnExactTreeWrite'. -/
def fnExactTreeWriteCard : Claim7 := { stood := { row := fnExactTreeWriteRow, standIns := [], harness := (true, "9142964cb2c73af80117c8d9ab9cbaa5a9941c993a912c34e37a65d65095b164"), looks := true }, kinds := [], alts := [], laidByText := true, laidKinds := [.data, .data, .data], laidTests := true, laidLooks := .later }
def FnExactTreeWriteCardSaid : Prop := Claim7.holds Tryd.pinned (.plain (OpenSpec.ofChange fnExactTreeWriteSpec)) fnExactTreeWriteCard

/-- THE SECOND FORM's CARD OF 'laws.FnExactTreeWrite'. -/
def fnExactTreeWriteUptoCard : Claim7 := { stood := { row := fnExactTreeWriteUptoRow, standIns := [], harness := (true, "9142964cb2c73af80117c8d9ab9cbaa5a9941c993a912c34e37a65d65095b164"), looks := true }, kinds := [], alts := [], laidByText := true, laidKinds := [.data, .data, .data], laidTests := true, laidLooks := .later }
def FnExactTreeWriteUptoCardSaid : Prop := Claim7.holds Tryd.pinned (.plain (OpenSpec.upto fnExactTreeWriteSpec)) fnExactTreeWriteUptoCard
end Rows
end Go.Proofs.YtfjgdogolefpfafDoor
