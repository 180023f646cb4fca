/-
  DERIVED. GIVEN WITH THE SEED: THE CARDS: each row of YtfbfchffnapnnaaGreatDoorRows.lean that lists a variable, with what it lists TIED to the program's text (the seventh form; the later family's looks); each row that meets fmt, with fmt's text TOLD by the authors' own Lean function (tested against real Go, not proved from fmt's source: count such statements apart). THE CARD IS WHAT COUNTS. Prove the row's statement (the work); the ties are given (YtfbfchffnapnnaaGreatDoorTie.lean); close each card by the builder's one call (the guide's Derived/Test/ToyasCard.lean, 'card_holds'). Laid BY PROGRAM, IN A SANDBOX (cutbox-door.mjs). By AI agents, Wed Nov 11 2026. No macro, syntax, notation, axiom, sorry.
-/
import Derived.Test.YtfbfchffnapnnaaGreatDoorRows
import GoSem.ClaimSeven
namespace Go.Proofs.YtfbfchffnapnnaaGreatDoor
namespace Rows

/-- THE TIED CARD OF 'laws.FnKindHas'. -/
def fnKindHasCard : Claim7 := { stood := { row := fnKindHasRow, standIns := [], harness := (true, "63f2a96f1a0ebf2c8e9d9b4fffc9aeb2af64655c8512161077a59cfb2a0fe2bb"), looks := true }, kinds := [], alts := [], laidByText := true, laidKinds := [.data, .data, .data, .handle, .sentinel, .sentinel], laidTests := true, laidLooks := .later }
def FnKindHasCardSaid : Prop := Claim7.holds Tryz.pinned (.plain (OpenSpec.ofChange fnKindHasSpec)) fnKindHasCard

/-- THE SECOND FORM's CARD OF 'laws.FnKindHas'. -/
def fnKindHasUptoCard : Claim7 := { stood := { row := fnKindHasUptoRow, standIns := [], harness := (true, "63f2a96f1a0ebf2c8e9d9b4fffc9aeb2af64655c8512161077a59cfb2a0fe2bb"), looks := true }, kinds := [], alts := [], laidByText := true, laidKinds := [.data, .data, .data, .handle, .sentinel, .sentinel], laidTests := true, laidLooks := .later }
def FnKindHasUptoCardSaid : Prop := Claim7.holds Tryz.pinned (.plain (OpenSpec.upto fnKindHasSpec)) fnKindHasUptoCard
end Rows
end Go.Proofs.YtfbfchffnapnnaaGreatDoor
