/-
  DERIVED. GIVEN WITH THE SEED: THE CARDS: each row of YthcdeahobjhkbaaGreatDoorRows.lean that lists a variable, with what it lists TIED to the program's text (the seventh form; the later family's looks); each row that meets fmt, with fmt's text TOLD by the authors' own Lean function (tested against real Go, not proved from fmt's source: count such statements apart). THE CARD IS WHAT COUNTS. Prove the row's statement (the work); the ties are given (YthcdeahobjhkbaaGreatDoorTie.lean); close each card by the builder's one call (the guide's Derived/Test/ToyasCard.lean, 'card_holds'). Laid BY PROGRAM, IN A SANDBOX (cutbox-door.mjs). By AI agents, Wed Nov 11 2026. No macro, syntax, notation, axiom, sorry.
-/
import Derived.Test.YthcdeahobjhkbaaGreatDoorRows
import GoSem.ClaimSeven
namespace Go.Proofs.YthcdeahobjhkbaaGreatDoor
namespace Rows

/-- THE TIED CARD OF 'laws.FnKindJoin'. -/
def fnKindJoinCard : Claim7 := { stood := { row := fnKindJoinRow, standIns := [], harness := (true, "57744de03a742255eea320b3af6299687a90ccd3e0e5e6f5eca067c17a69efb0"), looks := true }, kinds := [], alts := [], laidByText := true, laidKinds := [.handle], laidTests := true, laidLooks := .later }
def FnKindJoinCardSaid : Prop := Claim7.holds Tryz.pinned (.plain (OpenSpec.ofChange fnKindJoinSpec)) fnKindJoinCard

/-- THE SECOND FORM's CARD OF 'laws.FnKindJoin'. -/
def fnKindJoinUptoCard : Claim7 := { stood := { row := fnKindJoinUptoRow, standIns := [], harness := (true, "57744de03a742255eea320b3af6299687a90ccd3e0e5e6f5eca067c17a69efb0"), looks := true }, kinds := [], alts := [], laidByText := true, laidKinds := [.handle], laidTests := true, laidLooks := .later }
def FnKindJoinUptoCardSaid : Prop := Claim7.holds Tryz.pinned (.plain (OpenSpec.upto fnKindJoinSpec)) fnKindJoinUptoCard
end Rows
end Go.Proofs.YthcdeahobjhkbaaGreatDoor
