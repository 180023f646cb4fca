/-
  DERIVED. GIVEN WITH THE SEED: THE CARDS: each row of YtamkblgldlkooaaDoorRows.lean that lists a variable, with what it lists TIED to the program's text (the seventh form; the later family's looks); each row that meets fmt, with fmt's text TOLD by the authors' own Lean function (tested against real Go, not proved from fmt's source: count such statements apart). THE CARD IS WHAT COUNTS. Prove the row's statement (the work); the ties are given (YtamkblgldlkooaaDoorTie.lean); close each card by the builder's one call (the guide's Derived/Test/ToyasCard.lean, 'card_holds'). Laid BY PROGRAM, IN A SANDBOX (cutbox-door.mjs). By AI agents, Wed Nov 11 2026. No macro, syntax, notation, axiom, sorry.
-/
import Derived.Test.YtamkblgldlkooaaDoorRows
import GoSem.ClaimSeven
namespace Go.Proofs.YtamkblgldlkooaaDoor
namespace Rows

/-- THE TIED CARD OF 'laws.FnExactKindFits'. -/
def fnExactKindFitsCard : Claim7 := { stood := { row := fnExactKindFitsRow, standIns := [], harness := (true, "a4fa88a127d66fe2c0c9aa2ff577ec1f2a4eed66479f205ebb59c8b10b09f78a"), looks := true }, kinds := [], alts := [], laidByText := true, laidKinds := [.handle], laidTests := true, laidLooks := .later }
def FnExactKindFitsCardSaid : Prop := Claim7.holds Tryd.pinned (.plain (OpenSpec.ofChange fnExactKindFitsSpec)) fnExactKindFitsCard

/-- THE SECOND FORM's CARD OF 'laws.FnExactKindFits'. -/
def fnExactKindFitsUptoCard : Claim7 := { stood := { row := fnExactKindFitsUptoRow, standIns := [], harness := (true, "a4fa88a127d66fe2c0c9aa2ff577ec1f2a4eed66479f205ebb59c8b10b09f78a"), looks := true }, kinds := [], alts := [], laidByText := true, laidKinds := [.handle], laidTests := true, laidLooks := .later }
def FnExactKindFitsUptoCardSaid : Prop := Claim7.holds Tryd.pinned (.plain (OpenSpec.upto fnExactKindFitsSpec)) fnExactKindFitsUptoCard
end Rows
end Go.Proofs.YtamkblgldlkooaaDoor
