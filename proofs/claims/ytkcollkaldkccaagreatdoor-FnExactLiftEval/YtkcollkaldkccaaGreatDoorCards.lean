/-
  DERIVED. GIVEN WITH THE SEED: THE CARDS: each row of YtkcollkaldkccaaGreatDoorRows.lean that lists a variable, with what it lists TIED to the program's text (the seventh form; the later family's looks); each row that meets fmt, with fmt's text TOLD by the authors' own Lean function (tested against real Go, not proved from fmt's source: count such statements apart). THE CARD IS WHAT COUNTS. Prove the row's statement (the work); the ties are given (YtkcollkaldkccaaGreatDoorTie.lean); close each card by the builder's one call (the guide's Derived/Test/ToyasCard.lean, 'card_holds'). Laid BY PROGRAM, IN A SANDBOX (cutbox-door.mjs). By AI agents, Wed Nov 11 2026. No macro, syntax, notation, axiom, sorry.
-/
import Derived.Test.YtkcollkaldkccaaGreatDoorRows
import GoSem.ClaimSeven
namespace Go.Proofs.YtkcollkaldkccaaGreatDoor
namespace Rows

/-- THE TIED CARD OF 'laws.FnExactLiftEval'. -/
def fnExactLiftEvalCard : Claim7 := { stood := { row := fnExactLiftEvalRow, standIns := [], harness := (true, "44f3bd60f58eba891db221f4d9b404fa54b28befd0dbad37ba31b87119450023"), looks := true }, kinds := [], alts := [], laidByText := true, laidKinds := [.data, .data, .data, .sentinel, .sentinel], laidTests := true, laidLooks := .later }
def FnExactLiftEvalCardSaid : Prop := Claim7.holds Tryz.pinned (.plain (OpenSpec.ofChange fnExactLiftEvalSpec)) fnExactLiftEvalCard

/-- THE SECOND FORM's CARD OF 'laws.FnExactLiftEval'. -/
def fnExactLiftEvalUptoCard : Claim7 := { stood := { row := fnExactLiftEvalUptoRow, standIns := [], harness := (true, "44f3bd60f58eba891db221f4d9b404fa54b28befd0dbad37ba31b87119450023"), looks := true }, kinds := [], alts := [], laidByText := true, laidKinds := [.data, .data, .data, .sentinel, .sentinel], laidTests := true, laidLooks := .later }
def FnExactLiftEvalUptoCardSaid : Prop := Claim7.holds Tryz.pinned (.plain (OpenSpec.upto fnExactLiftEvalSpec)) fnExactLiftEvalUptoCard
end Rows
end Go.Proofs.YtkcollkaldkccaaGreatDoor
