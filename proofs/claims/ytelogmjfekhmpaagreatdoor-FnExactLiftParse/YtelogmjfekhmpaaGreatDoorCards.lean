/-
  DERIVED. GIVEN WITH THE SEED: THE CARDS: each row of YtelogmjfekhmpaaGreatDoorRows.lean that lists a variable, with what it lists TIED to the program's text (the seventh form; the later family's looks); each row that meets fmt, with fmt's text TOLD by the authors' own Lean function (tested against real Go, not proved from fmt's source: count such statements apart). THE CARD IS WHAT COUNTS. Prove the row's statement (the work); the ties are given (YtelogmjfekhmpaaGreatDoorTie.lean); close each card by the builder's one call (the guide's Derived/Test/ToyasCard.lean, 'card_holds'). Laid BY PROGRAM, IN A SANDBOX (cutbox-door.mjs). By AI agents, Wed Nov 11 2026. No macro, syntax, notation, axiom, sorry.
-/
import Derived.Test.YtelogmjfekhmpaaGreatDoorRows
import GoSem.ClaimSeven
namespace Go.Proofs.YtelogmjfekhmpaaGreatDoor
namespace Rows

/-- THE TIED CARD OF 'laws.FnExactLiftParse'. -/
def fnExactLiftParseCard : Claim7 := { stood := { row := fnExactLiftParseRow, standIns := [], harness := (true, "718caf2ee81cfbb3e00e68380f62fabd655b29d57198dffe1cc0fffaa20488d7"), looks := true }, kinds := [], alts := [], laidByText := true, laidKinds := [.data, .data, .data, .data, .sentinel, .sentinel, .pinned], laidTests := true, laidLooks := .later }
def FnExactLiftParseCardSaid : Prop := Claim7.holds Tryz.pinned (.plain (OpenSpec.ofChange fnExactLiftParseSpec)) fnExactLiftParseCard

/-- THE SECOND FORM's CARD OF 'laws.FnExactLiftParse'. -/
def fnExactLiftParseUptoCard : Claim7 := { stood := { row := fnExactLiftParseUptoRow, standIns := [], harness := (true, "718caf2ee81cfbb3e00e68380f62fabd655b29d57198dffe1cc0fffaa20488d7"), looks := true }, kinds := [], alts := [], laidByText := true, laidKinds := [.data, .data, .data, .data, .sentinel, .sentinel, .pinned], laidTests := true, laidLooks := .later }
def FnExactLiftParseUptoCardSaid : Prop := Claim7.holds Tryz.pinned (.plain (OpenSpec.upto fnExactLiftParseSpec)) fnExactLiftParseUptoCard
end Rows
end Go.Proofs.YtelogmjfekhmpaaGreatDoor
