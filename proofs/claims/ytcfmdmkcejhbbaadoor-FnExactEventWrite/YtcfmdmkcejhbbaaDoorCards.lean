/-
  DERIVED. GIVEN WITH THE SEED: THE CARDS: each row of YtcfmdmkcejhbbaaDoorRows.lean that lists a variable, with what it lists TIED to the program's text (the seventh form; the later family's looks); each row that meets fmt, with fmt's text TOLD by the authors' own Lean function (tested against real Go, not proved from fmt's source: count such statements apart). THE CARD IS WHAT COUNTS. Prove the row's statement (the work); the ties are given (YtcfmdmkcejhbbaaDoorTie.lean); close each card by the builder's one call (the guide's Derived/Test/ToyasCard.lean, 'card_holds'). Laid BY PROGRAM, IN A SANDBOX (cutbox-door.mjs). By AI agents, Wed Nov 11 2026. No macro, syntax, notation, axiom, sorry.
-/
import Derived.Test.YtcfmdmkcejhbbaaDoorRows
import GoSem.ClaimSeven
namespace Go.Proofs.YtcfmdmkcejhbbaaDoor
namespace Rows

/-- THE TIED CARD OF 'laws.FnExactEventWrite'. -/
def fnExactEventWriteCard : Claim7 := { stood := { row := fnExactEventWriteRow, standIns := [], harness := (true, "8bc32800cb69a1328243a0d77ff07bc3affc11cdb6301185488c28f5df7e3e0e"), looks := true }, kinds := [], alts := [], laidByText := true, laidKinds := [.data, .data, .data], laidTests := true, laidLooks := .later }
def FnExactEventWriteCardSaid : Prop := Claim7.holds Tryd.pinned (.plain (OpenSpec.ofChange fnExactEventWriteSpec)) fnExactEventWriteCard

/-- THE SECOND FORM's CARD OF 'laws.FnExactEventWrite'. -/
def fnExactEventWriteUptoCard : Claim7 := { stood := { row := fnExactEventWriteUptoRow, standIns := [], harness := (true, "8bc32800cb69a1328243a0d77ff07bc3affc11cdb6301185488c28f5df7e3e0e"), looks := true }, kinds := [], alts := [], laidByText := true, laidKinds := [.data, .data, .data], laidTests := true, laidLooks := .later }
def FnExactEventWriteUptoCardSaid : Prop := Claim7.holds Tryd.pinned (.plain (OpenSpec.upto fnExactEventWriteSpec)) fnExactEventWriteUptoCard
end Rows
end Go.Proofs.YtcfmdmkcejhbbaaDoor
