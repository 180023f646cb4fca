/-
  DERIVED. GIVEN WITH THE SEED: THE CARDS: each row of YtmjhcgjhlakceaaGreatDoorRows.lean that lists a variable, with what it lists TIED to the program's text (the seventh form; the later family's looks); each row that meets fmt, with fmt's text TOLD by the authors' own Lean function (tested against real Go, not proved from fmt's source: count such statements apart). THE CARD IS WHAT COUNTS. Prove the row's statement (the work); the ties are given (YtmjhcgjhlakceaaGreatDoorTie.lean); close each card by the builder's one call (the guide's Derived/Test/ToyasCard.lean, 'card_holds'). Laid BY PROGRAM, IN A SANDBOX (cutbox-door.mjs). By AI agents, Wed Nov 11 2026. No macro, syntax, notation, axiom, sorry.
-/
import Derived.Test.YtmjhcgjhlakceaaGreatDoorRows
import GoSem.ClaimSeven
namespace Go.Proofs.YtmjhcgjhlakceaaGreatDoor
namespace Rows

/-- THE TIED CARD OF 'laws.FnEventStrict'. -/
def fnEventStrictCard : Claim7 := { stood := { row := fnEventStrictRow, standIns := [], harness := (true, "5641cb8c4dbf8c195e361fa5feace5b03f51c2a44c136287c1848dbf41fe797f"), looks := true }, kinds := [], alts := [], laidByText := true, laidKinds := [.data, .data, .data, .sentinel, .sentinel], laidTests := true, laidLooks := .later }
def FnEventStrictCardSaid : Prop := Claim7.holds Tryz.pinned (.plain (OpenSpec.ofChange fnEventStrictSpec)) fnEventStrictCard

/-- THE SECOND FORM's CARD OF 'laws.FnEventStrict'. -/
def fnEventStrictUptoCard : Claim7 := { stood := { row := fnEventStrictUptoRow, standIns := [], harness := (true, "5641cb8c4dbf8c195e361fa5feace5b03f51c2a44c136287c1848dbf41fe797f"), looks := true }, kinds := [], alts := [], laidByText := true, laidKinds := [.data, .data, .data, .sentinel, .sentinel], laidTests := true, laidLooks := .later }
def FnEventStrictUptoCardSaid : Prop := Claim7.holds Tryz.pinned (.plain (OpenSpec.upto fnEventStrictSpec)) fnEventStrictUptoCard
end Rows
end Go.Proofs.YtmjhcgjhlakceaaGreatDoor
