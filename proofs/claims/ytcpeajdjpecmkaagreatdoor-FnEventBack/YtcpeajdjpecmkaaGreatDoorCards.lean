/-
  DERIVED. GIVEN WITH THE SEED: THE CARDS: each row of YtcpeajdjpecmkaaGreatDoorRows.lean that lists a variable, with what it lists TIED to the program's text (the seventh form; the later family's looks); each row that meets fmt, with fmt's text TOLD by the authors' own Lean function (tested against real Go, not proved from fmt's source: count such statements apart). THE CARD IS WHAT COUNTS. Prove the row's statement (the work); the ties are given (YtcpeajdjpecmkaaGreatDoorTie.lean); close each card by the builder's one call (the guide's Derived/Test/ToyasCard.lean, 'card_holds'). Laid BY PROGRAM, IN A SANDBOX (cutbox-door.mjs). By AI agents, Wed Nov 11 2026. No macro, syntax, notation, axiom, sorry.
-/
import Derived.Test.YtcpeajdjpecmkaaGreatDoorRows
import GoSem.ClaimSeven
namespace Go.Proofs.YtcpeajdjpecmkaaGreatDoor
namespace Rows

/-- THE TIED CARD OF 'laws.FnEventBack'. -/
def fnEventBackCard : Claim7 := { stood := { row := fnEventBackRow, standIns := [], harness := (true, "6f7a537e1612f3008543bc9366263b6f24fb1d2215a3bdff9d4d0384d3bcd2b9"), looks := true }, kinds := [], alts := [], laidByText := true, laidKinds := [.data, .data, .data, .sentinel, .sentinel], laidTests := true, laidLooks := .later }
def FnEventBackCardSaid : Prop := Claim7.holds Tryz.pinned (.plain (OpenSpec.ofChange fnEventBackSpec)) fnEventBackCard

/-- THE TIED CARD OF 'laws.FnEventStrict'. -/
def fnEventStrictCard : Claim7 := { stood := { row := fnEventStrictRow, standIns := [], harness := (true, "6f7a537e1612f3008543bc9366263b6f24fb1d2215a3bdff9d4d0384d3bcd2b9"), looks := true }, kinds := [], alts := [], laidByText := true, laidKinds := [.data, .data, .data, .sentinel, .sentinel], laidTests := true, laidLooks := .later }
def FnEventStrictCardSaid : Prop := Claim7.holds Tryz.pinned (.plain (OpenSpec.ofChange fnEventStrictSpec)) fnEventStrictCard

/-- THE SECOND FORM's CARD OF 'laws.FnEventBack'. -/
def fnEventBackUptoCard : Claim7 := { stood := { row := fnEventBackUptoRow, standIns := [], harness := (true, "6f7a537e1612f3008543bc9366263b6f24fb1d2215a3bdff9d4d0384d3bcd2b9"), looks := true }, kinds := [], alts := [], laidByText := true, laidKinds := [.data, .data, .data, .sentinel, .sentinel], laidTests := true, laidLooks := .later }
def FnEventBackUptoCardSaid : Prop := Claim7.holds Tryz.pinned (.plain (OpenSpec.upto fnEventBackSpec)) fnEventBackUptoCard

/-- THE SECOND FORM's CARD OF 'laws.FnEventStrict'. -/
def fnEventStrictUptoCard : Claim7 := { stood := { row := fnEventStrictUptoRow, standIns := [], harness := (true, "6f7a537e1612f3008543bc9366263b6f24fb1d2215a3bdff9d4d0384d3bcd2b9"), looks := true }, kinds := [], alts := [], laidByText := true, laidKinds := [.data, .data, .data, .sentinel, .sentinel], laidTests := true, laidLooks := .later }
def FnEventStrictUptoCardSaid : Prop := Claim7.holds Tryz.pinned (.plain (OpenSpec.upto fnEventStrictSpec)) fnEventStrictUptoCard
end Rows
end Go.Proofs.YtcpeajdjpecmkaaGreatDoor
