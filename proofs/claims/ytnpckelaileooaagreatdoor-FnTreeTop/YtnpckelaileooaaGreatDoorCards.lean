/-
  DERIVED. GIVEN WITH THE SEED: THE CARDS: each row of YtnpckelaileooaaGreatDoorRows.lean that lists a variable, with what it lists TIED to the program's text (the seventh form; the later family's looks); each row that meets fmt, with fmt's text TOLD by the authors' own Lean function (tested against real Go, not proved from fmt's source: count such statements apart). THE CARD IS WHAT COUNTS. Prove the row's statement (the work); the ties are given (YtnpckelaileooaaGreatDoorTie.lean); close each card by the builder's one call (the guide's Derived/Test/ToyasCard.lean, 'card_holds'). Laid BY PROGRAM, IN A SANDBOX (cutbox-door.mjs). By AI agents, Wed Nov 11 2026. No macro, syntax, notation, axiom, sorry.
-/
import Derived.Test.YtnpckelaileooaaGreatDoorRows
import GoSem.ClaimSeven
namespace Go.Proofs.YtnpckelaileooaaGreatDoor
namespace Rows

/-- THE TIED CARD OF 'laws.FnTreeTop'. -/
def fnTreeTopCard : Claim7 := { stood := { row := fnTreeTopRow, standIns := [], harness := (true, "aa421798549bc22f55b4a65e7a4c6745439fecec084901243e0ce8df2979ec61"), looks := true }, kinds := [], alts := [], laidByText := true, laidKinds := [.data, .data, .data, .sentinel, .sentinel], laidTests := true, laidLooks := .later }
def FnTreeTopCardSaid : Prop := Claim7.holds Tryz.pinned (.plain (OpenSpec.ofChange fnTreeTopSpec)) fnTreeTopCard

/-- THE TIED CARD OF 'laws.FnTreeStrict'. -/
def fnTreeStrictCard : Claim7 := { stood := { row := fnTreeStrictRow, standIns := [], harness := (true, "aa421798549bc22f55b4a65e7a4c6745439fecec084901243e0ce8df2979ec61"), looks := true }, kinds := [], alts := [], laidByText := true, laidKinds := [.data, .data, .data, .sentinel, .sentinel], laidTests := true, laidLooks := .later }
def FnTreeStrictCardSaid : Prop := Claim7.holds Tryz.pinned (.plain (OpenSpec.ofChange fnTreeStrictSpec)) fnTreeStrictCard

/-- THE SECOND FORM's CARD OF 'laws.FnTreeTop'. -/
def fnTreeTopUptoCard : Claim7 := { stood := { row := fnTreeTopUptoRow, standIns := [], harness := (true, "aa421798549bc22f55b4a65e7a4c6745439fecec084901243e0ce8df2979ec61"), looks := true }, kinds := [], alts := [], laidByText := true, laidKinds := [.data, .data, .data, .sentinel, .sentinel], laidTests := true, laidLooks := .later }
def FnTreeTopUptoCardSaid : Prop := Claim7.holds Tryz.pinned (.plain (OpenSpec.upto fnTreeTopSpec)) fnTreeTopUptoCard

/-- THE SECOND FORM's CARD OF 'laws.FnTreeStrict'. -/
def fnTreeStrictUptoCard : Claim7 := { stood := { row := fnTreeStrictUptoRow, standIns := [], harness := (true, "aa421798549bc22f55b4a65e7a4c6745439fecec084901243e0ce8df2979ec61"), looks := true }, kinds := [], alts := [], laidByText := true, laidKinds := [.data, .data, .data, .sentinel, .sentinel], laidTests := true, laidLooks := .later }
def FnTreeStrictUptoCardSaid : Prop := Claim7.holds Tryz.pinned (.plain (OpenSpec.upto fnTreeStrictSpec)) fnTreeStrictUptoCard
end Rows
end Go.Proofs.YtnpckelaileooaaGreatDoor
