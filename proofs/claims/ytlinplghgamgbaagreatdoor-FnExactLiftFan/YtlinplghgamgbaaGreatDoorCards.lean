/-
  DERIVED. GIVEN WITH THE SEED: THE CARDS: each row of YtlinplghgamgbaaGreatDoorRows.lean that lists a variable, with what it lists TIED to the program's text (the seventh form; the later family's looks); each row that meets fmt, with fmt's text TOLD by the authors' own Lean function (tested against real Go, not proved from fmt's source: count such statements apart). THE CARD IS WHAT COUNTS. Prove the row's statement (the work); the ties are given (YtlinplghgamgbaaGreatDoorTie.lean); close each card by the builder's one call (the guide's Derived/Test/ToyasCard.lean, 'card_holds'). Laid BY PROGRAM, IN A SANDBOX (cutbox-door.mjs). By AI agents, Wed Nov 11 2026. No macro, syntax, notation, axiom, sorry.
-/
import Derived.Test.YtlinplghgamgbaaGreatDoorRows
import GoSem.ClaimSeven
namespace Go.Proofs.YtlinplghgamgbaaGreatDoor
namespace Rows

/-- THE TIED CARD OF 'laws.FnExactLiftOk'. -/
def fnExactLiftOkCard : Claim7 := { stood := { row := fnExactLiftOkRow, standIns := [], harness := (true, "9d8a905e5aabea50f45b6f7416efe7422dc002e71e88b938ea2d552c0cd244fc"), looks := true }, kinds := [], alts := [], laidByText := true, laidKinds := [.data, .data, .data], laidTests := true, laidLooks := .later }
def FnExactLiftOkCardSaid : Prop := Claim7.holds Tryz.pinned (.plain (OpenSpec.ofChange fnExactLiftOkSpec)) fnExactLiftOkCard

/-- THE TIED CARD OF 'laws.FnExactLiftCost'. -/
def fnExactLiftCostCard : Claim7 := { stood := { row := fnExactLiftCostRow, standIns := [], harness := (true, "9d8a905e5aabea50f45b6f7416efe7422dc002e71e88b938ea2d552c0cd244fc"), looks := true }, kinds := [], alts := [], laidByText := true, laidKinds := [.data, .data, .data], laidTests := true, laidLooks := .later }
def FnExactLiftCostCardSaid : Prop := Claim7.holds Tryz.pinned (.plain (OpenSpec.ofChange fnExactLiftCostSpec)) fnExactLiftCostCard

/-- THE TIED CARD OF 'laws.FnExactLiftFan'. -/
def fnExactLiftFanCard : Claim7 := { stood := { row := fnExactLiftFanRow, standIns := [], harness := (true, "9d8a905e5aabea50f45b6f7416efe7422dc002e71e88b938ea2d552c0cd244fc"), looks := true }, kinds := [], alts := [], laidByText := true, laidKinds := [.data, .data, .data], laidTests := true, laidLooks := .later }
def FnExactLiftFanCardSaid : Prop := Claim7.holds Tryz.pinned (.plain (OpenSpec.ofChange fnExactLiftFanSpec)) fnExactLiftFanCard

/-- THE SECOND FORM's CARD OF 'laws.FnExactLiftOk'. -/
def fnExactLiftOkUptoCard : Claim7 := { stood := { row := fnExactLiftOkUptoRow, standIns := [], harness := (true, "9d8a905e5aabea50f45b6f7416efe7422dc002e71e88b938ea2d552c0cd244fc"), looks := true }, kinds := [], alts := [], laidByText := true, laidKinds := [.data, .data, .data], laidTests := true, laidLooks := .later }
def FnExactLiftOkUptoCardSaid : Prop := Claim7.holds Tryz.pinned (.plain (OpenSpec.upto fnExactLiftOkSpec)) fnExactLiftOkUptoCard

/-- THE SECOND FORM's CARD OF 'laws.FnExactLiftCost'. -/
def fnExactLiftCostUptoCard : Claim7 := { stood := { row := fnExactLiftCostUptoRow, standIns := [], harness := (true, "9d8a905e5aabea50f45b6f7416efe7422dc002e71e88b938ea2d552c0cd244fc"), looks := true }, kinds := [], alts := [], laidByText := true, laidKinds := [.data, .data, .data], laidTests := true, laidLooks := .later }
def FnExactLiftCostUptoCardSaid : Prop := Claim7.holds Tryz.pinned (.plain (OpenSpec.upto fnExactLiftCostSpec)) fnExactLiftCostUptoCard

/-- THE SECOND FORM's CARD OF 'laws.FnExactLiftFan'. -/
def fnExactLiftFanUptoCard : Claim7 := { stood := { row := fnExactLiftFanUptoRow, standIns := [], harness := (true, "9d8a905e5aabea50f45b6f7416efe7422dc002e71e88b938ea2d552c0cd244fc"), looks := true }, kinds := [], alts := [], laidByText := true, laidKinds := [.data, .data, .data], laidTests := true, laidLooks := .later }
def FnExactLiftFanUptoCardSaid : Prop := Claim7.holds Tryz.pinned (.plain (OpenSpec.upto fnExactLiftFanSpec)) fnExactLiftFanUptoCard
end Rows
end Go.Proofs.YtlinplghgamgbaaGreatDoor
