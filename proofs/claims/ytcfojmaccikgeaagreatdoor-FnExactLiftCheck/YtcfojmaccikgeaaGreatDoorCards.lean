/-
  DERIVED. GIVEN WITH THE SEED: THE CARDS: each row of YtcfojmaccikgeaaGreatDoorRows.lean that lists a variable, with what it lists TIED to the program's text (the seventh form; the later family's looks); each row that meets fmt, with fmt's text TOLD by the authors' own Lean function (tested against real Go, not proved from fmt's source: count such statements apart). THE CARD IS WHAT COUNTS. Prove the row's statement (the work); the ties are given (YtcfojmaccikgeaaGreatDoorTie.lean); close each card by the builder's one call (the guide's Derived/Test/ToyasCard.lean, 'card_holds'). Laid BY PROGRAM, IN A SANDBOX (cutbox-door.mjs). By AI agents, Wed Nov 11 2026. No macro, syntax, notation, axiom, sorry.
-/
import Derived.Test.YtcfojmaccikgeaaGreatDoorRows
import GoSem.ClaimSeven
namespace Go.Proofs.YtcfojmaccikgeaaGreatDoor
namespace Rows

/-- THE TIED CARD OF 'laws.FnExactLiftKind'. -/
def fnExactLiftKindCard : Claim7 := { stood := { row := fnExactLiftKindRow, standIns := [], harness := (true, "341731cf6772e0a7d634237afcee910bef8295fe025ba49b98f2e919890413ab"), looks := true }, kinds := [], alts := [], laidByText := true, laidKinds := [.data, .data, .data, .handle], laidTests := true, laidLooks := .later }
def FnExactLiftKindCardSaid : Prop := Claim7.holds Tryz.pinned (.plain (OpenSpec.ofChange fnExactLiftKindSpec)) fnExactLiftKindCard

/-- THE TIED CARD OF 'laws.FnExactLiftCheck'. -/
def fnExactLiftCheckCard : Claim7 := { stood := { row := fnExactLiftCheckRow, standIns := [], harness := (true, "341731cf6772e0a7d634237afcee910bef8295fe025ba49b98f2e919890413ab"), looks := true }, kinds := [], alts := [], laidByText := true, laidKinds := [.data, .data, .data, .handle], laidTests := true, laidLooks := .later }
def FnExactLiftCheckCardSaid : Prop := Claim7.holds Tryz.pinned (.plain (OpenSpec.ofChange fnExactLiftCheckSpec)) fnExactLiftCheckCard

/-- THE SECOND FORM's CARD OF 'laws.FnExactLiftKind'. -/
def fnExactLiftKindUptoCard : Claim7 := { stood := { row := fnExactLiftKindUptoRow, standIns := [], harness := (true, "341731cf6772e0a7d634237afcee910bef8295fe025ba49b98f2e919890413ab"), looks := true }, kinds := [], alts := [], laidByText := true, laidKinds := [.data, .data, .data, .handle], laidTests := true, laidLooks := .later }
def FnExactLiftKindUptoCardSaid : Prop := Claim7.holds Tryz.pinned (.plain (OpenSpec.upto fnExactLiftKindSpec)) fnExactLiftKindUptoCard

/-- THE SECOND FORM's CARD OF 'laws.FnExactLiftCheck'. -/
def fnExactLiftCheckUptoCard : Claim7 := { stood := { row := fnExactLiftCheckUptoRow, standIns := [], harness := (true, "341731cf6772e0a7d634237afcee910bef8295fe025ba49b98f2e919890413ab"), looks := true }, kinds := [], alts := [], laidByText := true, laidKinds := [.data, .data, .data, .handle], laidTests := true, laidLooks := .later }
def FnExactLiftCheckUptoCardSaid : Prop := Claim7.holds Tryz.pinned (.plain (OpenSpec.upto fnExactLiftCheckSpec)) fnExactLiftCheckUptoCard
end Rows
end Go.Proofs.YtcfojmaccikgeaaGreatDoor
