/-
  DERIVED. GIVEN WITH THE SEED: THE CARDS: each row of YtpalkdcgbbbmeaaGreatDoorRows.lean that lists a variable, with what it lists TIED to the program's text (the seventh form; the later family's looks); each row that meets fmt, with fmt's text TOLD by the authors' own Lean function (tested against real Go, not proved from fmt's source: count such statements apart). THE CARD IS WHAT COUNTS. Prove the row's statement (the work); the ties are given (YtpalkdcgbbbmeaaGreatDoorTie.lean); close each card by the builder's one call (the guide's Derived/Test/ToyasCard.lean, 'card_holds'). Laid BY PROGRAM, IN A SANDBOX (cutbox-door.mjs). By AI agents, Wed Nov 11 2026. No macro, syntax, notation, axiom, sorry.
-/
import Derived.Test.YtpalkdcgbbbmeaaGreatDoorRows
import GoSem.ClaimSeven
namespace Go.Proofs.YtpalkdcgbbbmeaaGreatDoor
namespace Rows

/-- THE TIED CARD OF 'laws.FnKindWiden'. -/
def fnKindWidenCard : Claim7 := { stood := { row := fnKindWidenRow, standIns := [], harness := (true, "2c1103a5e102aacaf3f2028a3b0c2cf5b32f0bc69e117d5269fa8b04b620de5a"), looks := true }, kinds := [], alts := [], laidByText := true, laidKinds := [.handle], laidTests := true, laidLooks := .later }
def FnKindWidenCardSaid : Prop := Claim7.holds Tryz.pinned (.plain (OpenSpec.ofChange fnKindWidenSpec)) fnKindWidenCard

/-- THE TIED CARD OF 'laws.FnExactKindWiden'. -/
def fnExactKindWidenCard : Claim7 := { stood := { row := fnExactKindWidenRow, standIns := [], harness := (true, "2c1103a5e102aacaf3f2028a3b0c2cf5b32f0bc69e117d5269fa8b04b620de5a"), looks := true }, kinds := [], alts := [], laidByText := true, laidKinds := [.handle], laidTests := true, laidLooks := .later }
def FnExactKindWidenCardSaid : Prop := Claim7.holds Tryz.pinned (.plain (OpenSpec.ofChange fnExactKindWidenSpec)) fnExactKindWidenCard

/-- THE SECOND FORM's CARD OF 'laws.FnKindWiden'. -/
def fnKindWidenUptoCard : Claim7 := { stood := { row := fnKindWidenUptoRow, standIns := [], harness := (true, "2c1103a5e102aacaf3f2028a3b0c2cf5b32f0bc69e117d5269fa8b04b620de5a"), looks := true }, kinds := [], alts := [], laidByText := true, laidKinds := [.handle], laidTests := true, laidLooks := .later }
def FnKindWidenUptoCardSaid : Prop := Claim7.holds Tryz.pinned (.plain (OpenSpec.upto fnKindWidenSpec)) fnKindWidenUptoCard

/-- THE SECOND FORM's CARD OF 'laws.FnExactKindWiden'. -/
def fnExactKindWidenUptoCard : Claim7 := { stood := { row := fnExactKindWidenUptoRow, standIns := [], harness := (true, "2c1103a5e102aacaf3f2028a3b0c2cf5b32f0bc69e117d5269fa8b04b620de5a"), looks := true }, kinds := [], alts := [], laidByText := true, laidKinds := [.handle], laidTests := true, laidLooks := .later }
def FnExactKindWidenUptoCardSaid : Prop := Claim7.holds Tryz.pinned (.plain (OpenSpec.upto fnExactKindWidenSpec)) fnExactKindWidenUptoCard
end Rows
end Go.Proofs.YtpalkdcgbbbmeaaGreatDoor
