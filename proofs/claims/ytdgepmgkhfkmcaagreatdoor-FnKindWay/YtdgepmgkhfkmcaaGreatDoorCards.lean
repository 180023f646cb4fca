/-
  DERIVED. GIVEN WITH THE SEED: THE CARDS: each row of YtdgepmgkhfkmcaaGreatDoorRows.lean that lists a variable, with what it lists TIED to the program's text (the seventh form; the later family's looks); each row that meets fmt, with fmt's text TOLD by the authors' own Lean function (tested against real Go, not proved from fmt's source: count such statements apart). THE CARD IS WHAT COUNTS. Prove the row's statement (the work); the ties are given (YtdgepmgkhfkmcaaGreatDoorTie.lean); close each card by the builder's one call (the guide's Derived/Test/ToyasCard.lean, 'card_holds'). Laid BY PROGRAM, IN A SANDBOX (cutbox-door.mjs). By AI agents, Wed Nov 11 2026. No macro, syntax, notation, axiom, sorry.
-/
import Derived.Test.YtdgepmgkhfkmcaaGreatDoorRows
import GoSem.ClaimSeven
namespace Go.Proofs.YtdgepmgkhfkmcaaGreatDoor
namespace Rows

/-- THE TIED CARD OF 'laws.FnKindWay'. -/
def fnKindWayCard : Claim7 := { stood := { row := fnKindWayRow, standIns := [], harness := (true, "132ec5bccb342fa40ed404c51154e9db7492810c222f6711462eccf18552dcc0"), looks := true }, kinds := [], alts := [], laidByText := true, laidKinds := [.handle], laidTests := true, laidLooks := .later }
def FnKindWayCardSaid : Prop := Claim7.holds Tryz.pinned (.plain (OpenSpec.ofChange fnKindWaySpec)) fnKindWayCard

/-- THE TIED CARD OF 'laws.FnExactKindJoin'. -/
def fnExactKindJoinCard : Claim7 := { stood := { row := fnExactKindJoinRow, standIns := [], harness := (true, "132ec5bccb342fa40ed404c51154e9db7492810c222f6711462eccf18552dcc0"), looks := true }, kinds := [], alts := [], laidByText := true, laidKinds := [.handle], laidTests := true, laidLooks := .later }
def FnExactKindJoinCardSaid : Prop := Claim7.holds Tryz.pinned (.plain (OpenSpec.ofChange fnExactKindJoinSpec)) fnExactKindJoinCard

/-- THE SECOND FORM's CARD OF 'laws.FnKindWay'. -/
def fnKindWayUptoCard : Claim7 := { stood := { row := fnKindWayUptoRow, standIns := [], harness := (true, "132ec5bccb342fa40ed404c51154e9db7492810c222f6711462eccf18552dcc0"), looks := true }, kinds := [], alts := [], laidByText := true, laidKinds := [.handle], laidTests := true, laidLooks := .later }
def FnKindWayUptoCardSaid : Prop := Claim7.holds Tryz.pinned (.plain (OpenSpec.upto fnKindWaySpec)) fnKindWayUptoCard

/-- THE SECOND FORM's CARD OF 'laws.FnExactKindJoin'. -/
def fnExactKindJoinUptoCard : Claim7 := { stood := { row := fnExactKindJoinUptoRow, standIns := [], harness := (true, "132ec5bccb342fa40ed404c51154e9db7492810c222f6711462eccf18552dcc0"), looks := true }, kinds := [], alts := [], laidByText := true, laidKinds := [.handle], laidTests := true, laidLooks := .later }
def FnExactKindJoinUptoCardSaid : Prop := Claim7.holds Tryz.pinned (.plain (OpenSpec.upto fnExactKindJoinSpec)) fnExactKindJoinUptoCard
end Rows
end Go.Proofs.YtdgepmgkhfkmcaaGreatDoor
