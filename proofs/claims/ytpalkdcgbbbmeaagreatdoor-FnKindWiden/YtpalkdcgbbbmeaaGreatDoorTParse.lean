/-
  Plain mathematics: a tree of a text, as a function of no bounds; what it reads has that text, and what is ok is read from its text.
-/
import Derived.Test.YtpalkdcgbbbmeaaGreatDoorEat
import Derived.Test.YtpalkdcgbbbmeaaGreatDoorKText
import Derived.Test.YtpalkdcgbbbmeaaGreatDoorTRdP
namespace Go.Proofs.YtpalkdcgbbbmeaaGreatDoor
open Go.RowKit

theorem okT_parts {n : Nat} {t : T n} (h : okT n t = true) : goodT n t 1 = true ∧ cntT n t ≤ 120 := by
  simpa only [okT, Bool.and_eq_true, decide_eq_true_eq] using h

end Go.Proofs.YtpalkdcgbbbmeaaGreatDoor
