/-
  Plain mathematics: the text of a schema, and how long it is.
-/
import Derived.Test.YtpalkdcgbbbmeaaGreatDoorTextN
import Derived.Test.YtpalkdcgbbbmeaaGreatDoorKPlain
namespace Go.Proofs.YtpalkdcgbbbmeaaGreatDoor
open Go.RowKit

/-- What the first of a list gives. -/
def headL {α : Type} (f : α → List UInt8) : List α → List UInt8
  | [] => []
  | k :: _ => f k

/-- The text of a schema. -/
def txtK : (n : Nat) → K n → List UInt8
  | 0, _ => []
  | n + 1, t =>
    if Kd.sort t = 1 then [110, 117, 109]
    else if Kd.sort t = 2 then [116, 101, 120, 116]
    else if Kd.sort t = 3 then [102, 108, 97, 103]
    else if Kd.sort t = 4 then 91 :: headL (txtK n) (Kd.kids t) ++ [93]
    else if Kd.sort t = 6 then 63 :: headL (txtK n) (Kd.kids t)
    else 123 :: joinL (zipL (Kd.names t) ((Kd.kids t).map (txtK n))) ++ [125]

theorem okK_get {n : Nat} {t : K n} (h : okK n t = true) : goodK n t 1 = true ∧ cntK n t ≤ 40 := by
  simpa only [okK, Bool.and_eq_true, decide_eq_true_eq] using h

end Go.Proofs.YtpalkdcgbbbmeaaGreatDoor
