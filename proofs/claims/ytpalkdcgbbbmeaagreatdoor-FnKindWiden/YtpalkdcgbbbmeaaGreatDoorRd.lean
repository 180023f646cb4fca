/-
  The specification's reader of trees: its block; look, eat.
-/
import Derived.Test.YtpalkdcgbbbmeaaGreatDoorEat
import Derived.Test.YtpalkdcgbbbmeaaGreatDoorNear
import Derived.Laws.IdiomStrings
import Derived.Deep.QuietTactic
import Derived.BigQuiet
namespace Go.Proofs.YtpalkdcgbbbmeaaGreatDoor
open Go.RowKit

theorem Near.drewN {R : Nat} {a w : World} (h : Near R a w) (n : Nat) : Near R a (w.drewN n) := ⟨h.os, h.tape, h.output, h.size, h.block⟩

end Go.Proofs.YtpalkdcgbbbmeaaGreatDoor
