/-
  Small facts on what a call returns.
-/
import Derived.Test.YtpalkdcgbbbmeaaGreatDoorRep
namespace Go.Proofs.YtpalkdcgbbbmeaaGreatDoor
open Go.RowKit

theorem ret_int {k : IntKind} {a b : Int} (h : a = b) : Ending.returned (.int k a) = .returned (.int k b) := by rw [h]
theorem str_ret {a b : ByteArray} (h : a = b) : Ending.returned (.string a) = .returned (.string b) := by rw [h]

end Go.Proofs.YtpalkdcgbbbmeaaGreatDoor
