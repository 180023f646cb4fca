/-
  Plain mathematics: lists of bytes as texts; texts with a comma between; how long they are.
-/
import Derived.Test.YtpalkdcgbbbmeaaGreatDoorPlain2
namespace Go.Proofs.YtpalkdcgbbbmeaaGreatDoor
open Go.RowKit

/-- A list of bytes as a text. -/
def bs (l : List UInt8) : ByteArray := ⟨l.toArray⟩

theorem bs_append (a b : List UInt8) : bs a ++ bs b = bs (a ++ b) := by
  apply ByteArray.ext
  simp [bs]

theorem bs_size (l : List UInt8) : (bs l).size = l.length := by simp [bs, ByteArray.size]

/-- Texts with a comma between, each with what stands ahead of it. -/
def joinL : List (List UInt8) → List UInt8
  | [] => []
  | [x] => x
  | x :: y :: r => x ++ 44 :: joinL (y :: r)

/-- What the kids of a form are called, each with its text. -/
def zipL : List ByteArray → List (List UInt8) → List (List UInt8)
  | a :: r, x :: s => (a.data.toList ++ 58 :: x) :: zipL r s
  | _, _ => []

end Go.Proofs.YtpalkdcgbbbmeaaGreatDoor
