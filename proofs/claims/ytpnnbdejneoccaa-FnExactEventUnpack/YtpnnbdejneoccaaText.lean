/-
  Plain mathematics: the text of a tree, and how long it is.
-/
import Derived.Test.YtpnnbdejneoccaaB1
import Derived.Lib.ItoaNum
import Derived.Lib.ItoaLen
namespace Go.Proofs.Ytpnnbdejneoccaa
open Go.RowKit

/-- The text of a maybe, by that of its kid. -/
def mayTxt {α : Type} (f : α → List UInt8) : List α → List UInt8
  | [] => [126]
  | k :: _ => 63 :: f k

/-- The text of a tree. -/
def txtL : (n : Nat) → T n → List UInt8
  | 0, _ => []
  | n + 1, t =>
    if Nd.sort t = 1 then Lib.itoa (Nd.num t)
    else if Nd.sort t = 2 then 34 :: (Nd.text t).data.toList ++ [34]
    else if Nd.sort t = 3 then (if Nd.num t = 1 then [121, 101, 115] else [110, 111])
    else if Nd.sort t = 6 then mayTxt (txtL n) (Nd.kids t)
    else if Nd.sort t = 5 then 123 :: joinL (zipL (Nd.names t) ((Nd.kids t).map (txtL n))) ++ [125]
    else 91 :: joinL ((Nd.kids t).map (txtL n)) ++ [93]

end Go.Proofs.Ytpnnbdejneoccaa
