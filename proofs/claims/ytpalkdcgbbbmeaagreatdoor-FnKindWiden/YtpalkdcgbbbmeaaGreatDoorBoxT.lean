/-
  A tree in a box of the law's.
-/
import Derived.Test.YtpalkdcgbbbmeaaGreatDoorRep
import Derived.Test.YtpalkdcgbbbmeaaGreatDoorNear
import Derived.Test.YtpalkdcgbbbmeaaGreatDoorBox
namespace Go.Proofs.YtpalkdcgbbbmeaaGreatDoor
open Go.RowKit

/-- A tree in a box, all of its blocks below B. -/
structure BoxT (B : Nat) (w : World) (n : Nat) (t : T n) (N : Nat) (c0 c1 c2 c3 c4 : Value) : Prop where
  box : Box5 w N c0 c1 c2 c3 c4
  tree : TreeIn (fun b => b < B) w n t c0 c1 c2 c3 c4
  lt : B ≤ w.heap.size

theorem BoxT.keep {B : Nat} {w w' : World} {n : Nat} {t : T n} {N : Nat} {c0 c1 c2 c3 c4 : Value} (h : BoxT B w n t N c0 c1 c2 c3 c4) (hb : Below w.heap.size w w') : BoxT B w' n t N c0 c1 c2 c3 c4 :=
  ⟨h.box.keep hb, h.tree.keep (same_below hb (fun _ hb' => Nat.lt_of_lt_of_le hb' h.lt)) (fun _ h => h), Nat.le_trans h.lt hb.size⟩

end Go.Proofs.YtpalkdcgbbbmeaaGreatDoor
