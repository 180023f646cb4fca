/-
  A schema in a box of the law's.
-/
import Derived.Test.YtpalkdcgbbbmeaaGreatDoorKRep
namespace Go.Proofs.YtpalkdcgbbbmeaaGreatDoor
open Go.RowKit

/-- A schema in a box. -/
structure BoxK (B : Nat) (w : World) (n : Nat) (k : K n) (N : Nat) (c0 c1 c2 : Value) : Prop where
  box : Box3 w N c0 c1 c2
  kind : KindIn (fun b => b < B) w n k c0 c1 c2
  lt : B ≤ w.heap.size

theorem BoxK.keep {B : Nat} {w w' : World} {n : Nat} {k : K n} {N : Nat} {c0 c1 c2 : Value} (h : BoxK B w n k N c0 c1 c2) (hb : Below w.heap.size w w') : BoxK B w' n k N c0 c1 c2 :=
  ⟨h.box.keep hb, h.kind.keep (same_below hb (fun _ hb' => Nat.lt_of_lt_of_le hb' h.lt)) (fun _ h => h), Nat.le_trans h.lt hb.size⟩

end Go.Proofs.YtpalkdcgbbbmeaaGreatDoor
