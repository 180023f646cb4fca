/-
  The program's inner schemas: what they are in memory; placesOf.
-/
import Derived.Test.YtpnnbdejneoccaaB9
import Derived.Test.YtpnnbdejneoccaaB5
import Derived.Test.YtpnnbdejneoccaaB1
import Derived.Test.YtpnnbdejneoccaaB7
import Derived.Maps.Own
namespace Go.Proofs.Ytpnnbdejneoccaa
open Go.RowKit Go.WideMaps Go.Maps

/-- The data of the map of the first k names. -/
def placesTo (l : List ByteArray) : Nat → DataW Unit
  | 0 => .map []
  | k + 1 => (placesTo l k).put (.string (l.getD k ByteArray.empty).data.toList) (.lit (.int .i64 k))

/-- A map from names to their places, in blocks of S. -/
def PlacesIn (S : Nat → Prop) (w : World) (l : List ByteArray) (v : Value) : Prop :=
  ∃ mb, v = .map (some mb) ∧ S mb ∧ w.ownsMap Try.prog 9 (plainElem Try.prog 3) mb l.length (placesTo l l.length)

theorem PlacesIn.keep {S S' : Nat → Prop} {w w' : World} {l : List ByteArray} {v : Value} (h : PlacesIn S w l v) (hb : Same S w w') (hS : ∀ b, S b → S' b) : PlacesIn S' w' l v := by
  obtain ⟨mb, rfl, hm, es, clock, h1, h2⟩ := h
  exact ⟨mb, rfl, hS mb hm, es, clock, by rw [hb mb hm]; exact h1, h2⟩

end Go.Proofs.Ytpnnbdejneoccaa
