/-
  Several texts in one, in their order.
-/
import Derived.Test.YtmjhcgjhlakceaaGreatDoorB1
import Derived.Test.YtmjhcgjhlakceaaGreatDoorB5
import Derived.Maps.Own
import Derived.Deep.RegionLaw
import Derived.Maps.Views
import Derived.Maps.OwnSet
import Derived.Test.YtmjhcgjhlakceaaGreatDoorB8
import Derived.Deep.QuietTactic
import Derived.BigQuiet
import Derived.Deep.WholeRow
import Derived.Deep.Cut
import Derived.Deep.CutRange
import Derived.LoopTactic
import Derived.Test.YtmjhcgjhlakceaaGreatDoorBufN
import Derived.Deep.RegionWith
import Derived.Deep.RegionHeld

namespace Go.Proofs.YtmjhcgjhlakceaaGreatDoor
open Go.RowKit Go.WideMaps Go.Maps
def placesTo (l : List ByteArray) : Nat -> DataW Unit
 | 0 => .map []
 | k + 1 => (placesTo l k).put (.string (l.getD k ByteArray.empty).data.toList) (.lit (.int .i64 k))
def PlacesIn (S : Nat -> Prop) (w : World) (l : List ByteArray) (v : Value) : Prop :=
 ∃ mb, v = .map (some mb) /\ S mb /\ w.ownsMap Tryz.prog 9 (plainElem Tryz.prog 3) mb l.length (placesTo l l.length)
theorem PlacesIn.keep {S S' : Nat -> Prop} {w w' : World} {l : List ByteArray} {v : Value} (h : PlacesIn S w l v) (hb : Same S w w') (hS : ∀ b, S b -> S' b) : PlacesIn S' w' l v := by
 obtain ⟨mb, rfl, hm, es, clock, h1, h2⟩ := h
 exact ⟨mb, rfl, hS mb hm, es, clock, by rw [hb mb hm]; exact h1, h2⟩
end Go.Proofs.YtmjhcgjhlakceaaGreatDoor

namespace Go.Proofs.YtmjhcgjhlakceaaGreatDoor
open Go.RowKit
theorem below_alloc {w V : World} (h : Below w.heap.size w V) (o : Obj) : Below w.heap.size w (V.alloc o) := h.alloc h.size o
theorem below_allocD {w V : World} (h : Below w.heap.size w V.drew) (o : Obj) : Below w.heap.size w (V.alloc o).drew := by
 have h' : Below w.heap.size w V := ⟨h.os, h.tape, h.output, h.size, h.block⟩
 exact (below_alloc h' o).drew
end Go.Proofs.YtmjhcgjhlakceaaGreatDoor
