/-
  Marks on lists of texts: markStringS, heldStringS.
-/
import Derived.Test.YtlinplghgamgbaaGreatDoorB4
import Derived.Deep.RegionLaw
namespace Go.Proofs.YtlinplghgamgbaaGreatDoor
open Go.RowKit

/-- The spots of a list of texts. -/
def SpN (w : World) (v : Value) (L : List Spot) : Prop :=
  ∃ (ao : Option Addr) (cap : Nat), v = .slice ao L.length cap ∧ L.length ≤ maxLen ∧ (∀ i (h : i < L.length), ∃ b off, ao = some ⟨b, off, none⟩ ∧ L[i] = ⟨b, off + i, true⟩) ∧ ∀ s, s ∈ L → s.ok w

theorem SpN.sim {w w' : World} {v : Value} {L : List Spot} (h : SpN w v L) (hs : Sim w w') : SpN w' v L := by
  obtain ⟨ao, cap, hv, hl, ha, hk⟩ := h
  exact ⟨ao, cap, hv, hl, ha, fun s hsL => Spot.ok_sim (hk s hsL) hs⟩

theorem SpN.ok {w : World} {v : Value} {L : List Spot} (h : SpN w v L) : ∀ s, s ∈ L → s.ok w := by
  obtain ⟨-, -, -, -, -, hk⟩ := h
  exact hk

end Go.Proofs.YtlinplghgamgbaaGreatDoor
