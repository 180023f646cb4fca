/-
  Several texts in one, in their order.
-/
import Derived.Test.YtfbfchffnapnnaaGreatDoorDP1
import Derived.Test.YtfbfchffnapnnaaGreatDoorB23
import Derived.Test.YtfbfchffnapnnaaGreatDoorB26
import Derived.Deep.RegionLaw

/-
  What the specification draws: l5Any.
-/
namespace Go.Proofs.YtfbfchffnapnnaaGreatDoor
open Go.RowKit

theorem spoilT_any : ∀ d, SpoilTSaid d := by
  intro d
  induction d with
  | zero =>
    intro m R ao L cap p S t c0 c1 c2 c3 c4 w hm hdt
    obtain ⟨m, rfl⟩ : ∃ m', m = m' + 1 := ⟨m - 1, by omega⟩
    exact absurd hdt.1 (by omega)
  | succ d ih => exact spoilT_step d ih

theorem pt4 : pt 4 = 262564 := by decide

end Go.Proofs.YtfbfchffnapnnaaGreatDoor

/-
  Marks on lists of texts: markStringS, heldStringS.
-/
namespace Go.Proofs.YtfbfchffnapnnaaGreatDoor
open Go.RowKit

/-- The spots of a list of texts. -/
def SpN (w : World) (v : Value) (L : List Spot) : Prop :=
  ∃ (ao : Option Addr) (cap : Nat), v = .slice ao L.length cap ∧ L.length ≤ maxLen ∧ (∀ i (h : i < L.length), ∃ b off, ao = some ⟨b, off, none⟩ ∧ L[i] = ⟨b, off + i, true⟩) ∧ ∀ s, s ∈ L → s.ok w

theorem SpN.sim {w w' : World} {v : Value} {L : List Spot} (h : SpN w v L) (hs : Sim w w') : SpN w' v L := by
  obtain ⟨ao, cap, hv, hl, ha, hk⟩ := h
  exact ⟨ao, cap, hv, hl, ha, fun s hsL => Spot.ok_sim (hk s hsL) hs⟩

theorem SpN.ok {w : World} {v : Value} {L : List Spot} (h : SpN w v L) : ∀ s, s ∈ L → s.ok w := by
  obtain ⟨-, -, -, -, -, hk⟩ := h
  exact hk

end Go.Proofs.YtfbfchffnapnnaaGreatDoor
