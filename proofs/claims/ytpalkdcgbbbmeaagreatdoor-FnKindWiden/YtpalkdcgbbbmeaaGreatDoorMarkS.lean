/-
  Marks: on lists of lists.
-/
import Derived.Test.YtpalkdcgbbbmeaaGreatDoorMark1
import Derived.Handy
namespace Go.Proofs.YtpalkdcgbbbmeaaGreatDoor
open Go.RowKit

theorem SpN.slice {w : World} {v : Value} {L : List Spot} (h : SpN w v L) : ∃ a l c, v = .slice a l c := by
  obtain ⟨ao, cap, hv, -⟩ := h; exact ⟨_, _, _, hv⟩

theorem SpN.below {w w' : World} {v : Value} {L : List Spot} (h : SpN w v L) (hb : Below w.heap.size w w') : SpN w' v L := h.sim ((Sim.refl w).below hb)
theorem Holds.below {w w' : World} {L : List Spot} {k : Int} (h : Holds w L k) (hL : ∀ s, s ∈ L → s.ok w) (hb : Below w.heap.size w w') : Holds w' L k :=
  h.keep (fun s hs => hb.cell (p := s.at) (Spot.ok_lt (hL s hs)))

end Go.Proofs.YtpalkdcgbbbmeaaGreatDoor
