/-
 Several texts in one, in their order.
-/
import Derived.Test.YtpalkdcgbbbmeaaGreatDoorB11
import Derived.Deep.RegionLaw
import Derived.Test.YtpalkdcgbbbmeaaGreatDoorB1
import Derived.Lib.AppendStr
import Derived.Lib.Hide
import Derived.Lib.OthersKept
import Derived.Laws.IdiomStrings
import Derived.Test.YtpalkdcgbbbmeaaGreatDoorKMade

/-
 Marks on lists of texts: markStringS, heldStringS.
-/
namespace Go.Proofs.YtpalkdcgbbbmeaaGreatDoor
open Go.RowKit

def SpN (w : World) (v : Value) (L : List Spot) : Prop :=
 ∃ (ao : Option Addr) (cap : Nat), v = .slice ao L.length cap ∧ L.length ≤ maxLen ∧ (∀ i (h : i < L.length), ∃ b off, ao = some ⟨b, off, none⟩ ∧ L[i] = ⟨b, off + i, true⟩) ∧ ∀ s, s ∈ L → s.ok w

theorem SpN.sim {w w' : World} {v : Value} {L : List Spot} (h : SpN w v L) (hs : Sim w w') : SpN w' v L := by
 obtain ⟨ao, cap, hv, hl, ha, hk⟩ := h
 exact ⟨ao, cap, hv, hl, ha, fun s hsL => Spot.ok_sim (hk s hsL) hs⟩

end Go.Proofs.YtpalkdcgbbbmeaaGreatDoor

/-
 The text of a schema, by the program: within, appendForm, appendKind, KindWrite.
-/
namespace Go.Proofs.YtpalkdcgbbbmeaaGreatDoor
open Go.RowKit

theorem four_cells {w : World} {N : Nat} {a b c d : Value} {t : TypeId} (h : w.heap[N]? = some (.cells #[a, b, c, d] t (0, 0))) :
  w.cell? ⟨N, 0, none⟩ = some a ∧ w.cell? ⟨N, 1, none⟩ = some b ∧ w.cell? ⟨N, 2, none⟩ = some c ∧ w.cell? ⟨N, 3, none⟩ = some d := by
 refine ⟨?_, ?_, ?_, ?_⟩ <;> simp [World.cell?, h]

set_option maxRecDepth 20000 in
set_option maxHeartbeats 400000 in
theorem within_any (w : World) (b g o len cap kb : Nat) (h3 : w.cell? ⟨b, 3, none⟩ = some (.slice (some ⟨g, o, none⟩) (len + 1) cap)) (hk : w.cell? ⟨g, o, none⟩ = some (.pointer (some ⟨kb, 0, none⟩))) (_hl : len < 1000) :
  Calls Tryz.prog 70 #[.pointer (some ⟨b, 0, none⟩)] w fun e w' => e = .returned (.pointer (some ⟨kb, 0, none⟩)) ∧ w' = w := by
 go_enter Tryz.func70, Tryz.ntmps70
 go_wp2_with fail
 go_ret
 exact ⟨rfl, rfl⟩

end Go.Proofs.YtpalkdcgbbbmeaaGreatDoor
