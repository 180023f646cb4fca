/-
  The text of a schema, by the program: within, appendForm, appendKind, KindWrite.
-/
import Derived.Test.YtdijbjhmjamagaaGreatDoorBufN
import Derived.Test.YtdijbjhmjamagaaGreatDoorB1
import Derived.Test.YtdijbjhmjamagaaGreatDoorKMade
namespace Go.Proofs.YtdijbjhmjamagaaGreatDoor
open Go.RowKit

set_option maxRecDepth 20000 in
set_option maxHeartbeats 400000 in
theorem within_any (w : World) (b g o len cap kb : Nat) (h3 : w.cell? ⟨b, 3, none⟩ = some (.slice (some ⟨g, o, none⟩) (len + 1) cap)) (hk : w.cell? ⟨g, o, none⟩ = some (.pointer (some ⟨kb, 0, none⟩))) (_hl : len < 1000) :
    Calls Tryz.prog 72 #[.pointer (some ⟨b, 0, none⟩)] w fun e w' => e = .returned (.pointer (some ⟨kb, 0, none⟩)) ∧ w' = w := by
  go_enter Tryz.func72, Tryz.ntmps72
  go_wp2_with fail
  go_ret
  exact ⟨rfl, rfl⟩

end Go.Proofs.YtdijbjhmjamagaaGreatDoor
