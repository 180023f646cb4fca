/-
 What the specification draws: l5Any.
-/
import Derived.Test.YtpalkdcgbbbmeaaGreatDoorDP1
import Derived.Test.YtpalkdcgbbbmeaaGreatDoorB17
import Derived.Test.YtpalkdcgbbbmeaaGreatDoorDF1
namespace Go.Proofs.YtpalkdcgbbbmeaaGreatDoor
open Go.RowKit

theorem spoilT_any : ∀ d, SpoilTSaid d := by
 intro d
 induction d with
 | zero =>
  intro m R ao L cap p S t c0 c1 c2 c3 c4 w hm hdt
  obtain ⟨m, rfl⟩ : ∃ m', m = m' + 1 := ⟨m - 1, by omega⟩
  exact absurd hdt.1 (by omega)
 | succ d ih => exact spoilT_step d ih

theorem pt4 : pt 4 = 262564 := by decide

end Go.Proofs.YtpalkdcgbbbmeaaGreatDoor
