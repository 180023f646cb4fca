/-
  What the specification draws: l5AnyKind.
-/
import Derived.Test.YtpalkdcgbbbmeaaGreatDoorDK4
import Derived.Test.YtpalkdcgbbbmeaaGreatDoorDK2
namespace Go.Proofs.YtpalkdcgbbbmeaaGreatDoor
open Go.RowKit

theorem spoil_any : ∀ d, SpoilSaid d := by
  intro d
  induction d with
  | zero =>
    intro m R ao L cap p S k c0 c1 c2 w hm hdk
    obtain ⟨m, rfl⟩ : ∃ m', m = m' + 1 := ⟨m - 1, by omega⟩
    exact absurd hdk.1 (by omega)
  | succ d ih => exact spoil_step d ih

end Go.Proofs.YtpalkdcgbbbmeaaGreatDoor
