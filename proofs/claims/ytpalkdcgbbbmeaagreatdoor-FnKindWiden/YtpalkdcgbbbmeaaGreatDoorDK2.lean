/-
  What the specification draws: l5Some.
-/
import Derived.Test.YtpalkdcgbbbmeaaGreatDoorDK1
import Derived.Test.YtpalkdcgbbbmeaaGreatDoorKSpec
namespace Go.Proofs.YtpalkdcgbbbmeaaGreatDoor
open Go.RowKit

theorem pk_mono : ∀ {d e : Nat}, d ≤ e → pk d ≤ pk e := by
  intro d e h
  induction e generalizing d with
  | zero => have : d = 0 := by omega
            subst this; exact Nat.le_refl _
  | succ e ih =>
    cases d with
    | zero => simp only [pk]; omega
    | succ d => simp only [pk]; have := ih (show d ≤ e by omega); omega

theorem pk4 : pk 4 = 5265 := rfl

end Go.Proofs.YtpalkdcgbbbmeaaGreatDoor
