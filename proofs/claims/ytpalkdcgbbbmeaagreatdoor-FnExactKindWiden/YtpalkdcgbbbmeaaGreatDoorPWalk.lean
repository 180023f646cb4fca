/-
  The program's walker at inner trees, with the closure by which partsOf counts; partsOf; TreeParts.
-/
import Derived.Test.YtpalkdcgbbbmeaaGreatDoorB11
import Derived.Test.YtpalkdcgbbbmeaaGreatDoorB9
import Derived.Handy
namespace Go.Proofs.YtpalkdcgbbbmeaaGreatDoor
open Go.RowKit

set_option maxHeartbeats 400000 in
theorem kids_list (a : Option Addr) (l c : Nat) (w : World) : Calls Tryz.prog 153 #[.slice a l c] w fun e w' => e = .returned (.slice a l c) ∧ w = w' := by
  go_enter Tryz.func153, Tryz.ntmps153
  go_wp2
  go_ret
  exact ⟨rfl, rfl⟩

set_option maxHeartbeats 400000 in
theorem kids_maybe (a : Option Addr) (l c : Nat) (w : World) : Calls Tryz.prog 155 #[.slice a l c] w fun e w' => e = .returned (.slice a l c) ∧ w = w' := by
  go_enter Tryz.func155, Tryz.ntmps155
  go_wp2
  go_ret
  exact ⟨rfl, rfl⟩

set_option maxHeartbeats 400000 in
theorem kids_form (a b : Option Addr) (l c m d : Nat) (w : World) : Calls Tryz.prog 154 #[.agg #[.slice a l c, .slice b m d]] w fun e w' => e = .returned (.slice b m d) ∧ w' = w.alloc (.cells #[.slice a l c, .slice b m d] 126) := by
  go_enter Tryz.func154, Tryz.ntmps154
  go_wp2
  go_ret
  exact ⟨rfl, rfl⟩

end Go.Proofs.YtpalkdcgbbbmeaaGreatDoor
