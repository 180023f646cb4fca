/-
  The program's walker at inner trees, with the closure by which partsOf counts; partsOf; TreeParts.
-/
import Derived.Test.YtdgepmgkhfkmcaaGreatDoorB9
import Derived.Test.YtdgepmgkhfkmcaaGreatDoorB6
import Derived.Test.YtdgepmgkhfkmcaaGreatDoorB1
import Derived.Handy
namespace Go.Proofs.YtdgepmgkhfkmcaaGreatDoor
open Go.RowKit

set_option maxHeartbeats 400000 in
theorem kids_list (a : Option Addr) (l c : Nat) (w : World) : Calls Tryz.prog 177 #[.slice a l c] w fun e w' => e = .returned (.slice a l c) ∧ w = w' := by
  go_enter Tryz.func177, Tryz.ntmps177
  go_wp2
  go_ret
  exact ⟨rfl, rfl⟩

set_option maxHeartbeats 400000 in
theorem kids_maybe (a : Option Addr) (l c : Nat) (w : World) : Calls Tryz.prog 179 #[.slice a l c] w fun e w' => e = .returned (.slice a l c) ∧ w = w' := by
  go_enter Tryz.func179, Tryz.ntmps179
  go_wp2
  go_ret
  exact ⟨rfl, rfl⟩

set_option maxHeartbeats 400000 in
theorem kids_form (a b : Option Addr) (l c m d : Nat) (w : World) : Calls Tryz.prog 178 #[.agg #[.slice a l c, .slice b m d]] w fun e w' => e = .returned (.slice b m d) ∧ w' = w.alloc (.cells #[.slice a l c, .slice b m d] 133) := by
  go_enter Tryz.func178, Tryz.ntmps178
  go_wp2
  go_ret
  exact ⟨rfl, rfl⟩

end Go.Proofs.YtdgepmgkhfkmcaaGreatDoor
