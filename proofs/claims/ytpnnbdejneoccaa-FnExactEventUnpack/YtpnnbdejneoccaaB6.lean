/-
  Several texts in one, in their order.
-/
import Derived.Test.YtpnnbdejneoccaaB5
import Derived.Laws.IdiomStrings
import Derived.Deep.QuietTactic
import Derived.BigQuiet
import Derived.Test.YtpnnbdejneoccaaB1

/-
  The program's demand, and the panic with which a text is refused.
-/
namespace Go.Proofs.Ytpnnbdejneoccaa
open Go.RowKit

/-- The panic with which a text is refused. -/
def refusal : List PanicEntry := [{ v := .iface 95 (.agg #[]), recovered := false }]

set_option maxHeartbeats 400000 in
theorem demand_yes (w : World) : Calls Try.prog 58 #[.bool true] w fun e w' => e = .returned (.tuple #[]) ∧ w' = w := by
  go_enter Try.func58, Try.ntmps58
  go_wp2
  go_end0
  exact ⟨rfl, rfl⟩

set_option maxHeartbeats 400000 in
theorem demand_no (w : World) : Calls Try.prog 58 #[.bool false] w fun e w' => e = .panicked refusal ∧ w' = w := by
  go_enter Try.func58, Try.ntmps58
  go_wp2
  exact ⟨rfl, rfl, rfl⟩

end Go.Proofs.Ytpnnbdejneoccaa

/-
  The specification's reader of trees: its block; look, eat.
-/
namespace Go.Proofs.Ytpnnbdejneoccaa
open Go.RowKit

theorem Near.drewN {R : Nat} {a w : World} (h : Near R a w) (n : Nat) : Near R a (w.drewN n) := ⟨h.os, h.tape, h.output, h.size, h.block⟩

end Go.Proofs.Ytpnnbdejneoccaa
