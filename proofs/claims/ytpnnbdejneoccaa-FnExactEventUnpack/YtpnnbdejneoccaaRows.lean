/-
  NARROWER THAN 'FOR EVERY INPUT', by the rows' own cells (each row's printed sentence says how): FnExactEventPack: loops.
  DERIVED. THE GIVEN ROWS OF THIS SEAT. 2 by the template 'for every input the law returns true; each argument reads behind the call as it read before'; 0 by the template 'total and deterministic' (their statements: YtpnnbdejneoccaaTotals.lean).
  GIVEN WITH THE SEED: the statements are not yours to turn. If you find one false, say at which input.
  Laid BY PROGRAM, IN A SANDBOX (cutbox-rows.mjs): the forced cells as the released guide's own fill.sh prints them over the translation 016fde6e864999c9… (all of the seat's roots in one cut). By AI agents, Wed Nov 11 2026. No macro, syntax, notation, axiom, sorry.
-/
import Derived.Test.YtpnnbdejneoccaaChecked
import GoSem.Claim
import GoSem.ClaimJoined
import GoSem.ClaimMapViews
import Derived.JoinedTies
import Derived.KernelRfl
namespace Go.Proofs.Ytpnnbdejneoccaa
/- THE CELL 'sum', in the pinned program and in every row, IS THE sha256 OF THE DUMP (.gsa) THAT YtpnnbdejneoccaaProg.lean LOADS. Nothing in Lean hashes anything: it is a label: what it is worth is what the hold of that sum in a sandbox is worth. -/
noncomputable def Try.pinned : Pinned := { name := "ytpnnbdejneoccaa", sum := "016fde6e864999c97ee428bd5d48a0b85090cd8f36e17ddb639ef8bff44f9c63", checked := Try.checked }
namespace Rows
def none {H : Type} : Left H := { results := [], args := [] }

/-- 'laws.FnExactEventPack': WHATEVER THE INPUT: true; the input reads as it did. -/
def fnExactEventPackSpec : ChangeSpec := { name := "fnExactEventPack", fn := fun _ => fun
  | [d] => { results := [.lit (.bool true)], args := [d] }
  | _ => none }
def fnExactEventPackRow : OpenClaim := { program := "ytpnnbdejneoccaa", sum := "016fde6e864999c97ee428bd5d48a0b85090cd8f36e17ddb639ef8bff44f9c63", func := "loop.example/tealang/laws.FnExactEventPack", spec := "fnExactEventPack", unfollowed := true, recurses := true, loops := true, apart := false }
def FnExactEventPackSaid : Prop := fnExactEventPackRow.holds Try.pinned (OpenSpec.ofChange fnExactEventPackSpec)

/-- ITS FALSE NEIGHBOUR: 'it returns false'. Refute it at one input. -/
def fnExactEventPackWrong : ChangeSpec := { name := "fnExactEventPack", fn := fun _ => fun
  | [d] => { results := [.lit (.bool false)], args := [d] }
  | _ => none }
def FnExactEventPackWrongFalsely : Prop := fnExactEventPackRow.holds Try.pinned (OpenSpec.ofChange fnExactEventPackWrong)

/-- 'laws.FnExactEventUnpack': WHATEVER THE INPUT: true; the input reads as it did. -/
def fnExactEventUnpackSpec : ChangeSpec := { name := "fnExactEventUnpack", fn := fun _ => fun
  | [d] => { results := [.lit (.bool true)], args := [d] }
  | _ => none }
def fnExactEventUnpackRow : OpenClaim := { program := "ytpnnbdejneoccaa", sum := "016fde6e864999c97ee428bd5d48a0b85090cd8f36e17ddb639ef8bff44f9c63", func := "loop.example/tealang/laws.FnExactEventUnpack", spec := "fnExactEventUnpack", unfollowed := true, recurses := true, apart := false }
def FnExactEventUnpackSaid : Prop := fnExactEventUnpackRow.holds Try.pinned (OpenSpec.ofChange fnExactEventUnpackSpec)

/-- ITS FALSE NEIGHBOUR: 'it returns false'. Refute it at one input. -/
def fnExactEventUnpackWrong : ChangeSpec := { name := "fnExactEventUnpack", fn := fun _ => fun
  | [d] => { results := [.lit (.bool false)], args := [d] }
  | _ => none }
def FnExactEventUnpackWrongFalsely : Prop := fnExactEventUnpackRow.holds Try.pinned (OpenSpec.ofChange fnExactEventUnpackWrong)

/- THE SECOND FORM. 'bulk': how many values and letters a reading holds, each counted each time it is reached (what is shared counts as often as it is met; a slice's spare places count too). A statement '..UptoSaid' is the law's where the arguments, and the package variables that the reading takes, are together of bulk at most 1048576: NARROWER than '..Said'. Prove '..Said' where nothing that the law and all that it calls make is longer than what came in: it says more and counts as full. Else prove '..UptoSaid'. A law counts once. -/
mutual
def uptoBulk {H : Type} : DataW H → Nat
  | .lit (.string bytes) => bytes.length + 1
  | .lit _ => 1
  | .nil => 1
  | .ptr d => uptoBulk d + 1
  | .slice elems spare => uptoBulkAll elems + uptoBulkAll spare + 1
  | .agg parts => uptoBulkAll parts + 1
  | .iface _ d => uptoBulk d + 1
  | .map entries => uptoBulkEntries entries + 1
  | .held _ => 1
def uptoBulkAll {H : Type} : List (DataW H) → Nat
  | [] => 0
  | d :: r => uptoBulk d + uptoBulkAll r
def uptoBulkEntries {H : Type} : List (Lit × DataW H) → Nat
  | [] => 0
  | x :: r => uptoBulkEntry x + uptoBulkEntries r
def uptoBulkEntry {H : Type} : Lit × DataW H → Nat
  | (.string bytes, d) => bytes.length + uptoBulk d + 1
  | (_, d) => uptoBulk d + 1
 end
def uptoSmall : (H : Type) → List (DataW H) → Bool := fun _ ds => decide (uptoBulkAll ds ≤ 1048576)
def OpenSpec.upto (s : _root_.Go.ChangeSpec) : _root_.Go.OpenSpec := { _root_.Go.OpenSpec.ofChange s with cond := some uptoSmall }

/-- 'laws.FnExactEventPack', WHERE WHAT IT READS IS OF BULK AT MOST 1048576: true; the input reads as it did. -/
def fnExactEventPackUptoRow : OpenClaim := { program := "ytpnnbdejneoccaa", sum := "016fde6e864999c97ee428bd5d48a0b85090cd8f36e17ddb639ef8bff44f9c63", func := "loop.example/tealang/laws.FnExactEventPack", spec := "fnExactEventPack", unfollowed := true, recurses := true, loops := true, apart := false, narrowed := true }
def FnExactEventPackUptoSaid : Prop := fnExactEventPackUptoRow.holds Try.pinned (OpenSpec.upto fnExactEventPackSpec)

/-- 'laws.FnExactEventUnpack', WHERE WHAT IT READS IS OF BULK AT MOST 1048576: true; the input reads as it did. -/
def fnExactEventUnpackUptoRow : OpenClaim := { program := "ytpnnbdejneoccaa", sum := "016fde6e864999c97ee428bd5d48a0b85090cd8f36e17ddb639ef8bff44f9c63", func := "loop.example/tealang/laws.FnExactEventUnpack", spec := "fnExactEventUnpack", unfollowed := true, recurses := true, apart := false, narrowed := true }
def FnExactEventUnpackUptoSaid : Prop := fnExactEventUnpackUptoRow.holds Try.pinned (OpenSpec.upto fnExactEventUnpackSpec)

end Rows
end Go.Proofs.Ytpnnbdejneoccaa
