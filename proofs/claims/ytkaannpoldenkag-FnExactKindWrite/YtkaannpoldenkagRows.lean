/-
  NARROWER THAN 'FOR EVERY INPUT', by the rows' own cells (each row's printed sentence says how): FnExactKindWrite: loops · FnExactKindHas: loops · FnExactKindFirst: loops.
  DERIVED. THE GIVEN ROWS OF THIS SEAT. 4 by the template 'for every input the law returns true; each argument reads behind the call as it read before'; 0 by the template 'total and deterministic' (their statements: YtkaannpoldenkagTotals.lean).
  GIVEN WITH THE SEED: the statements are not yours to turn. If you find one false, say at which input.
  Laid BY PROGRAM, IN A SANDBOX (cutbox-rows.mjs): the forced cells as the released guide's own fill.sh prints them over the translation 09b260785ff65d8f… (all of the seat's roots in one cut). By AI agents, Wed Nov 11 2026. No macro, syntax, notation, axiom, sorry.
-/
import Derived.Test.YtkaannpoldenkagChecked
import GoSem.Claim
import GoSem.ClaimJoined
import GoSem.ClaimMapViews
import Derived.JoinedTies
import Derived.KernelRfl
namespace Go.Proofs.Ytkaannpoldenkag
/- THE CELL 'sum', in the pinned program and in every row, IS THE sha256 OF THE DUMP (.gsa) THAT YtkaannpoldenkagProg.lean LOADS. Nothing in Lean hashes anything: it is a label: what it is worth is what the hold of that sum in a sandbox is worth. -/
noncomputable def Try.pinned : Pinned := { name := "ytkaannpoldenkag", sum := "09b260785ff65d8f69214d68b806b1cba5b38e9a43ca07d46471cbbfe5686a27", checked := Try.checked }
namespace Rows
def none {H : Type} : Left H := { results := [], args := [] }

/-- 'laws.FnExactKindWrite': WHATEVER THE INPUT: true; the input reads as it did. -/
def fnExactKindWriteSpec : ChangeSpec := { name := "fnExactKindWrite", fn := fun _ => fun
  | [d] => { results := [.lit (.bool true)], args := [d] }
  | _ => none }
def fnExactKindWriteRow : OpenClaim := { program := "ytkaannpoldenkag", sum := "09b260785ff65d8f69214d68b806b1cba5b38e9a43ca07d46471cbbfe5686a27", func := "loop.example/tealang/laws.FnExactKindWrite", spec := "fnExactKindWrite", unfollowed := true, recurses := true, loops := true, apart := false }
def FnExactKindWriteSaid : Prop := fnExactKindWriteRow.holds Try.pinned (OpenSpec.ofChange fnExactKindWriteSpec)

/-- ITS FALSE NEIGHBOUR: 'it returns false'. Refute it at one input. -/
def fnExactKindWriteWrong : ChangeSpec := { name := "fnExactKindWrite", fn := fun _ => fun
  | [d] => { results := [.lit (.bool false)], args := [d] }
  | _ => none }
def FnExactKindWriteWrongFalsely : Prop := fnExactKindWriteRow.holds Try.pinned (OpenSpec.ofChange fnExactKindWriteWrong)

/-- 'laws.FnExactKindRead': WHATEVER THE INPUT: true; the input reads as it did. -/
def fnExactKindReadSpec : ChangeSpec := { name := "fnExactKindRead", fn := fun _ => fun
  | [d] => { results := [.lit (.bool true)], args := [d] }
  | _ => none }
def fnExactKindReadRow : OpenClaim := { program := "ytkaannpoldenkag", sum := "09b260785ff65d8f69214d68b806b1cba5b38e9a43ca07d46471cbbfe5686a27", func := "loop.example/tealang/laws.FnExactKindRead", spec := "fnExactKindRead", inPlace := ["internal/bytealg.IndexByteString"], unfollowed := true, recurses := true, apart := false }
def FnExactKindReadSaid : Prop := fnExactKindReadRow.holds Try.pinned (OpenSpec.ofChange fnExactKindReadSpec)

/-- ITS FALSE NEIGHBOUR: 'it returns false'. Refute it at one input. -/
def fnExactKindReadWrong : ChangeSpec := { name := "fnExactKindRead", fn := fun _ => fun
  | [d] => { results := [.lit (.bool false)], args := [d] }
  | _ => none }
def FnExactKindReadWrongFalsely : Prop := fnExactKindReadRow.holds Try.pinned (OpenSpec.ofChange fnExactKindReadWrong)

/-- 'laws.FnExactKindHas': WHATEVER THE INPUT: true; the input reads as it did. -/
def fnExactKindHasSpec : ChangeSpec := { name := "fnExactKindHas", fn := fun _ => fun
  | [d1, d2] => { results := [.lit (.bool true)], args := [d1, d2] }
  | _ => none }
def fnExactKindHasRow : OpenClaim := { program := "ytkaannpoldenkag", sum := "09b260785ff65d8f69214d68b806b1cba5b38e9a43ca07d46471cbbfe5686a27", func := "loop.example/tealang/laws.FnExactKindHas", spec := "fnExactKindHas", unfollowed := true, recurses := true, loops := true, apart := false }
def FnExactKindHasSaid : Prop := fnExactKindHasRow.holds Try.pinned (OpenSpec.ofChange fnExactKindHasSpec)

/-- ITS FALSE NEIGHBOUR: 'it returns false'. Refute it at one input. -/
def fnExactKindHasWrong : ChangeSpec := { name := "fnExactKindHas", fn := fun _ => fun
  | [d1, d2] => { results := [.lit (.bool false)], args := [d1, d2] }
  | _ => none }
def FnExactKindHasWrongFalsely : Prop := fnExactKindHasRow.holds Try.pinned (OpenSpec.ofChange fnExactKindHasWrong)

/-- 'laws.FnExactKindFirst': WHATEVER THE INPUT: true; the input reads as it did. -/
def fnExactKindFirstSpec : ChangeSpec := { name := "fnExactKindFirst", fn := fun _ => fun
  | [d] => { results := [.lit (.bool true)], args := [d] }
  | _ => none }
def fnExactKindFirstRow : OpenClaim := { program := "ytkaannpoldenkag", sum := "09b260785ff65d8f69214d68b806b1cba5b38e9a43ca07d46471cbbfe5686a27", func := "loop.example/tealang/laws.FnExactKindFirst", spec := "fnExactKindFirst", unfollowed := true, recurses := true, loops := true, apart := false }
def FnExactKindFirstSaid : Prop := fnExactKindFirstRow.holds Try.pinned (OpenSpec.ofChange fnExactKindFirstSpec)

/-- ITS FALSE NEIGHBOUR: 'it returns false'. Refute it at one input. -/
def fnExactKindFirstWrong : ChangeSpec := { name := "fnExactKindFirst", fn := fun _ => fun
  | [d] => { results := [.lit (.bool false)], args := [d] }
  | _ => none }
def FnExactKindFirstWrongFalsely : Prop := fnExactKindFirstRow.holds Try.pinned (OpenSpec.ofChange fnExactKindFirstWrong)

/- THE SECOND FORM. 'bulk': how many values and letters a reading holds, each counted each time it is reached (what is shared counts as often as it is met; a slice's spare places count too). A statement '..UptoSaid' is the law's where the arguments, and the package variables that the reading takes, are together of bulk at most 1048576: NARROWER than '..Said'. Prove '..Said' where nothing that the law and all that it calls make is longer than what came in: it says more and counts as full. Else prove '..UptoSaid'. A law counts once. -/
mutual
def uptoBulk {H : Type} : DataW H → Nat
  | .lit (.string bytes) => bytes.length + 1
  | .lit _ => 1
  | .nil => 1
  | .ptr d => uptoBulk d + 1
  | .slice elems spare => uptoBulkAll elems + uptoBulkAll spare + 1
  | .agg parts => uptoBulkAll parts + 1
  | .iface _ d => uptoBulk d + 1
  | .map entries => uptoBulkEntries entries + 1
  | .held _ => 1
def uptoBulkAll {H : Type} : List (DataW H) → Nat
  | [] => 0
  | d :: r => uptoBulk d + uptoBulkAll r
def uptoBulkEntries {H : Type} : List (Lit × DataW H) → Nat
  | [] => 0
  | x :: r => uptoBulkEntry x + uptoBulkEntries r
def uptoBulkEntry {H : Type} : Lit × DataW H → Nat
  | (.string bytes, d) => bytes.length + uptoBulk d + 1
  | (_, d) => uptoBulk d + 1
 end
def uptoSmall : (H : Type) → List (DataW H) → Bool := fun _ ds => decide (uptoBulkAll ds ≤ 1048576)
def OpenSpec.upto (s : _root_.Go.ChangeSpec) : _root_.Go.OpenSpec := { _root_.Go.OpenSpec.ofChange s with cond := some uptoSmall }

/-- 'laws.FnExactKindWrite', WHERE WHAT IT READS IS OF BULK AT MOST 1048576: true; the input reads as it did. -/
def fnExactKindWriteUptoRow : OpenClaim := { program := "ytkaannpoldenkag", sum := "09b260785ff65d8f69214d68b806b1cba5b38e9a43ca07d46471cbbfe5686a27", func := "loop.example/tealang/laws.FnExactKindWrite", spec := "fnExactKindWrite", unfollowed := true, recurses := true, loops := true, apart := false, narrowed := true }
def FnExactKindWriteUptoSaid : Prop := fnExactKindWriteUptoRow.holds Try.pinned (OpenSpec.upto fnExactKindWriteSpec)

/-- 'laws.FnExactKindRead', WHERE WHAT IT READS IS OF BULK AT MOST 1048576: true; the input reads as it did. -/
def fnExactKindReadUptoRow : OpenClaim := { program := "ytkaannpoldenkag", sum := "09b260785ff65d8f69214d68b806b1cba5b38e9a43ca07d46471cbbfe5686a27", func := "loop.example/tealang/laws.FnExactKindRead", spec := "fnExactKindRead", inPlace := ["internal/bytealg.IndexByteString"], unfollowed := true, recurses := true, apart := false, narrowed := true }
def FnExactKindReadUptoSaid : Prop := fnExactKindReadUptoRow.holds Try.pinned (OpenSpec.upto fnExactKindReadSpec)

/-- 'laws.FnExactKindHas', WHERE WHAT IT READS IS OF BULK AT MOST 1048576: true; the input reads as it did. -/
def fnExactKindHasUptoRow : OpenClaim := { program := "ytkaannpoldenkag", sum := "09b260785ff65d8f69214d68b806b1cba5b38e9a43ca07d46471cbbfe5686a27", func := "loop.example/tealang/laws.FnExactKindHas", spec := "fnExactKindHas", unfollowed := true, recurses := true, loops := true, apart := false, narrowed := true }
def FnExactKindHasUptoSaid : Prop := fnExactKindHasUptoRow.holds Try.pinned (OpenSpec.upto fnExactKindHasSpec)

/-- 'laws.FnExactKindFirst', WHERE WHAT IT READS IS OF BULK AT MOST 1048576: true; the input reads as it did. -/
def fnExactKindFirstUptoRow : OpenClaim := { program := "ytkaannpoldenkag", sum := "09b260785ff65d8f69214d68b806b1cba5b38e9a43ca07d46471cbbfe5686a27", func := "loop.example/tealang/laws.FnExactKindFirst", spec := "fnExactKindFirst", unfollowed := true, recurses := true, loops := true, apart := false, narrowed := true }
def FnExactKindFirstUptoSaid : Prop := fnExactKindFirstUptoRow.holds Try.pinned (OpenSpec.upto fnExactKindFirstSpec)

end Rows
end Go.Proofs.Ytkaannpoldenkag
