/-
  What the program's type switches over its inner trees answer.
-/
import Derived.Test.YtkaannpoldenkagRep
namespace Go.Proofs.Ytkaannpoldenkag
open Go.RowKit

theorem Try.yes_num (x : Value) (w : World) : (Instr.typeAssert (.iface 103 x) 77 103 true).run Try.prog w = .ok (.tuple #[x, .bool true]) w := by kernel_rfl
theorem Try.no_num_text (x : Value) (w : World) : (Instr.typeAssert (.iface 104 x) 77 103 true).run Try.prog w = .ok (.tuple #[.int .i64 0, .bool false]) w := by kernel_rfl
theorem Try.yes_text (x : Value) (w : World) : (Instr.typeAssert (.iface 104 x) 77 104 true).run Try.prog w = .ok (.tuple #[x, .bool true]) w := by kernel_rfl
theorem Try.no_num_flag (x : Value) (w : World) : (Instr.typeAssert (.iface 105 x) 77 103 true).run Try.prog w = .ok (.tuple #[.int .i64 0, .bool false]) w := by kernel_rfl
theorem Try.no_text_flag (x : Value) (w : World) : (Instr.typeAssert (.iface 105 x) 77 104 true).run Try.prog w = .ok (.tuple #[.string ByteArray.empty, .bool false]) w := by kernel_rfl
theorem Try.yes_flag (x : Value) (w : World) : (Instr.typeAssert (.iface 105 x) 77 105 true).run Try.prog w = .ok (.tuple #[x, .bool true]) w := by kernel_rfl
theorem Try.no_num_list (x : Value) (w : World) : (Instr.typeAssert (.iface 107 x) 77 103 true).run Try.prog w = .ok (.tuple #[.int .i64 0, .bool false]) w := by kernel_rfl
theorem Try.no_text_list (x : Value) (w : World) : (Instr.typeAssert (.iface 107 x) 77 104 true).run Try.prog w = .ok (.tuple #[.string ByteArray.empty, .bool false]) w := by kernel_rfl
theorem Try.no_flag_list (x : Value) (w : World) : (Instr.typeAssert (.iface 107 x) 77 105 true).run Try.prog w = .ok (.tuple #[.bool false, .bool false]) w := by kernel_rfl
theorem Try.yes_list (x : Value) (w : World) : (Instr.typeAssert (.iface 107 x) 77 107 true).run Try.prog w = .ok (.tuple #[x, .bool true]) w := by kernel_rfl
theorem Try.no_num_form (x : Value) (w : World) : (Instr.typeAssert (.iface 110 x) 77 103 true).run Try.prog w = .ok (.tuple #[.int .i64 0, .bool false]) w := by kernel_rfl
theorem Try.no_text_form (x : Value) (w : World) : (Instr.typeAssert (.iface 110 x) 77 104 true).run Try.prog w = .ok (.tuple #[.string ByteArray.empty, .bool false]) w := by kernel_rfl
theorem Try.no_flag_form (x : Value) (w : World) : (Instr.typeAssert (.iface 110 x) 77 105 true).run Try.prog w = .ok (.tuple #[.bool false, .bool false]) w := by kernel_rfl
theorem Try.no_list_form (x : Value) (w : World) : (Instr.typeAssert (.iface 110 x) 77 107 true).run Try.prog w = .ok (.tuple #[.slice none 0 0, .bool false]) w := by kernel_rfl
theorem Try.yes_form (x : Value) (w : World) : (Instr.typeAssert (.iface 110 x) 77 110 true).run Try.prog w = .ok (.tuple #[x, .bool true]) w := by kernel_rfl
theorem Try.no_num_maybe (x : Value) (w : World) : (Instr.typeAssert (.iface 112 x) 77 103 true).run Try.prog w = .ok (.tuple #[.int .i64 0, .bool false]) w := by kernel_rfl
theorem Try.no_text_maybe (x : Value) (w : World) : (Instr.typeAssert (.iface 112 x) 77 104 true).run Try.prog w = .ok (.tuple #[.string ByteArray.empty, .bool false]) w := by kernel_rfl
theorem Try.no_flag_maybe (x : Value) (w : World) : (Instr.typeAssert (.iface 112 x) 77 105 true).run Try.prog w = .ok (.tuple #[.bool false, .bool false]) w := by kernel_rfl
theorem Try.no_list_maybe (x : Value) (w : World) : (Instr.typeAssert (.iface 112 x) 77 107 true).run Try.prog w = .ok (.tuple #[.slice none 0 0, .bool false]) w := by kernel_rfl
theorem Try.no_form_maybe (x : Value) (w : World) : (Instr.typeAssert (.iface 112 x) 77 110 true).run Try.prog w = .ok (.tuple #[.agg #[.slice none 0 0, .slice none 0 0], .bool false]) w := by kernel_rfl
theorem Try.yes_maybe (x : Value) (w : World) : (Instr.typeAssert (.iface 112 x) 77 112 true).run Try.prog w = .ok (.tuple #[x, .bool true]) w := by kernel_rfl

end Go.Proofs.Ytkaannpoldenkag
