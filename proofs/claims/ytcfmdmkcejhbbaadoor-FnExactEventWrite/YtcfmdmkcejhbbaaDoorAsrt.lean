/-
  What the program's type switches over its inner trees answer.
-/
import Derived.Test.YtcfmdmkcejhbbaaDoorRep
namespace Go.Proofs.YtcfmdmkcejhbbaaDoor
open Go.RowKit

theorem Tryd.yes_num (x : Value) (w : World) : (Instr.typeAssert (.iface 64 x) 53 64 true).run Tryd.prog w = .ok (.tuple #[x, .bool true]) w := by kernel_rfl
theorem Tryd.no_num_text (x : Value) (w : World) : (Instr.typeAssert (.iface 66 x) 53 64 true).run Tryd.prog w = .ok (.tuple #[.int .i64 0, .bool false]) w := by kernel_rfl
theorem Tryd.yes_text (x : Value) (w : World) : (Instr.typeAssert (.iface 66 x) 53 66 true).run Tryd.prog w = .ok (.tuple #[x, .bool true]) w := by kernel_rfl
theorem Tryd.no_num_flag (x : Value) (w : World) : (Instr.typeAssert (.iface 67 x) 53 64 true).run Tryd.prog w = .ok (.tuple #[.int .i64 0, .bool false]) w := by kernel_rfl
theorem Tryd.no_text_flag (x : Value) (w : World) : (Instr.typeAssert (.iface 67 x) 53 66 true).run Tryd.prog w = .ok (.tuple #[.string ByteArray.empty, .bool false]) w := by kernel_rfl
theorem Tryd.yes_flag (x : Value) (w : World) : (Instr.typeAssert (.iface 67 x) 53 67 true).run Tryd.prog w = .ok (.tuple #[x, .bool true]) w := by kernel_rfl
theorem Tryd.no_num_list (x : Value) (w : World) : (Instr.typeAssert (.iface 70 x) 53 64 true).run Tryd.prog w = .ok (.tuple #[.int .i64 0, .bool false]) w := by kernel_rfl
theorem Tryd.no_text_list (x : Value) (w : World) : (Instr.typeAssert (.iface 70 x) 53 66 true).run Tryd.prog w = .ok (.tuple #[.string ByteArray.empty, .bool false]) w := by kernel_rfl
theorem Tryd.no_flag_list (x : Value) (w : World) : (Instr.typeAssert (.iface 70 x) 53 67 true).run Tryd.prog w = .ok (.tuple #[.bool false, .bool false]) w := by kernel_rfl
theorem Tryd.yes_list (x : Value) (w : World) : (Instr.typeAssert (.iface 70 x) 53 70 true).run Tryd.prog w = .ok (.tuple #[x, .bool true]) w := by kernel_rfl
theorem Tryd.no_num_form (x : Value) (w : World) : (Instr.typeAssert (.iface 73 x) 53 64 true).run Tryd.prog w = .ok (.tuple #[.int .i64 0, .bool false]) w := by kernel_rfl
theorem Tryd.no_text_form (x : Value) (w : World) : (Instr.typeAssert (.iface 73 x) 53 66 true).run Tryd.prog w = .ok (.tuple #[.string ByteArray.empty, .bool false]) w := by kernel_rfl
theorem Tryd.no_flag_form (x : Value) (w : World) : (Instr.typeAssert (.iface 73 x) 53 67 true).run Tryd.prog w = .ok (.tuple #[.bool false, .bool false]) w := by kernel_rfl
theorem Tryd.no_list_form (x : Value) (w : World) : (Instr.typeAssert (.iface 73 x) 53 70 true).run Tryd.prog w = .ok (.tuple #[.slice none 0 0, .bool false]) w := by kernel_rfl
theorem Tryd.yes_form (x : Value) (w : World) : (Instr.typeAssert (.iface 73 x) 53 73 true).run Tryd.prog w = .ok (.tuple #[x, .bool true]) w := by kernel_rfl
theorem Tryd.no_num_maybe (x : Value) (w : World) : (Instr.typeAssert (.iface 75 x) 53 64 true).run Tryd.prog w = .ok (.tuple #[.int .i64 0, .bool false]) w := by kernel_rfl
theorem Tryd.no_text_maybe (x : Value) (w : World) : (Instr.typeAssert (.iface 75 x) 53 66 true).run Tryd.prog w = .ok (.tuple #[.string ByteArray.empty, .bool false]) w := by kernel_rfl
theorem Tryd.no_flag_maybe (x : Value) (w : World) : (Instr.typeAssert (.iface 75 x) 53 67 true).run Tryd.prog w = .ok (.tuple #[.bool false, .bool false]) w := by kernel_rfl
theorem Tryd.no_list_maybe (x : Value) (w : World) : (Instr.typeAssert (.iface 75 x) 53 70 true).run Tryd.prog w = .ok (.tuple #[.slice none 0 0, .bool false]) w := by kernel_rfl
theorem Tryd.no_form_maybe (x : Value) (w : World) : (Instr.typeAssert (.iface 75 x) 53 73 true).run Tryd.prog w = .ok (.tuple #[.agg #[.slice none 0 0, .slice none 0 0], .bool false]) w := by kernel_rfl
theorem Tryd.yes_maybe (x : Value) (w : World) : (Instr.typeAssert (.iface 75 x) 53 75 true).run Tryd.prog w = .ok (.tuple #[x, .bool true]) w := by kernel_rfl

end Go.Proofs.YtcfmdmkcejhbbaaDoor
