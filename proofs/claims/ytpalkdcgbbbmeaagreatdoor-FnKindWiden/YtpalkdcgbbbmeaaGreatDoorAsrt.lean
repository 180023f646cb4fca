/-
  What the program's type switches over its inner trees answer.
-/
import Derived.Test.YtpalkdcgbbbmeaaGreatDoorRep
namespace Go.Proofs.YtpalkdcgbbbmeaaGreatDoor
open Go.RowKit

theorem Tryz.yes_num (x : Value) (w : World) : (Instr.typeAssert (.iface 114 x) 71 114 true).run Tryz.prog w = .ok (.tuple #[x, .bool true]) w := by kernel_rfl
theorem Tryz.no_num_text (x : Value) (w : World) : (Instr.typeAssert (.iface 119 x) 71 114 true).run Tryz.prog w = .ok (.tuple #[.int .i64 0, .bool false]) w := by kernel_rfl
theorem Tryz.yes_text (x : Value) (w : World) : (Instr.typeAssert (.iface 119 x) 71 119 true).run Tryz.prog w = .ok (.tuple #[x, .bool true]) w := by kernel_rfl
theorem Tryz.no_num_flag (x : Value) (w : World) : (Instr.typeAssert (.iface 120 x) 71 114 true).run Tryz.prog w = .ok (.tuple #[.int .i64 0, .bool false]) w := by kernel_rfl
theorem Tryz.no_text_flag (x : Value) (w : World) : (Instr.typeAssert (.iface 120 x) 71 119 true).run Tryz.prog w = .ok (.tuple #[.string ByteArray.empty, .bool false]) w := by kernel_rfl
theorem Tryz.yes_flag (x : Value) (w : World) : (Instr.typeAssert (.iface 120 x) 71 120 true).run Tryz.prog w = .ok (.tuple #[x, .bool true]) w := by kernel_rfl
theorem Tryz.no_num_list (x : Value) (w : World) : (Instr.typeAssert (.iface 122 x) 71 114 true).run Tryz.prog w = .ok (.tuple #[.int .i64 0, .bool false]) w := by kernel_rfl
theorem Tryz.no_text_list (x : Value) (w : World) : (Instr.typeAssert (.iface 122 x) 71 119 true).run Tryz.prog w = .ok (.tuple #[.string ByteArray.empty, .bool false]) w := by kernel_rfl
theorem Tryz.no_flag_list (x : Value) (w : World) : (Instr.typeAssert (.iface 122 x) 71 120 true).run Tryz.prog w = .ok (.tuple #[.bool false, .bool false]) w := by kernel_rfl
theorem Tryz.yes_list (x : Value) (w : World) : (Instr.typeAssert (.iface 122 x) 71 122 true).run Tryz.prog w = .ok (.tuple #[x, .bool true]) w := by kernel_rfl
theorem Tryz.no_num_form (x : Value) (w : World) : (Instr.typeAssert (.iface 126 x) 71 114 true).run Tryz.prog w = .ok (.tuple #[.int .i64 0, .bool false]) w := by kernel_rfl
theorem Tryz.no_text_form (x : Value) (w : World) : (Instr.typeAssert (.iface 126 x) 71 119 true).run Tryz.prog w = .ok (.tuple #[.string ByteArray.empty, .bool false]) w := by kernel_rfl
theorem Tryz.no_flag_form (x : Value) (w : World) : (Instr.typeAssert (.iface 126 x) 71 120 true).run Tryz.prog w = .ok (.tuple #[.bool false, .bool false]) w := by kernel_rfl
theorem Tryz.no_list_form (x : Value) (w : World) : (Instr.typeAssert (.iface 126 x) 71 122 true).run Tryz.prog w = .ok (.tuple #[.slice none 0 0, .bool false]) w := by kernel_rfl
theorem Tryz.yes_form (x : Value) (w : World) : (Instr.typeAssert (.iface 126 x) 71 126 true).run Tryz.prog w = .ok (.tuple #[x, .bool true]) w := by kernel_rfl
theorem Tryz.no_num_maybe (x : Value) (w : World) : (Instr.typeAssert (.iface 128 x) 71 114 true).run Tryz.prog w = .ok (.tuple #[.int .i64 0, .bool false]) w := by kernel_rfl
theorem Tryz.no_text_maybe (x : Value) (w : World) : (Instr.typeAssert (.iface 128 x) 71 119 true).run Tryz.prog w = .ok (.tuple #[.string ByteArray.empty, .bool false]) w := by kernel_rfl
theorem Tryz.no_flag_maybe (x : Value) (w : World) : (Instr.typeAssert (.iface 128 x) 71 120 true).run Tryz.prog w = .ok (.tuple #[.bool false, .bool false]) w := by kernel_rfl
theorem Tryz.no_list_maybe (x : Value) (w : World) : (Instr.typeAssert (.iface 128 x) 71 122 true).run Tryz.prog w = .ok (.tuple #[.slice none 0 0, .bool false]) w := by kernel_rfl
theorem Tryz.no_form_maybe (x : Value) (w : World) : (Instr.typeAssert (.iface 128 x) 71 126 true).run Tryz.prog w = .ok (.tuple #[.agg #[.slice none 0 0, .slice none 0 0], .bool false]) w := by kernel_rfl
theorem Tryz.yes_maybe (x : Value) (w : World) : (Instr.typeAssert (.iface 128 x) 71 128 true).run Tryz.prog w = .ok (.tuple #[x, .bool true]) w := by kernel_rfl

end Go.Proofs.YtpalkdcgbbbmeaaGreatDoor
