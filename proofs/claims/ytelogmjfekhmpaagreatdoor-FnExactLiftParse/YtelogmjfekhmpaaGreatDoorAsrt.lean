import Derived.Test.YtelogmjfekhmpaaGreatDoorRep
namespace Go.Proofs.YtelogmjfekhmpaaGreatDoor
open Go.RowKit
theorem Tryz.yes_num (x:Value) (w:World):(Instr.typeAssert (.iface 166 x) 133 166 true).run Tryz.prog w=.ok (.tuple #[x,.bool true]) w:=by kernel_rfl
theorem Tryz.no_num_text (x:Value) (w:World):(Instr.typeAssert (.iface 167 x) 133 166 true).run Tryz.prog w=.ok (.tuple #[.int .i64 0,.bool false]) w:=by kernel_rfl
theorem Tryz.yes_text (x:Value) (w:World):(Instr.typeAssert (.iface 167 x) 133 167 true).run Tryz.prog w=.ok (.tuple #[x,.bool true]) w:=by kernel_rfl
theorem Tryz.no_num_flag (x:Value) (w:World):(Instr.typeAssert (.iface 168 x) 133 166 true).run Tryz.prog w=.ok (.tuple #[.int .i64 0,.bool false]) w:=by kernel_rfl
theorem Tryz.no_text_flag (x:Value) (w:World):(Instr.typeAssert (.iface 168 x) 133 167 true).run Tryz.prog w=.ok (.tuple #[.string ByteArray.empty,.bool false]) w:=by kernel_rfl
theorem Tryz.yes_flag (x:Value) (w:World):(Instr.typeAssert (.iface 168 x) 133 168 true).run Tryz.prog w=.ok (.tuple #[x,.bool true]) w:=by kernel_rfl
theorem Tryz.no_num_list (x:Value) (w:World):(Instr.typeAssert (.iface 170 x) 133 166 true).run Tryz.prog w=.ok (.tuple #[.int .i64 0,.bool false]) w:=by kernel_rfl
theorem Tryz.no_text_list (x:Value) (w:World):(Instr.typeAssert (.iface 170 x) 133 167 true).run Tryz.prog w=.ok (.tuple #[.string ByteArray.empty,.bool false]) w:=by kernel_rfl
theorem Tryz.no_flag_list (x:Value) (w:World):(Instr.typeAssert (.iface 170 x) 133 168 true).run Tryz.prog w=.ok (.tuple #[.bool false,.bool false]) w:=by kernel_rfl
theorem Tryz.yes_list (x:Value) (w:World):(Instr.typeAssert (.iface 170 x) 133 170 true).run Tryz.prog w=.ok (.tuple #[x,.bool true]) w:=by kernel_rfl
theorem Tryz.no_num_form (x:Value) (w:World):(Instr.typeAssert (.iface 173 x) 133 166 true).run Tryz.prog w=.ok (.tuple #[.int .i64 0,.bool false]) w:=by kernel_rfl
theorem Tryz.no_text_form (x:Value) (w:World):(Instr.typeAssert (.iface 173 x) 133 167 true).run Tryz.prog w=.ok (.tuple #[.string ByteArray.empty,.bool false]) w:=by kernel_rfl
theorem Tryz.no_flag_form (x:Value) (w:World):(Instr.typeAssert (.iface 173 x) 133 168 true).run Tryz.prog w=.ok (.tuple #[.bool false,.bool false]) w:=by kernel_rfl
theorem Tryz.no_list_form (x:Value) (w:World):(Instr.typeAssert (.iface 173 x) 133 170 true).run Tryz.prog w=.ok (.tuple #[.slice none 0 0,.bool false]) w:=by kernel_rfl
theorem Tryz.yes_form (x:Value) (w:World):(Instr.typeAssert (.iface 173 x) 133 173 true).run Tryz.prog w=.ok (.tuple #[x,.bool true]) w:=by kernel_rfl
theorem Tryz.no_num_maybe (x:Value) (w:World):(Instr.typeAssert (.iface 175 x) 133 166 true).run Tryz.prog w=.ok (.tuple #[.int .i64 0,.bool false]) w:=by kernel_rfl
theorem Tryz.no_text_maybe (x:Value) (w:World):(Instr.typeAssert (.iface 175 x) 133 167 true).run Tryz.prog w=.ok (.tuple #[.string ByteArray.empty,.bool false]) w:=by kernel_rfl
theorem Tryz.no_flag_maybe (x:Value) (w:World):(Instr.typeAssert (.iface 175 x) 133 168 true).run Tryz.prog w=.ok (.tuple #[.bool false,.bool false]) w:=by kernel_rfl
theorem Tryz.no_list_maybe (x:Value) (w:World):(Instr.typeAssert (.iface 175 x) 133 170 true).run Tryz.prog w=.ok (.tuple #[.slice none 0 0,.bool false]) w:=by kernel_rfl
theorem Tryz.no_form_maybe (x:Value) (w:World):(Instr.typeAssert (.iface 175 x) 133 173 true).run Tryz.prog w=.ok (.tuple #[.agg #[.slice none 0 0,.slice none 0 0],.bool false]) w:=by kernel_rfl
theorem Tryz.yes_maybe (x:Value) (w:World):(Instr.typeAssert (.iface 175 x) 133 175 true).run Tryz.prog w=.ok (.tuple #[x,.bool true]) w:=by kernel_rfl
end Go.Proofs.YtelogmjfekhmpaaGreatDoor
