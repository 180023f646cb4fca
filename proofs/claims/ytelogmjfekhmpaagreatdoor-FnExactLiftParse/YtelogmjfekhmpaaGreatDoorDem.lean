import Derived.Test.YtelogmjfekhmpaaGreatDoorNear
import Derived.Laws.IdiomStrings
import Derived.Deep.QuietTactic
import Derived.BigQuiet
namespace Go.Proofs.YtelogmjfekhmpaaGreatDoor
set_option maxRecDepth 100000
set_option maxHeartbeats 16000000
open Go.RowKit
def refusal:List PanicEntry:=[{ v:=.iface 160 (.agg #[]),recovered:=false }]
theorem qbC (w:World):Calls Tryz.prog 156 #[.bool true] w fun e w'=>e=.returned (.tuple #[])/\w'=w:=by
 go_enter Tryz.func156,Tryz.ntmps156
 go_wp2
 go_end0
 exact⟨rfl,rfl⟩
theorem qfJ (w:World):Calls Tryz.prog 156 #[.bool false] w fun e w'=>e=.panicked refusal/\w'=w:=by
 go_enter Tryz.func156,Tryz.ntmps156
 go_wp2
 exact⟨rfl,rfl,rfl⟩
end Go.Proofs.YtelogmjfekhmpaaGreatDoor
