import Derived.Test.YtelogmjfekhmpaaGreatDoorNL2
import Derived.Test.YtelogmjfekhmpaaGreatDoorNB2
import Derived.Test.YtelogmjfekhmpaaGreatDoorSpecN
namespace Go.Proofs.YtelogmjfekhmpaaGreatDoor
set_option maxRecDepth 100000
set_option maxHeartbeats 16000000
open Go.RowKit
theorem qlF (k:Nat) (h:k<44):k=0∨k=1∨k=2∨k=3∨k=4∨k=5∨k=6∨k=7∨k=8∨k=9∨k=10∨k=11∨k=12∨k=13∨k=14∨k=15∨k=16∨k=17∨k=18∨k=19∨k=20∨k=21∨k=22∨k=23∨k=24∨k=25∨k=26∨k=27∨k=28∨k=29∨k=30∨k=31∨k=32∨k=33∨k=34∨k=35∨k=36∨k=37∨k=38∨k=39∨k=40∨k=41∨k=42∨k=43:=by omega
def kdS (k:Nat):List UInt8:=(kdV k).map (fun v=>if v=65 then 97 else 118)
def nmS (k:Nat):Nat:=((preL k).filter (fun p=>p==78 || p==88)).length
def bdS (k:Nat):Bool:=(preL k).contains 88
theorem qkR (k:Nat) (hk:k<44) (w:World):Calls Tryz.prog 25 #[.int .i64 (k:Int)] w fun e w'=>e=.returned (.int .i64 (nmS k:Nat))/\w'=w:=by
 rcases qlF k hk with rfl|rfl|rfl|rfl|rfl|rfl|rfl|rfl|rfl|rfl|rfl|rfl|rfl|rfl|rfl|rfl|rfl|rfl|rfl|rfl|rfl|rfl|rfl|rfl|rfl|rfl|rfl|rfl|rfl|rfl|rfl|rfl|rfl|rfl|rfl|rfl|rfl|rfl|rfl|rfl|rfl|rfl|rfl|rfl
 all_goals
  go_enter Tryz.func25,Tryz.ntmps25
  go_wp2
  go_ret
  exact⟨qaN (by decide),rfl⟩
theorem qkS (k:Nat) (hk:k<44) (w:World):Calls Tryz.prog 27 #[.int .i64 (k:Int)] w fun e w'=>e=.returned (.bool (bdS k))/\w'=w:=by
 rcases qlF k hk with rfl|rfl|rfl|rfl|rfl|rfl|rfl|rfl|rfl|rfl|rfl|rfl|rfl|rfl|rfl|rfl|rfl|rfl|rfl|rfl|rfl|rfl|rfl|rfl|rfl|rfl|rfl|rfl|rfl|rfl|rfl|rfl|rfl|rfl|rfl|rfl|rfl|rfl|rfl|rfl|rfl|rfl|rfl|rfl
 all_goals
  go_enter Tryz.func27,Tryz.ntmps27
  go_wp2
  go_ret
  exact⟨qbN (by decide),rfl⟩
end Go.Proofs.YtelogmjfekhmpaaGreatDoor
