import Derived.Test.YtelogmjfekhmpaaGreatDoorSL0
namespace Go.Proofs.YtelogmjfekhmpaaGreatDoor
set_option maxRecDepth 100000
set_option maxHeartbeats 16000000
open Go.RowKit
def kdT (k:Nat):List UInt8:=if k=24 then [118,118] else kdS k
theorem qiF (k:Nat) (hk:k<44) (w:World):Calls Tryz.prog 30 #[.int .i64 (k:Int)] w fun e w'=>e=.returned (.string (bs (kdT k)))/\w'=w:=by
 have aA:Hid (∀ x a b w,Calls Tryz.prog 45 #[.int .i64 x,.int .i64 a,.int .i64 b] w _):=fun x a b w=>qcL x a b w
 rcases qlF k hk with rfl|rfl|rfl|rfl|rfl|rfl|rfl|rfl|rfl|rfl|rfl|rfl|rfl|rfl|rfl|rfl|rfl|rfl|rfl|rfl|rfl|rfl|rfl|rfl|rfl|rfl|rfl|rfl|rfl|rfl|rfl|rfl|rfl|rfl|rfl|rfl|rfl|rfl|rfl|rfl|rfl|rfl|rfl|rfl
 all_goals
  go_enter Tryz.func30,Tryz.ntmps30
  go_wp2_with fail
  first
   | (go_ret;exact⟨qdX rfl,rfl⟩)
   | (refine (aA.out _ _ _ _).mono ?_
      rintro e w1 ⟨rfl,rfl⟩
      go_wp2_with fail
      go_ret
      exact⟨qdX rfl,rfl⟩)
end Go.Proofs.YtelogmjfekhmpaaGreatDoor
