import Derived.Test.YtelogmjfekhmpaaGreatDoorImpl2N
import Derived.Test.YtelogmjfekhmpaaGreatDoorImpl
namespace Go.Proofs.YtelogmjfekhmpaaGreatDoor
set_option maxRecDepth 100000
set_option maxHeartbeats 16000000
open Go.RowKit
theorem just_1 (m:Int) (x:ByteArray) (l:List ByteArray) (ka:Option Addr) (kl kc:Nat) (w:World) (na:Option Addr) (nc:Nat) :
  Calls Tryz.prog 138 #[.agg #[.int .i64 1,.int .i64 m,.string x,.slice na l.length nc,.slice ka kl kc]] w fun e w'=>e=.returned (.bool (decide (-999999999<=m/\m<=999999999) && x.toList.isEmpty && ((l.length:Int)==0) && ((kl:Int)==0)))/\Below w.heap.size w w':=by
 go_enter Tryz.func138,Tryz.ntmps138
 go_wp2_with (go_at_call 109;refine (qgI _ _).mono ?_;rintro e w' ⟨rfl,rfl⟩)
 all_goals
  go_ret
  exact⟨qaD (by simp_all),(Below.refl _ _).alloc (Nat.le_refl _) _⟩
theorem just_2 (m:Int) (x:ByteArray) (l:List ByteArray) (ka:Option Addr) (kl kc:Nat) (w:World) (na:Option Addr) (nc:Nat) (hx:x.size<=maxLen) :
  Calls Tryz.prog 138 #[.agg #[.int .i64 2,.int .i64 m,.string x,.slice na l.length nc,.slice ka kl kc]] w fun e w'=>e=.returned (.bool ((m==0) && textB x && ((l.length:Int)==0) && ((kl:Int)==0)))/\Below w.heap.size w w':=by
 go_enter Tryz.func138,Tryz.ntmps138
 go_wp2_with (go_at_call 162;refine (qnL _ _ hx).mono ?_;rintro e w' ⟨rfl,rfl⟩)
 all_goals
  go_ret
  exact⟨qaD (by simp_all),(Below.refl _ _).alloc (Nat.le_refl _) _⟩
theorem just_3 (m:Int) (x:ByteArray) (l:List ByteArray) (ka:Option Addr) (kl kc:Nat) (w:World) (na:Option Addr) (nc:Nat) :
  Calls Tryz.prog 138 #[.agg #[.int .i64 3,.int .i64 m,.string x,.slice na l.length nc,.slice ka kl kc]] w fun e w'=>e=.returned (.bool (decide (0<=m/\m<=1) && x.toList.isEmpty && ((l.length:Int)==0) && ((kl:Int)==0)))/\Below w.heap.size w w':=by
 by_cases h0:m=0
 ·subst h0
  go_enter Tryz.func138,Tryz.ntmps138
  go_wp2_with fail
  all_goals
   go_ret
   exact⟨qaD (by simp_all),(Below.refl _ _).alloc (Nat.le_refl _) _⟩
 by_cases h1:m=1
 ·subst h1
  go_enter Tryz.func138,Tryz.ntmps138
  go_wp2_with fail
  all_goals
   go_ret
   exact⟨qaD (by simp_all),(Below.refl _ _).alloc (Nat.le_refl _) _⟩
 have hd:decide (0<=m/\m<=1)=false:=decide_eq_false (by omega)
 have aA:(m==0)=false:=by simpa using h0
 have aB:(m==1)=false:=by simpa using h1
 rw[hd]
 clear hd h0 h1
 go_enter Tryz.func138,Tryz.ntmps138
 go_wp2_with fail
 all_goals
  go_ret
  exact⟨qaD (by simp_all),(Below.refl _ _).alloc (Nat.le_refl _) _⟩
theorem just_4 (m:Int) (x:ByteArray) (l:List ByteArray) (ka:Option Addr) (kl kc:Nat) (w:World) (na:Option Addr) (nc:Nat) :
  Calls Tryz.prog 138 #[.agg #[.int .i64 4,.int .i64 m,.string x,.slice na l.length nc,.slice ka kl kc]] w fun e w'=>e=.returned (.bool ((m==0) && x.toList.isEmpty && ((l.length:Int)==0) && decide ((kl:Int)<=20)))/\Below w.heap.size w w':=by
 go_enter Tryz.func138,Tryz.ntmps138
 go_wp2_with fail
 all_goals
  go_ret
  exact⟨qaD (by simp_all),(Below.refl _ _).alloc (Nat.le_refl _) _⟩
theorem just_6 (m:Int) (x:ByteArray) (l:List ByteArray) (ka:Option Addr) (kl kc:Nat) (w:World) (na:Option Addr) (nc:Nat) :
  Calls Tryz.prog 138 #[.agg #[.int .i64 6,.int .i64 m,.string x,.slice na l.length nc,.slice ka kl kc]] w fun e w'=>e=.returned (.bool ((m==0) && x.toList.isEmpty && ((l.length:Int)==0) && decide ((kl:Int)<=1)))/\Below w.heap.size w w':=by
 go_enter Tryz.func138,Tryz.ntmps138
 go_wp2_with fail
 all_goals
  go_ret
  exact⟨qaD (by simp_all),(Below.refl _ _).alloc (Nat.le_refl _) _⟩
end Go.Proofs.YtelogmjfekhmpaaGreatDoor
