import Derived.Test.YtelogmjfekhmpaaGreatDoorSL1
import Derived.Test.YtelogmjfekhmpaaGreatDoorSL2
import Derived.Test.YtelogmjfekhmpaaGreatDoorSL3
import Derived.Test.YtelogmjfekhmpaaGreatDoorSpec2
import Derived.Test.YtelogmjfekhmpaaGreatDoorKRd4
import Derived.Test.YtelogmjfekhmpaaGreatDoorNB8
import Derived.BigQuiet
import Derived.Deep.RegionHeld
namespace Go.Proofs.YtelogmjfekhmpaaGreatDoor
set_option maxRecDepth 100000
set_option maxHeartbeats 16000000
open Go.RowKit
theorem xhB {α:Type} (n:Nd α) (act:Bool) (h:¬ ((1<=n.sort/\n.sort<=43)/\act=decide (36<=n.sort))):qdB n act=false:=by
 unfold qdB
 by_cases h1:1<=n.sort/\n.sort<=43
 ·have h2:(act==decide (36<=n.sort))=false:=by
   rw[Bool.eq_false_iff];intro e;exact h ⟨h1,by simpa using e⟩
  rw[h2];simp
 ·rw[decide_eq_false h1];rfl
theorem qvC (m:Nat) (n:Nd (T m)) (na ka:Option Addr) (nc kc:Nat) (act:Bool) (w:World) (h:¬ ((1<=n.sort/\n.sort<=43)/\act=decide (36<=n.sort))) :
  Calls Tryz.prog 76 #[.agg #[.int .i64 n.sort,.int .i64 n.num,.string n.text,.slice na n.names.length nc,.slice ka n.kids.length kc],.bool act] w fun e w'=>e=.returned (.bool (qdB n act))/\Below w.heap.size w w':=by
 have aB:=(Below.refl w.heap.size w).alloc (Nat.le_refl _) (.cells #[.int .i64 n.sort,.int .i64 n.num,.string n.text,.slice na n.names.length nc,.slice ka n.kids.length kc] 25)
 have HA:=hidF (xhB n act h)
 have aA:Hid (∀ w,Calls Tryz.prog 45 #[.int .i64 n.sort,.int .i64 1,.int .i64 43] w _):=fun w=>qcL n.sort 1 43 w
 by_cases h1:1<=n.sort/\n.sort<=43
 ·have h2:¬ act=decide (36<=n.sort):=fun e=>h ⟨h1,e⟩
  rw[decide_eq_true h1]at aA
  clear h h1
  generalize n.sort=s at *
  by_cases h36:36<=s
  ·rw[decide_eq_true h36]at h2
   have hd:decide (36<=s)=true:=decide_eq_true h36
   obtain rfl:act=false:=by cases act <;> simp_all
   go_enter Tryz.func76,Tryz.ntmps76
   go_wp2_with fail
   refine (aA.out _).mono ?_
   rintro e w1 ⟨rfl,rfl⟩
   go_wp2_with fail
   go_ret
   exact⟨qaD HA.out.symm,aB⟩
  ·rw[decide_eq_false h36]at h2
   have hd:decide (36<=s)=false:=decide_eq_false h36
   obtain rfl:act=true:=by cases act <;> simp_all
   go_enter Tryz.func76,Tryz.ntmps76
   go_wp2_with fail
   refine (aA.out _).mono ?_
   rintro e w1 ⟨rfl,rfl⟩
   go_wp2_with fail
   go_ret
   exact⟨qaD HA.out.symm,aB⟩
 ·rw[decide_eq_false h1]at aA
  clear h h1
  go_enter Tryz.func76,Tryz.ntmps76
  go_wp2_with fail
  refine (aA.out _).mono ?_
  rintro e w1 ⟨rfl,rfl⟩
  go_wp2_with fail
  go_ret
  exact⟨qaD HA.out.symm,aB⟩
theorem qqM (S:Nat->Prop) (m:Nat) (num:Int) (text:ByteArray) (names:List ByteArray) (kids:List (T m)) (na ka:Option Addr) (nc kc:Nat) (w:World) (h3:StrsIn S w names (.slice na names.length nc)) (hB:∀ b,S b->b<w.heap.size) :
  Calls Tryz.prog 76 #[.agg #[.int .i64 24,.int .i64 num,.string text,.slice na names.length nc,.slice ka kids.length kc],.bool false] w fun e w'=>e=.returned (.bool ((num==0) && text.toList.isEmpty && riseB names && (names.length==kids.length) && !(names.any (fun y=>y==bs [101,110,100]))))/\Below w.heap.size w w':=by
 have aC:=(Below.refl w.heap.size w).alloc (Nat.le_refl _) (.cells #[.int .i64 24,.int .i64 num,.string text,.slice na names.length nc,.slice ka kids.length kc] 25)
 have aE:=h3.keep (qaB aC hB) (fun _ h=>h)
 have aD:Hid (∀ w,Calls Tryz.prog 45 #[.int .i64 24,.int .i64 1,.int .i64 43] w _):=fun w=>qcL 24 1 43 w
 have HR:Hid (Calls Tryz.prog 75 _ _ _):=qkB S names _ _ aE (fun b hb=>Nat.lt_of_lt_of_le (hB b hb) aC.size)
 have HH:Hid (∀ w1,Below w.heap.size w w1->Calls Tryz.prog 97 #[.slice na names.length nc,.string (bs [101,110,100])] w1 _):=fun w1 aA=>xcD S names _ (bs [101,110,100]) w1 (h3.keep (qaB aA hB) (fun _ h=>h))
 have HX:Hid (∀ w1,Below (w.alloc (.cells #[.int .i64 24,.int .i64 num,.string text,.slice na names.length nc,.slice ka kids.length kc] 25)).heap.size (w.alloc (.cells #[.int .i64 24,.int .i64 num,.string text,.slice na names.length nc,.slice ka kids.length kc] 25)) w1->Below w.heap.size w w1/\w1.cell? ⟨w.heap.size,3,none⟩=some (.slice na names.length nc)/\w1.cell? ⟨w.heap.size,4,none⟩=some (.slice ka kids.length kc)):=by
  intro w1 aA
  have h5:=qcF ((aA.block w.heap.size (by simp)).trans (heap_alloc_last w _))
  exact⟨qaA aC (by simp) aA,h5.2.2.2.1,h5.2.2.2.2⟩
 have aF:((names.length:Int)==(kids.length:Int))=(names.length==kids.length):=by
  by_cases h:names.length=kids.length
  ·rw[h];simp
  ·have h2:¬ (names.length:Int)=(kids.length:Int):=by omega
   rw[beq_eq_false_iff_ne.2 h,beq_eq_false_iff_ne.2 h2]
 have aG:(text.toList==[])=text.toList.isEmpty:=by cases text.toList <;> rfl
 clear h3 aE
 generalize riseB names=ri at *
 generalize (names.any (fun y=>y==bs [101,110,100]))=ha at *
 generalize (names.length==kids.length)=le at *
 generalize text.toList.isEmpty=em at *
 generalize hnz:(num==0)=nz at *
 by_cases h0:nz=true
 ·subst h0
  cases em with
  | false=>
   go_enter Tryz.func76,Tryz.ntmps76
   go_wp2_with fail
   refine (aD.out _).mono ?_
   rintro e w1 ⟨rfl,rfl⟩
   go_wp2_with fail
   go_ret
   exact⟨qaD (by simp),aC⟩
  | true=>
   cases ri with
   | false=>
    go_enter Tryz.func76,Tryz.ntmps76
    go_wp2_with fail
    refine (aD.out _).mono ?_
    rintro e w1 ⟨rfl,rfl⟩
    go_wp2_with fail
    refine HR.out.mono ?_
    rintro e w1 ⟨rfl,aA⟩
    obtain⟨aB,z3,z4⟩:=HX.out w1 aA
    clear aA
    go_wp2_with fail
    go_ret
    exact⟨qaD (by simp),aB⟩
   | true=>
    cases le with
    | false=>
     go_enter Tryz.func76,Tryz.ntmps76
     go_wp2_with fail
     refine (aD.out _).mono ?_
     rintro e w1 ⟨rfl,rfl⟩
     go_wp2_with fail
     refine HR.out.mono ?_
     rintro e w1 ⟨rfl,aA⟩
     obtain⟨aB,z3,z4⟩:=HX.out w1 aA
     clear aA
     go_wp2_with fail
     go_ret
     exact⟨qaD (by simp),aB⟩
    | true=>
     go_enter Tryz.func76,Tryz.ntmps76
     go_wp2_with fail
     refine (aD.out _).mono ?_
     rintro e w1 ⟨rfl,rfl⟩
     go_wp2_with fail
     refine HR.out.mono ?_
     rintro e w1 ⟨rfl,aA⟩
     obtain⟨aB,z3,z4⟩:=HX.out w1 aA
     clear aA
     go_wp2_with fail
     refine (HH.out _ aB).mono ?_
     rintro e w2 ⟨rfl,rfl⟩
     go_wp2_with fail
     go_ret
     exact⟨qaD (by simp),aB⟩
 ·obtain rfl:nz=false:=by simpa using h0
  go_enter Tryz.func76,Tryz.ntmps76
  go_wp2_with fail
  refine (aD.out _).mono ?_
  rintro e w1 ⟨rfl,rfl⟩
  go_wp2_with fail
  go_ret
  exact⟨qaD (by simp),aC⟩
end Go.Proofs.YtelogmjfekhmpaaGreatDoor
