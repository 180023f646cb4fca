import Derived.Test.YtelogmjfekhmpaaGreatDoorImpl2S
namespace Go.Proofs.YtelogmjfekhmpaaGreatDoor
set_option maxRecDepth 100000
set_option maxHeartbeats 16000000
open Go.RowKit
theorem just_5 (m:Int) (x:ByteArray) (l:List ByteArray) (ka:Option Addr) (kl kc:Nat) (w:World) (na:Option Addr) (nc:Nat) (S:Nat->Prop) (hl:StrsIn S w l (.slice na l.length nc)) (hB:∀ b,S b->b<w.heap.size) :
  Calls Tryz.prog 138 #[.agg #[.int .i64 5,.int .i64 m,.string x,.slice na l.length nc,.slice ka kl kc]] w fun e w'=>e=.returned (.bool ((m==0) && x.toList.isEmpty && ((l.length:Int)==(kl:Int)) && riseB l))/\Below w.heap.size w w':=by
 by_cases hm:m=0
 ·subst hm
  cases hx:x.toList.isEmpty with
  | false=>
   go_enter Tryz.func138,Tryz.ntmps138
   go_wp2_with fail
   all_goals
    go_ret
    exact⟨qaD (by simp_all),(Below.refl _ _).alloc (Nat.le_refl _) _⟩
  | true=>
   by_cases hk:l.length=kl
   ·subst hk
    have aA:=(Below.refl w.heap.size w).alloc (Nat.le_refl _) (.cells #[.int .i64 5,.int .i64 0,.string x,.slice na l.length nc,.slice ka l.length kc] 67)
    have aB:=hl.keep (qaB aA hB) (fun _ h=>h)
    have HC:Hid (Calls Tryz.prog 163 #[.slice na l.length nc] _ _):=qgO S l _ _ aB
    have hk:((l.length:Int)==(l.length:Int))=true:=by simp
    clear hl aB hB
    cases h0:((l.length:Int)==0) with
    | true=>
     go_enter Tryz.func138,Tryz.ntmps138
     go_wp2_with fail
     refine HC.out.mono ?_
     rintro e w' ⟨rfl,rfl⟩
     go_wp2_with fail
     go_ret
     exact⟨by simp,aA⟩
    | false=>
     go_enter Tryz.func138,Tryz.ntmps138
     go_wp2_with fail
     refine HC.out.mono ?_
     rintro e w' ⟨rfl,rfl⟩
     go_wp2_with fail
     go_ret
     exact⟨by simp,aA⟩
   ·have aC:((l.length:Int)==(kl:Int))=false:=by simp;omega
    rw[aC]
    clear hk
    cases h0:((l.length:Int)==0) <;> cases h1:((kl:Int)==0)
    all_goals
     go_enter Tryz.func138,Tryz.ntmps138
     go_wp2_with fail
     go_ret
     exact⟨rfl,(Below.refl _ _).alloc (Nat.le_refl _) _⟩
 ·have aD:(m==0)=false:=by simpa using hm
  rw[aD]
  clear hm
  go_enter Tryz.func138,Tryz.ntmps138
  go_wp2_with fail
  all_goals
   go_ret
   exact⟨qaD (by simp_all),(Below.refl _ _).alloc (Nat.le_refl _) _⟩
theorem qyC (s m:Int) (x:ByteArray) (l:List ByteArray) (ka:Option Addr) (kl kc:Nat) (w:World) (na:Option Addr) (nc:Nat)
  (h1:(s==1)=false) (h2:(s==2)=false) (h3:(s==3)=false) (h4:(s==4)=false) (h5:(s==5)=false) (h6:(s==6)=false) :
  Calls Tryz.prog 138 #[.agg #[.int .i64 s,.int .i64 m,.string x,.slice na l.length nc,.slice ka kl kc]] w fun e w'=>e=.returned (.bool false)/\Below w.heap.size w w':=by
 go_enter Tryz.func138,Tryz.ntmps138
 go_wp2_with fail
 all_goals
  go_ret
  exact⟨rfl,(Below.refl _ _).alloc (Nat.le_refl _) _⟩
theorem xgE (s m:Int) (x:ByteArray) (l:List ByteArray) (ka:Option Addr) (kl kc:Nat) (w:World) (na:Option Addr) (nc:Nat) (hx:x.size<=maxLen)
  (S:Nat->Prop) (hl:StrsIn S w l (.slice na l.length nc)) (hB:∀ b,S b->b<w.heap.size) :
  Calls Tryz.prog 138 #[.agg #[.int .i64 s,.int .i64 m,.string x,.slice na l.length nc,.slice ka kl kc]] w fun e w'=>e=.returned (.bool (qaQ s m x l kl))/\Below w.heap.size w w':=by
 unfold qaQ
 by_cases h1:s=1
 ·subst h1;rw[if_pos rfl];exact just_1 m x l ka kl kc w na nc
 rw[if_neg h1]
 by_cases h2:s=2
 ·subst h2;rw[if_pos rfl];exact just_2 m x l ka kl kc w na nc hx
 rw[if_neg h2]
 by_cases h3:s=3
 ·subst h3;rw[if_pos rfl];exact just_3 m x l ka kl kc w na nc
 rw[if_neg h3]
 by_cases h4:s=4
 ·subst h4;rw[if_pos rfl];exact just_4 m x l ka kl kc w na nc
 rw[if_neg h4]
 by_cases h5:s=5
 ·subst h5;rw[if_pos rfl];exact just_5 m x l ka kl kc w na nc S hl hB
 rw[if_neg h5]
 by_cases h6:s=6
 ·subst h6;rw[if_pos rfl];exact just_6 m x l ka kl kc w na nc
 rw[if_neg h6]
 exact qyC s m x l ka kl kc w na nc (by simp[h1]) (by simp[h2]) (by simp[h3]) (by simp[h4]) (by simp[h5]) (by simp[h6])
end Go.Proofs.YtelogmjfekhmpaaGreatDoor
