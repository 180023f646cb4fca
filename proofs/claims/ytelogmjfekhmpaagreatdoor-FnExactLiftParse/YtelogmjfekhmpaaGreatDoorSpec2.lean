import Derived.Test.YtelogmjfekhmpaaGreatDoorSpec
namespace Go.Proofs.YtelogmjfekhmpaaGreatDoor
set_option maxRecDepth 100000
set_option maxHeartbeats 16000000
open Go.RowKit
theorem xbP (m:Int) (x:ByteArray) (l:List ByteArray) (ka:Option Addr) (kl kc:Nat) (w:World) (na:Option Addr) (nc:Nat) :
  Calls Tryz.prog 96 #[.agg #[.int .i64 1,.int .i64 m,.string x,.slice na l.length nc,.slice ka kl kc]] w fun e w'=>e=.returned (.bool (decide (-999999999<=m/\m<=999999999) && x.toList.isEmpty && ((l.length:Int)==0) && ((kl:Int)==0)))/\Below w.heap.size w w':=by
 generalize hd:decide (-999999999<=m/\m<=999999999)=A
 have HA:=hidF hd
 clear hd
 go_enter Tryz.func96,Tryz.ntmps96
 go_wp2_with (go_at_call 45;refine (qcL _ _ _ _).mono ?_;rintro e w' ⟨rfl,rfl⟩;rw[HA.out])
 all_goals
  go_ret
  exact⟨qbN (by simp_all),(Below.refl _ _).alloc (Nat.le_refl _) _⟩
theorem xbQ (m:Int) (x:ByteArray) (l:List ByteArray) (ka:Option Addr) (kl kc:Nat) (w:World) (na:Option Addr) (nc:Nat) (hx:x.size<=maxLen) :
  Calls Tryz.prog 96 #[.agg #[.int .i64 2,.int .i64 m,.string x,.slice na l.length nc,.slice ka kl kc]] w fun e w'=>e=.returned (.bool ((m==0) && textB x && ((l.length:Int)==0) && ((kl:Int)==0)))/\Below w.heap.size w w':=by
 generalize hd:textB x=A
 have HA:Hid (textB x=A):=hd
 clear hd
 go_enter Tryz.func96,Tryz.ntmps96
 go_wp2_with (go_at_call 120;refine (qrU _ _ hx).mono ?_;rintro e w' ⟨rfl,rfl⟩;rw[HA.out])
 all_goals
  go_ret
  exact⟨qbN (by simp_all),(Below.refl _ _).alloc (Nat.le_refl _) _⟩
theorem xbR (m:Int) (x:ByteArray) (l:List ByteArray) (ka:Option Addr) (kl kc:Nat) (w:World) (na:Option Addr) (nc:Nat) :
  Calls Tryz.prog 96 #[.agg #[.int .i64 3,.int .i64 m,.string x,.slice na l.length nc,.slice ka kl kc]] w fun e w'=>e=.returned (.bool (decide (0<=m/\m<=1) && x.toList.isEmpty && ((l.length:Int)==0) && ((kl:Int)==0)))/\Below w.heap.size w w':=by
 generalize hd:decide (0<=m/\m<=1)=A
 have HA:=hidF hd
 clear hd
 go_enter Tryz.func96,Tryz.ntmps96
 go_wp2_with (go_at_call 45;refine (qcL _ _ _ _).mono ?_;rintro e w' ⟨rfl,rfl⟩;rw[HA.out])
 all_goals
  go_ret
  exact⟨qbN (by simp_all),(Below.refl _ _).alloc (Nat.le_refl _) _⟩
theorem xbS (m:Int) (x:ByteArray) (l:List ByteArray) (ka:Option Addr) (kl kc:Nat) (w:World) (na:Option Addr) (nc:Nat) :
  Calls Tryz.prog 96 #[.agg #[.int .i64 4,.int .i64 m,.string x,.slice na l.length nc,.slice ka kl kc]] w fun e w'=>e=.returned (.bool ((m==0) && x.toList.isEmpty && ((l.length:Int)==0) && decide ((kl:Int)<=20)))/\Below w.heap.size w w':=by
 go_enter Tryz.func96,Tryz.ntmps96
 go_wp2_with fail
 all_goals
  go_ret
  exact⟨qbN (by simp_all),(Below.refl _ _).alloc (Nat.le_refl _) _⟩
theorem xbT (m:Int) (x:ByteArray) (l:List ByteArray) (ka:Option Addr) (kl kc:Nat) (w:World) (na:Option Addr) (nc:Nat) (S:Nat->Prop) (hl:StrsIn S w l (.slice na l.length nc)) (hB:∀ b,S b->b<w.heap.size) :
  Calls Tryz.prog 96 #[.agg #[.int .i64 5,.int .i64 m,.string x,.slice na l.length nc,.slice ka kl kc]] w fun e w'=>e=.returned (.bool ((m==0) && x.toList.isEmpty && ((l.length:Int)==(kl:Int)) && riseB l))/\Below w.heap.size w w':=by
 by_cases hm:m=0
 ·subst hm
  cases hx:x.toList.isEmpty with
  | false=>
   go_enter Tryz.func96,Tryz.ntmps96
   go_wp2_with fail
   go_ret
   exact⟨rfl,(Below.refl _ _).alloc (Nat.le_refl _) _⟩
  | true=>
   by_cases hk:l.length=kl
   ·subst hk
    have aA:=(Below.refl w.heap.size w).alloc (Nat.le_refl _) (.cells #[.int .i64 5,.int .i64 0,.string x,.slice na l.length nc,.slice ka l.length kc] 67)
    have aB:=hl.keep (qaB aA hB) (fun _ h=>h)
    have HC:Hid (Calls Tryz.prog 75 #[.slice na l.length nc] _ _):=qkB S l _ _ aB (fun b hb=>by have:=hB b hb;simp;omega)
    have hk:((l.length:Int)==(l.length:Int))=true:=by simp
    clear hl aB hB
    go_enter Tryz.func96,Tryz.ntmps96
    go_wp2_with fail
    refine HC.out.mono ?_
    rintro e w' ⟨rfl,aE⟩
    go_wp2_with fail
    go_ret
    exact⟨by simp,qaA aA (by simp) aE⟩
   ·have aC:((l.length:Int)==(kl:Int))=false:=by simp;omega
    go_enter Tryz.func96,Tryz.ntmps96
    go_wp2_with fail
    go_ret
    exact⟨qbN (by simp[aC]),(Below.refl _ _).alloc (Nat.le_refl _) _⟩
 ·have aD:(m==0)=false:=by simpa using hm
  clear hm
  go_enter Tryz.func96,Tryz.ntmps96
  go_wp2_with fail
  go_ret
  exact⟨qbN (by simp[aD]),(Below.refl _ _).alloc (Nat.le_refl _) _⟩
theorem xbU (m:Int) (x:ByteArray) (l:List ByteArray) (ka:Option Addr) (kl kc:Nat) (w:World) (na:Option Addr) (nc:Nat) :
  Calls Tryz.prog 96 #[.agg #[.int .i64 6,.int .i64 m,.string x,.slice na l.length nc,.slice ka kl kc]] w fun e w'=>e=.returned (.bool ((m==0) && x.toList.isEmpty && ((l.length:Int)==0) && decide ((kl:Int)<=1)))/\Below w.heap.size w w':=by
 go_enter Tryz.func96,Tryz.ntmps96
 go_wp2_with fail
 all_goals
  go_ret
  exact⟨qbN (by simp_all),(Below.refl _ _).alloc (Nat.le_refl _) _⟩
theorem qpR (s m:Int) (x:ByteArray) (l:List ByteArray) (ka:Option Addr) (kl kc:Nat) (w:World) (na:Option Addr) (nc:Nat)
  (h1:(s==1)=false) (h2:(s==2)=false) (h3:(s==3)=false) (h4:(s==4)=false) (h5:(s==5)=false) (h6:(s==6)=false) :
  Calls Tryz.prog 96 #[.agg #[.int .i64 s,.int .i64 m,.string x,.slice na l.length nc,.slice ka kl kc]] w fun e w'=>e=.returned (.bool false)/\Below w.heap.size w w':=by
 have aA:=(Below.refl w.heap.size w).alloc (Nat.le_refl _) (.cells #[.int .i64 s,.int .i64 m,.string x,.slice na l.length nc,.slice ka kl kc] 67)
 go_enter Tryz.func96,Tryz.ntmps96
 go_wp2_with fail
 go_ret
 exact⟨rfl,aA⟩
theorem qlZ (s m:Int) (x:ByteArray) (l:List ByteArray) (ka:Option Addr) (kl kc:Nat) (w:World) (na:Option Addr) (nc:Nat) (hx:x.size<=maxLen)
  (S:Nat->Prop) (hl:StrsIn S w l (.slice na l.length nc)) (hB:∀ b,S b->b<w.heap.size) :
  Calls Tryz.prog 96 #[.agg #[.int .i64 s,.int .i64 m,.string x,.slice na l.length nc,.slice ka kl kc]] w fun e w'=>e=.returned (.bool (qaQ s m x l kl))/\Below w.heap.size w w':=by
 unfold qaQ
 by_cases h1:s=1
 ·subst h1;rw[if_pos rfl];exact xbP m x l ka kl kc w na nc
 rw[if_neg h1]
 by_cases h2:s=2
 ·subst h2;rw[if_pos rfl];exact xbQ m x l ka kl kc w na nc hx
 rw[if_neg h2]
 by_cases h3:s=3
 ·subst h3;rw[if_pos rfl];exact xbR m x l ka kl kc w na nc
 rw[if_neg h3]
 by_cases h4:s=4
 ·subst h4;rw[if_pos rfl];exact xbS m x l ka kl kc w na nc
 rw[if_neg h4]
 by_cases h5:s=5
 ·subst h5;rw[if_pos rfl];exact xbT m x l ka kl kc w na nc S hl hB
 rw[if_neg h5]
 by_cases h6:s=6
 ·subst h6;rw[if_pos rfl];exact xbU m x l ka kl kc w na nc
 rw[if_neg h6]
 exact qpR s m x l ka kl kc w na nc (by simp[h1]) (by simp[h2]) (by simp[h3]) (by simp[h4]) (by simp[h5]) (by simp[h6])
end Go.Proofs.YtelogmjfekhmpaaGreatDoor
