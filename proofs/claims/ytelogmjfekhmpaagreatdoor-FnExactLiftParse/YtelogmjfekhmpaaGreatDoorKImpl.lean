import Derived.Test.YtelogmjfekhmpaaGreatDoorImpl2N
import Derived.Test.YtelogmjfekhmpaaGreatDoorKRep
namespace Go.Proofs.YtelogmjfekhmpaaGreatDoor
set_option maxRecDepth 100000
set_option maxHeartbeats 16000000
open Go.RowKit
theorem qkC (s:Int) (l:List ByteArray) (ka:Option Addr) (kl kc:Nat) (w:World) (na:Option Addr) (nc:Nat) (hs:s=1∨s=2∨s=3) :
  Calls Tryz.prog 171 #[.agg #[.int .i64 s,.slice na l.length nc,.slice ka kl kc]] w fun e w'=>e=.returned (.bool (((l.length:Int)==0) && ((kl:Int)==0)))/\Below w.heap.size w w':=by
 rcases hs with rfl|rfl|rfl
 all_goals
  go_enter Tryz.func171,Tryz.ntmps171
  go_wp2_with fail
  all_goals
   go_ret
   exact⟨qaD (by simp_all),(Below.refl _ _).alloc (Nat.le_refl _) _⟩
theorem qsF (s:Int) (l:List ByteArray) (ka:Option Addr) (kl kc:Nat) (w:World) (na:Option Addr) (nc:Nat) (hs:s=4∨s=6) :
  Calls Tryz.prog 171 #[.agg #[.int .i64 s,.slice na l.length nc,.slice ka kl kc]] w fun e w'=>e=.returned (.bool (((l.length:Int)==0) && ((kl:Int)==1)))/\Below w.heap.size w w':=by
 rcases hs with rfl|rfl
 all_goals
  go_enter Tryz.func171,Tryz.ntmps171
  go_wp2_with fail
  all_goals
   go_ret
   exact⟨qaD (by simp_all),(Below.refl _ _).alloc (Nat.le_refl _) _⟩
theorem qyF (l:List ByteArray) (ka:Option Addr) (kl kc:Nat) (w:World) (na:Option Addr) (nc:Nat) (S:Nat->Prop) (hl:StrsIn S w l (.slice na l.length nc)) (hB:∀ b,S b->b<w.heap.size) :
  Calls Tryz.prog 171 #[.agg #[.int .i64 5,.slice na l.length nc,.slice ka kl kc]] w fun e w'=>e=.returned (.bool (((l.length:Int)==(kl:Int)) && riseB l))/\Below w.heap.size w w':=by
 by_cases hk:l.length=kl
 ·subst hk
  have aA:=(Below.refl w.heap.size w).alloc (Nat.le_refl _) (.cells #[.int .i64 5,.slice na l.length nc,.slice ka l.length kc] 55)
  have aB:=hl.keep (qaB aA hB) (fun _ h=>h)
  have HC:Hid (Calls Tryz.prog 163 #[.slice na l.length nc] _ _):=qgO S l _ _ aB
  have hk:((l.length:Int)==(l.length:Int))=true:=by simp
  clear hl aB hB
  go_enter Tryz.func171,Tryz.ntmps171
  go_wp2_with fail
  refine HC.out.mono ?_
  rintro e w' ⟨rfl,rfl⟩
  go_wp2_with fail
  go_ret
  exact⟨by simp,aA⟩
 ·have aC:((l.length:Int)==(kl:Int))=false:=by simp;omega
  rw[aC]
  clear hk
  go_enter Tryz.func171,Tryz.ntmps171
  go_wp2_with fail
  go_ret
  exact⟨rfl,(Below.refl _ _).alloc (Nat.le_refl _) _⟩
theorem quP (s:Int) (l:List ByteArray) (ka:Option Addr) (kl kc:Nat) (w:World) (na:Option Addr) (nc:Nat)
  (h1:(s==1)=false) (h2:(s==2)=false) (h3:(s==3)=false) (h4:(s==4)=false) (h5:(s==5)=false) (h6:(s==6)=false) :
  Calls Tryz.prog 171 #[.agg #[.int .i64 s,.slice na l.length nc,.slice ka kl kc]] w fun e w'=>e=.returned (.bool false)/\Below w.heap.size w w':=by
 have aA:=(Below.refl w.heap.size w).alloc (Nat.le_refl _) (.cells #[.int .i64 s,.slice na l.length nc,.slice ka kl kc] 55)
 go_enter Tryz.func171,Tryz.ntmps171
 go_wp2_with fail
 go_ret
 exact⟨rfl,aA⟩
theorem xcO (s:Int) (l:List ByteArray) (ka:Option Addr) (kl kc:Nat) (w:World) (na:Option Addr) (nc:Nat)
  (S:Nat->Prop) (hl:StrsIn S w l (.slice na l.length nc)) (hB:∀ b,S b->b<w.heap.size) :
  Calls Tryz.prog 171 #[.agg #[.int .i64 s,.slice na l.length nc,.slice ka kl kc]] w fun e w'=>e=.returned (.bool (qbK s l kl))/\Below w.heap.size w w':=by
 unfold qbK
 by_cases h1:s=1
 ·subst h1;rw[if_pos rfl];exact qkC 1 l ka kl kc w na nc (.inl rfl)
 rw[if_neg h1]
 by_cases h2:s=2
 ·subst h2;rw[if_pos rfl];exact qkC 2 l ka kl kc w na nc (.inr (.inl rfl))
 rw[if_neg h2]
 by_cases h3:s=3
 ·subst h3;rw[if_pos rfl];exact qkC 3 l ka kl kc w na nc (.inr (.inr rfl))
 rw[if_neg h3]
 by_cases h4:s=4
 ·subst h4;rw[if_pos rfl];exact qsF 4 l ka kl kc w na nc (.inl rfl)
 rw[if_neg h4]
 by_cases h5:s=5
 ·subst h5;rw[if_pos rfl];exact qyF l ka kl kc w na nc S hl hB
 rw[if_neg h5]
 by_cases h6:s=6
 ·subst h6;rw[if_pos rfl];exact qsF 6 l ka kl kc w na nc (.inr rfl)
 rw[if_neg h6]
 exact quP s l ka kl kc w na nc (by simp[h1]) (by simp[h2]) (by simp[h3]) (by simp[h4]) (by simp[h5]) (by simp[h6])
end Go.Proofs.YtelogmjfekhmpaaGreatDoor
