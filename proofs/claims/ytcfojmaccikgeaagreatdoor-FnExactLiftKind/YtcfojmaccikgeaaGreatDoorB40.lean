import Derived.Test.YtcfojmaccikgeaaGreatDoorB20
import Derived.Test.YtcfojmaccikgeaaGreatDoorB28
import Derived.Test.YtcfojmaccikgeaaGreatDoorB5
import Derived.Deep.RegionHeld
import Derived.Test.YtcfojmaccikgeaaGreatDoorB39
import Derived.Test.YtcfojmaccikgeaaGreatDoorB32
import Derived.BigQuiet
import Derived.Test.YtcfojmaccikgeaaGreatDoorB13
import Derived.Test.YtcfojmaccikgeaaGreatDoorB17
open Go.Value renaming slice→Zs,int→Zi,string→Zt,agg→Za,bool→Zb
open Go.IntKind renaming i64→Zk
open Go.Ending renaming returned→Zr
open Go.Obj renaming cells→Zc
open Option renaming none→Zn,some→Zo
open Go renaming World→Zw,Value→Zv
open Nat renaming lt_of_lt_of_le→Zd
namespace Go.Proofs.YtcfojmaccikgeaaGreatDoor
open Go.RowKit Go.Proofs.Tryz
set_option maxRecDepth 100000
set_option maxHeartbeats 16000000
variable {S:Nat->Prop} {w wr W Wa W2:Zw} {n m M X g cap:Nat} {c0 c1 c2 nv kv:Zv} {so:Int} {ns:List ByteArray} {one:Obj}
def rh(S:Nat->Prop)(n:Nat)(k:K n)(w:Zw)(e:Ending)(w':Zw):Prop:=
 Bw w w' /\ ∃c0 c1 c2,e=Zr (Za #[c0,c1,c2])/\a8 (Ov S w.heap.size Zn w') w' n k c0 c1 c2
theorem xZ{s:Int}(h:(Lit.int Zk s).wf=true):a8 S w (n+1) (⟨s,[],[]⟩:Kd (K n)) (Zi Zk s) (Zs Zn 0 0) (Zs Zn 0 0):=
 ⟨rfl,h,⟨Zn,0,rfl,by simp[maxLen],fun s h=>(by cases h),fun h=>absurd rfl h⟩,⟨Zn,0,rfl,by simp[maxLen],fun h=>absurd rfl h⟩⟩
theorem GE {x:Int} {t:K m} {b c:Nat} (f:(Lit.int Zk x).wf=true) (j:S b) (g:w.cell? ⟨b,0,Zn⟩=Zo c0) (d:w.cell? ⟨b,1,Zn⟩=Zo c1) (a:w.cell? ⟨b,2,Zn⟩=Zo c2) (e:a8 S w m t c0 c1 c2) :
  a8 S w (m+1) (⟨x,[],[t]⟩:Kd (K m)) (Zi Zk x) (Zs Zn 0 0) (Zs (Zo ⟨b,0,Zn⟩) 1 c):=by
 refine⟨rfl,f,⟨Zn,0,rfl,by simp[maxLen],fun s h=>(by cases h),fun h=>absurd rfl h⟩,⟨Zo ⟨b,0,Zn⟩,c,rfl,by simp[maxLen],fun _=>⟨b,0,rfl,j,fun i hi=>?_⟩⟩⟩;have:i=0:=by simpa using hi
 subst this;exact⟨c0,c1,c2,by simpa using g,by simpa using d,by simpa using a,e⟩
theorem uX(s:Int)(w:Zw):Calls prog 102 #[Zi Zk s] w fun e b=>e=Zr (Za #[Zi Zk s,Zs Zn 0 0,Zs Zn 0 0])/\Bw w b:=by have a:Hid (∀o:Obj,Bw w (w.alloc o)):=fun o=>gF _ o;go_in;go_wp2_with fail;refine bodyPost_ret (v:=Za #[Zi Zk s,Zs Zn 0 0,Zs Zn 0 0]) (by simp[results,results102,go_sem]) rfl ?_;exact⟨rfl,a.out _⟩
theorem ki (n:Nat) (S:Nat->Prop) (s:Int) (k:K n) (c0 c1 c2:Zv) (w:Zw) (q:(Lit.int Zk s).wf=true) (o:a8 S w n k c0 c1 c2) (r:Bd S w) :
  Calls prog 104 #[Zi Zk s,Za #[c0,c1,c2]] w (rh S (n+1) (⟨s,[],[k]⟩:Kd (K n)) w):=by
 obtain⟨i,h,e,j,d,g,f,rfl,rfl,rfl⟩:=o.shape;obtain⟨l,a⟩:=iw (((w.alloc (Zc #[Zi Zk i,Zs h e j,Zs d g f] 31)).alloc (Zc #[Zi Zk s,Zs Zn 0 0,Zs (Zo ⟨w.heap.size+1+1,0,Zn⟩) 1 1] 31)).alloc (Zc #[Zi Zk i,Zs h e j,Zs d g f] 31));have c:Bw w l:=by rw[a];exact ((gF _ _).alloc zS _).alloc zE _
 have p:l.heap.size=w.heap.size+3:=by rw[a];simp
 have m:jX l (w.heap.size+2) (Zi Zk i) (Zs h e j) (Zs d g f):=by have:=jX.new ((w.alloc (Zc #[Zi Zk i,Zs h e j,Zs d g f] 31)).alloc (Zc #[Zi Zk s,Zs Zn 0 0,Zs (Zo ⟨w.heap.size+1+1,0,Zn⟩) 1 1] 31)) (Zi Zk i) (Zs h e j) (Zs d g f) 31;rw[<- a]at this;simpa using this
 have t:Hid (rh S (n+1) (⟨s,[],[k]⟩:Kd (K n)) w (Zr (Za #[Zi Zk s,Zs Zn 0 0,Zs (Zo ⟨w.heap.size+1+1,0,Zn⟩) 1 1])) l):=
  ⟨c,_,_,_,rfl,GE q (.inr ⟨om,om,zS⟩) m.c0 m.c1 m.c2 (o.keep (a6 c r) fun b u=>.inl u)⟩
 clear o r c p m q;go_in;go_wp2_with fail;refine bodyPost_ret (v:=Za #[Zi Zk s,Zs Zn 0 0,Zs (Zo ⟨w.heap.size+1+1,0,Zn⟩) 1 1]) (by simp[results,results104,go_sem]) rfl ?_;rw[<- a];exact t.out
theorem qb (S:Nat->Prop) (a:List ByteArray) (r:Zv) (x:ByteArray) (w:Zw) (t:fL S w a r) (v:a.length<=1048576) :
  Calls prog 105 #[r,Zt x] w fun e s=>((∃i,∃h:i<a.length,a[i]=x/\e=Zr (Zi Zk (i:Int)))∨(x ∉ a/\e=Zr (Zi Zk (-1))))/\s=w:=by
 obtain⟨z,cap,rfl,-,-,m⟩:=t;go_in;go_wp2;go_loopw [5] (fun n wr=>∃j:Nat,j<=a.length/\n=Zi Zk j/\(∀i (h:i<a.length),i<j->a[i]≠x)/\wr=w) (fun n _=>a.length-(intOf n).toNat);case atStart=>exact⟨0,Nat.zero_le _,rfl,fun i _ h=>absurd h (Nat.not_lt_zero _),rfl⟩
 case round=>
  obtain⟨j,B,rfl,l,rfl⟩:=hrel;have q:=Lib.hid l;clear l;by_cases d:j<a.length
  ·obtain⟨b,off,rfl,A,c⟩:=m (by intro h;rw[h]at d;simp at d);have f:=c j d;clear m c;by_cases g:a[j]=x;·have k:=Lib.hid (⟨j,d,g,rfl⟩:∃i,∃h:i<a.length,a[i]=x/\Ending.returned (Zi Zk (j:Int))=Zr (Zi Zk (i:Int)));rw[g]at f;have o:(x.toList==x.toList)=true:=zS;clear g;go_wp2;go_ret;exact⟨.inl k.out,rfl⟩
   ·have o:(a[j].toList==x.toList)=false:=by rw[beq_eq_false_iff_ne];intro e;exact g (by rw[ByteArray.toList_eq,ByteArray.toList_eq]at e;exact WideShapes.bytes_inj e)
    have k:=Lib.hid g;generalize p:a[j]=y at *;have u:=Lib.hid p;clear g p;go_wp2;go_roundw;case rel=>exact⟨j+1,om,by go_num,fun i h hi=>(by
     by_cases e:i=j
     ·subst e;rw[u.out];exact k.out
     ·exact q.out i h om),by first|rfl|trivial⟩
    case measure=>simp[intOf];omega
  ·have k:Hid (x ∉ a):=by intro h;obtain⟨i,hi,e⟩:=List.getElem_of_mem h;exact q.out i hi om e
   clear m;go_wp2;go_ret;exact⟨.inr ⟨k.out,rfl⟩,rfl⟩
theorem iA (op pl kk:Int) (d:(op=9/\pl=0/\kk=1)∨(op=9/\pl=1/\kk=1)∨(op=10/\pl=0/\kk=1)∨(op=10/\pl=1/\kk=1)∨(op=11/\pl=0/\kk=1)∨(op=11/\pl=1/\kk=1)∨(op=12/\pl=0/\kk=1)∨(op=12/\pl=1/\kk=1)∨(op=13/\pl=0/\kk=1)∨(op=13/\pl=1/\kk=1)∨(op=29/\pl=0/\kk=1)∨(op=30/\pl=0/\kk=2)∨(op=16/\pl=0/\kk=3)∨(op=16/\pl=1/\kk=3)∨(op=17/\pl=0/\kk=3)∨(op=17/\pl=1/\kk=3)∨(op=18/\pl=0/\kk=3)∨(op=21/\pl=0/\kk=5)∨(op=22/\pl=0/\kk=5)∨(op=23/\pl=0/\kk=5)) (s:Int) (f g:Option Addr) (h b a i:Nat) (j:Zv) (w:Zw) :
  Calls prog 76 #[Zi Zk op,Zi Zk pl,Za #[Zi Zk s,Zs f h b,Zs g a i],j] w fun e k=>e=Zr (Zb (s==kk))/\Bw w k:=by
 rcases d with ⟨rfl,rfl,rfl⟩|⟨rfl,rfl,rfl⟩|⟨rfl,rfl,rfl⟩|⟨rfl,rfl,rfl⟩|⟨rfl,rfl,rfl⟩|⟨rfl,rfl,rfl⟩|⟨rfl,rfl,rfl⟩|⟨rfl,rfl,rfl⟩|⟨rfl,rfl,rfl⟩|⟨rfl,rfl,rfl⟩|⟨rfl,rfl,rfl⟩|⟨rfl,rfl,rfl⟩|⟨rfl,rfl,rfl⟩|⟨rfl,rfl,rfl⟩|⟨rfl,rfl,rfl⟩|⟨rfl,rfl,rfl⟩|⟨rfl,rfl,rfl⟩|⟨rfl,rfl,rfl⟩|⟨rfl,rfl,rfl⟩|⟨rfl,rfl,rfl⟩;all_goals
  have l:Hid (∀q,Bw w ((w.alloc (Zc #[Zi Zk s,Zs f h b,Zs g a i] 31)).drewN q)):=fun q=>Go.below_drewN (gF _ _) q
  have c:Hid (Bw w (w.alloc (Zc #[Zi Zk s,Zs f h b,Zs g a i] 31))):=gF _ _
  go_in
  go_wp2
  go_ret
  exact⟨rfl,c.out⟩
theorem Cn (s:Int) (c d:Option Addr) (f g a h:Nat) (k:Zv) (w:Zw) :
  Calls prog 76 #[Zi Zk 14,Zi Zk 0,Za #[Zi Zk s,Zs c f g,Zs d a h],k] w fun e l=>e=Zr (Zb (s==1 || s==2))/\Bw w l:=by
 have b:Hid (∀q,Bw w ((w.alloc (Zc #[Zi Zk s,Zs c f g,Zs d a h] 31)).drewN q)):=fun q=>Go.below_drewN (gF _ _) q;have o:Hid (Bw w (w.alloc (Zc #[Zi Zk s,Zs c f g,Zs d a h] 31))):=gF _ _;by_cases j:s=1;·subst j;go_in;go_wp2_with fail;go_quiet (fail);go_wp2;go_ret;exact⟨gd zS,b.out _⟩
 ·have n:(s==1)=false:=by simpa using j
  by_cases i:s=2;·subst i;go_in;go_wp2_with fail;go_quiet (fail);go_wp2;go_ret;exact⟨gd zS,b.out _⟩
  ·have m:(s==2)=false:=by simpa using i
   go_in;go_wp2_with fail;go_quiet (fail);go_wp2;go_ret;exact⟨gd (by simp[n,m]),b.out _⟩
theorem BE (op pl:Int) (c:(op=15/\pl=0)∨(op=19/\pl=1)) (s:Int) (d f:Option Addr) (g b a h:Nat) (i:Zv) (w:Zw) :
  Calls prog 76 #[Zi Zk op,Zi Zk pl,Za #[Zi Zk s,Zs d g b,Zs f a h],i] w fun e j=>e=Zr (Zb true)/\Bw w j:=by
 rcases c with ⟨rfl,rfl⟩|⟨rfl,rfl⟩;all_goals
  have l:Hid (∀q,Bw w ((w.alloc (Zc #[Zi Zk s,Zs d g b,Zs f a h] 31)).drewN q)):=fun q=>Go.below_drewN (gF _ _) q
  have k:Hid (Bw w (w.alloc (Zc #[Zi Zk s,Zs d g b,Zs f a h] 31))):=gF _ _
  go_in
  go_wp2_with fail
  go_quiet (fail)
  go_wp2
  go_ret
  exact⟨gd (by simp[]),l.out _⟩
theorem Cf (op pl kk:Int) (c:(op=19/\pl=0/\kk=3)∨(op=41/\pl=0/\kk=3)) (s:Int) (d f:Option Addr) (g b a h:Nat) (k:Zv) (w:Zw) :
  Calls prog 76 #[Zi Zk op,Zi Zk pl,Za #[Zi Zk s,Zs d g b,Zs f a h],k] w fun e l=>e=Zr (Zb (s==kk))/\Bw w l:=by
 rcases c with ⟨rfl,rfl,rfl⟩|⟨rfl,rfl,rfl⟩;all_goals
  have j:Hid (∀q,Bw w ((w.alloc (Zc #[Zi Zk s,Zs d g b,Zs f a h] 31)).drewN q)):=fun q=>Go.below_drewN (gF _ _) q
  have n:Hid (Bw w (w.alloc (Zc #[Zi Zk s,Zs d g b,Zs f a h] 31))):=gF _ _
  by_cases i:s=3
  ·subst i
   go_in
   go_wp2_with fail
   go_quiet (fail)
   go_wp2
   go_ret
   exact⟨gd zS,j.out _⟩
  ·have m:(s==3)=false:=by simpa using i
   go_in
   go_wp2_with fail
   go_quiet (fail)
   go_wp2
   go_ret
   exact⟨gd (by simp[m]),j.out _⟩
theorem DE (s:Int) (c d:Option Addr) (f g a h:Nat) (i:Zv) (w:Zw) :
  Calls prog 76 #[Zi Zk 22,Zi Zk 1,Za #[Zi Zk s,Zs c f g,Zs d a h],i] w fun e j=>e=Zr (Zb true)/\Bw w j:=by have k:Hid (∀q,Bw w ((w.alloc (Zc #[Zi Zk s,Zs c f g,Zs d a h] 31)).drewN q)):=fun q=>Go.below_drewN (gF _ _) q;have b:Hid (Bw w (w.alloc (Zc #[Zi Zk s,Zs c f g,Zs d a h] 31))):=gF _ _;go_in;go_wp2;go_ret;exact⟨rfl,b.out⟩
theorem BP (op pl kk:Int) (d:(op=25/\pl=0/\kk=4)∨(op=34/\pl=0/\kk=4)) (s:Int) (f g:Option Addr) (h c b i:Nat) (l:Zv) (w:Zw) :
  Calls prog 76 #[Zi Zk op,Zi Zk pl,Za #[Zi Zk s,Zs f h c,Zs g b i],l] w fun e m=>e=Zr (Zb (s==kk))/\Bw w m:=by
 rcases d with ⟨rfl,rfl,rfl⟩|⟨rfl,rfl,rfl⟩;all_goals
  have n:Hid (∀q,Bw w ((w.alloc (Zc #[Zi Zk s,Zs f h c,Zs g b i] 31)).drewN q)):=fun q=>Go.below_drewN (gF _ _) q
  have a:Hid (Bw w (w.alloc (Zc #[Zi Zk s,Zs f h c,Zs g b i] 31))):=gF _ _
  by_cases j:s=4
  ·subst j
   go_in
   go_wp2
   go_ret
   exact⟨gd zS,a.out⟩
  ·have k:(s==4)=false:=by simpa using j
   go_in
   go_wp2
   go_ret
   exact⟨gd (by simp[k]),a.out⟩
theorem oK (op pl kk:Int) (d:(op=25/\pl=1/\kk=1)∨(op=28/\pl=1/\kk=1)∨(op=28/\pl=2/\kk=1)∨(op=33/\pl=0/\kk=4)∨(op=43/\pl=0/\kk=4)∨(op=34/\pl=1/\kk=3)) (s:Int) (f g:Option Addr) (h b a i:Nat) (j:Zv) (w:Zw) :
  Calls prog 76 #[Zi Zk op,Zi Zk pl,Za #[Zi Zk s,Zs f h b,Zs g a i],j] w fun e k=>e=Zr (Zb (s==kk))/\Bw w k:=by
 rcases d with ⟨rfl,rfl,rfl⟩|⟨rfl,rfl,rfl⟩|⟨rfl,rfl,rfl⟩|⟨rfl,rfl,rfl⟩|⟨rfl,rfl,rfl⟩|⟨rfl,rfl,rfl⟩;all_goals
  have l:Hid (∀q,Bw w ((w.alloc (Zc #[Zi Zk s,Zs f h b,Zs g a i] 31)).drewN q)):=fun q=>Go.below_drewN (gF _ _) q
  have c:Hid (Bw w (w.alloc (Zc #[Zi Zk s,Zs f h b,Zs g a i] 31))):=gF _ _
  go_in
  go_wp2
  go_ret
  exact⟨rfl,c.out⟩
theorem BK (op pl:Int) (b:(op=26/\pl=0)∨(op=28/\pl=0)) (s:Int) (h c:Option Addr) (d i g f:Nat) (o:Zv) (w:Zw) :
  Calls prog 76 #[Zi Zk op,Zi Zk pl,Za #[Zi Zk s,Zs h d i,Zs c g f],o] w fun e n=>e=Zr (Zb (s==4 || s==2))/\Bw w n:=by
 rcases b with ⟨rfl,rfl⟩|⟨rfl,rfl⟩;all_goals
  have p:Hid (∀q,Bw w ((w.alloc (Zc #[Zi Zk s,Zs h d i,Zs c g f] 31)).drewN q)):=fun q=>Go.below_drewN (gF _ _) q
  have a:Hid (Bw w (w.alloc (Zc #[Zi Zk s,Zs h d i,Zs c g f] 31))):=gF _ _
  by_cases k:s=4
  ·subst k
   go_in
   go_wp2
   go_ret
   exact⟨gd zS,a.out⟩
  ·have l:(s==4)=false:=by simpa using k
   by_cases j:s=2
   ·subst j
    go_in
    go_wp2
    go_ret
    exact⟨gd zS,a.out⟩
   ·have m:(s==2)=false:=by simpa using j
    go_in
    go_wp2
    go_ret
    exact⟨gd (by simp[l,m]),a.out⟩
theorem El (s:Int) (c d:Option Addr) (f g a h:Nat) (l:Zv) (w:Zw) :
  Calls prog 76 #[Zi Zk 27,Zi Zk 0,Za #[Zi Zk s,Zs c f g,Zs d a h],l] w fun e m=>e=Zr (Zb (s==4 || s==2))/\Bw w m:=by
 have b:Hid (∀q,Bw w ((w.alloc (Zc #[Zi Zk s,Zs c f g,Zs d a h] 31)).drewN q)):=fun q=>Go.below_drewN (gF _ _) q;have o:Hid (Bw w (w.alloc (Zc #[Zi Zk s,Zs c f g,Zs d a h] 31))):=gF _ _;by_cases j:s=4;·subst j;go_in;go_wp2_with fail;go_quiet (fail);go_wp2;go_ret;exact⟨gd zS,b.out _⟩
 ·have k:(s==4)=false:=by simpa using j
  by_cases i:s=2;·subst i;go_in;go_wp2_with fail;go_quiet (fail);go_wp2;go_ret;exact⟨gd zS,b.out _⟩
  ·have n:(s==2)=false:=by simpa using i
   go_in;go_wp2_with fail;go_quiet (fail);go_wp2;go_ret;exact⟨gd (by simp[k,n]),b.out _⟩
theorem BU (op pl kk:Int) (c:(op=31/\pl=0/\kk=6)∨(op=32/\pl=0/\kk=6)) (s:Int) (d f:Option Addr) (g b a h:Nat) (k:Zv) (w:Zw) :
  Calls prog 76 #[Zi Zk op,Zi Zk pl,Za #[Zi Zk s,Zs d g b,Zs f a h],k] w fun e l=>e=Zr (Zb (s==kk))/\Bw w l:=by
 rcases c with ⟨rfl,rfl,rfl⟩|⟨rfl,rfl,rfl⟩;all_goals
  have i:Hid (∀q,Bw w ((w.alloc (Zc #[Zi Zk s,Zs d g b,Zs f a h] 31)).drewN q)):=fun q=>Go.below_drewN (gF _ _) q
  have m:Hid (Bw w (w.alloc (Zc #[Zi Zk s,Zs d g b,Zs f a h] 31))):=gF _ _
  by_cases j:s=6
  ·subst j
   go_in
   go_wp2_with fail
   go_quiet (fail)
   go_wp2
   go_ret
   exact⟨gd zS,i.out _⟩
  ·have n:(s==6)=false:=by simpa using j
   go_in
   go_wp2_with fail
   go_quiet (fail)
   go_wp2
   go_ret
   exact⟨gd (by simp[n]),i.out _⟩
theorem B2 (op pl:Int) (c:(op=32/\pl=1)∨(op=35/\pl=1)) (s:Int) (d f:Option Addr) (g b a h:Nat) (i:Zv) (w:Zw) :
  Calls prog 76 #[Zi Zk op,Zi Zk pl,Za #[Zi Zk s,Zs d g b,Zs f a h],i] w fun e j=>e=Zr (Zb true)/\Bw w j:=by
 rcases c with ⟨rfl,rfl⟩|⟨rfl,rfl⟩;all_goals
  have l:Hid (∀q,Bw w ((w.alloc (Zc #[Zi Zk s,Zs d g b,Zs f a h] 31)).drewN q)):=fun q=>Go.below_drewN (gF _ _) q
  have k:Hid (Bw w (w.alloc (Zc #[Zi Zk s,Zs d g b,Zs f a h] 31))):=gF _ _
  go_in
  go_wp2_with fail
  go_quiet (fail)
  go_wp2
  go_ret
  exact⟨gd (by simp[]),l.out _⟩
theorem oN (op pl:Int) (d:(op=33/\pl=1)∨(op=7/\pl=0)∨(op=8/\pl=0)∨(op=20/\pl=0)∨(op=20/\pl=1)∨(op=42/\pl=0)) (s:Int) (f g:Option Addr) (h b a i:Nat) (j:Zv) (w:Zw) :
  Calls prog 76 #[Zi Zk op,Zi Zk pl,Za #[Zi Zk s,Zs f h b,Zs g a i],j] w fun e k=>e=Zr (Zb true)/\Bw w k:=by
 rcases d with ⟨rfl,rfl⟩|⟨rfl,rfl⟩|⟨rfl,rfl⟩|⟨rfl,rfl⟩|⟨rfl,rfl⟩|⟨rfl,rfl⟩;all_goals
  have l:Hid (∀q,Bw w ((w.alloc (Zc #[Zi Zk s,Zs f h b,Zs g a i] 31)).drewN q)):=fun q=>Go.below_drewN (gF _ _) q
  have c:Hid (Bw w (w.alloc (Zc #[Zi Zk s,Zs f h b,Zs g a i] 31))):=gF _ _
  go_in
  go_wp2
  go_ret
  exact⟨rfl,c.out⟩
theorem Eb (s:Int) (b c:Option Addr) (d f a g:Nat) (k:Zv) (w:Zw) :
  Calls prog 76 #[Zi Zk 35,Zi Zk 0,Za #[Zi Zk s,Zs b d f,Zs c a g],k] w fun e l=>e=Zr (Zb (s==4))/\Bw w l:=by
 have i:Hid (∀q,Bw w ((w.alloc (Zc #[Zi Zk s,Zs b d f,Zs c a g] 31)).drewN q)):=fun q=>Go.below_drewN (gF _ _) q;have m:Hid (Bw w (w.alloc (Zc #[Zi Zk s,Zs b d f,Zs c a g] 31))):=gF _ _;by_cases h:s=4;·subst h;go_in;go_wp2_with fail;go_quiet (fail);go_wp2;go_ret;exact⟨gd zS,i.out _⟩
 ·have j:(s==4)=false:=by simpa using h
  go_in;go_wp2_with fail;go_quiet (fail);go_wp2;go_ret;exact⟨gd (by simp[j]),i.out _⟩
theorem Gz (s:Int) (c d:Option Addr) (f g a h:Nat) (j:Zv) (i:Int) (w:Zw) :
  Calls prog 76 #[Zi Zk 24,Zi Zk i,Za #[Zi Zk s,Zs c f g,Zs d a h],j] w fun e k=>e=Zr (Zb true)/\Bw w k:=by have l:Hid (∀q,Bw w ((w.alloc (Zc #[Zi Zk s,Zs c f g,Zs d a h] 31)).drewN q)):=fun q=>Go.below_drewN (gF _ _) q;have b:Hid (Bw w (w.alloc (Zc #[Zi Zk s,Zs c f g,Zs d a h] 31))):=gF _ _;go_in;go_wp2;go_ret;exact⟨rfl,b.out⟩
theorem wP (q:Int) (J:q=14∨q=15∨q=27) (s:Int) (o l:Option Addr) (i t j m:Nat) (w:Zw) (b off n cap:Nat) (C:Int) (x D:Option Addr) (E A v B:Nat) (r:Bool) (u:b<w.heap.size) (H:0<n) (f0:w.cell? ⟨b,off,Zn⟩=Zo (Zi Zk C)) (f1:w.cell? ⟨b,off+1,Zn⟩=Zo (Zs x E A)) (f2:w.cell? ⟨b,off+2,Zn⟩=Zo (Zs D v B)) (G:∀ V,Bw w V->Calls prog 90 #[Za #[Zi Zk s,Zs o i t,Zs l j m],Za #[Zi Zk C,Zs x E A,Zs D v B]] V fun e d=>e=Zr (Zb r)/\Bw V d) :
  Calls prog 76 #[Zi Zk q,Zi Zk 1,Za #[Zi Zk s,Zs o i t,Zs l j m],Zs (Zo ⟨b,off,Zn⟩) n cap] w fun e d=>e=Zr (Zb r)/\Bw w d:=by
 obtain⟨W,k⟩:=iw (w.alloc (Zc #[Zi Zk s,Zs o i t,Zs l j m] 31));have c:Bw w W:=by rw[k];exact gF _ _
 have F:=jX.new w (Zi Zk s) (Zs o i t) (Zs l j m) 31;rw[<- k]at F;obtain⟨z0,I,z2⟩:=F;have f0:=kC c f0 u;have f1:=kC c f1 u;have f2:=kC c f2 u;have f:Bw w W.drew:=c.drew;have y:=Lib.hid (G W.drew f);have p:=a7 f;have g:w.heap.size<W.drew.heap.size:=by show _<W.heap.size;rw[k];simp
 have h:b<W.drew.heap.size:=Zd u f.size;clear G c f;rcases J with rfl|rfl|rfl;all_goals
  go_in
  go_wp2_with fail
  rw[<- k]
  clear k
  refine wp_region_held_drew (S:=(fun d=>d.cell? ⟨w.heap.size,0,Zn⟩=Zo (Zi Zk s)/\d.cell? ⟨w.heap.size,1,Zn⟩=Zo (Zs o i t)/\d.cell? ⟨w.heap.size,2,Zn⟩=Zo (Zs l j m)/\d.cell? ⟨b,off,Zn⟩=Zo (Zi Zk C)/\d.cell? ⟨b,off+1,Zn⟩=Zo (Zs x E A)/\d.cell? ⟨b,off+2,Zn⟩=Zo (Zs D v B))) zK (by exact⟨z0,I,z2,f0,f1,f2⟩) (fun hHeld=>?_)
  refine tk 0 ?_
  refine tk 1 ?_
  refine tk 2 ?_
  first|(refine ts 3 ?_;refine ts 4 ?_;refine ts 5 ?_;refine ts 6 ?_;refine ts 7 ?_;refine ts 8 ?_;refine ts 9 ?_;refine ts 10 ?_;refine tk 11 ?_;refine tk 12 ?_;refine tk 13 ?_;refine tk 14 ?_;refine tk 15 ?_;refine tk 16 ?_;refine tk 17 ?_;refine tk 18 ?_;refine tk 19 ?_;refine iT 20 fun K hK=>?_)|(refine tk 3 ?_;refine tk 4 ?_;refine tk 5 ?_;refine tk 6 ?_;refine iT 7 fun K hK=>?_)
  go_simp
  go_at_call 90
  refine y.out.mono ?_
  rintro e w1 ⟨rfl,a⟩
  have z:=a7 (p.out.trans (a.mono p.out.size))
  refine hK.out _ _ ⟨kC a hHeld.1 g,kC a hHeld.2.1 g,kC a hHeld.2.2.1 g,kC a hHeld.2.2.2.1 h,kC a hHeld.2.2.2.2.1 h,kC a hHeld.2.2.2.2.2 h⟩ (fun hHeld=>?_)
  first|(refine tk 21 ?_;refine tk 22 ?_;refine tk 23 ?_)|(refine tk 8 ?_;refine tk 9 ?_)
  refine wpAnyH_done zK ?_ _
  go_simp
  all_goals
   clear a
   go_wp2
   go_ret
   exact⟨rfl,z.out⟩
theorem wn (q:Int) (I:q=19∨q=32∨q=35) (s:Int) (o l:Option Addr) (i t j m:Nat) (w:Zw) (b off n cap:Nat) (C:Int) (x D:Option Addr) (E A v B:Nat) (r:Bool) (u:b<w.heap.size) (J:(1:Int)<(n:Int)) (f0:w.cell? ⟨b,off+3,Zn⟩=Zo (Zi Zk C)) (f1:w.cell? ⟨b,off+4,Zn⟩=Zo (Zs x E A)) (f2:w.cell? ⟨b,off+5,Zn⟩=Zo (Zs D v B)) (G:∀ V,Bw w V->Calls prog 90 #[Za #[Zi Zk s,Zs o i t,Zs l j m],Za #[Zi Zk C,Zs x E A,Zs D v B]] V fun e d=>e=Zr (Zb r)/\Bw V d) :
  Calls prog 76 #[Zi Zk q,Zi Zk 2,Za #[Zi Zk s,Zs o i t,Zs l j m],Zs (Zo ⟨b,off,Zn⟩) n cap] w fun e d=>e=Zr (Zb r)/\Bw w d:=by
 obtain⟨W,k⟩:=iw (w.alloc (Zc #[Zi Zk s,Zs o i t,Zs l j m] 31));have c:Bw w W:=by rw[k];exact gF _ _
 have F:=jX.new w (Zi Zk s) (Zs o i t) (Zs l j m) 31;rw[<- k]at F;obtain⟨z0,H,z2⟩:=F;have f0:=kC c f0 u;have f1:=kC c f1 u;have f2:=kC c f2 u;have f:Bw w W.drew:=c.drew;have y:=Lib.hid (G W.drew f);have p:=a7 f;have g:w.heap.size<W.drew.heap.size:=by show _<W.heap.size;rw[k];simp
 have h:b<W.drew.heap.size:=Zd u f.size;clear G c f;rcases I with rfl|rfl|rfl;all_goals
  go_in
  go_wp2_with fail
  rw[<- k]
  clear k
  refine wp_region_held_drew (S:=(fun d=>d.cell? ⟨w.heap.size,0,Zn⟩=Zo (Zi Zk s)/\d.cell? ⟨w.heap.size,1,Zn⟩=Zo (Zs o i t)/\d.cell? ⟨w.heap.size,2,Zn⟩=Zo (Zs l j m)/\d.cell? ⟨b,off+3,Zn⟩=Zo (Zi Zk C)/\d.cell? ⟨b,off+4,Zn⟩=Zo (Zs x E A)/\d.cell? ⟨b,off+5,Zn⟩=Zo (Zs D v B))) zK (by exact⟨z0,H,z2,f0,f1,f2⟩) (fun hHeld=>?_)
  refine tk 0 ?_
  refine tk 1 ?_
  refine tk 2 ?_
  refine ts 3 ?_;refine ts 4 ?_;refine ts 5 ?_;refine tk 6 ?_;refine tk 7 ?_;refine tk 8 ?_;refine tk 9 ?_;refine tk 10 ?_;refine tk 11 ?_;refine tk 12 ?_;refine tk 13 ?_;refine tk 14 ?_;refine tk 15 ?_;refine tk 16 ?_;refine tk 17 ?_;refine tk 18 ?_;refine iT 19 fun K hK=>?_
  go_simp
  go_at_call 90
  refine y.out.mono ?_
  rintro e w1 ⟨rfl,a⟩
  have z:=a7 (p.out.trans (a.mono p.out.size))
  refine hK.out _ _ ⟨kC a hHeld.1 g,kC a hHeld.2.1 g,kC a hHeld.2.2.1 g,kC a hHeld.2.2.2.1 h,kC a hHeld.2.2.2.2.1 h,kC a hHeld.2.2.2.2.2 h⟩ (fun hHeld=>?_)
  refine tk 20 ?_;refine tk 21 ?_;refine tk 22 ?_
  refine wpAnyH_done zK ?_ _
  go_simp
  all_goals
   clear a
   go_wp2
   go_ret
   exact⟨rfl,z.out⟩
theorem Cq (s:Int) (u q:Option Addr) (m x o t:Nat) (w:Zw) (b off n cap:Nat) (E:Int) (z G:Option Addr) (I C y D:Nat) (r:Bool) (N:b<w.heap.size) (O:0<n) (j c H k:Nat) (a:j<w.heap.size) (M:0<H) (f:w.cell? ⟨b,off+2,Zn⟩=Zo (Zs (Zo ⟨j,c,Zn⟩) H k)) (f0:w.cell? ⟨j,c,Zn⟩=Zo (Zi Zk E)) (f1:w.cell? ⟨j,c+1,Zn⟩=Zo (Zs z I C)) (f2:w.cell? ⟨j,c+2,Zn⟩=Zo (Zs G y D)) (L:∀ V,Bw w V->Calls prog 90 #[Za #[Zi Zk s,Zs u m x,Zs q o t],Za #[Zi Zk E,Zs z I C,Zs G y D]] V fun e h=>e=Zr (Zb r)/\Bw V h) :
  Calls prog 76 #[Zi Zk 31,Zi Zk 1,Za #[Zi Zk s,Zs u m x,Zs q o t],Zs (Zo ⟨b,off,Zn⟩) n cap] w fun e h=>e=Zr (Zb r)/\Bw w h:=by
 obtain⟨W,p⟩:=iw (w.alloc (Zc #[Zi Zk s,Zs u m x,Zs q o t] 31));have d:Bw w W:=by rw[p];exact gF _ _
 have J:=jX.new w (Zi Zk s) (Zs u m x) (Zs q o t) 31;rw[<- p]at J;obtain⟨z0,P,z2⟩:=J;have f:=kC d f N;have f0:=kC d f0 a;have f1:=kC d f1 a;have f2:=kC d f2 a;have i:Bw w W.drew:=d.drew;have A:=Lib.hid (L W.drew i);have v:=a7 i;have l:w.heap.size<W.drew.heap.size:=by show _<W.heap.size;rw[p];simp
 have F:b<W.drew.heap.size:=Zd N i.size;have g:j<W.drew.heap.size:=Zd a i.size;clear L d i;clear a;go_in;go_wp2_with fail;rw[<- p];clear p;refine wp_region_held_drew (S:=(fun h=>h.cell? ⟨w.heap.size,0,Zn⟩=Zo (Zi Zk s)/\h.cell? ⟨w.heap.size,1,Zn⟩=Zo (Zs u m x)/\h.cell? ⟨w.heap.size,2,Zn⟩=Zo (Zs q o t)/\h.cell? ⟨b,off+2,Zn⟩=Zo (Zs (Zo ⟨j,c,Zn⟩) H k)/\h.cell? ⟨j,c,Zn⟩=Zo (Zi Zk E)/\h.cell? ⟨j,c+1,Zn⟩=Zo (Zs z I C)/\h.cell? ⟨j,c+2,Zn⟩=Zo (Zs G y D))) zK (by exact⟨z0,P,z2,f,f0,f1,f2⟩) (fun hHeld=>?_);refine tk 0 ?_;refine tk 1 ?_;refine tk 2 ?_;refine ts 3 ?_;refine ts 4 ?_;refine ts 5 ?_;refine tk 6 ?_;refine tk 7 ?_;refine tk 8 ?_;refine tk 9 ?_;refine tk 10 ?_;refine tk 11 ?_;refine tk 12 ?_;refine tk 13 ?_;refine tk 14 ?_;refine tk 15 ?_;refine tk 16 ?_;refine tk 17 ?_;refine iT 18 fun K hK=>?_;go_simp;go_at_call 90;refine A.out.mono ?_;rintro e w1 ⟨rfl,a⟩;have B:=a7 (v.out.trans (a.mono v.out.size));refine hK.out _ _ ⟨kC a hHeld.1 l,kC a hHeld.2.1 l,kC a hHeld.2.2.1 l,kC a hHeld.2.2.2.1 F,kC a hHeld.2.2.2.2.1 g,kC a hHeld.2.2.2.2.2.1 g,kC a hHeld.2.2.2.2.2.2 g⟩ (fun hHeld=>?_);refine tk 19 ?_;refine tk 20 ?_;refine tk 21 ?_;refine wpAnyH_done zK ?_ _;go_simp;all_goals
  clear a
  go_wp2
  go_ret
  exact⟨rfl,B.out⟩
theorem jR {p:Nat->Prop} {m:List (K (M+1))} {o:Zv} (h:gU p w (a8 S w (M+1)) m o) (v:Bd p w) (j:Nat) (n:j<m.length) :
  ∃(b off cap:Nat)(i:Int)(d k:Option Addr)(l f c g:Nat),o=Zs (Zo ⟨b,off,Zn⟩) m.length cap/\b<w.heap.size/\w.cell? ⟨b,off+j*3,Zn⟩=Zo (Zi Zk i)/\w.cell? ⟨b,off+j*3+1,Zn⟩=Zo (Zs d l f)/\w.cell? ⟨b,off+j*3+2,Zn⟩=Zo (Zs k c g)/\a8 S w (M+1) m[j] (Zi Zk i) (Zs d l f) (Zs k c g):=by obtain⟨B,cap,r,A,s⟩:=h;obtain⟨b,off,t,y,a⟩:=s (fun e=>by rw[e]at n;simp at n);obtain⟨c0,c1,c2,u,z,x,q⟩:=a j n;obtain⟨i,d,l,f,k,c,g,rfl,rfl,rfl⟩:=q.shape;exact⟨b,off,cap,i,d,k,l,f,c,g,by rw[r,t],v b y,u,z,x,q⟩
theorem kQ {k:K (M+1)} {R:Int} {G A:Option Addr} {W O t P:Nat} (h:a8 S w (M+1) k (Zi Zk R) (Zs G W O) (Zs A t P)) (J:Bd S w) (U:Kd.sort k=6∨Kd.sort k=4) (o:gV (M+1) k=true) :
  ∃(b off:Nat)(v0:Int)(p q:Option Addr)(n r s wc:Nat),A=Zo ⟨b,off,Zn⟩/\0<t/\b<w.heap.size/\w.cell? ⟨b,off,Zn⟩=Zo (Zi Zk v0)/\w.cell? ⟨b,off+1,Zn⟩=Zo (Zs p n r)/\w.cell? ⟨b,off+2,Zn⟩=Zo (Zs q s wc)/\a8 S w (M+1) (mN k) (Zi Zk v0) (Zs p n r) (Zs q s wc)/\gV (M+1) (mN k)=true:=by
 obtain⟨x,c⟩:∃x,Kd.kids k=[x]:=by
  have u:=(ic (ie o).1).2.1;unfold lq fW at u;have i:(Kd.kids k).length=1:=by
   have g:fW (Kd.sort k) (Kd.names k) (Kd.kids k).length=true:=(ic (ie o).1).2.1;unfold fW at g;rcases U with L|I;·rw[L]at g;simp at g;omega
   ·rw[I]at g;simp at g;omega
  exact List.length_eq_one_iff.1 i
 obtain⟨-,-,-,T,cap,B,Z,H⟩:=h;obtain⟨b,off,u,V,d⟩:=H (by rw[c];simp);obtain⟨c0,c1,c2,C,F,D,Q⟩:=d 0 (by rw[c];simp);simp only[Nat.zero_mul,Nat.add_zero]at C F D;have j:a8 S w M x c0 c1 c2:=by
  have e:(Kd.kids k)[0]'(by rw[c];simp)=x:=by simp[c]
  rw[<- e];exact Q
 obtain⟨v0,p,n,r,q,s,wc,rfl,rfl,rfl⟩:=j.shape;have f:mN k=fQ M M x:=by unfold mN;rw[c]
 have z:A=T:=by simpa using congrArg (fun v=>match v with|Value.slice a _ _=>a|_=>Zn) B
 have y:t=(Kd.kids k).length:=by simpa using congrArg (fun v=>match v with|Value.slice _ l _=>l|_=>0) B
 refine⟨b,off,v0,p,q,n,r,s,wc,z.trans u,by rw[y,c];simp,J b V,C,F,D,by rw[f];exact j.cp om,?_⟩;rw[f];have m:=pn o x (by rw[c];simp);obtain⟨N,X⟩:=ie o;have Y:=(ic N).2.2 x (by rw[c];simp);have E:=pF M x;unfold gV at m ⊢;rw[E.1,E.2.1];exact m
theorem zu (M:Nat) (S:Nat->Prop) (op:Int) (i:Nat) (k:K (M+1)) (a:List (K (M+1))) (c0 c1 c2 c:Zv) (w:Zw) (E:a8 S w (M+1) k c0 c1 c2) (z:gU S w (a8 S w (M+1)) a c) (v:Bd S w) (ok:gV (M+1) k=true) (D:∀ x,x∈a->gV (M+1) x=true)
  (hi:a.length=i) (y:op=24∨(op,i)∈BQ) (F:op=31->i=1->Kd.sort (a.getD 0 zU)=6) :
  Calls prog 76 #[Zi Zk op,Zi Zk (i:Int),Za #[c0,c1,c2],c] w fun e N=>e=Zr (Zb (b9 op zU i k a))/\Bw w N:=by
 obtain⟨Q,U,X,xc,R,Y,yc,rfl,rfl,rfl⟩:=E.shape;have L:Q=Kd.sort k:=by have:=E.1;injection this
 subst L;have B:∀(j:Nat)(P:j<a.length)(t:Int)(q r:Option Addr)(u s n o:Nat),a8 S w (M+1) a[j] (Zi Zk t) (Zs q u s) (Zs r n o)->∀V,Bw w V->Calls prog 90 #[Za #[Zi Zk (Kd.sort k),Zs U X xc,Zs R Y yc],Za #[Zi Zk t,Zs q u s,Zs r n o]] V fun e N=>e=Zr (Zb (jA k a[j]))/\Bw V N:=by intro j P t q r u s n o d V A;exact rA M S k a[j] _ _ _ _ _ _ V (E.keep (a6 A v) fun _ h=>h) (d.keep (a6 A v) fun _ h=>h) (fun b p=>Zd (v b p) A.size) ok (D _ (List.getElem_mem P))
 rcases y with rfl|y
 ·have e:b9 24 zU i k a=true:=by simp[b9]
  rw[e];exact Gz _ _ _ _ _ _ _ c _ w
 simp only[BQ,List.mem_cons,Prod.mk.injEq,List.not_mem_nil,or_false]at y;rcases y with ⟨rfl,rfl⟩|⟨rfl,rfl⟩|⟨rfl,rfl⟩|⟨rfl,rfl⟩|⟨rfl,rfl⟩|⟨rfl,rfl⟩|⟨rfl,rfl⟩|⟨rfl,rfl⟩|⟨rfl,rfl⟩|⟨rfl,rfl⟩|⟨rfl,rfl⟩|⟨rfl,rfl⟩|⟨rfl,rfl⟩|⟨rfl,rfl⟩|⟨rfl,rfl⟩|⟨rfl,rfl⟩|⟨rfl,rfl⟩|⟨rfl,rfl⟩|⟨rfl,rfl⟩|⟨rfl,rfl⟩|⟨rfl,rfl⟩|⟨rfl,rfl⟩|⟨rfl,rfl⟩|⟨rfl,rfl⟩|⟨rfl,rfl⟩|⟨rfl,rfl⟩|⟨rfl,rfl⟩|⟨rfl,rfl⟩|⟨rfl,rfl⟩|⟨rfl,rfl⟩|⟨rfl,rfl⟩|⟨rfl,rfl⟩|⟨rfl,rfl⟩|⟨rfl,rfl⟩|⟨rfl,rfl⟩|⟨rfl,rfl⟩|⟨rfl,rfl⟩|⟨rfl,rfl⟩|⟨rfl,rfl⟩|⟨rfl,rfl⟩|⟨rfl,rfl⟩|⟨rfl,rfl⟩|⟨rfl,rfl⟩|⟨rfl,rfl⟩|⟨rfl,rfl⟩|⟨rfl,rfl⟩|⟨rfl,rfl⟩|⟨rfl,rfl⟩|⟨rfl,rfl⟩|⟨rfl,rfl⟩|⟨rfl,rfl⟩|⟨rfl,rfl⟩|⟨rfl,rfl⟩|⟨rfl,rfl⟩|⟨rfl,rfl⟩
 ·have e:b9 7 zU 0 k a=true:=by simp[b9]
  rw[e];exact oN 7 0 zS _ _ _ _ _ _ _ c w
 ·have e:b9 8 zU 0 k a=true:=by simp[b9]
  rw[e];exact oN 8 0 zS _ _ _ _ _ _ _ c w
 ·have e:b9 9 zU 0 k a=(Kd.sort k==1):=by simp[b9]
  rw[e];exact iA 9 0 1 zS _ _ _ _ _ _ _ c w
 ·have e:b9 9 zU 1 k a=(Kd.sort k==1):=by simp[b9]
  rw[e];exact iA 9 1 1 zS _ _ _ _ _ _ _ c w
 ·have e:b9 10 zU 0 k a=(Kd.sort k==1):=by simp[b9]
  rw[e];exact iA 10 0 1 zS _ _ _ _ _ _ _ c w
 ·have e:b9 10 zU 1 k a=(Kd.sort k==1):=by simp[b9]
  rw[e];exact iA 10 1 1 zS _ _ _ _ _ _ _ c w
 ·have e:b9 11 zU 0 k a=(Kd.sort k==1):=by simp[b9]
  rw[e];exact iA 11 0 1 zS _ _ _ _ _ _ _ c w
 ·have e:b9 11 zU 1 k a=(Kd.sort k==1):=by simp[b9]
  rw[e];exact iA 11 1 1 zS _ _ _ _ _ _ _ c w
 ·have e:b9 12 zU 0 k a=(Kd.sort k==1):=by simp[b9]
  rw[e];exact iA 12 0 1 zS _ _ _ _ _ _ _ c w
 ·have e:b9 12 zU 1 k a=(Kd.sort k==1):=by simp[b9]
  rw[e];exact iA 12 1 1 zS _ _ _ _ _ _ _ c w
 ·have e:b9 13 zU 0 k a=(Kd.sort k==1):=by simp[b9]
  rw[e];exact iA 13 0 1 zS _ _ _ _ _ _ _ c w
 ·have e:b9 13 zU 1 k a=(Kd.sort k==1):=by simp[b9]
  rw[e];exact iA 13 1 1 zS _ _ _ _ _ _ _ c w
 ·have e:b9 14 zU 0 k a=(Kd.sort k==1 || Kd.sort k==2):=by simp[b9]
  rw[e];exact Cn _ _ _ _ _ _ _ c w
 ·obtain⟨b,off,cap,t,q,r,u,s,n,o,rfl,p,l,m,g,d⟩:=jR z v 0 om;simp only[Nat.zero_mul,Nat.add_zero]at l m g;have f:a.getD 0 zU=a[0]'om:=by rw[List.getD_eq_getElem?_getD,List.getElem?_eq_getElem om,Option.getD_some]
  have e:b9 14 zU 1 k a=jA k (a[0]'om):=by simp only[b9,f];simp
  rw[e];exact wP _ (.inl rfl) _ _ _ _ _ _ _ w b off a.length cap t q r u s n o _ p om l m g (B 0 om _ _ _ _ _ _ _ d)
 ·have e:b9 15 zU 0 k a=true:=by simp[b9]
  rw[e];exact BE 15 0 zS _ _ _ _ _ _ _ c w
 ·obtain⟨b,off,cap,t,q,r,u,s,n,o,rfl,p,l,m,g,d⟩:=jR z v 0 om;simp only[Nat.zero_mul,Nat.add_zero]at l m g;have f:a.getD 0 zU=a[0]'om:=by rw[List.getD_eq_getElem?_getD,List.getElem?_eq_getElem om,Option.getD_some]
  have e:b9 15 zU 1 k a=jA k (a[0]'om):=by simp only[b9,f];simp
  rw[e];exact wP _ (.inr (.inl rfl)) _ _ _ _ _ _ _ w b off a.length cap t q r u s n o _ p om l m g (B 0 om _ _ _ _ _ _ _ d)
 ·have e:b9 16 zU 0 k a=(Kd.sort k==3):=by simp[b9]
  rw[e];exact iA 16 0 3 zS _ _ _ _ _ _ _ c w
 ·have e:b9 16 zU 1 k a=(Kd.sort k==3):=by simp[b9]
  rw[e];exact iA 16 1 3 zS _ _ _ _ _ _ _ c w
 ·have e:b9 17 zU 0 k a=(Kd.sort k==3):=by simp[b9]
  rw[e];exact iA 17 0 3 zS _ _ _ _ _ _ _ c w
 ·have e:b9 17 zU 1 k a=(Kd.sort k==3):=by simp[b9]
  rw[e];exact iA 17 1 3 zS _ _ _ _ _ _ _ c w
 ·have e:b9 18 zU 0 k a=(Kd.sort k==3):=by simp[b9]
  rw[e];exact iA 18 0 3 zS _ _ _ _ _ _ _ c w
 ·have e:b9 19 zU 0 k a=(Kd.sort k==3):=by simp[b9]
  rw[e];exact Cf 19 0 3 zS _ _ _ _ _ _ _ c w
 ·have e:b9 19 zU 1 k a=true:=by simp[b9]
  rw[e];exact BE 19 1 zS _ _ _ _ _ _ _ c w
 ·obtain⟨b,off,cap,t,q,r,u,s,n,o,rfl,p,l,m,g,d⟩:=jR z v 1 om;simp only[Nat.one_mul,Nat.add_assoc]at l m g;have f:a.getD 1 zU=a[1]'om:=by rw[List.getD_eq_getElem?_getD,List.getElem?_eq_getElem om,Option.getD_some]
  have e:b9 19 zU 2 k a=jA k (a[1]'om):=by simp only[b9,f];simp
  rw[e];exact wn _ (.inl rfl) _ _ _ _ _ _ _ w b off a.length cap t q r u s n o _ p om l m g (B 1 om _ _ _ _ _ _ _ d)
 ·have e:b9 20 zU 0 k a=true:=by simp[b9]
  rw[e];exact oN 20 0 zS _ _ _ _ _ _ _ c w
 ·have e:b9 20 zU 1 k a=true:=by simp[b9]
  rw[e];exact oN 20 1 zS _ _ _ _ _ _ _ c w
 ·have e:b9 21 zU 0 k a=(Kd.sort k==5):=by simp[b9]
  rw[e];exact iA 21 0 5 zS _ _ _ _ _ _ _ c w
 ·have e:b9 22 zU 0 k a=(Kd.sort k==5):=by simp[b9]
  rw[e];exact iA 22 0 5 zS _ _ _ _ _ _ _ c w
 ·have e:b9 22 zU 1 k a=true:=by simp[b9]
  rw[e];exact DE _ _ _ _ _ _ _ c w
 ·have e:b9 23 zU 0 k a=(Kd.sort k==5):=by simp[b9]
  rw[e];exact iA 23 0 5 zS _ _ _ _ _ _ _ c w
 ·have e:b9 25 zU 0 k a=(Kd.sort k==4):=by simp[b9]
  rw[e];exact BP 25 0 4 zS _ _ _ _ _ _ _ c w
 ·have e:b9 25 zU 1 k a=(Kd.sort k==1):=by simp[b9]
  rw[e];exact oK 25 1 1 zS _ _ _ _ _ _ _ c w
 ·have e:b9 26 zU 0 k a=(Kd.sort k==4 || Kd.sort k==2):=by simp[b9]
  rw[e];exact BK 26 0 zS _ _ _ _ _ _ _ c w
 ·have e:b9 27 zU 0 k a=(Kd.sort k==4 || Kd.sort k==2):=by simp[b9]
  rw[e];exact El _ _ _ _ _ _ _ c w
 ·obtain⟨b,off,cap,t,q,r,u,s,n,o,rfl,p,l,m,g,d⟩:=jR z v 0 om;simp only[Nat.zero_mul,Nat.add_zero]at l m g;have f:a.getD 0 zU=a[0]'om:=by rw[List.getD_eq_getElem?_getD,List.getElem?_eq_getElem om,Option.getD_some]
  have e:b9 27 zU 1 k a=jA k (a[0]'om):=by simp only[b9,f];simp
  rw[e];exact wP _ (.inr (.inr rfl)) _ _ _ _ _ _ _ w b off a.length cap t q r u s n o _ p om l m g (B 0 om _ _ _ _ _ _ _ d)
 ·have e:b9 28 zU 0 k a=(Kd.sort k==4 || Kd.sort k==2):=by simp[b9]
  rw[e];exact BK 28 0 zS _ _ _ _ _ _ _ c w
 ·have e:b9 28 zU 1 k a=(Kd.sort k==1):=by simp[b9]
  rw[e];exact oK 28 1 1 zS _ _ _ _ _ _ _ c w
 ·have e:b9 28 zU 2 k a=(Kd.sort k==1):=by simp[b9]
  rw[e];exact oK 28 2 1 zS _ _ _ _ _ _ _ c w
 ·have e:b9 29 zU 0 k a=(Kd.sort k==1):=by simp[b9]
  rw[e];exact iA 29 0 1 zS _ _ _ _ _ _ _ c w
 ·have e:b9 30 zU 0 k a=(Kd.sort k==2):=by simp[b9]
  rw[e];exact iA 30 0 2 zS _ _ _ _ _ _ _ c w
 ·have e:b9 31 zU 0 k a=(Kd.sort k==6):=by simp[b9]
  rw[e];exact BU 31 0 6 zS _ _ _ _ _ _ _ c w
 ·obtain⟨b,off,cap,t,q,r,u,s,n,o,rfl,p,l,m,g,d⟩:=jR z v 0 om;simp only[Nat.zero_mul,Nat.add_zero]at l m g;have f:a.getD 0 zU=a[0]'om:=by rw[List.getD_eq_getElem?_getD,List.getElem?_eq_getElem om,Option.getD_some]
  have O:=F rfl rfl;rw[f]at O;have oj:=D _ (List.getElem_mem (show 0<a.length by omega));obtain⟨b2,C,v0,Z,wa,W,T,wl,wc,rfl,G,H,f0,f1,f2,I,J⟩:=kQ d v (.inl O) oj;have e:b9 31 zU 1 k a=jA k (mN (a[0]'om)):=by simp only[b9,f];simp
  rw[e];refine Cq _ _ _ _ _ _ _ w b off a.length cap v0 Z wa W T wl wc _ p om b2 C n o H G g f0 f1 f2 fun V A=>?_;exact rA M S k _ _ _ _ _ _ _ V (E.keep (a6 A v) fun _ h=>h) (I.keep (a6 A v) fun _ h=>h) (fun b p=>Zd (v b p) A.size) ok J
 ·have e:b9 32 zU 0 k a=(Kd.sort k==6):=by simp[b9]
  rw[e];exact BU 32 0 6 zS _ _ _ _ _ _ _ c w
 ·have e:b9 32 zU 1 k a=true:=by simp[b9]
  rw[e];exact B2 32 1 zS _ _ _ _ _ _ _ c w
 ·obtain⟨b,off,cap,t,q,r,u,s,n,o,rfl,p,l,m,g,d⟩:=jR z v 1 om;simp only[Nat.one_mul,Nat.add_assoc]at l m g;have f:a.getD 1 zU=a[1]'om:=by rw[List.getD_eq_getElem?_getD,List.getElem?_eq_getElem om,Option.getD_some]
  have e:b9 32 zU 2 k a=jA k (a[1]'om):=by simp only[b9,f];simp
  rw[e];exact wn _ (.inr (.inl rfl)) _ _ _ _ _ _ _ w b off a.length cap t q r u s n o _ p om l m g (B 1 om _ _ _ _ _ _ _ d)
 ·have e:b9 33 zU 0 k a=(Kd.sort k==4):=by simp[b9]
  rw[e];exact oK 33 0 4 zS _ _ _ _ _ _ _ c w
 ·have e:b9 33 zU 1 k a=true:=by simp[b9]
  rw[e];exact oN 33 1 zS _ _ _ _ _ _ _ c w
 ·have e:b9 34 zU 0 k a=(Kd.sort k==4):=by simp[b9]
  rw[e];exact BP 34 0 4 zS _ _ _ _ _ _ _ c w
 ·have e:b9 34 zU 1 k a=(Kd.sort k==3):=by simp[b9]
  rw[e];exact oK 34 1 3 zS _ _ _ _ _ _ _ c w
 ·have e:b9 35 zU 0 k a=(Kd.sort k==4):=by simp[b9]
  rw[e];exact Eb _ _ _ _ _ _ _ c w
 ·have e:b9 35 zU 1 k a=true:=by simp[b9]
  rw[e];exact B2 35 1 zS _ _ _ _ _ _ _ c w
 ·obtain⟨b,off,cap,t,q,r,u,s,n,o,rfl,p,l,m,g,d⟩:=jR z v 1 om;simp only[Nat.one_mul,Nat.add_assoc]at l m g;have f:a.getD 1 zU=a[1]'om:=by rw[List.getD_eq_getElem?_getD,List.getElem?_eq_getElem om,Option.getD_some]
  have e:b9 35 zU 2 k a=jA k (a[1]'om):=by simp only[b9,f];simp
  rw[e];exact wn _ (.inr (.inr rfl)) _ _ _ _ _ _ _ w b off a.length cap t q r u s n o _ p om l m g (B 1 om _ _ _ _ _ _ _ d)
 ·have e:b9 41 zU 0 k a=(Kd.sort k==3):=by simp[b9]
  rw[e];exact Cf 41 0 3 zS _ _ _ _ _ _ _ c w
 ·have e:b9 42 zU 0 k a=true:=by simp[b9]
  rw[e];exact oN 42 0 zS _ _ _ _ _ _ _ c w
 ·have e:b9 43 zU 0 k a=(Kd.sort k==4):=by simp[b9]
  rw[e];exact oK 43 0 4 zS _ _ _ _ _ _ _ c w
structure iF(S:Nat->Prop)(X n:Nat)(w wr:Zw)(so:Int)(ns:List ByteArray)(ks:List (K n))(nv kv:Zv):Prop where
 near:b7 X w wr
 box:wr.heap[X]?=Zo (Zc #[Zi Zk so,nv,kv] 31 (0,0))
 names:wr.ownsRow w.heap.size 9 1 nv ns.length (ns.map Zt)
 short:∀s,s∈ns->s.size<=10000
 kids:∃xs,wr.ownsRow w.heap.size 31 3 kv ks.length xs/\∀j (h:j<ks.length),∃c0 c1 c2,(xs[j*3]?=Zo c0/\xs[j*3+1]?=Zo c1/\xs[j*3+2]?=Zo c2)/\a8 S wr n ks[j] c0 c1 c2
 apart:∀b,nv.ownBlock=Zo b->kv.ownBlock≠Zo b
theorem iF.lt{a:List (K n)}(h:iF S X n w wr so ns a nv kv):X<wr.heap.size:=(Array.getElem?_eq_some_iff.1 h.box).1
theorem iF.drewN{a:List (K n)}(h:iF S X n w wr so ns a nv kv)(q:Nat):iF S X n w (wr.drewN q) so ns a nv kv:=by obtain⟨g,c,e⟩:=h.kids;refine⟨⟨h.near.os,h.near.tape,h.near.output,h.near.size,h.near.block⟩,h.box,gg h.names fun _ _=>rfl,h.short,⟨g,gg c fun _ _=>rfl,fun j f=>?_⟩,h.apart⟩;obtain⟨c0,c1,c2,d,b⟩:=e j f;exact⟨c0,c1,c2,d,a8.keep (w:=wr) (w':=wr.drewN q) (fun _ _=>rfl) (fun _ h=>h) b⟩
theorem iF.name {D:List (K n)} {x:ByteArray} (h:iF S X n w W so ns D nv kv) (F:∀ b,S b->b<w.heap.size/\b≠X) (O:X<w.heap.size)
  (z:Wa.heap=W.heap.push one) (B:Wa.os=W.os/\Wa.tape=W.tape/\Wa.output=W.output) (I:x.size<=10000)
  (d:W2.ownsRow w.heap.size 9 1 (Zs (Zo ⟨g,0,Zn⟩) (ns.length+1) cap) (ns.length+1) (ns.map Zt++[Zt x])) (a:Wa.grownBy W2 nv.ownBlock) (u:nv.ownBlock=Zo g∨g=W.heap.size+1) :
  iF S X n w (W2.setCell ⟨X,1,Zn⟩ (Zs (Zo ⟨g,0,Zn⟩) (ns.length+1) cap)) so (ns++[x]) D (Zs (Zo ⟨g,0,Zn⟩) (ns.length+1) cap) kv:=by
 have L:=h.lt;have Q:W2.heap.size ≥ W.heap.size+1:=by have:=a.size;rw[z]at this;simp at this;omega
 have l:=fR h.names;have G:=fR d g rfl;have P:=h.near.size;have q:∀b,b<W.heap.size->nv.ownBlock≠Zo b->W2.heap[b]?=W.heap[b]?:=fun b c v=>by rw[a.block b (by rw[z];simp;omega) (fun e=>v e.symm),z,Array.getElem?_push_lt c,Array.getElem?_eq_getElem c]
 have t:∀b,b≠X->(W2.setCell ⟨X,1,Zn⟩ (Zs (Zo ⟨g,0,Zn⟩) (ns.length+1) cap)).heap[b]?=W2.heap[b]?:=fun b c=>Below.heap_setCell _ _ _ _ c;have y:(W2.setCell ⟨X,1,Zn⟩ (Zs (Zo ⟨g,0,Zn⟩) (ns.length+1) cap)).heap.size=W2.heap.size:=zS;have A:nv.ownBlock≠Zo X:=fun e=>by have:=l X e;omega
 have m:=(q X L A).trans h.box;obtain⟨M,r,N⟩:=h.kids;have p:=fR r;refine⟨⟨?_,?_,?_,by rw[y];omega,fun b c i=>?_⟩,?_,?_,?_,⟨M,gg r fun k f=>?_,fun j J=>?_⟩,fun b c=>?_⟩;·show W2.os=w.os;rw[a.os,B.1];exact h.near.os
 ·show W2.tape=w.tape;rw[a.tape,B.2.1];exact h.near.tape
 ·show W2.output=w.output;rw[a.output,B.2.2];exact h.near.output
 ·rw[t b i,q b om (fun e=>by have:=l b e;omega)];exact h.near.block b c i
 ·simp[World.setCell,Array.getElem?_modify,m]
 ·rw[List.length_append,List.length_singleton,List.map_append,List.map_singleton];exact gg d fun k f=>t k (by have:=fR d k f;omega)
 ·intro s o;rcases List.mem_append.1 o with o|o;·exact h.short s o
  ·rw[List.mem_singleton]at o;subst o;exact I
 ·have:=p k f;rw[t k om,q k this.2 (fun e=>h.apart k e f)]
 ·obtain⟨c0,c1,c2,E,H⟩:=N j J;refine⟨c0,c1,c2,E,H.keep (fun b c=>?_) (fun b c=>c)⟩;have:=F b c;rw[t b this.2,q b om (fun e=>by have:=l b e;omega)]
 ·have c:g=b:=by simpa [Value.ownBlock] using c
  subst c;rcases u with C|C;·exact h.apart g C
  ·intro e;have:=p g e;omega
theorem iF.kid {c:List (K n)} {t:K n} (h:iF S X n w W so ns c nv kv) (Q:∀ b,S b->b<w.heap.size/\b≠X) (aa:X<w.heap.size)
  (T:a8 S W n t c0 c1 c2)
  (J:Wa.heap=W.heap.push one) (E:Wa.os=W.os/\Wa.tape=W.tape/\Wa.output=W.output) {xs:List Zv}
  (A:W.ownsRow w.heap.size 31 3 kv c.length xs) (hk:∀j (h:j<c.length),∃c0 c1 c2,(xs[j*3]?=Zo c0/\xs[j*3+1]?=Zo c1/\xs[j*3+2]?=Zo c2)/\a8 S W n c[j] c0 c1 c2)
  (f:W2.ownsRow w.heap.size 31 3 (Zs (Zo ⟨g,0,Zn⟩) (c.length+1) cap) (c.length+1) (xs++[c0,c1,c2])) (a:Wa.grownBy W2 kv.ownBlock) (G:kv.ownBlock=Zo g∨g=W.heap.size+1) :
  iF S X n w (W2.setCell ⟨X,2,Zn⟩ (Zs (Zo ⟨g,0,Zn⟩) (c.length+1) cap)) so ns (c++[t]) nv (Zs (Zo ⟨g,0,Zn⟩) (c.length+1) cap):=by
 have Y:=h.lt;have hz:W2.heap.size ≥ W.heap.size+1:=by have:=a.size;rw[J]at this;simp at this;omega
 have B:=fR h.names;have s:=fR A;have R:=fR f g rfl;have ab:=h.near.size;have q:∀b,b<W.heap.size->kv.ownBlock≠Zo b->W2.heap[b]?=W.heap[b]?:=fun b l H=>by rw[a.block b (by rw[J];simp;omega) (fun e=>H e.symm),J,Array.getElem?_push_lt l,Array.getElem?_eq_getElem l]
 have F:∀b,b≠X->(W2.setCell ⟨X,2,Zn⟩ (Zs (Zo ⟨g,0,Zn⟩) (c.length+1) cap)).heap[b]?=W2.heap[b]?:=fun b l=>Below.heap_setCell _ _ _ _ l;have I:(W2.setCell ⟨X,2,Zn⟩ (Zs (Zo ⟨g,0,Zn⟩) (c.length+1) cap)).heap.size=W2.heap.size:=zS;have N:kv.ownBlock≠Zo X:=fun e=>by have:=s X e;omega
 have u:=(q X Y N).trans h.box;have L:xs.length=c.length*3:=A.1;have i:∀ {x:K n} {C z y:Zv},a8 S W n x C z y->a8 S (W2.setCell ⟨X,2,Zn⟩ (Zs (Zo ⟨g,0,Zn⟩) (c.length+1) cap)) n x C z y:=by intro x C z y O;refine O.keep (fun b l=>?_) (fun _ h=>h);have:=Q b l;rw[F b this.2,q b om (fun e=>by have:=s b e;omega)]
 refine⟨⟨?_,?_,?_,by rw[I];omega,fun b l p=>?_⟩,?_,gg h.names fun r m=>?_,h.short,⟨xs++[c0,c1,c2],?_,fun j V=>?_⟩,fun b l=>?_⟩;·show W2.os=w.os;rw[a.os,E.1];exact h.near.os
 ·show W2.tape=w.tape;rw[a.tape,E.2.1];exact h.near.tape
 ·show W2.output=w.output;rw[a.output,E.2.2];exact h.near.output
 ·rw[F b p,q b om (fun e=>by have:=s b e;omega)];exact h.near.block b l p
 ·simp[World.setCell,Array.getElem?_modify,u]
 ·have:=B r m;rw[F r om,q r this.2 (h.apart r m)]
 ·rw[List.length_append,List.length_singleton];exact gg f fun r m=>F r (by have:=fR f r m;omega)
 ·by_cases D:j<c.length
  ·obtain⟨C,z,y,⟨U,e1,Z⟩,O⟩:=hk j D;have d:∀o v,o<3->xs[j*3+o]?=Zo v->(xs++[c0,c1,c2])[j*3+o]?=Zo v:=fun o v E h=>by rw[List.getElem?_append_left om];exact h
   refine⟨C,z,y,⟨d 0 _ om U,d 1 _ om e1,d 2 _ om Z⟩,?_⟩;rw[List.getElem_append_left D];exact i O
  ·have M:j=c.length:=by simp at V;omega
   subst M;have k:∀o v,o<3->[c0,c1,c2][o]?=Zo v->(xs++[c0,c1,c2])[c.length*3+o]?=Zo v:=fun o v E h=>by rw[List.getElem?_append_right om,L,Nat.add_sub_cancel_left];exact h
   refine⟨c0,c1,c2,⟨k 0 _ om rfl,k 1 _ om rfl,k 2 _ om rfl⟩,?_⟩;have:(c++[t])[c.length]=t:=zS;rw[this];exact i T
 ·intro e;have e:g=b:=by simpa [Value.ownBlock] using e
  subst e;rcases G with P|P;·exact h.apart g l P
  ·have:=B g l;omega
theorem iF.start(h:w.heap[X]?=Zo (Zc #[Zi Zk so,Zs Zn 0 0,Zs Zn 0 0] 31 (0,0))):iF S X m w w so [] [] (Zs Zn 0 0) (Zs Zn 0 0):=
 ⟨b7.refl _ _,h,World.ownsRow_nil _ _ _ _,fun _ h=>(by cases h),⟨[],World.ownsRow_nil _ _ _ _,fun j h=>absurd h (Nat.not_lt_zero _)⟩,fun b a=>by cases a⟩
theorem iF.kind {B:Nat} {o:List (K m)} (h:iF S X m w wr so ns o nv kv) (k:(Lit.int Zk so).wf=true) (l:∀ b,w.heap.size<=b∨S b->W.heap[b]?=wr.heap[b]?) (t:wr.heap.size<=W.heap.size) (q:ns.length<=20000) (p:o.length<=20000) (u:B<=w.heap.size) :
  a8 (Ov S B Zn W) W (m+1) (⟨so,ns,o⟩:Kd (K m)) (Zi Zk so) nv kv:=by
 obtain⟨v,c,f⟩:=h.kids;have d:=fR h.names;have e:=fR c;refine⟨rfl,k,?_,?_⟩;·refine jt (gg h.names fun g a=>l g (.inl (by have:=d g a;omega))) q h.short fun g a=>?_;have:=d g a;exact .inr ⟨om,om,zS⟩
 ·refine kt (gg c fun g a=>l g (.inl (by have:=e g a;omega))) p (fun g a=>?_) fun j r=>?_;·have:=e g a;exact .inr ⟨om,om,zS⟩
  ·obtain⟨c0,c1,c2,s,i⟩:=f j r;exact⟨c0,c1,c2,s,i.keep (fun b n=>l b (.inr n)) (fun b n=>.inl n)⟩
end Go.Proofs.YtcfojmaccikgeaaGreatDoor
