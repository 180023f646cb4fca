import Derived.Test.YtcfojmaccikgeaaGreatDoorB29
open Go.Value renaming slice→Zs,int→Zi,string→Zt,agg→Za,bool→Zb
open Go.IntKind renaming i64→Zk
open Go.Ending renaming returned→Zr
open Go.Obj renaming cells→Zc
open Option renaming none→Zn,some→Zo
open Go renaming World→Zw,Value→Zv
open Nat renaming lt_of_lt_of_le→Zd
namespace Go.Proofs.YtcfojmaccikgeaaGreatDoor
open Go.RowKit Go.Proofs.Tryz
set_option maxRecDepth 100000
set_option maxHeartbeats 16000000
variable {S:ZP} {w wr W Wa W2:Zw} {n m M X g cap:Nat} {c0 c1 c2 nv kv:Zv} {so:Int} {ns:List ZN} {one:Obj}
def rf(S:ZP)(n:Nat)(k:K n)(w:Zw)(e:Ending)(w':Zw):Prop:=
 Bw w w' /\ ∃c0 c1 c2,e=Zr (Za #[c0,c1,c2])/\a8 (Ov S w.heap.size Zn w') w' n k c0 c1 c2
theorem yR{s:Int}(h:(Lit.int Zk s).wf=true):a8 S w (n+1) (⟨s,[],[]⟩:Kd (K n)) (Zi Zk s) (Zs Zn 0 0) (Zs Zn 0 0):=
 ⟨rfl,h,⟨Zn,0,rfl,by simp[maxLen],fun s h=>(by cases h),fun h=>absurd rfl h⟩,⟨Zn,0,rfl,by simp[maxLen],fun h=>absurd rfl h⟩⟩
theorem H8 {x:Int} {t:K m} {b c:Nat} (j:(Lit.int Zk x).wf=true) (f:S b) (a:w.cell? ⟨b,0,Zn⟩=Zo c0) (d:w.cell? ⟨b,1,Zn⟩=Zo c1) (e:w.cell? ⟨b,2,Zn⟩=Zo c2) (g:a8 S w m t c0 c1 c2) :
  a8 S w (m+1) (⟨x,[],[t]⟩:Kd (K m)) (Zi Zk x) (Zs Zn 0 0) (Zs (Zo ⟨b,0,Zn⟩) 1 c):=by
 refine⟨rfl,j,⟨Zn,0,rfl,by simp[maxLen],fun s h=>(by cases h),fun h=>absurd rfl h⟩,⟨Zo ⟨b,0,Zn⟩,c,rfl,by simp[maxLen],fun _=>⟨b,0,rfl,f,fun i hi=>?_⟩⟩⟩;have:i=0:=by simpa using hi
 subst this;exact⟨c0,c1,c2,by simpa using a,by simpa using d,by simpa using e,g⟩
theorem vD(s:Int)(w:Zw):Calls prog 102 #[Zi Zk s] w fun e b=>e=Zr (Za #[Zi Zk s,Zs Zn 0 0,Zs Zn 0 0])/\Bw w b:=by have a:Hid (∀o:Obj,Bw w (w.alloc o)):=fun o=>gx _ o;go_in;go_wp2_with fail;refine bodyPost_ret (v:=Za #[Zi Zk s,Zs Zn 0 0,Zs Zn 0 0]) (by simp[results,results102,go_sem]) rfl ?_;exact⟨rfl,a.out _⟩
theorem kz (n:Nat) (S:ZP) (s:Int) (k:K n) (c0 c1 c2:Zv) (w:Zw) (r:(Lit.int Zk s).wf=true) (o:a8 S w n k c0 c1 c2) (q:Bd S w) :
  Calls prog 104 #[Zi Zk s,Za #[c0,c1,c2]] w (rf S (n+1) (⟨s,[],[k]⟩:Kd (K n)) w):=by
 obtain⟨d,e,g,f,h,j,i,rfl,rfl,rfl⟩:=o.shape;obtain⟨l,a⟩:=ii (((w.alloc (Zc #[Zi Zk d,Zs e g f,Zs h j i] 31)).alloc (Zc #[Zi Zk s,Zs Zn 0 0,Zs (Zo ⟨w.heap.size+1+1,0,Zn⟩) 1 1] 31)).alloc (Zc #[Zi Zk d,Zs e g f,Zs h j i] 31));have c:Bw w l:=by rw[a];exact ((gx _ _).alloc zS _).alloc zE _
 have p:l.heap.size=w.heap.size+3:=by rw[a];simp
 have m:j8 l (w.heap.size+2) (Zi Zk d) (Zs e g f) (Zs h j i):=by have:=j8.new ((w.alloc (Zc #[Zi Zk d,Zs e g f,Zs h j i] 31)).alloc (Zc #[Zi Zk s,Zs Zn 0 0,Zs (Zo ⟨w.heap.size+1+1,0,Zn⟩) 1 1] 31)) (Zi Zk d) (Zs e g f) (Zs h j i) 31;rw[<- a]at this;simpa using this
 have t:Hid (rf S (n+1) (⟨s,[],[k]⟩:Kd (K n)) w (Zr (Za #[Zi Zk s,Zs Zn 0 0,Zs (Zo ⟨w.heap.size+1+1,0,Zn⟩) 1 1])) l):=
  ⟨c,_,_,_,rfl,H8 r (.inr ⟨om,om,zS⟩) m.c0 m.c1 m.c2 (o.keep (a6 c q) fun b u=>.inl u)⟩
 clear o q c p m r;go_in;go_wp2_with fail;refine bodyPost_ret (v:=Za #[Zi Zk s,Zs Zn 0 0,Zs (Zo ⟨w.heap.size+1+1,0,Zn⟩) 1 1]) (by simp[results,results104,go_sem]) rfl ?_;rw[<- a];exact t.out
theorem pW (S:ZP) (a:List ZN) (r:Zv) (x:ZN) (w:Zw) (t:fL S w a r) (B:a.length<=1048576) :
  Calls prog 105 #[r,Zt x] w fun e u=>((∃i,∃h:i<a.length,a[i]=x/\e=Zr (Zi Zk (i:Int)))∨(x ∉ a/\e=Zr (Zi Zk (-1))))/\u=w:=by
 obtain⟨v,cap,rfl,-,-,n⟩:=t;go_in;go_wp2;go_loopw [5] (fun o wr=>∃j:Nat,j<=a.length/\o=Zi Zk j/\(∀i (h:i<a.length),i<j->a[i]≠x)/\wr=w) (fun o _=>a.length-(intOf o).toNat);case atStart=>exact⟨0,Nat.zero_le _,rfl,fun i _ h=>absurd h (Nat.not_lt_zero _),rfl⟩
 case round=>
  obtain⟨j,A,rfl,l,rfl⟩:=hrel;have p:=Lib.hid l;clear l;by_cases d:j<a.length
  ·obtain⟨b,off,rfl,z,c⟩:=n (by intro h;rw[h]at d;simp at d);have f:=c j d;clear n c;by_cases g:a[j]=x;·have k:=Lib.hid (⟨j,d,g,rfl⟩:∃i,∃h:i<a.length,a[i]=x/\Ending.returned (Zi Zk (j:Int))=Zr (Zi Zk (i:Int)));rw[g]at f;have m:(x.toList==x.toList)=true:=zS;clear g;go_wp2;go_ret;exact⟨.inl k.out,rfl⟩
   ·have m:(a[j].toList==x.toList)=false:=by rw[beq_eq_false_iff_ne];intro e;exact g (by rw[ByteArray.toList_eq,ByteArray.toList_eq]at e;exact WideShapes.bytes_inj e)
    have k:=Lib.hid g;generalize q:a[j]=y at *;have s:=Lib.hid q;clear g q;go_wp2;go_roundw;case rel=>exact⟨j+1,om,by go_num,fun i h hi=>(by
     by_cases e:i=j
     ·subst e;rw[s.out];exact k.out
     ·exact p.out i h om),by first|rfl|trivial⟩
    case measure=>simp[intOf];omega
  ·have k:Hid (x ∉ a):=by intro h;obtain⟨i,hi,e⟩:=List.getElem_of_mem h;exact p.out i hi om e
   clear n;go_wp2;go_ret;exact⟨.inr ⟨k.out,rfl⟩,rfl⟩
theorem iB (op pl a:Int) (c:(op=9/\pl=0/\a=1)∨(op=9/\pl=1/\a=1)∨(op=10/\pl=0/\a=1)∨(op=10/\pl=1/\a=1)∨(op=11/\pl=0/\a=1)∨(op=11/\pl=1/\a=1)∨(op=12/\pl=0/\a=1)∨(op=12/\pl=1/\a=1)∨(op=13/\pl=0/\a=1)∨(op=13/\pl=1/\a=1)∨(op=29/\pl=0/\a=1)∨(op=30/\pl=0/\a=2)∨(op=16/\pl=0/\a=3)∨(op=16/\pl=1/\a=3)∨(op=17/\pl=0/\a=3)∨(op=17/\pl=1/\a=3)∨(op=18/\pl=0/\a=3)∨(op=21/\pl=0/\a=5)∨(op=22/\pl=0/\a=5)∨(op=23/\pl=0/\a=5)) (s:Int) (d h:ZO) (g f j i:Nat) (k:Zv) (w:Zw) :
  Calls prog 76 #[Zi Zk op,Zi Zk pl,Za #[Zi Zk s,Zs d g f,Zs h j i],k] w fun e l=>e=Zr (Zb (s==a))/\Bw w l:=by
 rcases c with ⟨rfl,rfl,rfl⟩|⟨rfl,rfl,rfl⟩|⟨rfl,rfl,rfl⟩|⟨rfl,rfl,rfl⟩|⟨rfl,rfl,rfl⟩|⟨rfl,rfl,rfl⟩|⟨rfl,rfl,rfl⟩|⟨rfl,rfl,rfl⟩|⟨rfl,rfl,rfl⟩|⟨rfl,rfl,rfl⟩|⟨rfl,rfl,rfl⟩|⟨rfl,rfl,rfl⟩|⟨rfl,rfl,rfl⟩|⟨rfl,rfl,rfl⟩|⟨rfl,rfl,rfl⟩|⟨rfl,rfl,rfl⟩|⟨rfl,rfl,rfl⟩|⟨rfl,rfl,rfl⟩|⟨rfl,rfl,rfl⟩|⟨rfl,rfl,rfl⟩;all_goals
  have m:Hid (∀q,Bw w ((w.alloc (Zc #[Zi Zk s,Zs d g f,Zs h j i] 31)).drewN q)):=fun q=>below_drewN (gx _ _) q
  have b:Hid (Bw w (w.alloc (Zc #[Zi Zk s,Zs d g f,Zs h j i] 31))):=gx _ _
  go_in
  go_wp2
  go_ret
  exact⟨rfl,b.out⟩
theorem Ew (s:Int) (b f:ZO) (d c h g:Nat) (l:Zv) (w:Zw) :
  Calls prog 76 #[Zi Zk 14,Zi Zk 0,Za #[Zi Zk s,Zs b d c,Zs f h g],l] w fun e o=>e=Zr (Zb (s==1 || s==2))/\Bw w o:=by
 have a:Hid (∀q,Bw w ((w.alloc (Zc #[Zi Zk s,Zs b d c,Zs f h g] 31)).drewN q)):=fun q=>below_drewN (gx _ _) q;have k:Hid (Bw w (w.alloc (Zc #[Zi Zk s,Zs b d c,Zs f h g] 31))):=gx _ _;by_cases i:s=1;·subst i;go_in;go_wp2_with fail;go_quiet (fail);go_wp2;go_ret;exact⟨gb zS,a.out _⟩
 ·have m:(s==1)=false:=by simpa using i
  by_cases j:s=2;·subst j;go_in;go_wp2_with fail;go_quiet (fail);go_wp2;go_ret;exact⟨gb zS,a.out _⟩
  ·have n:(s==2)=false:=by simpa using j
   go_in;go_wp2_with fail;go_quiet (fail);go_wp2;go_ret;exact⟨gb (by simp[m,n]),a.out _⟩
theorem Cw (op pl:Int) (a:(op=15/\pl=0)∨(op=19/\pl=1)) (s:Int) (b f:ZO) (d c h g:Nat) (k:Zv) (w:Zw) :
  Calls prog 76 #[Zi Zk op,Zi Zk pl,Za #[Zi Zk s,Zs b d c,Zs f h g],k] w fun e l=>e=Zr (Zb true)/\Bw w l:=by
 rcases a with ⟨rfl,rfl⟩|⟨rfl,rfl⟩;all_goals
  have i:Hid (∀q,Bw w ((w.alloc (Zc #[Zi Zk s,Zs b d c,Zs f h g] 31)).drewN q)):=fun q=>below_drewN (gx _ _) q
  have j:Hid (Bw w (w.alloc (Zc #[Zi Zk s,Zs b d c,Zs f h g] 31))):=gx _ _
  go_in
  go_wp2_with fail
  go_quiet (fail)
  go_wp2
  go_ret
  exact⟨gb (by simp[]),i.out _⟩
theorem Cx (op pl b:Int) (a:(op=19/\pl=0/\b=3)∨(op=41/\pl=0/\b=3)) (s:Int) (c g:ZO) (f d i h:Nat) (m:Zv) (w:Zw) :
  Calls prog 76 #[Zi Zk op,Zi Zk pl,Za #[Zi Zk s,Zs c f d,Zs g i h],m] w fun e o=>e=Zr (Zb (s==b))/\Bw w o:=by
 rcases a with ⟨rfl,rfl,rfl⟩|⟨rfl,rfl,rfl⟩;all_goals
  have j:Hid (∀q,Bw w ((w.alloc (Zc #[Zi Zk s,Zs c f d,Zs g i h] 31)).drewN q)):=fun q=>below_drewN (gx _ _) q
  have l:Hid (Bw w (w.alloc (Zc #[Zi Zk s,Zs c f d,Zs g i h] 31))):=gx _ _
  by_cases k:s=3
  ·subst k
   go_in
   go_wp2_with fail
   go_quiet (fail)
   go_wp2
   go_ret
   exact⟨gb zS,j.out _⟩
  ·have n:(s==3)=false:=by simpa using k
   go_in
   go_wp2_with fail
   go_quiet (fail)
   go_wp2
   go_ret
   exact⟨gb (by simp[n]),j.out _⟩
theorem Ex (s:Int) (b f:ZO) (d c h g:Nat) (i:Zv) (w:Zw) :
  Calls prog 76 #[Zi Zk 22,Zi Zk 1,Za #[Zi Zk s,Zs b d c,Zs f h g],i] w fun e j=>e=Zr (Zb true)/\Bw w j:=by have k:Hid (∀q,Bw w ((w.alloc (Zc #[Zi Zk s,Zs b d c,Zs f h g] 31)).drewN q)):=fun q=>below_drewN (gx _ _) q;have a:Hid (Bw w (w.alloc (Zc #[Zi Zk s,Zs b d c,Zs f h g] 31))):=gx _ _;go_in;go_wp2;go_ret;exact⟨rfl,a.out⟩
theorem Cy (op pl c:Int) (b:(op=25/\pl=0/\c=4)∨(op=34/\pl=0/\c=4)) (s:Int) (d h:ZO) (g f j i:Nat) (l:Zv) (w:Zw) :
  Calls prog 76 #[Zi Zk op,Zi Zk pl,Za #[Zi Zk s,Zs d g f,Zs h j i],l] w fun e n=>e=Zr (Zb (s==c))/\Bw w n:=by
 rcases b with ⟨rfl,rfl,rfl⟩|⟨rfl,rfl,rfl⟩;all_goals
  have o:Hid (∀q,Bw w ((w.alloc (Zc #[Zi Zk s,Zs d g f,Zs h j i] 31)).drewN q)):=fun q=>below_drewN (gx _ _) q
  have a:Hid (Bw w (w.alloc (Zc #[Zi Zk s,Zs d g f,Zs h j i] 31))):=gx _ _
  by_cases k:s=4
  ·subst k
   go_in
   go_wp2
   go_ret
   exact⟨gb zS,a.out⟩
  ·have m:(s==4)=false:=by simpa using k
   go_in
   go_wp2
   go_ret
   exact⟨gb (by simp[m]),a.out⟩
theorem oX (op pl a:Int) (c:(op=25/\pl=1/\a=1)∨(op=28/\pl=1/\a=1)∨(op=28/\pl=2/\a=1)∨(op=33/\pl=0/\a=4)∨(op=43/\pl=0/\a=4)∨(op=34/\pl=1/\a=3)) (s:Int) (d h:ZO) (g f j i:Nat) (k:Zv) (w:Zw) :
  Calls prog 76 #[Zi Zk op,Zi Zk pl,Za #[Zi Zk s,Zs d g f,Zs h j i],k] w fun e l=>e=Zr (Zb (s==a))/\Bw w l:=by
 rcases c with ⟨rfl,rfl,rfl⟩|⟨rfl,rfl,rfl⟩|⟨rfl,rfl,rfl⟩|⟨rfl,rfl,rfl⟩|⟨rfl,rfl,rfl⟩|⟨rfl,rfl,rfl⟩;all_goals
  have m:Hid (∀q,Bw w ((w.alloc (Zc #[Zi Zk s,Zs d g f,Zs h j i] 31)).drewN q)):=fun q=>below_drewN (gx _ _) q
  have b:Hid (Bw w (w.alloc (Zc #[Zi Zk s,Zs d g f,Zs h j i] 31))):=gx _ _
  go_in
  go_wp2
  go_ret
  exact⟨rfl,b.out⟩
theorem Cz (op pl:Int) (b:(op=26/\pl=0)∨(op=28/\pl=0)) (s:Int) (c g:ZO) (f d i h:Nat) (l:Zv) (w:Zw) :
  Calls prog 76 #[Zi Zk op,Zi Zk pl,Za #[Zi Zk s,Zs c f d,Zs g i h],l] w fun e o=>e=Zr (Zb (s==4 || s==2))/\Bw w o:=by
 rcases b with ⟨rfl,rfl⟩|⟨rfl,rfl⟩;all_goals
  have p:Hid (∀q,Bw w ((w.alloc (Zc #[Zi Zk s,Zs c f d,Zs g i h] 31)).drewN q)):=fun q=>below_drewN (gx _ _) q
  have a:Hid (Bw w (w.alloc (Zc #[Zi Zk s,Zs c f d,Zs g i h] 31))):=gx _ _
  by_cases k:s=4
  ·subst k
   go_in
   go_wp2
   go_ret
   exact⟨gb zS,a.out⟩
  ·have n:(s==4)=false:=by simpa using k
   by_cases j:s=2
   ·subst j
    go_in
    go_wp2
    go_ret
    exact⟨gb zS,a.out⟩
   ·have m:(s==2)=false:=by simpa using j
    go_in
    go_wp2
    go_ret
    exact⟨gb (by simp[n,m]),a.out⟩
theorem Ey (s:Int) (b f:ZO) (d c h g:Nat) (l:Zv) (w:Zw) :
  Calls prog 76 #[Zi Zk 27,Zi Zk 0,Za #[Zi Zk s,Zs b d c,Zs f h g],l] w fun e o=>e=Zr (Zb (s==4 || s==2))/\Bw w o:=by
 have a:Hid (∀q,Bw w ((w.alloc (Zc #[Zi Zk s,Zs b d c,Zs f h g] 31)).drewN q)):=fun q=>below_drewN (gx _ _) q;have k:Hid (Bw w (w.alloc (Zc #[Zi Zk s,Zs b d c,Zs f h g] 31))):=gx _ _;by_cases j:s=4;·subst j;go_in;go_wp2_with fail;go_quiet (fail);go_wp2;go_ret;exact⟨gb zS,a.out _⟩
 ·have n:(s==4)=false:=by simpa using j
  by_cases i:s=2;·subst i;go_in;go_wp2_with fail;go_quiet (fail);go_wp2;go_ret;exact⟨gb zS,a.out _⟩
  ·have m:(s==2)=false:=by simpa using i
   go_in;go_wp2_with fail;go_quiet (fail);go_wp2;go_ret;exact⟨gb (by simp[n,m]),a.out _⟩
theorem CA (op pl b:Int) (a:(op=31/\pl=0/\b=6)∨(op=32/\pl=0/\b=6)) (s:Int) (c g:ZO) (f d i h:Nat) (m:Zv) (w:Zw) :
  Calls prog 76 #[Zi Zk op,Zi Zk pl,Za #[Zi Zk s,Zs c f d,Zs g i h],m] w fun e o=>e=Zr (Zb (s==b))/\Bw w o:=by
 rcases a with ⟨rfl,rfl,rfl⟩|⟨rfl,rfl,rfl⟩;all_goals
  have j:Hid (∀q,Bw w ((w.alloc (Zc #[Zi Zk s,Zs c f d,Zs g i h] 31)).drewN q)):=fun q=>below_drewN (gx _ _) q
  have l:Hid (Bw w (w.alloc (Zc #[Zi Zk s,Zs c f d,Zs g i h] 31))):=gx _ _
  by_cases k:s=6
  ·subst k
   go_in
   go_wp2_with fail
   go_quiet (fail)
   go_wp2
   go_ret
   exact⟨gb zS,j.out _⟩
  ·have n:(s==6)=false:=by simpa using k
   go_in
   go_wp2_with fail
   go_quiet (fail)
   go_wp2
   go_ret
   exact⟨gb (by simp[n]),j.out _⟩
theorem CB (op pl:Int) (a:(op=32/\pl=1)∨(op=35/\pl=1)) (s:Int) (b f:ZO) (d c h g:Nat) (k:Zv) (w:Zw) :
  Calls prog 76 #[Zi Zk op,Zi Zk pl,Za #[Zi Zk s,Zs b d c,Zs f h g],k] w fun e l=>e=Zr (Zb true)/\Bw w l:=by
 rcases a with ⟨rfl,rfl⟩|⟨rfl,rfl⟩;all_goals
  have i:Hid (∀q,Bw w ((w.alloc (Zc #[Zi Zk s,Zs b d c,Zs f h g] 31)).drewN q)):=fun q=>below_drewN (gx _ _) q
  have j:Hid (Bw w (w.alloc (Zc #[Zi Zk s,Zs b d c,Zs f h g] 31))):=gx _ _
  go_in
  go_wp2_with fail
  go_quiet (fail)
  go_wp2
  go_ret
  exact⟨gb (by simp[]),i.out _⟩
theorem oY (op pl:Int) (b:(op=33/\pl=1)∨(op=7/\pl=0)∨(op=8/\pl=0)∨(op=20/\pl=0)∨(op=20/\pl=1)∨(op=42/\pl=0)) (s:Int) (c g:ZO) (f d i h:Nat) (j:Zv) (w:Zw) :
  Calls prog 76 #[Zi Zk op,Zi Zk pl,Za #[Zi Zk s,Zs c f d,Zs g i h],j] w fun e k=>e=Zr (Zb true)/\Bw w k:=by
 rcases b with ⟨rfl,rfl⟩|⟨rfl,rfl⟩|⟨rfl,rfl⟩|⟨rfl,rfl⟩|⟨rfl,rfl⟩|⟨rfl,rfl⟩;all_goals
  have l:Hid (∀q,Bw w ((w.alloc (Zc #[Zi Zk s,Zs c f d,Zs g i h] 31)).drewN q)):=fun q=>below_drewN (gx _ _) q
  have a:Hid (Bw w (w.alloc (Zc #[Zi Zk s,Zs c f d,Zs g i h] 31))):=gx _ _
  go_in
  go_wp2
  go_ret
  exact⟨rfl,a.out⟩
theorem EA (s:Int) (a d:ZO) (c b g f:Nat) (k:Zv) (w:Zw) :
  Calls prog 76 #[Zi Zk 35,Zi Zk 0,Za #[Zi Zk s,Zs a c b,Zs d g f],k] w fun e m=>e=Zr (Zb (s==4))/\Bw w m:=by
 have h:Hid (∀q,Bw w ((w.alloc (Zc #[Zi Zk s,Zs a c b,Zs d g f] 31)).drewN q)):=fun q=>below_drewN (gx _ _) q;have j:Hid (Bw w (w.alloc (Zc #[Zi Zk s,Zs a c b,Zs d g f] 31))):=gx _ _;by_cases i:s=4;·subst i;go_in;go_wp2_with fail;go_quiet (fail);go_wp2;go_ret;exact⟨gb zS,h.out _⟩
 ·have l:(s==4)=false:=by simpa using i
  go_in;go_wp2_with fail;go_quiet (fail);go_wp2;go_ret;exact⟨gb (by simp[l]),h.out _⟩
theorem Ix (s:Int) (b f:ZO) (d c h g:Nat) (j:Zv) (i:Int) (w:Zw) :
  Calls prog 76 #[Zi Zk 24,Zi Zk i,Za #[Zi Zk s,Zs b d c,Zs f h g],j] w fun e k=>e=Zr (Zb true)/\Bw w k:=by have l:Hid (∀q,Bw w ((w.alloc (Zc #[Zi Zk s,Zs b d c,Zs f h g] 31)).drewN q)):=fun q=>below_drewN (gx _ _) q;have a:Hid (Bw w (w.alloc (Zc #[Zi Zk s,Zs b d c,Zs f h g] 31))):=gx _ _;go_in;go_wp2;go_ret;exact⟨rfl,a.out⟩
theorem xI (q:Int) (I:q=14∨q=15∨q=27) (s:Int) (k o:ZO) (m l t p:Nat) (w:Zw) (b off n cap:Nat) (B:Int) (C y:ZO) (E D A z:Nat) (r:Bool) (u:b<w.heap.size) (H:0<n) (f0:w.cell? ⟨b,off,Zn⟩=Zo (Zi Zk B)) (f1:w.cell? ⟨b,off+1,Zn⟩=Zo (Zs C E D)) (f2:w.cell? ⟨b,off+2,Zn⟩=Zo (Zs y A z)) (F:∀ V,Bw w V->Calls prog 90 #[Za #[Zi Zk s,Zs k m l,Zs o t p],Za #[Zi Zk B,Zs C E D,Zs y A z]] V fun e d=>e=Zr (Zb r)/\Bw V d) :
  Calls prog 76 #[Zi Zk q,Zi Zk 1,Za #[Zi Zk s,Zs k m l,Zs o t p],Zs (Zo ⟨b,off,Zn⟩) n cap] w fun e d=>e=Zr (Zb r)/\Bw w d:=by
 obtain⟨W,j⟩:=ii (w.alloc (Zc #[Zi Zk s,Zs k m l,Zs o t p] 31));have c:Bw w W:=by rw[j];exact gx _ _
 have G:=j8.new w (Zi Zk s) (Zs k m l) (Zs o t p) 31;rw[<- j]at G;obtain⟨z0,J,z2⟩:=G;have f0:=kC c f0 u;have f1:=kC c f1 u;have f2:=kC c f2 u;have f:Bw w W.drew:=c.drew;have x:=Lib.hid (F W.drew f);have i:=a7 f;have h:w.heap.size<W.drew.heap.size:=by show _<W.heap.size;rw[j];simp
 have g:b<W.drew.heap.size:=Zd u f.size;clear F c f;rcases I with rfl|rfl|rfl;all_goals
  go_in
  go_wp2_with fail
  rw[<- j]
  clear j
  refine wp_region_held_drew (S:=(fun d=>d.cell? ⟨w.heap.size,0,Zn⟩=Zo (Zi Zk s)/\d.cell? ⟨w.heap.size,1,Zn⟩=Zo (Zs k m l)/\d.cell? ⟨w.heap.size,2,Zn⟩=Zo (Zs o t p)/\d.cell? ⟨b,off,Zn⟩=Zo (Zi Zk B)/\d.cell? ⟨b,off+1,Zn⟩=Zo (Zs C E D)/\d.cell? ⟨b,off+2,Zn⟩=Zo (Zs y A z))) zK (by exact⟨z0,J,z2,f0,f1,f2⟩) (fun hHeld=>?_)
  refine tk 0 ?_
  refine tk 1 ?_
  refine tk 2 ?_
  first|(refine ts 3 ?_;refine ts 4 ?_;refine ts 5 ?_;refine ts 6 ?_;refine ts 7 ?_;refine ts 8 ?_;refine ts 9 ?_;refine ts 10 ?_;refine tk 11 ?_;refine tk 12 ?_;refine tk 13 ?_;refine tk 14 ?_;refine tk 15 ?_;refine tk 16 ?_;refine tk 17 ?_;refine tk 18 ?_;refine tk 19 ?_;refine i6 20 fun K hK=>?_)|(refine tk 3 ?_;refine tk 4 ?_;refine tk 5 ?_;refine tk 6 ?_;refine i6 7 fun K hK=>?_)
  go_simp
  go_at_call 90
  refine x.out.mono ?_
  rintro e w1 ⟨rfl,a⟩
  have v:=a7 (i.out.trans (a.mono i.out.size))
  refine hK.out _ _ ⟨kC a hHeld.1 h,kC a hHeld.2.1 h,kC a hHeld.2.2.1 h,kC a hHeld.2.2.2.1 g,kC a hHeld.2.2.2.2.1 g,kC a hHeld.2.2.2.2.2 g⟩ (fun hHeld=>?_)
  first|(refine tk 21 ?_;refine tk 22 ?_;refine tk 23 ?_)|(refine tk 8 ?_;refine tk 9 ?_)
  refine wpAnyH_done zK ?_ _
  go_simp
  all_goals
   clear a
   go_wp2
   go_ret
   exact⟨rfl,v.out⟩
theorem xJ (q:Int) (H:q=19∨q=32∨q=35) (s:Int) (k o:ZO) (m l t p:Nat) (w:Zw) (b off n cap:Nat) (B:Int) (C y:ZO) (E D A z:Nat) (r:Bool) (u:b<w.heap.size) (J:(1:Int)<(n:Int)) (f0:w.cell? ⟨b,off+3,Zn⟩=Zo (Zi Zk B)) (f1:w.cell? ⟨b,off+4,Zn⟩=Zo (Zs C E D)) (f2:w.cell? ⟨b,off+5,Zn⟩=Zo (Zs y A z)) (F:∀ V,Bw w V->Calls prog 90 #[Za #[Zi Zk s,Zs k m l,Zs o t p],Za #[Zi Zk B,Zs C E D,Zs y A z]] V fun e d=>e=Zr (Zb r)/\Bw V d) :
  Calls prog 76 #[Zi Zk q,Zi Zk 2,Za #[Zi Zk s,Zs k m l,Zs o t p],Zs (Zo ⟨b,off,Zn⟩) n cap] w fun e d=>e=Zr (Zb r)/\Bw w d:=by
 obtain⟨W,j⟩:=ii (w.alloc (Zc #[Zi Zk s,Zs k m l,Zs o t p] 31));have c:Bw w W:=by rw[j];exact gx _ _
 have G:=j8.new w (Zi Zk s) (Zs k m l) (Zs o t p) 31;rw[<- j]at G;obtain⟨z0,I,z2⟩:=G;have f0:=kC c f0 u;have f1:=kC c f1 u;have f2:=kC c f2 u;have f:Bw w W.drew:=c.drew;have x:=Lib.hid (F W.drew f);have i:=a7 f;have h:w.heap.size<W.drew.heap.size:=by show _<W.heap.size;rw[j];simp
 have g:b<W.drew.heap.size:=Zd u f.size;clear F c f;rcases H with rfl|rfl|rfl;all_goals
  go_in
  go_wp2_with fail
  rw[<- j]
  clear j
  refine wp_region_held_drew (S:=(fun d=>d.cell? ⟨w.heap.size,0,Zn⟩=Zo (Zi Zk s)/\d.cell? ⟨w.heap.size,1,Zn⟩=Zo (Zs k m l)/\d.cell? ⟨w.heap.size,2,Zn⟩=Zo (Zs o t p)/\d.cell? ⟨b,off+3,Zn⟩=Zo (Zi Zk B)/\d.cell? ⟨b,off+4,Zn⟩=Zo (Zs C E D)/\d.cell? ⟨b,off+5,Zn⟩=Zo (Zs y A z))) zK (by exact⟨z0,I,z2,f0,f1,f2⟩) (fun hHeld=>?_)
  refine tk 0 ?_
  refine tk 1 ?_
  refine tk 2 ?_
  refine ts 3 ?_;refine ts 4 ?_;refine ts 5 ?_;refine tk 6 ?_;refine tk 7 ?_;refine tk 8 ?_;refine tk 9 ?_;refine tk 10 ?_;refine tk 11 ?_;refine tk 12 ?_;refine tk 13 ?_;refine tk 14 ?_;refine tk 15 ?_;refine tk 16 ?_;refine tk 17 ?_;refine tk 18 ?_;refine i6 19 fun K hK=>?_
  go_simp
  go_at_call 90
  refine x.out.mono ?_
  rintro e w1 ⟨rfl,a⟩
  have v:=a7 (i.out.trans (a.mono i.out.size))
  refine hK.out _ _ ⟨kC a hHeld.1 h,kC a hHeld.2.1 h,kC a hHeld.2.2.1 h,kC a hHeld.2.2.2.1 g,kC a hHeld.2.2.2.2.1 g,kC a hHeld.2.2.2.2.2 g⟩ (fun hHeld=>?_)
  refine tk 20 ?_;refine tk 21 ?_;refine tk 22 ?_
  refine wpAnyH_done zK ?_ _
  go_simp
  all_goals
   clear a
   go_wp2
   go_ret
   exact⟨rfl,v.out⟩
theorem Ez (s:Int) (p u:ZO) (t q x v:Nat) (w:Zw) (b off n cap:Nat) (F:Int) (G C:ZO) (I H E D:Nat) (r:Bool) (L:b<w.heap.size) (O:0<n) (j c B k:Nat) (a:j<w.heap.size) (M:0<B) (f:w.cell? ⟨b,off+2,Zn⟩=Zo (Zs (Zo ⟨j,c,Zn⟩) B k)) (f0:w.cell? ⟨j,c,Zn⟩=Zo (Zi Zk F)) (f1:w.cell? ⟨j,c+1,Zn⟩=Zo (Zs G I H)) (f2:w.cell? ⟨j,c+2,Zn⟩=Zo (Zs C E D)) (J:∀ V,Bw w V->Calls prog 90 #[Za #[Zi Zk s,Zs p t q,Zs u x v],Za #[Zi Zk F,Zs G I H,Zs C E D]] V fun e i=>e=Zr (Zb r)/\Bw V i) :
  Calls prog 76 #[Zi Zk 31,Zi Zk 1,Za #[Zi Zk s,Zs p t q,Zs u x v],Zs (Zo ⟨b,off,Zn⟩) n cap] w fun e i=>e=Zr (Zb r)/\Bw w i:=by
 obtain⟨W,o⟩:=ii (w.alloc (Zc #[Zi Zk s,Zs p t q,Zs u x v] 31));have d:Bw w W:=by rw[o];exact gx _ _
 have N:=j8.new w (Zi Zk s) (Zs p t q) (Zs u x v) 31;rw[<- o]at N;obtain⟨z0,P,z2⟩:=N;have f:=kC d f L;have f0:=kC d f0 a;have f1:=kC d f1 a;have f2:=kC d f2 a;have g:Bw w W.drew:=d.drew;have z:=Lib.hid (J W.drew g);have m:=a7 g;have l:w.heap.size<W.drew.heap.size:=by show _<W.heap.size;rw[o];simp
 have A:b<W.drew.heap.size:=Zd L g.size;have h:j<W.drew.heap.size:=Zd a g.size;clear J d g;clear a;go_in;go_wp2_with fail;rw[<- o];clear o;refine wp_region_held_drew (S:=(fun i=>i.cell? ⟨w.heap.size,0,Zn⟩=Zo (Zi Zk s)/\i.cell? ⟨w.heap.size,1,Zn⟩=Zo (Zs p t q)/\i.cell? ⟨w.heap.size,2,Zn⟩=Zo (Zs u x v)/\i.cell? ⟨b,off+2,Zn⟩=Zo (Zs (Zo ⟨j,c,Zn⟩) B k)/\i.cell? ⟨j,c,Zn⟩=Zo (Zi Zk F)/\i.cell? ⟨j,c+1,Zn⟩=Zo (Zs G I H)/\i.cell? ⟨j,c+2,Zn⟩=Zo (Zs C E D))) zK (by exact⟨z0,P,z2,f,f0,f1,f2⟩) (fun hHeld=>?_);refine tk 0 ?_;refine tk 1 ?_;refine tk 2 ?_;refine ts 3 ?_;refine ts 4 ?_;refine ts 5 ?_;refine tk 6 ?_;refine tk 7 ?_;refine tk 8 ?_;refine tk 9 ?_;refine tk 10 ?_;refine tk 11 ?_;refine tk 12 ?_;refine tk 13 ?_;refine tk 14 ?_;refine tk 15 ?_;refine tk 16 ?_;refine tk 17 ?_;refine i6 18 fun K hK=>?_;go_simp;go_at_call 90;refine z.out.mono ?_;rintro e w1 ⟨rfl,a⟩;have y:=a7 (m.out.trans (a.mono m.out.size));refine hK.out _ _ ⟨kC a hHeld.1 l,kC a hHeld.2.1 l,kC a hHeld.2.2.1 l,kC a hHeld.2.2.2.1 A,kC a hHeld.2.2.2.2.1 h,kC a hHeld.2.2.2.2.2.1 h,kC a hHeld.2.2.2.2.2.2 h⟩ (fun hHeld=>?_);refine tk 19 ?_;refine tk 20 ?_;refine tk 21 ?_;refine wpAnyH_done zK ?_ _;go_simp;all_goals
  clear a
  go_wp2
  go_ret
  exact⟨rfl,y.out⟩
theorem jX {o:ZP} {c:List (K (M+1))} {p:Zv} (h:gO o w (a8 S w (M+1)) c p) (u:Bd o w) (j:Nat) (n:j<c.length) :
  ∃(b off cap:Nat)(i:Int)(k d:ZO)(m l g f:Nat),p=Zs (Zo ⟨b,off,Zn⟩) c.length cap/\b<w.heap.size/\w.cell? ⟨b,off+j*3,Zn⟩=Zo (Zi Zk i)/\w.cell? ⟨b,off+j*3+1,Zn⟩=Zo (Zs k m l)/\w.cell? ⟨b,off+j*3+2,Zn⟩=Zo (Zs d g f)/\a8 S w (M+1) c[j] (Zi Zk i) (Zs k m l) (Zs d g f):=by obtain⟨A,cap,z,B,y⟩:=h;obtain⟨b,off,v,x,a⟩:=y (fun e=>by rw[e]at n;simp at n);obtain⟨c0,c1,c2,r,s,t,q⟩:=a j n;obtain⟨i,k,m,l,d,g,f,rfl,rfl,rfl⟩:=q.shape;exact⟨b,off,cap,i,k,d,m,l,g,f,by rw[z,v],u b x,r,s,t,q⟩
theorem k6 {k:K (M+1)} {T:Int} {U z:ZO} {W V A R:Nat} (h:a8 S w (M+1) k (Zi Zk T) (Zs U W V) (Zs z A R)) (L:Bd S w) (Q:Kd.sort k=6∨Kd.sort k=4) (n:gF (M+1) k=true) :
  ∃(b off:Nat)(v0:Int)(o r:ZO)(q p s wc:Nat),z=Zo ⟨b,off,Zn⟩/\0<A/\b<w.heap.size/\w.cell? ⟨b,off,Zn⟩=Zo (Zi Zk v0)/\w.cell? ⟨b,off+1,Zn⟩=Zo (Zs o q p)/\w.cell? ⟨b,off+2,Zn⟩=Zo (Zs r s wc)/\a8 S w (M+1) (mQ k) (Zi Zk v0) (Zs o q p) (Zs r s wc)/\gF (M+1) (mQ k)=true:=by
 obtain⟨x,c⟩:∃x,Kd.kids k=[x]:=by
  have t:=(ic (iw n).1).2.1;unfold lA fX at t;have j:(Kd.kids k).length=1:=by
   have f:fX (Kd.sort k) (Kd.names k) (Kd.kids k).length=true:=(ic (iw n).1).2.1;unfold fX at f;rcases Q with J|I;·rw[J]at f;simp at f;omega
   ·rw[I]at f;simp at f;omega
  exact List.length_eq_one_iff.1 j
 obtain⟨-,-,-,G,cap,F,Z,O⟩:=h;obtain⟨b,off,t,N,d⟩:=O (by rw[c];simp);obtain⟨c0,c1,c2,B,C,D,P⟩:=d 0 (by rw[c];simp);simp only[Nat.zero_mul,Nat.add_zero]at B C D;have i:a8 S w M x c0 c1 c2:=by
  have e:(Kd.kids k)[0]'(by rw[c];simp)=x:=by simp[c]
  rw[<- e];exact P
 obtain⟨v0,o,q,p,r,s,wc,rfl,rfl,rfl⟩:=i.shape;have g:mQ k=fO M M x:=by unfold mQ;rw[c]
 have u:z=G:=by simpa using congrArg (fun v=>match v with|Value.slice a _ _=>a|_=>Zn) F
 have y:A=(Kd.kids k).length:=by simpa using congrArg (fun v=>match v with|Value.slice _ l _=>l|_=>0) F
 refine⟨b,off,v0,o,r,q,p,s,wc,u.trans t,by rw[y,c];simp,L b N,B,C,D,by rw[g];exact i.cp om,?_⟩;rw[g];have m:=pD n x (by rw[c];simp);obtain⟨H,X⟩:=iw n;have Y:=(ic H).2.2 x (by rw[c];simp);have E:=ss M x;unfold gF at m ⊢;rw[E.1,E.2.1];exact m
theorem rA (M:Nat) (S:ZP) (op:Int) (i:Nat) (k:K (M+1)) (a:List (K (M+1))) (c0 c1 c2 c:Zv) (w:Zw) (E:a8 S w (M+1) k c0 c1 c2) (A:gO S w (a8 S w (M+1)) a c) (v:Bd S w) (ok:gF (M+1) k=true) (D:∀ x,x∈a->gF (M+1) x=true)
  (hi:a.length=i) (y:op=24∨(op,i)∈zQ) (F:op=31->i=1->Kd.sort (a.getD 0 zU)=6) :
  Calls prog 76 #[Zi Zk op,Zi Zk (i:Int),Za #[c0,c1,c2],c] w fun e N=>e=Zr (Zb (b7 op zU i k a))/\Bw w N:=by
 obtain⟨Z,xa,xl,xc,ya,yl,yc,rfl,rfl,rfl⟩:=E.shape;have J:Z=Kd.sort k:=by have:=E.1;injection this
 subst J;have B:∀(j:Nat)(P:j<a.length)(r:Int)(s q:ZO)(u t p o:Nat),a8 S w (M+1) a[j] (Zi Zk r) (Zs s u t) (Zs q p o)->∀V,Bw w V->Calls prog 90 #[Za #[Zi Zk (Kd.sort k),Zs xa xl xc,Zs ya yl yc],Za #[Zi Zk r,Zs s u t,Zs q p o]] V fun e N=>e=Zr (Zb (ji k a[j]))/\Bw V N:=by intro j P r s q u t p o d V z;exact nY M S k a[j] _ _ _ _ _ _ V (E.keep (a6 z v) fun _ h=>h) (d.keep (a6 z v) fun _ h=>h) (fun b n=>Zd (v b n) z.size) ok (D _ (List.getElem_mem P))
 rcases y with rfl|y
 ·have e:b7 24 zU i k a=true:=by simp[b7]
  rw[e];exact Ix _ _ _ _ _ _ _ c _ w
 simp only[zQ,List.mem_cons,Prod.mk.injEq,List.not_mem_nil,or_false]at y;rcases y with ⟨rfl,rfl⟩|⟨rfl,rfl⟩|⟨rfl,rfl⟩|⟨rfl,rfl⟩|⟨rfl,rfl⟩|⟨rfl,rfl⟩|⟨rfl,rfl⟩|⟨rfl,rfl⟩|⟨rfl,rfl⟩|⟨rfl,rfl⟩|⟨rfl,rfl⟩|⟨rfl,rfl⟩|⟨rfl,rfl⟩|⟨rfl,rfl⟩|⟨rfl,rfl⟩|⟨rfl,rfl⟩|⟨rfl,rfl⟩|⟨rfl,rfl⟩|⟨rfl,rfl⟩|⟨rfl,rfl⟩|⟨rfl,rfl⟩|⟨rfl,rfl⟩|⟨rfl,rfl⟩|⟨rfl,rfl⟩|⟨rfl,rfl⟩|⟨rfl,rfl⟩|⟨rfl,rfl⟩|⟨rfl,rfl⟩|⟨rfl,rfl⟩|⟨rfl,rfl⟩|⟨rfl,rfl⟩|⟨rfl,rfl⟩|⟨rfl,rfl⟩|⟨rfl,rfl⟩|⟨rfl,rfl⟩|⟨rfl,rfl⟩|⟨rfl,rfl⟩|⟨rfl,rfl⟩|⟨rfl,rfl⟩|⟨rfl,rfl⟩|⟨rfl,rfl⟩|⟨rfl,rfl⟩|⟨rfl,rfl⟩|⟨rfl,rfl⟩|⟨rfl,rfl⟩|⟨rfl,rfl⟩|⟨rfl,rfl⟩|⟨rfl,rfl⟩|⟨rfl,rfl⟩|⟨rfl,rfl⟩|⟨rfl,rfl⟩|⟨rfl,rfl⟩|⟨rfl,rfl⟩|⟨rfl,rfl⟩|⟨rfl,rfl⟩
 ·have e:b7 7 zU 0 k a=true:=by simp[b7]
  rw[e];exact oY 7 0 zS _ _ _ _ _ _ _ c w
 ·have e:b7 8 zU 0 k a=true:=by simp[b7]
  rw[e];exact oY 8 0 zS _ _ _ _ _ _ _ c w
 ·have e:b7 9 zU 0 k a=(Kd.sort k==1):=by simp[b7]
  rw[e];exact iB 9 0 1 zS _ _ _ _ _ _ _ c w
 ·have e:b7 9 zU 1 k a=(Kd.sort k==1):=by simp[b7]
  rw[e];exact iB 9 1 1 zS _ _ _ _ _ _ _ c w
 ·have e:b7 10 zU 0 k a=(Kd.sort k==1):=by simp[b7]
  rw[e];exact iB 10 0 1 zS _ _ _ _ _ _ _ c w
 ·have e:b7 10 zU 1 k a=(Kd.sort k==1):=by simp[b7]
  rw[e];exact iB 10 1 1 zS _ _ _ _ _ _ _ c w
 ·have e:b7 11 zU 0 k a=(Kd.sort k==1):=by simp[b7]
  rw[e];exact iB 11 0 1 zS _ _ _ _ _ _ _ c w
 ·have e:b7 11 zU 1 k a=(Kd.sort k==1):=by simp[b7]
  rw[e];exact iB 11 1 1 zS _ _ _ _ _ _ _ c w
 ·have e:b7 12 zU 0 k a=(Kd.sort k==1):=by simp[b7]
  rw[e];exact iB 12 0 1 zS _ _ _ _ _ _ _ c w
 ·have e:b7 12 zU 1 k a=(Kd.sort k==1):=by simp[b7]
  rw[e];exact iB 12 1 1 zS _ _ _ _ _ _ _ c w
 ·have e:b7 13 zU 0 k a=(Kd.sort k==1):=by simp[b7]
  rw[e];exact iB 13 0 1 zS _ _ _ _ _ _ _ c w
 ·have e:b7 13 zU 1 k a=(Kd.sort k==1):=by simp[b7]
  rw[e];exact iB 13 1 1 zS _ _ _ _ _ _ _ c w
 ·have e:b7 14 zU 0 k a=(Kd.sort k==1 || Kd.sort k==2):=by simp[b7]
  rw[e];exact Ew _ _ _ _ _ _ _ c w
 ·obtain⟨b,off,cap,r,s,q,u,t,p,o,rfl,n,l,m,g,d⟩:=jX A v 0 om;simp only[Nat.zero_mul,Nat.add_zero]at l m g;have f:a.getD 0 zU=a[0]'om:=by rw[List.getD_eq_getElem?_getD,List.getElem?_eq_getElem om,Option.getD_some]
  have e:b7 14 zU 1 k a=ji k (a[0]'om):=by simp only[b7,f];simp
  rw[e];exact xI _ (.inl rfl) _ _ _ _ _ _ _ w b off a.length cap r s q u t p o _ n om l m g (B 0 om _ _ _ _ _ _ _ d)
 ·have e:b7 15 zU 0 k a=true:=by simp[b7]
  rw[e];exact Cw 15 0 zS _ _ _ _ _ _ _ c w
 ·obtain⟨b,off,cap,r,s,q,u,t,p,o,rfl,n,l,m,g,d⟩:=jX A v 0 om;simp only[Nat.zero_mul,Nat.add_zero]at l m g;have f:a.getD 0 zU=a[0]'om:=by rw[List.getD_eq_getElem?_getD,List.getElem?_eq_getElem om,Option.getD_some]
  have e:b7 15 zU 1 k a=ji k (a[0]'om):=by simp only[b7,f];simp
  rw[e];exact xI _ (.inr (.inl rfl)) _ _ _ _ _ _ _ w b off a.length cap r s q u t p o _ n om l m g (B 0 om _ _ _ _ _ _ _ d)
 ·have e:b7 16 zU 0 k a=(Kd.sort k==3):=by simp[b7]
  rw[e];exact iB 16 0 3 zS _ _ _ _ _ _ _ c w
 ·have e:b7 16 zU 1 k a=(Kd.sort k==3):=by simp[b7]
  rw[e];exact iB 16 1 3 zS _ _ _ _ _ _ _ c w
 ·have e:b7 17 zU 0 k a=(Kd.sort k==3):=by simp[b7]
  rw[e];exact iB 17 0 3 zS _ _ _ _ _ _ _ c w
 ·have e:b7 17 zU 1 k a=(Kd.sort k==3):=by simp[b7]
  rw[e];exact iB 17 1 3 zS _ _ _ _ _ _ _ c w
 ·have e:b7 18 zU 0 k a=(Kd.sort k==3):=by simp[b7]
  rw[e];exact iB 18 0 3 zS _ _ _ _ _ _ _ c w
 ·have e:b7 19 zU 0 k a=(Kd.sort k==3):=by simp[b7]
  rw[e];exact Cx 19 0 3 zS _ _ _ _ _ _ _ c w
 ·have e:b7 19 zU 1 k a=true:=by simp[b7]
  rw[e];exact Cw 19 1 zS _ _ _ _ _ _ _ c w
 ·obtain⟨b,off,cap,r,s,q,u,t,p,o,rfl,n,l,m,g,d⟩:=jX A v 1 om;simp only[Nat.one_mul,Nat.add_assoc]at l m g;have f:a.getD 1 zU=a[1]'om:=by rw[List.getD_eq_getElem?_getD,List.getElem?_eq_getElem om,Option.getD_some]
  have e:b7 19 zU 2 k a=ji k (a[1]'om):=by simp only[b7,f];simp
  rw[e];exact xJ _ (.inl rfl) _ _ _ _ _ _ _ w b off a.length cap r s q u t p o _ n om l m g (B 1 om _ _ _ _ _ _ _ d)
 ·have e:b7 20 zU 0 k a=true:=by simp[b7]
  rw[e];exact oY 20 0 zS _ _ _ _ _ _ _ c w
 ·have e:b7 20 zU 1 k a=true:=by simp[b7]
  rw[e];exact oY 20 1 zS _ _ _ _ _ _ _ c w
 ·have e:b7 21 zU 0 k a=(Kd.sort k==5):=by simp[b7]
  rw[e];exact iB 21 0 5 zS _ _ _ _ _ _ _ c w
 ·have e:b7 22 zU 0 k a=(Kd.sort k==5):=by simp[b7]
  rw[e];exact iB 22 0 5 zS _ _ _ _ _ _ _ c w
 ·have e:b7 22 zU 1 k a=true:=by simp[b7]
  rw[e];exact Ex _ _ _ _ _ _ _ c w
 ·have e:b7 23 zU 0 k a=(Kd.sort k==5):=by simp[b7]
  rw[e];exact iB 23 0 5 zS _ _ _ _ _ _ _ c w
 ·have e:b7 25 zU 0 k a=(Kd.sort k==4):=by simp[b7]
  rw[e];exact Cy 25 0 4 zS _ _ _ _ _ _ _ c w
 ·have e:b7 25 zU 1 k a=(Kd.sort k==1):=by simp[b7]
  rw[e];exact oX 25 1 1 zS _ _ _ _ _ _ _ c w
 ·have e:b7 26 zU 0 k a=(Kd.sort k==4 || Kd.sort k==2):=by simp[b7]
  rw[e];exact Cz 26 0 zS _ _ _ _ _ _ _ c w
 ·have e:b7 27 zU 0 k a=(Kd.sort k==4 || Kd.sort k==2):=by simp[b7]
  rw[e];exact Ey _ _ _ _ _ _ _ c w
 ·obtain⟨b,off,cap,r,s,q,u,t,p,o,rfl,n,l,m,g,d⟩:=jX A v 0 om;simp only[Nat.zero_mul,Nat.add_zero]at l m g;have f:a.getD 0 zU=a[0]'om:=by rw[List.getD_eq_getElem?_getD,List.getElem?_eq_getElem om,Option.getD_some]
  have e:b7 27 zU 1 k a=ji k (a[0]'om):=by simp only[b7,f];simp
  rw[e];exact xI _ (.inr (.inr rfl)) _ _ _ _ _ _ _ w b off a.length cap r s q u t p o _ n om l m g (B 0 om _ _ _ _ _ _ _ d)
 ·have e:b7 28 zU 0 k a=(Kd.sort k==4 || Kd.sort k==2):=by simp[b7]
  rw[e];exact Cz 28 0 zS _ _ _ _ _ _ _ c w
 ·have e:b7 28 zU 1 k a=(Kd.sort k==1):=by simp[b7]
  rw[e];exact oX 28 1 1 zS _ _ _ _ _ _ _ c w
 ·have e:b7 28 zU 2 k a=(Kd.sort k==1):=by simp[b7]
  rw[e];exact oX 28 2 1 zS _ _ _ _ _ _ _ c w
 ·have e:b7 29 zU 0 k a=(Kd.sort k==1):=by simp[b7]
  rw[e];exact iB 29 0 1 zS _ _ _ _ _ _ _ c w
 ·have e:b7 30 zU 0 k a=(Kd.sort k==2):=by simp[b7]
  rw[e];exact iB 30 0 2 zS _ _ _ _ _ _ _ c w
 ·have e:b7 31 zU 0 k a=(Kd.sort k==6):=by simp[b7]
  rw[e];exact CA 31 0 6 zS _ _ _ _ _ _ _ c w
 ·obtain⟨b,off,cap,r,s,q,u,t,p,o,rfl,n,l,m,g,d⟩:=jX A v 0 om;simp only[Nat.zero_mul,Nat.add_zero]at l m g;have f:a.getD 0 zU=a[0]'om:=by rw[List.getD_eq_getElem?_getD,List.getElem?_eq_getElem om,Option.getD_some]
  have O:=F rfl rfl;rw[f]at O;have R:=D _ (List.getElem_mem (show 0<a.length by omega));obtain⟨Q,C,v0,T,X,W,U,Y,wc,rfl,I,G,f0,f1,f2,H,L⟩:=k6 d v (.inl O) R;have e:b7 31 zU 1 k a=ji k (mQ (a[0]'om)):=by simp only[b7,f];simp
  rw[e];refine Ez _ _ _ _ _ _ _ w b off a.length cap v0 T X W U Y wc _ n om Q C p o G I g f0 f1 f2 fun V z=>?_;exact nY M S k _ _ _ _ _ _ _ V (E.keep (a6 z v) fun _ h=>h) (H.keep (a6 z v) fun _ h=>h) (fun b n=>Zd (v b n) z.size) ok L
 ·have e:b7 32 zU 0 k a=(Kd.sort k==6):=by simp[b7]
  rw[e];exact CA 32 0 6 zS _ _ _ _ _ _ _ c w
 ·have e:b7 32 zU 1 k a=true:=by simp[b7]
  rw[e];exact CB 32 1 zS _ _ _ _ _ _ _ c w
 ·obtain⟨b,off,cap,r,s,q,u,t,p,o,rfl,n,l,m,g,d⟩:=jX A v 1 om;simp only[Nat.one_mul,Nat.add_assoc]at l m g;have f:a.getD 1 zU=a[1]'om:=by rw[List.getD_eq_getElem?_getD,List.getElem?_eq_getElem om,Option.getD_some]
  have e:b7 32 zU 2 k a=ji k (a[1]'om):=by simp only[b7,f];simp
  rw[e];exact xJ _ (.inr (.inl rfl)) _ _ _ _ _ _ _ w b off a.length cap r s q u t p o _ n om l m g (B 1 om _ _ _ _ _ _ _ d)
 ·have e:b7 33 zU 0 k a=(Kd.sort k==4):=by simp[b7]
  rw[e];exact oX 33 0 4 zS _ _ _ _ _ _ _ c w
 ·have e:b7 33 zU 1 k a=true:=by simp[b7]
  rw[e];exact oY 33 1 zS _ _ _ _ _ _ _ c w
 ·have e:b7 34 zU 0 k a=(Kd.sort k==4):=by simp[b7]
  rw[e];exact Cy 34 0 4 zS _ _ _ _ _ _ _ c w
 ·have e:b7 34 zU 1 k a=(Kd.sort k==3):=by simp[b7]
  rw[e];exact oX 34 1 3 zS _ _ _ _ _ _ _ c w
 ·have e:b7 35 zU 0 k a=(Kd.sort k==4):=by simp[b7]
  rw[e];exact EA _ _ _ _ _ _ _ c w
 ·have e:b7 35 zU 1 k a=true:=by simp[b7]
  rw[e];exact CB 35 1 zS _ _ _ _ _ _ _ c w
 ·obtain⟨b,off,cap,r,s,q,u,t,p,o,rfl,n,l,m,g,d⟩:=jX A v 1 om;simp only[Nat.one_mul,Nat.add_assoc]at l m g;have f:a.getD 1 zU=a[1]'om:=by rw[List.getD_eq_getElem?_getD,List.getElem?_eq_getElem om,Option.getD_some]
  have e:b7 35 zU 2 k a=ji k (a[1]'om):=by simp only[b7,f];simp
  rw[e];exact xJ _ (.inr (.inr rfl)) _ _ _ _ _ _ _ w b off a.length cap r s q u t p o _ n om l m g (B 1 om _ _ _ _ _ _ _ d)
 ·have e:b7 41 zU 0 k a=(Kd.sort k==3):=by simp[b7]
  rw[e];exact Cx 41 0 3 zS _ _ _ _ _ _ _ c w
 ·have e:b7 42 zU 0 k a=true:=by simp[b7]
  rw[e];exact oY 42 0 zS _ _ _ _ _ _ _ c w
 ·have e:b7 43 zU 0 k a=(Kd.sort k==4):=by simp[b7]
  rw[e];exact oX 43 0 4 zS _ _ _ _ _ _ _ c w
structure iE(S:ZP)(X n:Nat)(w wr:Zw)(so:Int)(ns:List ZN)(ks:List (K n))(nv kv:Zv):Prop where
 near:b8 X w wr
 box:wr.heap[X]?=Zo (Zc #[Zi Zk so,nv,kv] 31 (0,0))
 names:wr.ownsRow w.heap.size 9 1 nv ns.length (ns.map Zt)
 short:∀s,s∈ns->s.size<=10000
 kids:∃xs,wr.ownsRow w.heap.size 31 3 kv ks.length xs/\∀j (h:j<ks.length),∃c0 c1 c2,(xs[j*3]?=Zo c0/\xs[j*3+1]?=Zo c1/\xs[j*3+2]?=Zo c2)/\a8 S wr n ks[j] c0 c1 c2
 apart:∀b,nv.ownBlock=Zo b->kv.ownBlock≠Zo b
theorem iE.lt{a:List (K n)}(h:iE S X n w wr so ns a nv kv):X<wr.heap.size:=(Array.getElem?_eq_some_iff.1 h.box).1
theorem iE.drewN{a:List (K n)}(h:iE S X n w wr so ns a nv kv)(q:Nat):iE S X n w (wr.drewN q) so ns a nv kv:=by obtain⟨g,f,d⟩:=h.kids;refine⟨⟨h.near.os,h.near.tape,h.near.output,h.near.size,h.near.block⟩,h.box,gh h.names fun _ _=>rfl,h.short,⟨g,gh f fun _ _=>rfl,fun j c=>?_⟩,h.apart⟩;obtain⟨c0,c1,c2,b,e⟩:=d j c;exact⟨c0,c1,c2,b,a8.keep (w:=wr) (w':=wr.drewN q) (fun _ _=>rfl) (fun _ h=>h) e⟩
theorem iE.name {D:List (K n)} {x:ZN} (h:iE S X n w W so ns D nv kv) (E:∀ b,S b->b<w.heap.size/\b≠X) (G:X<w.heap.size)
  (v:Wa.heap=W.heap.push one) (A:Wa.os=W.os/\Wa.tape=W.tape/\Wa.output=W.output) (O:x.size<=10000)
  (d:W2.ownsRow w.heap.size 9 1 (Zs (Zo ⟨g,0,Zn⟩) (ns.length+1) cap) (ns.length+1) (ns.map Zt++[Zt x])) (a:Wa.grownBy W2 nv.ownBlock) (y:nv.ownBlock=Zo g∨g=W.heap.size+1) :
  iE S X n w (W2.setCell ⟨X,1,Zn⟩ (Zs (Zo ⟨g,0,Zn⟩) (ns.length+1) cap)) so (ns++[x]) D (Zs (Zo ⟨g,0,Zn⟩) (ns.length+1) cap) kv:=by
 have F:=h.lt;have Q:W2.heap.size ≥ W.heap.size+1:=by have:=a.size;rw[v]at this;simp at this;omega
 have m:=fU h.names;have I:=fU d g rfl;have N:=h.near.size;have q:∀b,b<W.heap.size->nv.ownBlock≠Zo b->W2.heap[b]?=W.heap[b]?:=fun b c z=>by rw[a.block b (by rw[v];simp;omega) (fun e=>z e.symm),v,Array.getElem?_push_lt c,Array.getElem?_eq_getElem c]
 have t:∀b,b≠X->(W2.setCell ⟨X,1,Zn⟩ (Zs (Zo ⟨g,0,Zn⟩) (ns.length+1) cap)).heap[b]?=W2.heap[b]?:=fun b c=>Below.heap_setCell _ _ _ _ c;have B:(W2.setCell ⟨X,1,Zn⟩ (Zs (Zo ⟨g,0,Zn⟩) (ns.length+1) cap)).heap.size=W2.heap.size:=zS;have u:nv.ownBlock≠Zo X:=fun e=>by have:=m X e;omega
 have l:=(q X F u).trans h.box;obtain⟨P,r,L⟩:=h.kids;have p:=fU r;refine⟨⟨?_,?_,?_,by rw[B];omega,fun b c i=>?_⟩,?_,?_,?_,⟨P,gh r fun k f=>?_,fun j J=>?_⟩,fun b c=>?_⟩;·show W2.os=w.os;rw[a.os,A.1];exact h.near.os
 ·show W2.tape=w.tape;rw[a.tape,A.2.1];exact h.near.tape
 ·show W2.output=w.output;rw[a.output,A.2.2];exact h.near.output
 ·rw[t b i,q b om (fun e=>by have:=m b e;omega)];exact h.near.block b c i
 ·simp[World.setCell,Array.getElem?_modify,l]
 ·rw[List.length_append,List.length_singleton,List.map_append,List.map_singleton];exact gh d fun k f=>t k (by have:=fU d k f;omega)
 ·intro s o;rcases List.mem_append.1 o with o|o;·exact h.short s o
  ·rw[List.mem_singleton]at o;subst o;exact O
 ·have:=p k f;rw[t k om,q k this.2 (fun e=>h.apart k e f)]
 ·obtain⟨c0,c1,c2,H,M⟩:=L j J;refine⟨c0,c1,c2,H,M.keep (fun b c=>?_) (fun b c=>c)⟩;have:=E b c;rw[t b this.2,q b om (fun e=>by have:=m b e;omega)]
 ·have c:g=b:=by simpa [Value.ownBlock] using c
  subst c;rcases y with C|C;·exact h.apart g C
  ·intro e;have:=p g e;omega
theorem iE.kid {c:List (K n)} {t:K n} (h:iE S X n w W so ns c nv kv) (U:∀ b,S b->b<w.heap.size/\b≠X) (Y:X<w.heap.size)
  (ht:a8 S W n t c0 c1 c2)
  (H:Wa.heap=W.heap.push one) (D:Wa.os=W.os/\Wa.tape=W.tape/\Wa.output=W.output) {xs:List Zv}
  (E:W.ownsRow w.heap.size 31 3 kv c.length xs) (hk:∀j (h:j<c.length),∃c0 c1 c2,(xs[j*3]?=Zo c0/\xs[j*3+1]?=Zo c1/\xs[j*3+2]?=Zo c2)/\a8 S W n c[j] c0 c1 c2)
  (l:W2.ownsRow w.heap.size 31 3 (Zs (Zo ⟨g,0,Zn⟩) (c.length+1) cap) (c.length+1) (xs++[c0,c1,c2])) (a:Wa.grownBy W2 kv.ownBlock) (I:kv.ownBlock=Zo g∨g=W.heap.size+1) :
  iE S X n w (W2.setCell ⟨X,2,Zn⟩ (Zs (Zo ⟨g,0,Zn⟩) (c.length+1) cap)) so ns (c++[t]) nv (Zs (Zo ⟨g,0,Zn⟩) (c.length+1) cap):=by
 have V:=h.lt;have hz:W2.heap.size ≥ W.heap.size+1:=by have:=a.size;rw[H]at this;simp at this;omega
 have C:=fU h.names;have u:=fU E;have Z:=fU l g rfl;have aa:=h.near.size;have q:∀b,b<W.heap.size->kv.ownBlock≠Zo b->W2.heap[b]?=W.heap[b]?:=fun b f M=>by rw[a.block b (by rw[H];simp;omega) (fun e=>M e.symm),H,Array.getElem?_push_lt f,Array.getElem?_eq_getElem f]
 have F:∀b,b≠X->(W2.setCell ⟨X,2,Zn⟩ (Zs (Zo ⟨g,0,Zn⟩) (c.length+1) cap)).heap[b]?=W2.heap[b]?:=fun b f=>Below.heap_setCell _ _ _ _ f;have N:(W2.setCell ⟨X,2,Zn⟩ (Zs (Zo ⟨g,0,Zn⟩) (c.length+1) cap)).heap.size=W2.heap.size:=zS;have G:kv.ownBlock≠Zo X:=fun e=>by have:=u X e;omega
 have s:=(q X V G).trans h.box;have O:=E.1;have k:∀ {x:K n} {y z A:Zv},a8 S W n x y z A->a8 S (W2.setCell ⟨X,2,Zn⟩ (Zs (Zo ⟨g,0,Zn⟩) (c.length+1) cap)) n x y z A:=by intro x y z A J;refine J.keep (fun b f=>?_) (fun _ h=>h);have:=U b f;rw[F b this.2,q b om (fun e=>by have:=u b e;omega)]
 refine⟨⟨?_,?_,?_,by rw[N];omega,fun b f p=>?_⟩,?_,gh h.names fun r m=>?_,h.short,⟨xs++[c0,c1,c2],?_,fun j hj=>?_⟩,fun b f=>?_⟩;·show W2.os=w.os;rw[a.os,D.1];exact h.near.os
 ·show W2.tape=w.tape;rw[a.tape,D.2.1];exact h.near.tape
 ·show W2.output=w.output;rw[a.output,D.2.2];exact h.near.output
 ·rw[F b p,q b om (fun e=>by have:=u b e;omega)];exact h.near.block b f p
 ·simp[World.setCell,Array.getElem?_modify,s]
 ·have:=C r m;rw[F r om,q r this.2 (h.apart r m)]
 ·rw[List.length_append,List.length_singleton];exact gh l fun r m=>F r (by have:=fU l r m;omega)
 ·by_cases B:j<c.length
  ·obtain⟨y,z,A,⟨Q,R,T⟩,J⟩:=hk j B;have d:∀o v,o<3->xs[j*3+o]?=Zo v->(xs++[c0,c1,c2])[j*3+o]?=Zo v:=fun o v D h=>by rw[List.getElem?_append_left om];exact h
   refine⟨y,z,A,⟨d 0 _ om Q,d 1 _ om R,d 2 _ om T⟩,?_⟩;rw[List.getElem_append_left B];exact k J
  ·have L:j=c.length:=by simp at hj;omega
   subst L;have i:∀o v,o<3->[c0,c1,c2][o]?=Zo v->(xs++[c0,c1,c2])[c.length*3+o]?=Zo v:=fun o v D h=>by rw[List.getElem?_append_right om,O,Nat.add_sub_cancel_left];exact h
   refine⟨c0,c1,c2,⟨i 0 _ om rfl,i 1 _ om rfl,i 2 _ om rfl⟩,?_⟩;have:(c++[t])[c.length]=t:=zS;rw[this];exact k ht
 ·intro e;have e:g=b:=by simpa [Value.ownBlock] using e
  subst e;rcases I with P|P;·exact h.apart g f P
  ·have:=C g f;omega
theorem iE.start(h:w.heap[X]?=Zo (Zc #[Zi Zk so,Zs Zn 0 0,Zs Zn 0 0] 31 (0,0))):iE S X m w w so [] [] (Zs Zn 0 0) (Zs Zn 0 0):=
 ⟨b8.refl _ _,h,World.ownsRow_nil _ _ _ _,fun _ h=>(by cases h),⟨[],World.ownsRow_nil _ _ _ _,fun j h=>absurd h (Nat.not_lt_zero _)⟩,fun b a=>by cases a⟩
theorem iE.kind {B:Nat} {o:List (K m)} (h:iE S X m w wr so ns o nv kv) (n:(Lit.int Zk so).wf=true) (f:∀ b,w.heap.size<=b∨S b->W.heap[b]?=wr.heap[b]?) (u:wr.heap.size<=W.heap.size) (s:ns.length<=20000) (r:o.length<=20000) (t:B<=w.heap.size) :
  a8 (Ov S B Zn W) W (m+1) (⟨so,ns,o⟩:Kd (K m)) (Zi Zk so) nv kv:=by
 obtain⟨v,e,l⟩:=h.kids;have d:=fU h.names;have c:=fU e;refine⟨rfl,n,?_,?_⟩;·refine kg (gh h.names fun g a=>f g (.inl (by have:=d g a;omega))) s h.short fun g a=>?_;have:=d g a;exact .inr ⟨om,om,zS⟩
 ·refine lM (gh e fun g a=>f g (.inl (by have:=c g a;omega))) r (fun g a=>?_) fun j q=>?_;·have:=c g a;exact .inr ⟨om,om,zS⟩
  ·obtain⟨c0,c1,c2,p,k⟩:=l j q;exact⟨c0,c1,c2,p,k.keep (fun b i=>f b (.inr i)) (fun b i=>.inl i)⟩
end Go.Proofs.YtcfojmaccikgeaaGreatDoor
