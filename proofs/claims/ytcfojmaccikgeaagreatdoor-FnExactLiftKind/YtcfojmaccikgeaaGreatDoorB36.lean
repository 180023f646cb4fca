import Derived.Test.YtcfojmaccikgeaaGreatDoorB35
import Derived.Test.YtcfojmaccikgeaaGreatDoorB28
import Derived.Test.YtcfojmaccikgeaaGreatDoorB20
import Derived.Test.YtcfojmaccikgeaaGreatDoorB2
open Go.Value renaming slice→Zs,int→Zi,string→Zt,pointer→Zp,bool→Zb
open Go.IntKind renaming i64→Zk
open Go.Ending renaming returned→Zr
open Option renaming none→Zn,some→Zo
open Go renaming World→Zw,Value→Zv
namespace Go.Proofs.YtcfojmaccikgeaaGreatDoor
open Go.RowKit Go.WideMaps Go.Maps Go.Proofs.Tryz
variable {v:Zv} {S S':Nat->Prop} {w w':Zw} {M:Nat}
def tF(v:Zv):Option (DataW Unit×List MemPlace):=
 match v with
 | Zp (Zo ⟨b,0,Zn⟩)=>Zo (.lit (.int Zk (b:Int)),[])
 | Zp Zn=>Zo (.lit (.int Zk (-1)),[])
 | _=>Zn
theorem xW{z:DataW Unit×List MemPlace}(h:tF v=Zo z):(v=Zp Zn/\z.1=.lit (.int Zk (-1)))∨∃b:Nat,v=Zp (Zo ⟨b,0,Zn⟩)/\z.1=.lit (.int Zk (b:Int)):=by
 unfold tF at h;split at h;·cases h;exact .inr ⟨_,rfl,rfl⟩
 ·cases h;exact .inl ⟨rfl,rfl⟩
 ·cases h
def lU:List (ByteArray×Nat)->DataW Unit
 | []=>.map []
 | p :: r=>(lU r).put (.string p.1.data.toList) (.lit (.int Zk (p.2:Int)))
def qW:List (ByteArray×Nat)->ByteArray->Option Nat
 | [],_=>Zn
 | p :: r,x=>if p.1=x then Zo p.2 else qW r x
theorem BB:∀l,IsMap (lU l):=by
 intro l;induction l with
 | nil=>exact⟨_,rfl⟩
 | cons p r a=>exact a.put _ _
theorem IR(s:ByteArray):∀l,qW l s=Zn->has (lU l) (.string s.data.toList)=false:=by
 intro l;induction l with
 | nil=>intro _;rfl
 | cons p r a=>
  intro h;unfold qW at h;split at h;·cases h
  ·next hne=>
   rw[lU,has_put_other (wR (fun e=>hne e.symm))];exact a h
theorem GH(s:ByteArray)(b:Nat):∀l,qW l s=Zo b->has (lU l) (.string s.data.toList)=true/\∀z,(lU l).atKey (.string s.data.toList) z=.lit (.int Zk (b:Int)):=by
 intro l;induction l with
 | nil=>intro h;cases h
 | cons p r d=>
  intro h;unfold qW at h;split at h
  ·next he=>
   cases h
   subst he;exact⟨has_put_same (BB r) (rT _) _,fun z=>atKey_put_same (BB r) (rT _) _ z⟩
  ·next hne=>
   have c:=wR (a:=s) (b:=p.1) (fun e=>hne e.symm);have:=d h;exact⟨by rw[lU,has_put_other c];exact this.1,fun z=>by rw[lU,atKey_put_other c];exact this.2 z⟩
def pD(S:Nat->Prop)(w:Zw)(M:Nat):jS M->List (ByteArray×Nat)->Prop
 | [],[]=>True
 | p :: r,q :: r'=>p.1=q.1/\d8 S w (M+1) p.2 (Zp (Zo ⟨q.2,0,Zn⟩))/\pD S w M r r'
 | _,_=>False
theorem pD.keep(a:jy S w w')(c:∀b,S b->S' b):∀ {e:jS M} {l:List (ByteArray×Nat)},pD S w M e l->pD S' w' M e l:=by
 intro e;induction e with
 | nil=>intro l h;cases l with|nil=>exact h|cons p r=>exact h
 | cons p r d=>
  intro l h;cases l with
  | nil=>exact h
  | cons q f=>exact⟨h.1,h.2.1.keep a c,d h.2.2⟩
theorem pD.at(s:ByteArray):∀ {e:jS M} {l:List (ByteArray×Nat)},pD S w M e l->(iX e s=Zn/\qW l s=Zn)∨∃k b,iX e s=Zo k/\qW l s=Zo b/\d8 S w (M+1) k (Zp (Zo ⟨b,0,Zn⟩)):=by
 intro e;induction e with
 | nil=>intro l h;cases l with|nil=>exact .inl ⟨rfl,rfl⟩|cons p r=>exact h.elim
 | cons p r m=>
  intro l h;cases l with
  | nil=>exact h.elim
  | cons q o=>
   obtain⟨c,f,i⟩:=h;obtain⟨d,n⟩:=p;obtain⟨g,j⟩:=q;have c:d=g:=c;subst c;unfold iX qW;by_cases a:d=s;·exact .inr ⟨n,j,if_pos a,if_pos a,f⟩
   ·rw[if_neg a,if_neg a];exact m i
def oA(S:Nat->Prop)(w:Zw)(M:Nat)(fr:jS M)(v:Zv):Prop:=
 ∃a l n,v=.map (Zo a)/\S a/\w.ownsMap prog 9 tF a n (lU l)/\pD S w M fr l
theorem oA.keep{fr:jS M}(h:oA S w M fr v)(e:jy S w w')(f:∀b,S b->S' b):oA S' w' M fr v:=by obtain⟨c,l,n,rfl,d,⟨k,a,i,g⟩,j⟩:=h;exact⟨c,l,n,rfl,f c d,⟨k,a,by rw[e c d];exact i,g⟩,j.keep e f⟩
def gK(S:Nat->Prop)(w:Zw)(M:Nat):Nat->jS M->Zv->Prop
 | 0,env,v=>env=[]/\v=Zp Zn
 | n+1,env,v=>∃b o mv fr rest,env=fr++rest/\v=Zp (Zo ⟨b,0,Zn⟩)/\S b/\w.heap[b]?=Zo (.cells #[Zp o,mv] 131 (0,0))/\(∀a,o=Zo a->a.block<b)/\oA S w M fr mv/\gK S w M n rest (Zp o)
theorem gK.keep(e:jy S w w')(c:∀b,S b->S' b):∀ {n:Nat} {env:jS M} {v:Zv},gK S w M n env v->gK S' w' M n env v:=by
 intro n;induction n with
 | zero=>intro env v h;exact h
 | succ n m=>intro env v h;obtain⟨a,o,mv,fr,rest,k,i,d,j,l,g,f⟩:=h;exact⟨a,o,mv,fr,rest,k,i,c a d,by rw[e a d];exact j,l,g.keep e c,m f⟩
theorem gK.ptr{n:Nat}{env:jS M}(h:gK S w M n env v):(env=[]/\v=Zp Zn)∨∃a,v=Zp (Zo ⟨a,0,Zn⟩)/\S a:=by
 cases n with
 | zero=>exact .inl h
 | succ n=>obtain⟨a,o,mv,fr,rest,-,b,c,-⟩:=h;exact .inr ⟨a,b,c⟩
theorem Hc(s:ByteArray):∀(a b:jS M),iX (a++b) s=match iX a s with|Zo k=>Zo k|Zn=>iX b s:=by
 intro a b;induction a with
 | nil=>rfl
 | cons p r d=>
  obtain⟨x,k⟩:=p;have c:∀(l:jS M),iX ((x,k) :: l) s=if x=s then Zo k else iX l s:=fun _=>rfl
  rw[List.cons_append,c,c];by_cases h:x=s;·rw[if_pos h,if_pos h]
  ·rw[if_neg h,if_neg h];exact d
theorem Gk(w:Zw):(zeroValue 82).run prog w=.ok (Zp Zn) w:=by kernel_rfl
theorem oA.look {fr:jS M} (h:oA S w M fr v) (s:ByteArray) (p:s.size<=maxLen) :
  (iX fr s=Zn/\∃c,(Instr.lookup 129 v (Zt s) true).run prog w=.ok (.tuple #[Zp c,Zb false]) w) ∨
  ∃k b,iX fr s=Zo k/\d8 S w (M+1) k (Zp (Zo ⟨b,0,Zn⟩))/\(Instr.lookup 129 v (Zt s) true).run prog w=.ok (.tuple #[Zp (Zo ⟨b,0,Zn⟩),Zb true]) w:=by
 obtain⟨u,l,n,rfl,-,d,q⟩:=h;obtain⟨c,t,a,i⟩:=d.look_ok Tryz.skeyed underlying129 (Gk w) (zd:=.lit (.int Zk (-1))) (zp:=[]) rfl (keyOf_string_mk underlying9 p);rcases q.at s with ⟨g,f⟩|⟨k,b,g,f,o⟩
 ·left;refine⟨g,?_⟩;rw[IR s l f]at a;rcases xW i with ⟨rfl,-⟩|⟨b,rfl,-⟩;·exact⟨_,a⟩
  ·exact⟨_,a⟩
 ·right;refine⟨k,b,g,o,?_⟩;obtain⟨r,j⟩:=GH s b l f;rw[r]at a;rcases xW i with ⟨rfl,e⟩|⟨m,rfl,e⟩;·rw[j]at e;have:=vD e;omega
  ·rw[j]at e;have:=vD e;have:b=m:=om;subst this;exact a
end Go.Proofs.YtcfojmaccikgeaaGreatDoor
namespace Go.Proofs.YtcfojmaccikgeaaGreatDoor
set_option maxRecDepth 100000
set_option maxHeartbeats 16000000
open Go.RowKit Go.WideMaps Go.Maps Go.Proofs.Tryz
def IG:Zv->Nat
 | Zp (Zo a)=>a.block+1
 | _=>0
theorem oG {w:Zw} {N:Nat} {a b:Zv} {t:TypeId} (h:w.heap[N]?=Zo (.cells #[a,b] t (0,0))) :
  w.cell? ⟨N,0,Zn⟩=Zo a/\w.cell? ⟨N,1,Zn⟩=Zo b:=by refine⟨?_,?_⟩<;>simp[World.cell?,h]
def AB(S:Nat->Prop)(M:Nat)(env:jS M)(s:ByteArray)(w:Zw)(e:Ending)(w':Zw):Prop:=
 w'=w/\((iX env s=Zn/\e=Zr (Zp Zn))∨∃k b,iX env s=Zo k/\e=Zr (Zp (Zo ⟨b,0,Zn⟩))/\d8 S w (M+1) k (Zp (Zo ⟨b,0,Zn⟩)))
theorem EN (S:Nat->Prop) (M n:Nat) (env:jS M) (u:Zv) (s:ByteArray) (w:Zw) (h:gK S w M n env u) (D:s.size<=maxLen) :
  Calls prog 155 #[u,Zt s] w (AB S M env s w):=by
 obtain⟨A,rfl⟩:∃A,u=Zp A:=by rcases h.ptr with ⟨-,rfl⟩|⟨r,rfl,-⟩<;>exact⟨_,rfl⟩
 have H:=a7 h;clear h;go_in;go_wp2;go_loopw [0] (fun v wr=>wr=w/\∃f d,gK S w M f d v/\iX env s=iX d s) (fun v _=>IG v);case atStart=>exact⟨rfl,n,env,H.out,rfl⟩
 case round=>
  obtain⟨rfl,f,d,i,e⟩:=hrel;cases f with
  | zero=>obtain⟨rfl,rfl⟩:=i;have y:Hid (AB S M env s wr (Zr (Zp Zn)) wr):=⟨rfl,.inl ⟨e,rfl⟩⟩;clear e;go_wp2;go_ret;exact y.out
  | succ f=>
   obtain⟨r,o,mv,fr,rest,rfl,rfl,F,q,x,m,t⟩:=i;obtain⟨I,G⟩:=oG q;obtain⟨p,rfl⟩:∃p,mv=.map (Zo p):=by obtain⟨p,l,n,h,-⟩:=m;exact⟨p,h⟩
   have E:=a7 t;have C:=a7 x;rw[Hc]at e;rcases m.look s D with ⟨j,c,g⟩|⟨k,b,j,z,g⟩
   ·rw[j]at e;have B:=a7 e;clear e m t x q j;go_wp2;go_roundw;case rel=>exact⟨trivial,f,rest,E.out,B.out⟩
    case measure=>
     show IG (Zp o)<IG (Zp (Zo ⟨r,0,Zn⟩));cases o with
     | none=>exact Nat.succ_pos _
     | some a=>have:=C.out a rfl;show a.block+1<r+1;omega
   ·rw[j]at e;have y:Hid (AB S M env s wr (Zr (Zp (Zo ⟨b,0,Zn⟩))) wr):=⟨rfl,.inr ⟨k,b,e,rfl,z⟩⟩;clear e m t x q j z;go_wp2;go_ret;exact y.out
structure nR(w:Zw)(M:Nat)(s:ByteArray)(kb sb:Nat)(o:Option Addr)(w':Zw):Prop where
 below:Bw w w'
 ge:w.heap.size<=sb
 box:∃mb,w'.heap[sb]?=Zo (.cells #[Zp o,.map (Zo mb)] 131 (0,0))/\w.heap.size<=mb/\mb≠sb/\w'.ownsMap prog 9 tF mb 1 (lU [(s,kb)])
theorem xY (M:Nat) (s:ByteArray) (f:Nat) (w:Zw) (n:s.size<=maxLen) :
  Calls prog 67 #[Zt s,Zp (Zo ⟨f,0,Zn⟩)] w fun e k=>∃h,e=Zr (Zp (Zo ⟨h,0,Zn⟩))/\nR w M s f h Zn k:=by
 have m:∀(w:Zw),(Instr.makeMap 129 Zn).run prog w=.ok (.map (Zo w.heap.size)) (w.alloc (.map #[] 0)):=by intro w;simp[Instr.makeMap,go_sem]
 obtain⟨w1,j,b,a⟩:=(World.ownsMap_made w prog 9 tF).update (t:=129) (e:=82) Tryz.skeyed underlying129 (by unfold maxLen;omega) (keyOf_string_mk underlying9 n) (val:=Zp (Zo ⟨f,0,Zn⟩)) (d:=.lit (.int Zk (f:Int))) (ps:=[]) rfl;have g:w1.heap.size=w.heap.size+1∨w.heap.size+1<=w1.heap.size:=.inr (by have:=a.size;simpa using this);have o:w.heap.size+1<=w1.heap.size:=om;have c:Bw w w1:=(gF _ (.map #[] 0)).grown a zS (fun q i=>by injection i with i;omega);have l:Hid (nR w M s f w1.heap.size Zn (w1.alloc (.cells #[Zp Zn,.map (Zo w.heap.size)] 131))):=
  ⟨c.alloc om _,om,w.heap.size,heap_alloc_new _ _,Nat.le_refl _,om,b.alloc _⟩
 clear b a c g;go_in;go_wp2;go_ret;exact⟨_,rfl,l.out⟩
theorem nR.on {S:Nat->Prop} {w w':Zw} {M n:Nat} {env:jS M} {s:ByteArray} {k:K (M+1)} {f e:Nat} {o:Option Addr} (h:nR w M s f e o w') (g:Bd S w) (q:d8 S w (M+1) k (Zp (Zo ⟨f,0,Zn⟩))) (c:gK S w M n env (Zp o)) :
  gK (Ov S w.heap.size Zn w') w' M (n+1) ((s,k) :: env) (Zp (Zo ⟨e,0,Zn⟩)):=by
 obtain⟨l,j,p,u,m⟩:=h.box;have i:=(Array.getElem?_eq_some_iff.1 j).1;refine⟨e,o,.map (Zo l),[(s,k)],env,rfl,rfl,.inr ⟨h.ge,i,zS⟩,j,fun a r=>?_,⟨l,[(s,f)],1,rfl,.inr ⟨p,m.lt,zS⟩,m,⟨rfl,q.keep (a6 h.below g) fun _ h=>.inl h,trivial⟩⟩,c.keep (a6 h.below g) fun _ h=>.inl h⟩;subst r;rcases c.ptr with ⟨-,b⟩|⟨d,b,t⟩;·cases b
 ·injection b with b;injection b with b;rw[b];have:=g d t;have:=h.ge;show d<e;omega
theorem qd (S:Nat->Prop) (M n:Nat) (env:jS M) (p:Zv) (s:ByteArray) (k:K (M+1)) (l:Nat) (w:Zw) (d:gK S w M n env p) (t:d8 S w (M+1) k (Zp (Zo ⟨l,0,Zn⟩))) (z:Bd S w) (y:s.size<=maxLen) :
  Calls prog 168 #[p,Zt s,Zp (Zo ⟨l,0,Zn⟩)] w fun e q=>∃a,e=Zr (Zp (Zo ⟨a,0,Zn⟩))/\Bw w q/\gK (Ov S w.heap.size Zn q) q M (n+1) ((s,k) :: env) (Zp (Zo ⟨a,0,Zn⟩)):=by
 obtain⟨j,rfl⟩:∃j,p=Zp j:=by rcases d.ptr with ⟨-,rfl⟩|⟨a,rfl,-⟩<;>exact⟨_,rfl⟩
 have r:Hid (Calls prog 67 _ _ _):=xY M s l w y;have A:=a7 d;have x:=a7 t;clear d t;go_in;go_wp2_with fail;refine r.out.mono ?_;rintro e w1 ⟨a,rfl,m⟩;have i:=m.ge;obtain⟨u,g,o,h,b⟩:=m.box;have B:=(Array.getElem?_eq_some_iff.1 g).1;have C:=(oG g).1;have f0:w1.frozen? ⟨a,0,Zn⟩=false:=by simp[World.frozen?,g]
 have f:Hid (nR w M s l a j (w1.setCell ⟨a,0,Zn⟩ (Zp j))):=
  ⟨m.below.setCell i _,i,u,by simp[World.setCell,Array.getElem?_modify,g],o,h,b.setCell (by show u≠a;exact h) _⟩
 clear r m g b;go_wp2;go_ret;exact⟨a,rfl,f.out.below,f.out.on z x.out A.out⟩
end Go.Proofs.YtcfojmaccikgeaaGreatDoor
namespace Go.Proofs.YtcfojmaccikgeaaGreatDoor
open Go.RowKit Go.Proofs.Tryz
set_option maxRecDepth 100000
set_option maxHeartbeats 16000000
variable {S:Nat->Prop} {w:Zw} {n M:Nat} {v c:Zv}
theorem d8.drew{t:K n}(h:d8 S w n t v):d8 S w.drew n t v:=d8.keep (w:=w) (w':=w.drew) (fun _ _=>rfl) (fun _ h=>h) h
theorem gK.drew{env:jS M}(h:gK S w M n env v):gK S w.drew M n env v:=gK.keep (w:=w) (w':=w.drew) (fun _ _=>rfl) (fun _ h=>h) h
theorem AY (l:List Int) (x:Int) (b off cap:Nat) (w:Zw) (f:∀ i (h:i<l.length),w.cell? ⟨b,off+i,Zn⟩=Zo (Zi Zk l[i])) (t:l.length<=100) :
  Calls prog 193 #[Zs (Zo ⟨b,off,Zn⟩) l.length cap,Zi Zk x] w fun e p=>p=w/\((x∈l/\∃i:Nat,i<l.length/\e=Zr (Zi Zk i))∨(x ∉ l/\e=Zr (Zi Zk (-1)))):=by
 go_in;go_wp2;go_loopw [8] (fun i wr=>wr=w/\∃k:Nat,k<=l.length/\i=Zi Zk k/\∀j (h:j<l.length),j<k->l[j]≠x) (fun i _=>l.length-(intOf i).toNat);case atStart=>exact⟨rfl,0,Nat.zero_le _,rfl,fun j _ h=>absurd h (Nat.not_lt_zero _)⟩
 case round=>
  obtain⟨rfl,k,s,rfl,a⟩:=hrel;by_cases c:k<l.length
  ·have d:=f k c;by_cases m:x=l[k]
   ·have g:Hid (x∈l):=by show _∈_;rw[m];exact List.getElem_mem c
    clear f a;rw[<- m]at d;go_wp2;go_ret;exact⟨rfl,.inl ⟨g.out,k,c,rfl⟩⟩
   ·have q:Hid (∀ j (h:j<l.length),j<k+1->l[j]≠x):=fun j h n=>by
     by_cases e:j=k;·subst e;exact fun e=>m e.symm
     ·exact a j h om
    have r:=a7 f;generalize l[k]=y at *;clear f a;go_wp2;go_roundw;case rel=>exact⟨trivial,k+1,om,by go_num,q.out⟩
    case measure=>simp[intOf];omega
  ·have g:Hid (x ∉ l):=fun o=>by obtain⟨j,n,e⟩:=List.getElem_of_mem o;exact a j n om e
   clear f a;go_wp2;go_ret;exact⟨rfl,.inr ⟨g.out,rfl⟩⟩
theorem uv (l:List Int) (x:Int) (b off cap:Nat) (w:Zw) (d:∀ i (h:i<l.length),w.cell? ⟨b,off+i,Zn⟩=Zo (Zi Zk l[i])) (g:l.length<=100) :
  Calls prog 153 #[Zs (Zo ⟨b,off,Zn⟩) l.length cap,Zi Zk x] w fun e f=>f=w/\e=Zr (Zb (decide (x∈l))):=by
 have c:Hid (Calls prog 193 _ _ _):=AY l x b off cap w d g;clear d;go_in;go_wp2_with fail;refine c.out.mono ?_;rintro e w1 ⟨rfl,⟨a,i,hi,rfl⟩|⟨a,rfl⟩⟩;·clear c;go_wp2;go_ret;exact⟨rfl,b6 (by simp[a])⟩
 ·clear c;go_wp2;go_ret;exact⟨rfl,b6 (by simp[a])⟩
def uC(S:Nat->Prop)(w:Zw)(M:Nat)(k:K (M+1))(c:Zv):Prop:=(gV (M+1) k=true/\d8 S w (M+1) k c)∨(k=zU/\c=Zp Zn)
theorem uC.keep{S':Nat->Prop}{w':Zw}{k:K (M+1)}(h:uC S w M k c)(a:jy S w w')(d:∀b,S b->S' b):uC S' w' M k c:=by
 rcases h with h|h;·exact .inl ⟨h.1,h.2.keep a d⟩
 ·exact .inr h
theorem uC.ptr{k:K (M+1)}(h:uC S w M k c):∃a,c=Zp a:=by
 rcases h with h|h;·obtain⟨b,e,-⟩:=h.2.ptr;exact⟨_,e⟩
 ·exact⟨_,h.2⟩
structure mG(S:Nat->Prop)(w:Zw)(M m lb:Nat)(t:T (m+1))(at':Nat)(env:jS M)(sk:K (M+1))(ks:List (K (M+1))):Prop where
 box:∃n c0 c1 c2 c3 c4 sv skv kv,w.heap[lb]?=Zo (.cells #[c0,c1,c2,c3,c4,Zi Zk (at':Int),sv,skv,kv] 144 (0,0))/\fZ S w (m+1) t c0 c1 c2 c3 c4/\gK S w M n env sv/\uC S w M sk skv/\lx S w (uC S w M) ks kv
theorem iD {N:Nat} {a b d e f g h i:Zv} {t:TypeId} (j:w.heap[N]?=Zo (.cells #[a,b,c,d,e,f,g,h,i] t (0,0))) :
  w.cell? ⟨N,0,Zn⟩=Zo a/\w.cell? ⟨N,1,Zn⟩=Zo b/\w.cell? ⟨N,2,Zn⟩=Zo c/\w.cell? ⟨N,3,Zn⟩=Zo d/\w.cell? ⟨N,4,Zn⟩=Zo e/\w.cell? ⟨N,5,Zn⟩=Zo f/\w.cell? ⟨N,6,Zn⟩=Zo g/\w.cell? ⟨N,7,Zn⟩=Zo h/\w.cell? ⟨N,8,Zn⟩=Zo i:=by refine⟨?_,?_,?_,?_,?_,?_,?_,?_,?_⟩<;>simp[World.cell?,j]
theorem mG.kid {m e:Nat} {t:T (m+1)} {d:Nat} {env:jS M} {l:K (M+1)} {a:List (K (M+1))} (h:mG S w M m e t d env l a) (i:Nat) (hi:i<a.length) :
  ∃g o cap c,w.cell? ⟨e,8,Zn⟩=Zo (Zs (Zo ⟨g,o,Zn⟩) a.length cap)/\w.cell? ⟨g,o+i,Zn⟩=Zo c/\uC S w M a[i] c:=by obtain⟨n,c0,c1,c2,c3,c4,v,r,u,q,-,-,-,x,cap,rfl,s,k⟩:=h.box;obtain⟨g,o,rfl,-,b⟩:=k (fun p=>by rw[p]at hi;simp at hi);obtain⟨c,j,f⟩:=b i hi;exact⟨g,o,cap,c,(iD q).2.2.2.2.2.2.2.2,j,f⟩
theorem AC{b:Nat}{k:K (n+1)}(h:d8 S w (n+1) k (Zp (Zo ⟨b,0,Zn⟩))):w.cell? ⟨b,0,Zn⟩=Zo (Zi Zk (Kd.sort k)):=by obtain⟨e,f,d,i,a,g,c,-⟩:=h;injection a with a;injection a with a;injection a with a;subst a;exact (kP c).1
theorem yi (l:List Int) (s:Int) (lo:Option Addr) (d a b off cap:Nat) (w:Zw) (o:w.cell? ⟨a,0,Zn⟩=Zo (Zs (Zo ⟨b,off,Zn⟩) l.length cap)) (j:∀ i (h:i<l.length),w.cell? ⟨b,off+i,Zn⟩=Zo (Zi Zk l[i])) (q:l.length<=100) (m:w.cell? ⟨d,0,Zn⟩=Zo (Zi Zk s)) :
  Calls prog 152 #[Zp lo,Zp (Zo ⟨d,0,Zn⟩),Zp (Zo ⟨a,0,Zn⟩)] w fun e c=>e=Zr (Zb (decide (s∈l)))/\Bw w c:=by have f:Bw w w.drew:=(Below.refl _ _).drew;have g:Hid (Calls prog 153 _ _ _):=uv l s b off cap w.drew j q;have k:w.drew.cell? ⟨a,0,Zn⟩=Zo (Zs (Zo ⟨b,off,Zn⟩) l.length cap):=o;have p:w.drew.cell? ⟨d,0,Zn⟩=Zo (Zi Zk s):=m;clear j o m;go_in;go_upto_region 1 with fail;refine wp_region_held_drew (S:=fun c=>c.cell? ⟨a,0,Zn⟩=Zo (Zs (Zo ⟨b,off,Zn⟩) l.length cap)/\c.cell? ⟨d,0,Zn⟩=Zo (Zi Zk s)) zK ⟨k,p⟩ (fun hHeld=>?_);generalize w.drew=V at *;refine tk 0 ?_;refine tk 1 ?_;refine tk 2 ?_;refine tk 3 ?_;refine tk 4 ?_;refine iT 5 fun K hK=>?_;go_simp;go_at_call 153;refine g.out.mono ?_;rintro e w1 ⟨rfl,rfl⟩;refine hK.out _ _ ⟨k,p⟩ (fun hHeld=>?_);clear hK K g;refine tk 6 ?_;refine wpAnyH_done zK ?_ _;go_simp;go_wp2;go_ret;exact⟨rfl,f⟩
theorem wh(a b:Option Addr)(w:Zw):Calls prog 122 #[Zp a,Zp b] w fun e d=>e=Zr (Zb true)/\Bw w d:=by have c:=Below.refl w.heap.size w;go_in;go_wp2;go_ret;exact⟨rfl,c⟩
theorem CJ (n:Nat) (S:Nat->Prop) (a b:K n) (m g o d cap i j s p:Nat) (w:Zw) (A:Bd S w) (t:w.cell? ⟨m,8,Zn⟩=Zo (Zs (Zo ⟨g,o,Zn⟩) d cap)) (hi:i<d) (_hln:d<=1000) (u:w.cell? ⟨p,0,Zn⟩=Zo (Zi Zk (i:Int)))
  (q:w.cell? ⟨g,o+i,Zn⟩=Zo (Zp (Zo ⟨j,0,Zn⟩))) (x:d8 S w n a (Zp (Zo ⟨j,0,Zn⟩))) (D:d8 S w n b (Zp (Zo ⟨s,0,Zn⟩))) (f:gV n a=true) (l:gV n b=true) :
  Calls prog 160 #[Zp (Zo ⟨m,0,Zn⟩),Zp (Zo ⟨s,0,Zn⟩),Zp (Zo ⟨p,0,Zn⟩)] w fun e k=>e=Zr (Zb (d9 n b==d9 n a))/\Bw w k:=by have h:Bw w w.drew:=(Below.refl _ _).drew;have B:Hid (Calls prog 161 #[Zp (Zo ⟨j,0,Zn⟩),Zp (Zo ⟨s,0,Zn⟩)] w.drew _):=ls x.drew D.drew A f l;have C:w.drew.cell? ⟨m,8,Zn⟩=Zo (Zs (Zo ⟨g,o,Zn⟩) d cap):=t;have z:w.drew.cell? ⟨p,0,Zn⟩=Zo (Zi Zk (i:Int)):=u;have v:w.drew.cell? ⟨g,o+i,Zn⟩=Zo (Zp (Zo ⟨j,0,Zn⟩)):=q;have F:=b8 t;have I:=b8 u;have E:=b8 q;have H:(i:Int)<(d:Int):=om;clear q t u x D f l A;go_in;go_upto_region 1 with fail;refine wp_region_held_drew (S:=fun k=>k.cell? ⟨m,8,Zn⟩=Zo (Zs (Zo ⟨g,o,Zn⟩) d cap)/\k.cell? ⟨p,0,Zn⟩=Zo (Zi Zk (i:Int))/\k.cell? ⟨g,o+i,Zn⟩=Zo (Zp (Zo ⟨j,0,Zn⟩))) zK ⟨C,z,v⟩ (fun hHeld=>?_);have G:w.drew.heap.size=w.heap.size:=rfl;generalize w.drew=V at *;refine tk 0 ?_;refine tk 1 ?_;refine tk 2 ?_;refine tk 3 ?_;refine tk 4 ?_;refine tk 5 ?_;refine tk 6 ?_;refine tk 7 ?_;refine iT 8 fun K hK=>?_;go_simp;go_at_call 161;refine B.out.mono ?_;rintro e w1 ⟨rfl,c⟩;refine hK.out _ _ ⟨kC c C om,kC c z om,kC c v om⟩ (fun hHeld=>?_);have r:=h.trans (c.mono h.size);clear hK K B c;refine tk 9 ?_;refine wpAnyH_done zK ?_ _;go_simp;go_wp2;go_ret;exact⟨rfl,r⟩
theorem sD (M:Nat) (S:Nat->Prop) (a b:K (M+1)) (q g o u cap k n:Nat) (w:Zw) (v:Bd S w) (D:w.cell? ⟨q,8,Zn⟩=Zo (Zs (Zo ⟨g,o,Zn⟩) (u+1) cap)) (_hln:u<=1000)
  (C:w.cell? ⟨g,o,Zn⟩=Zo (Zp (Zo ⟨k,0,Zn⟩))) (t:d8 S w (M+1) a (Zp (Zo ⟨k,0,Zn⟩))) (x:d8 S w (M+1) b (Zp (Zo ⟨n,0,Zn⟩))) (h:gV (M+1) a=true) (i:gV (M+1) b=true) (A:Kd.sort a=6) :
  Calls prog 130 #[Zp (Zo ⟨q,0,Zn⟩),Zp (Zo ⟨n,0,Zn⟩)] w fun e z=>e=Zr (Zb (jA b (mN a)))/\Bw w z:=by obtain⟨c,B,y,d,r,l,j,f⟩:=t.within h (.inr A);have p:Hid (Calls prog 167 _ w _):=k8 w k B y 0 d r l j om;have s:Hid (Calls prog 161 #[Zp (Zo ⟨r,0,Zn⟩),Zp (Zo ⟨n,0,Zn⟩)] w _):=ls f x v c i;clear t x v h i f c;go_in;go_wp2_with fail;refine p.out.mono ?_;rintro e w1 ⟨rfl,rfl⟩;clear p;go_wp2_with fail;refine s.out.mono ?_;rintro e w1 ⟨rfl,m⟩;clear s;go_wp2;go_ret;exact⟨rfl,m⟩
theorem xi (M:Nat) (S:Nat->Prop) (a b:K (M+1)) (i h g:Nat) (w:Zw) (j:Bd S w) (o:w.cell? ⟨i,7,Zn⟩=Zo (Zp (Zo ⟨h,0,Zn⟩)))
  (m:d8 S w (M+1) a (Zp (Zo ⟨h,0,Zn⟩))) (k:d8 S w (M+1) b (Zp (Zo ⟨g,0,Zn⟩))) (c:gV (M+1) a=true) (d:gV (M+1) b=true) :
  Calls prog 131 #[Zp (Zo ⟨i,0,Zn⟩),Zp (Zo ⟨g,0,Zn⟩)] w fun e n=>e=Zr (Zb (jA b a))/\Bw w n:=by have l:Hid (Calls prog 161 #[Zp (Zo ⟨h,0,Zn⟩),Zp (Zo ⟨g,0,Zn⟩)] w _):=ls m k j c d;clear m k j c d;go_in;go_wp2_with fail;refine l.out.mono ?_;rintro e w1 ⟨rfl,f⟩;clear l;go_wp2;go_ret;exact⟨rfl,f⟩
end Go.Proofs.YtcfojmaccikgeaaGreatDoor
