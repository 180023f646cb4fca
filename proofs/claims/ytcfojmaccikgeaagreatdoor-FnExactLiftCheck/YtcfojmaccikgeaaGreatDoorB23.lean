import Derived.Test.YtcfojmaccikgeaaGreatDoorB22
import Derived.Deep.RegionHeld
open Go.Value renaming slice→Zs,int→Zi,string→Zt,agg→Za
open Go.IntKind renaming i64→Zk
open Go.Ending renaming returned→Zr
open Go.Obj renaming cells→Zc
open Option renaming none→Zn,some→Zo
open Go renaming World→Zw,Value→Zv
open Bool renaming and_eq_true→Zq
open Nat renaming lt_of_lt_of_le→Zd,zero_le→ZE
open List renaming getElem_mem→Zg
namespace Go.Proofs.YtcfojmaccikgeaaGreatDoor
open Go.RowKit Go.Proofs.Tryz
set_option maxRecDepth 100000
set_option maxHeartbeats 16000000
variable {m j M pl:Nat} {a:ZN} {α:Type}
def E0(m:Nat):Prop:=∀(S:ZP)(t:T m)(c0 c1 c2 c3 c4:Zv)(w:Zw),fT S w m t c0 c1 c2 c3 c4->(Bd S w)->d9 m t<=1048576 ->
 Calls prog 101 #[Za #[c0,c1,c2,c3,c4]] w fun e a=>e=Zr (Zi Zk (d9 m t:Nat))/\Bw w a
theorem lO(l:List (T m)):∀j,b4 (fun k=>d9 m k) (l.take j)<=b4 (fun k=>d9 m k) l:=by intro j;have:=iq (fun k=>d9 m k) (l.take j) (l.drop j);rw[List.take_append_drop]at this;omega
theorem yE{l:List (T m)}(h:j<l.length):d9 m l[j]<=b4 (fun k=>d9 m k) l:=gK _ _ _ (Zg h)
theorem Fq(t:T m):1<=d9 m t:=by
 cases m with
 | zero=>exact Empty.elim (show Empty from t)
 | succ m=>simp only[d9];omega
theorem mR(l:List (T m)):l.length<=b4 (fun k=>d9 m k) l:=by
 induction l with
 | nil=>simp
 | cons a r b=>have:=Fq a;simp only[b4,List.length_cons];omega
def xC{m:Nat}(l:List (T m))(i:Nat):Nat:=1+b4 (fun k=>d9 m k) (l.take i)
theorem wU(m:Nat)(hn:E0 m):E0 (m+1):=by
 intro S t c0 c1 c2 c3 c4 w ht A f;obtain⟨rfl,rfl,rfl,hs,P,Q,h3,G,⟨na,nl,V,rfl,J⟩,⟨T,kl,U,rfl,K⟩⟩:=ht;obtain⟨_,_,O,-⟩:=id h3;cases O
 obtain⟨_,_,O,z,-⟩:=id G;cases O
 have f:1+b4 (fun k=>d9 m k) (Nd.kids t)<=1048576:=f;have x:=mR (Nd.kids t);have HP:=a7 (lO (Nd.kids t));have E:Hid (∀k (h:k<(Nd.kids t).length),d9 m (Nd.kids t)[k]<=1048576):=fun k h=>by have:=yE h;omega
 have F:Hid (∀k (h:k<(Nd.kids t).length),b4 (fun k=>d9 m k) ((Nd.kids t).take (k+1))=b4 (fun k=>d9 m k) ((Nd.kids t).take k)+d9 m (Nd.kids t)[k]):=fun k h=>fQ _ _ _ h;have X:Hid (d9 (m+1) t=xC (Nd.kids t) (Nd.kids t).length):=by show _=_;unfold xC;rw[List.take_length];rfl
 have ab:(Nd.kids t).length<=1048576:=om;have D:=a7 f;clear z f x;have o:=(Below.refl w.heap.size w).alloc (Nat.le_refl _) (Zc #[Zi Zk (Nd.sort t),Zi Zk (Nd.num t),Zt (Nd.text t),Zs na (Nd.names t).length V,Zs T (Nd.kids t).length U] 40);have hK:=G.keepN (a6 o A) (fun _ h=>h);obtain⟨W,B⟩:=ii (w.alloc (Zc #[Zi Zk (Nd.sort t),Zi Zk (Nd.num t),Zt (Nd.text t),Zs na (Nd.names t).length V,Zs T (Nd.kids t).length U] 40));have p:=heap_alloc_last w (Zc #[Zi Zk (Nd.sort t),Zi Zk (Nd.num t),Zt (Nd.text t),Zs na (Nd.names t).length V,Zs T (Nd.kids t).length U] 40);have R:w.heap.size<W.heap.size:=by rw[B];simp
 obtain⟨z0,z1,z2,z3,z4⟩:=fZ p;rw[<- B]at o hK z4;have s:=a7 o;clear h3 G o p z0 z1 z2 z3 J K hs Q P;go_in;go_wp2_with fail;rw[<- B];clear B;obtain⟨_,_,M,-,d⟩:=hK;cases M
 go_loopw [3,4] (fun a i wr=>∃j:Nat,j<=(Nd.kids t).length/\i=Zi Zk j/\a=Zi Zk ((xC (Nd.kids t) j:Nat))/\Bw W wr) (fun _ i _=>(Nd.kids t).length-(intOf i).toNat);case atStart=>exact⟨0,ZE _,rfl,rfl,Below.refl _ _⟩
 case round=>
  obtain⟨j,hj,rfl,rfl,c⟩:=hrel;have ac:=c.size;have q4:=kC c z4 R;by_cases n:j<(Nd.kids t).length
  ·obtain⟨b,off,rfl,I,l⟩:=d (by intro h;rw[h]at n;simp at n);obtain⟨x0,x1,x2,x3,x4,Y,Z,e2,e3,e4,r⟩:=l j n;obtain⟨y0,y1,y2,ya,yl,yc,za,zl,zc,rfl,rfl,rfl,rfl,rfl⟩:=r.shape;have aa:=A b I;have f0:=kC c Y om;have f1:=kC c Z om;have f2:=kC c e2 om;have f3:=kC c e3 om;have f4:=kC c e4 om;have qq:=r.keep (a6 c (fun b H=>by have:=A b H;omega)) (fun _ h=>h);have u:=a7 (hn S (Nd.kids t)[j] _ _ _ _ _ wr qq (fun b H=>by have:=A b H;omega) (E.out j n));have h1:=HP.out (j+1);have L:=D.out;have g:Hid (xC (Nd.kids t) (j+1)=xC (Nd.kids t) j+d9 m (Nd.kids t)[j]):=by show _=_;unfold xC;rw[F.out j n];omega
   have N:xC (Nd.kids t) (j+1)<=1048576:=by unfold xC;omega
   rw[g.out]at N;generalize xC (Nd.kids t) j=cs at *;generalize d9 m (Nd.kids t)[j]=cv at *;have ad:IntKind.i64.wrap ((cs:Int)+(cv:Int))=((cs+cv:Nat):Int):=by rw[IntKind.wrap_i64];omega
   have q:=a7 c;clear d l Y Z e2 e3 e4 r qq c h1 L;go_wp2_with fail;refine u.out.mono ?_;rintro e w2 ⟨rfl,v⟩;have C:=a7 (q.out.trans (v.mono q.out.size));clear v f0 f1 f2 f3 f4 q4 u q;go_wp2;go_roundw;case rel=>exact⟨j+1,om,by go_num,by rw[g.out];go_num,C.out⟩
   case measure=>simp[intOf];omega
  ·have y:j=(Nd.kids t).length:=by omega
   have HQ:=a7 (s.out.trans (c.mono s.out.size));rw[<- y]at X;clear d y;go_wp2;go_ret;exact⟨fJ (by rw[X.out]),HQ.out⟩
theorem yO:∀m,E0 m:=by
 intro m;induction m with
 | zero=>intro S t c0 c1 c2 c3 c4 w a;exact a.elim
 | succ m b=>exact wU m b
def fK{m:Nat}(l:List (T m))(i pl:Nat):Nat:=pl+1+b4 (fun k=>d9 m k) (l.take i)
theorem ng (m:Nat) (S:ZP) (t:T (m+1)) (c0 c1 c2 c3 c4:Zv) (i pl:Nat) (w:Zw) (ht:fT S w (m+1) t c0 c1 c2 c3 c4) (A:Bd S w) (g:d9 (m+1) t<=1048576) (hi:i<=(Nd.kids t).length) (ad:pl<=1048576) :
  Calls prog 75 #[Za #[c0,c1,c2,c3,c4],Zi Zk (i:Int),Zi Zk (pl:Int)] w fun e w'=>e=Zr (Zi Zk (fK (Nd.kids t) i pl:Nat))/\Bw w w':=by
 obtain⟨rfl,rfl,rfl,hs,Q,R,h3,G,⟨na,nl,Y,rfl,J⟩,⟨V,kl,X,rfl,K⟩⟩:=ht;obtain⟨_,_,P,-⟩:=id h3;cases P
 obtain⟨_,_,P,z,-⟩:=id G;cases P
 have g:1+b4 (fun k=>d9 m k) (Nd.kids t)<=1048576:=g;have y:=mR (Nd.kids t);have HP:=a7 (lO (Nd.kids t));have E:Hid (∀k (h:k<(Nd.kids t).length),d9 m (Nd.kids t)[k]<=1048576):=fun k h=>by have:=yE h;omega
 have F:Hid (∀k (h:k<(Nd.kids t).length),b4 (fun k=>d9 m k) ((Nd.kids t).take (k+1))=b4 (fun k=>d9 m k) ((Nd.kids t).take k)+d9 m (Nd.kids t)[k]):=fun k h=>fQ _ _ _ h;have ab:(Nd.kids t).length<=1048576:=om;have D:=a7 g;have af:IntKind.i64.wrap ((pl:Int)+1)=((pl+1:Nat):Int):=by rw[IntKind.wrap_i64];omega
 clear z g y;have o:=(Below.refl w.heap.size w).alloc (Nat.le_refl _) (Zc #[Zi Zk (Nd.sort t),Zi Zk (Nd.num t),Zt (Nd.text t),Zs na (Nd.names t).length Y,Zs V (Nd.kids t).length X] 40);have hK:=G.keepN (a6 o A) (fun _ h=>h);obtain⟨W,B⟩:=ii (w.alloc (Zc #[Zi Zk (Nd.sort t),Zi Zk (Nd.num t),Zt (Nd.text t),Zs na (Nd.names t).length Y,Zs V (Nd.kids t).length X] 40));have p:=heap_alloc_last w (Zc #[Zi Zk (Nd.sort t),Zi Zk (Nd.num t),Zt (Nd.text t),Zs na (Nd.names t).length Y,Zs V (Nd.kids t).length X] 40);have U:w.heap.size<W.heap.size:=by rw[B];simp
 obtain⟨z0,z1,z2,z3,z4⟩:=fZ p;rw[<- B]at o hK z4;have s:=a7 o;clear h3 G o p z0 z1 z2 z3 J K hs R Q;go_in;go_wp2_with fail;rw[<- B];clear B;obtain⟨_,_,N,-,f⟩:=hK;cases N
 go_loopw [2,7] (fun a x wr=>∃j:Nat,j<=i/\x=Zi Zk j/\a=Zi Zk (fK (Nd.kids t) j pl:Nat)/\Bw W wr) (fun _ x _=>i-(intOf x).toNat);case atStart=>exact⟨0,ZE _,rfl,rfl,Below.refl _ _⟩
 case round=>
  obtain⟨j,hj,rfl,rfl,c⟩:=hrel;have ae:=c.size;have q4:=kC c z4 U;by_cases ac:j<i
  ·have d:j<(Nd.kids t).length:=by omega
   obtain⟨b,off,rfl,I,n⟩:=f (by intro h;rw[h]at d;simp at d);obtain⟨x0,x1,x2,x3,x4,Z,e1,e2,e3,e4,r⟩:=n j d;obtain⟨y0,y1,y2,ya,yl,yc,za,zl,zc,rfl,rfl,rfl,rfl,rfl⟩:=r.shape;have aa:=A b I;have f0:=kC c Z om;have f1:=kC c e1 om;have f2:=kC c e2 om;have f3:=kC c e3 om;have f4:=kC c e4 om;have qq:=r.keep (a6 c (fun b H=>by have:=A b H;omega)) (fun _ h=>h);have u:=a7 (yO m S (Nd.kids t)[j] _ _ _ _ _ wr qq (fun b H=>by have:=A b H;omega) (E.out j d));have h1:=HP.out (j+1);have L:=D.out;have l:Hid (fK (Nd.kids t) (j+1) pl=fK (Nd.kids t) j pl+d9 m (Nd.kids t)[j]):=by show _=_;unfold fK;rw[F.out j d];omega
   have O:fK (Nd.kids t) (j+1) pl<=3000000:=by unfold fK;omega
   rw[l.out]at O;generalize fK (Nd.kids t) j pl=cs at *;generalize d9 m (Nd.kids t)[j]=cv at *;have ag:IntKind.i64.wrap ((cs:Int)+(cv:Int))=((cs+cv:Nat):Int):=by rw[IntKind.wrap_i64];omega
   have q:=a7 c;clear f n Z e1 e2 e3 e4 r qq c h1 L;go_wp2_with fail;refine u.out.mono ?_;rintro e w2 ⟨rfl,v⟩;have C:=a7 (q.out.trans (v.mono q.out.size));clear v f0 f1 f2 f3 f4 q4 u q;go_wp2;go_roundw;case rel=>exact⟨j+1,om,by go_num,by rw[l.out];go_num,C.out⟩
   case measure=>simp[intOf];omega
  ·have M:j=i:=by omega
   have HQ:=a7 (s.out.trans (c.mono s.out.size));subst M;clear f;go_wp2;go_ret;exact⟨rfl,HQ.out⟩
def io{M:Nat}(sn:mq M)(m:Nat)(t:T (m+1))(env:jE M)(pl:Nat):List (K (M+1))×Int×Nat:=
 l8 (gR sn m) (d9 m) (fun i a=>jU (Nd.sort t) (Nd.names t) i a env) (b7 (Nd.sort t) ((iy sn (show Nd (T m) from t)).getD zU)) (Nd.kids t) [] (pl+1)
structure qv{M:Nat}(sn:mq M)(m:Nat)(t:T (m+1))(env:jE M)(pl j:Nat)(ks:List (K (M+1))):Prop where
 len:ks.length=j
 eq:io sn m t env pl=l8 (gR sn m) (d9 m) (fun i ks=>jU (Nd.sort t) (Nd.names t) i ks env) (b7 (Nd.sort t) ((iy sn (show Nd (T m) from t)).getD zU)) ((Nd.kids t).drop j) ks (fK (Nd.kids t) j pl)
 want:∀i (h:i<ks.length),b7 (Nd.sort t) ((iy sn (show Nd (T m) from t)).getD zU) i ks[i] (ks.take i)=true
theorem qv.start(sn:mq M)(m:Nat)(t:T (m+1))(env:jE M)(pl:Nat):qv sn m t env pl 0 []:=
 ⟨rfl,by unfold io fK;rfl,fun i h=>absurd h (Nat.not_lt_zero _)⟩
def mC{M:Nat}(sn:mq M)(m:Nat)(t:T (m+1))(env:jE M)(pl j:Nat)(a:List (K (M+1)))(k:T m):K (M+1)×Int×Nat:=
 gR sn m k (jU (Nd.sort t) (Nd.names t) j a env) (fK (Nd.kids t) j pl)
theorem qv.bad {sn:mq M} {t:T (m+1)} {env:jE M} {a:List (K (M+1))} (h:qv sn m t env pl j a) (c:j<(Nd.kids t).length) (b:(mC sn m t env pl j a (Nd.kids t)[j]).2.1≠0) :
  io sn m t env pl=([],(mC sn m t env pl j a (Nd.kids t)[j]).2):=by unfold mC at b ⊢;rw[h.eq,List.drop_eq_getElem_cons c,l8,h.len];exact if_pos b
theorem qv.wrong {sn:mq M} {t:T (m+1)} {env:jE M} {a:List (K (M+1))} (h:qv sn m t env pl j a) (d:j<(Nd.kids t).length) (b:(mC sn m t env pl j a (Nd.kids t)[j]).2.1=0) (c:b7 (Nd.sort t) ((iy sn (show Nd (T m) from t)).getD zU) j (mC sn m t env pl j a (Nd.kids t)[j]).1 a=false) :
  io sn m t env pl=([],6,fK (Nd.kids t) j pl):=by unfold mC at b c;rw[h.eq,List.drop_eq_getElem_cons d,l8,h.len];exact (if_neg (by rw[b];simp)).trans (if_neg (by rw[c];simp))
theorem qv.next {sn:mq M} {t:T (m+1)} {env:jE M} {a:List (K (M+1))} (h:qv sn m t env pl j a) (f:j<(Nd.kids t).length) (l:(mC sn m t env pl j a (Nd.kids t)[j]).2.1=0) (g:b7 (Nd.sort t) ((iy sn (show Nd (T m) from t)).getD zU) j (mC sn m t env pl j a (Nd.kids t)[j]).1 a=true) :
  qv sn m t env pl (j+1) (a++[(mC sn m t env pl j a (Nd.kids t)[j]).1]):=by
 refine⟨by rw[List.length_append,h.len];rfl,?_,fun i hi=>?_⟩
 ·have b:=l;have d:=g;unfold mC at b d ⊢;rw[h.eq,List.drop_eq_getElem_cons f,l8,h.len];refine (if_neg (by rw[b];simp)).trans ((if_pos d).trans ?_);have n:fK (Nd.kids t) (j+1) pl=fK (Nd.kids t) j pl+d9 m (Nd.kids t)[j]:=by unfold fK;rw[fQ _ _ _ f];omega
  rw[n]
 ·by_cases c:i<a.length;·rw[List.getElem_append_left c,List.take_append_of_le_length om];exact h.want i c
  ·have e:i=a.length:=by simp at hi;omega
   subst e;have k:(a++[(mC sn m t env pl j a (Nd.kids t)[j]).1])[a.length]'hi=(mC sn m t env pl j a (Nd.kids t)[j]).1:=zS;rw[k,List.take_left',h.len];·exact g
   ·rfl
theorem qv.done{sn:mq M}{t:T (m+1)}{env:jE M}{a:List (K (M+1))}(h:qv sn m t env pl j a)(b:j=(Nd.kids t).length):io sn m t env pl=(a,0,0):=by subst b;rw[h.eq,List.drop_length,l8]
theorem lp{sn:mq M}{t:T (m+1)}{env:jE M}(a:Nd.sort t<=35):gR sn (m+1) t env pl=if (io sn m t env pl).2.1≠0 then (zU,(io sn m t env pl).2) else kA (show Nd (T m) from t) env (io sn m t env pl).1 pl:=by rw[gR,if_neg om];rfl
theorem pu(d:5<=M){sn:mq M}{t:T m}{env:jE M}(c:nj m t<=35)(h:(gR sn m t env pl).2.1=0)(e:1<=m):gF (M+1) (gR sn m t env pl).1=true:=by
 cases m with
 | zero=>omega
 | succ m=>
  have c:Nd.sort t<=35:=c;rw[lp c]at h ⊢;by_cases b:(io sn m t env pl).2.1≠0;·rw[if_pos b]at h;exact absurd h b
  ·rw[if_neg b]at h ⊢;unfold kA at h ⊢;have a:¬36<=(show Nd (T m) from t).sort:=by show ¬36<=Nd.sort t;omega
   rw[if_neg a]at h ⊢;split at h;·next hc=>exact absurd h hc
   ·next hc=>
    rw[if_neg hc];split at h;·next ho=>rw[if_pos ho];exact (ni d ho).1
    ·cases h
theorem mT(h:gj a=true):a.size<=8:=by unfold gj at h;simp only[Zq,decide_eq_true_eq]at h;exact h.1.1.2
theorem Da(h:il a=true):a.size<=8:=by unfold il at h;simp only[Zq]at h;exact mT h.1.1.1.1
theorem Cf{n:Nd α}(h:gr n [88]=true):∃a,n.names=[a]/\a.size<=8:=by
 simp only[gr,Zq]at h;have b:=h.2;split at b;·next a e=>exact⟨a,e,Da b⟩
 ·cases b
theorem Ig{n:Nd α}(h:gr n [78]=true):∃a,n.names=[a]/\a.size<=8/\gj a=true:=by
 simp only[gr,Zq]at h;have b:=h.2;split at b;·next a e=>exact⟨a,e,mT b,b⟩
 ·cases b
theorem Ii{n:Nd α}(h:gr n [88,88]=true):∃a b,n.names=[a,b]:=by
 simp only[gr,Zq]at h;have c:=h.2;split at c;·next a b e=>exact⟨a,b,e⟩
 ·cases c
theorem Gs{n:Nd α}(h:gr n [75]=true):jV n.text=true:=by simp only[gr,Zq]at h;exact h.1.2
theorem yD:∀k,k<36->∀v,v∈jr k->v=86:=by decide
structure pP{m:Nat}(t:T (m+1)):Prop where
 lo:1<=Nd.sort t
 free:Nd.sort t=4∨Nd.sort t=20∨Nd.sort t=32∨Nd.sort t=33∨Nd.sort t=34->∃a,Nd.names t=[a]/\a.size<=8
 fld:Nd.sort t=21∨Nd.sort t=22∨Nd.sort t=23->∃a,Nd.names t=[a]/\a.size<=8/\gj a=true
 two:Nd.sort t=35->∃a b,Nd.names t=[a,b]
 kind:Nd.sort t=5∨Nd.sort t=6->jV (Nd.text t)=true
 frm:Nd.sort t=24->(Nd.names t).length=(Nd.kids t).length/\(∀i,i<(Nd.names t).length->kJ (Nd.names t) i=true)
 cnt:Nd.sort t≠24->(Nd.kids t).length=(jr (Nd.sort t).toNat).length
 kid:∀j (h:j<(Nd.kids t).length),jM m (Nd.kids t)[j]=86
theorem Bz{t:T (m+1)}(c:gZ (jM m) (show Nd (T m) from t)=true)(n:Nd.sort t<=35):pP t:=by
 have d:1<=Nd.sort t:=by have h:=c;unfold gZ at h;simp only[Zq,decide_eq_true_eq]at h;exact h.1.1
 by_cases b:Nd.sort t=24;·rw[lP (jM m) (show Nd (T m) from t) b]at c;simp only[Zq]at c;have e:=c.1;unfold iH iN at e;simp only[Zq,beq_iff_eq,List.all_eq_true,List.mem_range]at e;have o:=e.1;refine⟨d,fun h=>om,fun h=>om,fun h=>om,fun h=>om,fun _=>⟨o,fun i h=>(e.2 i h).1⟩,fun h=>absurd b h,fun j h=>?_⟩;have:=(e.2 j (by show j<(Nd.names t).length;omega)).2;rw[List.getD_eq_getElem?_getD,List.getElem?_map,List.getElem?_eq_getElem h]at this;simpa using this
 ·rw[la (jM m) (show Nd (T m) from t) d (by show Nd.sort t<=43;omega) b]at c;simp only[Zq,decide_eq_true_eq]at c;obtain⟨a,g⟩:=c;have a:=a;have g:=g;have f:(Nd.kids t).length=(jr (Nd.sort t).toNat).length:=by simpa using congrArg List.length g
  refine⟨d,fun h=>?_,fun h=>?_,fun h=>?_,fun h=>?_,fun h=>absurd h b,fun _=>f,fun j h=>?_⟩;·rcases h with h|h|h|h|h<;>(rw[h]at a;exact Cf a)
  ·rcases h with h|h|h<;>(rw[h]at a;exact Ig a)
  ·rw[h]at a;exact Ii a
  ·rcases h with h|h<;>(rw[h]at a;exact Gs a)
  ·have k:((Nd.kids t).map (jM m))[j]?=Zo (jM m (Nd.kids t)[j]):=by rw[List.getElem?_map,List.getElem?_eq_getElem h];rfl
   rw[g,List.getElem?_map,List.getElem?_eq_getElem om]at k;have l:=yD (Nd.sort t).toNat om _ (Zg (show j<(jr (Nd.sort t).toNat).length by omega));rw[l]at k;simpa using k.symm
theorem xu{t:T m}(h:jM m t=86):1<=nj m t/\nj m t<=35:=by
 unfold jM rF at h;split at h;·cases h
 ·split at h;·omega
  ·cases h
theorem pP.wantOp{t:T (m+1)}(h:pP t)(c:Nd.sort t<=35)(j:Nat)(i:j<(Nd.kids t).length):Nd.sort t=24∨(Nd.sort t,j)∈zQ:=by
 by_cases a:Nd.sort t=24;·exact .inl a
 ·right;have e:=h.lo;have g:=h.cnt a;have b:=EE (Nd.sort t).toNat om j om;have d:(((Nd.sort t).toNat:Nat):Int)=Nd.sort t:=om;rw[d]at b;have f:(jr (Nd.sort t).toNat).getD j 0=86:=by rw[gm om];exact yD _ om _ (Zg _)
  rcases b with h|h|h|h|h;·omega
  ·omega
  ·omega
  ·exact absurd f h
  ·exact h
theorem oZ{t:T (m+1)}{env:jE M}{a:List (K (M+1))}(h:qv [] m t env pl j a)(i:Nat)(hi:i<a.length):b7 (Nd.sort t) ((iy ([]:mq M) (show Nd (T m) from t)).getD zU) i (a.getD i zU) (a.take i)=true:=by rw[gm hi];exact h.want i hi
theorem pP.bindOk{t:T (m+1)}(h:pP t)(i:Nd.sort t<=35){env:jE M}{d:List (K (M+1))}(g:qv [] m t env pl j d):qt (Nd.sort t) (Nd.names t) j d:=by
 have e:0<d.length->b7 (Nd.sort t) ((iy ([]:mq M) (show Nd (T m) from t)).getD zU) 0 (d.getD 0 zU) (d.take 0)=true:=fun h=>oZ g 0 h;have k:=g.len;refine⟨fun c=>?_,fun c=>?_,fun c hi=>?_,fun c hi=>?_,fun c hi=>?_⟩;·obtain⟨a,f,-⟩:=h.free om;rw[f];simp
 ·obtain⟨a,b,f⟩:=h.two c;rw[f];simp
 ·have:=e om;rw[c]at this;simpa [b7] using this
 ·have:=e om;rcases c with c|c|c;·rw[c]at this;simpa [b7] using this
  ·rw[c]at this;simpa [b7] using this
  ·omega
 ·have:=e om;rw[c]at this;simpa [b7] using this
theorem pP.comeOk{t:T (m+1)}(h:pP t)(k:Nd.sort t<=35)(o:(Nd.kids t).length<=1000){env:jE M}{c:List (K (M+1))}(p:qv [] m t env pl j c)(v:j=(Nd.kids t).length):zY (Nd.sort t) (Nd.names t) (Nd.text t) c:=by
 have w:=p.len;have f:Nd.sort t≠24->c.length=(jr (Nd.sort t).toNat).length:=fun g=>by have:=h.cnt g;omega
 have n:0<c.length->b7 (Nd.sort t) ((iy ([]:mq M) (show Nd (T m) from t)).getD zU) 0 (c.getD 0 zU) (c.take 0)=true:=fun h=>oZ p 0 h;refine⟨h.lo,k,fun b=>?_,fun b=>?_,h.kind,fun b=>?_,fun b=>?_,fun b=>?_,fun b=>?_,fun b=>?_⟩
 ·rcases b with b|b;·obtain⟨a,d,-⟩:=h.free (.inl b);rw[d];simp
  ·obtain⟨a,d,-⟩:=h.fld b;rw[d];simp
 ·obtain⟨a,d,u,-⟩:=h.fld om;rw[d];exact u
 ·have:=f om;rcases b with b|b|b|b|b|b|b|b<;>(rw[b]at this;rw[this];decide)
 ·have:=f om;rcases b with b|b|b|b|b|b|b<;>(rw[b]at this;rw[this];decide)
 ·have e:0<c.length:=by have:=f om;rcases b with b|b|b<;>(rw[b]at this;rw[this];decide)
  have:=n e;rcases b with b|b|b<;>(rw[b]at this;simpa [b7] using this)
 ·have e:0<c.length:=by have:=f om;rw[b]at this;rw[this];decide
  have:=n e;rw[b]at this;simpa [b7] using this
 ·obtain⟨e,q⟩:=h.frm b;refine⟨om,fun s r=>?_⟩;obtain⟨i,hi,rfl⟩:=List.getElem_of_mem r;have l:=q i hi;unfold kJ i8 at l;simp only[Zq]at l;have:=mT l.1.1;rw[gm hi]at this;omega
def jH:(n:Nat)->K n->Bool
 | 0,_=>false
 | n+1,t=>gF (n+1) t && (Kd.sort t==5)
def qV(s:ZN)(v:Int):Bool:=(s==ByteArray.empty && v==0) || (gj s && (decide (1<=v) && decide (v<=12)))
def gY(S:ZP)(w:Zw)(n:Nat)(l:List ((ZN×Int)×K n))(v:Zv):Prop:=
 ∃(a:ZO)(cap:Nat),v=Zs a l.length cap/\l.length<=maxLen /\
  (l≠[]->∃b off,a=Zo ⟨b,off,Zn⟩/\S b/\∀i (h:i<l.length),∃c0 c1 c2,w.cell? ⟨b,off+i*5,Zn⟩=Zo (Zt l[i].1.1)/\w.cell? ⟨b,off+i*5+1,Zn⟩=Zo (Zi Zk l[i].1.2)/\w.cell? ⟨b,off+i*5+2,Zn⟩=Zo c0 /\
   w.cell? ⟨b,off+i*5+3,Zn⟩=Zo c1/\w.cell? ⟨b,off+i*5+4,Zn⟩=Zo c2/\l[i].1.1.size<=maxLen/\a8 S w n l[i].2 c0 c1 c2)
theorem gY.keep{S S':ZP}{w w':Zw}{n:Nat}{l:List ((ZN×Int)×K n)}{v:Zv}(h:gY S w n l v)(d:jn S w w')(f:∀b,S b->S' b):gY S' w' n l v:=by obtain⟨g,cap,y,x,u⟩:=h;refine⟨g,cap,y,x,fun e=>?_⟩;obtain⟨b,off,t,c,a⟩:=u e;refine⟨b,off,t,f b c,fun i hi=>?_⟩;obtain⟨c0,c1,c2,j,k,m,o,q,r,s⟩:=a i hi;exact⟨c0,c1,c2,(d.cell (p:=⟨b,off+i*5,Zn⟩) c).trans j,(d.cell (p:=⟨b,off+i*5+1,Zn⟩) c).trans k,(d.cell (p:=⟨b,off+i*5+2,Zn⟩) c).trans m,(d.cell (p:=⟨b,off+i*5+3,Zn⟩) c).trans o,(d.cell (p:=⟨b,off+i*5+4,Zn⟩) c).trans q,r,s.keep d f⟩
def jd{n:Nat}(p:(ZN×Int)×K n):Bool:=jH n p.2 && qV p.1.1 p.1.2
def mi(M:Nat){n:Nat}(l:List ((ZN×Int)×K n)):mq M:=l.map fun p=>(p.1,fO M n p.2)
theorem EG{op:Int}(h:op<=35)(d a:K (M+1))(i:Nat)(k:K (M+1))(b:List (K (M+1))):b7 op d i k b=b7 op a i k b:=by
 unfold b7;have c:¬(op=38∨op=39):=by omega
 simp only[if_neg c]
theorem yF{f g:α->jE M->Nat->K (M+1)×Int×Nat}{cnt:α->Nat}{b:Nat->List (K (M+1))->jE M}{want a:Nat->K (M+1)->List (K (M+1))->Bool}(e:∀i k d,want i k d=a i k d):∀(l:List α)(acc:List (K (M+1)))(c:Nat),(∀x,x∈l->f x=g x)->l8 f cnt b want l acc c=l8 g cnt b a l acc c:=by
 intro l;induction l with
 | nil=>intro acc c _;rfl
 | cons x r m=>intro acc c h;simp only[l8,h x (List.mem_cons_self ..),e];rw[m _ _ fun y j=>h y (List.mem_cons_of_mem _ j)]
theorem Aj(sn:mq M):∀(m:Nat)(t:T m)(d:Int),gp m t d=true->nj m t<=35->gR sn m t=gR ([]:mq M) m t:=by
 intro m;induction m with
 | zero=>intro t d _ _;rfl
 | succ m o=>
  intro t d g a;have a:Nd.sort t<=35:=a;simp only[gp,Zq,decide_eq_true_eq,List.all_eq_true]at g;obtain⟨⟨-,l⟩,b⟩:=g;have e:=Bz l a;funext env pl;have k:¬(Nd.sort t=38∨Nd.sort t=39):=by omega
  have n:∀acc p,l8 (gR sn m) (d9 m) (fun i f=>jU (Nd.sort t) (Nd.names t) i f env) (b7 (Nd.sort t) ((iy (α:=T m) sn t).getD zU)) (Nd.kids t) acc p=l8 (gR [] m) (d9 m) (fun i f=>jU (Nd.sort t) (Nd.names t) i f env) (b7 (Nd.sort t) ((iy (α:=T m) ([]:mq M) t).getD zU)) (Nd.kids t) acc p:=fun acc p=>yF (EG a _ _) _ _ _ fun x h=>by obtain⟨j,c,rfl⟩:=List.getElem_of_mem h;exact o _ _ (b _ h) (xu (e.kid j c)).2
  simp only[gR,k,false_and,if_false];rw[n]
structure vi{m:Nat}(t:T (m+1)):Prop where
 free:Nd.sort t=42∨Nd.sort t=43->∃a,Nd.names t=[a]/\a.size<=8
 emit:Nd.sort t=38->Nd.num t=0
 send:Nd.sort t=39->(∃a,Nd.names t=[a]/\a.size<=8/\gj a=true)/\1<=Nd.num t/\Nd.num t<=12
 cnt:(Nd.kids t).length=(jr (Nd.sort t).toNat).length
 kid:∀j (h:j<(Nd.kids t).length),jM m (Nd.kids t)[j]=((jr (Nd.sort t).toNat).getD j 0).toNat
theorem Ac{t:T (m+1)}(g:gZ (jM m) (show Nd (T m) from t)=true)(l:36<=Nd.sort t):vi t:=by
 have k:Nd.sort t<=43:=by have h:=g;unfold gZ at h;simp only[Zq,decide_eq_true_eq]at h;exact h.1.2
 rw[la (jM m) (show Nd (T m) from t) (by show 1<=Nd.sort t;omega) k (by show Nd.sort t≠24;omega)]at g;simp only[Zq,decide_eq_true_eq]at g;obtain⟨b,i⟩:=g;have b:=b;have i:=i;have d:(Nd.kids t).length=(jr (Nd.sort t).toNat).length:=by simpa using congrArg List.length i
 refine⟨fun h=>?_,fun h=>?_,fun h=>?_,d,fun j h=>?_⟩;·rcases h with h|h<;>(rw[h]at b;exact Cf b)
 ·rw[h]at b;have b:gr (show Nd (T m) from t) []=true:=b;simp only[gr,Zq,beq_iff_eq]at b;exact b.1.1
 ·rw[h]at b;have b:gr (show Nd (T m) from t) [78,35]=true:=b;simp only[gr,Zq,decide_eq_true_eq]at b;have c:=b.1.1;rw[h]at c;refine⟨?_,c⟩;have f:=b.2;split at f;·next a e=>exact⟨a,e,mT f,f⟩
  ·cases f
 ·have c:((Nd.kids t).map (jM m))[j]?=Zo (jM m (Nd.kids t)[j]):=by rw[List.getElem?_map,List.getElem?_eq_getElem h];rfl
  rw[i,List.getElem?_map,List.getElem?_eq_getElem om]at c;rw[gm om];simpa using c.symm
theorem vi.bindOk{sn:mq M}{t:T (m+1)}(h:vi t)(f:36<=Nd.sort t){env:jE M}{e:List (K (M+1))}(d:qv sn m t env pl j e):qt (Nd.sort t) (Nd.names t) j e:=by
 have i:=d.len;refine⟨fun b=>?_,fun b=>?_,fun b hi=>?_,fun b hi=>?_,fun b hi=>?_⟩;·obtain⟨a,g,-⟩:=h.free om;rw[g];simp
 ·omega
 ·omega
 ·have c:Nd.sort t=43:=by omega
  have:=d.want 0 om;rw[c]at this;rw[gm om];simpa [b7] using this
 ·omega
theorem vi.op{t:T (m+1)}(h:vi t)(j:Nat)(c:j<(Nd.kids t).length):(jr (Nd.sort t).toNat).getD j 0=86/\1<=nj m (Nd.kids t)[j]/\nj m (Nd.kids t)[j]<=35∨(jr (Nd.sort t).toNat).getD j 0=65/\36<=nj m (Nd.kids t)[j]:=by
 have a:=h.kid j c;have e:=h.cnt;have b:=pV _ _ (Zg (l:=jr (Nd.sort t).toNat) (n:=j) om);rw[<- gm (d:=0)]at b;rcases b with b|b;·rw[b]at a;exact .inl ⟨b,xu a⟩
 ·rw[b]at a;refine .inr ⟨b,?_⟩;have a:jM m (Nd.kids t)[j]=65:=a;unfold jM rF at a;split at a;·cases a
  ·split at a;·cases a
   ·omega
def ox{n:Nat}(p:(ZN×Int)×K n):Nat:=p.1.1.size+mm n p.2
theorem Bi (n:Nat) (S:ZP) (p:(ZN × Int) × K n) (c0 c1 c2:Zv) (a:Int) (w:Zw) (k:a8 S w n p.2 c0 c1 c2) (o:Bd S w) (C:p.1.1.size<=maxLen) (E:0<=a) (F:a<=1048576) :
  Calls prog 55 #[Za #[Zt p.1.1,Zi Zk p.1.2,c0,c1,c2],Zi Zk a] w fun e D=>e=Zr (Zi Zk (gi (ox p) a))/\Bw w D:=by
 obtain⟨t,u,x,v,y,A,z,rfl,rfl,rfl⟩:=k.shape;have c:Bw w (w.alloc (Zc #[Zt p.1.1,Zi Zk p.1.2,Zi Zk t,Zs u x v,Zs y A z] 101)):=gx _ _;unfold maxLen at C;have i:Hid (ox p=p.1.1.size+mm n p.2):=rfl;by_cases r:a-p.1.1.size<0
 ·have g:Hid (gi (ox p) a = -1):=by show _=_;rw[gi,if_neg (by rw[i.out];omega)]
  go_in;go_wp2;go_ret;exact⟨fJ g.out.symm,c⟩
 ·have l:Hid (Calls prog 19 #[Za #[Zi Zk t,Zs u x v,Zs y A z],Zi Zk (a-p.1.1.size)] _ _):=t7 n S p.2 _ _ _ (a-p.1.1.size) _ (k.keep (a6 c o) fun _ h=>h) (fun b B=>by have:=o b B;simp;omega) om om;have j:=jK (mm n p.2) (a-p.1.1.size) om;have g:Hid (gi (mm n p.2) (a-p.1.1.size)=gi (ox p) a):=by show _=_;rw[i.out,<- kW];congr 1;rw[gi,if_pos om]
  clear k;go_in;go_wp2_with fail;refine l.out.mono ?_;rintro e w1 ⟨rfl,d⟩;have f:=b5 c zS d;clear d l c;rw[g.out]at j ⊢;generalize s:gi (ox p) a=q at *;have m:=a7 s;clear s g i;go_wp2;·go_ret;exact⟨fJ (by rw[m.out];omega),f⟩
  ·go_ret;exact⟨fJ m.out.symm,f⟩
theorem zF (n:Nat) (S:ZP) (l:List ((ZN × Int) × K n)) (v:Zv) (c:Int) (w:Zw) (X:gY S w n l v) (p:Bd S w) (h0 : -1<=c) (V:c<=1048576) :
  Calls prog 20 #[v,Zi Zk c] w fun e Z=>e=Zr (Zi Zk (gi (b4 (fun k=>ox k+1) l) c))/\Bw w Z:=by
 obtain⟨ao,cap,rfl,t,E⟩:=X;unfold maxLen at t;by_cases N:c-l.length<0;·go_in;go_wp2;go_ret;exact⟨fJ (by rw[gi,kM,if_neg om]),Below.refl _ _⟩
 go_in;go_wp2;go_loopw [1,5] (fun a i wr=>∃k:Nat,k<=l.length/\i=Zi Zk k/\a=Zi Zk (hY ox l k c)/\0<=hY ox l k c/\Bw w wr) (fun _ i _=>l.length-(intOf i).toNat);case atStart=>
  have e:hY ox l 0 c=c-l.length:=by simp[hY,gi,b4];omega
  exact⟨0,ZE _,rfl,by rw[e],by rw[e];omega,Below.refl _ _⟩
 case round=>
  obtain⟨k,hk,rfl,rfl,x,d⟩:=hrel;have q:=(jK (l.length+b4 ox (l.take k)) c V).2;change hY ox l k c<=1048576 at q;by_cases o:k<l.length
  ·obtain⟨b,off,rfl,f,j⟩:=E (by intro h;rw[h]at o;simp at o);obtain⟨P,Q,R,L,M,H,I,J,F,O⟩:=j k o;have T:=kC d L (p b f);have U:=kC d M (p b f);have f0:=kC d H (p b f);have f1:=kC d I (p b f);have f2:=kC d J (p b f);clear E j L M H I J;have y:=O.keep (a6 d p) (fun _ h=>h);have z:=d.size;have B:Hid (hY ox l (k+1) c=gi (ox l[k]) (hY ox l k c)):=pB _ _ _ _ o;have G:Hid (hY ox l (k+1) c = -1->gi (b4 (fun k=>ox k+1) l) c = -1):=by intro u;have:=iq ox (l.take (k+1)) (l.drop (k+1));rw[List.take_append_drop]at this;rw[kM];unfold hY gi at u;unfold gi;rw[if_neg];intro Y;rw[if_pos om]at u;omega
   clear O;go_wp2_with fail;refine (Bi n S l[k] P Q R _ wr y (fun b W=>Zd (p b W) z) F x q).mono ?_;rintro e w1 ⟨rfl,r⟩;rw[<- B.out];have D:=jK (ox l[k]) (hY ox l k c) q;rw[<- B.out]at D;have g:=d.trans (r.mono z);clear B r T U f0 f1 f2 y d;generalize u:hY ox l (k+1) c=m at *;have C:=a7 G;have A:=a7 u;clear G u;go_wp2;·go_ret;refine⟨fJ ?_,g⟩;rw[C.out om]
   ·go_roundw;case rel=>exact⟨k+1,om,by go_num,by rw[A.out],by rw[A.out];omega,g⟩
    case measure=>simp[intOf];omega
  ·have s:k=l.length:=by omega
   have A:Hid (hY ox l k c=gi (b4 (fun k=>ox k+1) l) c):=by show _=_;unfold hY;rw[kM,s,List.take_length]
   clear s E;go_wp2;go_ret;exact⟨fJ A.out,d⟩
theorem Tryz.info_lsnk:(prog.info? 103).map (fun i=>(i.zero,i.size,i.bytes))=Zo (Zo (Za #[Zt ⟨#[]⟩,Zi Zk 0,Zi Zk 0,Zs Zn 0 0,Zs Zn 0 0]),5,80):=by kernel_rfl
theorem AO (n:Nat) (d:n<=1048576) (w:Zw):(Instr.makeSlice 58 (Zi Zk (n:Int)) (Zi Zk (n:Int))).run prog w =
  .ok (Zs (Zo ⟨w.heap.size,0,Zn⟩) n n) (w.alloc (Zc (madeCells #[Zt ⟨#[]⟩,Zi Zk 0,Zi Zk 0,Zs Zn 0 0,Zs Zn 0 0] (n*5)) 103)):=by obtain⟨i0,hi,a,b,c⟩:=info_parts Tryz.info_lsnk;have:=run_make (P:=prog) w 58 103 i0 _ underlying58 hi a Zk Zk (n:Int) (n:Int) om om (by rw[c];omega) om;rw[b]at this;simpa [Value.cells] using this
theorem Bx (n:Nat) (S:ZP) (p:(ZN × Int) × K n) (c0 c1 c2:Zv) (w:Zw) (N:a8 S w n p.2 c0 c1 c2) (U:Bd S w) (M:mm n p.2<=1048576) :
  Calls prog 63 #[Za #[Zt p.1.1,Zi Zk p.1.2,c0,c1,c2]] w fun e O=>∃E F G,e=Zr (Za #[Zt p.1.1,Zi Zk p.1.2,E,F,G])/\a8 (fun b=>w.heap.size<=b/\b<O.heap.size) O n p.2 E F G/\Bw w O:=by
 obtain⟨x0,xa,xl,xc,ya,yl,yc,rfl,rfl,rfl⟩:=N.shape;obtain⟨W,s⟩:=ii (((w.alloc (Zc #[Zt p.1.1,Zi Zk p.1.2,Zi Zk x0,Zs xa xl xc,Zs ya yl yc] 101)).alloc (Zc #[Zt ⟨#[]⟩,Zi Zk 0,Zi Zk 0,Zs Zn 0 0,Zs Zn 0 0] 103)).alloc (Zc #[Zt p.1.1,Zi Zk p.1.2,Zi Zk 0,Zs Zn 0 0,Zs Zn 0 0] 103));have l:Bw w W:=by rw[s];exact ((gx _ _).alloc zS _).alloc zE _
 have X:W.heap.size=w.heap.size+3:=by rw[s];simp
 have Q:=a7 (ui n S p.2 _ _ _ W (N.keep (a6 l U) fun _ h=>h) (fun b I=>by have:=U b I;omega) M);have T:∀j,j<5->W.cell? ⟨w.heap.size+1,j,Zn⟩=#[Value.string ⟨#[]⟩,Zi Zk 0,Zi Zk 0,Zs Zn 0 0,Zs Zn 0 0][j]?/\W.frozen? ⟨w.heap.size+1,j,Zn⟩=false/\W.cell? ⟨w.heap.size+1+1,j,Zn⟩=#[Zt p.1.1,Zi Zk p.1.2,Zi Zk 0,Zs Zn 0 0,Zs Zn 0 0][j]?/\W.frozen? ⟨w.heap.size+1+1,j,Zn⟩=false:=fun j V=>by rw[s];rcases j with _|_|_|_|_|j<;>first|(refine⟨?_,?_,?_,?_⟩<;>simp[go_sem])|omega
 have P:=a7 T;have q:=a7 l;have R:=a7 X;clear N l X T;go_in;go_wp2_with fail;rw[<- s];clear s;refine Q.out.mono ?_;rintro e w1 ⟨E,F,G,rfl,m,k⟩;obtain⟨y,z,B,A,t,x,u,rfl,rfl,rfl⟩:=m.shape;have aa:=k.size;have ab:=R.out;obtain⟨J,L⟩:=rh k;have f:∀j,j<5->w1.cell? ⟨w.heap.size+1,j,Zn⟩=#[Value.string ⟨#[]⟩,Zi Zk 0,Zi Zk 0,Zs Zn 0 0,Zs Zn 0 0][j]?/\w1.frozen? ⟨w.heap.size+1,j,Zn⟩=false/\w1.cell? ⟨w.heap.size+1+1,j,Zn⟩=#[Zt p.1.1,Zi Zk p.1.2,Zi Zk 0,Zs Zn 0 0,Zs Zn 0 0][j]?/\w1.frozen? ⟨w.heap.size+1+1,j,Zn⟩=false:=fun j V=>by obtain⟨a,b,c,d⟩:=P.out j V;exact⟨(J _ _ om).trans a,(L _ _ om).trans b,(J _ _ om).trans c,(L _ _ om).trans d⟩
 obtain⟨Y,ah,m0,ac⟩:=f 0 om;obtain⟨Z,ai,m1,ad⟩:=f 1 om;obtain⟨r2,aj,m2,ae⟩:=f 2 om;obtain⟨r3,ak,m3,af⟩:=f 3 om;obtain⟨r4,al,m4,ag⟩:=f 4 om;simp only[List.getElem?_toArray,List.getElem?_cons_zero,List.getElem?_cons_succ]at Y m0 Z m1 r2 m2 r3 m3 r4 m4;have r:=a7 m;have o:=a7 (b5 q.out om k);obtain⟨W2,g⟩:=ii (iD w1 (w.heap.size+1+1) 2 (Zi Zk y) (Zs z B A) (Zs t x u));obtain⟨D,i⟩:=ii (pF W2 (w.heap.size+1) 0 (Zt p.1.1) (Zi Zk p.1.2) (Zi Zk y) (Zs z B A) (Zs t x u));have HF:Hid (a8 (fun b=>w.heap.size<=b/\b<D.heap.size) D n p.2 (Zi Zk y) (Zs z B A) (Zs t x u)/\Bw w D):=by
  refine⟨r.out.keep (fun b I=>?_) (fun b I=>?_),?_⟩;·rw[i,km om,g,ia om]
  ·rw[i,kZ,g,iU];omega
  ·rw[i];refine ny ?_ om;rw[g];exact js o.out om
 have H:=i;rw[g]at H;have C:=a7 H;clear m k f J L P q R Q r o g i H;go_wp2_with fail;refine bodyPost_ret (v:=Za #[Zt p.1.1,Zi Zk p.1.2,Zi Zk y,Zs z B A,Zs t x u]) (by simp[results,results63,go_sem,Y,Z,r2,r3,r4]) rfl ?_;refine⟨_,_,_,rfl,?_⟩;have:=HF.out;rw[C.out]at this;exact this
theorem zN (n:Nat) (S:ZP) (l:List ((ZN × Int) × K n)) (v:Zv) (w:Zw) (hl:gY S w n l v) (D:Bd S w) (ac:b4 (fun k=>ox k+1) l<=1048576) :
  Calls prog 23 #[v] w fun e V=>∃a c,e=Zr (Zs a l.length c)/\gY (fun b=>w.heap.size<=b/\b<V.heap.size) V n l (Zs a l.length c)/\Bw w V:=by
 obtain⟨ao,cap,rfl,H,P⟩:=hl;have ab:=mx (ox (n:=n)) l;have J:=AO l.length om;go_in;go_wp2;go_loopw [4] (fun i wr=>∃ (k:Nat) (F:Nat->Zv),k<=l.length/\i=Zi Zk k/\wr.rowIs w.heap.size 103 (l.length*5) F/\Bw w wr /\
   ∀j (h:j<l.length),j<k->F (j*5)=Zt l[j].1.1/\F (j*5+1)=Zi Zk l[j].1.2/\l[j].1.1.size<=maxLen/\a8 (fun b=>w.heap.size<b/\b<wr.heap.size) wr n l[j].2 (F (j*5+2)) (F (j*5+3)) (F (j*5+4)))
  (fun i _=>l.length-(intOf i).toNat)
 case atStart=>obtain⟨F,hF⟩:=mg w #[Zt ⟨#[]⟩,Zi Zk 0,Zi Zk 0,Zs Zn 0 0,Zs Zn 0 0] (l.length*5) 103;exact⟨0,F,ZE _,rfl,hF,gx _ _,fun j _ h=>absurd h (Nat.not_lt_zero _)⟩
 case round=>
  obtain⟨k,F,hk,rfl,g,f,m⟩:=hrel;by_cases r:k<l.length
  ·obtain⟨b,off,rfl,p,q⟩:=P (by intro h;rw[h]at r;simp at r);obtain⟨d0,d1,d2,es,ev,Z,e1,e2,R,hr⟩:=q k r;have fs:=kC f es (D b p);have fv:=kC f ev (D b p);have f0:=kC f Z (D b p);have f1:=kC f e1 (D b p);have f2:=kC f e2 (D b p);clear P q es ev Z e1 e2;have M:=hr.keep (a6 f D) (fun _ h=>h);have C:=f.size;have L:=gK (fun k=>ox k+1) l l[k] (Zg r);have N:mm n l[k].2<=1048576:=by have:ox l[k]=l[k].1.1.size+mm n l[k].2:=rfl;omega
   clear hr J;go_wp2_with fail;refine (Bx n S l[k] d0 d1 d2 wr M (fun b B=>Zd (D b B) C) N).mono ?_;rintro e w1 ⟨g0,g1,g2,rfl,E,o⟩;have ad:=o.size;have I:=g.lt;have d:=g.of_block (o.block _ I);have q0:=d.cell (i:=k*5) om;have q1:=d.cell (i:=k*5+1) om;have q2:=d.cell (i:=k*5+2) om;have q3:=d.cell (i:=k*5+3) om;have q4:=d.cell (i:=k*5+4) om;have r0:=d.frozen (k*5);have r1:=d.frozen (k*5+1);have r2:=d.frozen (k*5+2);have r3:=d.frozen (k*5+3);have r4:=d.frozen (k*5+4);obtain⟨s,t,x,u,y,A,z,rfl,rfl,rfl⟩:=E.shape;have X:Hid (∀ j (h:j<l.length),j<k+1->jN (k*5) F (Zt l[k].1.1) (Zi Zk l[k].1.2) (Zi Zk s) (Zs t x u) (Zs y A z) (j*5)=Zt l[j].1.1/\jN (k*5) F (Zt l[k].1.1) (Zi Zk l[k].1.2) (Zi Zk s) (Zs t x u) (Zs y A z) (j*5+1)=Zi Zk l[j].1.2/\l[j].1.1.size<=maxLen/\a8 (fun b=>w.heap.size<b/\b<(pF w1 w.heap.size (k*5) (Zt l[k].1.1) (Zi Zk l[k].1.2) (Zi Zk s) (Zs t x u) (Zs y A z)).heap.size)
     (pF w1 w.heap.size (k*5) (Zt l[k].1.1) (Zi Zk l[k].1.2) (Zi Zk s) (Zs t x u) (Zs y A z)) n l[j].2 (jN (k*5) F (Zt l[k].1.1) (Zi Zk l[k].1.2) (Zi Zk s) (Zs t x u) (Zs y A z) (j*5+2)) (jN (k*5) F (Zt l[k].1.1) (Zi Zk l[k].1.2) (Zi Zk s) (Zs t x u) (Zs y A z) (j*5+3)) (jN (k*5) F (Zt l[k].1.1) (Zi Zk l[k].1.2) (Zi Zk s) (Zs t x u) (Zs y A z) (j*5+4))):=by
    intro j hj aa
    by_cases G:j<k
    ·rw[iI _ _ _ _ _ _ _ (j*5) om,iI _ _ _ _ _ _ _ (j*5+1) om,iI _ _ _ _ _ _ _ (j*5+2) om,iI _ _ _ _ _ _ _ (j*5+3) om,iI _ _ _ _ _ _ _ (j*5+4) om]
     obtain⟨T,U,i2,i3⟩:=m j hj G
     refine⟨T,U,i2,i3.keep (fun b B=>?_) (fun b B=>?_)⟩
     ·rw[km om];exact o.block b B.2
     ·rw[kZ];omega
    ·have:j=k:=by omega
     subst this
     rw[Cg,Ch,Ci,Cj,Ck]
     refine⟨rfl,rfl,R,E.keep (fun b B=>?_) (fun b B=>?_)⟩
     ·rw[km om]
     ·rw[kZ];omega
   have Y:=zj d (k*5) (Zt l[k].1.1) (Zi Zk l[k].1.2) (Zi Zk s) (Zs t x u) (Zs y A z);have W:Bw w (pF w1 w.heap.size (k*5) (Zt l[k].1.1) (Zi Zk l[k].1.2) (Zi Zk s) (Zs t x u) (Zs y A z)):=ny (b5 f C o) (Nat.le_refl _);have O:Hid (_/\_/\_):=⟨Y,W,X.out⟩;clear Y W X m g f o E d fs fv f0 f1 f2 M L;go_wp2;go_roundw;case rel=>exact⟨k+1,_,om,by go_num,O.out.1,O.out.2.1,O.out.2.2⟩
   case measure=>simp[intOf];omega
  ·have Q:k=l.length:=by omega
   have HF:Hid (gY (fun b=>w.heap.size<=b/\b<wr.heap.size) wr n l (Zs (Zo ⟨w.heap.size,0,Zn⟩) l.length l.length)):=by
    refine⟨_,_,rfl,H,fun _=>⟨w.heap.size,0,rfl,⟨Nat.le_refl _,g.lt⟩,fun i hi=>?_⟩⟩;obtain⟨T,U,i2,i3⟩:=m i hi om;refine⟨_,_,_,?_,?_,?_,?_,?_,i2,i3.keep (fun _ _=>rfl) (fun b B=>⟨om,B.2⟩)⟩;·rw[<- T];simpa using g.cell (i:=i*5) om
    ·rw[<- U];simpa using g.cell (i:=i*5+1) om
    ·simpa using g.cell (i:=i*5+2) om
    ·simpa using g.cell (i:=i*5+3) om
    ·simpa using g.cell (i:=i*5+4) om
   clear Q P g J m;go_wp2;go_ret;exact⟨_,_,rfl,HF.out,f⟩
theorem wy(a b:Int)(w:Zw):Calls prog 12 #[Za #[Zi Zk a,Zi Zk b],Za #[Zi Zk a,Zi Zk b]] w fun e d=>e=Zr (.bool true)/\Bw w d:=by have c:Bw w ((w.alloc (Zc #[Zi Zk a,Zi Zk b] 33)).alloc (Zc #[Zi Zk a,Zi Zk b] 33)):=(gx _ _).alloc zS _;have f:(a != a)=false:=zS;have g:(b != b)=false:=zS;go_in;go_wp2;go_ret;exact⟨rfl,c⟩
theorem yo (n:Nat) (S S':ZP) (p:(ZN × Int) × K n) (c0 c1 c2 k l m:Zv) (w:Zw) (h:a8 S w n p.2 c0 c1 c2) (f:a8 S' w n p.2 k l m) (o:Bd S w) (a:∀ b,S' b->b<w.heap.size) :
  Calls prog 70 #[Za #[Zt p.1.1,Zi Zk p.1.2,c0,c1,c2],Za #[Zt p.1.1,Zi Zk p.1.2,k,l,m]] w fun e G=>e=Zr (.bool true)/\Bw w G:=by obtain⟨v,x,z,y,A,C,B,rfl,rfl,rfl⟩:=h.shape;obtain⟨z0,D,F,E,q,t,r,rfl,rfl,rfl⟩:=f.shape;have d:Bw w ((w.alloc (Zc #[Zt p.1.1,Zi Zk p.1.2,Zi Zk v,Zs x z y,Zs A C B] 103)).alloc (Zc #[Zt p.1.1,Zi Zk p.1.2,Zi Zk z0,Zs D F E,Zs q t r] 103)):=(gx _ _).alloc zS _;have j:Hid (Calls prog 11 #[Za #[Zi Zk v,Zs x z y,Zs A C B],Za #[Zi Zk z0,Zs D F E,Zs q t r]] _ _):=ro n S S' p.2 _ _ _ _ _ _ _ (h.keep (a6 d o) fun _ h=>h) (f.keep (a6 d a) fun _ h=>h) (fun b h=>by have:=o b h;simp;omega) (fun b h=>by have:=a b h;simp;omega);have i:=a7 d;clear h f d;generalize p.1.1=s at *;generalize p.1.2=u at *;have H:(u != u)=false:=zS;go_in;go_wp2_with fail;refine j.out.mono ?_;rintro e w1 ⟨rfl,c⟩;have g:=b5 i.out zE c;clear j i c;go_wp2;go_ret;exact⟨rfl,g⟩
theorem wC (n:Nat) (S S':ZP) (l:List ((ZN × Int) × K n)) (v U:Zv) (w:Zw) (Z:gY S w n l v) (G:gY S' w n l U)
  (p:Bd S w) (c:∀b,S' b->b<w.heap.size) :
  Calls prog 25 #[v,U] w fun e E=>e=Zr (.bool true)/\Bw w E:=by
 obtain⟨ao,cap,rfl,C,F⟩:=Z;obtain⟨W,J,rfl,-,s⟩:=G;unfold maxLen at C;have aa:((l.length:Int) != (l.length:Int))=false:=zS;go_in;go_wp2;go_loopw [5] (fun i wr=>∃k:Nat,k<=l.length/\i=Zi Zk k/\Bw w wr) (fun i _=>l.length-(intOf i).toNat);case atStart=>exact⟨0,ZE _,rfl,Below.refl _ _⟩
 case round=>
  obtain⟨k,hk,rfl,a⟩:=hrel;by_cases g:k<l.length
  ·obtain⟨b,off,rfl,j,o⟩:=F (by intro h;rw[h]at g;simp at g);obtain⟨u,R,rfl,d,f⟩:=s (by intro h;rw[h]at g;simp at g);obtain⟨x0,x1,x2,O,P,L,M,N,-,Q⟩:=o k g;obtain⟨y0,y1,y2,A,B,x,y,z,-,D⟩:=f k g;have fs:=kC a O (p b j);have fv:=kC a P (p b j);have X:=kC a B (c u d);have f0:=kC a L (p b j);have f1:=kC a M (p b j);have f2:=kC a N (p b j);have f4:=kC a A (c u d);have f5:=kC a x (c u d);have f6:=kC a y (c u d);have f7:=kC a z (c u d);clear F s o f O A P B L M N x y z;have q:=Q.keep (a6 a p) (fun _ h=>h);have T:=D.keep (a6 a c) (fun _ h=>h);have t:=a.size;have V:Hid (∀m:Nat,Calls prog 70 #[Za #[Zt l[k].1.1,Zi Zk l[k].1.2,x0,x1,x2],Za #[Zt l[k].1.1,Zi Zk l[k].1.2,y0,y1,y2]] (wr.drewN m) fun e E=>e=Zr (.bool true)/\Bw wr E):=by
    intro m;have H:Bw wr (wr.drewN m):=below_drewN (Below.refl _ _) m;have I:(wr.drewN m).heap.size=wr.heap.size:=zS;refine (yo n S S' l[k] _ _ _ _ _ _ (wr.drewN m) (q.keep (a6 H (fun b r=>Zd (p b r) t)) (fun _ h=>h)) (T.keep (a6 H (fun b r=>Zd (c b r) t)) (fun _ h=>h))
     (fun b r=>by have:=p b r;omega) (fun b r=>by have:=c b r;omega)).mono ?_
    rintro e E ⟨rfl,h⟩;rw[Bw,I]at h;exact⟨rfl,H.trans h⟩
   clear Q D q T;go_wp2_with fail;go_region_with (go_at_call 70;refine (V.out 1).mono ?_;rintro e E ⟨rfl,Y⟩);all_goals go_wp2_with fail
   all_goals
    go_roundw
    case rel=>exact⟨k+1,om,by go_num,b5 a t (by assumption)⟩
    case measure=>simp[intOf];omega
  ·clear F s;go_wp2;go_ret;exact⟨rfl,a⟩
end Go.Proofs.YtcfojmaccikgeaaGreatDoor
