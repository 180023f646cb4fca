import Derived.Test.YtcfojmaccikgeaaGreatDoorB25
import Derived.Deep.RegionHeld
import Derived.Test.YtcfojmaccikgeaaGreatDoorB5
import Derived.Test.YtcfojmaccikgeaaGreatDoorSL2
import Derived.Test.YtcfojmaccikgeaaGreatDoorB17
import Derived.BigQuiet
open Go.Value renaming slice→Zs,int→Zi,string→Zt,agg→Za
open Go.IntKind renaming i64→Zk
open Go.Ending renaming returned→Zr
open Go.Obj renaming cells→Zc
open Option renaming none→Zn,some→Zo
open Nat renaming lt_of_lt_of_le→Zd
namespace Go.Proofs.YtcfojmaccikgeaaGreatDoor
open Go.RowKit Go.Proofs.Tryz
set_option maxRecDepth 100000
set_option maxHeartbeats 16000000
def sD(m:Nat):Prop:=∀(S:Nat->Prop)(t:T m)(c0 c1 c2 c3 c4:Value)(w:World),fT S w m t c0 c1 c2 c3 c4->(∀b,S b->b<w.heap.size)->jS m t<=1048576 ->
 Calls prog 68 #[Za #[c0,c1,c2,c3,c4]] w fun e a=>e=Zr (Zi Zk (gO m t))/\Below w.heap.size w a
theorem FT(m:Nat)(t:T (m+1))(h:jS (m+1) t<=1048576):(Nd.kids t).length<=1048576:=by
 have:∀l:List (T m),l.length<=b4 (fun k=>jS m k+1) l:=by
  intro l;induction l with
  | nil=>simp
  | cons a r b=>simp only[b4,List.length_cons];omega
 have:=this (Nd.kids t);simp only[jS]at h;omega
theorem yf(m:Nat)(hn:sD m):sD (m+1):=by
 intro S t c0 c1 c2 c3 c4 w ht D q;obtain⟨rfl,rfl,rfl,hs,an,ag,h3,h4,⟨na,nl,nc,rfl,ac⟩,⟨ka,kl,kc,rfl,ad⟩⟩:=ht;obtain⟨_,_,hv,-⟩:=id h3;cases hv
 obtain⟨_,_,hv,H,-⟩:=id h4;cases hv
 have ai:=FT m t q;have Z:Hid (∀k (h:k<(Nd.kids t).length),jS m (Nd.kids t)[k]<=1048576):=fun k h=>by have:=gL (fun k=>jS m k+1) (Nd.kids t) _ (List.getElem_mem h);simp only[jS]at q;omega
 clear q H;have r:=(Below.refl w.heap.size w).alloc (Nat.le_refl _) (Zc #[Zi Zk (Nd.sort t),Zi Zk (Nd.num t),Zt (Nd.text t),Zs na (Nd.names t).length nc,Zs ka (Nd.kids t).length kc] 40);have hK:=h4.keepN (a6 r D) (fun _ h=>h);obtain⟨W,X⟩:∃W,W=w.alloc (Zc #[Zi Zk (Nd.sort t),Zi Zk (Nd.num t),Zt (Nd.text t),Zs na (Nd.names t).length nc,Zs ka (Nd.kids t).length kc] 40):=⟨_,rfl⟩;have s:=heap_alloc_last w (Zc #[Zi Zk (Nd.sort t),Zi Zk (Nd.num t),Zt (Nd.text t),Zs na (Nd.names t).length nc,Zs ka (Nd.kids t).length kc] 40);have ah:w.heap.size<W.heap.size:=by rw[X];simp
 obtain⟨z0,z1,z2,z3,z4⟩:=fZ s;rw[<- X]at r hK z0 z4;have z:=a7 r;have C:Hid (∀j,gR (gO m) (Nd.sort t) (Nd.kids t) j<=1+800020*(j:Int)/\1<=gR (gO m) (Nd.sort t) (Nd.kids t) j):=fun j=>by have:=oN (gO m) (Nd.sort t) (Nd.kids t) (fun x _=>⟨by have:=lq m x;omega,(lq m x).2⟩) j;exact⟨this.2.1,this.1⟩
 clear h3 h4 r s z1 z2 z3 ac ad hs ag;go_enter func68,ntmps68;go_wp2_with fail;rw[<- X];clear X;obtain⟨_,_,ae,-,g⟩:=hK;cases ae
 go_loopw [3,9] (fun a i wr=>∃j:Nat,j<=(Nd.kids t).length/\i=Zi Zk j/\a=Zi Zk (gR (gO m) (Nd.sort t) (Nd.kids t) j)/\Below W.heap.size W wr) (fun _ i _=>(Nd.kids t).length-(intOf i).toNat);case atStart=>exact⟨0,Nat.zero_le _,rfl,rfl,Below.refl _ _⟩
 case round=>
  obtain⟨j,hj,rfl,rfl,c⟩:=hrel;have af:=c.size;have am:=C.out j;by_cases o:j<(Nd.kids t).length
  ·obtain⟨b,off,rfl,ab,n⟩:=g (by intro h;rw[h]at o;simp at o);obtain⟨x0,x1,x2,x3,x4,e0,e1,e2,e3,e4,y⟩:=n j o;obtain⟨K,L,M,N,P,O,Q,T,R,rfl,rfl,rfl,rfl,rfl⟩:=y.shape;have al:=D b ab;have f0:=(c.cell (p:=⟨b,off+j*5,Zn⟩) (by show b<_;omega)).trans e0;have f1:=(c.cell (p:=⟨b,off+j*5+1,Zn⟩) (by show b<_;omega)).trans e1;have f2:=(c.cell (p:=⟨b,off+j*5+2,Zn⟩) (by show b<_;omega)).trans e2;have f3:=(c.cell (p:=⟨b,off+j*5+3,Zn⟩) (by show b<_;omega)).trans e3;have f4:=(c.cell (p:=⟨b,off+j*5+4,Zn⟩) (by show b<_;omega)).trans e4;obtain⟨V,E⟩:∃V,V=wr.alloc (Zc #[Zi Zk K,Zi Zk L,Zt M,Zs N P O,Zs Q T R] 40):=⟨_,rfl⟩;have l:Below W.heap.size W V:=by rw[E];exact c.alloc af _
   have J:V.heap.size=wr.heap.size+1:=by rw[E];simp
   obtain⟨v0,v1,v2,v3,v4⟩:=fZ (heap_alloc_last wr (Zc #[Zi Zk K,Zi Zk L,Zt M,Zs N P O,Zs Q T R] 40));rw[<- E]at v0 v1 v2 v3 v4;have q0:V.cell? ⟨w.heap.size,0,Zn⟩=Zo (Zi Zk (Nd.sort t)):=(l.cell (p:=⟨w.heap.size,0,Zn⟩) ah).trans z0;have qq:=y.keep (a6 l (fun b v=>by have:=D b v;omega)) (fun _ h=>h);have A:Hid (Calls prog 68 #[Za #[Zi Zk K,Zi Zk L,Zt M,Zs N P O,Zs Q T R]] V.drew fun e d=>e=Zr (Zi Zk (gO m (Nd.kids t)[j]))/\Below W.heap.size W d/\(d.cell? ⟨w.heap.size,0,Zn⟩=Zo (Zi Zk (Nd.sort t))/\d.cell? ⟨wr.heap.size,0,Zn⟩=Zo (Zi Zk K)/\d.cell? ⟨wr.heap.size,1,Zn⟩=Zo (Zi Zk L)/\d.cell? ⟨wr.heap.size,2,Zn⟩=Zo (Zt M)/\d.cell? ⟨wr.heap.size,3,Zn⟩=Zo (Zs N P O)/\d.cell? ⟨wr.heap.size,4,Zn⟩=Zo (Zs Q T R))):=by have U:Below V.heap.size V V.drew:=(Below.refl _ _).drew;refine (hn S (Nd.kids t)[j] _ _ _ _ _ V.drew (qq.keep (a6 U (fun b v=>by have:=D b v;omega)) (fun _ h=>h)) (fun b v=>by have:=D b v;have:=U.size;omega) (Z.out j o)).mono ?_;rintro e d ⟨rfl,v⟩;have f:Below V.heap.size V d:=U.trans (v.mono U.size);exact⟨rfl,l.trans (f.mono l.size),(f.cell (p:=⟨w.heap.size,0,Zn⟩) (by show w.heap.size<_;omega)).trans q0,(f.cell (p:=⟨wr.heap.size,0,Zn⟩) (by show wr.heap.size<_;omega)).trans v0,(f.cell (p:=⟨wr.heap.size,1,Zn⟩) (by show wr.heap.size<_;omega)).trans v1,(f.cell (p:=⟨wr.heap.size,2,Zn⟩) (by show wr.heap.size<_;omega)).trans v2,(f.cell (p:=⟨wr.heap.size,3,Zn⟩) (by show wr.heap.size<_;omega)).trans v3,(f.cell (p:=⟨wr.heap.size,4,Zn⟩) (by show wr.heap.size<_;omega)).trans v4⟩
   have B:Hid (∀w,Calls prog 94 #[Zi Zk (Nd.sort t),Zi Zk (j:Int)] w fun e d=>e=Zr (Zi Zk (iR (Nd.sort t) j))/\d=w):=fun w=>oz (Nd.sort t) j w;have u:Hid (gR (gO m) (Nd.sort t) (Nd.kids t) (j+1)=gR (gO m) (Nd.sort t) (Nd.kids t) j+gO m (Nd.kids t)[j]*iR (Nd.sort t) j):=by show _=_;rw[rn _ _ _ _ o,Int.mul_comm]
   have hc:=lq m (Nd.kids t)[j];have I:=ui (Nd.sort t) j;have hm:=uj I.1 I.2 (by omega) hc.2;rw[Int.mul_comm]at hm;generalize gR (gO m) (Nd.sort t) (Nd.kids t) j=cs at *;generalize gO m (Nd.kids t)[j]=cv at *;generalize iR (Nd.sort t) j=tv at *;have ao:IntKind.i64.wrap (cv*tv)=cv*tv:=by rw[IntKind.wrap_i64];omega
   have ap:IntKind.i64.wrap (cs+cv*tv)=cs+cv*tv:=by rw[IntKind.wrap_i64];omega
   have ak:=a7 J;have aj:=a7 l;clear g n e0 e1 e2 e3 e4 y qq c C J l;go_wp2_with fail;rw[<- E];clear E f0 f1 f2 f3 f4;go_region_held (fun d=>d.cell? ⟨w.heap.size,0,Zn⟩=Zo (Zi Zk (Nd.sort t))/\d.cell? ⟨wr.heap.size,0,Zn⟩=Zo (Zi Zk K)/\d.cell? ⟨wr.heap.size,1,Zn⟩=Zo (Zi Zk L)/\d.cell? ⟨wr.heap.size,2,Zn⟩=Zo (Zt M)/\d.cell? ⟨wr.heap.size,3,Zn⟩=Zo (Zs N P O)/\d.cell? ⟨wr.heap.size,4,Zn⟩=Zo (Zs Q T R)) (first|with_reducible assumption|go_keep) (first|(go_at_call 68;refine A.out.mono ?_;rintro e w2 ⟨rfl,F,aa⟩)|(go_at_call 94;refine (B.out _).mono ?_;rintro e w3 ⟨rfl,rfl⟩));all_goals
    have Y:=a7 F
    clear F aa v0 v1 v2 v3 v4 q0 A B
    go_wp2_with fail
    go_roundw
    case rel=>
     refine⟨j+1,by omega,by go_num,?_,Y.out⟩
     rw[u.out]
    case measure=>simp[intOf];omega
  ·have G:j=(Nd.kids t).length:=by omega
   have HP:Hid (Below w.heap.size w wr):=z.out.trans (c.mono z.out.size);clear g;have HF:Hid (gO (m+1) t=min (gR (gO m) (Nd.sort t) (Nd.kids t) j) 40001):=by show min (gR (gO m) (Nd.sort t) (Nd.kids t) (Nd.kids t).length) 40001=_;rw[<- G]
   clear G;go_wp2_with fail;go_ret;exact⟨d8 HF.out.symm,HP.out⟩
theorem Ak:∀m,sD m:=by
 intro m;induction m with
 | zero=>intro S t c0 c1 c2 c3 c4 w a;exact a.elim
 | succ m b=>exact yf m b
def vY(m:Nat):Prop:=∀(S:Nat->Prop)(t:T m)(c0 c1 c2 c3 c4:Value)(d:Int)(w:World),fT S w m t c0 c1 c2 c3 c4->(∀b,S b->b<w.heap.size)->gp m t d=true ->
 Calls prog 69 #[Za #[c0,c1,c2,c3,c4]] w fun e a=>e=Zr (Zi Zk (gh m t))/\Below w.heap.size w a
theorem Al(m:Nat)(hn:vY m):vY (m+1):=by
 intro S t c0 c1 c2 c3 c4 d w ht hB hg;obtain⟨rfl,rfl,rfl,hs,bu,bk,h3,h4,⟨na,nl,nc,rfl,be⟩,⟨ka,kl,kc,rfl,bf⟩⟩:=ht;obtain⟨_,_,hv,-⟩:=id h3;cases hv
 obtain⟨_,_,hv,aZ,-⟩:=id h4;cases hv
 have J:Hid (∀k (h:k<(Nd.kids t).length),gp m (Nd.kids t)[k] (d+1)=true):=fun k h=>by simp only[gp,Bool.and_eq_true,List.all_eq_true]at hg;exact hg.2 _ (List.getElem_mem h)
 have Y:Hid (∀k:Nat,Nd.sort t=(k:Int)->k≠24->k<44->(Nd.kids t).length=(jo k).length):=fun k hk br bt=>by
  simp only[gp,Bool.and_eq_true]at hg;have hj:gV (jG m) (show Nd (T m) from t)=true:=hg.1.2;have hr:1<=Nd.sort t/\Nd.sort t<=43:=by have h:=hj;unfold gV at h;simp only[Bool.and_eq_true,decide_eq_true_eq]at h;exact h.1
  rw[kL (jG m) (show Nd (T m) from t) hr.1 hr.2 (by show Nd.sort t≠24;omega)]at hj;simp only[Bool.and_eq_true,decide_eq_true_eq]at hj;have hl:=congrArg List.length hj.2;have bi:(Nd.sort t).toNat=k:=by omega
  rw[<- bi];simpa using hl
 clear hg aZ;have aC:=(Below.refl w.heap.size w).alloc (Nat.le_refl _) (Zc #[Zi Zk (Nd.sort t),Zi Zk (Nd.num t),Zt (Nd.text t),Zs na (Nd.names t).length nc,Zs ka (Nd.kids t).length kc] 40);have hK:=h4.keepN (a6 aC hB) (fun _ h=>h);obtain⟨W,Z⟩:∃W,W=w.alloc (Zc #[Zi Zk (Nd.sort t),Zi Zk (Nd.num t),Zt (Nd.text t),Zs na (Nd.names t).length nc,Zs ka (Nd.kids t).length kc] 40):=⟨_,rfl⟩;have aD:=heap_alloc_last w (Zc #[Zi Zk (Nd.sort t),Zi Zk (Nd.num t),Zt (Nd.text t),Zs na (Nd.names t).length nc,Zs ka (Nd.kids t).length kc] 40);have aa:w.heap.size<W.heap.size:=by rw[Z];simp
 obtain⟨z0,z1,z2,z3,z4⟩:=fZ aD;rw[<- Z]at aC hK z0 z4;have B:∀b,S b->b<W.heap.size:=fun b c=>by have:=hB b c;omega
 have F:=a7 aC;have hD:Below W.heap.size W W.drew:=(Below.refl _ _).drew;have aB:=a7 z0;clear h3 h4 aC aD z1 z2 z3 be bf hs bk;obtain⟨_,_,bj,-,i⟩:=hK;cases bj
 by_cases z:Nd.sort t=38
 ·have I:Hid (gh (m+1) t=1):=by show _=_;simp only[gh];rw[if_pos (by omega)]
  rw[z]at Z z0 ⊢;have H:=a7 (Below.refl W.heap.size W);clear i;go_enter func69,ntmps69;go_wp2_with fail;rw[<- Z];go_ret;exact⟨d8 I.out.symm,F.out.trans (H.out.mono F.out.size)⟩
 by_cases z:Nd.sort t=39
 ·have I:Hid (gh (m+1) t=1):=by show _=_;simp only[gh];rw[if_pos (by omega)]
  rw[z]at Z z0 ⊢;have H:=a7 (Below.refl W.heap.size W);clear i;go_enter func69,ntmps69;go_wp2_with fail;rw[<- Z];go_ret;exact⟨d8 I.out.symm,F.out.trans (H.out.mono F.out.size)⟩
 by_cases z:Nd.sort t=40
 ·have I:Hid (gh (m+1) t=min ((((Nd.kids t)[0]?).map (gh m)).getD 0+(((Nd.kids t)[1]?).map (gh m)).getD 0) 401):=by show _=_;simp only[gh];rw[if_neg (by omega),if_pos (by omega)]
  have D:(Nd.kids t).length=2:=Y.out 40 z (by decide) (by decide);obtain⟨b,off,rfl,R,g⟩:=i (by intro h;rw[h]at D;simp at D);have ac:=hB b R;have aF:0<(Nd.kids t).length:=by omega
  obtain⟨x0,x1,x2,x3,x4,aL,aM,aN,aO,aP,aH⟩:=g 0 aF;obtain⟨af,ag,ah,al,ap,an,ar,ax,av,rfl,rfl,rfl,rfl,rfl⟩:=aH.shape;have C:1<(Nd.kids t).length:=by omega
  obtain⟨x0,x1,x2,x3,x4,L,M,N,O,P,E⟩:=g 1 C;obtain⟨j,l,n,o,r,q,s,x,u,rfl,rfl,rfl,rfl,rfl⟩:=E.shape;have X:Hid (∀a,Below W.heap.size W a->(a.cell? ⟨w.heap.size,0,Zn⟩=Zo (Zi Zk (Nd.sort t))/\a.cell? ⟨w.heap.size,4,Zn⟩=Zo (Zs (Zo ⟨b,off,Zn⟩) (Nd.kids t).length kc)/\a.cell? ⟨b,off,Zn⟩=Zo (Zi Zk af)/\a.cell? ⟨b,off+1,Zn⟩=Zo (Zi Zk ag)/\a.cell? ⟨b,off+2,Zn⟩=Zo (Zt ah)/\a.cell? ⟨b,off+3,Zn⟩=Zo (Zs al ap an)/\a.cell? ⟨b,off+4,Zn⟩=Zo (Zs ar ax av)/\a.cell? ⟨b,off+5,Zn⟩=Zo (Zi Zk j)/\a.cell? ⟨b,off+5+1,Zn⟩=Zo (Zi Zk l)/\a.cell? ⟨b,off+5+2,Zn⟩=Zo (Zt n)/\a.cell? ⟨b,off+5+3,Zn⟩=Zo (Zs o r q)/\a.cell? ⟨b,off+5+4,Zn⟩=Zo (Zs s x u))):=by intro a c;exact⟨(c.cell (p:=⟨w.heap.size,0,Zn⟩) aa).trans z0,(c.cell (p:=⟨w.heap.size,4,Zn⟩) aa).trans z4,(c.cell (p:=⟨b,off,Zn⟩) (by show b<_;omega)).trans (by simpa using aL),(c.cell (p:=⟨b,off+1,Zn⟩) (by show b<_;omega)).trans (by simpa using aM),(c.cell (p:=⟨b,off+2,Zn⟩) (by show b<_;omega)).trans (by simpa using aN),(c.cell (p:=⟨b,off+3,Zn⟩) (by show b<_;omega)).trans (by simpa using aO),(c.cell (p:=⟨b,off+4,Zn⟩) (by show b<_;omega)).trans (by simpa using aP),(c.cell (p:=⟨b,off+5,Zn⟩) (by show b<_;omega)).trans (by simpa using L),(c.cell (p:=⟨b,off+5+1,Zn⟩) (by show b<_;omega)).trans (by simpa using M),(c.cell (p:=⟨b,off+5+2,Zn⟩) (by show b<_;omega)).trans (by simpa using N),(c.cell (p:=⟨b,off+5+3,Zn⟩) (by show b<_;omega)).trans (by simpa using O),(c.cell (p:=⟨b,off+5+4,Zn⟩) (by show b<_;omega)).trans (by simpa using P)⟩
  have az:Hid (∀G,Below W.heap.size W G->Calls prog 69 #[Za #[Zi Zk af,Zi Zk ag,Zt ah,Zs al ap an,Zs ar ax av]] G fun e a=>e=Zr (Zi Zk (gh m (Nd.kids t)[0]))/\Below W.heap.size W a/\(a.cell? ⟨w.heap.size,0,Zn⟩=Zo (Zi Zk (Nd.sort t))/\a.cell? ⟨w.heap.size,4,Zn⟩=Zo (Zs (Zo ⟨b,off,Zn⟩) (Nd.kids t).length kc)/\a.cell? ⟨b,off,Zn⟩=Zo (Zi Zk af)/\a.cell? ⟨b,off+1,Zn⟩=Zo (Zi Zk ag)/\a.cell? ⟨b,off+2,Zn⟩=Zo (Zt ah)/\a.cell? ⟨b,off+3,Zn⟩=Zo (Zs al ap an)/\a.cell? ⟨b,off+4,Zn⟩=Zo (Zs ar ax av)/\a.cell? ⟨b,off+5,Zn⟩=Zo (Zi Zk j)/\a.cell? ⟨b,off+5+1,Zn⟩=Zo (Zi Zk l)/\a.cell? ⟨b,off+5+2,Zn⟩=Zo (Zt n)/\a.cell? ⟨b,off+5+3,Zn⟩=Zo (Zs o r q)/\a.cell? ⟨b,off+5+4,Zn⟩=Zo (Zs s x u))):=by intro G f;refine (hn S (Nd.kids t)[0] _ _ _ _ _ (d+1) G (aH.keep (a6 f B) (fun _ h=>h)) (fun b c=>Zd (B b c) f.size) (J.out 0 aF)).mono ?_;rintro e a ⟨rfl,c⟩;have A:=f.trans (c.mono f.size);exact⟨rfl,A,X.out a A⟩
  have bg:=ki m (Nd.kids t)[0];have aX:(((Nd.kids t)[0]?).map (gh m)).getD 0=gh m (Nd.kids t)[0]:=by simp[aF]
  have y:Hid (∀G,Below W.heap.size W G->Calls prog 69 #[Za #[Zi Zk j,Zi Zk l,Zt n,Zs o r q,Zs s x u]] G fun e a=>e=Zr (Zi Zk (gh m (Nd.kids t)[1]))/\Below W.heap.size W a/\(a.cell? ⟨w.heap.size,0,Zn⟩=Zo (Zi Zk (Nd.sort t))/\a.cell? ⟨w.heap.size,4,Zn⟩=Zo (Zs (Zo ⟨b,off,Zn⟩) (Nd.kids t).length kc)/\a.cell? ⟨b,off,Zn⟩=Zo (Zi Zk af)/\a.cell? ⟨b,off+1,Zn⟩=Zo (Zi Zk ag)/\a.cell? ⟨b,off+2,Zn⟩=Zo (Zt ah)/\a.cell? ⟨b,off+3,Zn⟩=Zo (Zs al ap an)/\a.cell? ⟨b,off+4,Zn⟩=Zo (Zs ar ax av)/\a.cell? ⟨b,off+5,Zn⟩=Zo (Zi Zk j)/\a.cell? ⟨b,off+5+1,Zn⟩=Zo (Zi Zk l)/\a.cell? ⟨b,off+5+2,Zn⟩=Zo (Zt n)/\a.cell? ⟨b,off+5+3,Zn⟩=Zo (Zs o r q)/\a.cell? ⟨b,off+5+4,Zn⟩=Zo (Zs s x u))):=by intro G f;refine (hn S (Nd.kids t)[1] _ _ _ _ _ (d+1) G (E.keep (a6 f B) (fun _ h=>h)) (fun b c=>Zd (B b c) f.size) (J.out 1 C)).mono ?_;rintro e a ⟨rfl,c⟩;have A:=f.trans (c.mono f.size);exact⟨rfl,A,X.out a A⟩
  have ad:=ki m (Nd.kids t)[1];have U:(((Nd.kids t)[1]?).map (gh m)).getD 0=gh m (Nd.kids t)[1]:=by simp[C]
  rw[aX,U]at I;clear i g aL aM aN aO aP aH aX L M N O P E U;obtain⟨v0,ba⟩:∃v,v=gh m (Nd.kids t)[0]:=⟨_,rfl⟩;rw[<- ba]at az I bg;clear ba;obtain⟨v1,V⟩:∃v,v=gh m (Nd.kids t)[1]:=⟨_,rfl⟩;rw[<- V]at y I ad;clear V;have aE:=a7 (Below.refl W.heap.size W);have K:=a7 (X.out W (Below.refl _ _));rw[z]at Z z0 X K az y ⊢;clear Y J hn hB B R ac X D z aB;obtain⟨q0,q1,q2,q3,q4,q5,q6,q7,q8,q9,aJ,aK⟩:=K.out;go_enter func69,ntmps69;go_wp2_with fail;rw[<- Z];clear Z;go_region_held (fun a=>a.cell? ⟨w.heap.size,0,Zn⟩=Zo (Zi Zk 40)/\a.cell? ⟨w.heap.size,4,Zn⟩=Zo (Zs (Zo ⟨b,off,Zn⟩) (Nd.kids t).length kc)/\a.cell? ⟨b,off,Zn⟩=Zo (Zi Zk af)/\a.cell? ⟨b,off+1,Zn⟩=Zo (Zi Zk ag)/\a.cell? ⟨b,off+2,Zn⟩=Zo (Zt ah)/\a.cell? ⟨b,off+3,Zn⟩=Zo (Zs al ap an)/\a.cell? ⟨b,off+4,Zn⟩=Zo (Zs ar ax av)/\a.cell? ⟨b,off+5,Zn⟩=Zo (Zi Zk j)/\a.cell? ⟨b,off+5+1,Zn⟩=Zo (Zi Zk l)/\a.cell? ⟨b,off+5+2,Zn⟩=Zo (Zt n)/\a.cell? ⟨b,off+5+3,Zn⟩=Zo (Zs o r q)/\a.cell? ⟨b,off+5+4,Zn⟩=Zo (Zs s x u)) (first|with_reducible assumption|go_keep) (first|(go_at_call 69;with_reducible refine (az.out _ (by first|with_reducible assumption)).mono ?_;rintro e w4 ⟨rfl,aV,bc⟩)|(go_at_call 69;with_reducible refine (y.out _ (by first|with_reducible assumption)).mono ?_;rintro e w5 ⟨rfl,Q,ab⟩));all_goals
   have H:Hid (Below w.heap.size w _):=F.out.trans (Below.mono (by first|exact Q|exact aV) F.out.size)
   clear aV Q bc ab az y hD z0 z4 q0 q1 q2 q3 q4 q5 q6 q7 q8 q9 aJ aK
   go_wp2_with fail
   go_ret
   exact⟨d8 (by rw[I.out]),H.out⟩
 by_cases z:Nd.sort t=41
 ·have I:Hid (gh (m+1) t=max ((((Nd.kids t)[1]?).map (gh m)).getD 0) ((((Nd.kids t)[2]?).map (gh m)).getD 0)):=by show _=_;simp only[gh];rw[if_neg (by omega),if_neg (by omega),if_pos (by omega)]
  have D:(Nd.kids t).length=3:=Y.out 41 z (by decide) (by decide);obtain⟨b,off,rfl,R,g⟩:=i (by intro h;rw[h]at D;simp at D);have ac:=hB b R;have C:1<(Nd.kids t).length:=by omega
  obtain⟨x0,x1,x2,x3,x4,L,M,N,O,P,E⟩:=g 1 C;obtain⟨j,l,n,o,r,q,s,x,u,rfl,rfl,rfl,rfl,rfl⟩:=E.shape;have aG:2<(Nd.kids t).length:=by omega
  obtain⟨x0,x1,x2,x3,x4,aQ,aR,aS,aT,aU,aI⟩:=g 2 aG;obtain⟨ai,aj,ak,am,aq,ao,au,ay,aw,rfl,rfl,rfl,rfl,rfl⟩:=aI.shape;have X:Hid (∀a,Below W.heap.size W a->(a.cell? ⟨w.heap.size,0,Zn⟩=Zo (Zi Zk (Nd.sort t))/\a.cell? ⟨w.heap.size,4,Zn⟩=Zo (Zs (Zo ⟨b,off,Zn⟩) (Nd.kids t).length kc)/\a.cell? ⟨b,off+5,Zn⟩=Zo (Zi Zk j)/\a.cell? ⟨b,off+5+1,Zn⟩=Zo (Zi Zk l)/\a.cell? ⟨b,off+5+2,Zn⟩=Zo (Zt n)/\a.cell? ⟨b,off+5+3,Zn⟩=Zo (Zs o r q)/\a.cell? ⟨b,off+5+4,Zn⟩=Zo (Zs s x u)/\a.cell? ⟨b,off+10,Zn⟩=Zo (Zi Zk ai)/\a.cell? ⟨b,off+10+1,Zn⟩=Zo (Zi Zk aj)/\a.cell? ⟨b,off+10+2,Zn⟩=Zo (Zt ak)/\a.cell? ⟨b,off+10+3,Zn⟩=Zo (Zs am aq ao)/\a.cell? ⟨b,off+10+4,Zn⟩=Zo (Zs au ay aw))):=by intro a c;exact⟨(c.cell (p:=⟨w.heap.size,0,Zn⟩) aa).trans z0,(c.cell (p:=⟨w.heap.size,4,Zn⟩) aa).trans z4,(c.cell (p:=⟨b,off+5,Zn⟩) (by show b<_;omega)).trans (by simpa using L),(c.cell (p:=⟨b,off+5+1,Zn⟩) (by show b<_;omega)).trans (by simpa using M),(c.cell (p:=⟨b,off+5+2,Zn⟩) (by show b<_;omega)).trans (by simpa using N),(c.cell (p:=⟨b,off+5+3,Zn⟩) (by show b<_;omega)).trans (by simpa using O),(c.cell (p:=⟨b,off+5+4,Zn⟩) (by show b<_;omega)).trans (by simpa using P),(c.cell (p:=⟨b,off+10,Zn⟩) (by show b<_;omega)).trans (by simpa using aQ),(c.cell (p:=⟨b,off+10+1,Zn⟩) (by show b<_;omega)).trans (by simpa using aR),(c.cell (p:=⟨b,off+10+2,Zn⟩) (by show b<_;omega)).trans (by simpa using aS),(c.cell (p:=⟨b,off+10+3,Zn⟩) (by show b<_;omega)).trans (by simpa using aT),(c.cell (p:=⟨b,off+10+4,Zn⟩) (by show b<_;omega)).trans (by simpa using aU)⟩
  have y:Hid (∀G,Below W.heap.size W G->Calls prog 69 #[Za #[Zi Zk j,Zi Zk l,Zt n,Zs o r q,Zs s x u]] G fun e a=>e=Zr (Zi Zk (gh m (Nd.kids t)[1]))/\Below W.heap.size W a/\(a.cell? ⟨w.heap.size,0,Zn⟩=Zo (Zi Zk (Nd.sort t))/\a.cell? ⟨w.heap.size,4,Zn⟩=Zo (Zs (Zo ⟨b,off,Zn⟩) (Nd.kids t).length kc)/\a.cell? ⟨b,off+5,Zn⟩=Zo (Zi Zk j)/\a.cell? ⟨b,off+5+1,Zn⟩=Zo (Zi Zk l)/\a.cell? ⟨b,off+5+2,Zn⟩=Zo (Zt n)/\a.cell? ⟨b,off+5+3,Zn⟩=Zo (Zs o r q)/\a.cell? ⟨b,off+5+4,Zn⟩=Zo (Zs s x u)/\a.cell? ⟨b,off+10,Zn⟩=Zo (Zi Zk ai)/\a.cell? ⟨b,off+10+1,Zn⟩=Zo (Zi Zk aj)/\a.cell? ⟨b,off+10+2,Zn⟩=Zo (Zt ak)/\a.cell? ⟨b,off+10+3,Zn⟩=Zo (Zs am aq ao)/\a.cell? ⟨b,off+10+4,Zn⟩=Zo (Zs au ay aw))):=by intro G f;refine (hn S (Nd.kids t)[1] _ _ _ _ _ (d+1) G (E.keep (a6 f B) (fun _ h=>h)) (fun b c=>Zd (B b c) f.size) (J.out 1 C)).mono ?_;rintro e a ⟨rfl,c⟩;have A:=f.trans (c.mono f.size);exact⟨rfl,A,X.out a A⟩
  have ad:=ki m (Nd.kids t)[1];have U:(((Nd.kids t)[1]?).map (gh m)).getD 0=gh m (Nd.kids t)[1]:=by simp[C]
  have aA:Hid (∀G,Below W.heap.size W G->Calls prog 69 #[Za #[Zi Zk ai,Zi Zk aj,Zt ak,Zs am aq ao,Zs au ay aw]] G fun e a=>e=Zr (Zi Zk (gh m (Nd.kids t)[2]))/\Below W.heap.size W a/\(a.cell? ⟨w.heap.size,0,Zn⟩=Zo (Zi Zk (Nd.sort t))/\a.cell? ⟨w.heap.size,4,Zn⟩=Zo (Zs (Zo ⟨b,off,Zn⟩) (Nd.kids t).length kc)/\a.cell? ⟨b,off+5,Zn⟩=Zo (Zi Zk j)/\a.cell? ⟨b,off+5+1,Zn⟩=Zo (Zi Zk l)/\a.cell? ⟨b,off+5+2,Zn⟩=Zo (Zt n)/\a.cell? ⟨b,off+5+3,Zn⟩=Zo (Zs o r q)/\a.cell? ⟨b,off+5+4,Zn⟩=Zo (Zs s x u)/\a.cell? ⟨b,off+10,Zn⟩=Zo (Zi Zk ai)/\a.cell? ⟨b,off+10+1,Zn⟩=Zo (Zi Zk aj)/\a.cell? ⟨b,off+10+2,Zn⟩=Zo (Zt ak)/\a.cell? ⟨b,off+10+3,Zn⟩=Zo (Zs am aq ao)/\a.cell? ⟨b,off+10+4,Zn⟩=Zo (Zs au ay aw))):=by intro G f;refine (hn S (Nd.kids t)[2] _ _ _ _ _ (d+1) G (aI.keep (a6 f B) (fun _ h=>h)) (fun b c=>Zd (B b c) f.size) (J.out 2 aG)).mono ?_;rintro e a ⟨rfl,c⟩;have A:=f.trans (c.mono f.size);exact⟨rfl,A,X.out a A⟩
  have bh:=ki m (Nd.kids t)[2];have aY:(((Nd.kids t)[2]?).map (gh m)).getD 0=gh m (Nd.kids t)[2]:=by simp[aG]
  rw[U,aY]at I;clear i g L M N O P E U aQ aR aS aT aU aI aY;obtain⟨v1,V⟩:∃v,v=gh m (Nd.kids t)[1]:=⟨_,rfl⟩;rw[<- V]at y I ad;clear V;obtain⟨v2,bb⟩:∃v,v=gh m (Nd.kids t)[2]:=⟨_,rfl⟩;rw[<- bb]at aA I bh;clear bb;have aE:=a7 (Below.refl W.heap.size W);have K:=a7 (X.out W (Below.refl _ _));rw[z]at Z z0 X K y aA ⊢;clear Y J hn hB B R ac X D z aB;obtain⟨q0,q1,q2,q3,q4,q5,q6,q7,q8,q9,aJ,aK⟩:=K.out;go_enter func69,ntmps69;go_wp2_with fail;rw[<- Z];clear Z;go_region_held (fun a=>a.cell? ⟨w.heap.size,0,Zn⟩=Zo (Zi Zk 41)/\a.cell? ⟨w.heap.size,4,Zn⟩=Zo (Zs (Zo ⟨b,off,Zn⟩) (Nd.kids t).length kc)/\a.cell? ⟨b,off+5,Zn⟩=Zo (Zi Zk j)/\a.cell? ⟨b,off+5+1,Zn⟩=Zo (Zi Zk l)/\a.cell? ⟨b,off+5+2,Zn⟩=Zo (Zt n)/\a.cell? ⟨b,off+5+3,Zn⟩=Zo (Zs o r q)/\a.cell? ⟨b,off+5+4,Zn⟩=Zo (Zs s x u)/\a.cell? ⟨b,off+10,Zn⟩=Zo (Zi Zk ai)/\a.cell? ⟨b,off+10+1,Zn⟩=Zo (Zi Zk aj)/\a.cell? ⟨b,off+10+2,Zn⟩=Zo (Zt ak)/\a.cell? ⟨b,off+10+3,Zn⟩=Zo (Zs am aq ao)/\a.cell? ⟨b,off+10+4,Zn⟩=Zo (Zs au ay aw)) (first|with_reducible assumption|go_keep) (first|(go_at_call 69;with_reducible refine (y.out _ (by first|with_reducible assumption)).mono ?_;rintro e w5 ⟨rfl,Q,ab⟩)|(go_at_call 69;with_reducible refine (aA.out _ (by first|with_reducible assumption)).mono ?_;rintro e w6 ⟨rfl,aW,bd⟩));all_goals
   have H:Hid (Below w.heap.size w _):=F.out.trans (Below.mono (by first|exact aW|exact Q) F.out.size)
   clear Q aW ab bd y aA hD z0 z4 q0 q1 q2 q3 q4 q5 q6 q7 q8 q9 aJ aK
   go_wp2_with fail
   go_ret
   exact⟨d8 (by rw[I.out];omega),H.out⟩
 by_cases z:Nd.sort t=42
 ·have I:Hid (gh (m+1) t=(((Nd.kids t)[1]?).map (gh m)).getD 0):=by show _=_;simp only[gh];rw[if_neg (by omega),if_neg (by omega),if_neg (by omega),if_pos (by omega)]
  have D:(Nd.kids t).length=2:=Y.out 42 z (by decide) (by decide);obtain⟨b,off,rfl,R,g⟩:=i (by intro h;rw[h]at D;simp at D);have ac:=hB b R;have C:1<(Nd.kids t).length:=by omega
  obtain⟨x0,x1,x2,x3,x4,L,M,N,O,P,E⟩:=g 1 C;obtain⟨j,l,n,o,r,q,s,x,u,rfl,rfl,rfl,rfl,rfl⟩:=E.shape;have X:Hid (∀a,Below W.heap.size W a->(a.cell? ⟨w.heap.size,0,Zn⟩=Zo (Zi Zk (Nd.sort t))/\a.cell? ⟨w.heap.size,4,Zn⟩=Zo (Zs (Zo ⟨b,off,Zn⟩) (Nd.kids t).length kc)/\a.cell? ⟨b,off+5,Zn⟩=Zo (Zi Zk j)/\a.cell? ⟨b,off+5+1,Zn⟩=Zo (Zi Zk l)/\a.cell? ⟨b,off+5+2,Zn⟩=Zo (Zt n)/\a.cell? ⟨b,off+5+3,Zn⟩=Zo (Zs o r q)/\a.cell? ⟨b,off+5+4,Zn⟩=Zo (Zs s x u))):=by intro a c;exact⟨(c.cell (p:=⟨w.heap.size,0,Zn⟩) aa).trans z0,(c.cell (p:=⟨w.heap.size,4,Zn⟩) aa).trans z4,(c.cell (p:=⟨b,off+5,Zn⟩) (by show b<_;omega)).trans (by simpa using L),(c.cell (p:=⟨b,off+5+1,Zn⟩) (by show b<_;omega)).trans (by simpa using M),(c.cell (p:=⟨b,off+5+2,Zn⟩) (by show b<_;omega)).trans (by simpa using N),(c.cell (p:=⟨b,off+5+3,Zn⟩) (by show b<_;omega)).trans (by simpa using O),(c.cell (p:=⟨b,off+5+4,Zn⟩) (by show b<_;omega)).trans (by simpa using P)⟩
  have y:Hid (∀G,Below W.heap.size W G->Calls prog 69 #[Za #[Zi Zk j,Zi Zk l,Zt n,Zs o r q,Zs s x u]] G fun e a=>e=Zr (Zi Zk (gh m (Nd.kids t)[1]))/\Below W.heap.size W a/\(a.cell? ⟨w.heap.size,0,Zn⟩=Zo (Zi Zk (Nd.sort t))/\a.cell? ⟨w.heap.size,4,Zn⟩=Zo (Zs (Zo ⟨b,off,Zn⟩) (Nd.kids t).length kc)/\a.cell? ⟨b,off+5,Zn⟩=Zo (Zi Zk j)/\a.cell? ⟨b,off+5+1,Zn⟩=Zo (Zi Zk l)/\a.cell? ⟨b,off+5+2,Zn⟩=Zo (Zt n)/\a.cell? ⟨b,off+5+3,Zn⟩=Zo (Zs o r q)/\a.cell? ⟨b,off+5+4,Zn⟩=Zo (Zs s x u))):=by intro G f;refine (hn S (Nd.kids t)[1] _ _ _ _ _ (d+1) G (E.keep (a6 f B) (fun _ h=>h)) (fun b c=>Zd (B b c) f.size) (J.out 1 C)).mono ?_;rintro e a ⟨rfl,c⟩;have A:=f.trans (c.mono f.size);exact⟨rfl,A,X.out a A⟩
  have ad:=ki m (Nd.kids t)[1];have U:(((Nd.kids t)[1]?).map (gh m)).getD 0=gh m (Nd.kids t)[1]:=by simp[C]
  rw[U]at I;clear i g L M N O P E U;obtain⟨v1,V⟩:∃v,v=gh m (Nd.kids t)[1]:=⟨_,rfl⟩;rw[<- V]at y I ad;clear V;have aE:=a7 (Below.refl W.heap.size W);have K:=a7 (X.out W (Below.refl _ _));rw[z]at Z z0 X K y ⊢;clear Y J hn hB B R ac X D z aB;have ae:Hid (∀w,Calls prog 94 #[Zi Zk 42,Zi Zk 1] w fun e a=>e=Zr (Zi Zk 1)/\a=w):=fun w=>oz 42 1 w;obtain⟨q0,q1,q2,q3,q4,q5,q6⟩:=K.out;go_enter func69,ntmps69;go_wp2_with fail;rw[<- Z];clear Z;go_region_held (fun a=>a.cell? ⟨w.heap.size,0,Zn⟩=Zo (Zi Zk 42)/\a.cell? ⟨w.heap.size,4,Zn⟩=Zo (Zs (Zo ⟨b,off,Zn⟩) (Nd.kids t).length kc)/\a.cell? ⟨b,off+5,Zn⟩=Zo (Zi Zk j)/\a.cell? ⟨b,off+5+1,Zn⟩=Zo (Zi Zk l)/\a.cell? ⟨b,off+5+2,Zn⟩=Zo (Zt n)/\a.cell? ⟨b,off+5+3,Zn⟩=Zo (Zs o r q)/\a.cell? ⟨b,off+5+4,Zn⟩=Zo (Zs s x u)) (first|with_reducible assumption|go_keep) (first|(go_at_call 69;with_reducible refine (y.out _ (by first|with_reducible assumption)).mono ?_;rintro e w5 ⟨rfl,Q,ab⟩)|(go_at_call 94;refine (ae.out _).mono ?_;rintro e w7 ⟨rfl,rfl⟩));all_goals
   have H:Hid (Below w.heap.size w _):=F.out.trans (Below.mono Q F.out.size)
   clear Q ab y ae hD z0 z4 q0 q1 q2 q3 q4 q5 q6
   go_wp2_with fail
   go_ret
   exact⟨d8 (by rw[I.out];omega),H.out⟩
 by_cases z:Nd.sort t=43
 ·have I:Hid (gh (m+1) t=min (20*(((Nd.kids t)[1]?).map (gh m)).getD 0) 401):=by show _=_;simp only[gh];rw[if_neg (by omega),if_neg (by omega),if_neg (by omega),if_neg (by omega),if_pos (by omega)]
  have D:(Nd.kids t).length=2:=Y.out 43 z (by decide) (by decide);obtain⟨b,off,rfl,R,g⟩:=i (by intro h;rw[h]at D;simp at D);have ac:=hB b R;have C:1<(Nd.kids t).length:=by omega
  obtain⟨x0,x1,x2,x3,x4,L,M,N,O,P,E⟩:=g 1 C;obtain⟨j,l,n,o,r,q,s,x,u,rfl,rfl,rfl,rfl,rfl⟩:=E.shape;have X:Hid (∀a,Below W.heap.size W a->(a.cell? ⟨w.heap.size,0,Zn⟩=Zo (Zi Zk (Nd.sort t))/\a.cell? ⟨w.heap.size,4,Zn⟩=Zo (Zs (Zo ⟨b,off,Zn⟩) (Nd.kids t).length kc)/\a.cell? ⟨b,off+5,Zn⟩=Zo (Zi Zk j)/\a.cell? ⟨b,off+5+1,Zn⟩=Zo (Zi Zk l)/\a.cell? ⟨b,off+5+2,Zn⟩=Zo (Zt n)/\a.cell? ⟨b,off+5+3,Zn⟩=Zo (Zs o r q)/\a.cell? ⟨b,off+5+4,Zn⟩=Zo (Zs s x u))):=by intro a c;exact⟨(c.cell (p:=⟨w.heap.size,0,Zn⟩) aa).trans z0,(c.cell (p:=⟨w.heap.size,4,Zn⟩) aa).trans z4,(c.cell (p:=⟨b,off+5,Zn⟩) (by show b<_;omega)).trans (by simpa using L),(c.cell (p:=⟨b,off+5+1,Zn⟩) (by show b<_;omega)).trans (by simpa using M),(c.cell (p:=⟨b,off+5+2,Zn⟩) (by show b<_;omega)).trans (by simpa using N),(c.cell (p:=⟨b,off+5+3,Zn⟩) (by show b<_;omega)).trans (by simpa using O),(c.cell (p:=⟨b,off+5+4,Zn⟩) (by show b<_;omega)).trans (by simpa using P)⟩
  have y:Hid (∀G,Below W.heap.size W G->Calls prog 69 #[Za #[Zi Zk j,Zi Zk l,Zt n,Zs o r q,Zs s x u]] G fun e a=>e=Zr (Zi Zk (gh m (Nd.kids t)[1]))/\Below W.heap.size W a/\(a.cell? ⟨w.heap.size,0,Zn⟩=Zo (Zi Zk (Nd.sort t))/\a.cell? ⟨w.heap.size,4,Zn⟩=Zo (Zs (Zo ⟨b,off,Zn⟩) (Nd.kids t).length kc)/\a.cell? ⟨b,off+5,Zn⟩=Zo (Zi Zk j)/\a.cell? ⟨b,off+5+1,Zn⟩=Zo (Zi Zk l)/\a.cell? ⟨b,off+5+2,Zn⟩=Zo (Zt n)/\a.cell? ⟨b,off+5+3,Zn⟩=Zo (Zs o r q)/\a.cell? ⟨b,off+5+4,Zn⟩=Zo (Zs s x u))):=by intro G f;refine (hn S (Nd.kids t)[1] _ _ _ _ _ (d+1) G (E.keep (a6 f B) (fun _ h=>h)) (fun b c=>Zd (B b c) f.size) (J.out 1 C)).mono ?_;rintro e a ⟨rfl,c⟩;have A:=f.trans (c.mono f.size);exact⟨rfl,A,X.out a A⟩
  have ad:=ki m (Nd.kids t)[1];have U:(((Nd.kids t)[1]?).map (gh m)).getD 0=gh m (Nd.kids t)[1]:=by simp[C]
  rw[U]at I;clear i g L M N O P E U;obtain⟨v1,V⟩:∃v,v=gh m (Nd.kids t)[1]:=⟨_,rfl⟩;rw[<- V]at y I ad;clear V;have aE:=a7 (Below.refl W.heap.size W);have K:=a7 (X.out W (Below.refl _ _));rw[z]at Z z0 X K y ⊢;clear Y J hn hB B R ac X D z aB;have ae:Hid (∀w,Calls prog 94 #[Zi Zk 43,Zi Zk 1] w fun e a=>e=Zr (Zi Zk 20)/\a=w):=fun w=>oz 43 1 w;obtain⟨q0,q1,q2,q3,q4,q5,q6⟩:=K.out;go_enter func69,ntmps69;go_wp2_with fail;rw[<- Z];clear Z;go_region_held (fun a=>a.cell? ⟨w.heap.size,0,Zn⟩=Zo (Zi Zk 43)/\a.cell? ⟨w.heap.size,4,Zn⟩=Zo (Zs (Zo ⟨b,off,Zn⟩) (Nd.kids t).length kc)/\a.cell? ⟨b,off+5,Zn⟩=Zo (Zi Zk j)/\a.cell? ⟨b,off+5+1,Zn⟩=Zo (Zi Zk l)/\a.cell? ⟨b,off+5+2,Zn⟩=Zo (Zt n)/\a.cell? ⟨b,off+5+3,Zn⟩=Zo (Zs o r q)/\a.cell? ⟨b,off+5+4,Zn⟩=Zo (Zs s x u)) (first|with_reducible assumption|go_keep) (first|(go_at_call 69;with_reducible refine (y.out _ (by first|with_reducible assumption)).mono ?_;rintro e w5 ⟨rfl,Q,ab⟩)|(go_at_call 94;refine (ae.out _).mono ?_;rintro e w7 ⟨rfl,rfl⟩));all_goals
   have H:Hid (Below w.heap.size w _):=F.out.trans (Below.mono Q F.out.size)
   clear Q ab y ae hD z0 z4 q0 q1 q2 q3 q4 q5 q6
   go_wp2_with fail
   go_ret
   exact⟨d8 (by rw[I.out];omega),H.out⟩
 have I:Hid (gh (m+1) t=0):=by show _=_;simp only[gh];rw[if_neg (by omega),if_neg (by omega),if_neg (by omega),if_neg (by omega),if_neg (by omega)]
 have bl:(Nd.sort t==38)=false:=by simp;assumption
 have bm:(Nd.sort t==39)=false:=by simp;assumption
 have bn:(Nd.sort t==40)=false:=by simp;assumption
 have bo:(Nd.sort t==41)=false:=by simp;assumption
 have bp:(Nd.sort t==42)=false:=by simp;assumption
 have bq:(Nd.sort t==43)=false:=by simp;assumption
 have H:=a7 (Below.refl W.heap.size W);clear i J Y hn;go_enter func69,ntmps69;go_wp2_with fail;rw[<- Z];go_ret;exact⟨d8 I.out.symm,F.out.trans (H.out.mono F.out.size)⟩
theorem CR:∀m,vY m:=by
 intro m;induction m with
 | zero=>intro S t c0 c1 c2 c3 c4 d w a;exact a.elim
 | succ m b=>exact Al m b
def EW(m:Nat):Prop:=∀(S:Nat->Prop)(t:T m)(c0 c1 c2 c3 c4:Value)(d:Int)(w:World),fT S w m t c0 c1 c2 c3 c4->(Bd S w)->gp m t d=true->gx m t<=800000 ->
 Calls prog 72 #[Za #[c0,c1,c2,c3,c4]] w fun e a=>Bw w a/\∃s,e=Zr (Zt s)/\s.size=gx m t
theorem iX(a b:ByteArray):(a++b).size=a.size+b.size:=by simp
theorem qj{α:Type}(f:α->Nat)(l:List α)(k:Nat):b4 f (l.take k)<=b4 f l:=by have:=ir f (l.take k) (l.drop k);rw[List.take_append_drop]at this;omega
theorem rJ(l:List ByteArray)(k:Nat):jk (l.take k)<=jk l:=by have:=t7 (l.take k) (l.drop k);rw[List.take_append_drop]at this;omega
theorem Bo (m:Nat) (hn:EW m) (S:Nat->Prop) (n:Nd (T m)) (na ka:Option Addr) (v kc:Nat) (d:Int) (w:World) (D:Bd S w) (X:fL S w n.names (Zs na n.names.length v)) (h4:ik S w (fT S w m) n.kids (Zs ka n.kids.length kc))
  (ac:n.names.length=n.kids.length) (hg:n.kids.all (fun x=>gp m x d)=true) (hl:8+jk n.names+b4 (fun x=>gx m x+1) n.kids<=800000) :
  Calls prog 72 #[Za #[Zi Zk 24,Zi Zk n.num,Zt n.text,Zs na n.names.length v,Zs ka n.kids.length kc]] w fun e j=>Bw w j/\∃s,e=Zr (Zt s)/\s.size=8+jk n.names+b4 (fun x=>gx m x+1) n.kids:=by
 obtain⟨W,L⟩:=il (w.alloc (Zc #[Zi Zk 24,Zi Zk n.num,Zt n.text,Zs na n.names.length v,Zs ka n.kids.length kc] 40));have l:Bw w W:=by rw[L];exact gA _ _
 have ao:w.heap.size<W.heap.size:=by rw[L];simp
 have r:W.heap[w.heap.size]?=Zo (Zc #[Zi Zk 24,Zi Zk n.num,Zt n.text,Zs na n.names.length v,Zs ka n.kids.length kc] 40 (0,0)):=by rw[L];exact heap_alloc_last _ _
 obtain⟨_,_,hv,aa,ae,z⟩:=X.keep (a6 l D) (fun _ h=>h);cases hv
 obtain⟨_,_,hv,ab,A⟩:=h4.keepN (a6 l D) (fun _ h=>h);cases hv
 have HG:Hid (∀k (h:k<n.kids.length),gp m n.kids[k] d=true):=fun k h=>List.all_eq_true.1 hg _ (List.getElem_mem h);have Q:Hid (8+jk n.names+b4 (fun x=>gx m x+1) n.kids<=800000):=hl;have ah:n.names.length<=n.kids.length:=om;have ai:n.kids.length<=n.names.length:=om;have O:=a7 l;unfold maxLen at aa ab;clear hg hl X h4 ac l;subst L;go_in;go_wp2;go_loopw [3,4] (fun a i wr=>∃(k:Nat)(s:ByteArray),k<=n.kids.length/\i=Zi Zk k/\a=Zt s/\Hid (s.size=4+jk (n.names.take k)+b4 (fun x=>gx m x+1) (n.kids.take k))/\Below (w.heap.size+1) (w.alloc (Zc #[Zi Zk 24,Zi Zk n.num,Zt n.text,Zs na n.names.length v,Zs ka n.kids.length kc] 40)) wr) (fun _ i _=>n.kids.length-(intOf i).toNat);case atStart=>exact⟨0,⟨#[102,111,114,109]⟩,Nat.zero_le _,rfl,rfl,rfl,Below.refl _ _⟩
 case round=>
  obtain⟨k,s,hk,rfl,rfl,R,g⟩:=hrel;obtain⟨z0,z1,z2,z3,z4⟩:=fZ ((g.block w.heap.size om).trans r);by_cases u:k<n.kids.length
  ·have q:k<n.names.length:=by omega
   obtain⟨b,off,rfl,Z,t⟩:=z (by intro h;rw[h]at q;simp at q);have ak:=D b Z;have e0:=kC g (t k q) om;obtain⟨o,c,rfl,F,p⟩:=A (by intro h;have:=List.length_eq_zero_iff.2 h;omega);have af:=D o F;obtain⟨d0,d1,d2,d3,d4,k0,k1,k2,k3,k4,B⟩:=p k u;obtain⟨x0,x1,x2,xa,xl,xc,ya,yl,yc,rfl,rfl,rfl,rfl,rfl⟩:=B.shape;have f0:=kC g k0 om;have f1:=kC g k1 om;have f2:=kC g k2 om;have f3:=kC g k3 om;have f4:=kC g k4 om;have M:=g.size;have HC:Hid (∀E,Bw wr E->Calls prog 72 #[Za #[Zi Zk x0,Zi Zk x1,Zt x2,Zs xa xl xc,Zs ya yl yc]] E fun e j=>∃s,e=Zr (Zt s)/\s.size=gx m n.kids[k]/\Bw wr j/\(j.cell? ⟨w.heap.size,3,Zn⟩=Zo (Zs (Zo ⟨b,off,Zn⟩) n.names.length v)/\j.cell? ⟨w.heap.size,4,Zn⟩=Zo (Zs (Zo ⟨o,c,Zn⟩) n.kids.length kc)/\j.cell? ⟨b,off+k,Zn⟩=Zo (Zt n.names[k])/\j.cell? ⟨o,c+k*5,Zn⟩=Zo (Zi Zk x0)/\j.cell? ⟨o,c+k*5+1,Zn⟩=Zo (Zi Zk x1)/\j.cell? ⟨o,c+k*5+2,Zn⟩=Zo (Zt x2)/\j.cell? ⟨o,c+k*5+3,Zn⟩=Zo (Zs xa xl xc)/\j.cell? ⟨o,c+k*5+4,Zn⟩=Zo (Zs ya yl yc))):=by intro E y;have aj:=gL (fun x=>gx m x+1) n.kids _ (List.getElem_mem u);have hL:=Q.out;have l:Below (w.heap.size+1) (w.alloc (Zc #[Zi Zk 24,Zi Zk n.num,Zt n.text,Zs (Zo ⟨b,off,Zn⟩) n.names.length v,Zs (Zo ⟨o,c,Zn⟩) n.kids.length kc] 40)) E:=g.trans (y.mono (by simp at M;omega));refine (hn S n.kids[k] _ _ _ _ _ d E (B.keep (a6 l (fun b G=>by have:=D b G;omega)) (fun _ h=>h)) (fun b G=>by have:=D b G;have:=l.size;simp at this;omega) (HG.out k u) om).mono ?_;rintro e j ⟨G,s',rfl,ad⟩;have f:Bw wr j:=y.trans (G.mono y.size);simp at M;exact⟨s',rfl,ad,f,kC f z3 om,kC f z4 om,kC f e0 om,kC f f0 om,kC f f1 om,kC f f2 om,kC f f3 om,kC f f4 om⟩
   have K:Hid (jk (n.names.take (k+1))=jk (n.names.take k)+(n.names[k].size+1)/\b4 (fun x=>gx m x+1) (n.kids.take (k+1))=b4 (fun x=>gx m x+1) (n.kids.take k)+(gx m n.kids[k]+1)):=⟨ph _ _ q,fQ _ _ _ u⟩;have al:s.size+n.names[k].size+gx m n.kids[k]+2<=900000:=by have C:=rJ n.names (k+1);have h2:=qj (fun x=>gx m x+1) n.kids (k+1);have X:=Q.out;rw[K.out.1]at C;rw[K.out.2]at h2;rw[R.out];omega
   have hD:Bw wr wr.drew:=(Below.refl _ _).drew;have am:(k:Int)<(n.kids.length:Int):=om;have ag:(k:Int)<(n.names.length:Int):=om;have V:=a7 g;have P:=a7 M;clear z A t p B k0 k1 k2 k3 k4 r ae z0 z1 z2 g M;generalize n.names[k]=nm at *;generalize gx m n.kids[k]=lk at *;go_wp2_with fail;go_region_held (fun j=>j.cell? ⟨w.heap.size,3,Zn⟩=Zo (Zs (Zo ⟨b,off,Zn⟩) n.names.length v)/\j.cell? ⟨w.heap.size,4,Zn⟩=Zo (Zs (Zo ⟨o,c,Zn⟩) n.kids.length kc)/\j.cell? ⟨b,off+k,Zn⟩=Zo (Zt nm)/\j.cell? ⟨o,c+k*5,Zn⟩=Zo (Zi Zk x0)/\j.cell? ⟨o,c+k*5+1,Zn⟩=Zo (Zi Zk x1)/\j.cell? ⟨o,c+k*5+2,Zn⟩=Zo (Zt x2)/\j.cell? ⟨o,c+k*5+3,Zn⟩=Zo (Zs xa xl xc)/\j.cell? ⟨o,c+k*5+4,Zn⟩=Zo (Zs ya yl yc)) (first|with_reducible assumption|go_keep) (first|(go_at_call 72;refine (HC.out _ hD).mono ?_;rintro e w2 ⟨s2,rfl,J,H,Y⟩));all_goals
    have N:Hid (Below (w.heap.size+1) _ w2):=V.out.trans (H.mono (by have:=P.out;simp at this;omega))
    have U:Hid ((((s++⟨#[32]⟩)++nm)++⟨#[32]⟩++s2).size=4+jk (n.names.take (k+1))+b4 (fun x=>gx m x+1) (n.kids.take (k+1))):=by
     show _=_
     rw[K.out.1,K.out.2,iX,iX,iX,iX,R.out,J]
     show _+1+_+1+_=_
     omega
    clear H Y J HC f0 f1 f2 f3 f4 e0 z3 z4
    go_wp2
    go_roundw
    case rel=>exact⟨k+1,_,om,by go_num,rfl,U,N.out⟩
    case measure=>simp[intOf];omega
  ·have I:k=n.kids.length:=by omega
   have HE:Hid ((s++⟨#[32,101,110,100]⟩).size=8+jk n.names+b4 (fun x=>gx m x+1) n.kids):=by show _=_;have C:=R.out;rw[I,List.take_length,List.take_of_length_le om]at C;rw[iX,C];show _+4=_;omega
   have HB:=a7 (O.out.trans (g.mono om));have an:s.size<=900000:=by have C:=HE.out;rw[iX]at C;have:=Q.out;omega
   clear z A I g r z0 z1 z2 z3;go_wp2;go_ret;exact⟨HB.out,_,rfl,HE.out⟩
theorem Bp (m:Nat) (n:Nd (T m)) (na ka:Option Addr) (p kc k:Nat) (l:n.sort=(k:Int)) (t:1<=k) (u:k<=3) (w:World) (d:(Lit.int Zk n.sort).wf=true) (f:(Lit.int Zk n.num).wf=true) (o:n.text.size<=maxLen) (b:gN n.sort n.num n.text [] 0=true) :
  Calls prog 72 #[Za #[Zi Zk (k:Int),Zi Zk n.num,Zt n.text,Zs na n.names.length p,Zs ka n.kids.length kc]] w fun e i=>Bw w i/\∃s,e=Zr (Zt s)/\s.size=(kN n.sort n.num n.text).length:=by
 have g:=(Below.refl w.heap.size w).alloc (Nat.le_refl _) (Zc #[Zi Zk (k:Int),Zi Zk n.num,Zt n.text,Zs na n.names.length p,Zs ka n.kids.length kc] 40);have j:Hid (∀w,Calls prog 96 #[Za #[Zi Zk (k:Int),Zi Zk n.num,Zt n.text,Zs Zn 0 0,Zs Zn 0 0]] w fun e i=>e=Zr (Zt (bs (kN n.sort n.num n.text)))/\Bw w i):=by
  intro w;have v:ig 1 (lF n.sort n.num n.text) 1=true:=by show (decide ((1:Int)<=6) && gN n.sort n.num n.text [] 0 && List.all ([]:List (T 0)) _)=_;rw[b];rfl
  have:=AG 1 (fun _=>False) (lF n.sort n.num n.text) _ _ _ _ _ 1 w (tu _ w n.sort n.num n.text d f o) (fun _ h=>h.elim) v (by show (1:Nat)<=120;omega);rw[l]at this ⊢;exact this
 have r:Hid ((bs (kN n.sort n.num n.text)).size=(kN n.sort n.num n.text).length):=gr _;generalize bs (kN n.sort n.num n.text)=s at *;have a:k=1∨k=2∨k=3:=om;clear l t u b d f o;rcases a with rfl|rfl|rfl;all_goals
  go_in
  go_wp2_with fail
  refine (j.out _).mono ?_
  rintro e w1 ⟨rfl,c⟩
  have q:=a7 (b5 g zS c)
  clear c j
  go_wp2
  go_ret
  exact⟨q.out,_,rfl,r.out⟩
theorem Bq (S:Nat->Prop) (m:Nat) (n:Nd (T m)) (na ka:Option Addr) (f kc:Nat) (w:World) (o:Bd S w) (i:fL S w n.names (Zs na n.names.length f)) (c:n.names≠[]) :
  Calls prog 72 #[Za #[Zi Zk 4,Zi Zk n.num,Zt n.text,Zs na n.names.length f,Zs ka n.kids.length kc]] w fun e r=>Bw w r/\∃s,e=Zr (Zt s)/\s.size=(n.names.headD ByteArray.empty).size:=by
 have d:=(Below.refl w.heap.size w).alloc (Nat.le_refl _) (Zc #[Zi Zk 4,Zi Zk n.num,Zt n.text,Zs na n.names.length f,Zs ka n.kids.length kc] 40);obtain⟨_,_,q,t,-,j⟩:=i.keep (a6 d o) (fun _ h=>h);cases q
 obtain⟨b,off,rfl,p,a⟩:=j c;have g:0<n.names.length:=List.length_pos_iff.2 c;have l:=a 0 g;rw[Nat.add_zero]at l;have k:Hid (n.names[0].size=(n.names.headD ByteArray.empty).size):=by show _=_;rw[List.headD_eq_head?_getD,List.head?_eq_getElem?,List.getElem?_eq_getElem g];rfl
 have hi:(0:Int)<(n.names.length:Int):=om;generalize n.names[0]=s at *;clear j a i c;go_in;go_wp2;go_ret;exact⟨d,_,rfl,k.out⟩
end Go.Proofs.YtcfojmaccikgeaaGreatDoor
