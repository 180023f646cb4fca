import Derived.Test.YtcfojmaccikgeaaGreatDoorB25
import Derived.Test.YtcfojmaccikgeaaGreatDoorB26
open Go.Value renaming slice→Zs,int→Zi,string→Zt,agg→Za
open Go.IntKind renaming i64→Zk
open Go.Ending renaming returned→Zr
open Go.Obj renaming cells→Zc
open Option renaming none→Zn,some→Zo
namespace Go.Proofs.YtcfojmaccikgeaaGreatDoor
open Go.RowKit Go.Proofs.Tryz
set_option maxRecDepth 100000
set_option maxHeartbeats 16000000
variable {m:Nat}
def sD(m:Nat):Prop:=∀(S:ZP)(t:T m)(c0 c1 c2 c3 c4:Value)(w:World),fT S w m t c0 c1 c2 c3 c4->(∀b,S b->b<w.heap.size)->jR m t<=1048576 ->
 Calls prog 68 #[Za #[c0,c1,c2,c3,c4]] w fun e a=>e=Zr (Zi Zk (gN m t))/\Below w.heap.size w a
theorem F0(m:Nat)(t:T (m+1))(h:jR (m+1) t<=1048576):(Nd.kids t).length<=1048576:=by
 have:∀l:List (T m),l.length<=b4 (fun k=>jR m k+1) l:=by
  intro l;induction l with
  | nil=>simp
  | cons a r b=>simp only[b4,List.length_cons];omega
 have:=this (Nd.kids t);simp only[jR]at h;omega
theorem yf(m:Nat)(hn:sD m):sD (m+1):=by
 intro S t c0 c1 c2 c3 c4 w ht D q;obtain⟨rfl,rfl,rfl,hs,an,ag,h3,h4,⟨na,nl,nc,rfl,ac⟩,⟨ka,kl,kc,rfl,ad⟩⟩:=ht;obtain⟨_,_,hv,-⟩:=id h3;cases hv
 obtain⟨_,_,hv,H,-⟩:=id h4;cases hv
 have ai:=F0 m t q;have Z:Hid (∀k (h:k<(Nd.kids t).length),jR m (Nd.kids t)[k]<=1048576):=fun k h=>by have:=gK (fun k=>jR m k+1) (Nd.kids t) _ (List.getElem_mem h);simp only[jR]at q;omega
 clear q H;have r:=(Below.refl w.heap.size w).alloc (Nat.le_refl _) (Zc #[Zi Zk (Nd.sort t),Zi Zk (Nd.num t),Zt (Nd.text t),Zs na (Nd.names t).length nc,Zs ka (Nd.kids t).length kc] 40);have hK:=h4.keepN (a6 r D) (fun _ h=>h);obtain⟨W,X⟩:∃W,W=w.alloc (Zc #[Zi Zk (Nd.sort t),Zi Zk (Nd.num t),Zt (Nd.text t),Zs na (Nd.names t).length nc,Zs ka (Nd.kids t).length kc] 40):=⟨_,rfl⟩;have s:=heap_alloc_last w (Zc #[Zi Zk (Nd.sort t),Zi Zk (Nd.num t),Zt (Nd.text t),Zs na (Nd.names t).length nc,Zs ka (Nd.kids t).length kc] 40);have ah:w.heap.size<W.heap.size:=by rw[X];simp
 obtain⟨z0,z1,z2,z3,z4⟩:=fZ s;rw[<- X]at r hK z0 z4;have z:=a7 r;have C:Hid (∀j,gQ (gN m) (Nd.sort t) (Nd.kids t) j<=1+800020*(j:Int)/\1<=gQ (gN m) (Nd.sort t) (Nd.kids t) j):=fun j=>by have:=oN (gN m) (Nd.sort t) (Nd.kids t) (fun x _=>⟨by have:=lq m x;omega,(lq m x).2⟩) j;exact⟨this.2.1,this.1⟩
 clear h3 h4 r s z1 z2 z3 ac ad hs ag;go_enter func68,ntmps68;go_wp2_with fail;rw[<- X];clear X;obtain⟨_,_,ae,-,g⟩:=hK;cases ae
 go_loopw [3,9] (fun a i wr=>∃j:Nat,j<=(Nd.kids t).length/\i=Zi Zk j/\a=Zi Zk (gQ (gN m) (Nd.sort t) (Nd.kids t) j)/\Below W.heap.size W wr) (fun _ i _=>(Nd.kids t).length-(intOf i).toNat);case atStart=>exact⟨0,Nat.zero_le _,rfl,rfl,Below.refl _ _⟩
 case round=>
  obtain⟨j,hj,rfl,rfl,c⟩:=hrel;have af:=c.size;have am:=C.out j;by_cases o:j<(Nd.kids t).length
  ·obtain⟨b,off,rfl,ab,n⟩:=g (by intro h;rw[h]at o;simp at o);obtain⟨x0,x1,x2,x3,x4,e0,e1,e2,e3,e4,y⟩:=n j o;obtain⟨K,L,M,N,P,O,Q,T,R,rfl,rfl,rfl,rfl,rfl⟩:=y.shape;have al:=D b ab;have f0:=(c.cell (p:=⟨b,off+j*5,Zn⟩) (by show b<_;omega)).trans e0;have f1:=(c.cell (p:=⟨b,off+j*5+1,Zn⟩) (by show b<_;omega)).trans e1;have f2:=(c.cell (p:=⟨b,off+j*5+2,Zn⟩) (by show b<_;omega)).trans e2;have f3:=(c.cell (p:=⟨b,off+j*5+3,Zn⟩) (by show b<_;omega)).trans e3;have f4:=(c.cell (p:=⟨b,off+j*5+4,Zn⟩) (by show b<_;omega)).trans e4;obtain⟨V,E⟩:∃V,V=wr.alloc (Zc #[Zi Zk K,Zi Zk L,Zt M,Zs N P O,Zs Q T R] 40):=⟨_,rfl⟩;have l:Below W.heap.size W V:=by rw[E];exact c.alloc af _
   have J:V.heap.size=wr.heap.size+1:=by rw[E];simp
   obtain⟨v0,v1,v2,v3,v4⟩:=fZ (heap_alloc_last wr (Zc #[Zi Zk K,Zi Zk L,Zt M,Zs N P O,Zs Q T R] 40));rw[<- E]at v0 v1 v2 v3 v4;have q0:V.cell? ⟨w.heap.size,0,Zn⟩=Zo (Zi Zk (Nd.sort t)):=(l.cell (p:=⟨w.heap.size,0,Zn⟩) ah).trans z0;have qq:=y.keep (a6 l (fun b v=>by have:=D b v;omega)) (fun _ h=>h);have A:Hid (Calls prog 68 #[Za #[Zi Zk K,Zi Zk L,Zt M,Zs N P O,Zs Q T R]] V.drew fun e d=>e=Zr (Zi Zk (gN m (Nd.kids t)[j]))/\Below W.heap.size W d/\(d.cell? ⟨w.heap.size,0,Zn⟩=Zo (Zi Zk (Nd.sort t))/\d.cell? ⟨wr.heap.size,0,Zn⟩=Zo (Zi Zk K)/\d.cell? ⟨wr.heap.size,1,Zn⟩=Zo (Zi Zk L)/\d.cell? ⟨wr.heap.size,2,Zn⟩=Zo (Zt M)/\d.cell? ⟨wr.heap.size,3,Zn⟩=Zo (Zs N P O)/\d.cell? ⟨wr.heap.size,4,Zn⟩=Zo (Zs Q T R))):=by have U:Below V.heap.size V V.drew:=(Below.refl _ _).drew;refine (hn S (Nd.kids t)[j] _ _ _ _ _ V.drew (qq.keep (a6 U (fun b v=>by have:=D b v;omega)) (fun _ h=>h)) (fun b v=>by have:=D b v;have:=U.size;omega) (Z.out j o)).mono ?_;rintro e d ⟨rfl,v⟩;have f:Below V.heap.size V d:=U.trans (v.mono U.size);exact⟨rfl,l.trans (f.mono l.size),(f.cell (p:=⟨w.heap.size,0,Zn⟩) (by show w.heap.size<_;omega)).trans q0,(f.cell (p:=⟨wr.heap.size,0,Zn⟩) (by show wr.heap.size<_;omega)).trans v0,(f.cell (p:=⟨wr.heap.size,1,Zn⟩) (by show wr.heap.size<_;omega)).trans v1,(f.cell (p:=⟨wr.heap.size,2,Zn⟩) (by show wr.heap.size<_;omega)).trans v2,(f.cell (p:=⟨wr.heap.size,3,Zn⟩) (by show wr.heap.size<_;omega)).trans v3,(f.cell (p:=⟨wr.heap.size,4,Zn⟩) (by show wr.heap.size<_;omega)).trans v4⟩
   have B:Hid (∀w,Calls prog 94 #[Zi Zk (Nd.sort t),Zi Zk (j:Int)] w fun e d=>e=Zr (Zi Zk (iQ (Nd.sort t) j))/\d=w):=fun w=>rK (Nd.sort t) j w;have u:Hid (gQ (gN m) (Nd.sort t) (Nd.kids t) (j+1)=gQ (gN m) (Nd.sort t) (Nd.kids t) j+gN m (Nd.kids t)[j]*iQ (Nd.sort t) j):=by show _=_;rw[rm _ _ _ _ o,Int.mul_comm]
   have hc:=lq m (Nd.kids t)[j];have I:=uj (Nd.sort t) j;have hm:=uk I.1 I.2 (by omega) hc.2;rw[Int.mul_comm]at hm;generalize gQ (gN m) (Nd.sort t) (Nd.kids t) j=cs at *;generalize gN m (Nd.kids t)[j]=cv at *;generalize iQ (Nd.sort t) j=tv at *;have ao:IntKind.i64.wrap (cv*tv)=cv*tv:=by rw[IntKind.wrap_i64];omega
   have ap:IntKind.i64.wrap (cs+cv*tv)=cs+cv*tv:=by rw[IntKind.wrap_i64];omega
   have ak:=a7 J;have aj:=a7 l;clear g n e0 e1 e2 e3 e4 y qq c C J l;go_wp2_with fail;rw[<- E];clear E f0 f1 f2 f3 f4;go_region_held (fun d=>d.cell? ⟨w.heap.size,0,Zn⟩=Zo (Zi Zk (Nd.sort t))/\d.cell? ⟨wr.heap.size,0,Zn⟩=Zo (Zi Zk K)/\d.cell? ⟨wr.heap.size,1,Zn⟩=Zo (Zi Zk L)/\d.cell? ⟨wr.heap.size,2,Zn⟩=Zo (Zt M)/\d.cell? ⟨wr.heap.size,3,Zn⟩=Zo (Zs N P O)/\d.cell? ⟨wr.heap.size,4,Zn⟩=Zo (Zs Q T R)) (first|with_reducible assumption|go_keep) (first|(go_at_call 68;refine A.out.mono ?_;rintro e w2 ⟨rfl,F,aa⟩)|(go_at_call 94;refine (B.out _).mono ?_;rintro e w3 ⟨rfl,rfl⟩));all_goals
    have Y:=a7 F
    clear F aa v0 v1 v2 v3 v4 q0 A B
    go_wp2_with fail
    go_roundw
    case rel=>
     refine⟨j+1,by omega,by go_num,?_,Y.out⟩
     rw[u.out]
    case measure=>simp[intOf];omega
  ·have G:j=(Nd.kids t).length:=by omega
   have HP:Hid (Below w.heap.size w wr):=z.out.trans (c.mono z.out.size);clear g;have HF:Hid (gN (m+1) t=min (gQ (gN m) (Nd.sort t) (Nd.kids t) j) 40001):=by show min (gQ (gN m) (Nd.sort t) (Nd.kids t) (Nd.kids t).length) 40001=_;rw[<- G]
   clear G;go_wp2_with fail;go_ret;exact⟨fJ HF.out.symm,HP.out⟩
theorem An:∀m,sD m:=by
 intro m;induction m with
 | zero=>intro S t c0 c1 c2 c3 c4 w a;exact a.elim
 | succ m b=>exact yf m b
abbrev C5(w:World)(b o:Nat)(y0 y1:Int)(y2:ZN)(ya:ZO)(yl yc:Nat)(za:ZO)(zl zc:Nat):Prop:=
 w.cell? ⟨b,o,Zn⟩=Zo (Zi Zk y0)/\w.cell? ⟨b,o+1,Zn⟩=Zo (Zi Zk y1)/\w.cell? ⟨b,o+2,Zn⟩=Zo (Zt y2)/\w.cell? ⟨b,o+3,Zn⟩=Zo (Zs ya yl yc)/\w.cell? ⟨b,o+4,Zn⟩=Zo (Zs za zl zc)
def zZ(f m:Nat):Prop:=∀(S:ZP)(t:T m)(c0 c1 c2 c3 c4:Value)(d:Int)(w:World),fT S w m t c0 c1 c2 c3 c4->Bd S w->gp m t d=true ->
 Calls prog f #[Za #[c0,c1,c2,c3,c4]] w fun e a=>e=Zr (Zi Zk (ke m t))/\Bw w a
theorem yq {f:Nat} (Y:zZ f m) {S:ZP} {t:T (m+1)} {c0 c1 c2 c3 c4:Value} {d:Int} {w:World} (ht:fT S w (m+1) t c0 c1 c2 c3 c4) (p:Bd S w) (D:gp (m+1) t d=true) :
  ∃na H r G,c0=Zi Zk (Nd.sort t)/\c1=Zi Zk (Nd.num t)/\c2=Zt (Nd.text t)/\c3=Zs na (Nd.names t).length H/\c4=Zs r (Nd.kids t).length G/\(∀k:Nat,Nd.sort t=(k:Int)->k≠24->(Nd.kids t).length=(jr k).length) /\
   (0<(Nd.kids t).length->∃b off,r=Zo ⟨b,off,Zn⟩/\b<w.heap.size/\∀i (hi:i<(Nd.kids t).length) o,o=off+i*5->∃s u v x z y A C B,(∀V,Bw w V->C5 V b o s u v x z y A C B)/\∀V,Bw w V->Calls prog f #[Za #[Zi Zk s,Zi Zk u,Zt v,Zs x z y,Zs A C B]] V fun e w'=>e=Zr (Zi Zk (ke m (Nd.kids t)[i]))/\Bw V w'):=by
 obtain⟨rfl,rfl,rfl,hs,aa,ab,Q,R,⟨na,nl,H,rfl,U⟩,⟨r,kl,G,rfl,W⟩⟩:=ht;obtain⟨_,_,F,-⟩:=id Q;cases F
 obtain⟨_,_,F,J,j⟩:=id R;cases F
 simp only[gp,Bool.and_eq_true,List.all_eq_true]at D;refine⟨na,H,r,G,rfl,rfl,rfl,rfl,rfl,fun k hk P=>?_,fun I=>?_⟩
 ·have q:gZ (jM m) (show Nd (T m) from t)=true:=D.1.2;have n:1<=Nd.sort t/\Nd.sort t<=43:=by have h:=q;unfold gZ at h;simp only[Bool.and_eq_true,decide_eq_true_eq]at h;exact h.1
  rw[la (jM m) (show Nd (T m) from t) n.1 n.2 (by show Nd.sort t≠24;omega)]at q;simp only[Bool.and_eq_true,decide_eq_true_eq]at q;have X:=congrArg List.length q.2;have E:(Nd.sort t).toNat=k:=by omega
  rw[<- E];simpa using X
 ·obtain⟨b,off,rfl,l,g⟩:=j (by intro h;rw[h]at I;simp at I);refine⟨b,off,rfl,p b l,fun i hi o Z=>?_⟩;subst Z;obtain⟨x0,x1,x2,x3,x4,K,L,M,N,O,n⟩:=g i hi;obtain⟨s,u,v,x,z,y,A,C,B,rfl,rfl,rfl,rfl,rfl⟩:=n.shape;have c:=p b l;refine⟨s,u,v,x,z,y,A,C,B,fun V a=>⟨kC a K c,kC a L c,kC a M c,kC a N c,kC a O c⟩,fun V a=>(Y S _ _ _ _ _ _ (d+1) V (n.keep (a6 a p) fun _ h=>h) (fun b c=>Nat.lt_of_lt_of_le (p b c) a.size) (D.2 _ (List.getElem_mem hi)))⟩
def yp{m:Nat}(t:T (m+1))(i:Nat):Int:=(((Nd.kids t)[i]?).map (ke m)).getD 0
theorem mz{t:T (m+1)}{i:Nat}(h:i<(Nd.kids t).length):yp t i=ke m (Nd.kids t)[i]:=by simp[yp,h]
theorem FB(t:T (m+1)):ke (m+1) t=if Nd.sort t=38∨Nd.sort t=39 then 1 else if Nd.sort t=40 then min (yp t 0+yp t 1) 401 else if Nd.sort t=41 then max (yp t 1) (yp t 2) else if Nd.sort t=42 then yp t 1 else if Nd.sort t=43 then min (20*yp t 1) 401 else 0:=rfl
theorem Ao(m:Nat)(hn:zZ 69 m):zZ 69 (m+1):=by
 intro S t c0 c1 c2 c3 c4 d w ht hB hg;obtain⟨na,nc,ka,T,rfl,rfl,rfl,rfl,rfl,g,l⟩:=yq hn ht hB hg;obtain⟨W,q⟩:=ii (w.alloc (Zc #[Zi Zk (Nd.sort t),Zi Zk (Nd.num t),Zt (Nd.text t),Zs na (Nd.names t).length nc,Zs ka (Nd.kids t).length T] 40));have v:Bw w W:=by rw[q];exact gx _ _
 have F:w.heap.size<W.heap.size:=by rw[q];simp
 obtain⟨z0,z1,z2,z3,z4⟩:=fZ (show W.heap[w.heap.size]?=_ by rw[q];exact heap_alloc_new _ _);have i:=a7 v;have n:Bw W W.drew:=(Below.refl _ _).drew;have f:=FB t;have c:∀V,Bw W V->Bw w V:=fun V h=>v.trans (h.mono v.size);clear ht hB hg hn z1 z2 z3;by_cases U:Nd.sort t=38∨Nd.sort t=39
 ·rw[if_pos U]at f;have D:=a7 f;clear g l f;rcases U with R|R;all_goals
   rw[R]at q z0 ⊢
   clear R
   go_in
   go_wp2_with fail
   rw[<- q]
   go_ret
   exact⟨fJ D.out.symm,i.out⟩
 rw[if_neg U]at f;by_cases s:Nd.sort t=40
 ·rw[if_pos s]at f;have B:(Nd.kids t).length=2:=g 40 s (by decide);obtain⟨b,off,rfl,ab,C⟩:=l (by omega);obtain⟨H,I,J,L,N,M,O,Q,P,G,k⟩:=C 0 (by omega) (off) (by omega);obtain⟨u0,u1,u2,ua,ul,uc,va,vl,vc,hE,A⟩:=C 1 (by omega) (off+5) (by omega);have E:=k8 m ((Nd.kids t)[0]'(by omega));have ai:=k8 m ((Nd.kids t)[1]'(by omega));rw[mz (by omega),mz (by omega)]at f;generalize ke m ((Nd.kids t)[0]'(by omega))=v1 at *;generalize ke m ((Nd.kids t)[1]'(by omega))=v2 at *;have D:=a7 f;have aj:0<(Nd.kids t).length:=by omega
  have ac:(1:Int)<((Nd.kids t).length:Int):=by omega
  have ak:(1:Int)<((Nd.kids t).length:Int):=by omega
  rw[s]at q z0 ⊢;clear g l C f U B s v;generalize (Nd.kids t).length=kn at *;have p:Hid (∀V,Bw W V->V.cell? ⟨w.heap.size,4,Zn⟩=Zo (Zs (Zo ⟨b,off,Zn⟩) kn T)/\C5 V b (off) H I J L N M O Q P/\C5 V b (off+5) u0 u1 u2 ua ul uc va vl vc):=fun V h=>⟨kC h z4 F,G V (c V h),hE V (c V h)⟩;have j:Hid (∀V,Bw W V->Calls _ _ _ V _):=fun V h=>k V (c V h);have z:Hid (∀V,Bw W V->Calls _ _ _ V _):=fun V h=>A V (c V h);clear G hE k A c;go_in;go_upto_region 7 with fail;rw[<- q];clear q;refine wp_region_held_drew (S:=fun x=>x.cell? ⟨w.heap.size,4,Zn⟩=Zo (Zs (Zo ⟨b,off,Zn⟩) kn T)/\C5 x b off H I J L N M O Q P/\C5 x b (off+5) u0 u1 u2 ua ul uc va vl vc) zK (p.out _ n) (fun hHeld=>?_);generalize W.drew=V at *;refine tk 0 ?_;refine tk 1 ?_;refine tk 2 ?_;refine tk 3 ?_;refine tk 5 ?_;refine tk 6 ?_;refine tk 7 ?_;refine tk 8 ?_;refine i6 4 fun K hK=>?_;go_simp;go_at_call 69;refine (j.out V n).mono ?_;rintro e Y ⟨rfl,r⟩;have a:=n.trans (r.mono n.size);refine hK.out _ _ (p.out _ a) (fun hHeld=>?_);clear hK K r;refine i6 9 fun K hK=>?_;go_simp;go_at_call 69;refine (z.out Y a).mono ?_;rintro e V2 ⟨rfl,r⟩;have o:=a.trans (r.mono a.size);refine hK.out _ _ (p.out _ o) (fun hHeld=>?_);clear hK K r;refine tk 10 ?_;refine tk 11 ?_;refine wpAnyH_done zK ?_ _;go_simp;have y:=Lib.hid (i.out.trans (o.mono i.out.size));clear hHeld j z p n a o;go_wp2_with fail;go_ret;exact⟨fJ (by rw[D.out]),y.out⟩
 rw[if_neg s]at f;by_cases u:Nd.sort t=41
 ·rw[if_pos u]at f;have B:(Nd.kids t).length=3:=g 41 u (by decide);obtain⟨b,off,rfl,ab,C⟩:=l (by omega);obtain⟨H,I,J,L,N,M,O,Q,P,G,k⟩:=C 1 (by omega) (off+5) (by omega);obtain⟨u0,u1,u2,ua,ul,uc,va,vl,vc,hE,A⟩:=C 2 (by omega) (off+10) (by omega);have E:=k8 m ((Nd.kids t)[1]'(by omega));have ai:=k8 m ((Nd.kids t)[2]'(by omega));rw[mz (by omega),mz (by omega)]at f;generalize ke m ((Nd.kids t)[1]'(by omega))=v1 at *;generalize ke m ((Nd.kids t)[2]'(by omega))=v2 at *;have D:=a7 f;have aj:0<(Nd.kids t).length:=by omega
  have ac:(1:Int)<((Nd.kids t).length:Int):=by omega
  have ak:(2:Int)<((Nd.kids t).length:Int):=by omega
  rw[u]at q z0 ⊢;clear g l C f U B u v;generalize (Nd.kids t).length=kn at *;have p:Hid (∀V,Bw W V->V.cell? ⟨w.heap.size,4,Zn⟩=Zo (Zs (Zo ⟨b,off,Zn⟩) kn T)/\C5 V b (off+5) H I J L N M O Q P/\C5 V b (off+10) u0 u1 u2 ua ul uc va vl vc):=fun V h=>⟨kC h z4 F,G V (c V h),hE V (c V h)⟩;have j:Hid (∀V,Bw W V->Calls _ _ _ V _):=fun V h=>k V (c V h);have z:Hid (∀V,Bw W V->Calls _ _ _ V _):=fun V h=>A V (c V h);clear G hE k A c;go_in;go_upto_region 9 with fail;rw[<- q];clear q;refine wp_region_held_drew (S:=fun x=>x.cell? ⟨w.heap.size,4,Zn⟩=Zo (Zs (Zo ⟨b,off,Zn⟩) kn T)/\C5 x b (off+5) H I J L N M O Q P/\C5 x b (off+10) u0 u1 u2 ua ul uc va vl vc) zK (p.out _ n) (fun hHeld=>?_);generalize W.drew=V at *;refine tk 0 ?_;refine tk 1 ?_;refine tk 2 ?_;refine tk 3 ?_;refine tk 5 ?_;refine tk 6 ?_;refine tk 7 ?_;refine tk 8 ?_;refine i6 4 fun K hK=>?_;go_simp;go_at_call 69;refine (j.out V n).mono ?_;rintro e Y ⟨rfl,r⟩;have a:=n.trans (r.mono n.size);refine hK.out _ _ (p.out _ a) (fun hHeld=>?_);clear hK K r;refine i6 9 fun K hK=>?_;go_simp;go_at_call 69;refine (z.out Y a).mono ?_;rintro e V2 ⟨rfl,r⟩;have o:=a.trans (r.mono a.size);refine hK.out _ _ (p.out _ o) (fun hHeld=>?_);clear hK K r;refine tk 10 ?_;refine tk 11 ?_;refine wpAnyH_done zK ?_ _;go_simp;have y:=Lib.hid (i.out.trans (o.mono i.out.size));clear hHeld j z p n a o;go_wp2_with fail;go_ret;exact⟨fJ (by rw[D.out];omega),y.out⟩
 rw[if_neg u]at f;by_cases h3:Nd.sort t=42∨Nd.sort t=43
 ·have B:(Nd.kids t).length=2:=by
   rcases h3 with h|h;·exact g 42 h (by decide)
   ·exact g 43 h (by decide)
  obtain⟨b,off,rfl,ab,C⟩:=l (by omega);obtain⟨H,I,J,L,N,M,O,Q,P,G,k⟩:=C 1 (by omega) (off+5) (by omega);have E:=k8 m ((Nd.kids t)[1]'(by omega));rw[mz (by omega)]at f;generalize ke m ((Nd.kids t)[1]'(by omega))=v1 at *;have ac:(1:Int)<((Nd.kids t).length:Int):=by omega
  have X:Hid (∀V,Calls prog 94 #[Zi Zk (Nd.sort t),Zi Zk 1] V fun e x=>e=Zr (Zi Zk (if Nd.sort t=42 then 1 else 20))/\x=V):=fun V=>by have h:=rK (Nd.sort t) 1 V;rcases h3 with e|e<;>(rw[e]at h ⊢;exact h)
  have aa:ke (m+1) t=min (v1*(if Nd.sort t=42 then 1 else 20)) 401:=by
   rw[f];rcases h3 with e|e;·rw[if_pos e,if_pos e];omega
   ·rw[if_neg (by omega),if_pos e,if_neg (by omega)];omega
  have D:=a7 aa;have hq:1<=(if Nd.sort t=42 then (1:Int) else 20)/\(if Nd.sort t=42 then (1:Int) else 20)<=20:=by split<;>omega
  clear g l C f aa U B v;generalize (Nd.kids t).length=kn at *;generalize (if Nd.sort t=42 then (1:Int) else 20)=tq at *;have hm:=Int.mul_le_mul E.2 hq.2 (by omega) (by omega);have am:=Int.mul_nonneg E.1 (show 0<=tq by omega);generalize Nd.sort t=op at *;have ad:(op==38)=false:=by simp;omega
  have ae:(op==39)=false:=by simp;omega
  have af:(op==40)=false:=by simp;omega
  have ag:(op==41)=false:=by simp;omega
  have p:Hid (∀V,Bw W V->(V.cell? ⟨w.heap.size,0,Zn⟩=Zo (Zi Zk op)/\V.cell? ⟨w.heap.size,4,Zn⟩=Zo (Zs (Zo ⟨b,off,Zn⟩) kn T))/\C5 V b (off+5) H I J L N M O Q P):=fun V h=>⟨⟨kC h z0 F,kC h z4 F⟩,G V (c V h)⟩;have j:Hid (∀V,Bw W V->Calls _ _ _ V _):=fun V h=>k V (c V h);clear G k c;have al:(op==42)=true∨(op==42)=false/\(op==43)=true:=by rcases h3 with e|e<;>simp[e]
  clear h3 s u;rcases al with Z|⟨Z,ah⟩;all_goals
   go_in
   go_upto_region 12 with fail
   rw[<- q]
   clear q
   refine wp_region_held_drew (S:=fun x=>(x.cell? ⟨w.heap.size,0,Zn⟩=Zo (Zi Zk op)/\x.cell? ⟨w.heap.size,4,Zn⟩=Zo (Zs (Zo ⟨b,off,Zn⟩) kn T))/\C5 x b (off+5) H I J L N M O Q P) zK (p.out _ n) (fun hHeld=>?_)
   generalize W.drew=V at *
   refine tk 0 ?_
   refine tk 1 ?_
   refine tk 2 ?_
   refine tk 3 ?_
   refine tk 5 ?_
   refine tk 6 ?_
   refine i6 4 fun K hK=>?_
   go_simp
   go_at_call 69
   refine (j.out V n).mono ?_
   rintro e Y ⟨rfl,r⟩
   have a:=n.trans (r.mono n.size)
   refine hK.out _ _ (p.out _ a) (fun hHeld=>?_)
   clear hK K
   refine i6 7 fun K hK=>?_
   go_simp
   go_at_call 94
   refine (X.out Y).mono ?_
   rintro e V2 ⟨rfl,rfl⟩
   refine hK.out _ _ (p.out _ a) (fun hHeld=>?_)
   clear hK K
   refine tk 8 ?_
   refine tk 9 ?_
   refine wpAnyH_done zK ?_ _
   go_simp
   have y:=Lib.hid (i.out.trans (a.mono i.out.size))
   clear hHeld j p n r a X
   go_wp2_with fail
   go_ret
   exact⟨fJ (by rw[D.out]),y.out⟩
 rw[if_neg (by omega),if_neg (by omega)]at f;have D:=a7 f;have ad:(Nd.sort t==38)=false:=by simp;omega
 have ae:(Nd.sort t==39)=false:=by simp;omega
 have af:(Nd.sort t==40)=false:=by simp;omega
 have ag:(Nd.sort t==41)=false:=by simp;omega
 have Z:(Nd.sort t==42)=false:=by simp;omega
 have ah:(Nd.sort t==43)=false:=by simp;omega
 clear g l f c;go_in;go_wp2_with fail;rw[<- q];go_ret;exact⟨fJ D.out.symm,i.out⟩
theorem CU:∀m,zZ 69 m:=by
 intro m;induction m with
 | zero=>intro S t c0 c1 c2 c3 c4 d w a;exact a.elim
 | succ m b=>exact Ao m b
def E2(m:Nat):Prop:=∀(S:ZP)(t:T m)(c0 c1 c2 c3 c4:Value)(d:Int)(w:World),fT S w m t c0 c1 c2 c3 c4->(Bd S w)->gp m t d=true->gw m t<=800000 ->
 Calls prog 72 #[Za #[c0,c1,c2,c3,c4]] w fun e a=>Bw w a/\∃s,e=Zr (Zt s)/\s.size=gw m t
theorem iW(a b:ZN):(a++b).size=a.size+b.size:=by simp
theorem qj{α:Type}(f:α->Nat)(l:List α)(k:Nat):b4 f (l.take k)<=b4 f l:=by have:=iq f (l.take k) (l.drop k);rw[List.take_append_drop]at this;omega
theorem rI(l:List ZN)(k:Nat):jk (l.take k)<=jk l:=by have:=t8 (l.take k) (l.drop k);rw[List.take_append_drop]at this;omega
theorem Br (m:Nat) (hn:E2 m) (S:ZP) (n:Nd (T m)) (na ka:ZO) (v kc:Nat) (d:Int) (w:World) (D:Bd S w) (X:fL S w n.names (Zs na n.names.length v)) (h4:ik S w (fT S w m) n.kids (Zs ka n.kids.length kc))
  (ac:n.names.length=n.kids.length) (hg:n.kids.all (fun x=>gp m x d)=true) (hl:8+jk n.names+b4 (fun x=>gw m x+1) n.kids<=800000) :
  Calls prog 72 #[Za #[Zi Zk 24,Zi Zk n.num,Zt n.text,Zs na n.names.length v,Zs ka n.kids.length kc]] w fun e j=>Bw w j/\∃s,e=Zr (Zt s)/\s.size=8+jk n.names+b4 (fun x=>gw m x+1) n.kids:=by
 obtain⟨W,L⟩:=ii (w.alloc (Zc #[Zi Zk 24,Zi Zk n.num,Zt n.text,Zs na n.names.length v,Zs ka n.kids.length kc] 40));have l:Bw w W:=by rw[L];exact gx _ _
 have ao:w.heap.size<W.heap.size:=by rw[L];simp
 have r:W.heap[w.heap.size]?=Zo (Zc #[Zi Zk 24,Zi Zk n.num,Zt n.text,Zs na n.names.length v,Zs ka n.kids.length kc] 40 (0,0)):=by rw[L];exact heap_alloc_last _ _
 obtain⟨_,_,hv,aa,ae,z⟩:=X.keep (a6 l D) (fun _ h=>h);cases hv
 obtain⟨_,_,hv,ab,A⟩:=h4.keepN (a6 l D) (fun _ h=>h);cases hv
 have HG:Hid (∀k (h:k<n.kids.length),gp m n.kids[k] d=true):=fun k h=>List.all_eq_true.1 hg _ (List.getElem_mem h);have Q:Hid (8+jk n.names+b4 (fun x=>gw m x+1) n.kids<=800000):=hl;have ah:n.names.length<=n.kids.length:=om;have ai:n.kids.length<=n.names.length:=om;have O:=a7 l;unfold maxLen at aa ab;clear hg hl X h4 ac l;subst L;go_in;go_wp2;go_loopw [3,4] (fun a i wr=>∃(k:Nat)(s:ZN),k<=n.kids.length/\i=Zi Zk k/\a=Zt s/\Hid (s.size=4+jk (n.names.take k)+b4 (fun x=>gw m x+1) (n.kids.take k))/\Below (w.heap.size+1) (w.alloc (Zc #[Zi Zk 24,Zi Zk n.num,Zt n.text,Zs na n.names.length v,Zs ka n.kids.length kc] 40)) wr) (fun _ i _=>n.kids.length-(intOf i).toNat);case atStart=>exact⟨0,⟨#[102,111,114,109]⟩,Nat.zero_le _,rfl,rfl,rfl,Below.refl _ _⟩
 case round=>
  obtain⟨k,s,hk,rfl,rfl,R,g⟩:=hrel;obtain⟨z0,z1,z2,z3,z4⟩:=fZ ((g.block w.heap.size om).trans r);by_cases u:k<n.kids.length
  ·have q:k<n.names.length:=by omega
   obtain⟨b,off,rfl,Z,t⟩:=z (by intro h;rw[h]at q;simp at q);have ak:=D b Z;have e0:=kC g (t k q) om;obtain⟨o,c,rfl,F,p⟩:=A (by intro h;have:=List.length_eq_zero_iff.2 h;omega);have af:=D o F;obtain⟨d0,d1,d2,d3,d4,k0,k1,k2,k3,k4,B⟩:=p k u;obtain⟨x0,x1,x2,xa,xl,xc,ya,yl,yc,rfl,rfl,rfl,rfl,rfl⟩:=B.shape;have f0:=kC g k0 om;have f1:=kC g k1 om;have f2:=kC g k2 om;have f3:=kC g k3 om;have f4:=kC g k4 om;have M:=g.size;have HC:Hid (∀E,Bw wr E->Calls prog 72 #[Za #[Zi Zk x0,Zi Zk x1,Zt x2,Zs xa xl xc,Zs ya yl yc]] E fun e j=>∃s,e=Zr (Zt s)/\s.size=gw m n.kids[k]/\Bw wr j/\(j.cell? ⟨w.heap.size,3,Zn⟩=Zo (Zs (Zo ⟨b,off,Zn⟩) n.names.length v)/\j.cell? ⟨w.heap.size,4,Zn⟩=Zo (Zs (Zo ⟨o,c,Zn⟩) n.kids.length kc)/\j.cell? ⟨b,off+k,Zn⟩=Zo (Zt n.names[k])/\j.cell? ⟨o,c+k*5,Zn⟩=Zo (Zi Zk x0)/\j.cell? ⟨o,c+k*5+1,Zn⟩=Zo (Zi Zk x1)/\j.cell? ⟨o,c+k*5+2,Zn⟩=Zo (Zt x2)/\j.cell? ⟨o,c+k*5+3,Zn⟩=Zo (Zs xa xl xc)/\j.cell? ⟨o,c+k*5+4,Zn⟩=Zo (Zs ya yl yc))):=by intro E y;have aj:=gK (fun x=>gw m x+1) n.kids _ (List.getElem_mem u);have hL:=Q.out;have l:Below (w.heap.size+1) (w.alloc (Zc #[Zi Zk 24,Zi Zk n.num,Zt n.text,Zs (Zo ⟨b,off,Zn⟩) n.names.length v,Zs (Zo ⟨o,c,Zn⟩) n.kids.length kc] 40)) E:=g.trans (y.mono (by simp at M;omega));refine (hn S n.kids[k] _ _ _ _ _ d E (B.keep (a6 l (fun b G=>by have:=D b G;omega)) (fun _ h=>h)) (fun b G=>by have:=D b G;have:=l.size;simp at this;omega) (HG.out k u) om).mono ?_;rintro e j ⟨G,s',rfl,ad⟩;have f:Bw wr j:=y.trans (G.mono y.size);simp at M;exact⟨s',rfl,ad,f,kC f z3 om,kC f z4 om,kC f e0 om,kC f f0 om,kC f f1 om,kC f f2 om,kC f f3 om,kC f f4 om⟩
   have K:Hid (jk (n.names.take (k+1))=jk (n.names.take k)+(n.names[k].size+1)/\b4 (fun x=>gw m x+1) (n.kids.take (k+1))=b4 (fun x=>gw m x+1) (n.kids.take k)+(gw m n.kids[k]+1)):=⟨ph _ _ q,fQ _ _ _ u⟩;have al:s.size+n.names[k].size+gw m n.kids[k]+2<=900000:=by have C:=rI n.names (k+1);have h2:=qj (fun x=>gw m x+1) n.kids (k+1);have X:=Q.out;rw[K.out.1]at C;rw[K.out.2]at h2;rw[R.out];omega
   have hD:Bw wr wr.drew:=(Below.refl _ _).drew;have am:(k:Int)<(n.kids.length:Int):=om;have ag:(k:Int)<(n.names.length:Int):=om;have V:=a7 g;have P:=a7 M;clear z A t p B k0 k1 k2 k3 k4 r ae z0 z1 z2 g M;generalize n.names[k]=nm at *;generalize gw m n.kids[k]=lk at *;go_wp2_with fail;go_region_held (fun j=>j.cell? ⟨w.heap.size,3,Zn⟩=Zo (Zs (Zo ⟨b,off,Zn⟩) n.names.length v)/\j.cell? ⟨w.heap.size,4,Zn⟩=Zo (Zs (Zo ⟨o,c,Zn⟩) n.kids.length kc)/\j.cell? ⟨b,off+k,Zn⟩=Zo (Zt nm)/\j.cell? ⟨o,c+k*5,Zn⟩=Zo (Zi Zk x0)/\j.cell? ⟨o,c+k*5+1,Zn⟩=Zo (Zi Zk x1)/\j.cell? ⟨o,c+k*5+2,Zn⟩=Zo (Zt x2)/\j.cell? ⟨o,c+k*5+3,Zn⟩=Zo (Zs xa xl xc)/\j.cell? ⟨o,c+k*5+4,Zn⟩=Zo (Zs ya yl yc)) (first|with_reducible assumption|go_keep) (first|(go_at_call 72;refine (HC.out _ hD).mono ?_;rintro e w2 ⟨s2,rfl,J,H,Y⟩));all_goals
    have N:Hid (Below (w.heap.size+1) _ w2):=V.out.trans (H.mono (by have:=P.out;simp at this;omega))
    have U:Hid ((((s++⟨#[32]⟩)++nm)++⟨#[32]⟩++s2).size=4+jk (n.names.take (k+1))+b4 (fun x=>gw m x+1) (n.kids.take (k+1))):=by
     show _=_
     rw[K.out.1,K.out.2,iW,iW,iW,iW,R.out,J]
     show _+1+_+1+_=_
     omega
    clear H Y J HC f0 f1 f2 f3 f4 e0 z3 z4
    go_wp2
    go_roundw
    case rel=>exact⟨k+1,_,om,by go_num,rfl,U,N.out⟩
    case measure=>simp[intOf];omega
  ·have I:k=n.kids.length:=by omega
   have HE:Hid ((s++⟨#[32,101,110,100]⟩).size=8+jk n.names+b4 (fun x=>gw m x+1) n.kids):=by show _=_;have C:=R.out;rw[I,List.take_length,List.take_of_length_le om]at C;rw[iW,C];show _+4=_;omega
   have HB:=a7 (O.out.trans (g.mono om));have an:s.size<=900000:=by have C:=HE.out;rw[iW]at C;have:=Q.out;omega
   clear z A I g r z0 z1 z2 z3;go_wp2;go_ret;exact⟨HB.out,_,rfl,HE.out⟩
theorem Bs (m:Nat) (n:Nd (T m)) (na ka:ZO) (p kc k:Nat) (l:n.sort=(k:Int)) (t:1<=k) (u:k<=3) (w:World) (d:(Lit.int Zk n.sort).wf=true) (f:(Lit.int Zk n.num).wf=true) (o:n.text.size<=maxLen) (b:gM n.sort n.num n.text [] 0=true) :
  Calls prog 72 #[Za #[Zi Zk (k:Int),Zi Zk n.num,Zt n.text,Zs na n.names.length p,Zs ka n.kids.length kc]] w fun e i=>Bw w i/\∃s,e=Zr (Zt s)/\s.size=(kL n.sort n.num n.text).length:=by
 have g:=(Below.refl w.heap.size w).alloc (Nat.le_refl _) (Zc #[Zi Zk (k:Int),Zi Zk n.num,Zt n.text,Zs na n.names.length p,Zs ka n.kids.length kc] 40);have j:Hid (∀w,Calls prog 96 #[Za #[Zi Zk (k:Int),Zi Zk n.num,Zt n.text,Zs Zn 0 0,Zs Zn 0 0]] w fun e i=>e=Zr (Zt (bs (kL n.sort n.num n.text)))/\Bw w i):=by
  intro w;have v:ie 1 (lF n.sort n.num n.text) 1=true:=by show (decide ((1:Int)<=6) && gM n.sort n.num n.text [] 0 && List.all ([]:List (T 0)) _)=_;rw[b];rfl
  have:=AK 1 (fun _=>False) (lF n.sort n.num n.text) _ _ _ _ _ 1 w (tw _ w n.sort n.num n.text d f o) (fun _ h=>h.elim) v (by show (1:Nat)<=120;omega);rw[l]at this ⊢;exact this
 have r:Hid ((bs (kL n.sort n.num n.text)).size=(kL n.sort n.num n.text).length):=gq _;generalize bs (kL n.sort n.num n.text)=s at *;have a:k=1∨k=2∨k=3:=om;clear l t u b d f o;rcases a with rfl|rfl|rfl;all_goals
  go_in
  go_wp2_with fail
  refine (j.out _).mono ?_
  rintro e w1 ⟨rfl,c⟩
  have q:=a7 (b5 g zS c)
  clear c j
  go_wp2
  go_ret
  exact⟨q.out,_,rfl,r.out⟩
theorem Bt (S:ZP) (m:Nat) (n:Nd (T m)) (na ka:ZO) (f kc:Nat) (w:World) (o:Bd S w) (i:fL S w n.names (Zs na n.names.length f)) (c:n.names≠[]) :
  Calls prog 72 #[Za #[Zi Zk 4,Zi Zk n.num,Zt n.text,Zs na n.names.length f,Zs ka n.kids.length kc]] w fun e r=>Bw w r/\∃s,e=Zr (Zt s)/\s.size=(n.names.headD ByteArray.empty).size:=by
 have d:=(Below.refl w.heap.size w).alloc (Nat.le_refl _) (Zc #[Zi Zk 4,Zi Zk n.num,Zt n.text,Zs na n.names.length f,Zs ka n.kids.length kc] 40);obtain⟨_,_,q,t,-,j⟩:=i.keep (a6 d o) (fun _ h=>h);cases q
 obtain⟨b,off,rfl,p,a⟩:=j c;have g:0<n.names.length:=List.length_pos_iff.2 c;have l:=a 0 g;rw[Nat.add_zero]at l;have k:Hid (n.names[0].size=(n.names.headD ByteArray.empty).size):=by show _=_;rw[List.headD_eq_head?_getD,List.head?_eq_getElem?,List.getElem?_eq_getElem g];rfl
 have hi:(0:Int)<(n.names.length:Int):=om;generalize n.names[0]=s at *;clear j a i c;go_in;go_wp2;go_ret;exact⟨d,_,rfl,k.out⟩
theorem yL(m:Nat)(hn:zZ 61 m):zZ 61 (m+1):=by
 intro S t c0 c1 c2 c3 c4 d w ht hB hg;obtain⟨na,nc,ka,kc,rfl,rfl,rfl,rfl,rfl,g,l⟩:=yq hn ht hB hg;obtain⟨W,n⟩:=ii (w.alloc (Zc #[Zi Zk (Nd.sort t),Zi Zk (Nd.num t),Zt (Nd.text t),Zs na (Nd.names t).length nc,Zs ka (Nd.kids t).length kc] 40));have r:Bw w W:=by rw[n];exact gx _ _
 have P:w.heap.size<W.heap.size:=by rw[n];simp
 obtain⟨z0,z1,z2,z3,z4⟩:=fZ (show W.heap[w.heap.size]?=_ by rw[n];exact heap_alloc_new _ _);have i:=a7 r;have E:Bw W W.drew:=(Below.refl _ _).drew;have f:=FB t;have a:∀V,Bw W V->Bw w V:=fun V h=>r.trans (h.mono r.size);clear ht hB hg hn z1 z2 z3;by_cases H:Nd.sort t=38∨Nd.sort t=39
 ·rw[if_pos H]at f;have s:=a7 f;clear g l f;rcases H with o|o;all_goals
   rw[o]at n z0 ⊢
   clear o
   go_in
   go_wp2_with fail
   rw[<- n]
   go_ret
   exact⟨fJ s.out.symm,i.out⟩
 rw[if_neg H]at f;by_cases p:Nd.sort t=40
 ·rw[if_pos p]at f;have z:(Nd.kids t).length=2:=g 40 p (by decide);obtain⟨b,off,rfl,M,A⟩:=l (by omega);obtain⟨Q,R,T,U,Y,X,Z,zl,zc,C,k⟩:=A 0 (by omega) (off) (by omega);obtain⟨u0,u1,u2,ua,ul,uc,va,vl,vc,J,x⟩:=A 1 (by omega) (off+5) (by omega);have N:=k8 m ((Nd.kids t)[0]'(by omega));have aa:=k8 m ((Nd.kids t)[1]'(by omega));rw[mz (by omega),mz (by omega)]at f;generalize ke m ((Nd.kids t)[0]'(by omega))=v1 at *;generalize ke m ((Nd.kids t)[1]'(by omega))=v2 at *;have s:=a7 f;have ac:0<(Nd.kids t).length:=by omega
  have O:(1:Int)<((Nd.kids t).length:Int):=by omega
  have ad:(1:Int)<((Nd.kids t).length:Int):=by omega
  rw[p]at n z0 ⊢;clear g l A f H z p r;generalize (Nd.kids t).length=kn at *;have B:Hid (∀V,Bw W V->V.cell? ⟨w.heap.size,4,Zn⟩=Zo (Zs (Zo ⟨b,off,Zn⟩) kn kc)/\C5 V b (off) Q R T U Y X Z zl zc/\C5 V b (off+5) u0 u1 u2 ua ul uc va vl vc):=fun V h=>⟨kC h z4 P,C V (a V h),J V (a V h)⟩;have j:Hid (∀V,Bw W V->Calls _ _ _ V _):=fun V h=>k V (a V h);have v:Hid (∀V,Bw W V->Calls _ _ _ V _):=fun V h=>x V (a V h);clear C J k x a;have al:IntKind.i64.wrap (v1+v2)=v1+v2:=by rw[IntKind.wrap_i64];omega
  go_in;go_upto_region 7 with fail;rw[<- n];clear n;refine wp_region_held_drew (S:=fun w'=>w'.cell? ⟨w.heap.size,4,Zn⟩=Zo (Zs (Zo ⟨b,off,Zn⟩) kn kc)/\C5 w' b off Q R T U Y X Z zl zc/\C5 w' b (off+5) u0 u1 u2 ua ul uc va vl vc) zK (B.out _ E) (fun hHeld=>?_);generalize W.drew=V at *;refine tk 0 ?_;refine tk 1 ?_;refine tk 2 ?_;refine tk 3 ?_;refine tk 5 ?_;refine tk 6 ?_;refine tk 7 ?_;refine tk 8 ?_;refine i6 4 fun K hK=>?_;go_simp;go_at_call 61;refine (j.out V E).mono ?_;rintro e I ⟨rfl,y⟩;have c:=E.trans (y.mono E.size);refine hK.out _ _ (B.out _ c) (fun hHeld=>?_);clear hK K y;refine i6 9 fun K hK=>?_;go_simp;go_at_call 61;refine (v.out I c).mono ?_;rintro e V2 ⟨rfl,y⟩;have F:=c.trans (y.mono c.size);refine hK.out _ _ (B.out _ F) (fun hHeld=>?_);clear hK K y;refine tk 10 ?_;refine tk 11 ?_;refine wpAnyH_done zK ?_ _;go_simp;have u:=Lib.hid (i.out.trans (F.mono i.out.size));clear hHeld j v B E c F;by_cases ab:400<v1+v2;all_goals
   go_wp2_with fail
   go_ret
   exact⟨fJ (by rw[s.out];omega),u.out⟩
 rw[if_neg p]at f;by_cases q:Nd.sort t=41
 ·rw[if_pos q]at f;have z:(Nd.kids t).length=3:=g 41 q (by decide);obtain⟨b,off,rfl,M,A⟩:=l (by omega);obtain⟨Q,R,T,U,Y,X,Z,zl,zc,C,k⟩:=A 1 (by omega) (off+5) (by omega);obtain⟨u0,u1,u2,ua,ul,uc,va,vl,vc,J,x⟩:=A 2 (by omega) (off+10) (by omega);have N:=k8 m ((Nd.kids t)[1]'(by omega));have aa:=k8 m ((Nd.kids t)[2]'(by omega));rw[mz (by omega),mz (by omega)]at f;generalize ke m ((Nd.kids t)[1]'(by omega))=v1 at *;generalize ke m ((Nd.kids t)[2]'(by omega))=v2 at *;have s:=a7 f;have ac:0<(Nd.kids t).length:=by omega
  have O:(1:Int)<((Nd.kids t).length:Int):=by omega
  have ad:(2:Int)<((Nd.kids t).length:Int):=by omega
  rw[q]at n z0 ⊢;clear g l A f H z q r;generalize (Nd.kids t).length=kn at *;have B:Hid (∀V,Bw W V->V.cell? ⟨w.heap.size,4,Zn⟩=Zo (Zs (Zo ⟨b,off,Zn⟩) kn kc)/\C5 V b (off+5) Q R T U Y X Z zl zc/\C5 V b (off+10) u0 u1 u2 ua ul uc va vl vc):=fun V h=>⟨kC h z4 P,C V (a V h),J V (a V h)⟩;have j:Hid (∀V,Bw W V->Calls _ _ _ V _):=fun V h=>k V (a V h);have v:Hid (∀V,Bw W V->Calls _ _ _ V _):=fun V h=>x V (a V h);clear C J k x a;go_in;have D:=Below.refl W.heap.size W;obtain⟨p4,⟨p0,p1,p2,p3,p5⟩,-⟩:=B.out W D;go_upto_region 9 with fail;rw[<- n];clear n;go_wp2_with fail;refine (j.out W D).mono ?_;rintro e I ⟨rfl,y⟩;have c:=D.trans (y.mono D.size);obtain⟨q4,-,q0,q1,q2,q3,q5⟩:=B.out I c;clear p0 p1 p2 p3 p4 p5 z0 z4 E;go_wp2_with fail;refine (v.out I c).mono ?_;rintro e V2 ⟨rfl,L⟩;have u:=Lib.hid (i.out.trans ((c.trans (L.mono c.size)).mono i.out.size));clear q0 q1 q2 q3 q4 q5 j v B y L c D;by_cases ab:v1<v2;all_goals
   by_cases G:400<max v1 v2
   all_goals
    first|rw[Int.max_eq_right (by omega)]at G|rw[Int.max_eq_left (by omega)]at G
    go_wp2_with fail
    go_ret
    exact⟨fJ (by rw[s.out];omega),u.out⟩
 rw[if_neg q]at f;by_cases h3:Nd.sort t=42∨Nd.sort t=43
 ·have z:(Nd.kids t).length=2:=by
   rcases h3 with h|h;·exact g 42 h (by decide)
   ·exact g 43 h (by decide)
  obtain⟨b,off,rfl,M,A⟩:=l (by omega);obtain⟨Q,R,T,U,Y,X,Z,zl,zc,C,k⟩:=A 1 (by omega) (off+5) (by omega);have N:=k8 m ((Nd.kids t)[1]'(by omega));rw[mz (by omega)]at f;generalize ke m ((Nd.kids t)[1]'(by omega))=v1 at *;have O:(1:Int)<((Nd.kids t).length:Int):=by omega
  have j:Hid (∀V,Bw W V->Calls _ _ _ V _):=fun V h=>k V (a V h);have s:=a7 f;have D:=Below.refl W.heap.size W;obtain⟨p0,p1,p2,p3,p5⟩:=C w (Below.refl _ _);clear g l A f H z r C k a p q;generalize (Nd.kids t).length=kn at *;rcases h3 with o|o
  all_goals
   rw[o]at n z0 s ⊢
   clear o
   go_in
   go_wp2_with fail
   rw[<- n]
   clear n
   refine (j.out W D).mono ?_
   rintro e I ⟨rfl,y⟩
   have u:=Lib.hid (i.out.trans (y.mono i.out.size))
   clear p0 p1 p2 p3 p5 z0 z4 E j y D
   have hx:ke (m+1) t=v1∨ke (m+1) t=min (20*v1) 401:=by first|exact .inl s.out|exact .inr s.out
   by_cases G:400<v1
   all_goals
    by_cases ak:400<20*v1
    all_goals
     first
     | omega
     | (go_wp2_with fail
        go_ret
        exact⟨fJ (by have:=s.out;simp at this;omega),u.out⟩)
 rw[if_neg (by omega),if_neg (by omega)]at f;have s:=a7 f;have ae:(Nd.sort t==38)=false:=by simp;omega
 have af:(Nd.sort t==39)=false:=by simp;omega
 have ag:(Nd.sort t==40)=false:=by simp;omega
 have ah:(Nd.sort t==41)=false:=by simp;omega
 have ai:(Nd.sort t==42)=false:=by simp;omega
 have aj:(Nd.sort t==43)=false:=by simp;omega
 clear g l f a;go_in;go_wp2_with fail;rw[<- n];go_ret;exact⟨fJ s.out.symm,i.out⟩
theorem AJ:∀m,zZ 61 m:=by
 intro m;induction m with
 | zero=>intro S t c0 c1 c2 c3 c4 d w a;exact a.elim
 | succ m b=>exact yL m b
end Go.Proofs.YtcfojmaccikgeaaGreatDoor
