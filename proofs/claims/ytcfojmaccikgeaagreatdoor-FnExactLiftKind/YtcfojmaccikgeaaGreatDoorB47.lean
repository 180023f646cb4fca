import Derived.Test.YtcfojmaccikgeaaGreatDoorB46
import Derived.Test.YtcfojmaccikgeaaGreatDoorB34
import Derived.Test.YtcfojmaccikgeaaGreatDoorJC1
import Derived.Test.YtcfojmaccikgeaaGreatDoorB49
import Derived.Test.YtcfojmaccikgeaaGreatDoorB41
import Derived.Test.YtcfojmaccikgeaaGreatDoorB40
import Derived.Test.YtcfojmaccikgeaaGreatDoorB2
import Derived.Test.YtcfojmaccikgeaaGreatDoorB26
import Derived.Deep.RegionHeld
import Derived.Test.YtcfojmaccikgeaaGreatDoorB13
import Derived.Test.YtcfojmaccikgeaaGreatDoorB32
import Derived.BigQuiet
import Derived.Test.YtcfojmaccikgeaaGreatDoorB42
import Derived.Test.YtcfojmaccikgeaaGreatDoorB44
import Derived.Test.YtcfojmaccikgeaaGreatDoorB39
open Go.Value renaming slice→Zs,int→Zi,string→Zt,agg→Za,tuple→Zu,pointer→Zp
open Go.IntKind renaming i64→Zk
open Go.Obj renaming cells→Zc
open Option renaming none→Zn,some→Zo
open Nat renaming lt_of_lt_of_le→Zd,le_refl→Zl
open Go.Ending renaming returned→Zr
open Go renaming World→Zw,Value→Zv
open Go.RowKit.Below renaming heap_alloc→Zh
open List renaming getElem_mem→Zg,forall_mem_cons→Zm
open ByteArray renaming empty→Ze
namespace Go.Proofs.YtcfojmaccikgeaaGreatDoor
open Go.RowKit Go.Proofs.Tryz
set_option maxRecDepth 100000
set_option maxHeartbeats 16000000
variable {M m n:Nat} {S:Nat->Prop} {w V w' W:Zw} {c0 c1 c2:Zv}
theorem wG (M m:Nat) (hM:5<=M) (S:Nat->Prop) (t:T (m+1)) (l:List (ByteArray × K (M+1))) (a:List (K (M+1))) (c0 c1 c2 c3 c4 v G:Zv) (w:Zw) (ht:fZ S w (m+1) t c0 c1 c2 c3 c4) (hv:gM S w (M+1) l v) (hr:gU S w (a8 S w (M+1)) a G) (c:Bd S w) (hl:l.length<=3000000) (aD:∀ x,x∈a->gV (M+1) x=true) (aA:Aq (Nd.sort t) (Nd.names t) (Nd.text t) a) :
  Calls prog 77 #[v,Za #[c0,c1,c2,c3,c4],G] w (ir S (M+2) (fX (Nd.sort t) (Nd.names t) (Nd.text t) l.reverse a).1 (fX (Nd.sort t) (Nd.names t) (Nd.text t) l.reverse a).2 w):=by
 obtain⟨rfl,rfl,rfl,hs,aL,aP,h3,h4,⟨na,nl,nc,rfl,aO⟩,⟨ka,kl,kc,rfl,aK⟩⟩:=ht;obtain⟨_,_,aE,-⟩:=id h3;cases aE
 have HN:1<=(Nd.names t).length->∃p q,na=Zo ⟨p,q,Zn⟩/\p<w.heap.size/\w.cell? ⟨p,q,Zn⟩=Zo (Zt ((Nd.names t).getD 0 Ze)):=fun h=>by
  obtain⟨p,q,cap,av,Z,aB⟩:=ld h3 c om;cases av
  have:=(aB 0 om).1;exact⟨p,q,rfl,Z,by rw[gr om];simpa using this⟩
 have L:∀j,j<a.length->∃(b off cap:Nat)(r:Int)(s D:Option Addr)(C u A B:Nat),G=Zs (Zo ⟨b,off,Zn⟩) a.length cap/\b<w.heap.size/\w.cell? ⟨b,off+j*3,Zn⟩=Zo (Zi Zk r)/\w.cell? ⟨b,off+j*3+1,Zn⟩=Zo (Zs s C u)/\w.cell? ⟨b,off+j*3+2,Zn⟩=Zo (Zs D A B)/\a8 S w (M+1) (a.getD j zU) (Zi Zk r) (Zs s C u) (Zs D A B)/\gV (M+1) (a.getD j zU)=true:=fun j hj=>by obtain⟨b,off,cap,r,s,D,C,u,A,B,h1,h2,h5,h6,h7,h8⟩:=jR hr c j hj;rw[gr hj];exact⟨b,off,cap,r,s,D,C,u,A,B,h1,h2,h5,h6,h7,h8,aD _ (Zg hj)⟩
 obtain⟨lo,hi,o4,aG,o5,J,N,am,ay,ar⟩:=aA;generalize aJ:Nd.sort t=op at *;have ai:op=1∨op=2∨op=3∨op=4∨op=5∨op=6∨op=7∨op=8∨op=9∨op=10∨op=11∨op=12∨op=13∨op=14∨op=15∨op=16∨op=17∨op=18∨op=19∨op=20∨op=21∨op=22∨op=23∨op=24∨op=25∨op=26∨op=27∨op=28∨op=29∨op=30∨op=31∨op=32∨op=33∨op=34∨op=35:=om;rcases ai with rfl|rfl|rfl|rfl|rfl|rfl|rfl|rfl|rfl|rfl|rfl|rfl|rfl|rfl|rfl|rfl|rfl|rfl|rfl|rfl|rfl|rfl|rfl|rfl|rfl|rfl|rfl|rfl|rfl|rfl|rfl|rfl|rfl|rfl|rfl
 ·have e:fX 1 (Nd.names t) (Nd.text t) l.reverse a=(iz 1,0):=by simp[fX]
  rw[e];exact ip 1 1 zS M S _ _ _ _ _ _ _ _ v G w c
 ·have e:fX 2 (Nd.names t) (Nd.text t) l.reverse a=(iz 2,0):=by simp[fX]
  rw[e];exact ip 2 2 zS M S _ _ _ _ _ _ _ _ v G w c
 ·have e:fX 3 (Nd.names t) (Nd.text t) l.reverse a=(iz 3,0):=by simp[fX]
  rw[e];exact ip 3 3 zS M S _ _ _ _ _ _ _ _ v G w c
 ·obtain⟨p,q,rfl,Z,g⟩:=HN (o4 zS);have e:fX 4 (Nd.names t) (Nd.text t) l.reverse a=nC l.reverse ((Nd.names t).getD 0 Ze):=by simp[fX,nC];generalize iX l.reverse _=o;cases o<;>rfl
  rw[e];exact Iyq M S _ _ _ _ _ _ _ v G w c l hv hl p q _ Z (by have:=o4 zS;omega) g
 ·have e:fX 5 (Nd.names t) (Nd.text t) l.reverse a=(kj 6 (pL M (Nd.text t)),0):=by simp[fX]
  rw[e];exact IC M S _ _ _ _ _ _ _ _ v G w c hM (o5 zS)
 ·have e:fX 6 (Nd.names t) (Nd.text t) l.reverse a=(kj 4 (pL M (Nd.text t)),0):=by simp[fX]
  rw[e];exact I2 M S _ _ _ _ _ _ _ _ v G w c hM (o5 zS)
 ·obtain⟨b,off,cap,r,s,D,C,u,A,B,rfl,n,k,d,f,F,ok⟩:=L 0 (by have:=J zS;omega);simp only[Nat.zero_mul,Nat.add_zero]at k d f;have e:fX 7 (Nd.names t) (Nd.text t) l.reverse a=(kj 6 (a.getD 0 zU),0):=by simp[fX]
  rw[e];exact Iv M S _ _ _ _ _ _ _ _ v w c b off a.length cap n (by have:=J zS;omega) r s D C u A B _ F k d f
 ·obtain⟨b,off,cap,r,s,D,C,u,A,B,rfl,n,k,d,f,F,ok⟩:=L 0 (by have:=J zS;omega);simp only[Nat.zero_mul,Nat.add_zero]at k d f;have e:fX 8 (Nd.names t) (Nd.text t) l.reverse a=(kj 4 (a.getD 0 zU),0):=by simp[fX]
  rw[e];exact Ip M S _ _ _ _ _ _ _ _ v w c b off a.length cap n (by have:=J zS;omega) r s D C u A B _ F k d f
 ·have e:fX 9 (Nd.names t) (Nd.text t) l.reverse a=(iz 1,0):=by simp[fX]
  rw[e];exact ip 9 1 zS M S _ _ _ _ _ _ _ _ v G w c
 ·have e:fX 10 (Nd.names t) (Nd.text t) l.reverse a=(iz 1,0):=by simp[fX]
  rw[e];exact ip 10 1 zS M S _ _ _ _ _ _ _ _ v G w c
 ·have e:fX 11 (Nd.names t) (Nd.text t) l.reverse a=(iz 1,0):=by simp[fX]
  rw[e];exact ip 11 1 zS M S _ _ _ _ _ _ _ _ v G w c
 ·have e:fX 12 (Nd.names t) (Nd.text t) l.reverse a=(iz 1,0):=by simp[fX]
  rw[e];exact ip 12 1 zS M S _ _ _ _ _ _ _ _ v G w c
 ·have e:fX 13 (Nd.names t) (Nd.text t) l.reverse a=(iz 1,0):=by simp[fX]
  rw[e];exact ip 13 1 zS M S _ _ _ _ _ _ _ _ v G w c
 ·have e:fX 14 (Nd.names t) (Nd.text t) l.reverse a=(iz 3,0):=by simp[fX]
  rw[e];exact ip 14 3 zS M S _ _ _ _ _ _ _ _ v G w c
 ·have e:fX 15 (Nd.names t) (Nd.text t) l.reverse a=(iz 3,0):=by simp[fX]
  rw[e];exact ip 15 3 zS M S _ _ _ _ _ _ _ _ v G w c
 ·have e:fX 16 (Nd.names t) (Nd.text t) l.reverse a=(iz 3,0):=by simp[fX]
  rw[e];exact ip 16 3 zS M S _ _ _ _ _ _ _ _ v G w c
 ·have e:fX 17 (Nd.names t) (Nd.text t) l.reverse a=(iz 3,0):=by simp[fX]
  rw[e];exact ip 17 3 zS M S _ _ _ _ _ _ _ _ v G w c
 ·have e:fX 18 (Nd.names t) (Nd.text t) l.reverse a=(iz 3,0):=by simp[fX]
  rw[e];exact ip 18 3 zS M S _ _ _ _ _ _ _ _ v G w c
 ·obtain⟨b,off,cap,r,s,D,C,u,A,B,rfl,n,k,d,f,F,ok⟩:=L 1 (by have:=N zS;omega);simp only[Nat.one_mul]at k d f;have e:fX 19 (Nd.names t) (Nd.text t) l.reverse a=(mJ (a.getD 1 zU),0):=by simp[fX]
  rw[e];exact mT 19 zS M S _ _ _ _ _ _ _ _ v w c b off a.length cap n (by have:=N zS;omega) r s D C u A B _ F k d f
 ·obtain⟨b,off,cap,r,s,D,C,u,A,B,rfl,n,k,d,f,F,ok⟩:=L 1 (by have:=N zS;omega);simp only[Nat.one_mul]at k d f;have e:fX 20 (Nd.names t) (Nd.text t) l.reverse a=(mJ (a.getD 1 zU),0):=by simp[fX]
  rw[e];exact mT 20 zS M S _ _ _ _ _ _ _ _ v w c b off a.length cap n (by have:=N zS;omega) r s D C u A B _ F k d f
 ·obtain⟨p,q,rfl,Z,g⟩:=HN (o4 zS);obtain⟨b,off,cap,r,s,D,C,u,A,B,rfl,n,k,d,f,F,ok⟩:=L 0 (by have:=J zS;omega);simp only[Nat.zero_mul,Nat.add_zero]at k d f;obtain⟨fl,ae,f8,fa,fr⟩:=mp ok (am zS);generalize X:a.getD 0 zU=k0 at *;generalize W:(Nd.names t).getD 0 Ze=nm at *;have z:=X;have y:=W;rw[List.getD_eq_getElem?_getD]at z y;obtain⟨ao,-,I,R⟩:=id F;obtain⟨_,_,ab,-⟩:=id I;cases ab
  obtain⟨ap,af,Y,-,an⟩:=id R;cases Y
  have ad:∀V,Bw w V->Calls prog 105 #[Zs s (Kd.names k0).length u,Zt nm] V fun e w'=>((∃i,∃h:i<(Kd.names k0).length,(Kd.names k0)[i]=nm/\e=Zr (Zi Zk (i:Int)))∨(nm ∉ Kd.names k0/\e=Zr (Zi Zk (-1))))/\w'=V:=fun V H=>qb S _ _ nm V (I.keep (a6 H c) fun _ h=>h) om;by_cases E:nm∈Kd.names k0
  ·obtain⟨i,hi,P⟩:=List.getElem_of_mem E;have U:i<(Kd.kids k0).length:=om;have Q:kU (Kd.names k0) (Kd.kids k0) nm=Zo (Kd.kids k0)[i]:=by rw[<- P];exact nA _ _ i hi U fa
   have ah:∀V,Bw w V->Calls prog 105 #[Zs s (Kd.names k0).length u,Zt nm] V fun e w'=>e=Zr (Zi Zk (i:Int))/\w'=V:=fun V H=>(ad V H).mono (by
    rintro e w' ⟨⟨j,hj,O,he⟩|⟨ak,-⟩,hw⟩
    ·have:j=i:=wQ fa j i hj hi (by rw[O,P])
     subst this;exact⟨he,hw⟩
    ·exact absurd E ak)
   obtain⟨b3,o3,rfl,az,aj⟩:=an (fun e=>by rw[e]at U;simp at U);obtain⟨d0,d1,d2,q0,q1,q2,au⟩:=aj i U;obtain⟨y0,ya,yl,yc,za,zl,zc,rfl,rfl,rfl⟩:=au.shape;have e:fX 21 (Nd.names t) (Nd.text t) l.reverse a=(mJ (fQ M M (Kd.kids k0)[i]),0):=by simp[fX,mL,z,y,Q]
   rw[e];exact Ib M S _ _ _ _ _ _ _ v w c p q nm Z (by have:=o4 zS;omega) g b off a.length cap n (by have:=J zS;omega) _ _ _ d i ah b3 o3 _ _ (c _ az) om f y0 ya za yl yc zl zc _ (au.cp om) q0 q1 q2
  ·have Q:kU (Kd.names k0) (Kd.kids k0) nm=Zn:=oO _ _ _ E;have e:fX 21 (Nd.names t) (Nd.text t) l.reverse a=((zU:K (M+2)),8):=by simp[fX,mL,z,y,Q]
   rw[e];refine Ai M S _ _ _ _ _ _ _ v w c p q nm Z (by have:=o4 zS;omega) g b off a.length cap n (by have:=J zS;omega) _ _ _ d fun V H=>(ad V H).mono ?_;rintro e w' ⟨⟨j,hj,O,-⟩|⟨-,he⟩,hw⟩;·exact absurd (by rw[<- O];exact Zg hj) E
   ·exact⟨he,hw⟩
 ·obtain⟨p,q,rfl,Z,g⟩:=HN (o4 zS);obtain⟨b,off,cap,r,s,D,C,u,A,B,rfl,n,k,d,f,F,ok⟩:=L 0 (by have:=N zS;omega);simp only[Nat.zero_mul,Nat.add_zero]at k d f;obtain⟨fl,ae,f8,fa,fr⟩:=mp ok (am zS);generalize X:a.getD 0 zU=k0 at *;generalize W:(Nd.names t).getD 0 Ze=nm at *;have z:=X;have y:=W;rw[List.getD_eq_getElem?_getD]at z y;obtain⟨ao,-,I,R⟩:=id F;obtain⟨_,_,ab,-⟩:=id I;cases ab
  obtain⟨ap,af,Y,-,an⟩:=id R;cases Y
  obtain⟨b',aH,aI,a0,aa,da,al,ac,dl,dc,aw,aM,q0,q1,q2,aF,aQ⟩:=L 1 (by have:=N zS;omega);cases aw
  simp only[Nat.one_mul]at q0 q1 q2;generalize ag:a.getD 1 zU=k1 at *;have e:fX 22 (Nd.names t) (Nd.text t) l.reverse a=(zM k0 nm k1,0):=by rw[List.getD_eq_getElem?_getD]at ag;simp[fX,z,y,ag]
  rw[e];refine GS M S _ _ _ _ _ _ _ v w c p q nm Z (by have:=o4 zS;omega) g b off a.length cap n (by have:=N zS;omega) (by have:=N zS;omega) r _ _ _ _ _ _ k d f a0 aa da al ac dl dc q0 q1 q2 _ fun V H=>?_;exact yQ (M+1) S r (Kd.names k0) ((Kd.kids k0).map (fQ M M)) k1 _ _ _ _ _ _ a0 aa da al ac dl dc nm V (I.keep (a6 H c) fun _ h=>h) (gU.up (R.keepK (a6 H c) fun _ h=>h) om) (aF.keep (a6 H c) fun _ h=>h) (fun b n=>Zd (c b n) H.size) rfl (by rw[List.length_map]) fl ae f8 (aG rfl) fa
 ·obtain⟨p,q,rfl,Z,g⟩:=HN (o4 zS);obtain⟨b,off,cap,r,s,D,C,u,A,B,rfl,n,k,d,f,F,ok⟩:=L 0 (by have:=J zS;omega);simp only[Nat.zero_mul,Nat.add_zero]at k d f;obtain⟨fl,ae,f8,fa,fr⟩:=mp ok (am zS);generalize X:a.getD 0 zU=k0 at *;generalize W:(Nd.names t).getD 0 Ze=nm at *;have z:=X;have y:=W;rw[List.getD_eq_getElem?_getD]at z y;obtain⟨ao,-,I,R⟩:=id F;obtain⟨_,_,ab,-⟩:=id I;cases ab
  obtain⟨ap,af,Y,-,an⟩:=id R;cases Y
  have ad:∀V,Bw w V->Calls prog 105 #[Zs s (Kd.names k0).length u,Zt nm] V fun e w'=>((∃i,∃h:i<(Kd.names k0).length,(Kd.names k0)[i]=nm/\e=Zr (Zi Zk (i:Int)))∨(nm ∉ Kd.names k0/\e=Zr (Zi Zk (-1))))/\w'=V:=fun V H=>qb S _ _ nm V (I.keep (a6 H c) fun _ h=>h) om;by_cases E:nm∈Kd.names k0
  ·obtain⟨i,hi,P⟩:=List.getElem_of_mem E;have U:i<(Kd.kids k0).length:=om;have Q:kU (Kd.names k0) (Kd.kids k0) nm=Zo (Kd.kids k0)[i]:=by rw[<- P];exact nA _ _ i hi U fa
   have ah:∀V,Bw w V->Calls prog 105 #[Zs s (Kd.names k0).length u,Zt nm] V fun e w'=>e=Zr (Zi Zk (i:Int))/\w'=V:=fun V H=>(ad V H).mono (by
    rintro e w' ⟨⟨j,hj,O,he⟩|⟨ak,-⟩,hw⟩
    ·have:j=i:=wQ fa j i hj hi (by rw[O,P])
     subst this;exact⟨he,hw⟩
    ·exact absurd E ak)
   have e:fX 23 (Nd.names t) (Nd.text t) l.reverse a=(zr k0 nm,0):=by simp[fX,mL,z,y,Q]
   rw[e];refine GV M S _ _ _ _ _ _ _ v w c p q nm Z (by have:=o4 zS;omega) g b off a.length cap n (by have:=J zS;omega) _ _ _ d i ah r _ _ _ k f _ fun V H=>?_;exact yo (M+1) S r (Kd.names k0) ((Kd.kids k0).map (fQ M M)) _ _ _ _ _ _ nm V (I.keep (a6 H c) fun _ h=>h) (gU.up (R.keepK (a6 H c) fun _ h=>h) om) (fun b n=>Zd (c b n) H.size) rfl (by rw[List.length_map]) fl ae f8
  ·have Q:kU (Kd.names k0) (Kd.kids k0) nm=Zn:=oO _ _ _ E;have e:fX 23 (Nd.names t) (Nd.text t) l.reverse a=((zU:K (M+2)),8):=by simp[fX,mL,z,y,Q]
   rw[e];refine zL M S _ _ _ _ _ _ _ v w c p q nm Z (by have:=o4 zS;omega) g b off a.length cap n (by have:=J zS;omega) _ _ _ d fun V H=>(ad V H).mono ?_;rintro e w' ⟨⟨j,hj,O,-⟩|⟨-,he⟩,hw⟩;·exact absurd (by rw[<- O];exact Zg hj) E
   ·exact⟨he,hw⟩
 ·have e:fX 24 (Nd.names t) (Nd.text t) l.reverse a=((⟨5,Nd.names t,a⟩:Kd (K (M+1))),0):=by simp[fX];rfl
  rw[e];exact GR M S _ _ _ _ _ _ _ _ v G w c _ a h3 rfl (ar rfl).1 (ar rfl).2 hr
 ·obtain⟨b,off,cap,r,s,D,C,u,A,B,rfl,n,k,d,f,F,ok⟩:=L 0 (by have:=J zS;omega);simp only[Nat.zero_mul,Nat.add_zero]at k d f;obtain⟨b2,aq,v0,va,wa,vl,vc,wl,wc,rfl,aC,ax,f0,f1,f2,P,aN⟩:=kQ F c (.inr (ay rfl)) ok;have e:fX 25 (Nd.names t) (Nd.text t) l.reverse a=(mJ (mN (a.getD 0 zU)),0):=by simp[fX]
  rw[e];exact GJ M S _ _ _ _ _ _ _ _ v w c b off a.length cap n (by have:=J zS;omega) b2 aq _ _ ax aC f v0 va wa vl vc wl wc _ P f0 f1 f2
 ·have e:fX 26 (Nd.names t) (Nd.text t) l.reverse a=(iz 1,0):=by simp[fX]
  rw[e];exact ip 26 1 zS M S _ _ _ _ _ _ _ _ v G w c
 ·obtain⟨b,off,cap,r,s,D,C,u,A,B,rfl,n,k,d,f,F,ok⟩:=L 0 (by have:=J zS;omega);simp only[Nat.zero_mul,Nat.add_zero]at k d f;have e:fX 27 (Nd.names t) (Nd.text t) l.reverse a=(mJ (a.getD 0 zU),0):=by simp[fX]
  rw[e];exact qy 27 zS M S _ _ _ _ _ _ _ _ v w c b off a.length cap n (by have:=J zS;omega) r s D C u A B _ F k d f
 ·obtain⟨b,off,cap,r,s,D,C,u,A,B,rfl,n,k,d,f,F,ok⟩:=L 0 (by have:=J zS;omega);simp only[Nat.zero_mul,Nat.add_zero]at k d f;have e:fX 28 (Nd.names t) (Nd.text t) l.reverse a=(mJ (a.getD 0 zU),0):=by simp[fX]
  rw[e];exact qy 28 zS M S _ _ _ _ _ _ _ _ v w c b off a.length cap n (by have:=J zS;omega) r s D C u A B _ F k d f
 ·have e:fX 29 (Nd.names t) (Nd.text t) l.reverse a=(iz 2,0):=by simp[fX]
  rw[e];exact ip 29 2 zS M S _ _ _ _ _ _ _ _ v G w c
 ·have e:fX 30 (Nd.names t) (Nd.text t) l.reverse a=(kj 6 (iz 1),0):=by simp[fX]
  rw[e];exact GF M S _ _ _ _ _ _ _ _ v G w c
 ·obtain⟨b,off,cap,r,s,D,C,u,A,B,rfl,n,k,d,f,F,ok⟩:=L 1 (by have:=N zS;omega);simp only[Nat.one_mul]at k d f;have e:fX 31 (Nd.names t) (Nd.text t) l.reverse a=(mJ (a.getD 1 zU),0):=by simp[fX]
  rw[e];exact mT 31 zS M S _ _ _ _ _ _ _ _ v w c b off a.length cap n (by have:=N zS;omega) r s D C u A B _ F k d f
 ·obtain⟨b,off,cap,r,s,D,C,u,A,B,rfl,n,k,d,f,F,ok⟩:=L 1 (by have:=N zS;omega);simp only[Nat.one_mul]at k d f;have e:fX 32 (Nd.names t) (Nd.text t) l.reverse a=(mJ (a.getD 1 zU),0):=by simp[fX]
  rw[e];exact mT 32 zS M S _ _ _ _ _ _ _ _ v w c b off a.length cap n (by have:=N zS;omega) r s D C u A B _ F k d f
 ·obtain⟨b,off,cap,r,s,D,C,u,A,B,rfl,n,k,d,f,F,ok⟩:=L 1 (by have:=N zS;omega);simp only[Nat.one_mul]at k d f;have e:fX 33 (Nd.names t) (Nd.text t) l.reverse a=(kj 4 (a.getD 1 zU),0):=by simp[fX]
  rw[e];exact H6 M S _ _ _ _ _ _ _ _ v w c b off a.length cap n (by have:=N zS;omega) r s D C u A B _ F k d f
 ·obtain⟨b,off,cap,r,s,D,C,u,A,B,rfl,n,k,d,f,F,ok⟩:=L 0 (by have:=J zS;omega);simp only[Nat.zero_mul,Nat.add_zero]at k d f;have e:fX 34 (Nd.names t) (Nd.text t) l.reverse a=(mJ (a.getD 0 zU),0):=by simp[fX]
  rw[e];exact qy 34 zS M S _ _ _ _ _ _ _ _ v w c b off a.length cap n (by have:=J zS;omega) r s D C u A B _ F k d f
 ·obtain⟨b,off,cap,r,s,D,C,u,A,B,rfl,n,k,d,f,F,ok⟩:=L 1 (by have:=N zS;omega);simp only[Nat.one_mul]at k d f;have e:fX 35 (Nd.names t) (Nd.text t) l.reverse a=(mJ (a.getD 1 zU),0):=by simp[fX]
  rw[e];exact mT 35 zS M S _ _ _ _ _ _ _ _ v w c b off a.length cap n (by have:=N zS;omega) r s D C u A B _ F k d f
def mW(S:Nat->Prop)(M:Nat)(r:K (M+1)×Int×Nat)(w:Zw)(e:Ending)(w':Zw):Prop:=
 Bw w w' /\ ∃a d h g f c b,e=Zr (Zu #[Za #[Zi Zk a,Zs d h g,Zs f c b],Za #[Zi Zk r.2.1,Zi Zk (r.2.2:Nat)]])/\(r.2.1=0->a8 (Ov S w.heap.size Zn w') w' (M+1) r.1 (Zi Zk a) (Zs d h g) (Zs f c b)) /\
  (r.2.1≠0->a=0/\d=Zn/\h=0/\g=0/\f=Zn/\c=0/\b=0)
def E9(M m:Nat):Prop:=∀(S:Nat->Prop)(t:T m)(l:List (ByteArray×K (M+1)))(c0 c1 c2 c3 c4 v:Zv)(d:Nat)(a:Nat)(w:Zw),fZ S w m t c0 c1 c2 c3 c4->gM S w (M+1) l v->(Bd S w)->gD m t (d:Int)=true->pU m t<=35->l.length<=1048576+2*d->(∀p,p∈l->gV (M+1) p.2=true)->a+fJ m t<=1000 ->
 Calls prog 32 #[v,Za #[c0,c1,c2,c3,c4],Zi Zk (a:Int)] w (mW S M (jQ [] m t l.reverse a) w)
theorem Ge{op:Int}{names:List ByteArray}{i:Nat}{b:List (K (M+1))}{l:List (ByteArray×K (M+1))}(j:∀p,p∈l->gV (M+1) p.2=true)(n:∀x,x∈b->gV (M+1) x=true)(hi:b.length=i)(g:tw op names i b):∀p,p∈ik op names i b l->gV (M+1) p.2=true:=by
 have m:0<b.length->gV (M+1) (b.getD 0 zU)=true:=fun h=>by rw[gr h];exact n _ (Zg h)
 have r:1<b.length->gV (M+1) (b.getD 1 zU)=true:=fun h=>by rw[gr h];exact n _ (Zg h)
 have c:∀k:K (M+1),gV (M+1) k=true->Kd.sort k=6∨Kd.sort k=4->gV (M+1) (mN k)=true:=fun k ok t=>by
  obtain⟨x,q⟩:∃x,Kd.kids k=[x]:=by
   have d:fW (Kd.sort k) (Kd.names k) (Kd.kids k).length=true:=(ic (ie ok).1).2.1;unfold fW at d;refine List.length_eq_one_iff.1 ?_;rcases t with u|s;·rw[u]at d;simp at d;omega
   ·rw[s]at d;simp at d;omega
  have e:mN k=fQ M M x:=by unfold mN;rw[q]
  have f:=pn ok x (by rw[q];simp);have o:=pF M x;rw[e];unfold gV at f ⊢;rw[o.1,o.2.1];exact f
 intro p a;unfold ik at a;split at a
 ·next hc=>
  rcases List.mem_append.1 a with a|a;·exact j p a
  ·rw[List.mem_singleton]at a;subst a;exact m om
 ·split at a
  ·next hc=>
   rcases List.mem_append.1 a with a|a;·exact j p a
   ·rw[List.mem_singleton]at a;subst a;refine c _ (m om) ?_;rcases hc.1 with h|h|h|h;·exact .inl (g.may h hc.2)
    ·exact .inr (g.lst (.inl h) hc.2)
    ·exact .inr (g.lst (.inr (.inl h)) hc.2)
    ·exact .inr (g.lst (.inr (.inr h)) hc.2)
  ·split at a
   ·next hc=>
    rcases List.mem_append.1 a with a|a
    ·rcases List.mem_append.1 a with a|a;·exact j p a
     ·rw[List.mem_singleton]at a;subst a;exact r om
    ·rw[List.mem_singleton]at a;subst a;exact c _ (m om) (.inr (g.fld hc.1 hc.2))
   ·exact j p a
def Ih(M:Nat)(l:List (ByteArray×K (M+1)))(R:Nat->Prop)(r:K (M+1)×Int×Nat)(p X:Nat):List Jx:=[.any,.any,.any,.any,rj l R,.any,.any,.any,.any,.any,.any,.any,.any,.is (Zi Zk (p:Nat)),iS (r.2.1=0) r.1 r.2.1 r.2.2 R true,iS (r.2.1=0) r.1 r.2.1 r.2.2 R true,iS (r.2.1=0) r.1 r.2.1 r.2.2 R false,.is (Za #[Zi Zk r.2.1,Zi Zk (r.2.2:Nat)]),.box X (Zc #[Zi Zk 0,Zs Zn 0 0,Zs Zn 0 0] 31 (0,0)),.box X (Zc #[Zi Zk 0,Zi Zk 0] 33 (0,0))]
def Jj(j:Nat):Tmp:=[23,24,25,26,27,28,29,30,31,32,33,34,35,36,37,22,38,39,10,11].getD j 0
theorem vV(M m:Nat)(hM:5<=M)(hn:E9 M m):E9 M (m+1):=by
 intro S t l c0 c1 c2 c3 c4 v d z w ht hv hB hg ai dI cC dw;have ai:Nd.sort t<=35:=ai;simp only[gD,Bool.and_eq_true,decide_eq_true_eq,List.all_eq_true]at hg;obtain⟨⟨dF,hj⟩,bN⟩:=hg;have cK:=E0 hj ai;have aG:=ht;obtain⟨rfl,rfl,rfl,hs,db,df,h3,h4,⟨na,nl,nc,rfl,dz⟩,⟨ka,kl,kc,rfl,dt⟩⟩:=ht;obtain⟨_,_,dD,-⟩:=id h3;cases dD
 obtain⟨_,_,dr,-⟩:=id h4;cases dr
 have bj:1+b5 (fun k=>fJ m k) (Nd.kids t)+z<=1000:=by have:fJ (m+1) t=1+b5 (fun k=>fJ m k) (Nd.kids t):=rfl;omega
 have cL:=ou (Nd.kids t);obtain⟨W5,am⟩:∃W,W=(((w.alloc (Zc #[Zi Zk (Nd.sort t),Zi Zk (Nd.num t),Zt (Nd.text t),Zs na (Nd.names t).length nc,Zs ka (Nd.kids t).length kc] 40)).alloc (Zc #[Zi Zk 0,Zs Zn 0 0,Zs Zn 0 0] 31)).alloc (Zc #[Zi Zk 0,Zi Zk 0] 33)).alloc (Zc #[] 31):=⟨_,rfl⟩;have cj:Bw w W5:=by rw[am];exact (((gF _ _).alloc zS _).alloc zE _).alloc zE _
 have cT:W5.heap.size=w.heap.size+4:=by rw[am];simp
 have cB:W5.heap[w.heap.size]?=Zo (Zc #[Zi Zk (Nd.sort t),Zi Zk (Nd.num t),Zt (Nd.text t),Zs na (Nd.names t).length nc,Zs ka (Nd.kids t).length kc] 40 (0,0)):=by rw[am,Zh _ _ _ zE,Zh _ _ _ zE,Zh _ _ _ zS];exact heap_alloc_new _ _
 have cr:oR W5 (w.heap.size+1):=by rw[am];exact ((tH w (Zc #[Zi Zk (Nd.sort t),Zi Zk (Nd.num t),Zt (Nd.text t),Zs na (Nd.names t).length nc,Zs ka (Nd.kids t).length kc] 40)).alloc _).alloc _
 have bU:oS W5 (w.heap.size+1+1):=by have:=xy ((w.alloc (Zc #[Zi Zk (Nd.sort t),Zi Zk (Nd.num t),Zt (Nd.text t),Zs na (Nd.names t).length nc,Zs ka (Nd.kids t).length kc] 40)).alloc (Zc #[Zi Zk 0,Zs Zn 0 0,Zs Zn 0 0] 31));rw[am];exact oS.alloc (by simpa using this) _
 have aD:W5.heap[w.heap.size+3]?=Zo (Zc #[] 31 (0,0)):=by have:=heap_alloc_new (((w.alloc (Zc #[Zi Zk (Nd.sort t),Zi Zk (Nd.num t),Zt (Nd.text t),Zs na (Nd.names t).length nc,Zs ka (Nd.kids t).length kc] 40)).alloc (Zc #[Zi Zk 0,Zs Zn 0 0,Zs Zn 0 0] 31)).alloc (Zc #[Zi Zk 0,Zi Zk 0] 33)) (Zc #[] 31);rw[am];simpa using this
 have HB:Hid (Bd S w):=hB;have aM:Hid (∀V,Below (w.heap.size+3) W5 V->(V.cell? ⟨w.heap.size,0,Zn⟩=Zo (Zi Zk (Nd.sort t))/\V.cell? ⟨w.heap.size,1,Zn⟩=Zo (Zi Zk (Nd.num t))/\V.cell? ⟨w.heap.size,2,Zn⟩=Zo (Zt (Nd.text t))/\V.cell? ⟨w.heap.size,3,Zn⟩=Zo (Zs na (Nd.names t).length nc)/\V.cell? ⟨w.heap.size,4,Zn⟩=Zo (Zs ka (Nd.kids t).length kc))/\oR V (w.heap.size+1)/\oS V (w.heap.size+1+1)/\Bw w V):=fun V Q=>⟨gE ((Q.block w.heap.size om).trans cB),(Q.block (w.heap.size+1) om).trans cr,(Q.block (w.heap.size+1+1) om).trans bU,cj.trans (Q.mono om)⟩;have bb:=a7 aG;have HV:=a7 hv;have cV:=a7 h4;have dh:=a7 bN;have aY:=a7 cK;have de:=a7 cC;have bE:Hid (qG S (w.heap.size+3) M W5 (Zs (Zo ⟨w.heap.size+3,0,Zn⟩) 0 0) [] []):=⟨pu aD (Zl _),fun j h=>absurd h (Nat.not_lt_zero _)⟩;have dR:w.heap.size+4<=W5.heap.size:=Nat.le_of_eq cT.symm;have ao:=a7 bj;have dj:(Nd.kids t).length<=1000:=om;clear aG hv hB bN cK cC h3 h4 cB cr bU aD cj cT bj cL dz dt hs db df hj dw;go_in;go_wp2_with fail;rw[<- am];clear am;have hE:w.heap.size+1+1+1=w.heap.size+3:=rfl;go_loopw [8,9] (fun kv iv wr=>∃(j:Nat)(I:List (K (M+1)))(xs:List Zv),iv=Zi Zk j/\j<=(Nd.kids t).length/\xo [] m t l.reverse z j I/\qG S (w.heap.size+3) M wr kv I xs/\(∀x,x∈I->gV (M+1) x=true)/\Below (w.heap.size+3) W5 wr) (fun _ iv _=>(Nd.kids t).length-(intOf iv).toNat);case atStart=>exact⟨0,[],[],rfl,Nat.zero_le _,xo.start _ _ _ _ _,bE.out,fun x h=>(by cases h),Below.refl _ _⟩
 case round=>
  obtain⟨j,I,xs,rfl,dO,bL,bh,bk,aX⟩:=hrel;obtain⟨⟨q0,q1,q2,q3,q4⟩,qk,qf,bd⟩:=aM.out wr aX;have dG:=aX.size;have au:=a7 bL;have aa:=a7 bh;have an:=a7 bk;have bJ:=a7 aX;have C:=a7 bd;have ac:=bL.len;clear bL bh bk aX bd;by_cases H:j<(Nd.kids t).length
  ·obtain⟨_,_,dd,-,aP⟩:=cV.out;cases dd
   obtain⟨b,off,rfl,ds,aN⟩:=aP (by intro h;rw[h]at H;simp at H);obtain⟨z0,z1,z2,z3,z4,e0,e1,e2,e3,e4,bA⟩:=aN j H;obtain⟨y0,y1,y2,ya,yl,yc,za,zl,zc,rfl,rfl,rfl,rfl,rfl⟩:=bA.shape;have aO:=HB.out b ds;have f0:=kC C.out e0 aO;have f1:=kC C.out e1 aO;have f2:=kC C.out e2 aO;have f3:=kC C.out e3 aO;have f4:=kC C.out e4 aO;have cz:=a7 bA;obtain⟨ga,Y,gc,rfl,bH⟩:∃a n c,u8=Zs a n c/\I.length=n:=by rcases aa.out.own.2 with ⟨h,h0⟩|⟨g,cap,dU,h,-⟩<;>exact⟨_,_,_,h,by first|exact h0|rfl⟩
   have aV:=a7 bH;clear bH;obtain⟨r,hr⟩:=iw (nL [] m t l.reverse z j I (Nd.kids t)[j]);have HR:=a7 hr;have bR:(jQ [] m (Nd.kids t)[j] (ik (Nd.sort t) (Nd.names t) j I l).reverse (gp (Nd.kids t) j z))=r:=by rw[hr,<- D7];rfl
   have cF:=a7 (aY.out.bindOk ai au.out);have ar:w.heap.size+3<=wr.heap.size:=om;have aj:∀b,S b->b<w.heap.size+3:=fun b s=>by have:=HB.out b s;omega
   have bC:∀b,Ov S (w.heap.size+3) (Value.slice ga Y gc).ownBlock wr b->b<wr.heap.size:=Ov.lt aj ar;have aK:∀b,Ov S (w.heap.size+3) Zn wr b->b<wr.heap.size:=Ov.lt aj ar;have bi:gp (Nd.kids t) j z+fJ m (Nd.kids t)[j]<=1000:=by have h1:=oL (Nd.kids t) (j+1);rw[fY _ _ _ H]at h1;have:=ao.out;unfold gp;omega
   have av:=sJ (aY.out.kid j H);have aQ:=dh.out _ (Zg H);have aC:Hid (∀V,Bw wr V->V.cell? ⟨w.heap.size,0,Zn⟩=Zo (Zi Zk (Nd.sort t))/\V.cell? ⟨w.heap.size,1,Zn⟩=Zo (Zi Zk (Nd.num t))/\V.cell? ⟨w.heap.size,2,Zn⟩=Zo (Zt (Nd.text t))/\V.cell? ⟨w.heap.size,3,Zn⟩=Zo (Zs na (Nd.names t).length nc)/\V.cell? ⟨w.heap.size,4,Zn⟩=Zo (Zs (Zo ⟨b,off,Zn⟩) (Nd.kids t).length kc)/\V.cell? ⟨b,off+j*5,Zn⟩=Zo (Zi Zk y0)/\V.cell? ⟨b,off+j*5+1,Zn⟩=Zo (Zi Zk y1)/\V.cell? ⟨b,off+j*5+2,Zn⟩=Zo (Zt y2)/\V.cell? ⟨b,off+j*5+3,Zn⟩=Zo (Zs ya yl yc)/\V.cell? ⟨b,off+j*5+4,Zn⟩=Zo (Zs za zl zc)):=fun V Q=>⟨kC Q q0 om,kC Q q1 om,kC Q q2 om,kC Q q3 om,kC Q q4 om,kC Q f0 om,kC Q f1 om,kC Q f2 om,kC Q f3 om,kC Q f4 om⟩;have HA:Hid (∀V,Bw wr V->Calls prog 74 #[v,Za #[Zi Zk (Nd.sort t),Zi Zk (Nd.num t),Zt (Nd.text t),Zs na (Nd.names t).length nc,Zs (Zo ⟨b,off,Zn⟩) (Nd.kids t).length kc],Zi Zk (j:Int),(Zs ga Y gc)] V fun e y=>∃v1,e=Zr v1/\Bw V y/\gM (Ov (Ov S (w.heap.size+3) (Value.slice ga Y gc).ownBlock wr) V.heap.size Zn y) y (M+1) (ik (Nd.sort t) (Nd.names t) j I l) v1):=fun V Q=>by have aw:=C.out.trans (Q.mono C.out.size);refine (yN M m (Ov S (w.heap.size+3) (Value.slice ga Y gc).ownBlock wr) (Ov S (w.heap.size+3) Zn wr) t l I j _ _ _ _ _ v (Zs ga Y gc) V (bb.out.keep (a6 aw HB.out) fun _ h=>.inl h) (HV.out.keep (a6 aw HB.out) fun _ h=>.inl h) ((aa.out.row2 (by rw[ac];unfold maxLen;omega)).keep (a6 Q aK) (fun _ h=>h) fun x _ _ _ _ A=>A.keep (a6 Q bC) fun _ h=>h) (fun b s=>Zd (bC b s) Q.size) (fun b s=>Zd (aK b s) Q.size) om ac an.out cF.out).mono ?_;rintro e y ⟨bt,v1,rfl,bG⟩;exact⟨v1,rfl,bt,bG⟩
   have bp:Hid (∀V,Bw wr V->Calls prog 75 #[Za #[Zi Zk (Nd.sort t),Zi Zk (Nd.num t),Zt (Nd.text t),Zs na (Nd.names t).length nc,Zs (Zo ⟨b,off,Zn⟩) (Nd.kids t).length kc],Zi Zk (j:Int),Zi Zk (z:Int)] V fun e y=>e=Zr (Zi Zk (gp (Nd.kids t) j z:Nat))/\Bw V y):=fun V Q=>by have aw:=C.out.trans (Q.mono C.out.size);exact pG m S t _ _ _ _ _ j z V (bb.out.keep (a6 aw HB.out) fun _ h=>h) (fun b s=>Zd (HB.out b s) aw.size) (by have:=ao.out;show 1+b5 (fun k=>fJ m k) (Nd.kids t)<=_;omega) om (by have:=ao.out;omega)
   have HC:Hid (∀V v1 (R:Nat->Prop),Bw wr V->(Bd R V)->(∀b,S b->R b)->gM R V (M+1) (ik (Nd.sort t) (Nd.names t) j I l) v1->Calls prog 32 #[v1,Za #[Zi Zk y0,Zi Zk y1,Zt y2,Zs ya yl yc,Zs za zl zc],Zi Zk (gp (Nd.kids t) j z:Nat)] V fun e y=>∃d0 da dl dc ea el ec,e=Zr (Zu #[Za #[Zi Zk d0,Zs da dl dc,Zs ea el ec],Za #[Zi Zk r.2.1,Zi Zk (r.2.2:Nat)]])/\Bw V y/\(r.2.1=0->a8 (Ov R V.heap.size Zn y) y (M+1) r.1 (Zi Zk d0) (Zs da dl dc) (Zs ea el ec))):=fun V v1 R Q hR dE bG=>by have aw:=C.out.trans (Q.mono C.out.size);refine (hn R (Nd.kids t)[j] (ik (Nd.sort t) (Nd.names t) j I l) _ _ _ _ _ v1 (d+1) (gp (Nd.kids t) j z) V (cz.out.keep (a6 aw HB.out) dE) bG hR (by simpa using aQ) av.2 (by have:=Da (Nd.sort t) (Nd.names t) j I l;omega) (Ge de.out an.out ac cF.out) bi).mono ?_;rintro e y ⟨bt,d0,da,dl,dc,ea,el,ec,rfl,hk,-⟩;rw[bR]at hk ⊢;exact⟨d0,da,dl,dc,ea,el,ec,rfl,bt,hk⟩
   have HQ:Hid (∀b,(Ov S (w.heap.size+3) (Value.slice ga Y gc).ownBlock wr) b∨wr.heap.size<=b->S b∨(w.heap.size+3<=b/\(Value.slice ga Y gc).ownBlock≠Zo b)):=fun b s=>by
    have az:=kw aa.out.own;rcases s with (s|s)|s;·exact .inl s
    ·exact .inr ⟨s.1,s.2.2⟩
    ·exact .inr ⟨om,fun e=>by have:=az b e;omega⟩
   have ag:Hid ((∀b,S b->(Ov S (w.heap.size+3) (Value.slice ga Y gc).ownBlock wr) b)/\∀b,(Ov S (w.heap.size+3) (Value.slice ga Y gc).ownBlock wr) b->b<wr.heap.size):=⟨fun _ h=>.inl h,bC⟩;have bM:Bw wr wr.drew:=(Below.refl _ _).drew;have dH:(j:Int)<((Nd.kids t).length:Int):=om;clear e0 e1 e2 e3 e4 bA aP aN aQ bi bR hr;go_upto_region 5 with fail;go_cut [10,11] from 15 to 61 (fun pk pf wx=>∃nk nf,pk=Zp (Zo ⟨nk,0,Zn⟩)/\pf=Zp (Zo ⟨nf,0,Zn⟩)/\IZ S (w.heap.size+3) M (Value.slice ga Y gc).ownBlock wr r nk nf wx);case first=>
    refine wp_region_held_drew (S:=(fun w'=>w'.cell? ⟨w.heap.size,0,Zn⟩=Zo (Zi Zk (Nd.sort t))/\w'.cell? ⟨w.heap.size,1,Zn⟩=Zo (Zi Zk (Nd.num t))/\w'.cell? ⟨w.heap.size,2,Zn⟩=Zo (Zt (Nd.text t))/\w'.cell? ⟨w.heap.size,3,Zn⟩=Zo (Zs na (Nd.names t).length nc)/\w'.cell? ⟨w.heap.size,4,Zn⟩=Zo (Zs (Zo ⟨b,off,Zn⟩) (Nd.kids t).length kc)/\w'.cell? ⟨b,off+j*5,Zn⟩=Zo (Zi Zk y0)/\w'.cell? ⟨b,off+j*5+1,Zn⟩=Zo (Zi Zk y1)/\w'.cell? ⟨b,off+j*5+2,Zn⟩=Zo (Zt y2)/\w'.cell? ⟨b,off+j*5+3,Zn⟩=Zo (Zs ya yl yc)/\w'.cell? ⟨b,off+j*5+4,Zn⟩=Zo (Zs za zl zc))) zK (by exact⟨q0,q1,q2,q3,q4,f0,f1,f2,f3,f4⟩) (fun hHeld=>?_);refine tk 0 ?_;refine tk 1 ?_;refine tk 2 ?_;refine tk 3 ?_;refine tk 5 ?_;refine tk 6 ?_;refine tk 7 ?_;refine tk 8 ?_;refine tk 9 ?_;refine tk 10 ?_;refine tk 11 ?_;refine tk 12 ?_;have sd:wr.heap.size<=wr.drew.heap.size:=Zl _;generalize wr.drew=V0 at *;have HW:Hid (∀W,Bw V0 W->Bw wr W):=fun W h=>bM.trans (h.mono bM.size);obtain⟨R,bB⟩:∃R:Nat->Prop,R=fun b=>(Ov S (w.heap.size+3) (Value.slice ga Y gc).ownBlock wr) b∨wr.heap.size<=b:=⟨_,rfl⟩;have bg:∀b,R b->(Ov S (w.heap.size+3) (Value.slice ga Y gc).ownBlock wr) b∨wr.heap.size<=b:=by rw[bB];exact fun _ h=>h
    have aA:∀b,(Ov S (w.heap.size+3) (Value.slice ga Y gc).ownBlock wr) b∨wr.heap.size<=b->R b:=by rw[bB];exact fun _ h=>h
    have cl:=a7 bg;clear bB bg;refine qP 20 2 17 [4,13,14,15,16,17,18,19] (fun i=>((Ih M (ik (Nd.sort t) (Nd.names t) j I l) R r (gp (Nd.kids t) j z) V0.heap.size).getD i .any).p) Jj (qx (E:=2) zK zK) (sG zK) zK 84 zK zK (fun i v B B' W W' h O=>((Ih M (ik (Nd.sort t) (Nd.names t) j I l) R r (gp (Nd.kids t) j z) V0.heap.size).getD i .any).on h O) (fun W h=>aC.out W (HW.out W h)) zK zK zK zC zK zK zK zK ?step (by intro o ho;cases ho;exact fun _ _ _ _ h=>h) ?finL ?finA;case step=>
     refine Zm.2 ⟨?_,Zm.2 ⟨?_,Zm.2 ⟨?_,Zm.2 ⟨?_,Zm.2 ⟨?_,Zm.2 ⟨?_,Zm.2 ⟨?_,Zm.2 ⟨?_,fun _ h=>(by cases h)⟩⟩⟩⟩⟩⟩⟩⟩;all_goals (intro o ho;cases ho;intro a B W O hd;have ae:=HW.out W O.below;have cH:=O.below.size)
     ·have g0:a.tmps.getD 23 undef=v:=(O.fr 23 zC).trans zK;have g1:a.tmps.getD 24 undef=Za #[Zi Zk (Nd.sort t),Zi Zk (Nd.num t),Zt (Nd.text t),Zs na (Nd.names t).length nc,Zs (Zo ⟨b,off,Zn⟩) (Nd.kids t).length kc]:=(O.fr 24 zC).trans zK;have g2:a.tmps.getD 25 undef=Zi Zk (j:Int):=(O.fr 25 zC).trans zK;have g3:a.tmps.getD 26 undef=Zs ga Y gc:=(O.fr 26 zC).trans zK;refine lJ (J:=rj (ik (Nd.sort t) (Nd.names t) j I l) R) rfl (args:=#[v,Za #[Zi Zk (Nd.sort t),Zi Zk (Nd.num t),Zt (Nd.text t),Zs na (Nd.names t).length nc,Zs (Zo ⟨b,off,Zn⟩) (Nd.kids t).length kc],Zi Zk (j:Int),Zs ga Y gc]) (by simp[Act.eval,g0,g1,g2,g3]) (Tryz.call74 _ _) ((HA.out W ae).mono ?_);rintro e y ⟨v1,rfl,h2,h3⟩;refine⟨v1,rfl,h2,h3.keep (fun _ _=>rfl) fun b s=>?_,fun b s=>?_⟩
      ·rcases s with s|s;·exact⟨.inl (O.old b (by have:=ag.out.2 b s;omega)),aA b (.inl s)⟩
       ·exact⟨.inr ⟨s.1,s.2.1⟩,aA b (.inr om)⟩
      ·have:=h2.size;rcases s with s|s;·have:=O.lt b s;omega
       ·exact s.2
     ·have g0:a.tmps.getD 33 undef=Za #[Zi Zk (Nd.sort t),Zi Zk (Nd.num t),Zt (Nd.text t),Zs na (Nd.names t).length nc,Zs (Zo ⟨b,off,Zn⟩) (Nd.kids t).length kc]:=(O.fr 33 zC).trans zK;have g1:a.tmps.getD 34 undef=Zi Zk (j:Int):=(O.fr 34 zC).trans zK;have g2:a.tmps.getD 35 undef=Zi Zk (z:Int):=(O.fr 35 zC).trans zK;refine lJ (J:=.is (Zi Zk (gp (Nd.kids t) j z:Nat))) rfl (args:=#[Za #[Zi Zk (Nd.sort t),Zi Zk (Nd.num t),Zt (Nd.text t),Zs na (Nd.names t).length nc,Zs (Zo ⟨b,off,Zn⟩) (Nd.kids t).length kc],Zi Zk (j:Int),Zi Zk (z:Int)]) (by simp[Act.eval,g0,g1,g2]) (Tryz.call75 _ _) ((bp.out W ae).mono ?_);rintro e y ⟨rfl,h2⟩;exact⟨_,rfl,h2,rfl⟩
     ·obtain⟨hv,-⟩:(rj (ik (Nd.sort t) (Nd.names t) j I l) R).p (a.tmps.getD 27 undef) B W:=hd { on:=4,ground:=.data } (Array.mem_of_getElem? (i:=0) rfl) rfl zC;have g2:a.tmps.getD 36 undef=Zi Zk (gp (Nd.kids t) j z:Nat):=hd { on:=13,ground:=.data } (Array.mem_of_getElem? (i:=2) rfl) rfl zC;have g1:a.tmps.getD 32 undef=Za #[Zi Zk y0,Zi Zk y1,Zt y2,Zs ya yl yc,Zs za zl zc]:=(O.fr 32 zC).trans zK;obtain⟨v1,g0⟩:∃x,a.tmps.getD 27 undef=x:=⟨_,rfl⟩;rw[g0]at hv;refine lJ (J:=iS (r.2.1=0) r.1 r.2.1 r.2.2 R true) rfl (args:=#[v1,Za #[Zi Zk y0,Zi Zk y1,Zt y2,Zs ya yl yc,Zs za zl zc],Zi Zk (gp (Nd.kids t) j z:Nat)]) (by simp[Act.eval,g0,g1,g2]) (Tryz.call32 _ _) ((HC.out W v1 (fun b=>B b/\R b) ae (fun b s=>O.lt b s.1) (fun b s=>⟨O.old b (by have:=ag.out.2 b (ag.out.1 b s);omega),aA b (.inl (ag.out.1 b s))⟩) hv).mono ?_);rintro e y ⟨d0,da,dl,dc,ea,el,ec,rfl,h2,h3⟩;refine⟨_,rfl,h2,d0,da,dl,dc,ea,el,ec,rfl,fun h=>(h3 h).keep (fun _ _=>rfl) fun b s=>?_,fun b s=>?_⟩
      ·rcases s with s|s;·exact⟨.inl s.1,s.2⟩
       ·exact⟨.inr ⟨s.1,s.2.1⟩,aA b (.inr om)⟩
      ·have:=h2.size;rcases s with s|s;·have:=O.lt b s;omega
       ·exact s.2
     ·exact vO (J:=iS (r.2.1=0) r.1 r.2.1 r.2.2 R true) rfl rfl (hd { on:=14,ground:=.data } (Array.mem_of_getElem? (i:=0) rfl) rfl zC)
     ·obtain⟨d0,da,dl,dc,ea,el,ec,g0,h2,h3⟩:(iS (r.2.1=0) r.1 r.2.1 r.2.2 R true).p (a.tmps.getD 22 undef) B W:=hd { on:=15,ground:=.data } (Array.mem_of_getElem? (i:=0) rfl) rfl zC;exact kO (J:=iS (r.2.1=0) r.1 r.2.1 r.2.2 R false) rfl g0 (fun W=>zK) ⟨d0,da,dl,dc,ea,el,ec,rfl,h2,h3⟩
     ·obtain⟨d0,da,dl,dc,ea,el,ec,g0,h2,h3⟩:(iS (r.2.1=0) r.1 r.2.1 r.2.2 R true).p (a.tmps.getD 22 undef) B W:=hd { on:=15,ground:=.data } (Array.mem_of_getElem? (i:=0) rfl) rfl zC;exact kO (J:=.is (Za #[Zi Zk r.2.1,Zi Zk (r.2.2:Nat)])) rfl g0 (fun W=>zK) rfl
     ·exact mP (fun W=>zK) cH O.lt
     ·exact mP (fun W=>zK) cH O.lt
    case finL=>
     intro o ho a B W O hj;cases ho
     obtain⟨d0,da,dl,dc,ea,el,ec,g0,-⟩:(iS (r.2.1=0) r.1 r.2.1 r.2.2 R true).p (a.tmps.getD 22 undef) B W:=hj 15 zC zC;exact⟨Za #[Zi Zk r.2.1,Zi Zk (r.2.2:Nat)],xp rfl g0 (fun W=>zK),rfl⟩
    case finA=>
     intro f a B W O hj;have ae:=HW.out W O.below;have hz:a.tmps.size=84:=O.size.trans zK;obtain⟨d0,da,dl,dc,ea,el,ec,co,af,H⟩:(iS (r.2.1=0) r.1 r.2.1 r.2.2 R true).p (a.tmps.getD 22 undef) B W:=hj 15 zC;obtain⟨bI,bD,bx,bq,bl,bv,bz,cb,af,-⟩:(iS (r.2.1=0) r.1 r.2.1 r.2.2 R false).p (a.tmps.getD 38 undef) B W:=hj 16 zC;have cM:a.tmps.getD 39 undef=Za #[Zi Zk r.2.1,Zi Zk (r.2.2:Nat)]:=hj 17 zC;obtain⟨nk,ch,dT,ak,cE⟩:(Jx.box V0.heap.size (Zc #[Zi Zk 0,Zs Zn 0 0,Zs Zn 0 0] 31 (0,0))).p (a.tmps.getD 10 undef) B W:=hj 18 zC;obtain⟨nf,cy,dL,aS,cq⟩:(Jx.box V0.heap.size (Zc #[Zi Zk 0,Zi Zk 0] 33 (0,0))).p (a.tmps.getD 11 undef) B W:=hj 19 zC;obtain⟨di,bW⟩:∃x,a.tmps.getD 27 undef=x:=⟨_,rfl⟩;obtain⟨dC,cu⟩:∃x,a.tmps.getD 36 undef=x:=⟨_,rfl⟩;obtain⟨cZ,ct⟩:∃x,a.tmps.getD 37 undef=x:=⟨_,rfl⟩;have ha:=s5 O [(27,di),(36,dC),(37,cZ),(22,Zu #[Za #[Zi Zk d0,Zs da dl dc,Zs ea el ec],Za #[Zi Zk r.2.1,Zi Zk (r.2.2:Nat)]]),(38,Za #[Zi Zk bI,Zs bD bx bq,Zs bl bv bz]),(39,Za #[Zi Zk r.2.1,Zi Zk (r.2.2:Nat)]),(10,Zp (Zo ⟨nk,0,Zn⟩)),(11,Zp (Zo ⟨nf,0,Zn⟩))] rfl hz zC (Zm.2 ⟨bW,Zm.2 ⟨cu,Zm.2 ⟨ct,Zm.2 ⟨co,Zm.2 ⟨cb,Zm.2 ⟨cM,Zm.2 ⟨ch,Zm.2 ⟨cy,fun _ h=>(by cases h)⟩⟩⟩⟩⟩⟩⟩⟩);clear hz bW cu ct co cb cM ch cy;have HG:=Lib.hid (Eu (S:=S) (X:=w.heap.size+3) (o:=(Value.slice ga Y gc).ownBlock) ae af ak aS om om (fun b s=>⟨fun e=>cE (e ▸ s.1),fun e=>cq (e ▸ s.1),H b s.1,HQ.out b (cl.out b s.2)⟩));obtain⟨⟨r0,r1,r2⟩,g0,g1,g2⟩:=fM ak;obtain⟨⟨s0,s1⟩,h0,h1⟩:=gC aS;have bw:¬nf=nk:=fun e=>by subst e;have h1:_=_:=ak.symm.trans aS;cases h1
     have cX:=Lib.hid (aC.out _ (gN (g0:=Zi Zk bI) (g1:=Zs bD bx bq) (g2:=Zs bl bv bz) ae (show wr.heap.size<=nk by omega)));have dk:=Lib.hid (aC.out _ (iE (u:=Zi Zk r.2.1) (v:=Zi Zk (r.2.2:Nat)) (gN (g0:=Zi Zk bI) (g1:=Zs bD bx bq) (g2:=Zs bl bv bz) ae (show wr.heap.size<=nk by omega)) (show wr.heap.size<=nf by omega)));have hHeld:=aC.out W ae;clear HA bp HC HQ aC ae af ak aS cE cq H O hj HW cl;subst ha;simp only[List.foldl_cons,List.foldl_nil];refine iT 20 fun K hK=>?_;go_simp;refine hK.out _ _ cX.out (fun hHeld=>?_);clear hK K;refine iT 21 fun K hK=>?_;go_simp;refine hK.out _ _ dk.out (fun hHeld=>?_);clear hK K;refine wpAnyH_done zK ?_ _;go_simp;go_wp2;go_meet;exact⟨nk,nf,rfl,rfl,HG.out⟩
   case rest=>
    obtain⟨nk,nf,rfl,rfl,hG⟩:=hcut;obtain⟨Wx,cQ⟩:∃V,V=wc:=⟨_,rfl⟩;rw[<- cQ]at hG ⊢;have bu:=bJ.out.trans (hG.below.mono ar);have dS:=hG.below.size;clear q0 q1 q2 q3 q4 qk qf f0 f1 f2 f3 f4 cQ aC HA bp HC HQ ag bM;obtain⟨⟨q0,q1,q2,q3,q4⟩,qk,qf,bf⟩:=aM.out Wx bu;obtain⟨d0,da,dl,dc,ea,el,ec,aZ,af⟩:=hG.val;obtain⟨⟨k0,k1,k2⟩,-⟩:=fM aZ;obtain⟨⟨t0,t1⟩,-⟩:=gC hG.flt;have bN:=hG.gk;have ce:=a7 aZ;have dm:nk<Wx.heap.size:=(Array.getElem?_eq_some_iff.1 aZ).1;have dM:=hG.gf;have bK:=a7 af;have cW:=a7 bu;have cd:=a7 bf;have cO:=a7 (aa.out.keep aj ar hG.below);clear hG bu bf af aZ;have br:w.heap.size+1<Wx.heap.size:=qk.lt;by_cases ad:r.2.1=0
    ·have cn:1<=m:=by
      have h1:=av.1;cases m with
      | zero=>exact absurd h1 (by show ¬(1:Int)<=0;omega)
      | succ m=>omega
     have bo:gV (M+1) r.1=true:=by have:=pw (M:=M) hM (sn:=[]) (env:=mu (Nd.sort t) (Nd.names t) j I l.reverse) (pl:=gp (Nd.kids t) j z) av.2 (by have:=HR.out;unfold nL at this;rw[<- this];exact ad) cn;have ci:=HR.out;unfold nL at ci;rw[<- ci]at this;exact this
     have cP:(ly ([]:wD M) (show Nd (T m) from t)).getD zU=zU:=by unfold ly;split<;>rfl
     have bF:∀b,Ov S (w.heap.size+3) Zn Wx b->b<Wx.heap.size:=Ov.lt aj om;have HW:Hid (Calls prog 76 #[Zi Zk (Nd.sort t),Zi Zk (j:Int),Za #[Zi Zk d0,Zs da dl dc,Zs ea el ec],Zs ga Y gc] Wx fun e w'=>e=Zr (.bool (b9 (Nd.sort t) zU j r.1 I))/\Bw Wx w'):=
      zu M (Ov S (w.heap.size+3) Zn Wx) (Nd.sort t) j r.1 I _ _ _ _ Wx ((bK.out ad).keep (fun _ _=>rfl) fun x A=>by
       rcases A with A|A
       ·exact .inl A
       ·exact .inr ⟨A.1,A.2.1,zS⟩) (cO.out.row (by rw[ac];unfold maxLen;omega)) bF bo an.out ac (aY.out.wantOp ai j H) (fun ho dQ=>by
       have h0:=oJ au.out 0 om
       rw[ho]at h0
       simpa [b9] using h0)
     have dB:=a7 (bK.out ad);have dx:=a7 bo;have cD:=a7 cP;have dP:=a7 bF;have bX:Hid ((nL [] m t l.reverse z j I (Nd.kids t)[j]).2.1=0):=by show _=_;rw[<- HR.out];exact ad
     generalize cI:b9 (Nd.sort t) zU j r.1 I=wb at *;have cA:=a7 cI;rw[ad]at t0;clear cI bo cP bF cn bK;go_wp2_with fail;refine HW.out.mono ?_;rintro e U ⟨rfl,ah⟩;have cw:=ah.size;have ab:=cW.out.trans (ah.mono om);have cv:=(ah.block nk dm).trans ce.out;clear q0 q1 q2 q3 q4 qk qf k0 k1 k2 t0 t1;obtain⟨⟨q0,q1,q2,q3,q4⟩,qk,qf,al⟩:=aM.out U ab;obtain⟨⟨k0,k1,k2⟩,-⟩:=fM cv;have bP:=a7 ah;have cR:=a7 ab;have L:=a7 al;clear ah ab al cv HW;cases wb with
     | false=>
      have aL:jQ [] (m+1) t l.reverse z=(zU,6,gp (Nd.kids t) j z):=by have h1:jx [] m t l.reverse z=([],6,gp (Nd.kids t) j z):=au.out.wrong H bX.out (by rw[cD.out,<- HR.out];exact cA.out);rw[lm ai,h1];exact if_pos (show (6:Int)≠0 by decide)
      have Z:=a7 aL;have dq:Hid (Calls prog 75 #[Za #[Zi Zk (Nd.sort t),Zi Zk (Nd.num t),Zt (Nd.text t),Zs na (Nd.names t).length nc,Zs (Zo ⟨b,off,Zn⟩) (Nd.kids t).length kc],Zi Zk (j:Int),Zi Zk (z:Int)] U fun e w'=>e=Zr (Zi Zk (gp (Nd.kids t) j z:Nat))/\Bw U w'):=
       pG m S t _ _ _ _ _ j z U (bb.out.keep (a6 L.out HB.out) fun _ h=>h) (fun b s=>Zd (HB.out b s) L.out.size) (by have:=ao.out;show 1+b5 (fun k=>fJ m k) (Nd.kids t)<=_;omega) om (by have:=ao.out;omega)
      clear aL;go_wp2_with fail;refine dq.out.mono ?_;rintro e w3 ⟨rfl,F⟩;have N:=L.out.trans (F.mono L.out.size);obtain⟨⟨r0,r1,r2⟩,g0,g1,g2⟩:=fM ((F.block _ qk.lt).trans qk);obtain⟨⟨s0,s1⟩,h0,h1⟩:=gC ((F.block _ qf.lt).trans qf);have HF:Hid (mW S M ((zU:K (M+1)),(6:Int),gp (Nd.kids t) j z) w (Zr (Zu #[Za #[Zi Zk 0,Zs Zn 0 0,Zs Zn 0 0],Za #[Zi Zk 6,Zi Zk (gp (Nd.kids t) j z:Nat)]])) (((((w3.setCell ⟨w.heap.size+1,0,Zn⟩ (Zi Zk 0)).setCell ⟨w.heap.size+1,1,Zn⟩ (Zs Zn 0 0)).setCell ⟨w.heap.size+1,2,Zn⟩ (Zs Zn 0 0)).setCell ⟨w.heap.size+1+1,0,Zn⟩ (Zi Zk 6)).setCell ⟨w.heap.size+1+1,1,Zn⟩ (Zi Zk (gp (Nd.kids t) j z:Nat)))):=
       ⟨iE (gN N om) om,_,_,_,_,_,_,_,rfl,fun h=>absurd h (by show ¬(6:Int)=0;decide),fun _=>⟨rfl,rfl,rfl,rfl,rfl,rfl,rfl⟩⟩
      clear F N qk qf q0 q1 q2 q3 q4 k0 k1 k2;go_wp2_with fail;refine bodyPost_ret (v:=Zu #[Za #[Zi Zk 0,Zs Zn 0 0,Zs Zn 0 0],Za #[Zi Zk 6,Zi Zk (gp (Nd.kids t) j z:Nat)]]) (by simp[results,results32,go_sem,r0,r1,r2,s0,s1]) rfl ?_;rw[Z.out];exact HF.out
     | true=>
      have dg:=a7 (au.out.next H bX.out (by rw[cD.out,<- HR.out];exact cA.out));have aI:=cO.out.keep aj om bP.out;have bc:a8 (Ov S (w.heap.size+3) (Value.slice ga Y gc).ownBlock U) U (M+1) r.1 (Zi Zk d0) (Zs da dl dc) (Zs ea el ec):=dB.out.keep (fun x A=>bP.out.block x (Ov.lt aj om x A)) fun x A=>by
       rcases A with A|A;·exact .inl A
       ·exact .inr ⟨A.1,by have:=A.2.1;omega,A.2.2⟩
      have dy:=a7 bc;have cx:=a7 aI;have bZ:Hid (U.ownsRow (w.heap.size+3) 31 3 (Zs ga Y gc) Y xs):=by have:=aI.own;rw[aV.out]at this;exact this
      obtain⟨du,bQ,bS,cS,bT⟩:=info_parts Tryz.info_kindD;have ba:Hid (_/\_/\_/\_):=⟨bQ,bS,cS,bT⟩;have bH:Y<=1000:=by have:=aV.out;omega
      clear bQ bS cS bT aI bc qk qf q0 q1 q2 q3 q4;go_wp2_with (at_builtin;refine wpList_append_lies _ rfl (.tmp 58) (.tmp 60) 29 rfl (w.heap.size+3) 31 du _ 3 56 underlying29 ba.out.1 ba.out.2.1 ba.out.2.2.1 ba.out.2.2.2 rfl zC (Zs ga Y gc) Y xs rfl (bZ.out.alloc _) ⟨U.heap.size,0,Zn⟩ 1 1 [Zi Zk d0,Zs da dl dc,Zs ea el ec] rfl rfl (World.news_of_block (heap_alloc_new U _)) (by simp[Value.oneCell']) zC (by unfold maxLen;omega) om zE (U.heap.size+1) zS ?_;intro g cap w3 az ay cG bV;refine Hid.out ?_);refine Lib.hid ?_;have ax:=qG.more (g:=g) (cap:=cap) (one:=Zc #[Zi Zk d0,Zs da dl dc,Zs ea el ec] 31) (Wa:=U.alloc (Zc #[Zi Zk d0,Zs da dl dc,Zs ea el ec] 31)) cx.out aj om dy.out rfl (by rw[aV.out];exact az) ay cG;rw[aV.out]at ax;have dp:=a7 ax;have cJ:Hid (Below (w.heap.size+3) W5 w3):=(cR.out.alloc om (Zc #[Zi Zk d0,Zs da dl dc,Zs ea el ec] 31)).grown ay zE (fun q hq=>(kw bZ.out q hq).1);clear az ay cG bV ax k0 k1 k2;go_wp2;go_roundw;case rel=>
       refine⟨j+1,I++[r.1],_,by go_num,om,?_,dp.out,fun x A=>?_,cJ.out⟩;·have:=dg.out;rw[<- HR.out]at this;exact this
       ·rcases List.mem_append.1 A with A|A;·exact an.out x A
        ·rw[List.mem_singleton]at A;subst A;exact dx.out
      case measure=>simp[intOf];omega
    ·have dA:(r.2.1==0)=false:=by simpa using ad
     have aL:jQ [] (m+1) t l.reverse z=(zU,r.2):=by
      have h1:jx [] m t l.reverse z=([],r.2):=by have:=au.out.bad H (by rw[<- HR.out];exact ad);rw[<- HR.out]at this;exact this
      rw[lm ai,h1];exact if_pos ad
     have Z:=a7 aL;have HF:Hid (mW S M ((zU:K (M+1)),r.2) w (Zr (Zu #[Za #[Zi Zk 0,Zs Zn 0 0,Zs Zn 0 0],Za #[Zi Zk r.2.1,Zi Zk (r.2.2:Nat)]])) (((((Wx.drew.setCell ⟨w.heap.size+1,0,Zn⟩ (Zi Zk 0)).setCell ⟨w.heap.size+1,1,Zn⟩ (Zs Zn 0 0)).setCell ⟨w.heap.size+1,2,Zn⟩ (Zs Zn 0 0)).setCell ⟨w.heap.size+1+1,0,Zn⟩ (Zi Zk r.2.1)).setCell ⟨w.heap.size+1+1,1,Zn⟩ (Zi Zk (r.2.2:Nat)))):=
      ⟨iE (gN cd.out.drew om) om,_,_,_,_,_,_,_,rfl,fun h=>absurd h ad,fun _=>⟨rfl,rfl,rfl,rfl,rfl,rfl,rfl⟩⟩
     obtain⟨⟨r0,r1,r2⟩,g0,g1,g2⟩:=fM (show Wx.drew.heap[w.heap.size+1]?=_ from qk);obtain⟨⟨s0,s1⟩,h0,h1⟩:=gC (show Wx.drew.heap[w.heap.size+1+1]?=_ from qf);clear aL;go_upto_region 7 with fail;refine wp_region_held_drew (S:=(fun w'=>w'.cell? ⟨nf,0,Zn⟩=Zo (Zi Zk r.2.1)/\w'.cell? ⟨nf,1,Zn⟩=Zo (Zi Zk (r.2.2:Nat)))) zK (by exact⟨t0,t1⟩) (fun hHeld=>?_);refine tk 0 ?_;refine tk 1 ?_;have t0:Wx.drew.cell? ⟨nf,0,Zn⟩=Zo (Zi Zk r.2.1):=t0;have t1:Wx.drew.cell? ⟨nf,1,Zn⟩=Zo (Zi Zk (r.2.2:Nat)):=t1;generalize Wx.drew=Wd at *;refine iT 2 fun K hK=>?_;go_simp;have ag:Hid ((((Wd.setCell ⟨w.heap.size+1,0,Zn⟩ (Zi Zk 0)).setCell ⟨w.heap.size+1,1,Zn⟩ (Zs Zn 0 0)).setCell ⟨w.heap.size+1,2,Zn⟩ (Zs Zn 0 0)).cell? ⟨nf,0,Zn⟩=Zo (Zi Zk r.2.1)/\(((Wd.setCell ⟨w.heap.size+1,0,Zn⟩ (Zi Zk 0)).setCell ⟨w.heap.size+1,1,Zn⟩ (Zs Zn 0 0)).setCell ⟨w.heap.size+1,2,Zn⟩ (Zs Zn 0 0)).cell? ⟨nf,1,Zn⟩=Zo (Zi Zk (r.2.2:Nat))):=⟨(World.cell?_of_block (a:=⟨nf,0,Zn⟩) (gi (by show nf≠_;omega))).trans t0,(World.cell?_of_block (a:=⟨nf,1,Zn⟩) (gi (by show nf≠_;omega))).trans t1⟩;refine hK.out _ _ ag.out (fun hHeld=>?_);clear hK K;refine iT 3 fun K hK=>?_;go_simp;refine hK.out _ _ ⟨(World.cell?_of_block (a:=⟨nf,0,Zn⟩) (hY (by show nf≠_;omega))).trans ag.out.1,(World.cell?_of_block (a:=⟨nf,1,Zn⟩) (hY (by show nf≠_;omega))).trans ag.out.2⟩ (fun hHeld=>?_);clear hK K;refine wpAnyH_done zK ?_ _;go_simp;go_wp2_with fail;refine bodyPost_ret (v:=Zu #[Za #[Zi Zk 0,Zs Zn 0 0,Zs Zn 0 0],Za #[Zi Zk r.2.1,Zi Zk (r.2.2:Nat)]]) (by simp[results,results32,go_sem,r0,r1,r2,s0,s1]) rfl ?_;rw[Z.out];exact HF.out
  ·have bm:j=(Nd.kids t).length:=by omega
   have cY:=a7 (au.out.done bm);have dv:=a7 (aY.out.comeOk ai dj au.out bm);have ar:w.heap.size+3<=wr.heap.size:=om;have aj:∀b,S b->b<w.heap.size+3:=fun b s=>by have:=HB.out b s;omega
   have aK:∀b,Ov S (w.heap.size+3) Zn wr b->b<wr.heap.size:=Ov.lt aj ar;obtain⟨gv,ca⟩:=iw u8;rw[<- ca]at aa ⊢;have cN:=Lib.hid (wG M m hM (Ov S (w.heap.size+3) Zn wr) t l I _ _ _ _ _ v gv wr (bb.out.keep (a6 C.out HB.out) fun _ h=>.inl h) (HV.out.keep (a6 C.out HB.out) fun _ h=>.inl h) (aa.out.row (by rw[ac];unfold maxLen;omega)) aK om an.out dv.out);have cg:jQ [] (m+1) t l.reverse z=mg (show Nd (T m) from t) l.reverse I z:=by rw[lm ai,cY.out];exact if_neg zS
   have bY:mg (show Nd (T m) from t) l.reverse I z=if (fX (Nd.sort t) (Nd.names t) (Nd.text t) l.reverse I).2≠0 then (zU,(fX (Nd.sort t) (Nd.names t) (Nd.text t) l.reverse I).2,z) else if gV (M+2) (fX (Nd.sort t) (Nd.names t) (Nd.text t) l.reverse I).1=true then (fQ M (M+2) (fX (Nd.sort t) (Nd.names t) (Nd.text t) l.reverse I).1,0,0) else (zU,7,z):=by unfold mg;rw[if_neg (by show ¬36<=Nd.sort t;omega)]
   generalize fX (Nd.sort t) (Nd.names t) (Nd.text t) l.reverse I=cm at *;obtain⟨ck,cc⟩:=cm;have Z:=a7 (cg.trans bY);have dJ:¬(j:Int)<((Nd.kids t).length:Int):=om;clear cg bY ca bm;have hq:=aM.out wr bJ.out;go_wp2_with fail;refine cN.out.mono ?_;rintro e U ⟨ah,y0,ya,yl,yc,za,zl,zc,rfl,ak⟩;have ab:=bJ.out.trans (ah.mono ar);have cw:=ah.size;obtain⟨-,aH,aJ,al⟩:=aM.out U ab;have L:=a7 al;clear q0 q1 q2 q3 q4 qk qf hq cN ah ab al;have br:=aH.lt;have cf:=aJ.lt;by_cases aR:cc=0
   ·subst aR;have af:=ak rfl;obtain⟨W3,G⟩:∃V,V=U.alloc (Zc #[Zi Zk y0,Zs ya yl yc,Zs za zl zc] 31):=⟨_,rfl⟩;have F:Bw U W3:=by rw[G];exact gF _ _
    have aT:∀b,Ov (Ov S (w.heap.size+3) Zn wr) wr.heap.size Zn U b->b<U.heap.size:=Ov.lt aK cw;have aF:=af.keep (a6 F aT) (fun _ h=>h);have be:W3.heap.size=U.heap.size+1:=by rw[G];simp
    have aD:=jX.new U (Zi Zk y0) (Zs ya yl yc) (Zs za zl zc) 31;rw[<- G]at aD;have dK:U.heap.size+1<=W3.heap.size:=Nat.le_of_eq be.symm;have aE:=Lib.hid (nN (M+2) _ ck _ _ _ W3 aF (fun b s=>by have:=aT b s;omega));have bn:=a7 aD;have bO:=a7 aF;have cJ:=a7 F;have aW:=(F.block _ br).trans aH;have aU:=(F.block _ cf).trans aJ;have N:=L.out.trans (F.mono L.out.size);have aB:=a7 N;clear ak af aF F aD be aH aJ N;cases hok:gV (M+2) ck with
    | true=>
     rw[hok]at aE;have ap:Hid (jQ [] (m+1) t l.reverse z=(fQ M (M+2) ck,0,0)):=by show _=_;rw[Z.out,if_neg zS,if_pos hok]
     have cU:=a7 hok;clear hok Z;go_wp2_with fail;rw[<- G];refine aE.out.mono ?_;rintro e w4 ⟨rfl,P⟩;have dN:=P.size;have aq:=aB.out.trans (P.mono aB.out.size);obtain⟨⟨r0,r1,r2⟩,g0,g1,g2⟩:=fM ((P.block _ (by rw[G];simp;omega)).trans aW);obtain⟨⟨s0,s1⟩,h0,h1⟩:=gC ((P.block _ (by rw[G];simp;omega)).trans aU);obtain⟨k0,k1,k2⟩:=bn.out.keep P;have HF:Hid (mW S M (fQ M (M+2) ck,(0:Int),0) w (Zr (Zu #[Za #[Zi Zk y0,Zs ya yl yc,Zs za zl zc],Za #[Zi Zk 0,Zi Zk 0]])) (((((w4.setCell ⟨w.heap.size+1,0,Zn⟩ (Zi Zk y0)).setCell ⟨w.heap.size+1,1,Zn⟩ (Zs ya yl yc)).setCell ⟨w.heap.size+1,2,Zn⟩ (Zs za zl zc)).setCell ⟨w.heap.size+1+1,0,Zn⟩ (Zi Zk 0)).setCell ⟨w.heap.size+1+1,1,Zn⟩ (Zi Zk 0))):=by
      refine⟨iE (gN aq om) om,_,_,_,_,_,_,_,rfl,fun _=>?_,fun h=>absurd rfl h⟩;refine (a8.okd cU.out hM bO.out).keep (fun x A=>?_) fun x A=>?_
      ·have H:x<U.heap.size:=aT x A;have bw:x≠w.heap.size+1/\x≠w.heap.size+1+1:=by
        rcases A with (A|A)|A;·have:=HB.out x A;omega
        ·have:=A.1;omega
        ·have:=A.1;omega
       rw[hY bw.2,gi bw.1];exact P.block x (by rw[G];simp;omega)
      ·have H:x<U.heap.size:=aT x A;rcases A with (A|A)|A;·exact .inl A
       ·exact .inr ⟨by have:=A.1;omega,by rw[ms,jZ];omega,zS⟩
       ·exact .inr ⟨by have:=A.1;omega,by rw[ms,jZ];omega,zS⟩
     clear P aq aW aU bn bO aE G;go_wp2_with fail;refine bodyPost_ret (v:=Zu #[Za #[Zi Zk y0,Zs ya yl yc,Zs za zl zc],Za #[Zi Zk 0,Zi Zk 0]]) (by simp[results,results32,go_sem,r0,r1,r2,s0,s1]) rfl ?_;rw[ap.out];exact HF.out
    | false=>
     rw[hok]at aE;have ap:Hid (jQ [] (m+1) t l.reverse z=((zU:K (M+1)),7,z)):=by show _=_;rw[Z.out,if_neg zS,if_neg (by rw[hok];simp)]
     clear hok Z;go_wp2_with fail;rw[<- G];refine aE.out.mono ?_;rintro e w4 ⟨rfl,P⟩;have aq:=aB.out.trans (P.mono aB.out.size);obtain⟨⟨r0,r1,r2⟩,g0,g1,g2⟩:=fM ((P.block _ (by rw[G];simp;omega)).trans aW);obtain⟨⟨s0,s1⟩,h0,h1⟩:=gC ((P.block _ (by rw[G];simp;omega)).trans aU);have HF:Hid (mW S M ((zU:K (M+1)),(7:Int),z) w (Zr (Zu #[Za #[Zi Zk 0,Zs Zn 0 0,Zs Zn 0 0],Za #[Zi Zk 7,Zi Zk (z:Nat)]])) (((((w4.setCell ⟨w.heap.size+1,0,Zn⟩ (Zi Zk 0)).setCell ⟨w.heap.size+1,1,Zn⟩ (Zs Zn 0 0)).setCell ⟨w.heap.size+1,2,Zn⟩ (Zs Zn 0 0)).setCell ⟨w.heap.size+1+1,0,Zn⟩ (Zi Zk 7)).setCell ⟨w.heap.size+1+1,1,Zn⟩ (Zi Zk (z:Nat)))):=⟨iE (gN aq om) om,_,_,_,_,_,_,_,rfl,fun h=>absurd h (by show ¬(7:Int)=0;decide),fun _=>⟨rfl,rfl,rfl,rfl,rfl,rfl,rfl⟩⟩;clear P aq aW aU bn bO aE G;go_wp2_with fail;refine bodyPost_ret (v:=Zu #[Za #[Zi Zk 0,Zs Zn 0 0,Zs Zn 0 0],Za #[Zi Zk 7,Zi Zk (z:Int)]]) (by simp[results,results32,go_sem,r0,r1,r2,s0,s1]) rfl ?_;rw[ap.out];exact HF.out
   ·have dA:(cc==0)=false:=by simpa using aR
    have ap:Hid (jQ [] (m+1) t l.reverse z=((zU:K (M+1)),cc,z)):=by show _=_;rw[Z.out,if_pos aR]
    obtain⟨W3,G⟩:∃V,V=U.alloc (Zc #[Zi Zk y0,Zs ya yl yc,Zs za zl zc] 31):=⟨_,rfl⟩;have F:Bw U W3:=by rw[G];exact gF _ _
    have N:=L.out.trans (F.mono L.out.size);obtain⟨⟨r0,r1,r2⟩,g0,g1,g2⟩:=fM ((F.block _ br).trans aH);obtain⟨⟨s0,s1⟩,h0,h1⟩:=gC ((F.block _ cf).trans aJ);have HF:Hid (mW S M ((zU:K (M+1)),cc,z) w (Zr (Zu #[Za #[Zi Zk 0,Zs Zn 0 0,Zs Zn 0 0],Za #[Zi Zk cc,Zi Zk (z:Nat)]])) ((((((W3.setCell ⟨w.heap.size+1,0,Zn⟩ (Zi Zk 0)).setCell ⟨w.heap.size+1,1,Zn⟩ (Zs Zn 0 0)).setCell ⟨w.heap.size+1,2,Zn⟩ (Zs Zn 0 0)).setCell ⟨w.heap.size+1+1,0,Zn⟩ (Zi Zk cc)).setCell ⟨w.heap.size+1+1,1,Zn⟩ (Zi Zk (z:Nat))))):=
     ⟨iE (gN N om) om,_,_,_,_,_,_,_,rfl,fun h=>absurd h aR,fun _=>⟨rfl,rfl,rfl,rfl,rfl,rfl,rfl⟩⟩
    clear ak Z aH aJ F N;go_upto_region 12 with fail;rw[<- G];clear G;go_wp2_with fail;refine bodyPost_ret (v:=Zu #[Za #[Zi Zk 0,Zs Zn 0 0,Zs Zn 0 0],Za #[Zi Zk cc,Zi Zk (z:Int)]]) (by simp[results,results32,go_sem,r0,r1,r2,s0,s1]) rfl ?_;rw[ap.out];exact HF.out
end Go.Proofs.YtcfojmaccikgeaaGreatDoor
namespace Go.Proofs.YtcfojmaccikgeaaGreatDoor
open Go.RowKit Go.Proofs.Tryz
variable {w V:World} {M:Nat} {α:Type}
theorem yT(M:Nat)(b:5<=M):∀m,E9 M m:=by
 intro m;induction m with
 | zero=>intro S t l c0 c1 c2 c3 c4 v d e w a;exact a.elim
 | succ m c=>exact vV M m b c
theorem gM.down{S:Nat->Prop}{n:Nat}(t:5<=M){l:List (ByteArray×K n)}{v:Value}(h:gM S w n l v)(s:l.all mj=true):gM S w (M+1) (jo M l) v:=by
 obtain⟨r,cap,g,q,k⟩:=h;have e:(jo M l).length=l.length:=List.length_map ..;refine⟨r,cap,by rw[e];exact g,by rw[e];exact q,fun d=>?_⟩;obtain⟨b,off,p,x,a⟩:=k (fun h=>d (by rw[h];rfl));refine⟨b,off,p,x,fun i hi=>?_⟩;have c:i<l.length:=by rw[<- e];exact hi
 obtain⟨c0,c1,c2,u,y,m,z,f,o⟩:=a i c;have j:(jo M l)[i]=(l[i].1,fQ M n l[i].2):=List.getElem_map ..;rw[j];have:=List.all_eq_true.1 s l[i] (List.getElem_mem c);unfold mj at this;simp only[Bool.and_eq_true]at this;exact⟨c0,c1,c2,u,y,m,z,f,o.okd this.2 t⟩
set_option maxRecDepth 100000
set_option maxHeartbeats 16000000
def yC(M:Nat)(r:K (M+1)×Int×Nat)(w:World)(e:Ending)(w':World):Prop:=
 Bw w w' /\ ∃f h d i c a g,e=.returned (Zu #[Za #[Zi Zk f,Zs h d i,Zs c a g],Za #[Zi Zk r.2.1,Zi Zk (r.2.2:Nat)]])/\(r.2.1=0->a8 (fun b=>w.heap.size<=b/\b<w'.heap.size) w' (M+2) (mJ r.1) (Zi Zk f) (Zs h d i) (Zs c a g)) /\
  (r.2.1≠0->f=0/\h=Zn/\d=0/\i=0/\c=Zn/\a=0/\g=0)
theorem qR {code:Int} (a:Bw w V) (b:code≠0) :
  yC M ((zU:K (M+1)),code,0) w (.returned (Zu #[Za #[Zi Zk 0,Zs Zn 0 0,Zs Zn 0 0],Za #[Zi Zk code,Zi Zk 0]])) (((((V.setCell ⟨w.heap.size+1,0,Zn⟩ (Zi Zk 0)).setCell ⟨w.heap.size+1,1,Zn⟩ (Zs Zn 0 0)).setCell ⟨w.heap.size+1,2,Zn⟩ (Zs Zn 0 0)).setCell ⟨w.heap.size+1+1,0,Zn⟩ (Zi Zk code)).setCell ⟨w.heap.size+1+1,1,Zn⟩ (Zi Zk 0)):=
 ⟨iE (gN a om) om,_,_,_,_,_,_,_,rfl,fun h=>absurd h b,fun _=>⟨rfl,rfl,rfl,rfl,rfl,rfl,rfl⟩⟩
theorem A7 {r:K (M+1) × Int × Nat} (a:Bw w V) (b:r.2.1≠0) :
  yC M r w (.returned (Zu #[Za #[Zi Zk 0,Zs Zn 0 0,Zs Zn 0 0],Za #[Zi Zk r.2.1,Zi Zk (r.2.2:Nat)]])) (((((V.setCell ⟨w.heap.size+1,0,Zn⟩ (Zi Zk 0)).setCell ⟨w.heap.size+1,1,Zn⟩ (Zs Zn 0 0)).setCell ⟨w.heap.size+1,2,Zn⟩ (Zs Zn 0 0)).setCell ⟨w.heap.size+1+1,0,Zn⟩ (Zi Zk r.2.1)).setCell ⟨w.heap.size+1+1,1,Zn⟩ (Zi Zk (r.2.2:Nat))):=
 ⟨iE (gN a om) om,_,_,_,_,_,_,_,rfl,fun h=>absurd h b,fun _=>⟨rfl,rfl,rfl,rfl,rfl,rfl,rfl⟩⟩
theorem CS{p:α->Bool}{l:List α}(i:Nat)(h:i<l.length):(l.take (i+1)).all p=((l.take i).all p && p l[i]):=by rw[List.take_succ_eq_append_getElem h,List.all_append];simp
theorem EY{p:α->Bool}{l:List α}(i:Nat)(h:i<l.length)(b:p l[i]=false):l.all p=false:=by rw[Bool.eq_false_iff];intro a;have:=List.all_eq_true.1 a _ (List.getElem_mem h);rw[b]at this;cases this
theorem uH (M:Nat) (hM:5<=M) (m n:Nat) (S:Nat->Prop) (t:T m) (l:List (ByteArray × K n)) (c0 c1 c2 c3 c4 v:Value) (w:World) (ht:fZ S w m t c0 c1 c2 c3 c4) (hv:gM S w n l v) (hB:Bd S w) (aR:kr m t<=1048576) (hl:l.length<=1048576) :
  Calls prog 7 #[v,Za #[c0,c1,c2,c3,c4]] w (yC M (h9 M m t l) w):=by
 obtain⟨x0,x1,x2,xa,xl,xc,ya,yl,yc,rfl,rfl,rfl,rfl,rfl⟩:=ht.shape;obtain⟨W,hW⟩:=iw (((w.alloc (Zc #[Zi Zk x0,Zi Zk x1,Zt x2,Zs xa xl xc,Zs ya yl yc] 40)).alloc (Zc #[Zi Zk 0,Zs Zn 0 0,Zs Zn 0 0] 31)).alloc (Zc #[Zi Zk 0,Zi Zk 0] 33));have I:Bw w W:=by rw[hW];exact ((gF _ _).alloc zS _).alloc zE _
 have hz:W.heap.size=w.heap.size+3:=by rw[hW];simp
 have aA:W.heap[w.heap.size]?=Zo (Zc #[Zi Zk x0,Zi Zk x1,Zt x2,Zs xa xl xc,Zs ya yl yc] 40 (0,0)):=by rw[hW,Below.heap_alloc _ _ _ zE,Below.heap_alloc _ _ _ zS];exact heap_alloc_new _ _
 have aH:oR W (w.heap.size+1):=by rw[hW];exact (tH w _).alloc _
 have ax:oS W (w.heap.size+1+1):=by have:=xy ((w.alloc (Zc #[Zi Zk x0,Zi Zk x1,Zt x2,Zs xa xl xc,Zs ya yl yc] 40)).alloc (Zc #[Zi Zk 0,Zs Zn 0 0,Zs Zn 0 0] 31));rw[hW];simpa using this
 have bk:w.heap.size+3<=W.heap.size:=Nat.le_of_eq hz.symm;have u:Hid (∀V,Bw W V->(V.cell? ⟨w.heap.size,0,Zn⟩=Zo (Zi Zk x0)/\V.cell? ⟨w.heap.size,1,Zn⟩=Zo (Zi Zk x1)/\V.cell? ⟨w.heap.size,2,Zn⟩=Zo (Zt x2)/\V.cell? ⟨w.heap.size,3,Zn⟩=Zo (Zs xa xl xc)/\V.cell? ⟨w.heap.size,4,Zn⟩=Zo (Zs ya yl yc))/\oR V (w.heap.size+1)/\oS V (w.heap.size+1+1)/\Bw w V):=fun V hV=>⟨gE ((hV.block w.heap.size om).trans aA),(hV.block (w.heap.size+1) om).trans aH,(hV.block (w.heap.size+1+1) om).trans ax,I.trans (hV.mono I.size)⟩;have aU:=Lib.hid (D3 m S t _ _ _ _ _ false W (ht.keep (a6 I hB) fun _ h=>h) (fun b E=>Zd (hB b E) I.size) aR);have aZ:=a7 ht;have HV:=a7 hv;have HB:Hid (Bd S w):=hB;obtain⟨⟨q0,q1,q2,q3,q4⟩,-⟩:=u.out W (Below.refl _ _);clear ht hv hB I aA aH ax hz;go_in;go_wp2_with fail;rw[<- hW];clear hW;refine aU.out.mono ?_;rintro e w1 ⟨rfl,aJ⟩;cases his:CX m t false with
 | false=>
  have k:h9 M m t l=(zU,2,0):=by unfold h9;rw[if_pos his]
  obtain⟨-,q,A,L⟩:=u.out w1 aJ;obtain⟨⟨r0,r1,r2⟩,g0,g1,g2⟩:=fM q;obtain⟨⟨s0,s1⟩,h0,h1⟩:=gC A;have HF:=Lib.hid (qR (M:=M) (code:=2) L zC);have y:=a7 k;clear k u q A;go_wp2_with fail;refine bodyPost_ret (v:=Zu #[Za #[Zi Zk 0,Zs Zn 0 0,Zs Zn 0 0],Za #[Zi Zk 2,Zi Zk 0]]) (by simp[results,results7,go_sem,r0,r1,r2,s0,s1]) rfl ?_;rw[y.out];exact HF.out
 | true=>
 obtain⟨va,vc,aV,bl,R⟩:=HV.out;subst aV;have ai:h9 M m t l=if l.all mj=false then (zU,6,0) else jQ [] m t (jo M l).reverse 0:=by unfold h9;rw[if_neg (by rw[his];simp)]
 have ab:=a7 ai;have HS:=a7 his;have aQ:=a7 R;have au:=a7 aJ;clear ai R q0 q1 q2 q3 q4 his;go_wp2;go_loopw [6] (fun iv wr=>∃i:Nat,iv=Zi Zk i/\i<=l.length/\(l.take i).all mj=true/\Bw w1 wr) (fun iv _=>l.length-(intOf iv).toNat);case atStart=>exact⟨0,rfl,Nat.zero_le _,rfl,Below.refl _ _⟩
 case round=>
  obtain⟨i,rfl,bj,ah,an⟩:=hrel;have U:=a7 ah;have o:=au.out.trans (an.mono au.out.size);obtain⟨⟨q0,q1,q2,q3,q4⟩,-,-,f⟩:=u.out wr o;have bd:=o.size;clear ah;by_cases aa:i<l.length
  ·obtain⟨b,off,rfl,aP,N⟩:=aQ.out (by intro h;rw[h]at aa;simp at aa);obtain⟨k0,k1,k2,e0,e1,e2,e3,aM,C⟩:=N i aa;obtain⟨y0,bm,bc,bh,bb,bi,be,rfl,rfl,rfl⟩:=C.shape;have ac:=HB.out b aP;have f0:=kC f e0 ac;have f1:=kC f e1 ac;have f2:=kC f e2 ac;have f3:=kC f e3 ac;have aS:(i:Int)<(l.length:Int):=om;have H:=Lib.hid (kI l[i].1 wr aM);have P:Hid (gV n l[i].2=false∨gh l[i].1=false->l.all mj=false):=fun h=>EY i aa (by
    unfold mj
    rcases h with h|h
    ·rw[h];simp
    ·rw[h];simp)
   have ad:Hid (gV n l[i].2=true->gh l[i].1=true->mj l[i]=true):=fun h1 h2=>by unfold mj;rw[h1,h2];rfl
   have am:=Lib.hid (nN n S l[i].2 _ _ _ wr (C.keep (a6 f HB.out) fun _ h=>h) (fun b E=>Zd (HB.out b E) f.size));have ae:=Lib.hid (CS (p:=mj) i aa);generalize l[i].1=s at *;generalize l[i]=p at *;clear N e0 e1 e2 e3 C;cases hnb:gh s with
   | false=>
    rw[hnb]at H;have k:h9 M m t l=(zU,6,0):=by rw[ab.out,if_pos (P.out (.inr hnb))]
    clear P ad ae am hnb;go_wp2_with fail;refine H.out.mono ?_;rintro e c ⟨rfl,rfl⟩;clear H f0 f1 f2 f3 q0 q1 q2 q3 q4;obtain⟨-,q,A,L⟩:=u.out c o;obtain⟨⟨r0,r1,r2⟩,g0,g1,g2⟩:=fM q;obtain⟨⟨s0,s1⟩,h0,h1⟩:=gC A;have HF:=Lib.hid (qR (M:=M) (code:=6) L zC);have y:=a7 k;clear k u q A;go_wp2_with fail;refine bodyPost_ret (v:=Zu #[Za #[Zi Zk 0,Zs Zn 0 0,Zs Zn 0 0],Za #[Zi Zk 6,Zi Zk 0]]) (by simp[results,results7,go_sem,r0,r1,r2,s0,s1]) rfl ?_;rw[y.out];exact HF.out
   | true=>
    rw[hnb]at H;go_wp2_with fail;refine H.out.mono ?_;rintro e c ⟨rfl,rfl⟩;clear H;go_wp2_with fail;refine am.out.mono ?_;rintro e w3 ⟨rfl,aB⟩;have aE:=o.trans (aB.mono o.size);clear am f0 f1 f2 f3 q0 q1 q2 q3 q4;cases hko:gV n p.2 with
    | false=>
     have k:h9 M m t l=(zU,6,0):=by rw[ab.out,if_pos (P.out (.inl hko))]
     clear P ad ae hnb hko;obtain⟨-,q,A,L⟩:=u.out w3 aE;obtain⟨⟨r0,r1,r2⟩,g0,g1,g2⟩:=fM q;obtain⟨⟨s0,s1⟩,h0,h1⟩:=gC A;have HF:=Lib.hid (qR (M:=M) (code:=6) L zC);have y:=a7 k;clear k u q A;go_wp2_with fail;refine bodyPost_ret (v:=Zu #[Za #[Zi Zk 0,Zs Zn 0 0,Zs Zn 0 0],Za #[Zi Zk 6,Zi Zk 0]]) (by simp[results,results7,go_sem,r0,r1,r2,s0,s1]) rfl ?_;rw[y.out];exact HF.out
    | true=>
     have aY:Hid ((l.take (i+1)).all mj=true):=by show _=true;rw[ae.out,U.out,ad.out hko hnb];rfl
     have aW:=an.trans (aB.mono an.size);clear P ad ae hnb hko;go_wp2_with fail;exact⟨⟨i+1,zS,om,aY.out,aW⟩,by simp[intOf];omega⟩
  ·have aX:i=l.length:=by omega
   have x:l.all mj=true:=by have:=U.out;rw[aX,List.take_length]at this;exact this
   have k:h9 M m t l=jQ [] m t (jo M l).reverse 0:=by rw[ab.out,if_neg (by rw[x];simp)]
   obtain⟨r,hr⟩:=iw (jQ [] m t (jo M l).reverse 0);have y:Hid (h9 M m t l=r):=by show _=_;rw[hr];exact k
   have Q:gD m t 1=true/\pU m t<=35/\fJ m t<=200:=by have:=HS.out;unfold CX at this;simp only[Bool.and_eq_true,decide_eq_true_eq,beq_iff_eq]at this;have h2:=this.1.1.2;exact⟨this.1.1.1,by have:=of_decide_eq_false h2.symm;omega,this.1.2⟩
   have ba:1<=m:=by
    cases m with
    | zero=>exact absurd Q.1 (by simp[gD])
    | succ m=>omega
   have aN:Hid (r.2.1=0->gV (M+1) r.1=true):=fun h=>by rw[hr]at h ⊢;exact pw hM Q.2.1 h ba
   have al:=Lib.hid (yT M hM m S t (jo M l) _ _ _ _ _ _ 1 0 wr (aZ.out.keep (a6 f HB.out) fun _ h=>h) ((HV.out.keep (a6 f HB.out) fun _ h=>h).down hM x) (fun b E=>Zd (HB.out b E) f.size) Q.1 Q.2.1 (by rw[show (jo M l).length=l.length from List.length_map ..];omega) (yk hM x) om);rw[<- hr]at al;have aS:¬(i:Int)<(l.length:Int):=om;clear k hr Q x ab HS U;go_wp2_with fail;refine al.out.mono ?_;rintro e c ⟨ay,d0,da,dl,dc,ea,el,ec,rfl,av,q⟩;have ak:=a7 av;have aj:=a7 q;have J:=o.trans (ay.mono o.size);have aO:=ay.size;clear al av q q0 q1 q2 q3 q4;have bf:w.heap.size+3<=c.heap.size:=by have:=J.size;omega
   obtain⟨Z,hZ⟩:=iw ((c.alloc (Zc #[Zi Zk d0,Zs da dl dc,Zs ea el ec] 31)).alloc (Zc #[Zi Zk r.2.1,Zi Zk (r.2.2:Nat)] 33));have ap:Bw c Z:=by rw[hZ];exact (gF _ _).alloc zS _
   have af:=J.trans (ap.mono J.size);have az:Z.heap[c.heap.size]?=Zo (Zc #[Zi Zk d0,Zs da dl dc,Zs ea el ec] 31 (0,0)):=by rw[hZ,Below.heap_alloc _ _ _ zS];exact heap_alloc_new _ _
   have aC:Z.heap[c.heap.size+1]?=Zo (Zc #[Zi Zk r.2.1,Zi Zk (r.2.2:Nat)] 33 (0,0)):=by have:=heap_alloc_new (c.alloc (Zc #[Zi Zk d0,Zs da dl dc,Zs ea el ec] 31)) (Zc #[Zi Zk r.2.1,Zi Zk (r.2.2:Nat)] 33);rw[hZ];simpa using this
   have bg:c.heap.size+2<=Z.drew.heap.size:=by show _<=Z.heap.size;rw[hZ];simp
   obtain⟨-,aG,aK,ag⟩:=u.out Z af;have G:Bw w Z.drew:=ag.drew;have O:Bw c Z.drew:=ap.drew;obtain⟨⟨a0,a1,a2⟩,-⟩:=fM (show Z.drew.heap[c.heap.size]?=_ from az);obtain⟨⟨t0,t1⟩,-⟩:=gC (show Z.drew.heap[c.heap.size+1]?=_ from aC);have F:oR Z.drew (w.heap.size+1):=aG;have D:oS Z.drew (w.heap.size+1+1):=aK;have aD:Hid (∀b,Ov S wr.heap.size Zn c b->b<c.heap.size):=Ov.lt (fun b E=>Zd (HB.out b E) f.size) aO;clear ap af az aC aG aK ag u;by_cases B:r.2.1=0;case neg=>
    obtain⟨rfl,rfl,rfl,rfl,rfl,rfl,rfl⟩:=aj.out B;have HF:=Lib.hid (A7 (M:=M) (r:=r) G B);have aF:(r.2.1 != 0)=true:=by simpa using B
    obtain⟨⟨r0,r1,r2⟩,g0,g1,g2⟩:=fM F;obtain⟨⟨s0,s1⟩,h0,h1⟩:=gC D;clear ak aj F D G O;go_upto_region 10 with fail;rw[<- hZ];clear hZ;refine wp_region_held_drew (S:=fun g=>(g.cell? ⟨c.heap.size,0,Zn⟩=Zo (Zi Zk 0)/\g.cell? ⟨c.heap.size,1,Zn⟩=Zo (Zs Zn 0 0)/\g.cell? ⟨c.heap.size,2,Zn⟩=Zo (Zs Zn 0 0))/\g.cell? ⟨c.heap.size+1,0,Zn⟩=Zo (Zi Zk r.2.1)/\g.cell? ⟨c.heap.size+1,1,Zn⟩=Zo (Zi Zk (r.2.2:Nat))) zK ⟨⟨a0,a1,a2⟩,t0,t1⟩ (fun hHeld=>?_);generalize Z.drew=Wd at *;refine tk 0 ?_;refine tk 1 ?_;refine iT 2 fun K hK=>?_;go_simp;have j:Hid ((fun g=>(g.cell? ⟨c.heap.size,0,Zn⟩=Zo (Zi Zk 0)/\g.cell? ⟨c.heap.size,1,Zn⟩=Zo (Zs Zn 0 0)/\g.cell? ⟨c.heap.size,2,Zn⟩=Zo (Zs Zn 0 0))/\g.cell? ⟨c.heap.size+1,0,Zn⟩=Zo (Zi Zk r.2.1)/\g.cell? ⟨c.heap.size+1,1,Zn⟩=Zo (Zi Zk (r.2.2:Nat))) (((Wd.setCell ⟨w.heap.size+1,0,Zn⟩ (Zi Zk 0)).setCell ⟨w.heap.size+1,1,Zn⟩ (Zs Zn 0 0)).setCell ⟨w.heap.size+1,2,Zn⟩ (Zs Zn 0 0))):=by
     refine⟨⟨?_,?_,?_⟩,?_,?_⟩;·exact (World.cell?_of_block (a:=⟨c.heap.size,0,Zn⟩) (gi (by show c.heap.size≠_;omega))).trans a0
     ·exact (World.cell?_of_block (a:=⟨c.heap.size,1,Zn⟩) (gi (by show c.heap.size≠_;omega))).trans a1
     ·exact (World.cell?_of_block (a:=⟨c.heap.size,2,Zn⟩) (gi (by show c.heap.size≠_;omega))).trans a2
     ·exact (World.cell?_of_block (a:=⟨c.heap.size+1,0,Zn⟩) (gi (by show c.heap.size+1≠_;omega))).trans t0
     ·exact (World.cell?_of_block (a:=⟨c.heap.size+1,1,Zn⟩) (gi (by show c.heap.size+1≠_;omega))).trans t1
    refine hK.out _ _ j.out (fun hHeld=>?_);clear hK K;refine iT 3 fun K hK=>?_;go_simp;refine hK.out _ _ ⟨⟨(World.cell?_of_block (a:=⟨c.heap.size,0,Zn⟩) (hY (by show c.heap.size≠_;omega))).trans j.out.1.1,(World.cell?_of_block (a:=⟨c.heap.size,1,Zn⟩) (hY (by show c.heap.size≠_;omega))).trans j.out.1.2.1,(World.cell?_of_block (a:=⟨c.heap.size,2,Zn⟩) (hY (by show c.heap.size≠_;omega))).trans j.out.1.2.2⟩,(World.cell?_of_block (a:=⟨c.heap.size+1,0,Zn⟩) (hY (by show c.heap.size+1≠_;omega))).trans j.out.2.1,(World.cell?_of_block (a:=⟨c.heap.size+1,1,Zn⟩) (hY (by show c.heap.size+1≠_;omega))).trans j.out.2.2⟩ (fun hHeld=>?_);clear hK K;refine wpAnyH_done zK ?_ _;go_simp;go_wp2_with fail;refine bodyPost_ret (v:=Zu #[Za #[Zi Zk 0,Zs Zn 0 0,Zs Zn 0 0],Za #[Zi Zk r.2.1,Zi Zk (r.2.2:Nat)]]) (by simp[results,results7,go_sem,r0,r1,r2,s0,s1]) rfl ?_;rw[y.out];exact HF.out
   obtain⟨ar,aw⟩:=ie (aN.out B);have aI:=Lib.hid (zF (M+1) (M+1) (Ov S wr.heap.size Zn c) r.1 1 _ _ _ Z.drew (Nat.le_refl _) ar aw ((ak.out B).keep (a6 O aD.out) fun _ h=>h) (fun b E=>Zd (aD.out b E) O.size));have aF:(r.2.1 != 0)=false:=by simpa using B
   have aT:=a7 B;clear ak aj ar aw B;go_upto_region 11 with fail;rw[<- hZ];clear hZ;refine wp_region_held_drew (S:=fun g=>(g.cell? ⟨c.heap.size,0,Zn⟩=Zo (Zi Zk d0)/\g.cell? ⟨c.heap.size,1,Zn⟩=Zo (Zs da dl dc)/\g.cell? ⟨c.heap.size,2,Zn⟩=Zo (Zs ea el ec))/\g.cell? ⟨c.heap.size+1,0,Zn⟩=Zo (Zi Zk r.2.1)/\g.cell? ⟨c.heap.size+1,1,Zn⟩=Zo (Zi Zk (r.2.2:Nat))) zK ⟨⟨a0,a1,a2⟩,t0,t1⟩ (fun hHeld=>?_);generalize Z.drew=Wd at *;refine tk 0 ?_;refine tk 2 ?_;refine iT 1 fun K hK=>?_;go_simp;go_at_call 33;refine aI.out.mono ?_;rintro e X ⟨z,y0,y1,y2,rfl,C⟩;obtain⟨k0,ua,ul,uc,ta,tl,tc,rfl,rfl,rfl⟩:=C.shape;have ao:(fun g=>(g.cell? ⟨c.heap.size,0,Zn⟩=Zo (Zi Zk d0)/\g.cell? ⟨c.heap.size,1,Zn⟩=Zo (Zs da dl dc)/\g.cell? ⟨c.heap.size,2,Zn⟩=Zo (Zs ea el ec))/\g.cell? ⟨c.heap.size+1,0,Zn⟩=Zo (Zi Zk r.2.1)/\g.cell? ⟨c.heap.size+1,1,Zn⟩=Zo (Zi Zk (r.2.2:Nat))) X:=⟨⟨kC z a0 om,kC z a1 om,kC z a2 om⟩,kC z t0 om,kC z t1 om⟩;obtain⟨⟨r0,r1,r2⟩,g0,g1,g2⟩:=fM ((z.block (w.heap.size+1) om).trans F);obtain⟨⟨s0,s1⟩,h0,h1⟩:=gC ((z.block (w.heap.size+1+1) om).trans D);have aL:Bw w X:=G.trans (z.mono G.size);refine hK.out _ _ ao (fun hHeld=>?_);clear hK K aI a0 a1 a2 t0 t1;have aq:(((((X.setCell ⟨w.heap.size+1,0,Zn⟩ (Zi Zk k0)).setCell ⟨w.heap.size+1,1,Zn⟩ (Zs ua ul uc)).setCell ⟨w.heap.size+1,2,Zn⟩ (Zs ta tl tc)).setCell ⟨w.heap.size+1+1,0,Zn⟩ (Zi Zk r.2.1)).setCell ⟨w.heap.size+1+1,1,Zn⟩ (Zi Zk (r.2.2:Nat))).heap.size=X.heap.size:=by rw[ms,jZ]
   have HF:Hid (yC M r w (.returned (Zu #[Za #[Zi Zk k0,Zs ua ul uc,Zs ta tl tc],Za #[Zi Zk r.2.1,Zi Zk (r.2.2:Nat)]])) (((((X.setCell ⟨w.heap.size+1,0,Zn⟩ (Zi Zk k0)).setCell ⟨w.heap.size+1,1,Zn⟩ (Zs ua ul uc)).setCell ⟨w.heap.size+1,2,Zn⟩ (Zs ta tl tc)).setCell ⟨w.heap.size+1+1,0,Zn⟩ (Zi Zk r.2.1)).setCell ⟨w.heap.size+1+1,1,Zn⟩ (Zi Zk (r.2.2:Nat)))):=by refine⟨iE (gN aL om) om,_,_,_,_,_,_,_,rfl,fun _=>C.keep (fun b E=>?_) fun b E=>⟨by have:=E.1;omega,by rw[aq];exact E.2⟩,fun h=>absurd aT.out h⟩;have:=E.1;rw[hY om,gi om]
   have Y:=a7 ao;obtain⟨⟨a0,a1,a2⟩,t0,t1⟩:=ao;clear C aq F D;refine iT 3 fun K hK=>?_;go_simp;have j:Hid ((fun g=>(g.cell? ⟨c.heap.size,0,Zn⟩=Zo (Zi Zk d0)/\g.cell? ⟨c.heap.size,1,Zn⟩=Zo (Zs da dl dc)/\g.cell? ⟨c.heap.size,2,Zn⟩=Zo (Zs ea el ec))/\g.cell? ⟨c.heap.size+1,0,Zn⟩=Zo (Zi Zk r.2.1)/\g.cell? ⟨c.heap.size+1,1,Zn⟩=Zo (Zi Zk (r.2.2:Nat))) (((X.setCell ⟨w.heap.size+1,0,Zn⟩ (Zi Zk k0)).setCell ⟨w.heap.size+1,1,Zn⟩ (Zs ua ul uc)).setCell ⟨w.heap.size+1,2,Zn⟩ (Zs ta tl tc))):=by
    refine⟨⟨?_,?_,?_⟩,?_,?_⟩;·exact (World.cell?_of_block (a:=⟨c.heap.size,0,Zn⟩) (gi (by show c.heap.size≠_;omega))).trans Y.out.1.1
    ·exact (World.cell?_of_block (a:=⟨c.heap.size,1,Zn⟩) (gi (by show c.heap.size≠_;omega))).trans Y.out.1.2.1
    ·exact (World.cell?_of_block (a:=⟨c.heap.size,2,Zn⟩) (gi (by show c.heap.size≠_;omega))).trans Y.out.1.2.2
    ·exact (World.cell?_of_block (a:=⟨c.heap.size+1,0,Zn⟩) (gi (by show c.heap.size+1≠_;omega))).trans Y.out.2.1
    ·exact (World.cell?_of_block (a:=⟨c.heap.size+1,1,Zn⟩) (gi (by show c.heap.size+1≠_;omega))).trans Y.out.2.2
   refine hK.out _ _ j.out (fun hHeld=>?_);clear hK K;refine iT 4 fun K hK=>?_;go_simp;refine hK.out _ _ ⟨⟨(World.cell?_of_block (a:=⟨c.heap.size,0,Zn⟩) (hY (by show c.heap.size≠_;omega))).trans j.out.1.1,(World.cell?_of_block (a:=⟨c.heap.size,1,Zn⟩) (hY (by show c.heap.size≠_;omega))).trans j.out.1.2.1,(World.cell?_of_block (a:=⟨c.heap.size,2,Zn⟩) (hY (by show c.heap.size≠_;omega))).trans j.out.1.2.2⟩,(World.cell?_of_block (a:=⟨c.heap.size+1,0,Zn⟩) (hY (by show c.heap.size+1≠_;omega))).trans j.out.2.1,(World.cell?_of_block (a:=⟨c.heap.size+1,1,Zn⟩) (hY (by show c.heap.size+1≠_;omega))).trans j.out.2.2⟩ (fun hHeld=>?_);clear hK K;refine wpAnyH_done zK ?_ _;go_simp;go_wp2_with fail;refine bodyPost_ret (v:=Zu #[Za #[Zi Zk k0,Zs ua ul uc,Zs ta tl tc],Za #[Zi Zk r.2.1,Zi Zk (r.2.2:Nat)]]) (by simp[results,results7,go_sem,r0,r1,r2,s0,s1]) rfl ?_;rw[y.out];exact HF.out
end Go.Proofs.YtcfojmaccikgeaaGreatDoor
