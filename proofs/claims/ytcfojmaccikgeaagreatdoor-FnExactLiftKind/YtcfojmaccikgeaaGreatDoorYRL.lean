import Derived.Test.YtcfojmaccikgeaaGreatDoorB43
import Derived.Test.YtcfojmaccikgeaaGreatDoorB45
import Derived.Test.YtcfojmaccikgeaaGreatDoorB44
import Derived.Test.YtcfojmaccikgeaaGreatDoorB30
import Derived.Test.YtcfojmaccikgeaaGreatDoorB23
open Go.Value renaming slice→Zs,int→Zi,string→Zt,pointer→Zp,agg→Za,tuple→Zu
open Go.IntKind renaming i64→Zk
open Go.Ending renaming returned→Zr
open Go.Obj renaming cells→Zc
open Option renaming none→Zn,some→Zo
open Nat renaming lt_of_lt_of_le→Zd
namespace Go.Proofs.YtcfojmaccikgeaaGreatDoor
set_option maxRecDepth 100000
set_option maxHeartbeats 16000000
open Go.RowKit Go.Proofs.Tryz
variable {M:Nat}
def wz(M:Nat)(r:K (M+1)×Int×Nat)(w:World)(e:Ending)(w':World):Prop:=
 Bw w w' /\ ∃f a c g d,e=Zr (Zu #[Za #[f,a,c],Za #[Zi Zk r.2.1,Zi Zk (r.2.2:Nat)]]) /\
  (r.2.1=0->a8 (fun b=>w.heap.size<=b/\b<w'.heap.size) w' (M+2) (mJ r.1) f a c/\lW w' a g/\mI w' (M+1) c d/\Own (fun b=>w.heap.size<=b/\b<w'.heap.size) (g++d)/\(g++d).length=qO (M+2) (mJ r.1)) /\
  (r.2.1≠0->f=Zi Zk 0/\a=Zs Zn 0 0/\c=Zs Zn 0 0)
theorem Hg(m:Nat)(t:T m):CX m t false=(decide (jT m t=86) && Eo m t):=by
 unfold CX Eo;cases hg:gD m t 1 with
 | false=>simp
 | true=>
  have b:1<=pU m t/\pU m t<=43:=by
   cases m with
   | zero=>exact Empty.elim (show Empty from t)
   | succ m=>simp only[gD,Bool.and_eq_true]at hg;have h:=hg.1.2;unfold iu at h;simp only[Bool.and_eq_true,decide_eq_true_eq]at h;exact h.1
  by_cases a:36<=pU m t
  ·have:jT m t=65:=by unfold jT rP;rw[if_neg om,if_neg om]
   rw[this];simp[a]
  ·have:jT m t=86:=by unfold jT rP;rw[if_neg om,if_pos om]
   rw[this];simp[a]
theorem E7{sn:wD M}{m:Nat}{t:T m}{env:jS M}{pl:Nat}(a:pU m t<=35)(c:1<=m)(h:(jQ sn m t env pl).2.1=0):(jQ sn m t env pl).2.2=0:=by
 cases m with
 | zero=>omega
 | succ m=>
  have a:Nd.sort t<=35:=a;rw[lm a]at h ⊢;by_cases b:(jx sn m t env pl).2.1≠0;·rw[if_pos b]at h;exact absurd h b
  ·rw[if_neg b]at h ⊢;unfold mg at h ⊢;rw[if_neg (by show ¬36<=Nd.sort t;omega)]at h ⊢;split at h;·next hc=>exact absurd h hc
   ·next hc=>
    rw[if_neg hc];split at h;·next ho=>rw[if_pos ho]
    ·exact absurd h (by show (7:Int)≠0;decide)
theorem nu {r:K (M+1) × Int × Nat} {w V:World} (a:Bw w V) (b:r.2.1≠0) :
  wz M r w (Zr (Zu #[Za #[Zi Zk 0,Zs Zn 0 0,Zs Zn 0 0],Za #[Zi Zk r.2.1,Zi Zk (r.2.2:Nat)]])) (((((V.setCell ⟨w.heap.size+1,0,Zn⟩ (Zi Zk 0)).setCell ⟨w.heap.size+1,1,Zn⟩ (Zs Zn 0 0)).setCell ⟨w.heap.size+1,2,Zn⟩ (Zs Zn 0 0)).setCell ⟨w.heap.size+1+1,0,Zn⟩ (Zi Zk r.2.1)).setCell ⟨w.heap.size+1+1,1,Zn⟩ (Zi Zk (r.2.2:Nat))):=
 ⟨iE (gN a om) om,_,_,_,[],[],rfl,fun h=>absurd h b,fun _=>⟨rfl,rfl,rfl⟩⟩
theorem t6 (M:Nat) (hM:5<=M) (m n:Nat) (S:Nat->Prop) (t:T m) (l:List (ByteArray × K n)) (c0 c1 c2 c3 c4 v:Value) (w:World) (ht:fZ S w m t c0 c1 c2 c3 c4) (hv:gM S w n l v) (hB:Bd S w) (bc:kr m t<=1048576) (hl:l.length<=1048576) (hT:lr w) (hH:kG w) :
  Calls prog 10 #[v,Za #[c0,c1,c2,c3,c4]] w (wz M (h9 M m t l) w):=by
 obtain⟨x0,x1,x2,xa,xl,xc,ya,yl,yc,rfl,rfl,rfl,rfl,rfl⟩:=ht.shape;obtain⟨va,vc,rfl,-⟩:=id hv;obtain⟨W,hW⟩:=iw (((w.alloc (Zc #[Zi Zk x0,Zi Zk x1,Zt x2,Zs xa xl xc,Zs ya yl yc] 40)).alloc (Zc #[Zi Zk 0,Zs Zn 0 0,Zs Zn 0 0] 31)).alloc (Zc #[Zi Zk 0,Zi Zk 0] 33));have J:Bw w W:=by rw[hW];exact ((gF _ _).alloc zS _).alloc zE _
 have hz:W.heap.size=w.heap.size+3:=by rw[hW];simp
 have aI:W.heap[w.heap.size]?=Zo (Zc #[Zi Zk x0,Zi Zk x1,Zt x2,Zs xa xl xc,Zs ya yl yc] 40 (0,0)):=by rw[hW,Below.heap_alloc _ _ _ zE,Below.heap_alloc _ _ _ zS];exact heap_alloc_new _ _
 have aU:oR W (w.heap.size+1):=by rw[hW];exact (tH w _).alloc _
 have aH:oS W (w.heap.size+1+1):=by have:=xy ((w.alloc (Zc #[Zi Zk x0,Zi Zk x1,Zt x2,Zs xa xl xc,Zs ya yl yc] 40)).alloc (Zc #[Zi Zk 0,Zs Zn 0 0,Zs Zn 0 0] 31));rw[hW];simpa using this
 have bv:w.heap.size+3<=W.heap.size:=Nat.le_of_eq hz.symm;have i:Hid (∀V,Bw W V->(V.cell? ⟨w.heap.size,0,Zn⟩=Zo (Zi Zk x0)/\V.cell? ⟨w.heap.size,1,Zn⟩=Zo (Zi Zk x1)/\V.cell? ⟨w.heap.size,2,Zn⟩=Zo (Zt x2)/\V.cell? ⟨w.heap.size,3,Zn⟩=Zo (Zs xa xl xc)/\V.cell? ⟨w.heap.size,4,Zn⟩=Zo (Zs ya yl yc))/\oR V (w.heap.size+1)/\oS V (w.heap.size+1+1)/\Bw w V):=fun V hV=>⟨gE ((hV.block w.heap.size om).trans aI),(hV.block (w.heap.size+1) om).trans aU,(hV.block (w.heap.size+1+1) om).trans aH,J.trans (hV.mono J.size)⟩;have aD:x0=pU m t:=by
  cases m with
  | zero=>exact ht.elim
  | succ m=>have h:=ht.1;injection h
 have az:Hid (Calls prog 37 #[Zi Zk x0] W _):=ny x0 W;have aX:rP x0=jT m t:=by rw[aD];rfl
 rw[aX]at az;have bk:=a7 ht;have HV:=a7 hv;have HB:Hid (Bd S w):=hB;have ar:=a7 (Hg m t);have bi:lr W:=hT.step J;have aR:kG W:=kC J hH (b8 hH);have an:Hid (Calls prog 38 _ W _):=wZ m S W t _ _ _ _ _ (ht.keep (a6 J hB) fun _ h=>h) (fun b f=>Zd (hB b f) J.size) bc bi;obtain⟨⟨q0,q1,q2,q3,q4⟩,-⟩:=i.out W (Below.refl _ _);clear ht hv hB aI aU aH hz aX aD;go_in;go_wp2_with fail;rw[<- hW];clear hW;refine az.out.mono ?_;rintro e w1 ⟨rfl,rfl⟩;clear az;by_cases B:jT m t=86;case neg=>
  have q:h9 M m t l=(zU,2,0):=by unfold h9;rw[ar.out,if_pos (by simp[B])]
  obtain⟨-,k,j,y⟩:=i.out w1 (Below.refl _ _);obtain⟨⟨r0,r1,r2⟩,g0,g1,g2⟩:=fM k;obtain⟨⟨s0,s1⟩,h0,h1⟩:=gC j;have HF:=Lib.hid (nu (M:=M) (r:=((zU:K (M+1)),(2:Int),0)) y (by show (2:Int)≠0;decide));have C:=a7 q;clear q an i k j;go_wp2_with fail;refine bodyPost_ret (v:=Zu #[Za #[Zi Zk 0,Zs Zn 0 0,Zs Zn 0 0],Za #[Zi Zk 2,Zi Zk 0]]) (by simp[results,results10,go_sem,r0,r1,r2,s0,s1]) rfl ?_;rw[C.out];exact HF.out
 rw[B];go_wp2_with fail;refine an.out.mono ?_;rintro e w2 ⟨rfl,D⟩;clear an;cases x:Eo m t with
 | false=>
  have q:h9 M m t l=(zU,2,0):=by unfold h9;rw[ar.out,if_pos (by simp[x])]
  obtain⟨-,k,j,y⟩:=i.out w2 D;obtain⟨⟨r0,r1,r2⟩,g0,g1,g2⟩:=fM k;obtain⟨⟨s0,s1⟩,h0,h1⟩:=gC j;have HF:=Lib.hid (nu (M:=M) (r:=((zU:K (M+1)),(2:Int),0)) y (by show (2:Int)≠0;decide));have C:=a7 q;clear q i k j;go_wp2_with fail;refine bodyPost_ret (v:=Zu #[Za #[Zi Zk 0,Zs Zn 0 0,Zs Zn 0 0],Za #[Zi Zk 2,Zi Zk 0]]) (by simp[results,results10,go_sem,r0,r1,r2,s0,s1]) rfl ?_;rw[C.out];exact HF.out
 | true=>
 have ak:h9 M m t l=if l.all mj=false then (zU,6,0) else jQ [] m t (jo M l).reverse 0:=by unfold h9;rw[ar.out,if_neg (by simp[x,B])]
 have F:=(i.out w2 D).2.2.2;have br:=D.size;have ax:=Lib.hid (rJ S M n hM l _ w2 (HV.out.keep (a6 F HB.out) fun _ h=>h) (fun b f=>Zd (HB.out b f) F.size) hl);have aK:=a7 ak;have aJ:=a7 x;clear ak q0 q1 q2 q3 q4 x;go_wp2_with fail;refine ax.out.mono ?_;rintro e E ⟨au,⟨I,sb,rfl,aE⟩|⟨I,rfl⟩⟩;case inr=>
  have z:=D.trans (au.mono D.size);have q:h9 M m t l=(zU,6,0):=by rw[aK.out,if_pos I]
  clear ax;obtain⟨-,k,j,y⟩:=i.out E z;obtain⟨⟨r0,r1,r2⟩,g0,g1,g2⟩:=fM k;obtain⟨⟨s0,s1⟩,h0,h1⟩:=gC j;have HF:=Lib.hid (nu (M:=M) (r:=((zU:K (M+1)),(6:Int),0)) y (by show (6:Int)≠0;decide));have C:=a7 q;clear q i k j;go_wp2_with fail;refine bodyPost_ret (v:=Zu #[Za #[Zi Zk 0,Zs Zn 0 0,Zs Zn 0 0],Za #[Zi Zk 6,Zi Zk 0]]) (by simp[results,results10,go_sem,r0,r1,r2,s0,s1]) rfl ?_;rw[C.out];exact HF.out
 have z:=D.trans (au.mono D.size);have aT:=au.size;have q:h9 M m t l=jQ [] m t (jo M l).reverse 0:=by rw[aK.out,if_neg (by rw[I];simp)]
 obtain⟨r,hr⟩:=iw (jQ [] m t (jo M l).reverse 0);have C:Hid (h9 M m t l=r):=by show _=_;rw[hr];exact q
 have bb:Hid (r.2.1=0->r.2.2=0):=fun h=>by rw[hr]at h ⊢;exact E7 (sJ B).2 (by have h1:=(sJ B).1;cases m with|zero=>exact absurd h1 (by show ¬(1:Int)<=0;omega)|succ m=>omega) h
 obtain⟨⟨q0,q1,q2,q3,q4⟩,-,-,O⟩:=i.out E z;have bd:gD m t 1=true/\fJ m t<=200:=by have:=aJ.out;unfold Eo at this;simp only[Bool.and_eq_true,decide_eq_true_eq]at this;exact⟨this.1.1,this.1.2⟩
 have ap:=sJ B;have bl:1<=m:=by
  have h1:=ap.1;cases m with
  | zero=>exact absurd h1 (by show ¬(1:Int)<=0;omega)
  | succ m=>omega
 have aW:∀p,p∈(jo M l).reverse->gV (M+1) p.2=true:=fun p hp=>yk hM I p (List.mem_reverse.1 hp);have aC:Hid (∀V cb cs,Bw E V->E.heap.size<=cb->V.heap[cb]?=Zo (mH cs 0)->nJ (fun b=>E.heap.size<=b/\b<V.heap.size/\b≠cb) V cs->Calls prog 41 #[Zp (Zo ⟨cb,0,Zn⟩),Za #[Zi Zk x0,Zi Zk x1,Zt x2,Zs xa xl xc,Zs ya yl yc],Zp (Zo ⟨sb,0,Zn⟩)] V fun e X=>b7 cb V X/\((r.2.1=0/\∃kb,e=Zr (Zu #[Zp (Zo ⟨kb,0,Zn⟩),.nilIface])/\d8 (fun b=>b<X.heap.size) X (M+1) r.1 (Zp (Zo ⟨kb,0,Zn⟩))/\gV (M+1) r.1=true)∨(r.2.1≠0/\∃tt xx d,e=Zr (Zu #[Zp Zn,.iface tt xx])/\mi d (.iface tt xx) r.2.1 r.2.2))):=fun V cb cs hV bg ae ah=>by
  have af:=O.trans (hV.mono O.size);have bh:=(Array.getElem?_eq_some_iff.1 ae).1;have aZ:=hV.size;have be:=aE.keep (S':=fun b=>b<V.heap.size/\b≠cb) (a6 hV (Ov.lt (fun b f=>Zd (HB.out b f) F.size) aT)) fun b f=>by have:=Ov.lt (fun b f=>Zd (HB.out b f) F.size) aT b f;exact⟨om,om⟩
  have:=DJ M hM m (fun b=>b<V.heap.size/\b≠cb) t _ _ _ _ _ (jo M l).reverse 1 (Zp (Zo ⟨sb,0,Zn⟩)) 1 0 cb cs V (bk.out.keep (a6 af HB.out) fun b f=>by have:=HB.out b f;have:=O.size;exact⟨om,om⟩) be (fun b f=>f) bh (ah.keep (fun _ _=>rfl) fun b f=>⟨f.2.1,f.2.2⟩) ae bd.1 ap.2 aW om;refine this.mono ?_;rw[<- hr];rintro e X ⟨hn,⟨h0,u,rfl,bf,-⟩|⟨h0,u,d,rfl,ad⟩⟩
  ·have x:=pw (M:=M) hM (sn:=[]) (t:=t) (env:=(jo M l).reverse) (pl:=0) ap.2 (by rw[<- hr];exact h0) bl;rw[<- hr]at x;have R:=bf.ok x;obtain⟨kb,rfl,-⟩:=id R.ptr;refine⟨hn,.inl ⟨h0,kb,rfl,R.keep (fun _ _=>rfl) fun b f=>?_,x⟩⟩;rcases f with f|f;·exact Zd f.1 hn.size
   ·exact f.2.1
  ·obtain⟨tt,xx,rfl⟩:=ad.iface;exact⟨hn,.inr ⟨h0,tt,xx,d,rfl,ad⟩⟩
 have ba:Hid (∀V,Bw w1 V->kG V):=fun V h=>kC h aR (b8 aR);have aP:∀V,Bw E V->V.cell? ⟨w.heap.size,0,Zn⟩=Zo (Zi Zk x0)/\V.cell? ⟨w.heap.size,1,Zn⟩=Zo (Zi Zk x1)/\V.cell? ⟨w.heap.size,2,Zn⟩=Zo (Zt x2)/\V.cell? ⟨w.heap.size,3,Zn⟩=Zo (Zs xa xl xc)/\V.cell? ⟨w.heap.size,4,Zn⟩=Zo (Zs ya yl yc):=fun V hV=>(i.out V (z.trans (hV.mono z.size))).1;have ag:=a7 aP;clear ax aE q hr aP q0 q1 q2 q3 q4;have ay:Bw E E.drew:=(Below.refl _ _).drew;have bt:E.heap.size<=E.drew.heap.size:=Nat.le_refl _;have bn:E.drew.heap.size<=E.heap.size:=Nat.le_refl _;go_upto_region 6 with fail;refine wp_region_held_drew (S:=fun w'=>w'.cell? ⟨w.heap.size,0,Zn⟩=Zo (Zi Zk x0)/\w'.cell? ⟨w.heap.size,1,Zn⟩=Zo (Zi Zk x1)/\w'.cell? ⟨w.heap.size,2,Zn⟩=Zo (Zt x2)/\w'.cell? ⟨w.heap.size,3,Zn⟩=Zo (Zs xa xl xc)/\w'.cell? ⟨w.heap.size,4,Zn⟩=Zo (Zs ya yl yc)) zK (ag.out _ ay) (fun hHeld=>?_);generalize E.drew=V at *;refine tk 1 ?_;refine tk 2 ?_;refine iT 0 fun K hK=>?_;go_simp;go_at_call 40;refine (tO Zn V).mono ?_;rintro e V1 ⟨cb,cs,rfl,af,bg,ae,ah⟩;have ac:=ay.trans (af.mono ay.size);have aZ:=af.size;refine hK.out _ _ (ag.out V1 ac) (fun hHeld=>?_);have aY:=Lib.hid (aC.out V1 cb cs ac om ae (ah.keep (fun _ _=>rfl) fun b f=>⟨by have:=f.1;omega,f.2⟩));clear hK K ah ae aC;refine iT 3 fun K hK=>?_;go_simp;go_at_call 41;refine aY.out.mono ?_;rintro e X ⟨bj,ab⟩;have av:Bw E X:=ac.trans (bj.below om om);obtain⟨rv,re,rfl⟩:∃rv re,e=Zr (Zu #[Zp rv,re]):=by rcases ab with ⟨-,kb,rfl,-⟩|⟨-,tt,xx,d,rfl,-⟩<;>exact⟨_,_,rfl⟩
 have P:=a7 ab;refine hK.out _ _ (ag.out X av) (fun hHeld=>?_);clear hK K aY ab;refine tk 4 ?_;refine tk 5 ?_;refine tk 6 ?_;refine tk 7 ?_;refine tk 8 ?_;refine wpAnyH_done zK ?_ _;go_simp;have A:=z.trans (av.mono z.size);have bu:=A.size;have bp:=av.size;clear hHeld ag;rcases P.out with ⟨L,kb,g,R,x⟩|⟨L,tt,xx,d,g,ad⟩;case inr=>
  injection g with g;injection g with g;have g:=congrArg Array.toList g;simp only[List.cons.injEq,and_true]at g;obtain⟨-,rfl⟩:=g;have U:=Lib.hid (xV d _ r.2.1 r.2.2 X (ba.out X A) ad);clear P ad;go_wp2_with fail;refine U.out.mono ?_;rintro e Y ⟨rfl,aa⟩;have aB:=aa.size;obtain⟨Z,hZ⟩:=iw (Y.alloc (Zc #[Zi Zk r.2.1,Zi Zk (r.2.2:Nat)] 33));have N:Bw X Z:=by rw[hZ];exact aa.alloc aB _
  have aL:Z.heap[Y.heap.size]?=Zo (Zc #[Zi Zk r.2.1,Zi Zk (r.2.2:Nat)] 33 (0,0)):=by rw[hZ];exact heap_alloc_new _ _
  have o:=A.trans (N.mono A.size);obtain⟨-,k,j,y⟩:=i.out Z o;obtain⟨⟨t0,t1⟩,-⟩:=gC aL;obtain⟨⟨r0,r1,r2⟩,g0,g1,g2⟩:=fM (show Z.drew.heap[w.heap.size+1]?=_ from k);obtain⟨⟨s0,s1⟩,h0,h1⟩:=gC (show Z.drew.heap[w.heap.size+1+1]?=_ from j);have HF:=Lib.hid (nu (M:=M) (r:=r) y.drew L);have bo:(r.2.1==0)=false:=by simpa using L
  have bm:w.heap.size+3<=Y.heap.size:=om;have aQ:Z.drew.cell? ⟨Y.heap.size,0,Zn⟩=Zo (Zi Zk r.2.1):=t0;have aN:Z.drew.cell? ⟨Y.heap.size,1,Zn⟩=Zo (Zi Zk (r.2.2:Nat)):=t1;clear U N aL o k j y i;go_upto_region 9 with fail;rw[<- hZ];clear hZ;refine wp_region_held_drew (S:=fun w'=>w'.cell? ⟨Y.heap.size,0,Zn⟩=Zo (Zi Zk r.2.1)/\w'.cell? ⟨Y.heap.size,1,Zn⟩=Zo (Zi Zk (r.2.2:Nat))) zK ⟨aQ,aN⟩ (fun hHeld=>?_);generalize Z.drew=Wd at *;refine tk 0 ?_;refine tk 1 ?_;refine iT 2 fun K hK=>?_;go_simp;have aq:Hid ((((Wd.setCell ⟨w.heap.size+1,0,Zn⟩ (Zi Zk 0)).setCell ⟨w.heap.size+1,1,Zn⟩ (Zs Zn 0 0)).setCell ⟨w.heap.size+1,2,Zn⟩ (Zs Zn 0 0)).cell? ⟨Y.heap.size,0,Zn⟩=Zo (Zi Zk r.2.1)/\(((Wd.setCell ⟨w.heap.size+1,0,Zn⟩ (Zi Zk 0)).setCell ⟨w.heap.size+1,1,Zn⟩ (Zs Zn 0 0)).setCell ⟨w.heap.size+1,2,Zn⟩ (Zs Zn 0 0)).cell? ⟨Y.heap.size,1,Zn⟩=Zo (Zi Zk (r.2.2:Nat))):=
   ⟨(World.cell?_of_block (a:=⟨Y.heap.size,0,Zn⟩) (gi (by show Y.heap.size≠_;omega))).trans aQ,(World.cell?_of_block (a:=⟨Y.heap.size,1,Zn⟩) (gi (by show Y.heap.size≠_;omega))).trans aN⟩
  refine hK.out _ _ aq.out (fun hHeld=>?_);clear hK K;refine iT 3 fun K hK=>?_;go_simp;refine hK.out _ _ ⟨(World.cell?_of_block (a:=⟨Y.heap.size,0,Zn⟩) (hY (by show Y.heap.size≠_;omega))).trans aq.out.1,(World.cell?_of_block (a:=⟨Y.heap.size,1,Zn⟩) (hY (by show Y.heap.size≠_;omega))).trans aq.out.2⟩ (fun hHeld=>?_);clear hK K;refine wpAnyH_done zK ?_ _;go_simp;go_wp2_with fail;refine bodyPost_ret (v:=Zu #[Za #[Zi Zk 0,Zs Zn 0 0,Zs Zn 0 0],Za #[Zi Zk r.2.1,Zi Zk (r.2.2:Nat)]]) (by simp[results,results10,go_sem,r0,r1,r2,s0,s1]) rfl ?_;rw[C.out];exact HF.out
 injection g with g;injection g with g;have g:=congrArg Array.toList g;simp only[List.cons.injEq,Value.pointer.injEq,and_true]at g;obtain⟨rfl,rfl⟩:=g;have U:=Lib.hid (ym X);have aG:=a7 R;have ai:=a7 x;clear P R x;go_wp2_with fail;refine U.out.mono ?_;rintro e Y ⟨rfl,aa⟩;have aB:=aa.size;obtain⟨Z,hZ⟩:=iw (Y.alloc (Zc #[Zi Zk 0,Zi Zk 0] 33));have N:Bw X Z:=by rw[hZ];exact aa.alloc aB _
 have o:=A.trans (N.mono A.size);have al:=pE ai.out;obtain⟨aF,aO⟩:=ie al;have aS:=Lib.hid (o9 (M+2) (fun b=>b<X.heap.size) (mJ r.1) _ 1 Z ((aG.out.up).keep (fun b f=>N.block b f) fun _ h=>h) (fun b f=>Zd f N.size) aF aO);clear U aG aF aO al ai;go_wp2_with fail;rw[<- hZ];clear hZ;refine aS.out.mono ?_;rintro e Z2 ⟨aM,y0,y1,y2,L3,L4,rfl,aA,am,aj,Q,aV⟩;obtain⟨k0,ua,ul,uc,ta,tl,tc,rfl,rfl,rfl⟩:=aA.shape;have aw:=o.trans (aM.mono o.size);obtain⟨-,k,j,y⟩:=i.out Z2 aw;obtain⟨⟨r0,r1,r2⟩,g0,g1,g2⟩:=fM k;obtain⟨⟨s0,s1⟩,h0,h1⟩:=gC j;have H:∀b,Z.heap.size<=b->b<Z2.heap.size->(((((Z2.setCell ⟨w.heap.size+1,0,Zn⟩ (Zi Zk k0)).setCell ⟨w.heap.size+1,1,Zn⟩ (Zs ua ul uc)).setCell ⟨w.heap.size+1,2,Zn⟩ (Zs ta tl tc)).setCell ⟨w.heap.size+1+1,0,Zn⟩ (Zi Zk 0)).setCell ⟨w.heap.size+1+1,1,Zn⟩ (Zi Zk 0)).heap[b]?=Z2.heap[b]?:=fun b h1 h2=>by have:=o.size;rw[hY om,gi om]
 have ao:(((((Z2.setCell ⟨w.heap.size+1,0,Zn⟩ (Zi Zk k0)).setCell ⟨w.heap.size+1,1,Zn⟩ (Zs ua ul uc)).setCell ⟨w.heap.size+1,2,Zn⟩ (Zs ta tl tc)).setCell ⟨w.heap.size+1+1,0,Zn⟩ (Zi Zk 0)).setCell ⟨w.heap.size+1+1,1,Zn⟩ (Zi Zk 0)).heap.size=Z2.heap.size:=by rw[ms,jZ]
 have bq:w.heap.size<=Z.heap.size:=by have:=o.size;omega
 have HF:Hid (wz M r w (Zr (Zu #[Za #[Zi Zk k0,Zs ua ul uc,Zs ta tl tc],Za #[Zi Zk 0,Zi Zk 0]])) (((((Z2.setCell ⟨w.heap.size+1,0,Zn⟩ (Zi Zk k0)).setCell ⟨w.heap.size+1,1,Zn⟩ (Zs ua ul uc)).setCell ⟨w.heap.size+1,2,Zn⟩ (Zs ta tl tc)).setCell ⟨w.heap.size+1+1,0,Zn⟩ (Zi Zk 0)).setCell ⟨w.heap.size+1+1,1,Zn⟩ (Zi Zk 0))):=by
  have G:∀s,s∈L3++L4->Z.heap.size<=s.b/\s.b<Z2.heap.size:=Q.1;refine⟨iE (gN y om) om,_,_,_,L3,L4,by rw[L,bb.out L];rfl,fun _=>⟨aA.keep (fun b f=>H b f.1 f.2) fun b f=>⟨by have:=f.1;omega,by rw[ao];exact f.2⟩,?_,?_,?_,aV⟩,fun h=>absurd L h⟩;·exact am.same fun s hs=>H s.b (G s (List.mem_append_left _ hs)).1 (G s (List.mem_append_left _ hs)).2
  ·exact aj.same fun s hs=>H s.b (G s (List.mem_append_right _ hs)).1 (G s (List.mem_append_right _ hs)).2
  ·exact Q.mono fun b f=>⟨by have:=f.1;omega,by rw[ao];exact f.2⟩
 clear aA am aj Q k j y i aS H ao;go_wp2_with fail;refine bodyPost_ret (v:=Zu #[Za #[Zi Zk k0,Zs ua ul uc,Zs ta tl tc],Za #[Zi Zk 0,Zi Zk 0]]) (by simp[results,results10,go_sem,r0,r1,r2,s0,s1]) rfl ?_;rw[C.out];exact HF.out
end Go.Proofs.YtcfojmaccikgeaaGreatDoor
