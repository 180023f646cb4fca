import Derived.Test.YtcfojmaccikgeaaGreatDoorYSK
import Derived.Test.YtcfojmaccikgeaaGreatDoorB35
import Derived.Test.YtcfojmaccikgeaaGreatDoorB36
open Go.Value renaming slice→Zs,int→Zi,string→Zt,agg→Za
open Go.IntKind renaming i64→Zk
open Go.Obj renaming cells→Zc
open Option renaming none→Zn,some→Zo
namespace Go.Proofs.YtcfojmaccikgeaaGreatDoor
open Go.RowKit Go.Proofs.Tryz
theorem ry(M:Nat)(a:5<=M):∀m,ET M m:=by
 intro m;induction m with
 | zero=>intro S t l c0 c1 c2 c3 c4 v d e w b;exact b.elim
 | succ m c=>exact wT M m a c
set_option maxRecDepth 100000
set_option maxHeartbeats 16000000
theorem GE{M:Nat}{P:K (M+1)->Prop}:∀(a:mq M),(∀p,p∈a->P p.2)->∀x y k,jx a x y=Zo k->P k:=by
 intro a;induction a with
 | nil=>intro _ x y k h;cases h
 | cons p r c=>
  intro b x y k h;obtain⟨⟨s,v⟩,q⟩:=p;rw[jx]at h;split at h;·cases h;exact b _ (List.mem_cons_self ..)
  ·exact c (fun p h=>b p (List.mem_cons_of_mem _ h)) x y k h
def IJ(M m:Nat):Prop:=∀(S:ZP)(a:mq M)(t:T m)(l:List (ZN×K (M+1)))(c0 c1 c2 c3 c4 v c:Value)(d:Nat)(b:Nat)(w:World),fT S w m t c0 c1 c2 c3 c4->jf S w (M+1) l v->gY S w (M+1) a c->(Bd S w)->gp m t (d:Int)=true->36<=nj m t->l.length<=1048576+2*d->a.length<=1048576->(∀p,p∈l->gF (M+1) p.2=true)->(∀p,p∈a->gF (M+1) p.2=true)->b+d9 m t<=1000 ->
 Calls prog 59 #[v,c,Za #[c0,c1,c2,c3,c4],Zi Zk (b:Int)] w (mX (gR a m t l.reverse b).2 w)
theorem Dx (M m:Nat) (hM:5<=M) (S:ZP) (sn:mq M) (t:T (m+1)) (l:List (ZN × K (M+1))) (c0 c1 c2 c3 c4 v sv:Value) (d:Nat) (pl:Nat) (w:World) (ht:fT S w (m+1) t c0 c1 c2 c3 c4) (hv:jf S w (M+1) l v) (bj:gY S w (M+1) sn sv) (hB:Bd S w) (hg:gp (m+1) t (d:Int)=true) (B:Nd.sort t=38∨Nd.sort t=39) (bE:l.length<=1048576+2*d) (bi:sn.length<=1048576) (aZ:∀ p,p∈l->gF (M+1) p.2=true) (U:∀ p,p∈sn->gF (M+1) p.2=true) (bT:pl+d9 (m+1) t<=1000) :
  Calls prog 59 #[v,sv,Za #[c0,c1,c2,c3,c4],Zi Zk (pl:Int)] w (mX (gR sn (m+1) t l.reverse pl).2 w):=by
 have aB:36<=Nd.sort t:=by omega
 simp only[gp,Bool.and_eq_true,decide_eq_true_eq,List.all_eq_true]at hg;obtain⟨⟨aU,hj⟩,aV⟩:=hg;have X:=Ac hj aB;obtain⟨rfl,rfl,rfl,hs,bJ,bK,h3,h4,⟨na,nl,nc,rfl,bB⟩,⟨ka,kl,kc,rfl,bC⟩⟩:=ht;obtain⟨_,_,bH,-⟩:=id h3;cases bH
 obtain⟨_,_,bI,-,R⟩:=id h4;cases bI
 have ak:(Nd.kids t).length=1:=by rw[X.cnt];rcases B with h|h<;>(rw[h];rfl)
 have bd:=X.op 0 (by omega);have g:1<=nj m ((Nd.kids t)[0]'(by omega))/\nj m ((Nd.kids t)[0]'(by omega))<=35:=by
  rcases bd with h|h;·exact h.2
  ·have:=h.1;rcases B with e|e<;>(rw[e]at this;exact absurd this (by decide))
 have ba:1<=m:=by
  cases m with
  | zero=>have:=g.1;exact absurd this (by show ¬(1:Int)<=0;omega)
  | succ m=>omega
 obtain⟨b,off,rfl,bA,Q⟩:=R (by intro h;rw[h]at ak;cases ak);obtain⟨z0,z1,z2,z3,z4,e0,e1,e2,e3,e4,aH⟩:=Q 0 (by omega);obtain⟨y0,y1,y2,ya,yl,yc,za,zl,zc,rfl,rfl,rfl,rfl,rfl⟩:=aH.shape;simp only[Nat.zero_mul,Nat.add_zero]at e0 e1 e2 e3 e4;have z:=aV _ (List.getElem_mem (show 0<(Nd.kids t).length by omega));generalize hx:(Nd.kids t)[0]'(by omega)=x at *;have aY:Nd.kids t=[x]:=by obtain⟨y,hy⟩:=List.length_eq_one_iff.1 ak;rw[<- hx];simp[hy]
 obtain⟨F,am,aF⟩:∃F,iy (α:=T m) sn t=jx sn F (Nd.num t)/\(Nd.sort t=38/\F=⟨#[]⟩∨Nd.sort t=39/\∃p q,na=Zo ⟨p,q,Zn⟩/\0<(Nd.names t).length/\p<w.heap.size/\w.cell? ⟨p,q,Zn⟩=Zo (Zt F)):=by
  rcases B with h|h;·refine⟨⟨#[]⟩,?_,.inl ⟨h,rfl⟩⟩;unfold iy;rw[if_pos h,X.emit h];rfl
  ·obtain⟨⟨a,al,bV,-⟩,J,h2⟩:=X.send h;obtain⟨p0,q0,cap,aI,bF,bG⟩:=ki h3 hB (by rw[al];simp);injection aI with aI _ _;have hl:(Nd.names t).length=1:=by rw[al];rfl
   have hc:=(bG 0 (by omega)).1;have ea:(Nd.names t)[0]'(by omega)=a:=by simp[al]
   rw[ea]at hc;refine⟨a,?_,.inr ⟨h,p0,q0,aI,by omega,bF,by simpa using hc⟩⟩;unfold iy;rw[if_neg (by show ¬Nd.sort t=38;rw[h];decide)];have:(show Nd (T m) from t).names.getD 0 ByteArray.empty=a:=by show (Nd.names t).getD 0 ByteArray.empty=a;rw[al];rfl
   rw[this]
 obtain⟨r,hr⟩:=ii (gR ([]:mq M) m x l.reverse (pl+1));have A:mC sn m t l.reverse pl 0 [] x=r:=by
  unfold mC;rw[hr,<- Aj sn m x _ z g.2];have e1:jU (Nd.sort t) (Nd.names t) 0 ([]:List (K (M+1))) l.reverse=l.reverse:=by unfold jU;rw[if_neg om,if_neg om,if_neg om]
  have e2:fK (Nd.kids t) 0 pl=pl+1:=by unfold fK;simp[b4]
  rw[e1,e2]
 have D:=qv.start sn m t l.reverse pl;have be:fK (Nd.kids t) 0 pl=pl+1:=by unfold fK;simp[b4]
 have aA:0<(Nd.kids t).length:=by omega
 have aS:jx sn F (Nd.num t)=Zn->(gR sn (m+1) t l.reverse pl).2=(5,pl):=fun h=>by rw[gR,if_pos ⟨B,am.trans h⟩]
 have aR:jx sn F (Nd.num t)≠Zn->r.2.1≠0->(gR sn (m+1) t l.reverse pl).2=r.2:=fun h h0=>by
  have J:io sn m t l.reverse pl=([],r.2):=by have:=D.bad aA (by rw[hx,A];exact h0);rw[hx,A]at this;exact this
  rw[oL fun _=>by rw[am];exact h,J];show (if r.2.1≠0 then ((zU:K (M+1)),r.2) else _).2=r.2;rw[if_pos h0]
 have aT:∀H,jx sn F (Nd.num t)=Zo H->r.2.1=0->(gR sn (m+1) t l.reverse pl).2=if ji r.1 H=true then (0,0) else (6,pl+1):=fun H h h0=>by
  have U:iy (α:=T m) sn t=Zo H:=am.trans h;have hw:b7 (Nd.sort t) ((iy sn (show Nd (T m) from t)).getD zU) 0 r.1 []=ji r.1 H:=by have e:iy sn (show Nd (T m) from t)=Zo H:=U;rw[e];rcases B with e|e<;>(rw[e];simp[b7])
  rw[oL fun _=>by rw[U];simp];cases an:ji r.1 H with
  | false=>
   have J:io sn m t l.reverse pl=([],6,pl+1):=by have:=D.wrong aA (by rw[hx,A];exact h0) (by rw[hx,A,hw];exact an);rw[be]at this;exact this
   rw[J];rfl
  | true=>have J:=(D.next aA (by rw[hx,A];exact h0) (by rw[hx,A,hw];exact an)).done (by omega);rw[J,if_neg (by simp)];unfold kA;rw[if_pos aB];rfl
 have bn:r.2.1=0->r.2.2=0:=fun h=>by rw[hr]at h ⊢;exact Fo g.2 ba h
 have au:r.2.1=0->gF (M+1) r.1=true:=fun h=>by rw[hr]at h ⊢;exact pu hM g.2 h ba
 obtain⟨W,hW⟩:=ii (((w.alloc (Zc #[Zi Zk (Nd.sort t),Zi Zk (Nd.num t),Zt (Nd.text t),Zs na (Nd.names t).length nc,Zs (Zo ⟨b,off,Zn⟩) (Nd.kids t).length kc] 40)).alloc (Zc #[Zi Zk 0,Zi Zk 0] 33)).alloc (Zc #[] 31));have o:Bw w W:=by rw[hW];exact ((gx _ _).alloc zS _).alloc zE _
 have hz:w.heap.size+3<=W.heap.size:=by rw[hW];simp
 have bk:W.heap[w.heap.size]?=Zo (Zc #[Zi Zk (Nd.sort t),Zi Zk (Nd.num t),Zt (Nd.text t),Zs na (Nd.names t).length nc,Zs (Zo ⟨b,off,Zn⟩) (Nd.kids t).length kc] 40 (0,0)):=by rw[hW,Below.heap_alloc _ _ _ zE,Below.heap_alloc _ _ _ zS];exact heap_alloc_new _ _
 have bl:mG W (w.heap.size+1):=by rw[hW];exact (y8 w _).alloc _
 have N:=hB b bA;have i:Hid (∀V,Bw W V->(D5 V w.heap.size (Nd.sort t) (Nd.num t) (Nd.text t) na (Nd.names t).length nc (Zo ⟨b,off,Zn⟩) (Nd.kids t).length kc)/\(V.cell? ⟨b,off,Zn⟩=Zo (Zi Zk y0)/\V.cell? ⟨b,off+1,Zn⟩=Zo (Zi Zk y1)/\V.cell? ⟨b,off+2,Zn⟩=Zo (Zt y2)/\V.cell? ⟨b,off+3,Zn⟩=Zo (Zs ya yl yc)/\V.cell? ⟨b,off+4,Zn⟩=Zo (Zs za zl zc))/\mG V (w.heap.size+1)/\Bw w V):=fun V hV=>by have E:=o.trans (hV.mono o.size);exact⟨fZ ((hV.block w.heap.size om).trans bk),⟨kC E e0 N,kC E e1 N,kC E e2 N,kC E e3 N,kC E e4 N⟩,(hV.block (w.heap.size+1) om).trans bl,E⟩
 have c:Hid (∀V (q:Int×Nat),Bw W V->(gR sn (m+1) t l.reverse pl).2=q->mX (gR sn (m+1) t l.reverse pl).2 w (.returned (Za #[Zi Zk q.1,Zi Zk (q.2:Nat)])) ((V.setCell ⟨w.heap.size+1,0,Zn⟩ (Zi Zk q.1)).setCell ⟨w.heap.size+1,1,Zn⟩ (Zi Zk (q.2:Nat)))):=fun V q hV hq=>by rw[hq];exact⟨rfl,iF (o.trans (hV.mono o.size)) (by omega)⟩
 have ah:∀V,Bw w V->Bd S V:=fun V h b hb=>Nat.lt_of_lt_of_le (hB b hb) h.size;have ab:=a7 ah;have HB:=a7 hB;have aw:=Lib.hid (yN M S sn sv F (Nd.num t) W (bj.keep (a6 o hB) fun _ h=>h) (ah W o) bi);have av:Hid (∀V,Bw w V->Calls prog 32 #[v,Za #[Zi Zk y0,Zi Zk y1,Zt y2,Zs ya yl yc,Zs za zl zc],Zi Zk ((pl+1:Nat):Int)] V (lj S M r V)):=fun V hV=>by
  have h2:d9 (m+1) t=1+b4 (fun k=>d9 m k) (Nd.kids t):=rfl;have J:d9 m x<=b4 (fun k=>d9 m k) (Nd.kids t):=by rw[aY];simp[b4]
  rw[hr];exact ry M hM m S x l _ _ _ _ _ v (d+1) (pl+1) V (aH.keep (a6 hV hB) fun _ h=>h) (hv.keep (a6 hV hB) fun _ h=>h) (ah V hV) (by simpa using z) g.2 (by omega) aZ (by omega)
 have ad:=a7 aS;have ac:=a7 aR;have ae:=a7 aT;have bz:=a7 bn;have bt:=a7 au;have bu:=a7 (GE (P:=fun k=>gF (M+1) k=true) sn U F (Nd.num t));have bO:(pl:Int)+1<2000:=by omega
 have bN:(0:Int)<=(pl:Int):=by omega
 have bf:((pl+1:Nat):Int)=(pl:Int)+1:=by omega
 obtain⟨⟨q0,q1,q2,q3,q4⟩,-,-,-⟩:=i.out W (Below.refl _ _);have bc:Nd.sort t=39->∃p q,na=Zo ⟨p,q,Zn⟩/\0<(Nd.names t).length/\W.cell? ⟨p,q,Zn⟩=Zo (Zt F):=fun h=>by
  rcases aF with ⟨h',-⟩|⟨-,p,q,g1,g2,g3,g4⟩;·omega
  ·exact⟨p,q,g1,g2,kC o g4 g3⟩
 have bb:Nd.sort t=38->F=⟨#[]⟩:=fun h=>by
  rcases aF with ⟨-,h'⟩|⟨h',-⟩;·exact h'
  ·omega
 have aM:=a7 bc;have aL:=a7 bb;have ag:=a7 B;generalize jx sn F (Nd.num t)=ra at *;generalize bD:(gR sn (m+1) t l.reverse pl).2=cc at *;clear bD aS aR aT bn au bc bb aF B am A hr D be z aV X hj aH Q R h3 h4 hv bj hB bk bl e0 e1 e2 e3 e4 bB bC hs bJ bK bd g aZ U aY aB ah bE bi aU;clear ak hx;generalize Nd.sort t=op at *;generalize Nd.num t=nu at *;generalize Nd.text t=tx at *;generalize (Nd.names t).length=nn at *;generalize (Nd.kids t).length=kn at *;have bP:(0:Int)<(kn:Int):=by omega
 go_in;go_upto_region 2 with fail;rw[<- hW];clear hW;go_cut [30] from 23 to 29 (fun bv wx=>bv=.bool true/\wx=W);case first=>
  by_cases f:op=38
  ·have hb:(op==38)=true:=by simp[f]
   clear f;go_wp2;go_meet;exact⟨rfl,rfl⟩
  ·have hb:(op==38)=false:=by simpa using f
   have s:(op==39)=true:=by simpa using ag.out.resolve_left f
   clear f;go_wp2;go_meet;exact⟨rfl,rfl⟩
 case rest=>
  obtain⟨rfl,aa⟩:=hcut;rw[aa];clear aa;go_upto_if 33 with fail;go_cut [10] from 34 to 37 (fun nv wx=>nv=Zt F/\wx=W);case first=>
   by_cases f:op=38
   ·have hb:(op==39)=false:=by subst f;rfl
    have HE:=a7 (aL.out f);clear f;go_wp2;go_meet;exact⟨by rw[HE.out],rfl⟩
   ·obtain⟨p,q,rfl,bQ,hc⟩:=aM.out (ag.out.resolve_left f);have hb:(op==39)=true:=by simpa using ag.out.resolve_left f
    have bR:(0:Int)<(nn:Int):=by omega
    clear f;go_wp2;go_meet;exact⟨rfl,rfl⟩
  case rest=>
   obtain⟨rfl,aa⟩:=hcut;rw[aa];clear aa;clear aM aL ag;go_wp2_with fail;refine aw.out.mono ?_;rintro e w2 ⟨s,⟨hn,rfl⟩|⟨H,u0,ua,ul,uc,va,vl,vc,hn,rfl,aW⟩⟩
   ·obtain⟨G,j⟩:=ii (w2.alloc (Zc #[Zi Zk 0,Zs Zn 0 0,Zs Zn 0 0] 31));have ai:Bw w2 G:=by rw[j];exact gx _ _
    have u:=s.trans (ai.mono s.size);obtain⟨-,-,hf,-⟩:=i.out G u;obtain⟨⟨s0,s1⟩,h0,J⟩:=gg hf;have HF:=Lib.hid (c.out G (5,pl) u (ad.out hn));clear i c hf aw av ad ac ae hn q0 q1 q2 q3 q4;go_upto_region 7 with fail;rw[<- j];clear j;go_wp2_with fail;refine bodyPost_ret (v:=Za #[Zi Zk 5,Zi Zk (pl:Int)]) (by simp[results,results59,go_sem,s0,s1]) rfl ?_;exact HF.out
   obtain⟨G,j⟩:=ii (w2.alloc (Zc #[Zi Zk u0,Zs ua ul uc,Zs va vl vc] 31));have ai:Bw w2 G:=by rw[j];exact gx _ _
   have u:=s.trans (ai.mono s.size);have bm:G.heap[w2.heap.size]?=Zo (Zc #[Zi Zk u0,Zs ua ul uc,Zs va vl vc] 31 (0,0)):=by rw[j];exact heap_alloc_new _ _
   have bL:w2.heap.size<G.heap.size:=by rw[j];simp
   clear q0 q1 q2 q3 q4;obtain⟨⟨q0,q1,q2,q3,q4⟩,⟨f0,f1,f2,f3,f4⟩,-,O⟩:=i.out G u;have aP:=(i.out w2 s).2.2.2;have ar:=aW.keep (a6 ai (ab.out w2 aP)) fun _ h=>h;have af:=Lib.hid (av.out G O);rw[bf]at af;have bw:=a7 ar;have bx:=a7 bm;have HN:=a7 hn;have aK:=a7 (bu.out H hn);clear aw av aW ar bm hn s;go_upto_region 7 with fail;rw[<- j];clear j;go_wp2_with fail;refine af.out.mono ?_;rintro e I ⟨aO,d0,da,dl,dc,ea,el,ec,rfl,aE,-⟩;obtain⟨Z,hZ⟩:=ii ((I.alloc (Zc #[Zi Zk d0,Zs da dl dc,Zs ea el ec] 31)).alloc (Zc #[Zi Zk r.2.1,Zi Zk (r.2.2:Nat)] 33));have aD:Bw I Z:=by rw[hZ];exact (gx _ _).alloc zS _
   have bg:=aO.size;have aJ:Z.heap[I.heap.size]?=Zo (Zc #[Zi Zk d0,Zs da dl dc,Zs ea el ec] 31 (0,0)):=by rw[hZ,Below.heap_alloc _ _ _ zS];exact heap_alloc_new _ _
   have ao:Z.heap[I.heap.size+1]?=Zo (Zc #[Zi Zk r.2.1,Zi Zk (r.2.2:Nat)] 33 (0,0)):=by have:=heap_alloc_new (I.alloc (Zc #[Zi Zk d0,Zs da dl dc,Zs ea el ec] 31)) (Zc #[Zi Zk r.2.1,Zi Zk (r.2.2:Nat)] 33);rw[hZ];simpa using this
   have bW:I.heap.size+2<=Z.heap.size:=by rw[hZ];simp
   have L:=aO.trans (aD.mono bg);have C:=u.trans (L.mono u.size);obtain⟨-,-,aj,aQ⟩:=i.out Z C;have bU:=u.size;obtain⟨⟨a0,a1,a2⟩,-⟩:=fY aJ;obtain⟨⟨t0,t1⟩,bo,bp⟩:=gg ao;obtain⟨⟨g0,g1,g2⟩,-⟩:=fY ((L.block w2.heap.size bL).trans bx.out);obtain⟨⟨s0,s1⟩,h0,J⟩:=gg aj;by_cases n:r.2.1=0;case neg=>
    have HF:=Lib.hid (c.out Z r.2 C (ac.out (by rw[HN.out];simp) n));have bM:(r.2.1==0)=false:=by simpa using n
    clear i c af ad ac ae aj aJ ao aE q0 q1 q2 q3 q4 f0 f1 f2 f3 f4;go_upto_region 10 with fail;rw[<- hZ];clear hZ;go_wp2_with fail;refine bodyPost_ret (v:=Za #[Zi Zk r.2.1,Zi Zk (r.2.2:Nat)]) (by simp[results,results59,go_sem,s0,s1]) rfl ?_;exact HF.out
   have aX:=aE n;have aN:∀b,Ov S G.heap.size Zn I b->b<I.heap.size:=Ov.lt (ab.out G O) bg;have ax:=Lib.hid (nY M (fun b=>b<Z.heap.size) r.1 H _ _ _ _ _ _ Z (aX.keep (a6 aD aN) fun b hb=>Nat.lt_of_lt_of_le (aN b hb) aD.size) (bw.out.keep (a6 L (ab.out G O)) fun b hb=>ab.out Z aQ b hb) (fun _ h=>h) (bt.out n) aK.out);have bh:=ae.out H HN.out n;have aG:=bz.out n;rw[n]at t0;rw[aG]at t1;generalize an:ji r.1 H=sm at *;have bq:=a7 n;have br:=a7 aG;have HZ:=a7 hZ;have HS:=a7 bh;have az:=a7 aj;have ay:=a7 ao;clear n aG an bh aX aE af ad ac ae aj ao aJ q0 q1 q2 q3 q4 f0 f1 f2 f3 f4 s0 s1 h0 J;go_upto_region 10 with fail;rw[<- HZ.out];clear HZ hZ;go_wp2_with fail;refine ax.out.mono ?_;rintro e Y ⟨rfl,aC⟩;have ap:=C.trans (aC.mono C.size);obtain⟨⟨s0,s1⟩,h0,J⟩:=gg ((aC.block (w.heap.size+1) (by omega)).trans az.out);clear t0 t1 bo bp;obtain⟨⟨t0,t1⟩,bo,bp⟩:=gg ((aC.block (I.heap.size+1) (by omega)).trans ay.out);rw[bq.out]at t0;rw[br.out]at t1;have bS:¬I.heap.size+1=w.heap.size+1:=by omega
   cases sm with
   | true=>have HF:=Lib.hid (c.out Y (0,0) ap (by rw[HS.out,if_pos rfl]));clear ax HS i c az ay;go_wp2_with fail;refine bodyPost_ret (v:=Za #[Zi Zk 0,Zi Zk 0]) (by simp[results,results59,go_sem,s0,s1]) rfl ?_;exact HF.out
   | false=>have aq:Bw W ((Y.setCell ⟨I.heap.size+1,0,Zn⟩ (Zi Zk 6)).setCell ⟨I.heap.size+1,1,Zn⟩ (Zi Zk ((pl+1:Nat):Int))):=iF ap (by omega);have HF:=Lib.hid (c.out _ (6,pl+1) aq (by rw[HS.out,if_neg (by simp)]));rw[bf]at HF;clear ax HS i c az ay aq;go_wp2_with fail;refine bodyPost_ret (v:=Za #[Zi Zk 6,Zi Zk ((pl:Int)+1)]) (by simp[results,results59,go_sem,s0,s1]) rfl ?_;exact HF.out
end Go.Proofs.YtcfojmaccikgeaaGreatDoor
