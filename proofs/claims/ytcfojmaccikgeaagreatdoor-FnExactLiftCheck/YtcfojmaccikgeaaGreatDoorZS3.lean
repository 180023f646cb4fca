import Derived.Test.YtcfojmaccikgeaaGreatDoorB42
open Go.Value renaming slice→Zs,int→Zi,string→Zt,agg→Za
open Go.IntKind renaming i64→Zk
open Go.Obj renaming cells→Zc
open Option renaming none→Zn,some→Zo
open Nat renaming lt_of_lt_of_le→Zd
namespace Go.Proofs.YtcfojmaccikgeaaGreatDoor
set_option maxRecDepth 100000
set_option maxHeartbeats 16000000
open Go.RowKit Go.Proofs.Tryz
variable {M:Nat} {op:Int}
theorem CG:∀k,k<44->36<=k->∀j,j<4->im k j=decide ((jr k).getD j 0=65):=by decide
theorem Hu:∀k,k<44->36<=k->(jr k).length<=3:=by decide
theorem CF:∀k,k<44->36<=k->∀j,j<4->(k==40 || k==41 || decide (j<=1) && (!(j==1) || (jr k).getD 0 0==86) || !decide (j<(jr k).length))=true:=by decide
theorem CH:∀k,k<44->36<=k->∀j,j<4->(!((jr k).getD j 0==86) || (k==38 || k==39 || j==0 && decide (((k:Int),0)∈zQ)))=true:=by decide
theorem xY{names:List ZN}{i:Nat}{a:List (K (M+1))}{l:List (ZN×K (M+1))}(h:op=40∨op=41):gP op names i a l=l:=by unfold gP;rw[if_neg om,if_neg om,if_neg om]
theorem EF(h:¬(op=38∨op=39))(c a:K (M+1))(i:Nat)(k:K (M+1))(b:List (K (M+1))):b7 op c i k b=b7 op a i k b:=by unfold b7;simp only[if_neg h]
theorem JZ{S:ZP}{w:World}:a8 S w (M+1) (zU:K (M+1)) (Zi Zk 0) (Zs Zn 0 0) (Zs Zn 0 0):=
 ⟨rfl,by show (Lit.int Zk 0).wf=true;decide,⟨Zn,0,rfl,by show ([]:List ZN).length<=maxLen;simp,fun _ h=>(by cases h),fun h=>absurd rfl h⟩,Zn,0,rfl,by show ([]:List (K M)).length<=maxLen;simp,fun h=>absurd rfl h⟩
theorem yI(M m:Nat)(hM:5<=M)(hn:IJ M m):IJ M (m+1):=by
 intro S sn t l c0 c1 c2 c3 c4 v sv d H w ht hv bT hB hg aY ds cI bO bR cD;have aY:36<=Nd.sort t:=aY;by_cases be:Nd.sort t=38∨Nd.sort t=39;·exact Dx M m hM S sn t l c0 c1 c2 c3 c4 v sv d H w ht hv bT hB hg be ds cI bO bR cD
 simp only[gp,Bool.and_eq_true,decide_eq_true_eq,List.all_eq_true]at hg;obtain⟨⟨dI,hj⟩,cw⟩:=hg;have bU:=Ac hj aY;have dS:Nd.sort t<=43:=by have h:=hj;unfold gZ at h;simp only[Bool.and_eq_true,decide_eq_true_eq]at h;exact h.1.2
 obtain⟨k,hk⟩:∃k:Nat,Nd.sort t=(k:Int):=⟨(Nd.sort t).toNat,by omega⟩;have al:36<=k:=om;have aa:k<44:=om;have aF:=ht;obtain⟨rfl,rfl,rfl,hs,dy,dz,h3,h4,⟨na,nl,nc,rfl,dj⟩,⟨ka,kl,kc,rfl,dk⟩⟩:=ht;obtain⟨_,_,dw,-⟩:=id h3;cases dw
 obtain⟨_,_,dx,-⟩:=id h4;cases dx
 have bl:1+b4 (fun k=>d9 m k) (Nd.kids t)+H<=1000:=by have:d9 (m+1) t=1+b4 (fun k=>d9 m k) (Nd.kids t):=rfl;omega
 have ap:(Nd.kids t).length=(jr k).length:=by rw[bU.cnt,hk];rfl
 have dV:(Nd.kids t).length<=3:=by rw[ap];exact Hu k aa al
 have aK:=fun dD=>oL (M:=M) (sn:=sn) (t:=t) (env:=l.reverse) (pl:=dD) (fun h=>absurd h be);have cG:∀j,j<(Nd.kids t).length->∃hi:j<(bs (xP k)).size,((((bs (xP k))[j]'hi).toNat:Int)==97)=decide ((jr k).getD j 0=65):=fun j dq=>by
  have hi:j<(bs (xP k)).size:=by rw[wI k (by omega)];omega
  refine⟨hi,?_⟩;rw[<- CG k aa al j (by omega),Bool.eq_iff_iff,beq_iff_eq];exact FZ k j (by omega) hi
 obtain⟨W,hW⟩:=ii (((w.alloc (Zc #[Zi Zk (k:Int),Zi Zk (Nd.num t),Zt (Nd.text t),Zs na (Nd.names t).length nc,Zs ka (Nd.kids t).length kc] 40)).alloc (Zc #[Zi Zk 0,Zi Zk 0] 33)).alloc (Zc #[] 31));have bK:Bw w W:=by rw[hW];exact ((gx _ _).alloc zS _).alloc zE _
 have hz:W.heap.size=w.heap.size+3:=by rw[hW];simp
 have cM:W.heap[w.heap.size]?=Zo (Zc #[Zi Zk (k:Int),Zi Zk (Nd.num t),Zt (Nd.text t),Zs na (Nd.names t).length nc,Zs ka (Nd.kids t).length kc] 40 (0,0)):=by rw[hW,Below.heap_alloc _ _ _ zE,Below.heap_alloc _ _ _ zS];exact heap_alloc_new _ _
 have cN:mG W (w.heap.size+1):=by rw[hW];exact (y8 w _).alloc _
 have cO:W.heap[w.heap.size+2]?=Zo (Zc #[] 31 (0,0)):=by have:=heap_alloc_new ((w.alloc (Zc #[Zi Zk (k:Int),Zi Zk (Nd.num t),Zt (Nd.text t),Zs na (Nd.names t).length nc,Zs ka (Nd.kids t).length kc] 40)).alloc (Zc #[Zi Zk 0,Zi Zk 0] 33)) (Zc #[] 31);rw[hW];simpa using this
 have an:Hid (∀V,Below (w.heap.size+2) W V->(D5 V w.heap.size (k:Int) (Nd.num t) (Nd.text t) na (Nd.names t).length nc ka (Nd.kids t).length kc)/\mG V (w.heap.size+1)/\Bw w V):=fun V hV=>⟨fZ ((hV.block w.heap.size om).trans cM),(hV.block (w.heap.size+1) om).trans cN,bK.trans (hV.mono om)⟩;have F:Hid (∀V (q:Int×Nat),Below (w.heap.size+2) W V->(gR sn (m+1) t l.reverse H).2=q->mX (gR sn (m+1) t l.reverse H).2 w (.returned (Za #[Zi Zk q.1,Zi Zk (q.2:Nat)])) ((V.setCell ⟨w.heap.size+1,0,Zn⟩ (Zi Zk q.1)).setCell ⟨w.heap.size+1,1,Zn⟩ (Zi Zk (q.2:Nat)))):=fun V q hV hq=>by rw[hq];exact⟨rfl,iF (bK.trans (hV.mono om)) om⟩
 have HB:Hid (Bd S w):=hB;have ci:=a7 aF;have HV:=a7 hv;have dg:=a7 bT;have cZ:=a7 h4;have cV:=a7 cw;have cl:=a7 bU;have bC:=a7 bO;have df:=a7 bR;have bv:=a7 aK;have dd:=a7 cG;have ad:=a7 hk;have bB:=a7 be;have ch:=a7 ap;have bF:Hid (nK S (w.heap.size+2) M W (Zs (Zo ⟨w.heap.size+2,0,Zn⟩) 0 0) [] []):=⟨nr cO (Nat.le_refl _),fun j h=>absurd h (Nat.not_lt_zero _)⟩;have az:=a7 bl;have cf:Hid (∀w,Calls prog 91 #[Zi Zk (k:Int)] w fun e w'=>e=.returned (Zt (bs (xP k)))/\w'=w):=fun w=>nX k aa w;have ed:w.heap.size+3<=W.heap.size:=Nat.le_of_eq hz.symm;have dE:((k:Int)==38)=false:=by simpa using (show ¬(k:Int)=38 by omega)
 have dF:((k:Int)==39)=false:=by simpa using (show ¬(k:Int)=39 by omega)
 obtain⟨⟨q0,q1,q2,q3,q4⟩,-⟩:=an.out W (Below.refl _ _);rw[hk];clear aF hv bT hB cw bU bO bR h3 h4 cM cN cO bK hz bl dj dk hs dy dz hj cD aK cG hk be ap;generalize bs (xP k)=qs at *;go_in;go_wp2_with fail;rw[<- hW];clear hW;refine (cf.out _).mono ?_;rintro e wA ⟨rfl,rfl⟩;clear cf q0 q1 q2 q3 q4;go_wp2_with fail;go_loopw [9,16] (fun kv iv wr=>∃(j:Nat)(A:List (K (M+1)))(xs:List Value),iv=Zi Zk j/\j<=(Nd.kids t).length/\qv sn m t l.reverse H j A/\nK S (w.heap.size+2) M wr kv A xs/\(∀i (h:i<A.length),(jr k).getD i 0=86->gF (M+1) A[i]=true)/\Below (w.heap.size+2) wA wr) (fun _ iv _=>(Nd.kids t).length-(intOf iv).toNat);case atStart=>exact⟨0,[],[],rfl,Nat.zero_le _,qv.start _ _ _ _ _,bF.out,fun i h=>absurd h (Nat.not_lt_zero _),Below.refl _ _⟩
 case round=>
  obtain⟨j,A,xs,rfl,dq,bS,bp,bo,bb⟩:=hrel;obtain⟨⟨q0,q1,q2,q3,q4⟩,qf,bk⟩:=an.out wr bb;have ee:=bb.size;have aD:=a7 bS;have aj:=a7 bp;have aB:=a7 bo;have ca:=a7 bb;have P:=a7 bk;have ab:=bS.len;clear bS bp bo bb bk;by_cases O:j<(Nd.kids t).length
  ·obtain⟨_,_,dr,-,aQ⟩:=cZ.out;cases dr
   obtain⟨b,off,rfl,dh,aL⟩:=aQ (by intro h;rw[h]at O;simp at O);obtain⟨z0,z1,z2,z3,z4,e0,e1,e2,e3,e4,bQ⟩:=aL j O;obtain⟨y0,y1,y2,ya,yl,yc,za,zl,zc,rfl,rfl,rfl,rfl,rfl⟩:=bQ.shape;have aJ:=HB.out b dh;have bi:=a7 bQ;obtain⟨ga,J,gc,rfl,bc⟩:∃a n c,u9=Zs a n c/\A.length=n:=by rcases aj.out.own.2 with ⟨h,L⟩|⟨g,cap,dK,h,-⟩<;>exact⟨_,_,_,h,by first|exact L|rfl⟩
   have ah:=a7 bc;clear bc;obtain⟨cF,bf⟩:=dd.out j O;have am:=cl.out.op j O;rw[ad.out,Int.toNat_natCast]at am;have dt:1<=m:=by
    cases m with
    | zero=>have e:∀x:T 0,nj 0 x=0:=fun _=>rfl;rw[e]at am;omega
    | succ m=>omega
   obtain⟨r,hr⟩:=ii (mC sn m t l.reverse H j A (Nd.kids t)[j]);have HR:=a7 hr;have bg:(gR sn m (Nd.kids t)[j] (gP (Nd.sort t) (Nd.names t) j A l).reverse (fK (Nd.kids t) j H))=r:=by rw[hr,<- vt];rfl
   have bZ:=a7 (cl.out.bindOk (by omega) aD.out);have af:=CF k aa al j (by omega);simp only[Bool.or_eq_true,Bool.and_eq_true,beq_iff_eq,decide_eq_true_eq,Bool.not_eq_true',beq_eq_false_iff_ne,decide_eq_false_iff_not]at af;have aq:Nd.sort t=40∨Nd.sort t=41∨∀x,x∈A->gF (M+1) x=true:=by
    rw[ad.out];rcases af with ((h|h)|⟨h1,h2⟩)|h;·exact .inl (by omega)
    ·exact .inr (.inl (by omega))
    ·refine .inr (.inr fun x hx=>?_);obtain⟨i,hi,rfl⟩:=List.getElem_of_mem hx
     exact aB.out i hi (by obtain rfl:i=0:=(by omega);exact h2.resolve_left (fun h=>h (by omega)))
    ·exact absurd (by have:=ch.out;omega) h
   have I:∀p,p∈gP (Nd.sort t) (Nd.names t) j A l->gF (M+1) p.2=true:=by
    rcases aq with h|h|h;·rw[xY (.inl h)];exact bC.out
    ·rw[xY (.inr h)];exact bC.out
    ·exact xZ bC.out h ab bZ.out
   have aG:w.heap.size+2<=wr.heap.size:=om;have N:∀b,S b->b<w.heap.size+2:=fun b D=>by have:=HB.out b D;omega
   have bJ:∀b,Ov S (w.heap.size+2) (Value.slice ga J gc).ownBlock wr b->b<wr.heap.size:=Ov.lt N aG;have co:∀b,Ov S (w.heap.size+2) Zn wr b->b<wr.heap.size:=Ov.lt N aG;have aS:fK (Nd.kids t) j H+d9 m (Nd.kids t)[j]<=1000:=by have h1:=lO (Nd.kids t) (j+1);rw[fQ _ _ _ O]at h1;have:=az.out;unfold fK;omega
   have ag:=cV.out _ (List.getElem_mem O);have ai:Hid (∀V,Bw wr V->(D5 V w.heap.size (k:Int) (Nd.num t) (Nd.text t) na (Nd.names t).length nc (Zo ⟨b,off,Zn⟩) (Nd.kids t).length kc)/\(V.cell? ⟨b,off+j*5,Zn⟩=Zo (Zi Zk y0)/\V.cell? ⟨b,off+j*5+1,Zn⟩=Zo (Zi Zk y1)/\V.cell? ⟨b,off+j*5+2,Zn⟩=Zo (Zt y2)/\V.cell? ⟨b,off+j*5+3,Zn⟩=Zo (Zs ya yl yc)/\V.cell? ⟨b,off+j*5+4,Zn⟩=Zo (Zs za zl zc))/\mG V (w.heap.size+1)/\Below (w.heap.size+2) wA V/\Bw w V):=fun V hV=>by have hA:=ca.out.trans (hV.mono aG);obtain⟨h5,hf,E⟩:=an.out V hA;exact⟨h5,⟨kC E e0 aJ,kC E e1 aJ,kC E e2 aJ,kC E e3 aJ,kC E e4 aJ⟩,hf,hA,E⟩
   have aW:=Lib.hid (ng m S t _ _ _ _ _ j H wr (ci.out.keep (a6 P.out HB.out) fun _ h=>h) (fun b D=>Zd (HB.out b D) P.out.size) (by have:=az.out;show 1+b4 (fun k=>d9 m k) (Nd.kids t)<=_;omega) om (by have:=az.out;omega));rw[ad.out]at aW;have HA:Hid (∀V,Bw wr V->Calls prog 74 #[v,Za #[Zi Zk (k:Int),Zi Zk (Nd.num t),Zt (Nd.text t),Zs na (Nd.names t).length nc,Zs (Zo ⟨b,off,Zn⟩) (Nd.kids t).length kc],Zi Zk (j:Int),(Zs ga J gc)] V fun e y=>∃v1,e=.returned v1/\Bw V y/\jf (Ov (Ov S (w.heap.size+2) (Value.slice ga J gc).ownBlock wr) V.heap.size Zn y) y (M+1) (gP (Nd.sort t) (Nd.names t) j A l) v1):=fun V hV=>by have E:=P.out.trans (hV.mono P.out.size);have h:=rz M m (Ov S (w.heap.size+2) (Value.slice ga J gc).ownBlock wr) (Ov S (w.heap.size+2) Zn wr) t l A j _ _ _ _ _ v (Zs ga J gc) V (ci.out.keep (a6 E HB.out) fun _ h=>.inl h) (HV.out.keep (a6 E HB.out) fun _ h=>.inl h) ((aj.out.row2 (by rw[ab];unfold maxLen;omega)).keep (a6 hV co) (fun _ h=>h) fun x _ _ _ _ hx=>hx.keep (a6 hV bJ) fun _ h=>h) (fun b D=>Zd (bJ b D) hV.size) (fun b D=>Zd (co b D) hV.size) om ab aq bZ.out;rw[ad.out]at h;refine h.mono ?_;rintro e y ⟨di,v1,rfl,bd⟩;rw[ad.out];exact⟨v1,rfl,di,bd⟩
   have HC:Hid (∀V v1 (R:ZP),Bw wr V->(Bd R V)->(∀b,S b->R b)->jf R V (M+1) (gP (Nd.sort t) (Nd.names t) j A l) v1->((jr k).getD j 0=86->Calls prog 32 #[v1,Za #[Zi Zk y0,Zi Zk y1,Zt y2,Zs ya yl yc,Zs za zl zc],Zi Zk (fK (Nd.kids t) j H:Nat)] V (lj R M r V))/\((jr k).getD j 0=65->Calls prog 59 #[v1,sv,Za #[Zi Zk y0,Zi Zk y1,Zt y2,Zs ya yl yc,Zs za zl zc],Zi Zk (fK (Nd.kids t) j H:Nat)] V (mX r.2 V))):=fun V v1 R hV hR bI bd=>by
    have E:=P.out.trans (hV.mono P.out.size);have dT:=vs (Nd.sort t) (Nd.names t) j A l;refine⟨fun s=>?_,fun f=>?_⟩
    ·rcases am with ⟨-,-,aX⟩|⟨h,-⟩;·rw[Aj sn m _ _ ag aX]at bg;rw[<- bg];exact ry M hM m R (Nd.kids t)[j] (gP (Nd.sort t) (Nd.names t) j A l) _ _ _ _ _ v1 (d+1) (fK (Nd.kids t) j H) V (bi.out.keep (a6 E HB.out) bI) bd hR (by simpa using ag) aX (by omega) I aS
     ·exact absurd (h.symm.trans s) (by decide)
    ·rcases am with ⟨h,-⟩|⟨-,aE⟩;·exact absurd (h.symm.trans f) (by decide)
     ·rw[<- bg];exact hn R sn (Nd.kids t)[j] (gP (Nd.sort t) (Nd.names t) j A l) _ _ _ _ _ v1 sv (d+1) (fK (Nd.kids t) j H) V (bi.out.keep (a6 E HB.out) bI) bd (dg.out.keep (a6 E HB.out) bI) hR (by simpa using ag) aE (by omega) cI I df.out aS
   have bM:r.2.1=0->(jr k).getD j 0=86->gF (M+1) r.1=true:=fun L s=>by
    rcases am with ⟨-,-,aX⟩|⟨f,-⟩;·rw[hr]at L ⊢;exact pu (M:=M) hM (sn:=sn) aX L dt
    ·exact absurd (f.symm.trans s) (by decide)
   have cA:r.2.1=0->(jr k).getD j 0=65->r.1=zU:=fun L f=>by
    rcases am with ⟨h,-⟩|⟨-,aE⟩;·exact absurd (h.symm.trans f) (by decide)
    ·rw[hr]at L ⊢;exact Fm aE
   have cx:r.2.1≠0->(gR sn (m+1) t l.reverse H).2=r.2:=fun L=>by
    have h1:io sn m t l.reverse H=([],r.2):=by have:=aD.out.bad O (by rw[<- HR.out];exact L);rw[<- HR.out]at this;exact this
    rw[bv.out,h1];show (if r.2.1≠0 then ((zU:K (M+1)),r.2) else _).2=r.2;rw[if_pos L]
   have bV:∀i x cQ,b7 (Nd.sort t) ((iy sn (show Nd (T m) from t)).getD zU) i x cQ=b7 (Nd.sort t) zU i x cQ:=EF bB.out _ _;have cz:r.2.1=0->b7 (Nd.sort t) zU j r.1 A=false->(gR sn (m+1) t l.reverse H).2=(6,fK (Nd.kids t) j H):=fun L hw=>by have h1:io sn m t l.reverse H=([],6,fK (Nd.kids t) j H):=aD.out.wrong O (by rw[<- HR.out];exact L) (by rw[bV,<- HR.out];exact hw);rw[bv.out,h1];rfl
   have cy:r.2.1=0->b7 (Nd.sort t) zU j r.1 A=true->qv sn m t l.reverse H (j+1) (A++[r.1]):=fun L hw=>by have:=aD.out.next O (by rw[<- HR.out];exact L) (by rw[bV,<- HR.out];exact hw);rw[<- HR.out]at this;exact this
   have cK:(jr k).getD j 0=65->b7 (Nd.sort t) zU j r.1 A=true:=fun f=>by rw[ad.out];exact GX aa al (by have:=ch.out;omega) f _ _ _
   have cL:r.2.1=0->(jr k).getD j 0=86->∀(Q:ZP)(V:World)(u0 u1 u2:Value),a8 Q V (M+1) r.1 u0 u1 u2->gO Q V (a8 Q V (M+1)) A (Zs ga J gc)->Bd Q V->Calls prog 76 #[Zi Zk (k:Int),Zi Zk (j:Int),Za #[u0,u1,u2],Zs ga J gc] V fun e w'=>e=.returned (.bool (b7 (Nd.sort t) zU j r.1 A))/\Bw V w':=fun L s Q V u0 u1 u2 g1 g2 g3=>by
    have cm:=CH k aa al j (by omega);simp only[s,beq_self_eq_true,Bool.not_true,Bool.false_or,Bool.or_eq_true,Bool.and_eq_true,beq_iff_eq,decide_eq_true_eq]at cm;rcases cm with (h|h)|⟨h,hw⟩;·exact absurd (.inl (by rw[ad.out];omega)) bB.out
    ·exact absurd (.inr (by rw[ad.out];omega)) bB.out
    ·subst h;obtain rfl:A=[]:=List.eq_nil_of_length_eq_zero ab;rw[ad.out];exact rA M Q (k:Int) 0 r.1 [] _ _ _ _ V g1 g2 g3 (bM L s) (fun x hx=>by cases hx) rfl (.inr hw) (fun _ h=>by cases h)
   have cX:=a7 bM;have bA:=a7 cA;have cb:=a7 cx;have bz:=a7 cz;have bx:=a7 cy;have bG:=a7 cK;have bH:=a7 cL;have cj:Hid ((jr k).getD j 0=86∨(jr k).getD j 0=65):=am.imp (·.1) (·.1);have dU:(j:Int)<((Nd.kids t).length:Int):=om;have dY:(j:Int)<(qs.size:Int):=om;obtain⟨pj,cC⟩:=ii (fK (Nd.kids t) j H);rw[<- cC]at aW HC bz;clear cC bM cA cx cz cy cK cL am bg hr I aq af aS ag e0 e1 e2 e3 e4 bQ aQ aL bV;generalize dm:(gR sn (m+1) t l.reverse H).2=cc at *;clear dm;generalize dA:b7 (Nd.sort t) zU j r.1 A=wb at *;clear dA;go_wp2_with fail;refine aW.out.mono ?_;rintro e w1 ⟨rfl,aI⟩;clear aW q0 q1 q2 q3 q4 qf;obtain⟨⟨q0,q1,q2,q3,q4⟩,-,-,-,-⟩:=ai.out w1 aI;have bY:=Lib.hid (HA.out w1 aI);go_wp2_with fail;refine bY.out.mono ?_;rintro e w2 ⟨v1,rfl,ct,cJ⟩;have U:=aI.trans (ct.mono aI.size);have du:=aI.size;have dv:=ct.size;have cn:Bd (Ov (Ov S (w.heap.size+2) (Value.slice ga J gc).ownBlock wr) w1.heap.size Zn w2) w2:=Ov.lt (fun b D=>Zd (bJ b D) du) dv;obtain⟨aM,aK⟩:=HC.out w2 v1 _ U cn (fun b D=>.inl (.inl D)) cJ;have bw:=a7 aM;have ax:=a7 aK;clear HA bY HC aM aK cJ q0 q1 q2 q3 q4;obtain⟨⟨q0,q1,q2,q3,q4⟩,⟨f0,f1,f2,f3,f4⟩,-,-,-⟩:=ai.out w2 U;by_cases f:(jr k).getD j 0=65
   ·have cE:(((qs[j]'cF).toNat:Int)==97)=true:=by rw[bf];exact decide_eq_true f
    have ay:=Lib.hid (ax.out f);have dB:=bG.out f;subst dB;have cW:=Lib.hid fun h=>bx.out h rfl;have ce:Hid (r.2.1=0->r.1=zU):=fun h=>bA.out h f;clear bw ax bf bG bH bz bA bx;go_wp2_with fail;refine ay.out.mono ?_;rintro e w3 ⟨rfl,ba⟩;have ar:=U.trans (ba.mono U.size);obtain⟨Z,hZ⟩:=ii (w3.alloc (Zc #[Zi Zk r.2.1,Zi Zk (r.2.2:Nat)] 33));have cu:Bw w3 Z:=by rw[hZ];exact gx _ _
    have bW:Z.heap[w3.heap.size]?=Zo (Zc #[Zi Zk r.2.1,Zi Zk (r.2.2:Nat)] 33 (0,0)):=by rw[hZ];exact heap_alloc_new _ _
    have z:=ar.trans (cu.mono ar.size);obtain⟨-,-,aw,ao,-⟩:=ai.out Z z;obtain⟨⟨t0,t1⟩,-⟩:=gg bW;have dC:=z.size;clear ay q0 q1 q2 q3 q4 f0 f1 f2 f3 f4;by_cases u:r.2.1=0;case neg=>
     have HF:=Lib.hid (F.out Z r.2 ao (cb.out u));obtain⟨⟨s0,s1⟩,L,h1⟩:=gg aw;have cv:(r.2.1 != 0)=true:=by simpa using u
     clear an ai F aw bW;go_upto_region 21 with fail;rw[<- hZ];clear hZ;go_wp2_with fail;refine bodyPost_ret (v:=Za #[Zi Zk r.2.1,Zi Zk (r.2.2:Nat)]) (by simp[results,results59,go_sem,s0,s1]) rfl ?_;exact HF.out
    have bE:=a7 (cW.out u);have cH:=ce.out u;rw[u]at t0;have au:=a7 (aj.out.keep N aG z);have aA:Hid (Z.ownsRow (w.heap.size+2) 31 3 (Zs ga J gc) J xs):=by have:=au.out.own;rw[ah.out]at this;exact this
    obtain⟨bX,aN,aT,aU,aV⟩:=info_parts Tryz.info_kindD;have ac:Hid (_/\_/\_/\_):=⟨aN,aT,aU,aV⟩;have bc:J<=1000:=by have:=ah.out;omega
    have bq:=a7 ao;have HZ:=a7 hZ;have aC:=a7 u;have ck:=a7 cH;clear aN aT aU aV ao aw bW z cu u cH hZ;go_upto_region 21 with fail;rw[<- HZ.out];clear HZ;go_wp2_with (at_builtin;refine wpList_append_lies _ rfl (.tmp 110) (.tmp 112) 29 rfl (w.heap.size+2) 31 bX _ 3 56 underlying29 ac.out.1 ac.out.2.1 ac.out.2.2.1 ac.out.2.2.2 rfl zC (Zs ga J gc) J xs rfl (aA.out.alloc _) ⟨Z.heap.size,0,Zn⟩ 1 1 [Zi Zk 0,Zs Zn 0 0,Zs Zn 0 0] rfl rfl (World.news_of_block (heap_alloc_new Z _)) (by simp[Value.oneCell']) zC (by unfold maxLen;omega) om zE (Z.heap.size+1) zS ?_;intro g cap w4 G B aH aR;refine Hid.out ?_);refine Lib.hid ?_;have C:=nK.more (k:=(zU:K (M+1))) (g:=g) (cap:=cap) (one:=Zc #[Zi Zk 0,Zs Zn 0 0,Zs Zn 0 0] 31) (Wa:=Z.alloc (Zc #[Zi Zk 0,Zs Zn 0 0,Zs Zn 0 0] 31)) au.out N om JZ rfl (by rw[ah.out];exact G) B aH;rw[ah.out]at C;have bD:=a7 C;have br:Hid (Below (w.heap.size+2) wA w4):=(bq.out.alloc om (Zc #[Zi Zk 0,Zs Zn 0 0,Zs Zn 0 0] 31)).grown B zE (fun q hq=>(jD aA.out q hq).1);have cT:=a7 f;clear G B aH aR C;go_wp2;go_roundw;case rel=>
     refine⟨j+1,A++[zU],_,by go_num,om,?_,bD.out,fun i hi s=>?_,br.out⟩;·have:=bE.out;rw[ck.out]at this;exact this
     ·by_cases aO:i<A.length;·rw[List.getElem_append_left aO];exact aB.out i aO s
      ·have e:i=A.length:=by simp at hi;omega
       subst e;rw[ab,cT.out]at s;cases s
    case measure=>simp[intOf];omega
   have s:=cj.out.resolve_right f;have cE:(((qs[j]'cF).toNat:Int)==97)=false:=by rw[bf];exact decide_eq_false f
   have ay:=Lib.hid (bw.out s);have bj:=Lib.hid fun L=>bH.out L s;have cd:Hid (r.2.1=0->gF (M+1) r.1=true):=fun h=>cX.out h s;clear bw ax bf bG bH bA f cj;go_wp2_with fail;refine ay.out.mono ?_;rintro e w3 ⟨ba,d0,da,dl,dc,ea,el,ec,rfl,cB,-⟩;have ar:=U.trans (ba.mono U.size);have dZ:=ba.size;obtain⟨Z,hZ⟩:=ii ((w3.alloc (Zc #[Zi Zk d0,Zs da dl dc,Zs ea el ec] 31)).alloc (Zc #[Zi Zk r.2.1,Zi Zk (r.2.2:Nat)] 33));have hQ:∀b,Ov (Ov (Ov S (w.heap.size+2) (Value.slice ga J gc).ownBlock wr) w1.heap.size Zn w2) w2.heap.size Zn w3 b->b<w3.heap.size/\(S b∨(w.heap.size+2<=b/\(Value.slice ga J gc).ownBlock≠Zo b)):=fun b D=>by
    have G:=jD aj.out.own;rcases D with ((D|D)|D)|D;·exact⟨by have:=N b D;omega,.inl D⟩
    ·exact⟨by have:=D.2.1;omega,.inr ⟨D.1,D.2.2⟩⟩
    ·exact⟨by have:=D.2.1;omega,.inr ⟨by have:=D.1;omega,fun e=>by have:=G b e;have:=D.1;omega⟩⟩
    ·exact⟨D.2.1,.inr ⟨by have:=D.1;omega,fun e=>by have:=G b e;have:=D.1;omega⟩⟩
   have hG:=I8 (S:=S) (X:=w.heap.size+2) (o:=(Value.slice ga J gc).ownBlock) (r:=r) ar cB hQ;rw[<- hZ]at hG;have z:=hG.below;obtain⟨dL,dM,dO,dN,dP,dR,dQ,ae,bN⟩:=hG.val;have ak:=hG.flt;have cP:Z.heap[w3.heap.size]?=Zo (Zc #[Zi Zk d0,Zs da dl dc,Zs ea el ec] 31 (0,0)):=by rw[hZ,Below.heap_alloc _ _ _ zS];exact heap_alloc_new _ _
   have bm:=cP.symm.trans ae;simp only[Option.some.injEq,Obj.cells.injEq,Array.mk.injEq,List.cons.injEq,Value.int.injEq,Value.slice.injEq,and_true,true_and]at bm;obtain⟨rfl,⟨rfl,rfl,rfl⟩,rfl,rfl,rfl⟩:=bm;obtain⟨⟨k0,k1,k2⟩,-⟩:=fY ae;obtain⟨⟨t0,t1⟩,cR,cS⟩:=gg ak;clear q0 q1 q2 q3 q4 f0 f1 f2 f3 f4;obtain⟨⟨q0,q1,q2,q3,q4⟩,-,aw,ao,dG⟩:=ai.out Z z;have dC:=z.size;have dJ:w3.heap.size+2<=Z.heap.size:=by rw[hZ];simp
   clear ay cB hG cP;by_cases u:r.2.1=0;case neg=>
    have HF:=Lib.hid (F.out Z r.2 ao (cb.out u));obtain⟨⟨s0,s1⟩,L,h1⟩:=gg aw;have cv:(r.2.1 != 0)=true:=by simpa using u
    have dH:(r.2.1==0)=false:=by simpa using u
    clear an ai F aw ae ak bN;go_upto_region 25 with fail;rw[<- hZ];clear hZ;go_wp2_with fail;refine bodyPost_ret (v:=Za #[Zi Zk r.2.1,Zi Zk (r.2.2:Nat)]) (by simp[results,results59,go_sem,s0,s1]) rfl ?_;exact HF.out
   have au:=a7 (aj.out.keep N aG z);have cq:∀b,Ov S (w.heap.size+2) Zn Z b->b<Z.heap.size:=Ov.lt N (by omega);have aP:=bN u;have HW:=Lib.hid (bj.out u (Ov S (w.heap.size+2) Zn Z) Z _ _ _ (aP.keep (fun _ _=>rfl) fun _ h=>h.imp id fun h=>⟨h.1,h.2.1,zS⟩) (au.out.row (by rw[ab];unfold maxLen;omega)) cq);have cg:=a7 aP;have bu:=a7 ae;have bt:=a7 ak;have HZ:=a7 hZ;have bq:=a7 ao;have bh:=a7 z;rw[u]at t0;have aC:=a7 u;clear ae ak bN aP hZ ao z cq bj u;go_upto_region 25 with fail;rw[<- HZ.out];clear HZ;go_wp2_with fail;refine HW.out.mono ?_;rintro e Y ⟨rfl,av⟩;have cr:=bh.out.trans (av.mono bh.out.size);have eb:=av.size;obtain⟨-,-,bL,aZ,-⟩:=ai.out Y cr;have ae:=(av.block _ (by omega)).trans bu.out;have ak:=(av.block _ (by omega)).trans bt.out;clear q0 q1 q2 q3 q4 k0 k1 k2 t0 t1 cR cS HW;obtain⟨⟨k0,k1,k2⟩,-⟩:=fY ae;obtain⟨⟨t0,t1⟩,cR,cS⟩:=gg ak;rw[aC.out]at t0;cases wb with
   | false=>
    have dX:¬w3.heap.size+1=w.heap.size+1:=by omega
    have HF:=Lib.hid (F.out ((Y.setCell ⟨w3.heap.size+1,0,Zn⟩ (Zi Zk 6)).setCell ⟨w3.heap.size+1,1,Zn⟩ (Zi Zk (pj:Nat))) (6,pj) (iF aZ (by omega)) (bz.out aC.out rfl));obtain⟨⟨s0,s1⟩,L,h1⟩:=gg bL;clear an ai F bL ae ak bu bt aZ bq;go_wp2_with fail;refine bodyPost_ret (v:=Za #[Zi Zk 6,Zi Zk (pj:Nat)]) (by simp[results,results59,go_sem,s0,s1]) rfl ?_;exact HF.out
   | true=>
    have bE:=a7 (bx.out aC.out rfl);have db:=a7 (cd.out aC.out);have bP:=au.out.keep N (by omega) av;have bn:a8 (Ov S (w.heap.size+2) (Value.slice ga J gc).ownBlock Y) Y (M+1) r.1 (Zi Zk d0) (Zs da dl dc) (Zs ea el ec):=cg.out.keep (fun x hx=>av.block x (Ov.lt N (by omega) x hx)) fun x hx=>by
     rcases hx with hx|hx;·exact .inl hx
     ·exact .inr ⟨hx.1,by have:=hx.2.1;omega,hx.2.2⟩
    have cY:=a7 bn;have de:=a7 bP;have aA:Hid (Y.ownsRow (w.heap.size+2) 31 3 (Zs ga J gc) J xs):=by have:=bP.own;rw[ah.out]at this;exact this
    obtain⟨bX,aN,aT,aU,aV⟩:=info_parts Tryz.info_kindD;have ac:Hid (_/\_/\_/\_):=⟨aN,aT,aU,aV⟩;have bc:J<=1000:=by have:=ah.out;omega
    have cU:=a7 aZ;clear aN aT aU aV bP bn aZ bL ae ak bu bt cg au;go_wp2_with (at_builtin;refine wpList_append_lies _ rfl (.tmp 143) (.tmp 145) 29 rfl (w.heap.size+2) 31 bX _ 3 56 underlying29 ac.out.1 ac.out.2.1 ac.out.2.2.1 ac.out.2.2.2 rfl zC (Zs ga J gc) J xs rfl (aA.out.alloc _) ⟨Y.heap.size,0,Zn⟩ 1 1 [Zi Zk d0,Zs da dl dc,Zs ea el ec] rfl rfl (World.news_of_block (heap_alloc_new Y _)) (by simp[Value.oneCell']) zC (by unfold maxLen;omega) om zE (Y.heap.size+1) zS ?_;intro g cap w4 G B aH aR;refine Hid.out ?_);refine Lib.hid ?_;have C:=nK.more (g:=g) (cap:=cap) (one:=Zc #[Zi Zk d0,Zs da dl dc,Zs ea el ec] 31) (Wa:=Y.alloc (Zc #[Zi Zk d0,Zs da dl dc,Zs ea el ec] 31)) de.out N om cY.out rfl (by rw[ah.out];exact G) B aH;rw[ah.out]at C;have bD:=a7 C;have br:Hid (Below (w.heap.size+2) wA w4):=(cU.out.alloc om (Zc #[Zi Zk d0,Zs da dl dc,Zs ea el ec] 31)).grown B zE (fun q hq=>(jD aA.out q hq).1);clear G B aH aR C k0 k1 k2;go_wp2;go_roundw;case rel=>
     refine⟨j+1,A++[r.1],_,by go_num,om,bE.out,bD.out,fun i hi s=>?_,br.out⟩;by_cases aO:i<A.length;·rw[List.getElem_append_left aO];exact aB.out i aO s
     ·have e:i=A.length:=by simp at hi;omega
      subst e;have e2:(A++[r.1])[A.length]'hi=r.1:=by simp
      rw[e2];exact db.out
    case measure=>simp[intOf];omega
  ·have dp:j=(Nd.kids t).length:=by omega
   have aM:(gR sn (m+1) t l.reverse H).2=(0,0):=by rw[bv.out,aD.out.done dp,if_neg (by simp)];unfold kA;rw[if_pos (show 36<=(show Nd (T m) from t).sort from aY)]
   have HF:=Lib.hid (F.out wr (0,0) ca.out aM);obtain⟨⟨s0,s1⟩,L,h1⟩:=gg qf;have dW:¬(j:Int)<((Nd.kids t).length:Int):=om;clear an F qf aM;go_wp2_with fail;refine bodyPost_ret (v:=Za #[Zi Zk 0,Zi Zk 0]) (by simp[results,results59,go_sem,s0,s1]) rfl ?_;exact HF.out
theorem AH(M:Nat)(a:5<=M):∀m,IJ M m:=by
 intro m;induction m with
 | zero=>intro S f t l c0 c1 c2 c3 c4 v g d e w b;exact b.elim
 | succ m c=>exact yI M m a c
end Go.Proofs.YtcfojmaccikgeaaGreatDoor
