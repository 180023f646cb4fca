import Derived.Test.YtkcollkaldkccaaGreatDoorB11
set_option linter.all false
open List renaming length -> J
open Go.Calls renaming mono -> H
open Go.Value renaming slice->A,int->I,string->Zt,agg->Za,tuple->Zu,slice->Uc
open Go.IntKind renaming i64->U
open Go.Obj renaming cells->Zc
open Option renaming none->Y,some->Z
open Go renaming World->Zw,Value->Zv,maxLen->WX,Calls->WU
open ByteArray renaming empty->WT
namespace Go.Proofs.YtkcollkaldkccaaGreatDoor
open Go.RowKit Go.Proofs.Tryz
set_option maxRecDepth 100000
set_option maxHeartbeats 16000000
variable {c x1 a0 a1 d:Int} {S:ZN} {w W V:Zw} {xl xc yl yc np al ac am ae m vl vc i:Nat} {v kv:Zv} {x2 a2:ZB} {ya aa ad va xa:ZA} {env:gk}
def il(op:Int)(g:V6->Except Int V6)(l acc:List V6):Except Int V6:=match e9 op g l acc with|.error c=>.error c|.ok l=>eu (fd 4 0 WT [] l)
section
variable {op:Int} {g:V6->Except Int V6} {x:V6} {r acc:List V6}
def MW(h:g x=.error c):il op g (x :: r) acc=.error c:=by simp only[il,e9,h]
def II{t:V6}(h:g x=.ok t)(a:op=34/\¬F.k t=3):il op g (x :: r) acc=.error 6:=by simp only[il,e9,h,Qm a]
def IJ{t:V6}(h:g x=.ok t)(a:op=33):il op g (x :: r) acc=il op g r (acc++[t]):=by subst a;simp only[il,e9,h];rw[Qd (λh=>qcR),Qm trivial]
def F6{t:V6}(h:g x=.ok t)(a:op=34)(b:F.k t=3):il op g (x :: r) acc=il op g r (if F.n t=1 then acc++[x] else acc):=by subst a;simp only[il,e9,h];rw[Qd (λh=>h.2 b),Qd zC]
end
def Ou(hB:Bd S w){op:Int}{nq:Nat}{n0:ZB}(av:a7 w np nq=Z (Zt n0))(bo:np<w.heap.size)(bQ:0<xl)(bn:n0.size<=WX)(hm:gj m){t:T (m+1)}{l:List (ZB×V6)}(ht:b8 S w (m+1) t (I U op) (I U x1) (Zt x2) (A (b5 np nq) xl xc) (A ya yl yc))(hv:fM S w 6 l v)(hg:c7 (m+1) t d=true)(ba:F.k t<=35)(bi:cJ (m+1) t<=200)(hl:(J l:Int)<=1048576+2*d)(aU:∀p,p∈l->dB 6 p.2=true){f:V6}(hf:b8 S w 6 f (I U a0) (I U a1) (Zt a2) (A aa al ac) (A ad am ae))(zH:dB 6 f=true)(hi:1<J (F.o t))(n:∀i (h:i<J (F.o t)) env,(∀p,p∈env->dB 6 p.2=true)->lR (b7 m (F.o t)[i] env))(aV:op=33∨op=34):DQ S w v op x1 x2 (b5 np nq) ya xl xc yl yc a0 a1 a2 aa ad al ac am ae (il op (λx=>b7 m (F.o t)[1] ((n0,x) :: l.reverse)) (cL f) []):=by
 obtain⟨kb,ko,y0,y1,y2,za,ua,zl,zc,ul,uc,rfl,ai,-,bG,⟨e0,e1,e2,e3,e4⟩,hy⟩:=iq ht hB hi;have⟨W,hW⟩:=p6 w op x1 x2 (b5 np nq) (b5 kb ko) xl xc yl yc a0 a1 a2 aa ad al ac am ae;have bg:=hW.is;obtain⟨va,vc,rfl,-⟩:=id hv;have aT:=(Qe.1 hW.zero).1;have bK:=a8 aT;have bM:(1:Int)<(yl:Int):=E;have bJ:(0:Int)<(xl:Int):=E;simp only[Nat.one_mul]at e0 e1 e2 e3 e4;have HS:Hid (∀V:Zw,(∀b,b<=w.heap.size+1->V.heap[b]?=W.heap[b]?)->a7 V np nq=Z (Zt n0)/\(Q5 V kb (ko+5) y0 y1 y2 za zl zc ua ul uc)/\(N5 V (w.heap.size+1) a0 a1 a2 aa al ac ad am ae)/\N5 V w.heap.size op x1 x2 (b5 np nq) xl xc (b5 kb ko) yl yc):=λV hV=>by have hq:∀b o,b<w.heap.size->a7 V b o=a7 w b o:=λb o hb=>(Ql (a:=⟨b,o,Y⟩) (hV b E)).trans (Ql (a:=⟨b,o,Y⟩) (hW.bw.block b hb));exact⟨(hq _ _ bo).trans av,⟨(hq _ _ ai).trans e0,(hq _ _ ai).trans e1,(hq _ _ ai).trans e2,(hq _ _ ai).trans e3,(hq _ _ ai).trans e4⟩,cP ((hV _ (QD _)).trans hW.first),cP ((hV _ (WR _)).trans hW.node)⟩
 have HL:Hid (∀V,Bw W V->∀b,b<=w.heap.size+1->V.heap[b]?=W.heap[b]?):=λV hV b hb=>hV.block b E;have HG:Hid (∀k:V6,dB 6 k=true->lR (b7 m (F.o t)[1] ((n0,k) :: l.reverse))):=λk hk=>n 1 hi _ λp hp=>by
  rcases QW.1 hp with rfl|hp;·exact hk
  exact aU p (X0.1 hp)
 have HF:Hid (am=J (cL f)/\∀j (h:j<J (cL f)),∃fb fo g0 g1 g2 ga ha gl gc jo hc,ad=b5 fb fo/\fb<w.heap.size/\(∀V:Zw,(∀b,b<=w.heap.size+1->V.heap[b]?=W.heap[b]?)->(Q5 V fb (fo+j*5) g0 g1 g2 ga gl gc ha jo hc))/\b8 S w 6 (cL f)[j] (I U g0) (I U g1) (Zt g2) (A ga gl gc) (A ha jo hc)/\dB 6 (cL f)[j]=true):=by exact qcS
 have jO:am<=119:=by have h1:=mj zH;have h2:=HF.1;have h3:J (cL f)=J (F.o f):=Qv _;omega
 have bE:Hid (∀(V:Zw)(k:V6)(g0 g1:Int)(g2:ZB)(ga ha:ZA)(gl gc jo hc:Nat),Bw w V->b8 S w 6 k (I U g0) (I U g1) (Zt g2) (A ga gl gc) (A ha jo hc)->dB 6 k=true->qbN S V (A va (J l) vc) n0 g0 g1 g2 ga ha gl gc jo hc y0 y1 y2 za ua zl zc ul uc (b7 m (F.o t)[1] ((n0,k) :: l.reverse))):=λV k g0 g1 g2 ga ha gl gc jo hc hV hk az=>LC hm hB hv hg ba bi hl aU hk az bn hi hy hV;have HX:Hid (∀V,Bw W V->V.heap[w.heap.size+1+1]?=Z d8/\Bw w V):=λV hV=>⟨dy hW.zero hV,hW.bw.trans (hV.mono hW.bw.size)⟩;have aY:Hid (∀V c,Bw W V->gG S w (.error c) (.returned (Zu #[Gd,I U c])) (dN V (w.heap.size+1+1) 0 0 ⟨#[]⟩ Y Y 0 0 0 0)):=λV c hV=>lL (hW.bw.trans (hV.mono hW.bw.size)) E;have aX:Hid (∀(V V':Zw)(acc:List V6)(kv:Zv),nU S w W V (w.heap.size+1+1) acc kv->Bw V V'->nU S w W V' (w.heap.size+1+1) acc kv):=λV V' acc kv h hV=>h.later hB hW.bw hV;have bB:Hid (∀(V:Zw)(acc:List V6)(kv:Zv),nU S w W V (w.heap.size+1+1) acc kv->J acc<=20000->WU prog 81 #[Za #[I U 4,I U 0,Zt ⟨#[]⟩,A Y 0 0,kv]] V λe w2=>Bw V w2/\∃z0 M q8 j2 qc qq qa sl sc c,e=fT z0 M q8 j2 qc qq qa sl sc c/\w2.heap[w.heap.size+1+1]?=Z d8/\gG S w (eu (fd 4 0 WT [] acc)) e (dN w2 (w.heap.size+1+1) z0 M q8 j2 qc qq qa sl sc)):=λV acc kv h hl=>h.made hB hW.bw E aT hW.zero hl;have aK:=a8 hB;have aZ:=a8 hW.bw;have bD:Hid (∀(V aA:Zw)(o:Option Nat)(T:Nat),W.heap.size<V.heap.size->Bw V aA->(∀b,o=Z b->b<V.heap.size)->∀b,(S b∨(V.heap.size<=b/\b<aA.heap.size/\b≠T))->DT S w.heap.size (w.heap.size+1+1) W.heap.size o aA b):=λV aA o T h1 h2 h3 b hb=>hb.imp id λh=>by have:=hW.bw.size;exact⟨E,h.2.1,E,E,λe=>by have:=h3 b e;omega⟩
 have bI:(op==35)=false:=by rcases aV with rfl|rfl<;>rfl
 have⟨q0,q1,q2,q3,q4⟩:=cP hW.node;generalize P:(λx=>b7 m (F.o t)[1] ((n0,x) :: l.reverse))=Gzq at *;have⟨bz,bk,br,bt,bu⟩:=QY Tryz.info_treeX;have q9:Hid (_/\_/\_/\_):=⟨bk,br,bt,bu⟩;clear hW hB ht hv hg bi hl aU hf hy e0 e1 e2 e3 e4 av bo ai bn aT bG zH n hm ba bk br bt bu;generalize hR:il op Gzq (cL f) []=R at *;have HR:=a8 hR;clear hR;unfold DQ;go_in;go_upto_region 1 with fail;rw[<- bg];clear bg;go_wp2_with fail;go_loopw [12] (λiv wr=>∃(j:Nat)(acc:List V6)(ka:ZA)(N kc:Nat),j<=am/\iv=I U j/\J acc=N/\N<=j/\nU S w W wr (w.heap.size+1+1) acc (A ka N kc)/\il op Gzq ((cL f).drop j) acc=R) (λiv _=>am-(intOf iv).toNat);case atStart=>exact⟨0,[],Y,0,0,Q9 _,D,D,Q9 _,nU.start,HR⟩
 case round=>
  clear HR;obtain⟨j,acc,ka,N,kc,hj,rfl,aG,bO,af,ap⟩:=hrel;have s:=af.bw;obtain⟨-,-,⟨p0,p1,p2,p3,p4⟩,q0,q1,q2,q3,q4⟩:=HS.out wr (HL _ af.bw);by_cases bN:j<am
  .have aS:j<J (cL f):=J6;have bj:(cL f).drop j=(cL f)[j] :: (cL f).drop (j+1):=Qy aS;obtain⟨fb,fo,g0,g1,g2,ga,ha,gl,gc,jo,hc,rfl,zx,zR,aR,az⟩:=HF.2 j aS;generalize (cL f)[j]=kd at *;have aw:Bw wr wr.drew:=(Qg _ _).drew;have aO:=bE.out wr.drew kd _ _ _ _ _ _ _ _ _ (HX _ (s.trans (aw.mono s.size))).2 aR az;have aP:=HG.out kd az;have eG:b7 m (F.o t)[1] ((n0,kd) :: l.reverse)=Gzq kd:=by rw[<- P]
   rw[eG]at aO aP;rw[bj]at ap;have vD:=a8 aO;have aM:=a8 aP;have B:=a8 ap;have ag:=a8 (aX _ _ _ _ af aw);have aB:Hid (∀V,Bw w V->b8 S V 6 kd (I U g0) (I U g1) (Zt g2) (A ga gl gc) (A ha jo hc)):=λV hV=>aR.keep (b6 hV aK) zI;have aC:Hid (∀V:Zw,Bw wr V->(Q5 V fb (fo+j*5) g0 g1 g2 ga gl gc ha jo hc)/\a7 V np nq=Z (Zt n0)/\(Q5 V kb (ko+5) y0 y1 y2 za zl zc ua ul uc)/\(N5 V (w.heap.size+1) a0 a1 a2 aa al ac (b5 fb fo) am ae)/\N5 V w.heap.size op x1 x2 (b5 np nq) xl xc (b5 kb ko) yl yc):=λV hV=>⟨zR V (HL V (s.trans (hV.mono s.size))),HS V (HL V (s.trans (hV.mono s.size)))⟩;have bA:=a8 s;have ak:=a8 aw;have bF:(j:Int)<(am:Int):=E;have Q:=aC.out _ aw;have bh:=aG;have q7:=a8 aG;have ab:Hid (∀r,Gzq kd=r->Gzq kd=r):=zI;clear bj aS zx zR aR az aO aP eG ap af s aw aG bh;generalize bb:Gzq kd=R1 at *;have O:=a8 bb;clear bb ab;go_upto_region 12 with fail;go_cut [13,14] from 66 to 129 (λpv cv wx=>∃T z0 M q8 j2 qc qq qa sl sc c,pv=.pointer (b5 T 0)/\cv=I U c/\qbO S wr.drew wx R1 T z0 M q8 j2 qc qq qa sl sc c);case first=>
    refine Qz (S:=λw'=>(Q5 w' fb (fo+j*5) g0 g1 g2 ga gl gc ha jo hc)/\a7 w' np nq=Z (Zt n0)/\(Q5 w' kb (ko+5) y0 y1 y2 za zl zc ua ul uc)/\(N5 w' (w.heap.size+1) a0 a1 a2 aa al ac (b5 fb fo) am ae)/\N5 w' w.heap.size op x1 x2 (b5 np nq) xl xc (b5 kb ko) yl yc) zK Q (λhHeld=>?_);clear Q p0 p1 p2 p3 p4 q0 q1 q2 q3 q4;have ut:Hid (∀V:Zw,Bw wr.drew V->(Q5 V fb (fo+j*5) g0 g1 g2 ga gl gc ha jo hc)/\a7 V np nq=Z (Zt n0)/\(Q5 V kb (ko+5) y0 y1 y2 za zl zc ua ul uc)/\(N5 V (w.heap.size+1) a0 a1 a2 aa al ac (b5 fb fo) am ae)/\N5 V w.heap.size op x1 x2 (b5 np nq) xl xc (b5 kb ko) yl yc):=λV hV=>aC V (ak.trans (hV.mono ak.size));have ax:Bw wr.drew wr.drew:=Qg _ _;clear aC ak ag B aB bA;generalize wr.drew=V0 at *;refine t4 0 1 2 3 ?_;refine t4 4 5 6 7 ?_;refine t4 8 9 11 12 ?_;refine t2 13 14 ?_;refine XG (show Region.ready _ _ _=[10,19] by kernel_rfl) zS ?_;refine QO D (λK hK=>?_) (QO D (λK hK=>?_) Xy)
    .go_simp;go_at_call 79;refine H (vD V0 ax) ?_;rintro e V2 ⟨h2,oa,ol,oc,rfl,n⟩;have xY:=a8 n;have u:Bw V0 V2:=ax.trans (h2.mono ax.size);refine hK.out _ _ (ut _ u) (λhHeld=>?_);clear hK K n;refine XG (show Region.ready _ _ _=[15,19] by kernel_rfl) zS ?_;refine QO D (λK hK=>?_) (QO D (λK hK=>?_) Xy);·go_simp;go_at_call 24;refine H (xY V2 (Qg _ _)) ?_;rintro e ql ⟨h3,z0,M,q8,j2,qc,qq,qa,sl,sc,c,rfl,n⟩;have vf:=a8 n;have y:Bw V0 ql:=u.trans (h3.mono u.size);refine hK.out _ _ (ut _ y) (λhHeld=>?_);clear hK K n;refine t2 16 17 ?_;refine tk 18 ?_;refine ic 19 λK hK=>?_;go_simp;have z:Bw V0 (ql.alloc d8):=y.trans ((eC _ _).mono y.size);have aD:Bw ql (ql.alloc d8):=eC _ _;have X:=Qh ql d8;have aF:=(Qe.1 X).1;refine hK.out _ _ (ut _ z) (λhHeld=>?_);clear hK K;generalize ql.alloc d8=V4 at *;have bH:=y.size;have q5:=z;have hP:=vf.out ql.heap.size V4 E aD X (.inr (.inr (QD _)));have vH:=dk (g0:=I U z0) (g1:=I U M) (g2:=Zt q8) (g3:=A j2 qq qa) (g4:=A qc sl sc) (o:=0) (q5:Bw V0 V4) (show V0.heap.size<=ql.heap.size by omega);have⟨⟨r0,r1,r2,r3,r4⟩,f0,f1,f2,f3,f4⟩:=cI X;exact qaY
     .go_simp;have z:Bw V0 (V2.alloc d8):=u.trans ((eC _ _).mono u.size);have aD:Bw V2 (V2.alloc d8):=eC _ _;have X:=Qh V2 d8;have aF:=(Qe.1 X).1;refine hK.out _ _ (ut _ z) (λhHeld=>?_);clear hK K;generalize V2.alloc d8=V3 at *;refine ic 15 λK hK=>?_;go_simp;go_at_call 24;refine H (xY V3 aD) ?_;rintro e ql ⟨h3,z0,M,q8,j2,qc,qq,qa,sl,sc,c,rfl,n⟩;have vf:=a8 n;have y:Bw V0 ql:=z.trans (h3.mono z.size);refine hK.out _ _ (ut _ y) (λhHeld=>?_);clear hK K n;refine t2 16 17 ?_;refine tk 18 ?_;have bH:=u.size;have au:=dy X h3;have q5:=y;have hP:=vf.out V2.heap.size ql E (Qg _ _) au (.inr (.inl ⟨QD _,aF⟩));have vH:=dk (g0:=I U z0) (g1:=I U M) (g2:=Zt q8) (g3:=A j2 qq qa) (g4:=A qc sl sc) (o:=0) (q5:Bw V0 ql) (show V0.heap.size<=V2.heap.size by omega);have⟨⟨r0,r1,r2,r3,r4⟩,f0,f1,f2,f3,f4⟩:=cI au;exact qaY
    .go_simp;have z:Bw V0 (V0.alloc d8):=ax.trans ((eC _ _).mono ax.size);have aD:Bw V0 (V0.alloc d8):=eC _ _;have X:=Qh V0 d8;have aF:=(Qe.1 X).1;refine hK.out _ _ (ut _ z) (λhHeld=>?_);clear hK K;generalize V0.alloc d8=V1 at *;refine ic 10 λK hK=>?_;go_simp;go_at_call 79;refine H (vD V1 z) ?_;rintro e V2 ⟨h2,oa,ol,oc,rfl,n⟩;have xY:=a8 n;have u:Bw V0 V2:=z.trans (h2.mono z.size);refine hK.out _ _ (ut _ u) (λhHeld=>?_);clear hK K n;refine ic 15 λK hK=>?_;go_simp;go_at_call 24;refine H (xY V2 (Qg _ _)) ?_;rintro e ql ⟨h3,z0,M,q8,j2,qc,qq,qa,sl,sc,c,rfl,n⟩;have vf:=a8 n;have y:Bw V0 ql:=u.trans (h3.mono u.size);refine hK.out _ _ (ut _ y) (λhHeld=>?_);clear hK K n;refine t2 16 17 ?_;refine tk 18 ?_;have au:=dy (dy X h2) h3;have q5:=y;have hP:=vf.out V0.heap.size ql (QD _) (Qg _ _) au (.inl aF);have vH:=dk (g0:=I U z0) (g1:=I U M) (g2:=Zt q8) (g3:=A j2 qq qa) (g4:=A qc sl sc) (o:=0) (q5:Bw V0 ql) (show V0.heap.size<=V0.heap.size by omega);have⟨⟨r0,r1,r2,r3,r4⟩,f0,f1,f2,f3,f4⟩:=cI au;exact qaY
   case rest=>
    obtain⟨T,z0,M,q8,j2,qc,qq,qa,sl,sc,c,rfl,rfl,hP⟩:=hcut;have⟨V,hV⟩:=fk wc;rw[<- hV]at hP ⊢;clear hV p0 p1 p2 p3 p4 q0 q1 q2 q3 q4 Q vD;obtain⟨an,be,aN,bf⟩:=hP;have aQ:=ak.trans (an.mono ak.size);have P:=aX.out _ _ _ _ ag an;have aq:=P.bw;have⟨hz,aW⟩:=HX.out V aq;have⟨⟨r0,r1,r2,r3,r4⟩,f0,f1,f2,f3,f4⟩:=cI hz;obtain⟨⟨k0,k1,k2,k3,k4⟩,-,-,⟨p0,p1,p2,p3,p4⟩,q0,q1,q2,q3,q4⟩:=aC.out V aQ;have⟨t0,t1,t2,t3,t4⟩:=cP aN;cases R1 with
    | error k=>
     obtain rfl:c=k:=bf;have bL:(c==0)=false:=by have h1:1<=c:=aM.1;simpa using (show ¬c=0 by omega)
     have HE:Hid (gG S w R (.returned (Zu #[Gd,I U c])) (dN V (w.heap.size+1+1) 0 0 ⟨#[]⟩ Y Y 0 0 0 0)):=by show gG S w R _ _;rw[<- B.out,MW O.out];exact aY V c aq
     clear B O ag aB aM an be aN aQ P aq hz aW;rcases aV with rfl|rfl;all_goals
      go_wp2_with fail
      exact bR HE
    | ok a=>
     obtain⟨rfl,aE⟩:=bf;have bv:z0=F.k a:=by have:=aE.1;injection this
     have bx:M=F.n a:=by have:=aE.2.1;injection this
     have HZ:Hid (z0=F.k a/\M=F.n a):=⟨bv,bx⟩;have⟨xs,bp,bm⟩:=P.o;have C:Hid (V.ownsRow (W.heap.size+1) 31 5 (A ka N kc) N xs):=by show V.ownsRow _ _ _ _ _ _;rw[<- q7.out];rw[q7.out];have:=bp;rw[q7.out]at this;exact this
     have ah:=a8 bm;have bd:=P.lt;have x2:a7 V W.heap.size 4=Z (A ka N kc):=iM P.box 4 D;have bc:=ag.lt;have HT:Hid (b8 (DT S w.heap.size (w.heap.size+1+1) W.heap.size (Uc ka N kc).ownBlock V) V 6 a (I U z0) (I U M) (Zt q8) (A j2 qq qa) (A qc sl sc)):=aE.keep ik (bD wr.drew V _ T bc an λb e=>by
      obtain⟨bS,bq,-⟩:=ag.o
      exact (cO bq b e).2)
     have ab:Hid (b8 (DT S w.heap.size (w.heap.size+1+1) W.heap.size (Uc ka N kc).ownBlock V) V 6 kd (I U g0) (I U g1) (Zt g2) (A ga gl gc) (A ha jo hc)):=(aB V aW).keep ik λb hb=>.inl hb;have j0:=a8 P;have bC:=a8 (aY V 6 aq);clear ag aB aM an be aN aQ P aq hz aW aE bp bm bv bx bc;rcases aV with rfl|rfl
     .have HN:=a8 (show il 33 Gzq ((cL f).drop (j+1)) (acc++[a])=R from (IJ O D).symm.trans B);clear B O HZ ab k0 k1 k2 k3 k4;go_wp2_with (at_builtin;refine Xb _ D (.tmp 112) (.tmp 114) 29 cU (W.heap.size+1) 31 bz _ 5 80 underlying29 q9.1 q9.2.1 q9.2.2.1 q9.2.2.2 D zC (A ka N kc) N xs cU (C.alloc _) ⟨V.heap.size,0,Y⟩ 1 1 [I U z0,I U M,Zt q8,A j2 qq qa,A qc sl sc] cU D (QB (Qh V _)) iz zC fA E zE (V.heap.size+1) zS ?_;intro g cap v3 q6 q ar ay;refine XE ?_);refine QJ ?_;have js:=((q.block W.heap.size zE (λe=>by have:=cO C _ e.symm;omega)).trans (Qf _ _ _ (by simpa using bd))).trans j0.box;have aI:a7 v3 W.heap.size 4=Z (A ka N kc):=sW;have aJ:v3.frozen? ⟨W.heap.size,4,Y⟩=false:=sX;have hF:=nU.push (Wa:=V.alloc (UA z0 M q8 j2 qq qa qc sl sc)) (one:=UA z0 M q8 j2 qq qa qc sl sc) (g:=g) (cap:=cap) (xs:=xs) j0 aK aZ HT D ⟨D,D,D⟩ q7 C ah q6 q ar;have aL:=a8 hF;clear hF q6 q ar ay js C ah j0 HT x2;go_wp2;go_roundw;case rel=>exact⟨j+1,acc++[a],b5 g 0,N+1,cap,E,ew,iT a q7,E,aL,HN⟩
      case measure=>exact eb
     .by_cases hs:z0=3
      .have aj:F.k a=3:=by rw[<- HZ.1];exact hs
       have hN:=(F6 O D aj).symm.trans B;subst hs;by_cases hn:M=1
       .have HN:=a8 (show il 34 Gzq ((cL f).drop (j+1)) (acc++[kd])=R by rw[Qm (by rw[<- HZ.2];exact hn)]at hN;exact hN);subst hn;have aH:∀o,(V.drew.alloc o).ownsRow (W.heap.size+1) 31 5 (A ka N kc) N xs:=λo=>C.drew.alloc o;clear B O HZ HT aj hN;go_wp2_with fail;go_region_law (first
         | (refine Xd _ cU (.tmp 121) (.tmp 127) 29 cU (W.heap.size+1) 31 bz _ 5 80 underlying29 q9.1 q9.2.1 q9.2.2.1 q9.2.2.2 D zC (A ka N kc) N xs cU (aH _) ⟨V.heap.size,0,Y⟩ 1 1 [I U g0,I U g1,Zt g2,A ga gl gc,A ha jo hc] cU D (QB (Qh V.drew _)) iz zC fA E zE (V.heap.size+1) zS ?_;intro g cap v3 q6 q ar ay;have js:=((q.block W.heap.size zE (λe=>by have:=cO C.out _ e.symm;omega)).trans (Qf _ _ _ (by simpa using bd))).trans j0.box;have aI:a7 v3 W.heap.size 4=Z (A ka N kc):=sW;have aJ:v3.frozen? ⟨W.heap.size,4,Y⟩=false:=sX))
        all_goals
         have hF:=nU.push (Wa:=V.drew.alloc (UA g0 g1 g2 ga gl gc ha jo hc)) (one:=UA g0 g1 g2 ga gl gc ha jo hc) (g:=g) (cap:=cap) (xs:=xs) j0 aK aZ ab D ⟨D,D,D⟩ q7 C ah q6 q ar
         have aL:=a8 hF
         clear hF q6 q ar ay js C ah j0 ab x2 aH aI aJ
         go_wp2
         go_roundw
         case rel=>exact⟨j+1,acc++[kd],b5 g 0,N+1,cap,E,ew,iT kd q7,E,aL,HN⟩
         case measure=>exact eb
       .have HN:=a8 (show il 34 Gzq ((cL f).drop (j+1)) acc=R by rw[Qd (by rw[<- HZ.2];exact hn)]at hN;exact hN);have bP:(M==1)=false:=by simpa using hn
        clear B O HZ HT ab C ah aj hN hn;go_wp2_with fail;go_roundw;case rel=>exact⟨j+1,acc,ka,N,kc,E,ew,q7,E,j0,HN⟩
        case measure=>exact eb
      .have aj:¬F.k a=3:=by rw[<- HZ.1];exact hs
       have y:(z0==3)=false:=by simpa using hs
       have HE:Hid (gG S w R (.returned (Zu #[Gd,I U 6])) (dN V (w.heap.size+1+1) 0 0 ⟨#[]⟩ Y Y 0 0 0 0)):=by show gG S w R _ _;rw[<- B.out,II O.out ⟨rfl,aj⟩];exact bC
       clear B O HZ HT ab C ah aj hs j0;go_wp2_with fail;exact bR HE
  .have bl:(cL f).drop j=[]:=Xw J6;have HE:Hid (eu (fd 4 0 WT [] acc)=R):=by show _=_;rw[<- ap,bl];exact cU
   have⟨b0,b1,b2,b3,b4⟩:=cP af.box;have HM:=a8 (bB wr acc _ af E);have bF:¬(j:Int)<(am:Int):=E;clear ap bl af aG;go_wp2_with fail;refine H HM ?_;rintro e w2 ⟨u,z0,M,q8,j2,qc,qq,qa,sl,sc,c,rfl,hz,hq⟩;have⟨⟨r0,r1,r2,r3,r4⟩,f0,f1,f2,f3,f4⟩:=cI hz;have HQ:=a8 hq;clear hz hq u HM;go_wp2_with fail;refine bR (v:=Zu #[Uy z0 M q8 j2 qq qa qc sl sc,I U c]) ?_;rw[<- HE.out];exact HQ
def Jn (o:Bd S w) {op:Int} {r:Except Int V6} (g:op=33∨op=34∨op=35)
  (p:∀V,Bw w V->DQ (λb=>Ov S w.heap.size (Z (w.heap.size+1+1)) V b) V (A va vl vc) op x1 x2 xa ya xl xc yl yc a0 a1 a2 aa ad al ac am ae r):lm S w (A va vl vc) op x1 x2 xa ya xl xc yl yc a0 a1 a2 aa ad al ac am ae r:=by
 have⟨W,a⟩:=p6 w op x1 x2 xa ya xl xc yl yc a0 a1 a2 aa ad al ac am ae;have d:=a.is;have⟨B,C,K,L,M⟩:=cP a.node;have⟨u,v,x,y,z⟩:=cP a.first;have n:Hid (WU prog 80 #[A va vl vc,Uy op x1 x2 xa xl xc ya yl yc,Uy a0 a1 a2 aa al ac ad am ae] W λe f=>Bw W f/\∃z0 l m h k j i sl sc c,e=fT z0 l m h k j i sl sc c/\f.heap[w.heap.size+1+1]?=Z d8/\gG S w r e (dN f (w.heap.size+1+1) z0 l m h k j i sl sc)):=
  (p W a.bw).mono λe f hp=>⟨hp.1,a.pass o (Qg _ _) hp⟩
 unfold lm;rcases g with rfl|rfl|rfl;all_goals
  go_in
  go_upto_region 1 with fail
  rw[<- d]
  clear d
  go_wp2_with fail
  refine H n ?_
  rintro e f ⟨q,z0,l,m,h,k,j,i,sl,sc,c,rfl,t,s⟩
  have⟨⟨r0,r1,r2,r3,r4⟩,f0,f1,f2,f3,f4⟩:=cI t
  have HQ:=a8 s
  exact nX
def iS{kids:List (T m)}(h:i<J kids):gi (b7 m) kids i env=b7 m kids[i] env:=by unfold gi;rw[Qp h]
def F3{op:Int}(h:op=16∨op=17)(i:Nat)(b a:Int)(r:Except Int V6):dD op i b r=dD op i a r:=by unfold dD;rcases h with rfl|rfl<;>cases r<;>simp[dV]
def Rd{t:V6}(h:i<J (F.o t)):∃a:i<J (cL t),(cL t)[i]=fl 5 5 (F.o t)[i]:=⟨by unfold cL;rw[Qv];exact h,Xe _⟩
def Ao{t:V6}(h:0<J (F.o t)):∃r,cL t=fl 5 5 (F.o t)[0] :: r:=by have⟨a,e⟩:=Rd h;refine⟨(cL t).drop 1,?_⟩;rw[<- e];have:=Qy a;exact iG
def EA (z:Bd S w) {op:Int} (q9:gj m) {t:T (m+1)} {l:List (ZB × V6)} (ht:b8 S w (m+1) t (I U op) (I U x1) (Zt x2) (A xa xl xc) (A ya yl yc)) (q7:fM S w 6 l v) (W:c7 (m+1) t d=true) (k:F.k t<=35) (n:cJ (m+1) t<=200) (j0:(J l:Int)<=1048576+2*d) (o:∀ p,p∈l->dB 6 p.2=true) {f:V6} (R:b8 S w 6 f (I U a0) (I U a1) (Zt a2) (A aa al ac) (A ad am ae)) (q:dB 6 f=true) (ai:hZ (F.k t)=true) (jp:dV (F.k t) 0 (F.k f) 0=true) :
  lm S w v op x1 x2 xa ya xl xc yl yc a0 a1 a2 aa ad al ac am ae (eo (b7 m) (F.k t) (F.q t) (F.o t) l.reverse f):=by
 have⟨hj,ag⟩:=ed W;have N:=iW hj k;obtain⟨va,vc,M,-⟩:=id q7;have qq:op=F.k t:=FH;have aq:a1=F.n f:=by have:=R.2.1;injection this
 have ap:am=J (F.o f):=by have⟨_,_,h4,_⟩:=R.2.2.2.2.2.2.2.1;injection h4
 have q6:=ht.2.2.2.2.2.2.1;have ab:∀i (h:i<J (F.o t)) env,(∀p,p∈env->dB 6 p.2=true)->lR (b7 m (F.o t)[i] env):=λi h env he=>lC m _ (d+1) env (ag _ zS) (kT (N.kid i h)).1 (kT (N.kid i h)).2 he;have qa:∀a,F.q t=[a]->∃P nq,xa=b5 P nq/\a7 w P nq=Z (Zt a)/\P<w.heap.size/\0<xl/\a.size<=WX:=λa ha=>by
  rw[ha]at q6;obtain⟨ao,cap,he,-,hs,q8⟩:=q6;obtain⟨b,off,rfl,hb,c⟩:=q8 zS;cases he
  exact⟨b,off,D,by simpa using c 0 zS,z b hb,dS,hs a zS⟩
 have aj:∀a b,F.q t=[a,b]->∃P nq,xa=b5 P nq/\a7 w P nq=Z (Zt a)/\a7 w P (nq+1)=Z (Zt b)/\P<w.heap.size/\1<xl/\a.size<=WX/\b.size<=WX:=λa b ha=>by
  rw[ha]at q6;obtain⟨ao,cap,he,-,hs,q8⟩:=q6;obtain⟨p,off,rfl,hb,c⟩:=q8 zS;cases he
  exact⟨p,off,D,by simpa using c 0 zS,by simpa using c 1 zS,z p hb,dS,hs a zS,hs b zS⟩
 have an:=XI ai;have q8:F.k t=16∨F.k t=17∨F.k t=19∨F.k t=20∨F.k t=31∨F.k t=32∨F.k t=33∨F.k t=34∨F.k t=35:=E;have ql:=N.cnt;have j:∀V,Bw w V->gw S w V:=λV C=>b6 C z;have j2:=qq.symm;rcases q8 with e|e|e|e|e|e|e|e|e;all_goals
  have g:=ql (by rw[e];decide)
  rw[e]at qq jp g ⊢
  subst qq
 .have K:J (F.o t)=2:=g;have s:1<J (F.o t):=E;have u:F.k f=3:=FO;obtain⟨Q,-⟩:=mO q u;have y:eo (b7 m) 16 (F.q t) (F.o t) l.reverse f=if F.n f=1 then dD 16 1 0 (gi (b7 m) (F.o t) 1 l.reverse) else .ok f:=by unfold eo kZ;rw[Qm (.inl rfl)];by_cases h:F.n f=1<;>simp[h]
  rw[y];rcases Q with h|h;·rw[Qd E];exact Jq z M 16 x1 x2 xa ya xl xc yl yc R zE
  .rw[Qm h,iS s,F3 (.inl rfl) 1 0 (F.k f)];exact Jo z q9 ht q7 W k n j0 o R j2 zE s
 .have K:J (F.o t)=2:=g;have s:1<J (F.o t):=E;have u:F.k f=3:=FO;obtain⟨Q,-⟩:=mO q u;have y:eo (b7 m) 17 (F.q t) (F.o t) l.reverse f=if F.n f=1 then .ok f else dD 17 1 0 (gi (b7 m) (F.o t) 1 l.reverse):=by unfold eo kZ;rw[Qm (.inr rfl)];by_cases h:F.n f=1<;>simp[h]
  rw[y];rcases Q with h|h;·rw[Qd E,iS s,F3 (.inr rfl) 1 0 (F.k f)];exact Jo z q9 ht q7 W k n j0 o R j2 zE s
  .rw[Qm h];exact Jq z M 17 x1 x2 xa ya xl xc yl yc R zE
 .have K:J (F.o t)=3:=g;have u:F.k f=3:=FO;obtain⟨Q,-⟩:=mO q u;have y:eo (b7 m) 19 (F.q t) (F.o t) l.reverse f=if F.n f=1 then gi (b7 m) (F.o t) 1 l.reverse else gi (b7 m) (F.o t) 2 l.reverse:=D
  rw[y];rcases Q with h|h;·rw[Qd E,iS (by omega:2<J (F.o t))];exact Tg z q9 a0 a1 a2 aa ad al ac am ae ht q7 W k n j0 o 2 E _
  .rw[Qm h,iS (by omega:1<J (F.o t))];exact Tg z q9 a0 a1 a2 aa ad al ac am ae ht q7 W k n j0 o 1 E _
 .have K:J (F.o t)=2:=g;have s:1<J (F.o t):=E;obtain⟨a,xS,-⟩:=N.free (by rw[e];decide);obtain⟨P,nq,rfl,c,B,O,L⟩:=qa a xS;have y:eo (b7 m) 20 (F.q t) (F.o t) l.reverse f=gi (b7 m) (F.o t) 1 ((a,f) :: l.reverse):=by rw[xS];rfl
  rw[y,iS s];exact qaM z c B O L q9 ht q7 W k n j0 o R q s
 .have K:J (F.o t)=2:=g;have s:1<J (F.o t):=E;have u:F.k f=6:=FO;obtain⟨-,-,-,ah⟩:=nF q u;by_cases qc:0<J (F.o f)
  .have⟨r,hq⟩:=Ao qc;have y:eo (b7 m) 31 (F.q t) (F.o t) l.reverse f=.ok (fl 5 5 (F.o f)[0]):=by show (match cL f with|x :: _=>(Except.ok x:Except Int V6)|[]=>gi (b7 m) (F.o t) 1 l.reverse)=_;rw[hq]
   rw[y];exact Sh z M x1 x2 xa ya xl xc yl yc R q qc E
  .have y:eo (b7 m) 31 (F.q t) (F.o t) l.reverse f=gi (b7 m) (F.o t) 1 l.reverse:=by
    have hq:cL f=[]:=by unfold cL;rw[Qj (l:=F.o f) E];rfl
    show (match cL f with|x :: _=>(Except.ok x:Except Int V6)|[]=>gi (b7 m) (F.o t) 1 l.reverse)=_;rw[hq]
   rw[y,iS s];exact Jp z a0 a1 a2 aa ad al ac am ae q9 ht q7 W k n j0 o E E s
 .have K:J (F.o t)=3:=g;have s:1<J (F.o t):=E;have X:2<J (F.o t):=E;have u:F.k f=6:=FO;obtain⟨a,xS,-⟩:=N.free (by rw[e];decide);obtain⟨P,nq,rfl,c,B,O,L⟩:=qa a xS;obtain⟨-,-,-,ah⟩:=nF q u;by_cases qc:0<J (F.o f)
  .have⟨r,hq⟩:=Ao qc;have y:eo (b7 m) 32 (F.q t) (F.o t) l.reverse f=gi (b7 m) (F.o t) 1 ((a,fl 5 5 (F.o f)[0]) :: l.reverse):=by exact Yg
   rw[y,iS s];exact Sf z c B O L q9 ht q7 W k n j0 o R q qc E s
  .have y:eo (b7 m) 32 (F.q t) (F.o t) l.reverse f=gi (b7 m) (F.o t) 2 l.reverse:=by
    have hq:cL f=[]:=by unfold cL;rw[Qj (l:=F.o f) E];rfl
    exact Yg
   rw[y,iS X];exact Jp z a0 a1 a2 aa ad al ac am ae q9 ht q7 W k n j0 o E E X
 iterate 2
  .have K:J (F.o t)=2:=g
   have s:1<J (F.o t):=E
   obtain⟨a,xS,-⟩:=N.free (by rw[e];decide)
   obtain⟨P,nq,rfl,c,B,O,L⟩:=qa a xS
   have y:∀op,op=33∨op=34->eo (b7 m) op (F.q t) (F.o t) l.reverse f=il op (λx=>b7 m (F.o t)[1] ((a,x) :: l.reverse)) (cL f) []:=λop ak=>by
    have e1:(λx=>gi (b7 m) (F.o t) 1 ((a,x) :: l.reverse))=λx=>b7 m (F.o t)[1] ((a,x) :: l.reverse):=funext λx=>iS s
    rw[<- e1,xS]
    rcases ak with rfl|rfl<;>rfl
   rw[y _ zC,M]
   refine Jn z zC λV C=>?_
   exact Ou (Ov.lt z C.size) (kC C c B) (by have:=C.size;omega) O L q9 (ht.keep (j V C) λ_ h=>.inl h) (M ▸ q7.keep (j V C) λ_ h=>.inl h) W k n j0 o (R.keep (j V C) λ_ h=>.inl h) q s ab zC
 .have K:J (F.o t)=3:=g;have s:1<J (F.o t):=E;have X:2<J (F.o t):=E;have⟨a,b,xS⟩:=N.two e;obtain⟨P,nq,rfl,c,q5,B,O,L,af⟩:=aj a b xS;have y:eo (b7 m) 35 (F.q t) (F.o t) l.reverse f=pi (λacc x=>b7 m (F.o t)[2] ((b,x) :: (a,acc) :: l.reverse)) (cL f) (b7 m (F.o t)[1] l.reverse):=by have e1:(λacc x=>gi (b7 m) (F.o t) 2 ((b,x) :: (a,acc) :: l.reverse))=λacc x=>b7 m (F.o t)[2] ((b,x) :: (a,acc) :: l.reverse):=funext λacc=>funext λx=>iS X;rw[<- e1,<- iS (env:=l.reverse) s,xS];exact cU
  rw[y,M];refine Jn z E λV C=>?_;exact Lr (Ov.lt z C.size) (kC C c B) (kC C q5 B) (by have:=C.size;omega) O L af q9 (ht.keep (j V C) λ_ h=>.inl h) (M ▸ q7.keep (j V C) λ_ h=>.inl h) W k n j0 o (R.keep (j V C) λ_ h=>.inl h) q s X ab
def EvC(S:ZN)(w:Zw)(v:Zv)(op a:Int)(b:ZB)(c f:ZA)(e d h g:Nat)(r:Except Int V6):Prop:=WU prog 24 #[v,Uy op a b c e d f h g] w (gG S w r)
def RQ(h:Bd S w){l:List (ZB×V6)}(i:fM S w 6 l v)(m:J l<=3000000)(p:Int)(q:ZB)(s:ZA)(r u t:Nat)(nq:Nat)(nm:ZB)(a:a7 w np nq=Z (Zt nm))(g:np<w.heap.size)(y:0<xl):EvC S w v 4 p q (b5 np nq) s xl r u t (pj l nm):=by have⟨W,c⟩:=iC w 4 p q (b5 np nq) s xl r u t;have d:=c.is;obtain⟨F,D,rfl,-⟩:=id i;have⟨L,M,N,O,P⟩:=cP c.node;have c1:=kC c.bw a g;have f:∀b,S b->Ov S w.heap.size (Z (w.heap.size+1)) W b:=λb x=>.inl x;have j:=a8 ((EB nm (i.keep (b6 c.bw h) f) (Ov.lt h c.bw.size) m).mono λe K hp=>c.pass h (Qg _ _) hp);generalize pj l nm=R at *;clear c h i m a g f;unfold EvC;go_in;go_upto_region 1 with fail;rw[<- d];clear d;go_wp2_with fail;refine H j ?_;rintro e K ⟨X,E,qa,Q,z,V,T,C,B,k,rfl,o,n⟩;have⟨⟨r0,r1,r2,r3,r4⟩,f0,f1,f2,f3,f4⟩:=cI o;have HQ:=a8 n;clear o n j;exact nX
def LzK(S:ZN)(w V:Zw)(v:Zv)(op x:Int)(y:ZB)(z K:ZA)(C B M L:Nat)(R:Except Int V6)(e:Ending)(a:Zw):Prop:=
 Bw V a/\∃z0 t u d h g f sl sc c,e=fT z0 t u d h g f sl sc c/\((1<=c/\R=.error c)∨(c=0/\∀b,Bw a b->WU prog 55 #[v,Uy op x y z C B K M L,Uy z0 t u d g f h sl sc] b λe s=>∃m n o i p l j r q k,e=fT m n o i p l j r q k/\s.heap[w.heap.size+1]?=Z d8/\gG S w R e (dN s (w.heap.size+1) m n o i p l j r q)))
def MJ{op:Int}(h:hZ op=true):uH op 0=true/\op≠14/\op≠27/\op≠4:=by have h:=XI h;have a:op=16∨op=17∨op=19∨op=20∨op=31∨op=32∨op=33∨op=34∨op=35:=E;rcases a with rfl|rfl|rfl|rfl|rfl|rfl|rfl|rfl|rfl<;>decide
def Ol (B:Bd S w) {op:Int} (hm:gj m) {t:T (m+1)} {l:List (ZB × V6)} (ht:b8 S w (m+1) t (I U op) (I U x1) (Zt x2) (A xa xl xc) (A ya yl yc)) (hv:fM S w 6 l v) (j0:c7 (m+1) t d=true) (o:F.k t<=35) (O:cJ (m+1) t<=200) (qc:(J l:Int)<=1048576+2*d) (x:∀ p,p∈l->dB 6 p.2=true) (u:hZ (F.k t)=true) (X:0<J (F.o t)) (M:Ge w W op x1 x2 xa ya xl xc yl yc) (q9:Bw W V) (g:Nat) :
  WU prog 54 #[v,Uy op x1 x2 xa xl xc ya yl yc,I U 0,A (b5 g 0) 0 0] V (LzK S w V v op x1 x2 xa ya xl xc yl yc (b7 (m+1) t l.reverse)):=by
 have⟨ql,aa,ab,q8⟩:=MJ u;have⟨hj,z⟩:=ed j0;have R:=iW hj o;have s:=M.bw.trans (q9.mono M.bw.size);have ac:=(Qe.1 M.zero).1;have hz:=q9.size;have ad:=M.bw.size;have Q:∀b,S b->Ov S w.heap.size (Z (w.heap.size+1)) V b:=λb a=>.inl a;have L:Bd (Ov S w.heap.size (Z (w.heap.size+1)) V) V:=Ov.lt B E;have hK:=rv hm (Ov S w.heap.size (Z (w.heap.size+1)) V) (λ_=>False) t l [] _ _ _ _ _ v (A (b5 g 0) 0 0) d 0 V (ht.keep (b6 s B) Q) (hv.keep (b6 s B) Q) L j0 o O qc x X ql Ae ⟨_,_,D,Q9 _,λh=>absurd D h⟩ (λh _=>E);have q5:lR (b7 m (F.o t)[0] l.reverse):=lC m _ (d+1) l.reverse (z _ zS) (kT (R.kid 0 X)).1 (kT (R.kid 0 X)).2 λp hp=>x p (X0.1 hp);have j:=sZ (op:=F.k t) (i:=0) (b:=0) q5;have hR:b7 (m+1) t l.reverse=match dD (F.k t) 0 0 (b7 m (F.o t)[0] l.reverse) with|.error c=>.error c|.ok f=>eo (b7 m) (F.k t) (F.q t) (F.o t) l.reverse f:=by show gF (b7 m) (show F (T m) from t) l.reverse=_;unfold gF;rw[Qd q8,Qm u];have:=iS (m:=m) (kids:=F.o t) (env:=l.reverse) X;show (match dD (F.k t) 0 0 (gi (b7 m) (F.o t) 0 l.reverse) with|.error c=>(Except.error c:Except Int V6)|.ok f=>eo (b7 m) (F.k t) (F.q t) (F.o t) l.reverse f)=_;rw[this]
 rw[hR];refine hK.mono λe y hp=>⟨hp.1,?_⟩;obtain⟨z0,z1,z2,ra,sa,rl,rc,sl,sc,c,rfl,a,C⟩:=hp.z;refine⟨z0,z1,z2,ra,sa,rl,rc,sl,sc,c,D,?_⟩;have C:match dD (F.k t) 0 0 (b7 m (F.o t)[0] l.reverse) with
  | .ok t=>c=0/\b8 (Ov (Ov S w.heap.size (Z (w.heap.size+1)) V) V.heap.size Y y) y 6 t (I U z0) (I U z1) (Zt z2) (A ra rl rc) (A sa sl sc)
  | .error k=>c=k:=C
 have P:=λf=>Ak (op:=F.k t) (i:=0) (b:=0) (r:=b7 m (F.o t)[0] l.reverse) (t:=f);cases hrr:dD (F.k t) 0 0 (b7 m (F.o t)[0] l.reverse) with
 | error k=>rw[hrr]at C j;obtain rfl:c=k:=C;exact .inl ⟨j.1,D⟩
 | ok f=>
  rw[hrr]at C j;obtain⟨rfl,hn⟩:=C;refine .inr ⟨D,λV3 q6=>?_⟩;have N:=s.trans (a.mono E);have q:=N.trans (q6.mono N.size);have q7:=a.size;have qa:=q6.size;have K:Bd (Ov (Ov S w.heap.size (Z (w.heap.size+1)) V) V.heap.size Y y) y:=Ov.lt L q7;have qq:Bd (Ov (Ov S w.heap.size (Z (w.heap.size+1)) V) V.heap.size Y y) V3:=λb a=>Qn (K b a) qa;have n:∀b,S b->Ov (Ov S w.heap.size (Z (w.heap.size+1)) V) V.heap.size Y y b:=λb a=>.inl (.inl a);have:=EA qq hm (ht.keep (b6 q B) n) (hv.keep (b6 q B) n) j0 o O qc x (hn.keep (b6 q6 K) zI) j u (P f hrr).2;refine Calls.mono this λe w4 hp=>?_;obtain⟨u0,u1,u2,ta,va,tl,tc,vl,vc,k,h1,h2,-,q8⟩:=hp.pass B q (WR _) E λb a=>by
   rcases a with (a|a)|a;·exact .inl a
   .exact .inr ⟨a.1,E,a.2.2⟩
   .exact .inr ⟨E,E,λe=>FZ⟩
  exact⟨u0,u1,u2,ta,va,tl,tc,vl,vc,k,h1,dy (dy M.zero (q9.trans ((a.mono q9.size).trans (q6.mono E)))) h2,q8⟩
def RP {op:Int} {R:Except Int V6} (t:op=16∨op=17∨op=19∨op=20∨op=31∨op=32∨op=33∨op=34∨op=35)
  (hK:∀W,Ge w W op x1 x2 xa ya xl xc yl yc->∀V,Bw W V->∀g,WU prog 54 #[A va vl vc,Uy op x1 x2 xa xl xc ya yl yc,I U 0,A (b5 g 0) 0 0] V (LzK S w V (A va vl vc) op x1 x2 xa ya xl xc yl yc R)):EvC S w (A va vl vc) op x1 x2 xa ya xl xc yl yc R:=by
 have⟨W,i⟩:=iC w op x1 x2 xa ya xl xc yl yc;have m:=i.is;have⟨O,P,Q,T,X⟩:=cP i.node;have q:=eC W (Zc #[] 31);have n:=a8 (hK W i _ q W.heap.size);have o:Hid (∀V,Bw (W.alloc (Zc #[] 31)) V->(N5 V w.heap.size op x1 x2 xa xl xc ya yl yc)/\V.heap[w.heap.size+1]?=Z d8/\∀c,gG S w (.error c) (.returned (Zu #[Gd,I U c])) (dN V (w.heap.size+1) 0 0 ⟨#[]⟩ Y Y 0 0 0 0)):=λV q5=>by have a:=q.trans (q5.mono zS);have f:=(Qe.1 i.node).1;exact⟨⟨kC a O f,kC a P f,kC a Q f,kC a T f,kC a X f⟩,dy i.zero a,λc=>lL (i.bw.trans (a.mono E)) E⟩
 clear i hK q;unfold EvC;rcases t with rfl|rfl|rfl|rfl|rfl|rfl|rfl|rfl|rfl;all_goals
  go_in
  go_upto_region 1 with fail
  rw[<- m]
  clear m
  go_wp2_with fail
  refine H n ?_
  rintro e p ⟨h,z0,z,B,u,y,x,v,sl,sc,c,rfl,s⟩
  have d:=eC p (UA z0 z B u x v y sl sc)
  have b:=Qh p (UA z0 z B u x v y sl sc)
  have⟨K,jN⟩:=fk (p.alloc (UA z0 z B u x v y sl sc))
  rw[<- jN]at d b
  have⟨⟨O,P,Q,T,X⟩,l,j⟩:=o.out K (h.trans (d.mono h.size))
  have⟨q9,qa,F,k3,k4⟩:=cP b
  rcases s with ⟨r,rfl⟩|⟨rfl,L⟩
  .have HN:=a8 (j c)
   have q8:(c==0)=false:=PR
   have⟨⟨r0,r1,r2,r3,r4⟩,f0,f1,f2,f3,f4⟩:=cI l
   clear l d b j h r n o
   go_upto_region 14 with fail
   exact PX
  .have C:=a8 (L K d)
   clear d b j h L n o l
   go_upto_region 14 with fail
   rw[<- jN]
   clear jN
   go_wp2_with fail
   refine H C ?_
   rintro e w4 ⟨u0,u1,u2,D,q7,qc,q6,qq,ql,k,rfl,N,M⟩
   have⟨⟨r0,r1,r2,r3,r4⟩,f0,f1,f2,f3,f4⟩:=cI N
   have HQ:=a8 M
   clear N M C
   exact nX
def yf{t:T (m+1)}(h:cJ (m+1) t<=200):J (F.o t)<=199:=by
 have b:cJ (m+1) t=1+cG (λx=>cJ m x) (F.o t):=D;have a:∀(l:List (T m)),J l<=cG (λx=>cJ m x) l:=by
  intro l;induction l with
  | nil=>exact Q9 _
  | cons x r d=>
   have c:1<=cJ m x:=by
    cases m with
    | zero=>exact Empty.elim (show Empty from x)
    | succ m=>show 1<=1+_;omega
   show J r+1<=cJ m x+cG (λx=>cJ m x) r;omega
 have:=a (F.o t);omega
def Ka{m:Nat}(op num:Int)(text:ZB)(names:List ZB)(env:gk)(l:List (T m))(acc:List V6):Except Int V6:=match iJ (b7 m) op env l acc with|.error c=>.error c|.ok ks=>e8 op num text names ks
structure s8{m:Nat}(t:T (m+1))(env:gk)(acc:List V6)(j:Nat)(R:Except Int V6):Prop where
 len:J acc=j
 ok:∀k,k∈acc->dB 6 k=true
 want:∀i (h:i<J acc),dV (F.k t) i (F.k acc[i]) (F.k (acc.headD dU))=true
 rest:Ka (F.k t) (F.n t) (F.a t) (F.q t) env ((F.o t).drop j) acc=R
def MK(op k b a:Int):dV op 0 k b=dV op 0 k a:=by unfold dV;exact dS
section
variable {m:Nat} {t:T (m+1)} {env:gk} {acc:List V6} {j:Nat} {R:Except Int V6}
def s8.no(h:s8 t env acc j R)(b:j<J (F.o t))(a:dD (F.k t) j (F.k (acc.headD dU)) (b7 m (F.o t)[j] env)=.error c):R=.error c:=by rw[<- h.rest,Qy b];have d:=h.len;subst d;simp only[Ka,iJ,a]
def s8.step(h:s8 t env acc j R)(n:j<J (F.o t)){x:V6}(f:dD (F.k t) j (F.k (acc.headD dU)) (b7 m (F.o t)[j] env)=.ok x)(p:dB 6 x=true):s8 t env (acc++[x]) (j+1) R:=by
 have o:=h.len;subst o;refine⟨dS,λk c=>?_,λi hi=>?_,?_⟩
 .rcases QF.1 c with c|c;·exact h.ok k c
  .rw[QR.1 c];exact p
 .have g:=(Ak f).2;cases acc with
  | nil=>have l:i=0:=FR;subst l;show dV _ 0 (F.k x) _=true;rw[MK _ _ _ (F.k (([]:List V6).headD dU))];exact g
  | cons a r=>
   have e:((a :: r)++[x]).headD dU=(a :: r).headD dU:=D;rw[e];by_cases b:i<J (a :: r);·rw[QS b];exact h.want i b
   .have d:i=J (a :: r):=by simp at hi b ⊢;omega
    subst d;rw[show ((a :: r)++[x])[J (a :: r)]=x from by simp];exact g
 .rw[<- h.rest,Qy n];simp only[Ka,iJ,f]
end
def SZ{op:Int}{n:Nat}(b:Bs op=true)(e:i<n)(f:op≠24->n=J (mD op.toNat)):uH op i=true:=by
 have h:=XI b;have c:op≠24->∀i,i<J (mD op.toNat)->uH op i=true:=by have d:op=1∨op=2∨op=3∨op=5∨op=6∨op=7∨op=8∨op=9∨op=10∨op=11∨op=12∨op=13∨op=14∨op=15∨op=18∨op=21∨op=22∨op=23∨op=24∨op=25∨op=26∨op=27∨op=28∨op=29∨op=30:=E;rcases d with rfl|rfl|rfl|rfl|rfl|rfl|rfl|rfl|rfl|rfl|rfl|rfl|rfl|rfl|rfl|rfl|rfl|rfl|rfl|rfl|rfl|rfl|rfl|rfl|rfl;all_goals decide
 by_cases a:op=24;·subst a;simp[uH]
 .exact c a i (by rw[<- f a];exact e)
def KdP{m:Nat}(S:ZN)(w V:Zw)(t:T (m+1))(env:gk)(acc:List V6)(l:Zv)(j:Nat)(R:Except Int V6)(e:Ending)(b:Zw):Prop:=
 Bw V b/\∃z0 i k d h g f sl sc c,e=fT z0 i k d h g f sl sc c/\((1<=c/\R=.error c)∨(c=0/\∃x,s8 t env (acc++[x]) (j+1) R/\∀a,Bw b a->b8 (DT S w.heap.size (w.heap.size+1) (w.heap.size+1) l.ownBlock a) a 6 x (I U z0) (I U i) (Zt k) (A d g f) (A h sl sc)))
def Rt (S:ZN) (w:Zw) (M:Bd S w) (v:Zv) (op j0:Int) (z:ZB) (ql qc:ZA) (q7 qa yl yc:Nat) (m:Nat) (hm:gj m) (t:T (m+1)) (l:List (ZB × V6)) (d:Int) (ht:b8 S w (m+1) t (I U op) (I U j0) (Zt z) (A ql q7 qa) (A qc yl yc)) (hv:fM S w 6 l v) (N:c7 (m+1) t d=true) (o:F.k t<=35) (u:cJ (m+1) t<=200) (hl:(J l:Int)<=1048576+2*d) (y:∀ p,p∈l->dB 6 p.2=true) (q5:Bs (F.k t)=true) (P:Ge w W op j0 z ql qc q7 qa yl yc) (hV:Bw W V) {acc:List V6} {j:Nat} {R:Except Int V6} (L:s8 t l.reverse acc j R) (hr:pM S w V (w.heap.size+1) (w.heap.size+1) W.heap.size acc kv) (n:j<J (F.o t)) :
  WU prog 54 #[v,Uy op j0 z ql q7 qa qc yl yc,I U (j:Int),kv] V (KdP S w V t l.reverse acc kv j R):=by
 have⟨q9,q6⟩:=ed N;have f:=iW q9 o;have s:=P.bw.trans (hV.mono P.bw.size);have aa:=(Qe.1 P.zero).1;have hz:=hV.size;have q:Bd S V:=λb r=>Qn (M b r) E;obtain⟨xs,K,hk⟩:=hr;have B:=cO K;have q8:J acc<=20000:=by have h1:=L.len;have h2:=yf u;omega
 have C:dn (Ov S w.heap.size Y V) V (b8 (Ov S w.heap.size Y V) V 6) acc kv:=mq K q8 (λg N=>by
  have:=B g N
  exact .inr ⟨E,this.2,zS⟩) λi hi=>by
  have⟨c0,c1,c2,c3,c4,hc,qq⟩:=hk i hi
  exact⟨c0,c1,c2,c3,c4,hc,qq.keep ik λb r=>r.imp id zE⟩
 have hK:=rv hm S (Ov S w.heap.size Y V) t l acc _ _ _ _ _ v kv d j V (ht.keep (b6 s M) zI) (hv.keep (b6 s M) zI) q N o u hl y n (SZ q5 n f.cnt) (Ov.lt M E) C (λ_ h1 h=>by have:=L.len;rw[h]at this;simp at this;omega);have Q:=lC m _ (d+1) l.reverse (q6 _ zS) (kT (f.kid j n)).1 (kT (f.kid j n)).2 λp hp=>y p (X0.1 hp);have a:=sZ (op:=F.k t) (i:=j) (b:=F.k (acc.headD dU)) Q;refine hK.mono λe V2 hp=>⟨hp.1,?_⟩;obtain⟨z0,z1,z2,ra,sa,rl,rc,sl,sc,c,rfl,r,O⟩:=hp.z;refine⟨z0,z1,z2,ra,sa,rl,rc,sl,sc,c,D,?_⟩;cases hrr:dD (F.k t) j (F.k (acc.headD dU)) (b7 m (F.o t)[j] l.reverse) with
 | error k=>rw[hrr]at O a;obtain rfl:c=k:=O;exact .inl ⟨a.1,L.no n hrr⟩
 | ok x=>rw[hrr]at O a;obtain⟨rfl,qq⟩:=O;refine .inr ⟨D,x,L.step n hrr a,λV3 h3=>qq.keep (b6 h3 (Ov.lt q r.size)) λb X=>X.imp id λh=>?_⟩;have:=h3.size;exact⟨E,E,E,E,λe=>by have:=B b e;omega⟩
def Rs (S:ZN) (w:Zw) (v:Bd S w) (op P:Int) (Q:ZB) (X q9:ZA) (j0 q7 q6 q5:Nat) (m:Nat) (t:T (m+1)) (l:List (ZB × V6)) (d:Int) (ht:b8 S w (m+1) t (I U op) (I U P) (Zt Q) (A X j0 q7) (A q9 q6 q5)) (B:c7 (m+1) t d=true) (u:F.k t<=35) (y:cJ (m+1) t<=200) (M:Bs (F.k t)=true) (q:Ge w W op P Q X q9 j0 q7 q6 q5) (qa:Bw W V) {acc:List V6} {R:Except Int V6} (f:s8 t l.reverse acc (J (F.o t)) R) (hr:pM S w V (w.heap.size+1) (w.heap.size+1) W.heap.size acc kv) :
  WU prog 56 #[Uy op P Q X j0 q7 q9 q6 q5,kv] V λe O=>∃ql u1 u2 qq va q8 qc vl vc k,e=fT ql u1 u2 qq va q8 qc vl vc k/\O.heap[w.heap.size+1]?=Z d8/\gG S w R e (dN O (w.heap.size+1) ql u1 u2 qq va q8 qc vl vc):=by
 have⟨K,aa⟩:=ed B;have p:=iW K u;have h:=q.bw.trans (qa.mono q.bw.size);have ab:=(Qe.1 q.zero).1;obtain⟨xs,c,hk⟩:=hr;have N:=cO c;have h2:=yf y;have L:J acc<=20000:=by have h1:=f.len;omega
 have C:∀b,S b->Ov S w.heap.size (Z (w.heap.size+1)) V b:=λb x=>.inl x;have o:dn (Ov S w.heap.size (Z (w.heap.size+1)) V) V (b8 (Ov S w.heap.size (Z (w.heap.size+1)) V) V 6) acc kv:=mq c L (λg B=>by
  have:=N g B
  exact .inr ⟨E,this.2,λe=>FZ⟩) λi n=>by
  have⟨c0,c1,c2,c3,c4,hc,hn⟩:=hk i n
  exact⟨c0,c1,c2,c3,c4,hc,hn.keep ik λb x=>x.imp id zE⟩
 have j:F.k t=24->J (F.q t)<=200/\∀s,s∈F.q t->s.size<=10000:=λr=>by
  have⟨ac,z⟩:=p.frm r;have a:ee (F.q t)=true:=by unfold ee fK;rw[Qo];intro i n;have:=z i (Q7.1 n);unfold kr at this;rw[Qc]at this;exact this.1
  refine⟨E,λs hs=>?_⟩;obtain⟨i,n,rfl⟩:=QT hs;have:=I9 a n;omega
 have j2:=Db (Ov.lt v h.size) (ht.keep (b6 h v) C) p o (oJ c) f.ok f.len M j f.want;have hR:e8 (F.k t) (F.n t) (F.a t) (F.q t) acc=R:=by rw[<- f.rest,Xw (QD _)];exact cU
 rw[hR]at j2;exact j2.mono λe O hp=>q.pass v qa hp
def Y6 (hB:Bd S w) (va:ZA) (vc:Nat) {op:Int} {t:T (m+1)} {R:Except Int V6} (ai:Bs op=true) (aB:yl=J (F.o t)) (ad:cJ (m+1) t<=200) (q8:s8 t env [] 0 R)
  (hK:∀W,Ge w W op x1 x2 xa ya xl xc yl yc->∀V,Bw W V->∀acc K j,s8 t env acc j R->pM S w V (w.heap.size+1) (w.heap.size+1) W.heap.size acc K->j<yl->WU prog 54 #[A va vl vc,Uy op x1 x2 xa xl xc ya yl yc,I U (j:Int),K] V (KdP S w V t env acc K j R))
  (hE:∀W,Ge w W op x1 x2 xa ya xl xc yl yc->∀V,Bw W V->∀acc K,s8 t env acc yl R->pM S w V (w.heap.size+1) (w.heap.size+1) W.heap.size acc K->WU prog 56 #[Uy op x1 x2 xa xl xc ya yl yc,K] V λe w4=>∃u0 u1 u2 ta va tl tc vl vc k,e=fT u0 u1 u2 ta va tl tc vl vc k/\w4.heap[w.heap.size+1]?=Z d8/\gG S w R e (dN w4 (w.heap.size+1) u0 u1 u2 ta va tl tc vl vc)):EvC S w (A va vl vc) op x1 x2 xa ya xl xc yl yc R:=by
 have⟨W,z⟩:=iC w op x1 x2 xa ya xl xc yl yc;have ql:=z.is;have⟨q0,q1,q2,q3,q4⟩:=cP z.node;have aj:=XI ai;have hn:(op==4)=false/\(op==16)=false/\(op==17)=false/\(op==19)=false/\(op==31)=false/\(op==32)=false/\(op==20)=false/\(op==33)=false/\(op==34)=false/\(op==35)=false:=by refine⟨?_,?_,?_,?_,?_,?_,?_,?_,?_,?_⟩;all_goals (rw[Q6];omega)
 obtain⟨n4,aG,aH,aI,aK,aL,aJ,aM,aN,aO⟩:=hn;have HK:=a8 (hK W z);have HE:=a8 (hE W z);have HS:Hid (∀V,Bw W V->(N5 V w.heap.size op x1 x2 xa xl xc ya yl yc)/\V.heap[w.heap.size+1]?=Z d8/\∀c,gG S w (.error c) (.returned (Zu #[Gd,I U c])) (dN V (w.heap.size+1) 0 0 ⟨#[]⟩ Y Y 0 0 0 0)):=λV O=>by have u:=(Qe.1 z.node).1;exact⟨⟨kC O q0 u,kC O q1 u,kC O q2 u,kC O q3 u,kC O q4 u⟩,dy z.zero O,λc=>lL (z.bw.trans (O.mono E)) E⟩
 have o:Hid (w.heap.size+1<W.heap.size/\Bd S w):=⟨(Qe.1 z.zero).1,hB⟩;have j2:=a8 q8;have ap:yl<=200:=by have:=yf ad;omega
 have⟨aD,ae,am,an,ao⟩:=QY Tryz.info_treeX;have v:Hid (_/\_/\_/\_):=⟨ae,am,an,ao⟩;clear z hB hK hE q8 ai aj aB ad ae am an ao;unfold EvC;go_in;go_upto_region 1 with fail;rw[<- ql];clear ql;go_wp2_with fail;go_loopw [8,9] (λK iv wr=>∃(j:Nat)(acc:List V6)(ka:ZA)(kc:Nat),j<=yl/\K=A ka j kc/\iv=I U j/\Bw W wr/\s8 t env acc j R/\pM S w wr (w.heap.size+1) (w.heap.size+1) W.heap.size acc (A ka j kc)) (λ_ iv _=>yl-(intOf iv).toNat);case atStart=>exact⟨0,[],_,0,E,D,D,eC _ _,j2,[],rE (Qh _ _) E,zS⟩
 case round=>
  clear j2;obtain⟨j,acc,ka,kc,hj,rfl,rfl,i,a,p⟩:=hrel;obtain⟨⟨q0,q1,q2,q3,q4⟩,-,-⟩:=HS.out wr i;by_cases ay:j<yl
  .have L:=a8 (HK wr i acc _ j a p ay);have ax:(j:Int)<(yl:Int):=E;have M:=a8 p;have n:=a8 i;have qc:=a8 a.len;clear a p i;go_wp2_with fail;refine H L ?_;rintro e V2 ⟨B,z0,q5,q6,X,q9,j0,q7,sl,sc,c,rfl,aw⟩;have r:=eC V2 (UA z0 q5 q6 X j0 q7 q9 sl sc);have h:=Qh V2 (UA z0 q5 q6 X j0 q7 q9 sl sc);have⟨N,jN⟩:=fk (V2.alloc (UA z0 q5 q6 X j0 q7 q9 sl sc));rw[<- jN]at r h;have s:=B.trans (r.mono B.size);have d:=n.trans (s.mono n.size);have⟨⟨q0,q1,q2,q3,q4⟩,Q,P⟩:=HS.out N d;have⟨k0,k1,k2,k3,k4⟩:=cP h;rcases aw with ⟨av,rfl⟩|⟨rfl,x,a,hx⟩;·have HN:=a8 (P c);have aF:(c==0)=false:=PR;have⟨⟨r0,r1,r2,r3,r4⟩,f0,f1,f2,f3,f4⟩:=cI Q;clear Q r h P B av HK HS HE L M n s d;go_upto_region 22 with fail;exact PX
   .have aa:=o.1;have aA:=M.keep (λb hb _=>s.block b hb) s.size o.2 (by have:=n.size;omega) E aa;obtain⟨xs,al,ag⟩:=aA;have y:Hid (N.ownsRow W.heap.size 31 5 (A ka j kc) j xs):=by have:=al;rw[qc.out]at this;exact this
    have qq:=a8 ag;have HX:=a8 (hx N r);have aq:=a8 a;have l:=a8 d;have aE:=d.size;clear r h P B hx a al ag L M n s d Q aa;go_upto_region 22 with fail;rw[<- jN];clear jN;go_wp2_with (at_builtin;refine Xb _ D (.tmp 71) (.tmp 73) 29 D W.heap.size 31 aD _ 5 80 underlying29 v.1 v.2.1 v.2.2.1 v.2.2.2 D zC (A ka j kc) j xs D (y.alloc _) ⟨N.heap.size,0,Y⟩ 1 1 [I U z0,I U q5,Zt q6,A X j0 q7,A q9 sl sc] D D (QB (Qh N _)) iz zC fA E zE (N.heap.size+1) zS ?_;intro g cap v4 C f ab ah;refine XE ?_);refine QJ ?_;have⟨ak,az,aC⟩:=pM.push (Wa:=N.alloc (UA z0 q5 q6 X j0 q7 q9 sl sc)) (one:=UA z0 q5 q6 X j0 q7 q9 sl sc) (g:=g) (cap:=cap) (xs:=xs) o.2 (by have:=l.size;have:=o.1;omega) (by have:=o.1;omega) HX D qc y qq C f ab;have ac:=(l.alloc l.size _).grown f (by have:=l.size;simp;omega) (λq hq=>(cO y q hq).1);have au:=a8 ak;have ar:=a8 ac;clear ak az aC ac C f ab ah y qq HX l;go_wp2;go_roundw;case rel=>exact⟨j+1,acc++[x],b5 g 0,cap,E,D,ew,ar,aq,au⟩
    case measure=>exact eb
  .have af:j=yl:=E;have ax:¬(j:Int)<(yl:Int):=E;have qa:=a8 (HE wr i acc _ (af ▸ a) p);clear a p i af;go_wp2_with fail;refine H qa ?_;rintro e w4 ⟨u0,u1,u2,ta,aP,tl,tc,aR,aQ,k,rfl,hz,hq⟩;have⟨⟨r0,r1,r2,r3,r4⟩,f0,f1,f2,f3,f4⟩:=cI hz;have HQ:=a8 hq;clear hz hq qa HK HE HS;exact nX
def Ei(qc:gj m):gj (m+1):=by
 intro S t l c0 c1 c2 c3 c4 v d w ht C p u c f qq x;have c:F.k t<=35:=c;obtain⟨R,X,q7,j0,q9,K,q5,L,q6,rfl,rfl,rfl,rfl,rfl⟩:=ht.shape;have j2:R=F.k t:=FH;have B:L=J (F.o t):=by have⟨_,_,q,_⟩:=ht.2.2.2.2.2.2.2.1;injection q
 have y:cR S w (F.q t) (A j0 q9 K):=ht.2.2.2.2.2.2.1;have⟨hj,aa⟩:=ed u;have o:=iW hj c;have ac:=o.lo;have hd:=pD u;obtain⟨va,vc,z,-⟩:=id C;by_cases q:F.k t=4
 .obtain⟨a,qa,-⟩:=o.free E;rw[qa]at y;obtain⟨ao,cap,he,-,hs,P⟩:=y;obtain⟨b,off,rfl,hb,k⟩:=P zS;cases he
  have O:b7 (m+1) t l.reverse=pj l a:=by show gF (b7 m) (show F (T m) from t) l.reverse=_;unfold gF;rw[Qm q];show (match DK l.reverse ((F.q t).headD WT) with|Z t=>(Except.ok t:Except Int V6)|Y=>.error 6)=_;rw[qa];exact cU
  rw[O,j2,q];exact RQ p C E X q7 q5 K L q6 off a (by simpa using k 0 zS) (p b hb) zS
 by_cases i:hZ (F.k t)=true
 .have q8:=XI i;have ql:0<J (F.o t):=by rw[o.cnt E];have P:F.k t=16∨F.k t=17∨F.k t=19∨F.k t=20∨F.k t=31∨F.k t=32∨F.k t=33∨F.k t=34∨F.k t=35:=E;rcases P with e|e|e|e|e|e|e|e|e<;>(rw[e];decide)
  subst z;refine RP E λW s V r g=>Ol p qc ht C u c f qq x i ql s r g
 .have n:Bs (F.k t)=true:=by have h:=Z4 (XL.2 i:decide (F.k t=16∨F.k t=17∨F.k t=19∨F.k t=20∨(31<=F.k t/\F.k t<=35))=false);refine QK ?_;omega
  have O:b7 (m+1) t l.reverse=Ka (F.k t) (F.n t) (F.a t) (F.q t) l.reverse (F.o t) []:=by show gF (b7 m) (show F (T m) from t) l.reverse=_;unfold gF;rw[Qd q,Qd i];exact cU
  have N:s8 t l.reverse [] 0 (b7 (m+1) t l.reverse):=⟨D,zS,zS,O.symm⟩;subst z;exact Y6 p va vc (by rw[j2];exact n) B f N (λW s V r acc kv j M Q ab=>Rt S w p _ R X q7 j0 q5 q9 K L q6 m qc t l d ht C u c f qq x n s r M Q E) λW s V r acc kv M Q=>Rs S w p R X q7 j0 q5 q9 K L q6 m t l d ht u c f n s r (B ▸ M) Q
def Ez:∀m,gj m:=by
 intro m;induction m with
 | zero=>intro S t;exact Empty.elim (show Empty from t)
 | succ m a=>exact Ei a
