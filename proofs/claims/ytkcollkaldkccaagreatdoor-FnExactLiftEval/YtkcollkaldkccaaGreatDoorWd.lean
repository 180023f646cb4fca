import Derived.Below
import Derived.IntWalk
import Derived.Deep.QuietTactic
import Derived.Deep.CutRange
import Derived.Deep.RegionHeld
import Derived.Deep.RegionLaw
set_option linter.all false
namespace Go.Proofs.YtkcollkaldkccaaGreatDoor
open Go.RowKit
variable {P:Prop}
def ik (h:P:=by exact λ_ _=>D):P:=h
def gt (h:P:=by rw[qv];decide):P:=h
def nS (h:P:=by intro h;rw[h]at qf;simp at qf):P:=h
def wd4 (h:P:=by
 clear qr vZ hV hj;generalize (cF s j).toNat=c at *;rcases HZ.out with hz|hz
 .have e:=e0 hz;have vG:¬k=10:=E;have HB:Hid ((bad || k==0)=true):=by show _=_;rw[hz];simp
  clear e0 e1 e2 hz HZ;rcases jL with q1|q1|⟨q1,q2,q3⟩;case inr.inr=>exact absurd q3 vG
  all_goals
   go_wp2_with (go_at_call 218;(first|refine H vO ?_|refine H (HM _) ?_);rintro e w' ⟨rfl,nq,rfl⟩)
   go_ret
   refine⟨((HR.2.drewN _).trans (cH.set R 2 _ _)),k,vm,by rw[HJ.out];exact hk,HA,by rw[HJ.out];exact HX,by rw[HV.out];rfl,?_⟩
   rw[HB.out,HJ.out];exact (HR.1.drewN _).set2 true
 .have e:=e1 hz;have HB:Hid ((bad || k==0)=bad):=by show _=_;simp[hz]
  clear e0 e1 hz HZ;rcases jL with q1|q1|⟨q1,q2,q3⟩;case inr.inr=>have q4:=e2 q3;clear e2 q3;go_wp2_with (go_at_call 218;(first|refine H vO ?_|refine H (HM _) ?_);rintro e w' ⟨rfl,nq,rfl⟩);go_ret;refine⟨HR.2.drewN _,k,vm,by rw[HJ.out];exact hk,HA,by rw[HJ.out];exact HX,by rw[HV.out];rfl,?_⟩;rw[HB.out,HJ.out];exact HR.1.drewN _
  all_goals
   clear e2
   go_wp2_with (go_at_call 218;(first|refine H vO ?_|refine H (HM _) ?_);rintro e w' ⟨rfl,nq,rfl⟩)
   go_ret
   refine⟨HR.2.drewN _,k,vm,by rw[HJ.out];exact hk,HA,by rw[HJ.out];exact HX,by rw[HV.out];rfl,?_⟩
   rw[HB.out,HJ.out];exact HR.1.drewN _):P:=h
def P2 (h:P:=by
 intro b h1 h2 e;have e:g=b:=by simpa [Value.ownBlock] using e
 rcases qy with h3|h3;·exact h1 (by rw[h3,e])
 .omega):P:=h
def wd6 (h:P:=by
 have HE:Hid (DS m B wb bk wc w6 n d k (pos+1) wc.heap.size (wk (J l) (kP (dC m) n)) (.slice xa xl xc) (.slice ya yl yc) v6 l6 ns ks/\w6.iterPos wc.heap.size=pos+1):=by have⟨g1,g2,g3⟩:=uk.out w6 v6 l6 xP;exact⟨⟨g1,g2,hp,um.q,um.t,um.o,um.j,by rw[zO.out];exact xH,xd,um.e⟩,g3⟩
 clear xP zO xH xd uk xj z0 z1 z2 z3 z4;go_wp2;go_roundw;case rel=>exact⟨pos+1,v6,l6,_,_,HE.1⟩
 case measure=>rw[HE.2,HI.out];omega):P:=h
def gZ (h:P:=by kernel_rfl):P:=h
def kG (h:P:=by rw[IntKind.wrap_i64];omega):P:=h
def Gc (h:P:=by rw[qg.block b (by rw[ha];simp;omega) (λe=>qh e.symm),ha,Array.getElem?_push_lt hb,ZT hb]):P:=h
def S0 (h:P:=by intro e w2 hp;obtain⟨qi,z0,z1,z2,ra,sa,rl,rc,sl,sc,c,rfl,hz,hq⟩:=hp;have⟨⟨r0,r1,r2,r3,r4⟩,f0,f1,f2,f3,f4⟩:=cI hz;have HQ:=a8 hq;have qU:=a8 (jV w2 z0 z1 z2 ra sa rl rc sl sc qi);refine hK.out _ _ (HS _ (HL _ qi)) (λhHeld=>?_);clear hK K hz hq qi;refine t2 12 13 ?_;refine qk 14 ?_ λhHeld=>?_;exact HS _ qU;clear qU;refine tk 15 ?_;exact Ef):P:=h
def fA (h:P:=by unfold maxLen;omega):P:=h
def qcL (h:P:=by
 go_wp2_with fail;have vr:=A8;first|(go_region_held (λw'=>w'.cell? ⟨w.heap.size,0,none⟩=some (.int .i64 (k:Int))/\w'.cell? ⟨w.heap.size,4,none⟩=some (.slice (some ⟨b,off,none⟩) (J (F.o t)) kc)/\w'.cell? ⟨b,off+j*5,none⟩=some (.int .i64 y0)/\w'.cell? ⟨b,off+j*5+1,none⟩=some (.int .i64 y1)/\w'.cell? ⟨b,off+j*5+2,none⟩=some (.string y2)/\w'.cell? ⟨b,off+j*5+3,none⟩=some (.slice ya yl yc)/\w'.cell? ⟨b,off+j*5+4,none⟩=some (.slice za zl zc)) (first|with_reducible assumption|go_keep) (first|(go_at_call 48;refine H (zN.out _ hD) ?_;rintro e w2 ⟨rfl,jx,xI⟩)))|fail
 all_goals
  have qu:=jx.size
  have qL:Bw uy w2:=vK.trans (jx.mono qo)
  have vd:=a8 qL
  have zk:=a8 (qU.trans (qL.mono qU.size))
  clear jx qL xI f0 f1 f2 f3 f4 q0 q4 hD zN
  by_cases xU:r<0
  .go_wp2
   go_ret
   exact⟨dd (xB xU).symm,zk⟩
  .by_cases jH:200<1+(sm:Int)+r
   .go_wp2
    go_ret
    refine⟨dd (EU m t act d (j+1) ?_).symm,zk⟩
    have:=xz.out E
    rw[jt.out];omega
   .go_wp2
    go_roundw
    case rel=>
     have hg:=xz.out E
     refine⟨j+1,E,by go_num,?_,?_,vF hg.2,vd⟩
     .rw[jt.out,hg.1];go_num
     .rw[jt.out];omega
    case measure=>exact eb):P:=h
def qcM (h:P:=by
 by_cases jE:j<J ks
 .have⟨d0,d1,d2,⟨e0,e1,e2⟩,hd⟩:=hk j jE;have jG:∀o v,o<3->xs[j*3+o]?=some v->(xs++[c0,c1,c2])[j*3+o]?=some v:=λo v ho h=>by rw[QA E];exact h
  refine⟨d0,d1,d2,⟨jG 0 _ E e0,jG 1 _ E e1,jG 2 _ E e2⟩,?_⟩;rw[QS jE];refine hd.keep (λb hb=>?_) (λb hb=>⟨hb.1,by rw[qo];have:=hb.2.1;omega,hb.2.2.1,ji b hb.2.2.2 (by have:=hb.2.1;omega)⟩);rw[qs b (by have:=hb.1;omega),q b hb.2.1 (by have:=hb.1;omega) hb.2.2.2]
 .have jR:j=J ks:=by simp at hj;omega
  subst jR;have jn:∀o v,o<3->[c0,c1,c2][o]?=some v->(xs++[c0,c1,c2])[J ks*3+o]?=some v:=λo v ho h=>by rw[Qu E,qI,XR];exact h
  refine⟨c0,c1,c2,⟨jn 0 _ E D,jn 1 _ E D,jn 2 _ E D⟩,?_⟩;have:(ks++[t])[J ks]=t:=zS;rw[this];refine ht.keep (λb hb=>?_) (λb hb=>⟨E,by rw[qo];omega,λe=>by have:=qS b e;omega,ji b (λe=>by have:=qn b e;omega) hb.2⟩);rw[qs b E,q1 b hb.2 (λe=>by have:=qn b e;omega)]):P:=h
def FC (h:P:=by
 have hb:g=b:=by simpa [Value.ownBlock] using hb
 subst hb;rcases qy with h1|h1;·exact h.apart g h1
 .intro e;have:=qn g e;omega):P:=h
def pO (h:P:=by exact⟨D,eP (qB.mono λ_=>.inl) (by rw[Ezq.out,e1])⟩):P:=h
def nN (h:P:=by intro jf;have:=qn b jf;omega):P:=h
def ew (h:P:=by go_num):P:=h
def pP (h:P:=by have:=qg.size;rw[ha]at this;simp at this;omega):P:=h
def fi (h:P:=by rw[hl];rfl):P:=h
def S1 (h:P:=by
 intro e;have e:g=b:=by simpa [Value.ownBlock] using e
 rcases qy with h1|h1;·exact hb.2.2.1 (by rw[h1,e])
 .have:=hb.2.1;omega):P:=h
def Bb (h:P:=by exact λjf=>qh jf.symm):P:=h
def PM (h:P:=by have:=qn b e;omega):P:=h
def ML (h:P:=by simpa [Value.ownBlock] using e):P:=h
def eI (h:P:=by cases h):P:=h
def FQ (h:P:=by
 intro s hs;rcases QF.1 hs with hs|hs;·exact h.short s hs
 .rw[QR]at hs;subst hs;exact hx):P:=h
def ke (h:P:=by simp[go_sem]):P:=h
def pe (h:P:=by have:=hb.1;omega):P:=h
def gE (h:P:=by simp;omega):P:=h
def qcS (h:P:=by
 have qe:J (cL f)=J (F.o f):=Qv _;refine⟨?_,λj h=>?_⟩;·rw[qe];obtain⟨-,-,-,-,-,-,-,h4,-,-⟩:=id hf;obtain⟨ao,cap,hv,hl,hc⟩:=h4;injection hv with h1 h2 h3
 .have h0:j<J (F.o f):=E;obtain⟨fb,fo,g0,g1,g2,ga,ha,gl,gc,jo,hc,h1,zx,-,jO,jC,zR⟩:=iq hf hB h0;have e:(cL f)[j]=fl 5 5 (F.o f)[j]:=Xe _;rw[e];refine⟨fb,fo,g0,g1,g2,ga,ha,gl,gc,jo,hc,h1,zx,λV hV=>?_,b8.fit (L:=5) (dr (n6 zH h0)).1 E zR,(rD (L:=5) (QD _) (n6 zH h0)).1⟩;have hq:∀o,V.cell? ⟨fb,o,none⟩=w.cell? ⟨fb,o,none⟩:=λo=>(Ql (a:=⟨fb,o,none⟩) (hV fb E)).trans (Ql (a:=⟨fb,o,none⟩) (hW.bw.block fb zx));exact⟨(hq _).trans jC.1,(hq _).trans jC.2.1,(hq _).trans jC.2.2.1,(hq _).trans jC.2.2.2.1,(hq _).trans jC.2.2.2.2⟩):P:=h
def ID (h:P:=by intro jf;have:=xp b jf;omega):P:=h
def qcT (h:P:=by go_in;go_wp2_with fail;refine H HQ ?_;rintro e w1 ⟨v1,rfl,qj⟩;obtain⟨xW,xX,qK,rfl⟩:=qj.shape;have xt:Hid _:=qj;clear qj HQ;go_wp2;go_ret;exact⟨_,D,xt⟩):P:=h
def qcU (h:P:=by
 go_wp2;go_roundw;case rel=>exact⟨pos+1,v6,l6,_,_,HE.1⟩
 case measure=>rw[HE.2,HI.out];omega):P:=h
def Ad (h:P:=by have:=hb.2.1;omega):P:=h
def cU (h:P:=by rfl):P:=h
def qcV (h:P:=by
 obtain⟨ao,cap,he,-,hc⟩:=id h2;have⟨b,off,zt,hb,qb⟩:=hc (λe=>by rw[e]at hi;simp at hi);have vj:ka=ao:=by simpa using Xc (λv=>match v with|Value.slice a _ _=>a|_=>none) he
 have⟨c0,c1,c2,c3,c4,q0,q1,q2,q3,q4,hk⟩:=qb i hi;obtain⟨u0,u1,u2,ua,ul,uc,ta,tl,tc,rfl,rfl,rfl,rfl,rfl⟩:=hk.shape;refine⟨b,off,u0,u1,u2,ua,ul,uc,ta,tl,tc,vj.trans zt,λW hW=>?_⟩;have e:=vW W hW b hb;exact⟨⟨(Ql (a:=⟨b,off+i*5,none⟩) e).trans q0,(Ql (a:=⟨b,off+i*5+1,none⟩) e).trans q1,(Ql (a:=⟨b,off+i*5+2,none⟩) e).trans q2,(Ql (a:=⟨b,off+i*5+3,none⟩) e).trans q3,(Ql (a:=⟨b,off+i*5+4,none⟩) e).trans q4⟩,hk.keep (vW W hW) zI⟩):P:=h
def wd (h:P:=by rcases hp with rfl|rfl<;>decide):P:=h
def gO (h:P:=by simp[maxLen]):P:=h
def nO (h:P:=by intro jf;simp[dV]):P:=h
def iz (h:P:=by simp[Value.oneCell']):P:=h
def qcW (h:P:=by
 refine⟨cV HX λg' qC=>?_,λj hj=>?_⟩;·have h3:=cO HX g' qC;have hz:=vP.size;rw[qM.block g' E λh=>by have:=qf g' (xT g' (.inl h));omega];exact vP.block g' h3.2 λh=>by have:=qf g' (xT g' h);omega
 .have⟨d,e1,e2⟩:=vi.out j hj;have step:∀ {Azq B:World} {O:Nat->Prop},Kp O Azq B->(∀b,O b->C b)->cN (Sg C (.slice va (J ks) xG) Azq) Azq 6 ks[j] d->cN (Sg C (.slice va (J ks) xG) B) B 6 ks[j] d:=λhk hO hi=>hi.keep (hk.same λb hb=>⟨hb.1,λho=>hb.2.1 (hO b ho)⟩) λb hb=>⟨Qn hb.1 hk.size,hb.2⟩;exact⟨d,e1,step qM (λb h=>xT b (.inl h)) (step vP xT e2)⟩):P:=h
def S3 (h:P:=by simpa using Xc (λv=>match v with|Value.slice a _ _=>a|_=>none) he):P:=h
def S4 (h:P:=by go_wp2_with fail;refine bR (v:=.tuple #[.agg #[.int .i64 0,.int .i64 0,.string ⟨#[]⟩,.slice none 0 0,.slice none 0 0],.int .i64 6]) ?_;rw[HA.out];exact HF):P:=h
def pf (h:P:=by have:=hB b hb;omega):P:=h
def qaY (h:P:=by have HP:=a8 hP;clear hP vf xY vD;refine qk 20 ?_ λhHeld=>?_;exact ut _ vH;refine tk 21 ?_;refine Xi zK ?_ _;go_simp;go_wp2_with fail;go_meet;exact⟨_,_,_,_,_,_,_,_,_,_,_,D,D,HP⟩):P:=h
def tP (h:P:=by have:=qS b e;omega):P:=h
def mZ (h:P:=by simpa using h):P:=h
def FX (h:P:=by show W2.tape=w.tape;rw[qg.tape,ho.2.1];exact h.near.tape):P:=h
def Bc (h:P:=by rcases hv with rfl|rfl<;>decide):P:=h
def FY (h:P:=by show W2.output=w.output;rw[qg.output,ho.2.2];exact h.near.output):P:=h
def qcX (h:P:=by
 rcases id h.2 with ⟨rfl,h0⟩|⟨g,cap,qH,rfl,jh,hg,jk,jq,jc,qA⟩;·exact⟨none,0,by rw[h0],xD,λqh=>absurd (Qj h0) qh⟩
 .refine⟨_,_,D,xD,λ_=>⟨g,0,D,hS g D,λi hi=>?_⟩⟩;have⟨c0,c1,c2,c3,c4,⟨e0,e1,e2,e3,e4⟩,ht⟩:=hk i hi;have hc:∀j u,xs[j]?=some u->w.cell? ⟨g,0+j,none⟩=some u:=λj u hu=>by have:=h.cells (g:=g) D j u hu;rwa [XC]at this
  exact⟨c0,c1,c2,c3,c4,hc _ _ e0,hc _ _ e1,hc _ _ e2,hc _ _ e3,hc _ _ e4,ht⟩):P:=h
def P3 (h:P:=by exact λjf jB=>⟨jB.1,Qn jB.2.1 hn.size,jB.2.2⟩):P:=h
def FZ (h:P:=by injection e with e;omega):P:=h
def MM (h:P:=by refine⟨Qo.1 hg _ (QE h),?_⟩;have:=eK (λx=>cJ n x) ks _ (QE h);omega):P:=h
def IE (h:P:=by exact⟨D,eP (qB.mono λ_=>.inl) (by rw[Ezq.out];rfl)⟩):P:=h
def IF (h:P:=by exact λjf jB=>jB.elim .inl (λh=>.inr ⟨E,h.2⟩)):P:=h
def Be (h:P:=by rcases hp with rfl|rfl<;>rfl):P:=h
def qcY (h:P:=by
 refine tk 36 ?_;refine Xi zK ?_ _;go_simp;all_goals
  have qU:=a8 (vz.trans (qi.mono vz.size))
  clear qi xI
  go_wp2
  go_ret
  exact⟨cY (by rw[uq.out,xO.out];rfl),qU⟩):P:=h
def oA (h:P:=by rw[qo];omega):P:=h
def IG (h:P:=by simp[dV]):P:=h
def F0 (h:P:=by show W2.os=w.os;rw[qg.os,ho.1];exact h.near.os):P:=h
def Bf (h:P:=by rw[jK _ _ zE];simp[go_sem,hc]):P:=h
def S5 (h:P:=by subst hs;simp at h;exact⟨λ_=>E,by have:=jI (by simpa using h.1.1.2);omega,by simp⟩):P:=h
def F1 (h:P:=by exact cV qd λg' qC=>qs g' (by have:=cO qd g' qC;omega)):P:=h
def oC (h:P:=by simpa using hi):P:=h
def qcZ (h:P:=by refine hK.out _ _ (HC _ qL) (λhHeld=>?_);clear hK K qd qg qy;refine tk 10 ?_;have⟨⟨r0,r1,r2,r3,r4⟩,f0,f1,f2,f3,f4⟩:=cI jZ;have vM:=a8 (IU (so:=so) (nu:=nu) (tx:=tx) qL jZ zQ vU vT);have xK:=HC.out _ (dk (o:=0) (g0:=.int .i64 so) (g1:=.int .i64 nu) (g2:=.string tx) (g3:=(.slice (some ⟨g,0,none⟩) nl cap)) (g4:=.slice none 0 0) qL zQ);refine qk 12 ?_ λhHeld=>?_;exact xK;clear xK r0 r1 r2 r3 r4 f0 f1 f2 f3 f4;refine Xi zK ?_ _;go_wp2;go_meet;exact⟨_,_,D,vM⟩):P:=h
def pQ (h:P:=by show b<_;omega):P:=h
def Bg (h:P:=by as_aux_lemma=>kernel_rfl):P:=h
def dS (h:P:=by simp):P:=h
def P4 (h:P:=by rcases jP.ptr with ⟨-,rfl⟩|⟨sb,rfl,-⟩<;>exact⟨_,D⟩):P:=h
def qaZ (h:P:=by refine hK.out _ _ (HC _ js) (λhHeld=>?_);clear hK K;have HF:=QJ (jQ w6 g2 ja js qG);clear qG qD jw jj;refine tk 8 ?_;refine Xi zK ?_ _;go_simp;go_wp2;go_ret;exact HF):P:=h
def P5 (h:P:=by go_wp2_with fail;exact⟨D,HP⟩):P:=h
def Bh (h:P:=by exact λjf jB=>h jf (Qt _ jB)):P:=h
def we (h:P:=by have:=ha.1;omega):P:=h
def S6 (h:P:=by rw[qo];have:=hb.2.1;omega):P:=h
def qdA (h:P:=by
 go_in;go_wp2_with fail;refine H (xA _) ?_;rintro e w1 ⟨rfl,rfl⟩;go_wp2_with fail;go_quiet (first
  | (go_at_call 73;refine Q4 (xZ _))
  | (go_at_call 149;refine Q4 (zm _)))
 all_goals
  go_wp2
  go_ret
  exact⟨cY HF.symm,by first|exact qp|exact qp.drew|exact⟨qp.os,qp.tape,qp.output,qp.size,qp.block⟩⟩):P:=h
def MN (h:P:=by have:=hk.2.2.2.2.2.1;injection this):P:=h
def S7 (h:P:=by rintro e w1 ⟨rfl,rfl⟩;go_wp2;go_ret;exact⟨cY (by rw[HF.out];simp),D⟩):P:=h
def MO (h:P:=by go_wp2_with fail;refine H HB ?_;intro e w2 hp;exact Ee):P:=h
def qbA (h:P:=by intro e w2 hp;obtain⟨qi,z0,z1,z2,ra,sa,rl,rc,sl,sc,c,rfl,hz,hq⟩:=hp;have⟨⟨r0,r1,r2,r3,r4⟩,f0,f1,f2,f3,f4⟩:=cI hz;have HQ:=a8 hq;exact nX):P:=h
def Ae (h:P:=by exact λ_ jB=>jB.elim):P:=h
def S8 (h:P:=by rintro e w1 ⟨rfl,rfl⟩;go_wp2;go_ret;exact⟨cY (by rw[HF.out];rfl),D⟩):P:=h
def sY (h:P:=by simpa using qf):P:=h
def S9 (h:P:=by exact⟨D,eP ((qB.trans qM).mono λ_=>.inl) (by rw[Ezq.out,HA.out];simp only[e2])⟩):P:=h
def Af (h:P:=by rw[vC.out];exact zf):P:=h
def qbB (h:P:=by go_in;go_wp2_with (go_at_call 51;refine H (H6 _) ?_;rintro e w' ⟨rfl,rfl⟩;rw[hd]);go_ret;exact⟨dd HF.symm,qp⟩):P:=h
def pR (h:P:=by rw[hW];simp):P:=h
def Ag (h:P:=by rw[hW];exact eC _ _):P:=h
def qdB (h:P:=by obtain⟨ka,kc,rfl,-⟩:=hr;clear c1 e1 e2 e3 t0;go_enter Tryz.func36,Tryz.ntmps36;go_wp2_with fail;refine H HC ?_;rintro e w1 ⟨qj,v',L,rfl,q1,q2,q3,q4⟩;obtain⟨va,vc,rfl,-⟩:=id q1;have⟨⟨r0,r1,r2,r3,r4⟩,f0,f1,f2,f3,f4⟩:=cI ((qj.block w.heap.size zS).trans hz);have jm:=b9 qp zS qj;simp only[XN]at q1 q3;have HQ:Hid _:=HP.out _ _ L jm q1 q2 q3 q4;clear HC HP qp qj hz jm q1 q2 q3 q4;exact nX):P:=h
def MP (h:P:=by have:=qn g' qC;rw[qs g' E,q g' this.2 (λe=>h.apart g' e qC)]):P:=h
def qbC (h:P:=by go_wp2_with fail;refine H qP ?_;intro e w2 hp;have hp:cQ C (de Q cs) w R e w2:=⟨HK.trans (hp.1.mono λ_=>.inl),hp.2⟩;exact Ee):P:=h
def qbD (h:P:=by have⟨b,off,cap,e1,e2,d,e3,e4⟩:=nB ha qx hi;refine⟨b,off,cap,e1,e2.2,d,e3,e4,?_⟩;rw[Cx a i (by rw[nQ];exact hi)];exact kE ha _ (QE _)):P:=h
def qdC (h:P:=by
 have⟨b,off,ha,hb,qb⟩:=hc (λe=>by rw[e]at hi;simp at hi);have⟨d0,d1,d2,d3,d4,e0,e1,e2,e3,e4,hk⟩:=qb i hi;obtain⟨y0,y1,y2,za,zl,zc,ua,ul,uc,rfl,rfl,rfl,rfl,rfl⟩:=hk.shape;cases hv
 exact⟨b,off,y0,y1,y2,za,ua,zl,zc,ul,uc,ha,hB b hb,hb,D,⟨e0,e1,e2,e3,e4⟩,hk⟩):P:=h
def qbE (h:P:=by rw[show kW (F.k t) (F.a t) (J (F.o t))=true by rw[hs];simp[kW]];go_in;go_wp2_with fail;go_ret;exact⟨D,D⟩):P:=h
def Bi (h:P:=by simp at hj;omega):P:=h
def qdD (h:P:=by
 rcases id h.2 with ⟨rfl,h0⟩|⟨g,cap,qH,rfl,jh,hg,jk,jq,jc,qA⟩;·exact⟨none,0,by rw[h0],xD,hm,λqh=>absurd (Qj h0) qh⟩
 .refine⟨_,_,D,xD,hm,λ_=>⟨g,0,D,hS g D,λi hi=>?_⟩⟩;have:=h.cells (g:=g) D i (.string l[i]) (by simp[hi]);rw[XC]at this;simpa using this):P:=h
def qbF (h:P:=by go_in;go_wp2_with (go_at_call 51;refine H (H6 _) ?_;rintro e w' ⟨rfl,rfl⟩);go_ret;exact⟨dd HF.symm,qp⟩):P:=h
def P6 (h:P:=by rw[Ezq.out];rfl):P:=h
def my (h:P:=by simp[World.cell?,gb]):P:=h
def Pp (h:P:=by go_in;go_wp2_with fail;refine H (xA _) ?_;rintro e w1 ⟨rfl,rfl⟩;go_wp2;go_ret;exact⟨cY HA.symm,qp⟩):P:=h
def ow (h:P:=by go_wp2;go_ret;exact HP):P:=h
def Ti (h:P:=by
 have HS:=Lq HI HE xM xm;have vB:Hid (d9 (w3.setCell ⟨w.heap.size+1,4,none⟩ (.slice (some ⟨g,0,none⟩) (J ks+1) cap)) R s i2 jJ):=HG;have vE:Hid _:=HS;clear HG HS qd qg qy zG jv xm qQ zh vt vw zJ jy qt;go_wp2_with fail;go_roundw;case rel=>exact⟨_,_,_,i2,jJ,HF,vB,vE.1⟩
 case measure=>rw[d9.left vB.out,d9.left HR.out];simpa using vE.2):P:=h
def JN (h:P:=by
 cases hn:n.q with
 | nil=>simp[dM,uF,hn,kI]
 | cons a q=>simp[dM,hn];omega):P:=h
def Ch (h:P:=by rw[h2]at he;have:=yn he;rw[hl]at this;exact absurd this zC):P:=h
def Pq (h:P:=by have hc:=oK (hV p E);simp only[Q5,hc];exact⟨jS.2.2.1.1,jS.2.2.1.2,cP ((hV _ (QD _)).trans hW.node)⟩):P:=h
def Pr (h:P:=by have⟨_,_,h4,_⟩:=hk.2.2.2.1.2.2.2.2.2.2.2.1;injection h4):P:=h
def Tj (h:P:=by
 generalize Gs s=bp at *;rcases h with rfl|rfl|rfl|rfl;all_goals
  go_in
  go_wp2_with fail
  refine H (HB _) ?_
  rintro e w1 ⟨rfl,rfl⟩
  go_wp2
  go_ret
  exact⟨dd HT.symm,D⟩):P:=h
def Tk (h:P:=by rw[jr]at uo vh;have xO:Hid (kI bd n.q (J n.q)=false):=zo.out (by rw[vh.out];rfl);clear uj zo uu vh hD;go_wp2_with fail;go_quiet (first|(go_at_call 22;refine Q4 (uo _))|(go_at_call 150;refine Q4 (vJ _)));go_wp2;go_ret;exact⟨cY (by rw[uq.out,xO.out];rfl),uh _ _ vz⟩):P:=h
def Tl (h:P:=by go_in;go_wp2_with fail;refine H (xA _) ?_;rintro e w1 ⟨rfl,rfl⟩;go_wp2_with fail;refine H HR ?_;rintro e w1 ⟨rfl,qj⟩;have⟨qi,z3,z4⟩:=HX.out w1 qj;clear qj;go_wp2;go_ret;exact⟨cY zS,qi⟩):P:=h
def Tm (h:P:=by have vN:=QJ (HS _ qU);have hHeld:=HS.out W jz;clear vL vA ve HS jz xL qM zV qf hm hj HW qB sd xJ i0 i1 i2 i3 i4;subst ha;simp only[Wr,List.foldl_nil];refine qk 9 ?_ λhHeld=>?_;exact vN;refine tk 10 ?_;refine Xi zK ?_ _;go_simp;go_wp2;go_meet;exact⟨nk,_,_,_,_,_,_,_,_,_,D,D,HG,qU⟩):P:=h
def Pt (h:P:=by exact λjf=>absurd jf (by show ¬((4:Int)=1∨(4:Int)=2∨(4:Int)=3);decide)):P:=h
def q8 (h:P:=by simp[World.cell?,hM.box]):P:=h
def y8 (h:P:=by have:=hB b hb;simp;omega):P:=h
def q9 (h:P:=by exact λjf jB=>E):P:=h
def o9 (h:P:=by rw[dG];omega):P:=h
def Pu (h:P:=by
 cases hv
 obtain⟨b,off,h1,-,h2⟩:=hc (by intro e;rw[e]at h0;simp at h0);exact⟨b,off,h1,h2⟩):P:=h
def pd (h:P:=by simpa using hl):P:=h
def Pv (h:P:=by exact λjf=>Qn (hm.lt b jf) h2.size):P:=h
def Ci (h:P:=by rw[ux _ _ zE];simp[go_sem,hf]):P:=h
def Fw (h:P:=by rw[qg.tape,ho.2.1];exact hn.tape.trans h0.near.tape):P:=h
def Fx (h:P:=by go_in;go_wp2;go_ret;exact⟨D,eC _ _⟩):P:=h
def Tn (h:P:=by
 have⟨d0,d1,d2,d3,d4,⟨e0,e1,e2,e3,e4⟩,hd⟩:=hk j jE;have jG:∀o v,o<5->xs[j*5+o]?=some v->(xs++[c0,c1,c2,c3,c4])[j*5+o]?=some v:=λo v ho h=>by rw[QA E];exact h
 refine⟨d0,d1,d2,d3,d4,⟨jG 0 _ E e0,jG 1 _ E e1,jG 2 _ E e2,jG 3 _ E e3,jG 4 _ E e4⟩,?_⟩;rw[QS jE];exact jF hd):P:=h
def y9 (h:P:=by rw[Ezq.out,e1];exact E2 a):P:=h
def To (h:P:=by have HN:Hid (fy x.data.toList=none):=AU (λv e=>by rw[ha]at e;cases e);clear hL ha hv;go_enter Tryz.func176,Tryz.ntmps176;go_wp2_with fail;refine H HC ?_;rintro e w1 ⟨N,rfl,-,-,hb⟩;go_wp2_with fail;go_ret2;exact⟨hb,.inr ⟨HN,D⟩⟩):P:=h
def iG (h:P:=by simpa using this):P:=h
def Fy (h:P:=by rw[qg.output,ho.2.2];exact hn.output.trans h0.near.output):P:=h
def Fz (h:P:=by go_in;go_wp2;go_ret;exact⟨D,D⟩):P:=h
def Pw (h:P:=by
 cases jJ with
 | false=>have:=(p2 D).2.1;simp;omega
 | true=>simp;omega):P:=h
def Tp (h:P:=by
 have:∀l:List (T m),J l<=cG (λk=>gY m k+1) l:=by
  intro l;induction l with
  | nil=>simp
  | cons a r ih=>simp only[cG,Qs];omega
 have:=this (F.o t);simp only[gY]at h;omega):P:=h
def nM (h:P:=by assumption):P:=h
def zg (h:P:=by go_ret;exact⟨dd HF.symm,D⟩):P:=h
def Px (h:P:=by exact⟨qX,qY,qK,g1,s1,qZ,jb,qB.here h1.lt⟩):P:=h
def Py (h:P:=by
 cases jJ with
 | true=>simp;omega
 | false=>have:=(p2 D).2;simp;omega):P:=h
def Tr (h:P:=by rw[show wk k (lF n.k.toNat).size+1+a.size+cG (λx=>lk x+1) n.o=wk k (lF n.k.toNat).size+(1+a.size+cG (λx=>lk x+1) n.o) by omega,hN];congr 1;simp only[gV];omega):P:=h
def Ts (h:P:=by
 unfold cM at ha;by_cases h1:F.k t=1;·exact .inl h1
 by_cases h2:F.k t=2;·exact .inr (.inl h2)
 by_cases h3:F.k t=3;·exact .inr (.inr (.inl h3))
 by_cases h4:F.k t=4;·exact .inr (.inr (.inr (.inl h4)))
 by_cases h5:F.k t=5;·exact .inr (.inr (.inr (.inr (.inl h5))))
 by_cases h6:F.k t=6;·exact .inr (.inr (.inr (.inr (.inr h6))))
 rw[Qd h1,Qd h2,Qd h3,Qd h4,Qd h5,Qd h6]at ha;cases ha):P:=h
def Tt (h:P:=by
 have HA:=a8 hd;clear hd;go_in;go_wp2_with (go_at_call 51;refine H (fx _ _ _ _) ?_;rintro e w' ⟨rfl,rfl⟩;rw[HA.out]);all_goals
  go_ret
  exact⟨fJ (by simp_all),eC _ _⟩):P:=h
def Cj (h:P:=by exact λjf jB=>⟨E,jB.2⟩):P:=h
def Pz (h:P:=by have⟨⟨r0,r1,r2,r3,r4⟩,f0,f1,f2,f3,f4⟩:=cI HZ.1;have HQ:=a8 HZ.2;clear HZ;exact nX):P:=h
def rd (h:P:=by rw[Xj];omega):P:=h
def PA (h:P:=by have hc:=oK (hV p E);simp only[Q5,hc];exact⟨jS.2.2.1,cP ((hV _ (QD _)).trans hW.node)⟩):P:=h
def PB (h:P:=by
 by_cases hk:k=4;·exact pK _ (by subst hk;simp[dV])
 .exact pK _ (by simp[dV,hk])):P:=h
def zs (h:P:=by simp[dV];omega):P:=h
def Tu (h:P:=by rw[xC.out,show p+1+((cG (λx=>cJ n x) ((F.o t).take k)+cJ n (F.o t)[k]:Nat):Int)=p+1+(cG (λx=>cJ n x) ((F.o t).take k):Int)+(cJ n (F.o t)[k]:Int) by omega];exact vp):P:=h
def FA (h:P:=by rw[qg.os,ho.1];exact hn.os.trans h0.near.os):P:=h
def FB (h:P:=by go_wp2;go_ret;exact⟨cY HF.symm,D⟩):P:=h
def uK (h:P:=by rw[hW];exact Qh _ _):P:=h
def re (h:P:=by rw[qR];simp):P:=h
def Tv (h:P:=by
 clear hs vq qu hn zj;rcases hg with h1|⟨h1,h2⟩|⟨h1,h2,h3⟩;all_goals
  go_in
  go_upto_region 1 with fail
  rw[<- hW]
  clear hW
  go_wp2_with fail
  exact bR HE):P:=h
def Tw (h:P:=by
 obtain⟨h1,h2⟩:=h;refine⟨h1,?_⟩;rcases h2 with h2|⟨g,cap,qH,rfl,hg,hh,r⟩;·exact .inl h2
 .exact .inr ⟨g,cap,qH,D,hg,by rw[hs g rfl];exact hh,r⟩):P:=h
def PC (h:P:=by
 have jA:=(QN.1 hj).1;rw[<- zi,Xz E]at hj;have jR:qH[j]?=some v:=by rw[<- Array.getElem?_toList];exact hj
 simp[World.cell?,xR,jR]):P:=h
def Ck (h:P:=by rw[vh.out];rfl):P:=h
def FD (h:P:=by show w.heap.size+1<_;omega):P:=h
def rf (h:P:=by simp[World.cell?,qt]):P:=h
def z6 (h:P:=by intro jf jB vS;cases vS):P:=h
def JO (h:P:=by intro jf;have:=cO HX.out _ jf.symm;omega):P:=h
def rg (h:P:=by simp[World.frozen?,qt]):P:=h
def FE (h:P:=by go_wp2;go_ret;exact HF):P:=h
def Tx (h:P:=by
 go_wp2_with fail;refine H (nI _ _ _) ?_;rintro e w3 ⟨rfl,⟨hd,rfl⟩|⟨hd,rfl⟩⟩;·exfalso;simp at hd<;>omega
 .exact⟨D,HN E⟩):P:=h
def qdU (h:P:=by injection hq with hq;omega):P:=h
def PD (h:P:=by obtain⟨B,l1,l2,-⟩:=(h.keep (hW.mono λ_=>.inl)).laid;exact⟨B,l1,l2⟩):P:=h
def FF (h:P:=by rw[hW];exact (eC _ _).alloc zS _):P:=h
def sV (h:P:=by rw[jY];simp):P:=h
def JP (h:P:=by go_wp2_with fail;refine bodyPost_end (results_none D _ _ _) D ?_;exact HP):P:=h
def Ty (h:P:=by have⟨⟨r0,r1,r2,r3,r4⟩,f0,f1,f2,f3,f4⟩:=cI HZ.1;have HQ:=a8 HZ.2;clear HZ;go_in;go_upto_region 1 with fail;rw[<- qO];clear qO;exact nX):P:=h
def Tz (h:P:=by
 induction L with
 | nil=>intro w k;simp[et]
 | cons a r ih=>intro w k;simp only[QH,et,ih,Qs];rw[show k+1+(J r:Int)=k+((J r+1:Nat):Int) by omega]):P:=h
def TA (h:P:=by clear ht zF;go_in;go_wp2_with fail;refine H HC ?_;rintro e w1 ⟨rfl,qj⟩;have qi:=b9 qp zS qj;clear qp qj HC;go_wp2;go_ret;exact⟨D,qi⟩):P:=h
def Cl (h:P:=by show ByteArray.empty.size<=1000;decide):P:=h
def JQ (h:P:=by rw[HS.out];exact Xc Value.string (by rw[<- ByteArray.append_assoc,<- ByteArray.append_assoc];rfl)):P:=h
def z7 (h:P:=by go_wp2;go_ret2;exact HP):P:=h
def FG (h:P:=by show wr.heap.size<_;omega):P:=h
def FH (h:P:=by have:=ht.1;injection this):P:=h
def FI (h:P:=by simpa using ha.1.1.2):P:=h
def sW (h:P:=by simp[World.cell?,js]):P:=h
def Cm (h:P:=by have:=ha.2;omega):P:=h
def TB (h:P:=by subst hb;go_in;go_wp2_with fail;refine H (pJ _ _) ?_;rintro e w2 ⟨rfl,rfl⟩;exact⟨D,D,.inr ⟨2,D,D⟩⟩):P:=h
def TC (h:P:=by
 rcases jM with ⟨he,hz,h⟩|⟨he,h⟩;·exact⟨j+1,false,h,.inr ⟨E,.inl ⟨he,hz,D,D⟩⟩,hz⟩
 .exact⟨j,true,h,.inr ⟨E,zE⟩,ud⟩):P:=h
def FJ (h:P:=by go_wp2;go_ret;exact⟨D,hb⟩):P:=h
def sX (h:P:=by simp[World.frozen?,js]):P:=h
def PE (h:P:=by have:=hk.2.2.2.2.2.2.1;injection this):P:=h
def Cn (h:P:=by simp only[cJ];omega):P:=h
def JR (h:P:=by rw[qo];have:=h.near.size;omega):P:=h
def TD (h:P:=by have h:=HA.keep hW;refine H (mT DE m S t _ _ _ _ _ W h.arg h.ltu vR.2) ?_;rintro e y ⟨c0,c1,c2,c3,c4,rfl,h1,h2,-⟩;exact⟨c0,c1,c2,c3,c4,D,h2,h1⟩):P:=h
def Co (h:P:=by have:=qS X e;omega):P:=h
def PF (h:P:=by rcases hc with ⟨-,h,-⟩|⟨-,⟨-,-,h,-⟩|⟨-,h,-⟩⟩<;>omega):P:=h
def PG (h:P:=by exact λjf _=>⟨by have:=si m jf;omega,(si m jf).2⟩):P:=h
def PH (h:P:=by have:=eK (λk=>gY m k+1) (F.o t) _ (QE h);simp only[gY]at zA;omega):P:=h
def TF (h:P:=by
 exact⟨0,Fzq,Q9 _,D,hF,⟨eC _ _,λb o h1 h2=>by
  have:b=w.heap.size:=by simp at h2;omega
  subst this;exact hF.frozen o⟩,λj _ h=>absurd h (XJ _)⟩):P:=h
def JS (h:P:=by intro jf;rw[<- jf,hu]at hx;cases hx):P:=h
def PI (h:P:=by intro jf jB;have jB:g=jf:=(by simpa [Value.ownBlock] using jB);omega):P:=h
def TG (h:P:=by intro e w2 hp;obtain⟨qi,z0,z1,z2,ra,sa,rl,rc,sl,sc,c,rfl,hz,hq⟩:=hp;have⟨⟨r0,r1,r2,r3,r4⟩,f0,f1,f2,f3,f4⟩:=cI hz;have HQ:=a8 hq;clear hz hq qi;exact nX):P:=h
def qcN (h:P:=by
 cases L with
 | zero=>rw[tB hg E]at h4;obtain⟨ao,cap,hv,hl,hc⟩:=h4;exact⟨ao,cap,hv,hl,λqh=>absurd D qh⟩
 | succ L=>exact Qb _ h4 λx _ _ _ _ _ hx hc=>ih ((dY hg).2.2 x hx) E hc):P:=h
def FK (h:P:=by have:=(cF s j).toNat_lt;omega):P:=h
def TH (h:P:=by go_wp2_with fail;refine H (HC _) ?_;rintro e w2 ⟨rfl,rfl⟩;go_wp2;go_ret;exact⟨cY (by rw[HT.out];rfl),vz⟩):P:=h
def Cp (h:P:=by simpa using vg.out):P:=h
def TI (h:P:=by
 rw[e]at h;simp only[dM,Qc]at h;rw[Qm (dO _ h.1.2)];match hn:n.q,h.2 with
 | [a],h2=>have:=nm a h2;simp only[gV];omega):P:=h
def qdV (h:P:=by injection e with e;exact h.2.2.1 e.symm):P:=h
def FL (h:P:=by exact λjf jB=>.inl jB):P:=h
def JT (h:P:=by exact λjf jB=>.inr jB):P:=h
def JU (h:P:=by intro e;rw[e]at hi;simp at hi):P:=h
def TJ (h:P:=by refine⟨h1.2 _ (QE hk),?_⟩;have e:=dw (λx=>cJ n x) hk;have e2:=eV (λx=>cJ n x) ((F.o t).take (k+1)) ((F.o t).drop (k+1));rw[Q2]at e2;simp only[cJ]at h2;omega):P:=h
def JV (h:P:=by exact λjf jB=>hm jf (by simp[jB])):P:=h
def Cq (h:P:=by exact λ_ _ vS=>vS):P:=h
def TK (h:P:=by
 have HW:Hid (dA Ls.flatten k w wr/\k+(J (Ls.take j).flatten:Int)=k+(J Ls.flatten:Int)):=by rw[show j=J Ls by omega,QG]at jU ⊢;exact⟨jU,D⟩
 go_wp2;go_ret;exact⟨dd HW.2,HW.1⟩):P:=h
def TL (h:P:=by refine tk 9 ?_;refine qk 10 ?_ λhHeld=>?_;exact ur _ b2;refine Xi zK ?_ _;go_simp;go_wp2;go_meet;exact⟨_,D,HM⟩):P:=h
def PJ (h:P:=by intro e;apply qh;rw[e];rfl):P:=h
def TO (h:P:=by rintro e w1 ⟨rfl,rfl⟩;go_wp2;go_ret;exact⟨cY (by rw[HF.out,HN.out (by rw[HS.out];rfl)]),D⟩):P:=h
def TP (h:P:=by
 have⟨x,hx,xV⟩:=Xl.1 hs;obtain⟨i,hi,rfl⟩:=Xo.1 hx;rcases QF.1 xV with h1|h1;·right;rw[(h5 _ s h1).1];rfl
 .left;exact qm i s h1):P:=h
def TQ (h:P:=by
 show _∨_;cases vX:fw (cF s j) with
 | false=>exact zS
 | true=>exact .inl (by have h9:¬k<10:=λh=>vZ ⟨vX,h⟩;omega)):P:=h
def TR (h:P:=by rcases h with ⟨rfl,rfl,rfl,rfl,rfl,rfl⟩|⟨rfl,rfl,rfl,rfl,rfl,rfl⟩<;>kernel_rfl):P:=h
def TT (h:P:=by
 rcases hc with ⟨h,-⟩|⟨-,⟨jW,-,h,hb⟩|⟨jW,-⟩⟩;·exact E
 .refine⟨hb,?_⟩;rw[hd,di]at jW;rw[h];exact (XK jW).symm
 .rw[hd,di]at jW;cases jW):P:=h
def PK (h:P:=by go_wp2_with fail;refine XQ (by simp[results,Tryz.results32,go_sem];rfl) D ?_;exact HP):P:=h
def TU (h:P:=by have h:=HA.keep hW;refine H (rO h.vars h.ltu vR.1) ?_;rintro e y ⟨a,c,rfl,h1,h2,-⟩;exact⟨a,c,D,h2,h1⟩):P:=h
def TV (h:P:=by clear hx hn qp qN hB;go_in;go_wp2_with fail;rw[<- hW];clear hW;refine H HC ?_;rintro e w' ⟨rfl,rfl⟩;exact sj):P:=h
def z8 (h:P:=by simpa using qe):P:=h
def TW (h:P:=by
 rcases h.2 with ⟨rfl,h0⟩|⟨g,cap,qH,rfl,jh,hg,jk,jq,jc,qA⟩;·cases hb
 .have:g=b:=by simpa [Value.ownBlock] using hb
  subst this;exact⟨jh,(Qe.1 hg).1⟩):P:=h
def qcO (h:P:=by have hb:b=X.heap.size:=hb;omega):P:=h
def TX (h:P:=by go_in;go_wp2_with fail;refine bR (v:=.tuple #[.agg #[.int .i64 0,.slice none 0 0,.slice none 0 0],.bool false]) ?_;exact HP _):P:=h
def Cr (h:P:=by simp[World.cell?,HM.box]):P:=h
def qdW (h:P:=by injection e with e;have:=h.1;omega):P:=h
def TY (h:P:=by have hc:=oK (hV p E);have jT:=jS.2.2.1;simp only[Q5,<- hc]at jT;exact⟨(Ql (a:=⟨np,nq,none⟩) (hV np E)).trans (kC hW.bw jr xi),jT,cP ((hV _ (QD _)).trans hW.node)⟩):P:=h
def JW (h:P:=by show _=_;unfold gr;rw[Qd E]):P:=h
def JX (h:P:=by intro jf jB;have:=zZ jf jB;omega):P:=h
def TZ (h:P:=by
 rcases h.2 with ⟨rfl,h0⟩|⟨g,cap,qH,rfl,jh,hg,jk,jq,jc,qA⟩;·exact⟨_,_,by rw[h0]⟩
 .exact⟨_,_,D⟩):P:=h
def PL (h:P:=by intro jf jB;obtain⟨a,-,rfl⟩:=Xo.1 jB;rfl):P:=h
def T0 (h:P:=by go_in;go_wp2_with fail;refine H (xA _) ?_;rintro e w1 ⟨rfl,rfl⟩;go_wp2;go_ret;exact⟨cY zS,qp⟩):P:=h
def JY (h:P:=by intro h;have:=Zg.2 h;omega):P:=h
def Aa (h:P:=by simpa using h1):P:=h
def T1 (h:P:=by clear qz hi;go_in;go_wp2_with fail;refine bR (v:=.agg #[.int .i64 0,.slice none 0 0,.slice none 0 0]) ?_;exact HP _):P:=h
def Cs (h:P:=by go_wp2;go_ret;exact zq):P:=h
def PN (h:P:=by
 cases q with
 | nil=>simp[dM,hl,h]
 | cons b r=>simp[dM,hl]):P:=h
def T2 (h:P:=by
 rcases vk with ⟨jW,-,h,hb⟩|⟨jW,-⟩;·rw[vY,di]at jW;exact⟨by rw[hb];exact xn.1,by rw[h];exact (XK jW).symm⟩
 .rw[vY,di]at jW;cases jW):P:=h
def JZ (h:P:=by intro jf;rw[hs];simp[dV]):P:=h
def FM (h:P:=by have:=qn X e;omega):P:=h
def PO (h:P:=by exact λjf jB=>(xQ.trans (qV.mono E)).block jf (vQ jf jB).1):P:=h
def J0 (h:P:=by rw[xe];exact qj.alloc qj.size _):P:=h
def T3 (h:P:=by refine (t8 (λb=>Ov S w.heap.size (some (w.heap.size+1)) V b) bb V).mono λe w2 hp=>⟨hV.trans (hp.1.mono hV.size),hW.pass hB hV hp⟩):P:=h
def T4 (h:P:=by refine⟨hb,?_⟩;obtain⟨s,a1,l1,k1,a2,l2,k2,rfl,rfl,rfl⟩:=qm.shape;exact⟨s,a1,a2,l1,l2,k1,k2,D⟩):P:=h
def FN (h:P:=by exact λjf jB=>q jf E):P:=h
def T5 (h:P:=by go_wp2_with fail;refine bR (v:=.agg #[.int .i64 0,.int .i64 0,.string ⟨#[]⟩,.slice none 0 0,.slice none 0 0]) ?_;exact HP _):P:=h
def T6 (h:P:=by go_in;go_wp2;go_quiet (fail);go_wp2;refine XQ (results_none D _ _ _) D ?_;exact⟨D,HG.2 _,.inr ⟨HP,HG.1 _⟩⟩):P:=h
def T7 (h:P:=by exact λjf=>absurd jf (by show ¬((5:Int)=1∨(5:Int)=2∨(5:Int)=3);decide)):P:=h
def T8 (h:P:=by
 rw[QI]at hx;have:x.data.toList=[]:=List.isEmpty_iff.1 hx;have h2:x.data=#[]:=by rw[<- Array.toArray_toList (xs:=x.data),this]
 cases x with
 | mk data=>simp only at h2;rw[h2];rfl):P:=h
def FO (h:P:=by simpa [dV] using jp):P:=h
def J1 (h:P:=by simp[results,Tryz.results223,go_sem,g0,g1,g2,g3,g4]):P:=h
def T9 (h:P:=by intro s hs;obtain⟨i,hi,rfl⟩:=QT hs;unfold ee fK at h;have:=Qo.1 h i (Q7.2 hi);simp only[gn,Qc,c8,Qk]at this;have h2:=this.1.1.1.2;simpa [List.getD,hi] using h2):P:=h
def Ya (h:P:=by
 subst qh;refine⟨[],zS,λu hu=>?_,λ_ _ h=>?_,λj hj=>?_⟩;·cases hu
 .exact absurd h zS
 .exact absurd hj zS):P:=h
def J2 (h:P:=by rw[ir s i E]at hl;exact absurd hl zC):P:=h
def Ct (h:P:=by simpa using h2):P:=h
def J3 (h:P:=by simpa only[cJ] using hc):P:=h
def uL (h:P:=by simp[cG]):P:=h
def FP (h:P:=by rw[uv,h];decide):P:=h
def Ab (h:P:=by rw[eJ];omega):P:=h
def ox (h:P:=by simp[World.setCell,QQ,qF]):P:=h
def Yb (h:P:=by have hc:=oK (hV p E);have jT:=jS.2.2.1;simp only[Q5,<- hc]at jT;exact⟨jT.1,jT.2,cP ((hV _ (QD _)).trans hW.node)⟩):P:=h
def Yc (h:P:=by
 obtain⟨k1,r2⟩:=x;rw[h2]at h;cases h
 have⟨r3,h3,e⟩:=L5 h2;have:=ih _ _ _ h3;rw[fH h1,this,e];simp[dm,mK]):P:=h
def Yd (h:P:=by
 rcases h with h|h|h|h;·rw[q1]at h;cases h
 .exact absurd q2 h
 .rw[q3]at h;cases h
 .exact absurd q4 h):P:=h
def Ye (h:P:=by clear uw vV ze ui;go_wp2_with fail;refine bR (v:=.tuple #[.agg #[.int .i64 z0,.int .i64 z1,.string z2,.slice ra rl rc,.slice sa sl sc],.int .i64 c]) ?_;rw[HE.out];exact HQ):P:=h
def PP (h:P:=by rw[hs]at ha;simp at ha;exact⟨ha.1.2,ha.2⟩):P:=h
def PQ (h:P:=by exact λjf jB=>hb.block jf (Qn (h.bnd jf jB).1 ju.size)):P:=h
def Yf (h:P:=by
 rcases hc with ⟨-,h,hb⟩|⟨h,-⟩;·refine⟨hb,?_⟩;rw[h,hd];simp only[qE]
 .exact E):P:=h
def mz (h:P:=by decide):P:=h
def FR (h:P:=by simp at hi;omega):P:=h
def Yg (h:P:=by rw[xS];show (match cL f with|x :: _=>gi (b7 m) (F.o t) 1 ((a,x) :: l.reverse)|[]=>gi (b7 m) (F.o t) 2 l.reverse)=_;rw[hq]):P:=h
def Yh (h:P:=by
 go_wp2;·go_ret;exact⟨dd (by rw[HQ.out];omega),qi⟩
 .go_ret;exact⟨dd HQ.symm,qi⟩):P:=h
def FSq (h:P:=by rw[<- Xk,he];simp):P:=h
def qcP (h:P:=by refine go (cV h.q λg hg=>hW g (.inl (by have:=qS g hg;omega))) hl h.short λg hg=>?_;have:=qS g hg;exact .inr ⟨E,E,zS⟩):P:=h
def Yi (h:P:=by rw[show ((i+(k+1):Nat):Int)=(j:Int)+1 by omega];exact HS _):P:=h
def PR (h:P:=by simpa using (show ¬c=0 by omega)):P:=h
def PS (h:P:=by go_in;go_wp2;go_ret;exact⟨dd HF.symm,qp⟩):P:=h
def PT (h:P:=by show b≠w.heap.size+1+1;omega):P:=h
def PU (h:P:=by rw[e]at ha ⊢;simp[cM]at ha ⊢;exact ha.1.1):P:=h
def PV (h:P:=by exact λjf jB=>⟨jB.1,jB.2.1⟩):P:=h
def PW (h:P:=by rw[qo];have:=h0.near.size;omega):P:=h
def FT (h:P:=by rw[qR];exact Qh _ _):P:=h
def PX (h:P:=by rw[<- jN];clear jN;go_wp2_with fail;exact bR HN):P:=h
def J4 (h:P:=by have:=xN.out;omega):P:=h
def qcQ (h:P:=by refine go (cV h.q λg hg=>hW g (by have:=qS g hg;omega)) hl h.short λg hg=>?_;have:=qS g hg;exact⟨E,E⟩):P:=h
def PY (h:P:=by have zP:=jd hb;refine Qx λje=>?_;rw[ir s i' E]at zP;exact absurd zP zC):P:=h
def Ac (h:P:=by simp[dm]):P:=h
def qcR (h:P:=by have:=h.1;omega):P:=h
def J5 (h:P:=by go_ret;exact⟨fJ HF.symm,D⟩):P:=h
def Cu (h:P:=by rw[hn];rfl):P:=h
def Cv (h:P:=by rw[hs];rfl):P:=h
def Yj (h:P:=by have HP:Hid (cQ C (de Q cs) w R (.returned (.iface 123 v)) w2):=iD (HK.trans (qM.mono λ_=>.inl)) (by rw[HR.out,e2]) qm;obtain rfl:=nG qm;clear hp qm qP HR HK e2 qM;exact mh):P:=h
def J6 (h:P:=by have:=HF.1;omega):P:=h
def Yk (h:P:=by
 have qJ:=qg.size;simp at qJ;simp at qu;have xp:=cO qd;have qI:J xs=k:=by simpa using qd.1
 have q3:∀b,b<w2.heap.size->v.ownBlock≠some b->w3.heap[b]?=w2.heap[b]?:=λb hb qh=>by rw[qg.block b zE Bb,Qf _ _ _ hb]
 have q2:∀b,b<wr.heap.size->v.ownBlock≠some b->w3.heap[b]?=wr.heap[b]?:=λb hb qT=>by rw[q3 b E qT,qi.block b zE,Qf _ _ _ hb]
 have ji:∀b,v.ownBlock≠some b->b<w2.heap.size->(Value.slice (some ⟨g,0,none⟩) (k+1) cap).ownBlock≠some b:=by exact P2
 exact (by
 refine⟨⟨?_,?_,?_,by have:=h.below.size;omega,λb hb=>?_⟩,xs++[kv],jg,λj hj hx=>?_⟩;·rw[qg.os];exact qi.os.trans h.below.os
 .rw[qg.tape];exact qi.tape.trans h.below.tape
 .rw[qg.output];exact qi.output.trans h.below.output
 .rw[q2 b E (λe=>by have:=xp b e;omega)];exact h.below.block b hb
 .by_cases jE:j<k
  .have uf:j<J xs:=E;rw[QS uf];refine (qw j hj uf).keep (λb hb=>?_) (λb hb=>?_)
   .rcases hb with hb|⟨qj,qi,qt⟩;·have:=hS b hb;exact q2 b E (λe=>by have:=xp b e;omega)
    .exact q2 b qi qt
   .rcases hb with hb|⟨qj,qi,qt⟩;·exact .inl hb
    .exact .inr ⟨qj,E,ji b qt E⟩
  .have xh:j=k:=by simp at hx;omega
   subst xh;have:(xs++[kv])[j]=kv:=by simp[<- qI]
   rw[this];refine qm.keep (λb hb=>?_) (λb hb=>?_)
   .rcases hb with hb|hb;·have:=hS b hb;exact q3 b E (λe=>by have:=xp b e;omega)
    .simp at hb;exact q3 b hb.2 (λe=>by have:=xp b e;omega)
   .rcases hb with hb|hb;·exact .inl hb
    .simp at hb;exact .inr ⟨E,E,ji b (λe=>by have:=xp b e;omega) hb.2⟩)):P:=h
def J7 (h:P:=by have h1:=h.keep (hW.mono λ_=>.inl);obtain⟨qX,qY,qK,g1,s1,qZ,jb,qB,-⟩:=h1.kid hl 1 k1 D gt;exact Px):P:=h
def FU (h:P:=by
 go_roundw;case rel=>exact⟨k+1,E,ew,HF⟩
 case measure=>exact eb):P:=h
def Yl (h:P:=by
 simp only[Xx,dh,dH,QZ];by_cases h0:J ns=0
 .simp only[h0,XU,XX,QZ,QH];rw[fQ];have ub:dq [125] (m.data.toList++58 :: (txt x++(dH false (dh ms (ks.map txt))++125 :: post)))=none:=by rw[e,QH];exact mJ _ qW.2.1
  rw[ub];simp only[h0,XX];rw[vr];simp only[Xv,Xn];rw[step];simp only[nw];rw[rest];exact dS
 .simp only[h0,Zq,Zf,Xu,QZ,QH];rw[fQ,mJ _ zC];simp only[h0,Zf,di];rw[vr];simp only[Xv,Xn];rw[step];simp only[nw];rw[rest];exact dS):P:=h
def Ym (h:P:=by
 have xF:=hG.near;have qo:=xF.size;have jz:Bw w W:=⟨xF.os.trans zw.os,xF.tape.trans zw.tape,xF.output.trans zw.output,E,λb hb=>(xF.block b E E).trans (zw.block b hb)⟩;refine⟨dk jz E,_,_,_,_,_,D,hG.kind (B:=w.heap.size) D (λb hb=>dt ?_) (by rw[eJ];exact QD _) E E E⟩;rcases hb with hb|hb;·omega
 .exact pf):P:=h
def Yn (h:P:=by refine ts 23 ?_;refine ts 24 ?_;refine ts 25 ?_;refine ts 26 ?_;refine ts 27 ?_;refine ts 28 ?_;refine ts 29 ?_;refine ts 30 ?_;refine ts 31 ?_;refine ts 32 ?_;refine ts 33 ?_;refine ts 34 ?_;refine ts 35 ?_;exact qcY):P:=h
def PZ (h:P:=by
 rcases h with ⟨_,h⟩|⟨_,h⟩|⟨_,h⟩|⟨_,kv,h,_⟩|⟨_,nv,kv,h,_,_⟩|⟨_,kv,h,_⟩<;>cases h
 exact cU):P:=h
def Yo (h:P:=by refine⟨ao,cap,by rw[hv,Qv],by rw[Qv];exact hl,λqh=>?_⟩;have⟨b,off,ha,hB,qb⟩:=hc PJ;refine⟨b,off,ha,hB,λi hi=>?_⟩;have jD:i<J l:=oC;have⟨c0,c1,c2,c3,c4,h0,h1,h2,h3,h4,hr⟩:=qb i jD;refine⟨c0,c1,c2,c3,c4,h0,h1,h2,h3,h4,?_⟩;rw[Xe];exact hR _ _ _ _ _ _ (QE jD) hr):P:=h
def J8 (h:P:=by
 go_round;case rel=>exact⟨k+1,E,ew,pU qf HA HB⟩
 case measure=>exact eb):P:=h
def Yp (h:P:=by
 have⟨c0,c1,c2,c3,c4,hc,ht⟩:=hk j hj;refine⟨c0,c1,c2,c3,c4,hc,ht.keep (λb hb=>?_) (λb hb=>?_)⟩;·rw[qs b pe,q b hb.2.1 hb.2.2.1]
 .refine⟨hb.1,S6,?_,hb.2.2.2⟩;exact S1):P:=h
def Yq (h:P:=by
 have zb:=a8 HM;have HE:=a8 hm;go_wp2;·go_ret;refine⟨dd ?_,jl⟩;rw[zb.out E]
 .go_roundw;case rel=>exact⟨k+1,E,ew,by rw[HE.out],by rw[HE.out];omega,jl⟩
  case measure=>exact eb):P:=h
def Yr (h:P:=by
 have⟨c0,c1,c2,hc,ht⟩:=hk j hj;refine⟨c0,c1,c2,hc,ht.keep (λb hb=>?_) (λb hb=>?_)⟩;·rw[qs b pe,q b hb.2.1 hb.2.2.1]
 .refine⟨hb.1,S6,?_,hb.2.2.2⟩;exact S1):P:=h
def Ys (h:P:=by obtain⟨ao,cap,he,-,-,hc⟩:=id h1;have⟨b,off,zt,hb,qb⟩:=hc (λe=>by rw[e]at hi;simp at hi);have vj:na=ao:=S3;exact⟨⟨b,off,vj.trans zt,λW hW=>(Ql (a:=⟨b,off+i,none⟩) (vW W hW b hb)).trans (qb i hi)⟩,by have:=zz _ (QE hi);omega⟩):P:=h
def Yt (h:P:=by refine wv (Jzq:=I8 t) D (args:=#[.agg #[.int .i64 x0,.int .i64 x1,.string x2,.slice xa xl xc,.slice ya yl yc]]) (by simp[Act.eval,g0]) (Tryz.call8 _ _) ((vA W jz).mono ?_);rintro e y ⟨c0,c1,c2,c3,c4,rfl,h2,h3⟩;exact⟨_,D,h2,c0,c1,c2,c3,c4,D,h3.keep ik JT,λb hb=>hb.elim Pv (·.2)⟩):P:=h
def P0 (h:P:=by have hs:=h.near.size;rw[qs b E,q b E (λe=>tP)];exact h.near.block b hb qh):P:=h
def Yu (h:P:=by rintro e y ⟨h2,d0,d1,d2,da,dl,dc,ea,el,ec,rfl,h3⟩;exact⟨_,D,h2,d0,d1,d2,da,dl,dc,ea,el,ec,D,h3.keep ik (λb hb=>⟨.inr hb,pe⟩),λb hb=>hb.elim Pv (·.2)⟩):P:=h
def Yv (h:P:=by
 go_wp2;go_roundw;case rel=>exact⟨k+1,_,E,ew,HA.1,⟨HA.2.1,HA.2.2.2⟩,HA.2.2.1⟩
 case measure=>exact eb):P:=h
def Yw (h:P:=by refine wv (Jzq:=jVt l) D (args:=#[.slice va vl vc]) (by simp[Act.eval,g0]) (Tryz.call7 _ _) ((vL W jz).mono ?_);rintro e y ⟨a',c',rfl,h2,h3⟩;exact⟨_,D,h2,h3.keep ik JT,λb hb=>hb.elim Pv (·.2)⟩):P:=h
def Yx (h:P:=by
 go_wp2;go_roundw;case rel=>exact⟨k+1,E,ew,HR.1,HR.2.1,HR.2.2.1,HR.2.2.2⟩
 case measure=>exact eb):P:=h
def Yy (h:P:=by refine hd.keep (λb hb=>?_) (λb hb=>⟨hb.1,Ad,hb.2.2.1,ji b hb.2.2.2 Ad⟩);exact q b hb.2.1 pe hb.2.2.2):P:=h
def FV (h:P:=by
 intro e;have e:g=b:=ML;exact (by
 subst e;rcases qy with h1|h1;·exact h0.apart g hb h1
 .have:=qS g hb;omega)):P:=h
def Yz (h:P:=by have⟨c0,c1,c2,c3,c4,hc,ht⟩:=hk j hj;refine⟨c0,c1,c2,c3,c4,hc,ht.keep (λb hb=>hs b ?_ hb.2.1) P3⟩;have:=hb.1;omega):P:=h
def YA (h:P:=by
 have HP:Hid (cQ C (de Q cs) w R (.panicked (fL 6)) w1):=eP (qB.mono λ_=>.inl) (by
  rw[Ezq.out]
  have:dV 27 0 (F.k a) 0=false:=zs
  simp[dD,this])
 exact P5):P:=h
def YB (h:P:=by rw[hR]at hp;obtain⟨u,hu,hi⟩:=hp;exact⟨u,hu,hi.keep ik λb hb=>⟨hb.1,λhc=>hb.2 (.inl hc),λhc=>hb.2 (.inr hc)⟩⟩):P:=h
def J9 (h:P:=by
 rcases hb with hb|hb;·exact pf
 .omega):P:=h
def YC (h:P:=by have h1:=h.keep (hW.mono λ_=>.inl);obtain⟨qX,qY,qK,g1,s1,qZ,jb,qB,-⟩:=h1.kid hl 1 k1 D gt;exact⟨qX,qY,qK,g1,s1,qZ,jb,kY (qB.here h1.lt)⟩):P:=h
def YD (h:P:=by refine⟨?_,h.rst.n3.keep hs zI,h.rst.k3,h.rst.n4.keepN hs zI,h.rst.k4⟩;rw[hW];exact (Qf _ _ _ sY).trans (mI h.rst.box _)):P:=h
def YE (h:P:=by have h1:=h.keep (hW.mono λ_=>.inl);obtain⟨qX,qY,qK,g1,s1,qZ,jb,qB,-⟩:=h1.kid hl 1 k1 D gt;exact⟨qX,qY,qK,g1,s1,qZ,jb,j7 (qB.here h1.lt)⟩):P:=h
def YF (h:P:=by have h1:=h.keep (hW.mono λ_=>.inl);obtain⟨qX,qY,qK,g1,s1,qZ,jb,qB,-⟩:=h1.kid hl 1 k1 D gt;exact⟨qX,qY,qK,g1,s1,qZ,jb,uJ (qB.here h1.lt)⟩):P:=h
def YG (h:P:=by have⟨c0,c1,c2,hc,ht⟩:=hk j hj;refine⟨c0,c1,c2,hc,ht.keep (λb hb=>hs b ?_ hb.2.1) P3⟩;have:=hb.1;omega):P:=h
def YH (h:P:=by clear zy vI ue je xr jX hq;go_wp2_with fail;refine H xw ?_;rintro e w6 ⟨rfl,v6,l6,xq,zW⟩;have xP:=a8 xq;have zO:=a8 zW;clear xq zW xw;exact wd6):P:=h
def Cw (h:P:=by have HP:=HN.out E;exact P5):P:=h
def YI (h:P:=by
 cases n with
 | zero=>exact⟨none,0,D,D⟩
 | succ n=>exact⟨none,0,[],D,gO,D,λi h=>absurd h (XJ _)⟩):P:=h
def YJ (h:P:=by
 rcases jM with ⟨he,hz,h⟩|⟨he,h⟩;·exact⟨j1+1,bad1,h,.inl ⟨he,hz,D,D⟩,λ_=>hz,by have:(⟨#[58]⟩:ByteArray).size=1:=D;omega⟩
 .exact⟨j1,true,h,.inr ⟨he,D,D⟩,(λh=>eI),E⟩):P:=h
def YK (h:P:=by
 intro e;have e:g=b:=ML;subst e;rcases qy with h1|h1;·exact h.apart g hb h1
 .have:=qS g hb;omega):P:=h
def P1 (h:P:=by obtain⟨va,vn,vc,rfl⟩:=hb.shape;clear hb;exact qcT):P:=h
def YL (h:P:=by have:=HK.out i hi hx;rw[qn]at this;exact this.keep ik (λb hb=>hb.elim .inl (λh=>.inr ⟨h.1,h.2.1⟩))):P:=h
def FW (h:P:=by exact λ_=>ke):P:=h
