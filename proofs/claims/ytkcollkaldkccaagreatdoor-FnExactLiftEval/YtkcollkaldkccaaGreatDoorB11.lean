import Derived.Test.YtkcollkaldkccaaGreatDoorB10
set_option linter.all false
open List renaming length -> J,length->Uh,range->Ua
open Go.Calls renaming mono -> H
open Go.Value renaming slice->A,int->I,string->Zt,pointer->Zp,agg->Za,tuple->Zu,bool->Zb
open Go.IntKind renaming i64->U
open Go.Ending renaming returned->Zr,returned->Ue
open Go.Obj renaming cells->Zc
open Option renaming none->Y,some->Z
open Go renaming World->Zw,Value->Zv,maxLen->WX,TypeId->W9,Calls->WU
open ByteArray renaming empty->WT
open Go.Proofs.Tryz renaming prog->WV
open Go.RowKit renaming Hid->G
namespace Go.Proofs.YtkcollkaldkccaaGreatDoor
open Go.RowKit Go.Proofs.Tryz
set_option maxRecDepth 100000
set_option maxHeartbeats 16000000
variable {m n R i i' c xl xc yl yc p q al ac am ae bl bc bm be np nq g cap M vl vc zl zc ul uc X B N L:Nat} {w w' W V w2 V' Wa W2:Zw} {s x2 a2 b2 nm y2 n0 n1:ZB} {bad':Bool} {ns:List ZB} {kv c0 c1 c2 c3 c4 v:Zv} {S:ZN} {x1 a0 a1 b0 b1 d y0 y1:Int} {xa ya aa ad ba bd ao va za ua:ZA} {xs:List Zv} {o:Option Nat} {P:Program} {t:W9} {e:Ending} {one:Obj}
def Tryz.info_stringR:(prog.info? 9).map (λi=>(i.zero,i.size,i.bytes))=Z (Z (Zt ⟨#[]⟩),1,16):=gZ
def rW(m n:Nat)(w:Zw)(R:Nat)(s:ZB)(i:Nat)(e:Ending)(w':Zw):Prop:=
 cH R w w' /\ ∃(l:List ZB)(h:List (T m))(o j:Zv)(f:Nat)(a:Bool),e=Zr (Za #[I U 5,I U 0,Zt WT,o,j]) /\
  cT (λb=>w.heap.size<=b/\b<w'.heap.size) w' (m+1) (⟨5,0,WT,l,h⟩:F (T m)) (I U 5) (I U 0) (Zt WT) o j/\d9 w' R s f a /\
  i<f/\(a=false->f<=s.size)/\f<=s.size+n+1 /\
  (∀(d:List ZB)(c:List (T m)) g,J d=J c->(∀x,x∈d->c8 x=true)->s.data.toList.drop (i+1)=cX (dh d (c.map (cK m)))++125 :: g->(∀k,k∈c->cS m k (7-(n:Int))=true) ->
   l=d/\h=c/\a=false/\f=i+J (cX (dh d (c.map (cK m))))+2)
def NX {t wr:Zw} {p:List (T m)} {q:Zv} (h:im R (w.heap.size+1) m t wr 5 ns p q kv) (S:R<w.heap.size) (z:cH R w t)
  (u:t.heap.size=w.heap.size+1) (q8:d9 wr R s i' bad') (Q:rV m n s i ns p i' bad') (ql:s.size<=10000) (q6:n<=5) (jd:bad'=false->cF s i'=125) :
  rW m n w R s i (Zr (Za #[I U 5,I U 0,Zt WT,q,kv])) (eF (wr.setCell ⟨R,1,Y⟩ (I U ((i':Int)+1))) w.heap.size 0 (I U 5) (I U 0) (Zt WT) q kv):=by
 obtain⟨qa,K,F,O,qc,P⟩:=Q;have W:J p<=20000:=by cases bad'<;>simp at O<;>omega
 have⟨qq,q5,j0⟩:=ER h S z u q8 cU E W;refine⟨qq,ns,p,q,kv,i'+1,bad',D,j0,q5,E,λhb=>?_,E,λb a o qe l M V=>?_⟩;·have:=K hb;exact PY
 .have⟨k,q7,x,y,hb,L⟩:=P b a o qe l M V;have zP:=jd hb;have B:J (dh b (a.map (cK m)))=J a:=by rw[eY _ _ z8];simp
  have g:k=J a:=by
   refine Qx λq9=>?_;have qf:k<J a:=E;have d:k<J (dh b (a.map (cK m))):=E;have v:k<J b:=E;unfold cF at zP;rw[L,Qy d,pm _ _ _ v sY d,dH]at zP;have⟨c,r,e,j⟩:=BS (l b[k] zS);by_cases f:k=0;·simp only[f,XU,XX]at zP;simp only[f]at e;rw[e]at zP;simp only[QH,XA]at zP;exact (BU j).2.1 zP
   .simp only[f,Zq,Xu,Zf,QH,XA]at zP;exact absurd zP zC
  refine⟨by rw[y,g,<- qe,QG],by rw[x,g,QG],hb,?_⟩;have X:=K hb;have C:=Xc Uh L;have N:=Xc Uh M;rw[g,<- B,Zz]at C;simp[dH]at C N;have qf:i'<s.size:=by refine Qx λje=>?_;rw[ir s i' E]at zP;exact E
  omega
def Ly (hn:kg n) (bl:n<=5) (hm:n+1<=m) (h:d9 w R s i false) (hs:s.size<=10000) (hi:i<s.size) :
  WU WV 223 #[Zp (b5 R 0),I U 5,I .u8 125,I U (6-n)] w (rW m n w R s i):=by
 have c0:=h.cell0;have c1:=h.cell1;have c2:=h.cell2;have f1:=h.free 1;have hR:=h.lt;have bE:IntKind.i64.wrap ((i:Int)+1)=(i:Int)+1:=kG;have aQ:cH R w ((w.setCell ⟨R,1,Y⟩ (I U ((i:Int)+1))).alloc d8):=(cH.set R 1 w _).trans (cH.alloc _ _ _);have aN:d9 ((w.setCell ⟨R,1,Y⟩ (I U ((i:Int)+1))).alloc d8) R s ((i+1:Nat):Int) false:=
  (Qf _ _ _ (by simpa using hR)).trans (h.set1 ((i:Int)+1))
 have ag:((w.setCell ⟨R,1,Y⟩ (I U ((i:Int)+1))).alloc d8).heap[w.heap.size]?=Z d8:=by have:=Qh (w.setCell ⟨R,1,Y⟩ (I U ((i:Int)+1))) d8;exact iG
 have aO:((w.setCell ⟨R,1,Y⟩ (I U ((i:Int)+1))).alloc d8).heap.size=w.heap.size+1:=dS;go_enter func223,ntmps223;go_wp2_with fail;generalize ((w.setCell ⟨R,1,Y⟩ (I U ((i:Int)+1))).alloc d8)=Wb at *;have HN:G (kg n):=hn;have aw:G (cH R w Wb/\Wb.heap[w.heap.size]?=Z d8):=⟨aQ,ag⟩;clear hn aQ ag c0 c1 c2 f1 h;go_loopw [23] (λ_ wr=>∃(L:List ZB)(M:List (T m))(j a:Nat)(d:Bool)(na:ZA)(nc:Nat)(y:ZA)(z:Nat),J L=a/\J M=a/\im R (w.heap.size+1) m Wb wr 5 L M (A na a nc) (A y a z)/\d9 wr R s j d/\rV m n s i L M j d) (λ_ wr=>Dh wr R s.size);case atStart=>
  refine⟨[],[],i+1,0,false,Y,0,Y,0,D,D,⟨cH.alloc _ _ _,?_,⟨D,.inl ⟨D,D⟩⟩,dS,⟨[],⟨D,.inl ⟨D,D⟩⟩,λj hj=>absurd hj (XJ _)⟩,λb hb=>by cases hb⟩,?_,?_⟩;·rw[<- aO];exact Qh _ _
  .exact (Qf _ _ _ E).trans aN
  .refine⟨E,E,E,dS,D,λbJ bI bw aD bD he hg=>⟨0,E,dS,dS,D,?_⟩⟩;rw[he];simp[gN]
 case round=>
  obtain⟨L,M,j,a,d,na,nc,y,z,aG,am,hM,hr,hI⟩:=hrel;have hX:=hM.lt;have bH:=hM.near.size;have x0:a7 wr (w.heap.size+1) 0=Z (I U 5):=q8;have x1:a7 wr (w.heap.size+1) 1=Z (I U 0):=q8;have x2:a7 wr (w.heap.size+1) 2=Z (Zt WT):=q8;have x3:a7 wr (w.heap.size+1) 3=Z (A na a nc):=q8;have x4:a7 wr (w.heap.size+1) 4=Z (A y a z):=q8;have d1:=hr.cell1;have d2:=hr.cell2;have df:=hr.free 1;have bj:=hI;obtain⟨bz,aA,bA,ac,-,-⟩:=bj;rw[am]at ac;have k:G (J L=a/\J M=a):=⟨aG,am⟩;have HM:G (im R (w.heap.size+1) m Wb wr 5 L M (A na a nc) (A y a z)):=hM;have HR:G (d9 wr R s j d):=hr;have HI:G (rV m n s i L M j d):=hI;have bG:IntKind.i64.wrap ((j:Int)+1)=(j:Int)+1:=kG;have aD:a<=10010:=by cases d<;>simp at ac<;>omega
  have gb:wr.heap[w.heap.size]?=_:=(hM.near.block w.heap.size E E).trans aw.2;have g0:a7 wr w.heap.size 0=Z (I U 0):=my;have g1:a7 wr w.heap.size 1=Z (I U 0):=my;have g2:a7 wr w.heap.size 2=Z (Zt ⟨#[]⟩):=my;have g3:a7 wr w.heap.size 3=Z (A Y 0 0):=my;have g4:a7 wr w.heap.size 4=Z (A Y 0 0):=my;have gf:∀o,wr.frozen? ⟨w.heap.size,o,Y⟩=false:=λo=>by simp[World.frozen?,gb]
  have be:=gf 0;have bf:=gf 1;have bg:=gf 2;have bh:=gf 3;have bi:=gf 4;have B:G ((d=false->cF s j=125)->∀q,rW m n w R s i (Zr (Uy 5 0 WT na a nc y a z)) (eF ((wr.drewN q).setCell ⟨R,1,Y⟩ (I U ((j:Int)+1))) w.heap.size 0 (I U 5) (I U 0) (Zt WT) (A na a nc) (A y a z))):=λhe q=>NX (HM.keep E ((cH.refl R wr).drewN q)) hR aw.1 aO (HR.drewN q) HI hs bl he;clear hM hr hI aG am gb gf aN;cases d with
  | true=>have HZ:G _:=B.out zS 0;clear B;go_wp2_with fail;exact XQ J1 D HZ
  | false=>
   have ud:j<=s.size:=aA D;have bB:a<=j:=by simpa using ac
   clear aA ac;have HL:G (WU WV 218 #[Zp (b5 R 0)] wr λe w'=>e=Zr (I .u8 ((cF s j).toNat:Int))/\∃m',w'=wr.drewN m'):=kA HR;by_cases C:cF s j=125
   .have hc:((cF s j).toNat:Nat)=125:=by rw[C];rfl
    rw[hc]at HL;have HZ:G (∀q,_):=B.out zE;clear B C hc;go_wp2_with (go_at_call 218;refine H HL ?_;rintro e w' ⟨rfl,nq,rfl⟩);refine XQ (v:=Uy 5 0 WT na a nc y a z) J1 D ?_;exact HZ nq
   .have bm:((((cF s j).toNat:Nat):Int)==125)=false:=by rw[Q6];intro e;apply C;apply X8.1;have bt:(125:UInt8).toNat=125:=D;omega
    have bv:((((cF s j).toNat:Nat):Int) != 125)=true:=by simp[bne,bm]
    have HE:G (¬cF s j=125):=C;have bx:(((cF s j).toNat:Nat):Int)<=255:=FK;have bF:IntKind.i64.wrap (6-(n:Int)+1)=7-(n:Int):=kG;clear C B g0 g1 g2 g3 g4 be bf bg bh bi x0 x1 x2;generalize ((cF s j).toNat:Nat)=c at *;rcases Xa a with h0|h0;case' inl=>have hd:(0<a)=False:=zE;have bk:((0:Int)<(a:Int))=False:=zE;have j2:G (wD s a j j false):=.inl ⟨h0,D,D⟩;clear h0;go_wp2_with (go_at_call 218;refine H HL ?_;rintro e w' ⟨rfl,nq,rfl⟩);have ao:cH R wr (wr.drewN nq):=(cH.refl R wr).drewN nq;have q6:d9 (wr.drewN nq) R s j false:=HR.drewN nq;generalize wr.drewN nq=w1 at *;obtain⟨K,bad1,q6,j2,S⟩:∃(K:Nat)(bad1:Bool),d9 w1 R s K bad1/\G (wD s a j K bad1)/\K<=s.size:=⟨j,false,q6,j2,ud⟩;clear hd bk
    case' inr=>
     have hd:(0:Int)<(a:Int):=E;go_wp2_with (go_at_call 218;refine H HL ?_;rintro e w' ⟨rfl,nq,rfl⟩);refine H (fC ⟨#[44]⟩ (HR.drewN nq) hs zC ud) ?_;rintro e w1 ⟨rfl,aE,jM⟩;obtain⟨K,bad1,q6,j2,S⟩:∃(K:Nat)(bad1:Bool),d9 w1 R s K bad1/\G (wD s a j K bad1)/\K<=s.size:=by exact TC
     have ao:cH R wr w1:=((cH.refl R wr).drewN nq).trans aE;clear jM aE hd h0
    all_goals
     have N:G (im R (w.heap.size+1) m Wb w1 5 L M (A na a nc) (A y a z)):=HM.keep E ao
     have al:=N.lt
     have aT:a7 w1 (w.heap.size+1) 3=Z (A na a nc):=by simp[World.cell?,N.box]
     obtain⟨x,aj⟩:∃x,G (bs ((s.data.toList.drop K).takeWhile dz)=x):=⟨_,D⟩
     obtain⟨j1,HJ⟩:∃j1,G (K+J ((s.data.toList.drop K).takeWhile dz)=j1):=⟨_,D⟩
     have au:G (WU WV 220 #[Zp (b5 R 0)] w1.drew λe w'=>e=Zr (Zt x)/\cH R w1.drew w' /\ d9 w' R s (j1:Int) bad1):=
      (ES (q6.drewN 1) hs S).mono λe w' ⟨h1,h2,h3,_⟩=>⟨by rw[h1,aj.out],h2,by rw[HJ.out]at h3;exact h3⟩
     have HT:G ((bs ((s.data.toList.drop K).takeWhile dz)).size<=10000/\K+J ((s.data.toList.drop K).takeWhile dz)<=s.size):=by
      have h1:J ((s.data.toList.drop K).takeWhile dz)<=J (s.data.toList.drop K):=(List.takeWhile_prefix _).length_le
      rw[XZ]at h1
      have h2:J s.data.toList=s.size:=dS
      exact⟨o9,E⟩
     rw[aj.out,HJ.out]at HT
     have aB:=HT.2
     have ql:G (w1.ownsRow (w.heap.size+1+1) 9 1 (A na a nc) a (L.map Zt)):=by
      have:=N.q
      rw[k.1]at this;exact this
     have⟨bo,Q,j0,q9,qq⟩:=QY Tryz.info_stringR
     have F:G (_/\_/\_/\_):=⟨Q,j0,q9,qq⟩
     clear Q j0 q9 qq q6 x3 x4 d1 d2 df HL HM ao
     go_upto_region 7 with fail
     go_cut [23] from 20 to 56 (λ_ wx=>∃g cap,im R (w.heap.size+1) m Wb wx 5 (L++[x]) M (A (b5 g 0) (a+1) cap) (A y a z)/\d9 wx R s (j1:Int) bad1)
     case first=>
      go_region_law (first
       | (refine Xd _ cU (.tmp 40) (.tmp 43) 23 cU (w.heap.size+1+1) 9 bo _ 1 16 underlying23 F.1 F.2.1 F.2.2.1 F.2.2.2 D mz (A na a nc) a (L.map Zt) cU (aI _) ⟨w2.heap.size,0,Y⟩ 1 1 [Zt x] cU D (QB (Qh w2 _)) iz mz fA (by omega) gE (w2.heap.size+1) dS ?_;intro g cap ad ah t az bC;have qt:=(pz (W:=w1.drew) ql.out al (by omega) P t).trans N.box;have aS:a7 ad (w.heap.size+1) 3=Z (A na a nc):=rf;have aW:ad.frozen? ⟨w.heap.size+1,3,Y⟩=false:=rg)
       | (go_simp;go_at_call 220;refine H au ?_;rintro e w2 ⟨rfl,P,aK⟩;have aP:w1.heap.size<=w2.heap.size:=P.size;have aI:=λo=>wz (R:=R) (X:=w.heap.size+1) (W:=w1.drew) ql E P o;have aR:a7 w2 (w.heap.size+1) 3=Z (A na a nc):=(Ql (P.block (w.heap.size+1) (by simpa using al) E)).trans aT;have bp:a7 (w2.alloc (Zc #[Zt x] 9)) (w.heap.size+1) 3=Z (A na a nc):=(Ql (Qf _ _ _ FD)).trans aR))
      all_goals
       have O:=im.name (W:=w2) (Wa:=w2.alloc (Zc #[Zt x] 9)) (one:=Zc #[Zt x] 9) (N.keep E (((cH.refl R w1).drewN 1).trans P)) E D ⟨D,D,D⟩ HT.1 (by rw[k.1];exact ah) t az
       rw[k.1]at O
       have qc:G (im R (w.heap.size+1) m Wb (ad.setCell ⟨w.heap.size+1,3,Y⟩ (A (b5 g 0) (a+1) cap)) 5 (L++[x]) M (A (b5 g 0) (a+1) cap) (A y a z)):=O
       have aa:G (d9 (ad.setCell ⟨w.heap.size+1,3,Y⟩ (A (b5 g 0) (a+1) cap)) R s (j1:Int) bad1):=sM (X:=w.heap.size+1) (q:=3) (W:=w1.drew) aK ql E t
       clear O ah t az P aK aI aR bp aS aW qt
       go_wp2_with fail
       go_meet
       exact⟨_,_,qc,aa⟩
     case rest=>
      obtain⟨g,cap,O,ax⟩:=hcut
      have qc:G (im R (w.heap.size+1) m Wb wc 5 (L++[x]) M (A (b5 g 0) (a+1) cap) (A y a z)):=O
      have aa:G (d9 wc R s (j1:Int) bad1):=ax
      clear O ax aT au N ql al
      go_wp2_with fail
      refine H (fC ⟨#[58]⟩ aa hs zC aB) ?_
      rintro e q5 ⟨rfl,aF,jM⟩
      obtain⟨i3,l,aL,bc,aH,an⟩:∃(i3:Nat)(l:Bool),d9 q5 R s i3 l/\G (Tb s j1 i3 bad1 l)/\(l=false->i3<=s.size)/\i3<=20000:=by
       exact YJ
      have ak:=qc.keep E aF
      have q7:G (im R (w.heap.size+1) m Wb q5 5 (L++[x]) M (A (b5 g 0) (a+1) cap) (A y a z)):=ak
      have⟨xs,aq,aC⟩:=ak.o
      have bd:G (∀q (h:q<J M),_):=aC
      have ab:G (q5.ownsRow (w.heap.size+1+1) 31 5 (A y a z) a xs):=by
       rw[k.2]at aq;exact aq
      have ay:=q7.lt
      have br:a7 q5 (w.heap.size+1) 4=Z (A y a z):=by simp[World.cell?,q7.box]
      have bb:G (WU WV 186 #[Zp (b5 R 0),I U (7-(n:Int))] q5.drew (dW m n q5.drew R s i3 l)):=HN.out m R s i3 l _ hm (aL.drewN 1) hs aH an
      have⟨bn,Q,j0,q9,qq⟩:=QY Tryz.info_treeR
      have qa:G (_/\_/\_/\_):=⟨Q,j0,q9,qq⟩
      clear Q j0 q9 qq aq aC ak jM aL aF qc aa
      go_wp2_with fail
      go_region_law (first
       | (refine Xd _ cU (.tmp 49) (.tmp 54) 29 cU (w.heap.size+1+1) 31 bn _ 5 80 underlying29 qa.1 qa.2.1 qa.2.2.1 qa.2.2.2 D mz (A y a z) a xs cU (ai _) ⟨v2.heap.size,0,Y⟩ 1 1 [I U aY,I U aZ,Zt ba,A ya yl yc,A za zl zc] cU D (QB (Qh v2 _)) iz mz fA (by omega) gE (v2.heap.size+1) dS ?_;intro g2 p v3 V f af bu;have js:=(pz (W:=q5.drew) ab.out ay (by omega) r f).trans q7.box;have aV:a7 v3 (w.heap.size+1) 4=Z (A y a z):=sW;have aX:v3.frozen? ⟨w.heap.size+1,4,Y⟩=false:=sX)
       | (go_simp;go_at_call 186;refine H bb ?_;rintro e v2 ⟨r,t2,y0,y1,y2,y3,y4,i2,ae,rfl,ap,aM,aJ⟩;obtain⟨aY,aZ,ba,ya,yl,yc,za,zl,zc,rfl,rfl,rfl,rfl,rfl⟩:=ap.shape;have aP:q5.heap.size<=v2.heap.size:=r.size;have ai:=λo=>wz (R:=R) (X:=w.heap.size+1) (W:=q5.drew) ab E r o;have aU:a7 v2 (w.heap.size+1) 4=Z (A y a z):=(Ql (r.block (w.heap.size+1) (by simpa using ay) E)).trans br;have bq:a7 (v2.alloc (UA aY aZ ba ya yl yc za zl zc)) (w.heap.size+1) 4=Z (A y a z):=(Ql (Qf _ _ _ FD)).trans aU))
      all_goals
       have hF:=im.kidD (g:=g2) (cap:=p) (xs:=xs) 1 q7 E E r ap (by rw[k.2];exact ab) bd (by rw[k.2];exact V) f af
       rw[k.2]at hF
       have HF:G (im R (w.heap.size+1) m Wb (v3.setCell ⟨w.heap.size+1,4,Y⟩ (A (b5 g2 0) (a+1) p)) 5 (L++[x]) (M++[t2]) (A (b5 g 0) (a+1) cap) (A (b5 g2 0) (a+1) p)):=hF
       have ar:G (d9 (v3.setCell ⟨w.heap.size+1,4,Y⟩ (A (b5 g2 0) (a+1) p)) R s i2 ae):=sM (X:=w.heap.size+1) (q:=4) (u:=A (b5 g2 0) (a+1) p) (W:=q5.drew) aM ab E f
       have HS:=KK HI HE (by rw[k.2];exact j2) (by rw[HJ.out];exact bc) aJ (by rw[HJ.out];exact aB)
       rw[aj.out]at HS
       have av:G _:=HS
       clear hF HS V f af ap aM aJ r ai aU bq aV aX js
       go_wp2_with fail
       go_roundw
       case rel=>exact⟨L++[x],M++[t2],i2,a+1,ae,b5 g 0,cap,b5 g2 0,p,by simp[k.1],by simp[k.2],HF,ar,av.1⟩
       case measure=>rw[d9.left ar.out,d9.left HR.out];simpa using av.2
def Sr {x:Int} {t:T m} {b:Nat} (e:(Lit.int U x).wf=true) (a:S b) (h:nT w b c0 c1 c2 c3 c4) (d:cT S w m t c0 c1 c2 c3 c4) :
  cT S w (m+1) (⟨x,0,WT,[],[t]⟩:F (T m)) (I U x) (I U 0) (Zt ⟨#[]⟩) (A Y 0 0) (A (b5 b 0) 1 c):=by refine⟨D,D,D,by show ByteArray.empty.size<=_;unfold WX;decide,e,cU,⟨Y,0,rfl,gO,zS,zS⟩,⟨b5 b 0,c,rfl,gO,λ_=>⟨b,0,D,a,λi hi=>?_⟩⟩⟩;have:i=0:=oC;subst this;exact⟨c0,c1,c2,c3,c4,by simpa using h.c0,by simpa using h.c1,by simpa using h.c2,by simpa using h.c3,by simpa using h.c4,d⟩
def R3 (hn:kg n) (m:Nat) (hm:n+1<=m) (ac:n<=5) (h:d9 w R s i false) (S:s.size<=10000) (hi:i<=s.size) (hl:cF s i=63) :
  WU WV 186 #[Zp (Z ⟨R,0,Y⟩),I U (7-((n+1:Nat):Int))] w (dW (m+1) (n+1) w R s i false):=by
 have q7:=h.lt;have⟨W1,K,ae,c2,F⟩:=fj (k:=63) d8 h fi;have L:¬(6:Int)<7-((n+1:Nat):Int):=E;have B:=a8 hl;have p:G (dq [63] (s.data.toList.drop i)=Z (s.data.toList.drop (i+1))/\i<s.size):=by
  have a:i<s.size:=Qx λab=>J2;refine⟨?_,a⟩;have C:s[i]=63:=by rw[<- ky a];exact hl
  rw[wo a,C];exact di _ _
 have ad:IntKind.i64.wrap (7-((n+1:Nat):Int)+1)=7-(n:Int):=kG;have qc:=a8 hn;generalize aa:7-((n+1:Nat):Int)=dp at *;go_enter func186,ntmps186;go_wp2_with fail;rw[<- K];refine H F ?_;rintro e w2 ⟨rfl,M,N,af,x⟩;have j0:=a8 (fC ⟨#[63]⟩ N S zC hi);go_wp2_with fail;refine H j0 ?_;rintro e w3 ⟨rfl,j,⟨v,q2,z⟩|⟨v,z⟩⟩;case inr=>have v:=v;rw[p.1]at v;cases v
 have z:=z;have ag:=j.size;have y:=(j.block w.heap.size E E).trans E;have q:=M.trans j;have a:=p.2;have qa:=a8 (qc.out m R s (i+1) false w3 hm z S E E);go_wp2_with fail;refine H qa ?_;rintro e g ⟨c,t,d0,d1,d2,d3,d4,i1,P,rfl,O,l,Q⟩;obtain⟨T,V,W,X,q9,q6,q8,q5,qq,rfl,rfl,rfl,rfl,rfl⟩:=O.shape;have ah:=c.size;have d:=(c.block w.heap.size E E).trans E;have f:=q.trans c;obtain⟨o,ho,u⟩:∃o:Obj,o=UA T V W X q9 q6 q8 q5 qq/\nT (g.alloc o) g.heap.size (I U T) (I U V) (Zt W) (A X q9 q6) (A q8 q5 qq):=⟨_,D,nT.new g _ _ _ _ _ _⟩;have r:cH R w (g.alloc o):=f.trans (cH.alloc _ _ _);have⟨⟨r0,r1,r2,r3,r4⟩,f0,f1,f2,f3,f4⟩:=eX ((Qf g o w.heap.size E).trans E);have HP:G (dW (m+1) (n+1) w R s i false (Zr (Za #[I U 6,I U 0,Zt ⟨#[]⟩,A Y 0 0,A (Z ⟨g.heap.size,0,Y⟩) 1 1])) (eF (g.alloc o) w.heap.size 0 (I U 6) (I U 0) (Zt ⟨#[]⟩) (A Y 0 0) (A (Z ⟨g.heap.size,0,Y⟩) 1 1))):=by refine kD r q7 ((Qf _ _ _ (by have:=l.lt;omega)).trans l) (Sr (t:=t) D ⟨E,dS⟩ u ?_) (Pc B Q);exact O.keep (λb ql=>Qf _ _ _ ql.2) zE
 subst ho;clear l Q O u r d f c;exact io
def RZ (K:kg n) (m:Nat) (S:n+1<=m) (r:n<=5) (h:d9 w R s i false) (T:s.size<=10000) (ql:i<=s.size) (hl:cF s i=91) :
  WU WV 186 #[Zp (b5 R 0),I U (7-((n+1:Nat):Int))] w (dW (m+1) (n+1) w R s i false):=by
 have P:=h.lt;have⟨qq,d,V,c2,u⟩:=fj (k:=91) d8 h fi;have c:¬(6:Int)<7-((n+1:Nat):Int):=E;have p:G (cF s i=91):=hl;have f:i<s.size:=Qx λQ=>J2;have q:7-((n+1:Nat):Int)=6-(n:Int):=E;rw[q]at c ⊢;have v:G (kg n):=K;clear K;clear h hl;go_enter func186,ntmps186;go_wp2_with fail;rw[<- d];clear d c2;refine H u ?_;rintro e O ⟨rfl,g,j,W,b⟩;have t:G (WU WV 223 #[Zp (b5 R 0),I U 4,I .u8 93,I U (6-(n:Int))] O (oD m n O R s i)):=Lz v r S j T f;clear u j v;go_wp2_with fail;refine H t ?_;rintro e qc ⟨a,N,q5,qa,F,x,rfl,o,l,y,z,B,C⟩;obtain⟨na,nc,rfl,-⟩:=o.2.2.2.2.2.2.1;obtain⟨L,M,rfl,-⟩:=o.2.2.2.2.2.2.2;have X:=a.size;have⟨⟨r0,r1,r2,r3,r4⟩,f0,f1,f2,f3,f4⟩:=eX ((a.block w.heap.size E E).trans E);have HP:G (dW (m+1) (n+1) w R s i false (Zr (Uy 4 0 WT na 0 nc L (J N) M)) (eF qc w.heap.size 0 (I U 4) (I U 0) (Zt WT) (A na 0 nc) (A L (J N) M))):=
  kD (g.trans a) P l (o.keep ik Cj) (Lp p y z B C)
 clear t a g b l o y z B C;exact io
def RY (K:kg n) (m:Nat) (T:n+1<=m) (r:n<=5) (h:d9 w R s i false) (V:s.size<=10000) (qa:i<=s.size) (hl:cF s i=123) :
  WU WV 186 #[Zp (b5 R 0),I U (7-((n+1:Nat):Int))] w (dW (m+1) (n+1) w R s i false):=by
 have Q:=h.lt;have⟨qq,d,W,c2,u⟩:=fj (k:=123) d8 h fi;have c:¬(6:Int)<7-((n+1:Nat):Int):=E;have p:G (cF s i=123):=hl;have f:i<s.size:=Qx λS=>J2;have q:7-((n+1:Nat):Int)=6-(n:Int):=E;rw[q]at c ⊢;have v:G (kg n):=K;clear K;clear h hl;go_enter func186,ntmps186;go_wp2_with fail;rw[<- d];clear d c2;refine H u ?_;rintro e P ⟨rfl,g,j,X,b⟩;have t:G (WU WV 223 #[Zp (b5 R 0),I U 5,I .u8 125,I U (6-(n:Int))] P (rW m n P R s i)):=Ly v r T j V f;clear u j v;go_wp2_with fail;refine H t ?_;rintro e q5 ⟨a,O,N,F,q6,qc,x,rfl,o,l,y,z,B,C⟩;obtain⟨na,nc,rfl,-⟩:=o.2.2.2.2.2.2.1;obtain⟨L,M,rfl,-⟩:=o.2.2.2.2.2.2.2;have ql:=a.size;have⟨⟨r0,r1,r2,r3,r4⟩,f0,f1,f2,f3,f4⟩:=eX ((a.block w.heap.size E E).trans E);have HP:G (dW (m+1) (n+1) w R s i false (Zr (Uy 5 0 WT na (J O) nc L (J N) M)) (eF q5 w.heap.size 0 (I U 5) (I U 0) (Zt WT) (A na (J O) nc) (A L (J N) M))):=
  kD (g.trans a) Q l (o.keep ik Cj) (KI p y z B C)
 clear t a g b l o y z B C;exact io
def G7:∀n,n<=6->kg n:=by
 intro n;induction n with
 | zero=>intro _ m R s i d w r h c b _;obtain⟨a,rfl⟩:∃a,m=a+1:=⟨m-1,E⟩;exact Jc 0 a h E b
 | succ n u=>
  intro t m R s i d w r h c b q;obtain⟨a,rfl⟩:∃a,m=a+1:=⟨m-1,E⟩;have e:=u E;cases d with
  | true=>exact Jc (n+1) a h zS b
  | false=>
   have b:=b D;by_cases f:cF s i=34;·exact R4 n a h c b f
   by_cases g:cF s i=121;·exact qaJ n a h c b g
   by_cases j:cF s i=110;·exact qcC n a h c b j
   by_cases k:cF s i=126;·exact R2 n a h c b k
   by_cases l:cF s i=63;·exact R3 e a E E h c b l
   by_cases o:cF s i=91;·exact RZ e a E E h c b o
   by_cases p:cF s i=123;·exact RY e a E E h c b p
   .exact qaI n a h c b f g j k l o p
def l0(m:Nat)(k:T m)(ok:Bool)(w:Zw)(e:Ending)(w':Zw):Prop:=
 Below w.heap.size w w' /\ ∃c0 c1 c2 c3 c4,e=Zr (Zu #[Za #[c0,c1,c2,c3,c4],Zb ok])/\cT (λb=>w.heap.size<=b/\b<w'.heap.size) w' m k c0 c1 c2 c3 c4
def yL(h:iE (m+1) s=Y)(c:Below w.heap.size w w'):l0 (m+1) (sg m s) (Jv m s) w (Zr (Zu #[Za #[I U 0,I U 0,Zt ⟨#[]⟩,A Y 0 0,A Y 0 0],Zb false])) w':=by have⟨a,b⟩:=Bv h;rw[a,b];exact⟨c,_,_,_,_,_,D,iN _ _ m 0 0 D D zC⟩
def KP{t:T (m+1)}(d:pL (m+1) 6 s 0 false t i' bad'){k:T (m+1)}(h:iE (m+1) s=Z k):t=k/\bad'=false/\i'=s.size/\dB (m+1) t=true/\cK (m+1) t=s.data.toList:=by have⟨i,a,b⟩:=rJ h;obtain⟨-,-,-,-,c⟩:=d;have⟨e,f,g⟩:=c k [] D (by rw[Xn,XF,b]) (dr a).1 D;subst e;refine⟨D,f,?_,a,b⟩;rw[g,b];simp
def pF{t:T (m+1)}(a:pL (m+1) 6 s 0 false t i' bad')(h:bad'=true∨i'≠s.size∨dB (m+1) t=false∨cK (m+1) t≠s.data.toList):iE (m+1) s=Y:=by
 cases hr:iE (m+1) s with
 | none=>rfl
 | some k=>obtain⟨-,q1,q2,q3,q4⟩:=KP a hr;exact Yd
def A4 (s:ZB) (m:Nat) (hm:7<=m+1) (hs:s.size<=1048576) (w:Zw) :
  WU WV 154 #[Zt s] w (l0 (m+1) (sg m s) (Jv m s) w):=by
 obtain⟨q8,qR⟩:∃q8,q8=w.alloc d8:=⟨_,D⟩;have qa:q8.heap.size=w.heap.size+1:=re;have qj:Below w.heap.size w q8:=by rw[qR];exact (Qg _ _).alloc E _
 have n:q8.heap[w.heap.size]?=Z d8:=FT;have M:G (∀W:Zw,Below w.heap.size w W->Below w.heap.size w (eF W w.heap.size 0 (I U 0) (I U 0) (Zt ⟨#[]⟩) (A Y 0 0) (A Y 0 0))):=λW h=>dk h E;by_cases h8:s.size<=10000;case neg=>have ae:(10000:Int)<(s.size:Int):=E;have HP:G (∀o,l0 (m+1) (sg m s) (Jv m s) w (Zr (Zu #[Za #[I U 0,I U 0,Zt ⟨#[]⟩,A Y 0 0,A Y 0 0],Zb false])) (w.alloc o)):=λo=>yL (Ie h8) ((Qg _ _).alloc E _);clear qj n qa h8;go_enter func154,ntmps154;go_wp2_with fail;refine bR (v:=Zu #[Za #[I U 0,I U 0,Zt ⟨#[]⟩,A Y 0 0,A Y 0 0],Zb false]) ?_;exact HP _
 have af:¬(10000:Int)<(s.size:Int):=E;obtain⟨u,xe⟩:∃u,u=q8.alloc (Zc #[Zt s,I U 0,Zb false] 221):=⟨_,D⟩;have ag:u.heap.size=w.heap.size+2:=by rw[xe];simp;omega
 have r:Below w.heap.size w u:=J0;have q5:d9 u (w.heap.size+1) s ((0:Nat):Int) false:=by show u.heap[w.heap.size+1]?=_;rw[xe,<- qa];exact Qh _ _
 have C:u.heap[w.heap.size]?=Z d8:=by rw[xe,Qf _ _ _ E];exact n
 have HK:G (WU WV 186 #[Zp (b5 (w.heap.size+1) 0),I U 1] u (dW (m+1) 6 u (w.heap.size+1) s 0 false)):=G7 6 E (m+1) (w.heap.size+1) s 0 false u hm q5 E E E;clear q5 n qj;go_enter func154,ntmps154;go_wp2_with fail;rw[<- qR,<- xe];clear qR xe;refine H HK ?_;rintro e q9 ⟨l,t,d0,d1,d2,d3,d4,F,q,rfl,ht,j0,hG⟩;obtain⟨qc,q7,ql,ua,ul,uc,ya,yl,yc,rfl,rfl,rfl,rfl,rfl⟩:=ht.shape;have ah:=l.size;have R:Below w.heap.size w q9:=⟨l.os.trans r.os,l.tape.trans r.tape,l.output.trans r.output,E,λb hb=>(l.block b E E).trans (r.block b hb)⟩;have K:q9.heap[w.heap.size]?=Z d8:=(l.block _ E E).trans E;obtain⟨f,k⟩:∃f,f=q9.alloc (UA qc q7 ql ua ul uc ya yl yc):=⟨_,D⟩;have ai:f.heap.size=q9.heap.size+1:=by rw[k];simp
 have g:Below q9.heap.size q9 f:=by rw[k];exact (Qg _ _).alloc E _
 have z:=b9 R R.size g;have L:=(g.block w.heap.size E).trans E;have⟨i,Q⟩:=ht.step E g;have S:d9 f (w.heap.size+1) s F q:=(g.block _ E).trans j0;have j:nT f q9.heap.size (I U qc) (I U q7) (Zt ql) (A ua ul uc) (A ya yl yc):=by rw[k];exact nT.new _ _ _ _ _ _ _
 have c1:=S.cell1;have c2:=S.cell2;have x:G (pL (m+1) 6 s 0 false t F q):=hG;have⟨V,X,q6,k3,k4⟩:=id j;have a:G (∀W:Zw,Below f.heap.size f W->iE (m+1) s=Y->l0 (m+1) (sg m s) (Jv m s) w (Zr (Zu #[Za #[I U 0,I U 0,Zt ⟨#[]⟩,A Y 0 0,A Y 0 0],Zb false])) (eF W w.heap.size 0 (I U 0) (I U 0) (Zt ⟨#[]⟩) (A Y 0 0) (A Y 0 0))):=λW hW h=>yL h (M W (b9 z z.size hW));have y:G (∀W:Zw,Below f.heap.size f W->W.heap[w.heap.size]?=Z d8):=λW hW=>(hW.block w.heap.size E).trans E;have HB:G (Below w.heap.size w f):=z;clear HK hG ht j0 S l R g z C K L r M;cases q with
 | true=>have⟨⟨r0,r1,r2,r3,r4⟩,f0,f1,f2,f3,f4⟩:=eX (y f (Qg _ _));have HP:G _:=a.out f (Qg _ _) (pF x zS);rw[k]at c1 c2 V X q6 k3 k4 r0 r1 r2 r3 r4 f0 f1 f2 f3 f4 HP;clear j i a y x;exact io
 | false=>
  by_cases qq:F=s.size;case neg=>have ab:((F:Int) != (s.size:Int))=true:=gE;have⟨⟨r0,r1,r2,r3,r4⟩,f0,f1,f2,f3,f4⟩:=eX (y f (Qg _ _));have HP:G _:=a.out f (Qg _ _) (pF x E);rw[k]at c1 c2 V X q6 k3 k4 r0 r1 r2 r3 r4 f0 f1 f2 f3 f4 HP;clear j i a y x qq;exact io
  have ab:((F:Int) != (s.size:Int))=false:=gE;have O:G (WU WV 23 #[Uy qc q7 ql ua ul uc ya yl yc] f _):=rL (m+1) _ t _ _ _ _ _ f i Q;rw[k]at c1 c2 V X q6 k3 k4;clear qq;go_wp2_with fail;rw[<- k];clear c1 c2 V X q6 k3 k4;refine H O ?_;rintro e w5 ⟨rfl,d⟩;have ad:=d.size;have⟨V,X,q6,k3,k4⟩:=j.keep d;cases hok:dB (m+1) t with
  | false=>have⟨⟨r0,r1,r2,r3,r4⟩,f0,f1,f2,f3,f4⟩:=eX (y w5 d);have HP:G _:=a.out w5 d (pF x (.inr (.inr (.inl hok))));clear j i a y x d O hok;exact io
  | true=>
   have hp:=dr hok;have⟨T,aa⟩:=i.step Q d;have P:G (WU WV 74 _ w5 _):=n7 (m+1) _ t _ _ _ _ _ 1 w5 T aa hp.1 hp.2;have N:G (dB (m+1) t=true):=hok;clear hok hp O;go_wp2_with fail;refine H P ?_;rintro e w6 ⟨rfl,B⟩;have aj:=B.size;have c:=b9 d ad B;clear V X q6 k3 k4;have⟨V,X,q6,k3,k4⟩:=j.keep c;have⟨⟨r0,r1,r2,r3,r4⟩,f0,f1,f2,f3,f4⟩:=eX (y w6 c);by_cases p:cK (m+1) t=s.data.toList
   .have hq:((bs (cK (m+1) t)).toList==s.toList)=true:=by rw[p,nw];simp
    have HP:G (l0 (m+1) (sg m s) (Jv m s) w (Zr (Zu #[Uy qc q7 ql ua ul uc ya yl yc,Zb true])) (eF w6 w.heap.size 0 (I U qc) (I U q7) (Zt ql) (A ua ul uc) (A ya yl yc))):=by have⟨q1,q2⟩:=tr (Fa h8 N p);rw[q1,q2];have ac:=(i.step Q c).1;refine⟨dk (b9 HB HB.size c) E,_,_,_,_,_,D,ac.keep (λb hb=>dt E) (λb hb=>Ab)⟩
    clear j i T a y x d B c P p N;exact io
   .have hq:((bs (cK (m+1) t)).toList==s.toList)=false:=by rw[Q6];intro e;apply p;rw[QI,QI,fG]at e;exact e
    have HP:G _:=a.out w6 c (pF x (.inr (.inr (.inr p))));clear j i T a y x d B c P p N;exact io
def Lo(M:Nat)(s:ZB):(∃t:T (M+1),iE (M+1) s=Z t/\Jv M s=true/\sg M s=t/\((F.k t<=3/\sD M s=Z (F.k t,F.n t,F.a t))∨(¬F.k t<=3/\sD M s=Y)))∨(iE (M+1) s=Y/\Jv M s=false/\sD M s=Y):=by
 cases hr:iE (M+1) s with
 | none=>exact .inr ⟨D,(Bv hr).2,by unfold sD;rw[hr]⟩
 | some t=>
  refine .inl ⟨t,D,(tr hr).2,(tr hr).1,?_⟩;by_cases a:F.k t<=3;·exact .inl ⟨a,by unfold sD;rw[hr];dsimp only;rw[Qm a]⟩
  .exact .inr ⟨a,by unfold sD;rw[hr];dsimp only;rw[Qd a]⟩
def G5 (N:s.size<=3000) (w:Zw) :
  WU WV 85 #[Zt s] w λe O=>Below w.heap.size w O/\((∃v,fy s.data.toList=Z v/\e=Zr (Zu #[I U v,Zb true]))∨(fy s.data.toList=Y/\∃v,e=Zr (Zu #[I U v,Zb false]))):=by
 have q:G (WU WV 154 #[Zt s] w (l0 (3000+1) (sg 3000 s) (Jv 3000 s) w)):=A4 s 3000 E E w;have r:fy s.data.toList=if Jv 3000 s=true/\F.k (sg 3000 s)=1 then Z (F.n (sg 3000 s)) else Y:=by
  rcases Lo 3000 s with ⟨t,m,k,rfl,-⟩|⟨m,k,-⟩<;>rw[k]<;>rcases ON 3000 N with ⟨qa,a,i,h⟩|⟨i,h⟩;·rw[m]at a;cases a;simp[i,h]
  .simp[i _ m,h]
  .rw[m]at a;cases a
  .simp[h]
 generalize Jv 3000 s=b at *;generalize sg 3000 s=t at *;have p:=a8 r;clear r;go_in;go_wp2_with fail;refine H q ?_;rintro e l ⟨d,R,S,T,V,X,rfl,o⟩;obtain⟨f,g,u,x,z,y,B,K,C,rfl,rfl,rfl,rfl,rfl⟩:=o.shape;have⟨W,j⟩:=fk (l.alloc (UA f g u x z y B K C));have HF:G (∀n c,c=(b && f==1)->Below w.heap.size w (W.drewN n)/\((∃v,fy s.data.toList=Z v/\Ue (Zu #[I U g,Zb c])=Zr (Zu #[I U v,Zb true]))∨(fy s.data.toList=Y/\∃v,Ue (Zu #[I U g,Zb c])=Zr (Zu #[I U v,Zb false])))):=λn c M=>by have L:f=F.k t:=(Value.int.inj o.1).2;have i:g=F.n t:=(Value.int.inj o.2.1).2;have:=d.alloc d.size (UA f g u x z y B K C);rw[<- j]at this;refine⟨⟨this.os,this.tape,this.output,this.size,this.block⟩,?_⟩;rw[p.out,M,<- L,<- i];cases b<;>cases hq:(f==1)<;>simp_all
 have P:a7 W l.heap.size 0=Z (I U f):=by rw[j];exact (nT.new l _ _ _ _ _ _).c0
 have Q:a7 W l.heap.size 1=Z (I U g):=by rw[j];exact (nT.new l _ _ _ _ _ _).c1
 clear d o q p;cases b
 rotate_left;cases e1:(f==1)
 all_goals
  go_wp2_with fail
  rw[<- j]
  clear j
  go_quiet (fail)
  go_wp2_with fail
 exact bR (HF _ false (by rw[e1];rfl));exact bR (HF _ true (by rw[e1];rfl));exact bR (HF _ false D)
def D5 {op:Int} (h:Ge w W op x1 x2 xa ya xl xc yl yc) (b:Bd S w) (a:Bw W V) {t:V6} (c:b8 (Ov S w.heap.size (Z (w.heap.size+1)) V) V 6 t c0 c1 c2 c3 c4) :
  V.heap[w.heap.size+1]?=Z d8/\gG S w (.ok t) (Zr (Zu #[Za #[c0,c1,c2,c3,c4],I U 0])) (eF V (w.heap.size+1) 0 c0 c1 c2 c3 c4):=⟨dy h.zero a,km b (h.bw.trans (a.mono h.bw.size)) E c⟩
def Gy {op:Int} (h:Ge w W op x1 x2 xa ya xl xc yl yc) (a:Bw W V) (c:Int) :
  V.heap[w.heap.size+1]?=Z d8/\gG S w (.error c) (Zr (Zu #[Gd,I U c])) (dN V (w.heap.size+1) 0 0 ⟨#[]⟩ Y Y 0 0 0 0):=⟨dy h.zero a,lL (h.bw.trans (a.mono h.bw.size)) E⟩
def n6{t:V6}(h:dB 6 t=true)(a:i<J (F.o t)):dB 5 (F.o t)[i]=true:=pG h zS
def mj{t:V6}(h:dB 6 t=true):J (F.o t)<=119:=by have e:cJ (5+1) t<=120:=(dr h).2;have b:cJ (5+1) t=1+cG (λx=>cJ 5 x) (F.o t):=D;have c:=mR (n:=5) (d:=2) (Qo.2 λx a=>(dY (dr h).1).2.2 x a);omega
def Rc{t:V6}(a:i<J (F.o t)):(cL t).getD i dU=fl 5 5 (F.o t)[i]:=by unfold cL;rw[Qw,Xg,Qp a];rfl
def NH(x:Bd S w)(l:Int)(m:ZB)(n s:ZA)(r o u t:Nat)(M:Nat){j k:V6}(hk:Ni S w p q 2 j k a0 a1 a2 aa ad al ac am ae b0 b1 b2 ba bd bl bc bm be)(h:¬(0<=F.n k/\F.n k<J (F.o j)))(g:J (F.o j)<=120):dZ S w 25 l m n s r o u t (A (b5 p q) 2 M) (.error 3):=by
 have⟨W,hW⟩:=iC w 25 l m n s r o u t;have c:=hW.is;have jS:=hk.keep hW.bw x;have y:=x p hk.1;have z:G (∀V:Zw,(∀b,b<=w.heap.size->V.heap[b]?=W.heap[b]?)->(Q5 V p q a0 a1 a2 aa al ac ad am ae)/\(Q5 V p (q+5) b0 b1 b2 ba bl bc bd bm be)/\N5 V w.heap.size 25 l m n r o s u t):=λV hV=>by exact Yb
 have B:=a8 hW.low;have d:b1=F.n k:=MN;have a:am=J (F.o j):=Pr;rw[<- d,<- a]at h;rw[<- a]at g;clear d a;have L:IntKind.i64.wrap ((am:Int)-1)=(am:Int)-1:=kG;have v:G (∀V,WU WV 51 #[I U b1,I U 0,I U ((am:Int)-1)] V λe i=>e=Zr (Zb false)/\i=V):=λV=>by have:=fx b1 0 ((am:Int)-1) V;rwa [QU E]at this
 have HZ:=a8 (Gy (S:=S) hW ((Qg _ _).drew:Bw W W.drew) 3);clear h g;have C:=z.out W zS;have f:Bw W W.drew:=(Qg _ _).drew;clear hW x hk jS y;unfold dZ;go_in;go_upto_region 1 with fail;rw[<- c];clear c;go_upto_region 40 with fail;refine Qz (S:=λi=>(Q5 i p q a0 a1 a2 aa al ac ad am ae)/\(Q5 i p (q+5) b0 b1 b2 ba bl bc bd bm be)/\N5 i w.heap.size 25 l m n r o s u t) zK (z _ (B _ f)) (λhHeld=>?_);generalize W.drew=X at *;have N:=f;refine t4 0 1 2 3 ?_;refine t4 4 5 6 7 ?_;refine t2 8 9 ?_;refine ic 10 λK hK=>?_;go_simp;go_at_call 51;refine H (v X) ?_;rintro e V ⟨rfl,rfl⟩;refine hK.out _ _ hHeld (λhHeld=>?_);clear hK K;refine tk 11 ?_;refine Xi zK ?_ _;go_simp;exact Pz
def Ks(l:Bd S w)(Q:Int)(R:ZB)(T q8:ZA)(q9 q6 q5 qq:Nat)(kc:Nat){u P:V6}(hk:Ni S w p q 2 u P a0 a1 a2 aa ad al ac am ae b0 b1 b2 ba bd bl bc bm be)(c:0<=F.n P/\F.n P<J (F.o u))(r:dB 6 u=true):dZ S w 25 Q R T q8 q9 q6 q5 qq (A (b5 p q) 2 kc) (.ok ((cL u).getD (F.n P).toNat dU)):=by
 have z:b1=F.n P:=MN;have y:am=J (F.o u):=Pr;have N:=mj r;rw[<- z]at c ⊢;have m:b1.toNat<J (F.o u):=E;obtain⟨d,t,q7,qc,y2,za,qa,zl,zc,D,ql,rfl,M,ah,-,j,O⟩:=iq hk.2.2.2.1 l m;rw[Rc m];rw[<- y]at c N;have⟨W,f⟩:=iC w 25 Q R T q8 q9 q6 q5 qq;have x:=f.is;have C:=hk.keep f.bw l;have ai:=l p hk.1;have ag:=fP l f.bw.size;have j0:G (∀V:Zw,(∀b,b<=w.heap.size->V.heap[b]?=W.heap[b]?)->((Q5 V d (t+b1.toNat*5) q7 qc y2 za zl zc qa D ql))/\(Q5 V p q a0 a1 a2 aa al ac (b5 d t) am ae)/\(Q5 V p (q+5) b0 b1 b2 ba bl bc bd bm be)/\N5 V w.heap.size 25 Q R T q9 q6 q8 q5 qq):=λV s=>by
  have hc:=oK (s p E);have n:=C.2.2.1;simp only[Q5,<- hc]at n;exact⟨by
   have hq:∀o,a7 V d o=a7 w d o:=λo=>(Ql (a:=⟨d,o,Y⟩) (s d E)).trans (Ql (a:=⟨d,o,Y⟩) (f.bw.block d M))
   simp only[Q5,hq]
   exact j,n.1,n.2,cP ((s _ E).trans f.node)⟩
 have HL:=a8 f.low;have af:=a8 f.lowp;have ak:IntKind.i64.wrap ((am:Int)-1)=(am:Int)-1:=kG;have ab:G (∀V,WU WV 51 #[I U b1,I U 0,I U ((am:Int)-1)] V λe i=>e=Zr (Zb true)/\i=V):=λV=>by have:=fx b1 0 ((am:Int)-1) V;rwa [QK E]at this
 have HZ:=a8 (λV (s:Bw W V)=>D5 (S:=S) f l s ((b8.fit (L:=5) (dr (n6 r m)).1 E O).keep (b6 (f.bw.trans (s.mono f.bw.size)) l) λ_ h=>.inl h));have an:=c.1;have ao:=c.2;clear c N O z y ah r j M;have aj:=j0.out W zS;have B:Bw W W.drew:=(Qg _ _).drew;clear f l hk C ag ai;unfold dZ;go_in;go_upto_region 1 with fail;rw[<- x];clear x;go_upto_region 40 with fail;refine Qz (S:=λi=>((Q5 i d (t+b1.toNat*5) q7 qc y2 za zl zc qa D ql))/\(Q5 i p q a0 a1 a2 aa al ac (b5 d t) am ae)/\(Q5 i p (q+5) b0 b1 b2 ba bl bc bd bm be)/\N5 i w.heap.size 25 Q R T q9 q6 q8 q5 qq) zK (j0 _ (HL _ B)) (λhHeld=>?_);generalize W.drew=X at *;have hX:=B;refine t4 0 1 2 3 ?_;refine t4 4 5 6 7 ?_;refine t2 8 9 ?_;refine ic 10 λK hK=>?_;go_simp;go_at_call 51;refine H (ab X) ?_;rintro e V ⟨rfl,rfl⟩;refine hK.out _ _ hHeld (λhHeld=>?_);clear hK K;refine tk 11 ?_;refine Xi zK ?_ _;go_simp;have g:Bw W V.drew:=hX.drew;go_upto_region 42 with fail;refine Qz (S:=λi=>((Q5 i d (t+b1.toNat*5) q7 qc y2 za zl zc qa D ql))/\(Q5 i p q a0 a1 a2 aa al ac (b5 d t) am ae)/\(Q5 i p (q+5) b0 b1 b2 ba bl bc bd bm be)/\N5 i w.heap.size 25 Q R T q9 q6 q8 q5 qq) zK (j0 _ (HL _ g)) (λhHeld=>?_);generalize V.drew=X2 at *;refine t4 0 1 2 3 ?_;refine t4 4 5 6 7 ?_;refine t2 8 9 ?_;have k:=HZ.out _ g;have⟨⟨r0,r1,r2,r3,r4⟩,f0,f1,f2,f3,f4⟩:=cI k.1;have HQ:=a8 k.2;have v:=a8 (af X2 q7 qc y2 za qa zl zc D ql g);clear k HZ;refine qk 10 ?_ λhHeld=>?_;exact j0 _ v;clear v;refine tk 11 ?_;exact Ef
def qbI(a:V6)(s:ZB):Except Int V6:=match fU (F.q a) (cL a) s with|Y=>.error 6|Z y=>.ok y
def Ra(a:V6)(s:ZB):Except Int V6:=match fU (F.q a) (cL a) s with|Y=>.error 6|Z _=>.ok (Bl a s)
def Y2(n:Bd S w)(qa:Int)(qq:ZB)(q8:ZA)(qc yl ql:Nat)(jr:a7 w np nq=Z (Zt nm))(xi:np<w.heap.size)(ay:0<xl)(kc:Nat){f:V6}(q9:Ri S w p q 1 f a0 a1 a2 aa ad al ac am ae)(g:dB 6 f=true)(r:F.k f=5):dZ S w 21 qa qq (b5 np nq) q8 xl qc yl ql (A (b5 p q) 1 kc) (qbI f nm):=by
 have⟨R,Q⟩:=fk (qbI f nm);rw[<- Q];unfold qbI at Q;have⟨W,hW⟩:=iC w 21 qa qq (b5 np nq) q8 xl qc yl ql;have T:=hW.is;have jS:=q9.keep hW.bw n;have aj:=n p q9.1;have HS:G (∀V:Zw,(∀b,b<=w.heap.size->V.heap[b]?=W.heap[b]?)->(a7 V np nq=Z (Zt nm))/\(Q5 V p q a0 a1 a2 aa al ac ad am ae)/\N5 V w.heap.size 21 qa qq (b5 np nq) xl qc q8 yl ql):=λV hV=>by exact TY
 have HL:=a8 hW.low;have⟨ah,ag,ak,q7⟩:=sr g r;have l:=q9.2.2.2.2.2.2.2.2.2.1;have d:G (∀V,Bw W V->WU WV 88 #[A aa al ac,Zt nm] V λe y=>∃x,e=Zr (I U x)/\y=V/\((∃i,∃h:i<J (F.o f),x=(i:Int)/\R=.ok (fl 5 5 (F.o f)[i]))∨(x = -1/\R=.error 6))):=λV hV=>by
  have c:=hW.bw.trans (hV.mono hW.bw.size);refine H (sC nm (l.keep (b6 c n) zI) E) ?_;rintro e y ⟨⟨i,s,af,rfl⟩|⟨ai,rfl⟩,rfl⟩;·have⟨j2,m⟩:=CY g r (x:=nm) (k:=i) (by rw[Qp s,af]);exact⟨_,D,D,.inl ⟨i,j2,D,by rw[Q,m];exact Xc _ (Rc j2)⟩⟩
  .exact⟨_,D,D,.inr ⟨D,by rw[Q,py _ _ _ ai]⟩⟩
 have P:G (∀i (h:i<J (F.o f)) V,Bw W V->∃q5 q6 z B C M t O N v u,ad=b5 q5 q6/\am=J (F.o f)/\(Q5 V q5 (q6+i*5) z B C M O N t v u)/\V.heap[w.heap.size+1]?=Z d8/\gG S w (.ok (fl 5 5 (F.o f)[i])) (fT z B C M t O N v u 0) (dN V (w.heap.size+1) z B C M t O N v u)):=λi s V hV=>by have c:=hW.bw.trans (hV.mono hW.bw.size);have⟨q5,q6,z,B,C,M,t,O,N,v,u,j2,m,h3,h4,⟨e0,e1,e2,e3,e4⟩,hn⟩:=iq q9.2.2.2 n s;have⟨g1,g2⟩:=D5 (S:=S) hW n hV ((b8.fit (L:=5) (dr (n6 g s)).1 E hn).keep (b6 c n) λ_ h=>.inl h);exact⟨q5,q6,z,B,C,M,t,O,N,v,u,j2,h4,⟨kC c e0 m,kC c e1 m,kC c e2 m,kC c e3 m,kC c e4 m⟩,g1,g2⟩
 have j:=a8 (λV (hV:Bw W V)=>Gy (S:=S) hW hV 6);clear l ak q7 g r Q ah;have ao:=HS.out W zS;have j0:Bw W W.drew:=(Qg _ _).drew;clear hW n q9 jS aj;unfold dZ;go_in;go_upto_region 1 with fail;rw[<- T];clear T;go_upto_region 47 with fail;refine Qz (S:=λy=>(a7 y np nq=Z (Zt nm))/\(Q5 y p q a0 a1 a2 aa al ac ad am ae)/\N5 y w.heap.size 21 qa qq (b5 np nq) xl qc q8 yl ql) zK (HS _ (HL _ j0)) (λhHeld=>?_);generalize W.drew=X at *;have hX:=j0;refine t4 0 1 2 3 ?_;refine t4 4 5 6 7 ?_;refine ic 8 λK hK=>?_;go_simp;go_at_call 88;refine H (d X hX) ?_;rintro e V ⟨x,rfl,rfl,hx⟩;have HX:=a8 hx;refine hK.out _ _ hHeld (λhHeld=>?_);clear hK K hx;refine tk 9 ?_;refine Xi zK ?_ _;go_simp;rcases HX.out with ⟨i,s,rfl,o⟩|⟨rfl,o⟩;case inr=>subst o;have HZ:=a8 (j V hX);clear d;exact Pz
 obtain⟨q5,q6,z,B,C,M,t,O,N,v,u,rfl,ab,⟨e0,e1,e2,e3,e4⟩,hz,hq⟩:=P.out i s V hX;have ax:(i:Int)<(am:Int):=E;have aw:(0:Int)<=(i:Int):=E;have an:¬(i:Int)<0:=E;have⟨⟨r0,r1,r2,r3,r4⟩,f0,f1,f2,f3,f4⟩:=cI hz;obtain⟨-,⟨ap,aq,ar,au,av⟩,n0,n1,n2,n3,n4⟩:=hHeld;subst o;have HQ:=a8 hq;clear hz hq P HX d j ab;exact nX
def Y1(l:Bd S w)(ql:Int)(x2:ZB)(ya:ZA)(xc yl yc:Nat)(jr:a7 w np nq=Z (Zt nm))(xi:np<w.heap.size)(ar:0<xl)(kc:Nat){d:V6}(q7:Ri S w p q 1 d a0 a1 a2 aa ad al ac am ae)(z:dB 6 d=true)(y:F.k d=5):dZ S w 23 ql x2 (b5 np nq) ya xl xc yl yc (A (b5 p q) 1 kc) (Ra d nm):=by
 have⟨R,q6⟩:=fk (Ra d nm);rw[<- q6];unfold Ra at q6;have⟨W,hW⟩:=iC w 23 ql x2 (b5 np nq) ya xl xc yl yc;have j2:=hW.is;have jS:=q7.keep hW.bw l;have an:=l p q7.1;have ag:=fP l hW.bw.size;have q5:G (∀V:Zw,(∀b,b<=w.heap.size->V.heap[b]?=W.heap[b]?)->(a7 V np nq=Z (Zt nm))/\(Q5 V p q a0 a1 a2 aa al ac ad am ae)/\N5 V w.heap.size 23 ql x2 (b5 np nq) xl xc ya yl yc):=λV hV=>by exact TY
 have HL:=a8 hW.low;have af:=a8 hW.lowp;have⟨aj,ai,q8,qa⟩:=sr z y;have c:cR S w (F.q d) (A aa al ac):=q7.2.2.2.2.2.2.2.2.2.1;have g:dn S w (b8 S w 5) (F.o d) (A ad am ae):=q7.2.2.2.2.2.2.2.2.2.2.1;have qc:gQ (A aa al ac):=q7.2.2.2.2.2.2.2.2.2.2.2.1;have f:G (∀V,Bw W V->WU WV 88 #[A aa al ac,Zt nm] V λe j=>∃x,e=Zr (I U x)/\j=V/\((∃i,∃h:i<J (F.o d),x=(i:Int)/\R=.ok (Bl d nm))∨(x = -1/\R=.error 6))):=λV hV=>by
  have m:=hW.bw.trans (hV.mono hW.bw.size);refine H (sC nm (c.keep (b6 m l) zI) E) ?_;rintro e j ⟨⟨i,hi,ah,rfl⟩|⟨ak,rfl⟩,rfl⟩;·have⟨h1,h2⟩:=CY z y (x:=nm) (k:=i) (by rw[Qp hi,ah]);exact⟨_,D,D,.inl ⟨i,h1,D,by rw[q6,h2]⟩⟩
  .exact⟨_,D,D,.inr ⟨D,by rw[q6,py _ _ _ ak]⟩⟩
 have ab:G (∀V,Bw W V->WU WV 89 #[Uy a0 a1 a2 aa al ac ad am ae,Zt nm] V λe j0=>Bw W j0/\∃M N O P B T Q L C,e=Zr (Uy M N O P T Q B L C)/\j0.heap[w.heap.size+1]?=Z d8/\gG S w (.ok (Bl d nm)) (fT M N O P B T Q L C 0) (dN j0 (w.heap.size+1) M N O P B T Q L C)):=λV hV=>by
  have m:=hW.bw.trans (hV.mono hW.bw.size);have aq:=(Qe.1 hW.zero).1;have au:=hV.size;have⟨_,_,s,_⟩:=id c;have⟨_,_,u,_⟩:=id g;have s:al=J (F.q d):=by injection s
  have u:am=J (F.o d):=by injection u
  refine H (Ey a0 a1 a2 nm (c.keep (b6 m l) zI) (g.keepN (b6 m l) zI) (fP l E) s.symm u.symm E E q8) ?_;rintro e j0 ⟨h5,c0,c1,c2,c3,c4,rfl,hn⟩;obtain⟨M,N,O,P,T,Q,B,L,C,rfl,rfl,rfl,rfl,rfl⟩:=hn.shape;have⟨g1,g2⟩:=D5 (S:=S) (t:=Bl d nm) hW l (hV.trans (h5.mono E)) (hn.keep ik λb hb=>hb.imp id zE);exact⟨hV.trans (h5.mono E),M,N,O,P,B,T,Q,L,C,D,g1,g2⟩
 have n:=a8 (λV (hV:Bw W V)=>Gy (S:=S) hW hV 6);clear c g qc q8 qa z y q6 aj;have ap:=q5.out W zS;have qq:Bw W W.drew:=(Qg _ _).drew;clear hW l q7 jS ag an;unfold dZ;go_in;go_upto_region 1 with fail;rw[<- j2];clear j2;go_upto_region 47 with fail;refine Qz (S:=λj=>(a7 j np nq=Z (Zt nm))/\(Q5 j p q a0 a1 a2 aa al ac ad am ae)/\N5 j w.heap.size 23 ql x2 (b5 np nq) xl xc ya yl yc) zK (q5 _ (HL _ qq)) (λhHeld=>?_);generalize W.drew=X at *;have hX:=qq;refine t4 0 1 2 3 ?_;refine t4 4 5 6 7 ?_;refine ic 8 λK hK=>?_;go_simp;go_at_call 88;refine H (f X hX) ?_;rintro e V ⟨x,rfl,rfl,hx⟩;have HX:=a8 hx;refine hK.out _ _ hHeld (λhHeld=>?_);clear hK K hx;refine tk 9 ?_;refine Xi zK ?_ _;go_simp;rcases HX.out with ⟨i,hi,rfl,r⟩|⟨rfl,r⟩;case inr=>subst r;have HZ:=a8 (n V hX);clear f;exact Pz
 have ao:¬(i:Int)<0:=E;have o:Bw W V.drew:=hX.drew;subst r;obtain⟨-,-,n0,n1,n2,n3,n4⟩:=hHeld;clear HX f n;go_upto_region 52 with fail;refine Qz (S:=λj=>(a7 j np nq=Z (Zt nm))/\(Q5 j p q a0 a1 a2 aa al ac ad am ae)/\N5 j w.heap.size 23 ql x2 (b5 np nq) xl xc ya yl yc) zK (q5 _ (HL _ o)) (λhHeld=>?_);generalize V.drew=X2 at *;refine t4 0 1 2 3 ?_;refine t2 4 5 ?_;refine tk 6 ?_;refine ic 7 λK hK=>?_;go_simp;go_at_call 89;refine H (ab _ o) ?_;rintro e j0 ⟨v,M,N,O,P,B,T,Q,L,C,rfl,hz,hq⟩;have⟨⟨r0,r1,r2,r3,r4⟩,f0,f1,f2,f3,f4⟩:=cI hz;have HQ:=a8 hq;have q9:=a8 (af j0 M N O P B T Q L C v);refine hK.out _ _ (q5 _ (HL _ v)) (λhHeld=>?_);clear hK K hz hq v;refine qk 8 ?_ λhHeld=>?_;exact q5 _ q9;clear q9;refine tk 9 ?_;exact Ef
def Qa{t:V6}(ok:dB 6 t=true)(h:dn S w (b8 S w 5) (F.o t) v):dn S w (b8 S w 6) (cL t) v:=Qb _ h λ_ _ _ _ _ _ b a=>b8.fit (L:=5) (dr (pG ok b)).1 E a
def Y4(S:ZN)(w:Zw)(j:Bd S w)(x1:Int)(x2:ZB)(ya:ZA)(j2 xc yl yc:Nat)(i nq:Nat)(nm:ZB)(ah:a7 w i nq=Z (Zt nm))(ai:i<w.heap.size)(an:0<j2)(p q kc:Nat)(d tb:V6)(a0 y:Int)(z:ZB)(aa ad:ZA)(B ac m u:Nat)(b0 b1:Int)(b2:ZB)(ba bd:ZA)(bl bc bm be:Nat)(P:Ni S w p q 2 d tb a0 y z aa ad B ac m u b0 b1 b2 ba bd bl bc bm be)(j0:dB 6 d=true)(ak:F.k d=5)(l:nm.size<=8):dZ S w 22 x1 x2 (b5 i nq) ya j2 xc yl yc (A (b5 p q) 2 kc) (eu (F8 d nm tb)):=by
 have⟨W,f⟩:=iC w 22 x1 x2 (b5 i nq) ya j2 xc yl yc;have M:=f.is;have Q:=P.keep f.bw j;have aj:=j p P.1;have HS:G (∀V:Zw,(∀b,b<=w.heap.size->V.heap[b]?=W.heap[b]?)->(a7 V i nq=Z (Zt nm))/\(Q5 V p q a0 y z aa B ac ad m u)/\(Q5 V p (q+5) b0 b1 b2 ba bl bc bd bm be)/\N5 V w.heap.size 22 x1 x2 (b5 i nq) j2 xc ya yl yc):=λV n=>by have hc:=oK (n p E);have s:=Q.2.2.1;simp only[Q5,<- hc]at s;exact⟨(Ql (a:=⟨i,nq,Y⟩) (n i E)).trans (kC f.bw ah ai),s.1,s.2,cP ((n _ E).trans f.node)⟩
 have HL:=a8 f.low;have jV:=a8 f.lowp;have⟨ag,af,q7,k⟩:=sr j0 ak;have t:=P.2.2.2.1;have h:=t.2.2.2.2.2.2.1;have g:dn S w (b8 S w 5) (F.o d) (A ad m u):=t.2.2.2.2.2.2.2.1;have x:G (∀V,Bw W V->WU WV 87 #[Uy a0 y z aa B ac ad m u,Zt nm,Uy b0 b1 b2 ba bl bc bd bm be] V λe v=>Bw V v/\∃qa qq qc q8 q9 zl ql q6 q5,e=Zr (Uy qa qq qc q8 zl ql q9 q6 q5)/\WU WV 81 #[Uy qa qq qc q8 zl ql q9 q6 q5] v λe w2=>Bw W w2/\∃z0 z1 z2 ra sa rl rc sl sc c,e=fT z0 z1 z2 ra sa rl rc sl sc c/\w2.heap[w.heap.size+1]?=Z d8/\gG S w (eu (F8 d nm tb)) e (dN w2 (w.heap.size+1) z0 z1 z2 ra sa rl rc sl sc)):=λV n=>by
  have r:=f.bw.trans (n.mono f.bw.size);have ap:=(Qe.1 f.zero).1;have ar:=n.size;have⟨_,_,o,_⟩:=id h;have⟨_,_,N,_⟩:=id g;have o:B=J (F.q d):=by injection o
  have N:m=J (F.o d):=by injection N
  have an:J (cL d)=J (F.o d):=Qv ..;refine H (ED a0 y z (cL d) ad u m (h.keep (b6 r j) zI) ((Qa j0 g).keepN (b6 r j) zI) (P.2.2.2.2.keep (b6 r j) zI) (fP j E) o.symm E E E q7 l k) ?_;rintro e v ⟨C,c0,c1,c2,c3,c4,rfl,T⟩;obtain⟨qa,qq,qc,q8,zl,ql,q9,q6,q5,rfl,rfl,rfl,rfl,rfl⟩:=T.shape;have L:=n.trans (C.mono E);refine⟨C,qa,qq,qc,q8,q9,zl,ql,q6,q5,D,?_⟩;have aq:=C.size;refine H (lv (λb=>Ov S w.heap.size (Z (w.heap.size+1)) v b) (F8 d nm tb) _ _ _ _ _ v (T.keep ik λb hb=>hb.imp id zE) (Ov.lt j E)) ?_;intro e w2 hp;exact⟨L.trans (hp.1.mono E),f.pass j L hp⟩
 clear h g q7 k t ag l;have ao:=HS.out W zS;have O:Bw W W.drew:=(Qg _ _).drew;clear f j P Q aj;unfold dZ;go_in;go_upto_region 1 with fail;rw[<- M];clear M;go_upto_region 46 with fail;refine Qz (S:=λw'=>(a7 w' i nq=Z (Zt nm))/\(Q5 w' p q a0 y z aa B ac ad m u)/\(Q5 w' p (q+5) b0 b1 b2 ba bl bc bd bm be)/\N5 w' w.heap.size 22 x1 x2 (b5 i nq) j2 xc ya yl yc) zK (HS _ (HL _ O)) (λhHeld=>?_);generalize W.drew=X at *;have hX:=O;refine t4 0 1 2 3 ?_;refine t4 4 5 6 7 ?_;refine t2 8 9 ?_;refine ic 10 λK hK=>?_;go_simp;go_at_call 87;refine H (x _ hX) ?_;rintro e v ⟨T,qa,qq,qc,q8,q9,zl,ql,q6,q5,rfl,R⟩;have ab:=a8 R;have C:=hX.trans (T.mono hX.size);refine hK.out _ _ (HS _ (HL _ C)) (λhHeld=>?_);clear hK K T R x;refine ic 11 λK hK=>?_;go_simp;go_at_call 81;refine H ab ?_;exact S0
def Ap(s:ZB):Except Int V6:=match fy s.data.toList with|Z v=>.ok (⟨6,0,WT,[],[(⟨1,v,WT,[],[]⟩:F (T 4))]⟩:F (T 5))|Y=>.ok (fR 6 0 WT)
def RC(g:Bd S w)(M:Int)(N:ZB)(O R:ZA)(Q P q7 X:Nat)(kc:Nat){s:V6}(hk:Ri S w p q 1 s a0 a1 a2 aa ad al ac am ae)(n:(F.a s).size<=60):dZ S w 30 M N O R Q P q7 X (A (b5 p q) 1 kc) (Ap (F.a s)):=by
 have⟨W,d⟩:=iC w 30 M N O R Q P q7 X;have h:=d.is;have k:=hk.keep d.bw g;have K:=g p hk.1;have u:G (∀V:Zw,(∀b,b<=w.heap.size->V.heap[b]?=W.heap[b]?)->(Q5 V p q a0 a1 a2 aa al ac ad am ae)/\N5 V w.heap.size 30 M N O Q P R q7 X):=λV a=>by have hc:=oK (a p E);have l:=k.2.2.1;simp only[Q5,<- hc]at l;exact⟨l,cP ((a _ E).trans d.node)⟩
 have j0:=a8 d.low;have j:a2=F.a s:=MN;rw[<- j]at n ⊢;have C:a2.size<=3000:=E;have t:=a8 (G5 C W);have y:G (∀(v:Int)(V:Zw),fy a2.data.toList=Z v->Bw W V->(V.alloc (Zc #[I U 1,I U v,Zt ⟨#[]⟩,A Y 0 0,A Y 0 0] 31)).heap[w.heap.size+1]?=Z d8/\gG S w (Ap a2) (fT 6 0 ⟨#[]⟩ Y (b5 V.heap.size 0) 0 0 1 1 0) (dN (V.alloc (Zc #[I U 1,I U v,Zt ⟨#[]⟩,A Y 0 0,A Y 0 0] 31)) (w.heap.size+1) 6 0 ⟨#[]⟩ Y (b5 V.heap.size 0) 0 0 1 1)):=λv V c a=>by
  have z:=a.alloc a.size (Zc #[I U 1,I U v,Zt ⟨#[]⟩,A Y 0 0,A Y 0 0] 31);have ab:=(Qe.1 d.zero).1;have af:=a.size;have hx:=Qh V (Zc #[I U 1,I U v,Zt ⟨#[]⟩,A Y 0 0,A Y 0 0] 31);have⟨qq,qc,q8,ql,e4⟩:=cP hx;have L:Ap a2=.ok (⟨6,0,WT,[],[(⟨1,v,WT,[],[]⟩:F (T 4))]⟩:F (T 5)):=by unfold Ap;rw[c]
  rw[L];have o:=EW c;refine D5 d g z ⟨D,D,D,Q9 _,D,D,lz,⟨b5 V.heap.size 0,1,D,by show 1<=_;unfold WX;omega,λ_=>⟨V.heap.size,0,D,.inr ⟨E,dS,λe=>FZ⟩,λi hi=>?_⟩⟩,k8,⟨_,_,_,D,QD _⟩⟩;have B:i=0:=by have:i<1:=hi;omega
  subst B;exact⟨I U 1,I U v,Zt ⟨#[]⟩,A Y 0 0,A Y 0 0,qq,qc,q8,ql,e4,D,D,D,Q9 _,D,iX v o.1 o.2,lz,Fb,k8,k8⟩
 have f:G (∀V,fy a2.data.toList=Y->Bw W V->V.heap[w.heap.size+1]?=Z d8/\gG S w (Ap a2) (fT 6 0 ⟨#[]⟩ Y Y 0 0 0 0 0) (dN V (w.heap.size+1) 6 0 ⟨#[]⟩ Y Y 0 0 0 0)):=λV c a=>by
  have L:Ap a2=.ok (fR 6 0 WT):=by unfold Ap;rw[c]
  rw[L];exact D5 d g a (mm (iX 6 E E) D (Q9 _))
 clear j n;have x:=u.out W zS;clear d g hk k K;unfold dZ;go_in;go_upto_region 1 with fail;rw[<- h];clear h;obtain⟨⟨q9,q5,q6,j2,qa⟩,n0,n1,n2,n3,n4⟩:=x;go_wp2_with fail;refine H t ?_;rintro e V ⟨a,⟨v,c,rfl⟩|⟨c,v,rfl⟩⟩;·have⟨r,m⟩:=y.out v V c a;have⟨⟨r0,r1,r2,r3,r4⟩,f0,f1,f2,f3,f4⟩:=cI r;have HQ:=a8 m;clear r m t y f u j0 c a;exact nX
 .have⟨r,m⟩:=f.out V c a;have⟨⟨r0,r1,r2,r3,r4⟩,f0,f1,f2,f3,f4⟩:=cI r;have HQ:=a8 m;clear r m t y f u j0 c a;exact nX
def Ry(m:Bd S w)(q5:Int)(j0:ZB)(qa:ZA)(qc F:Nat){u:ZA}{x v:Nat}{y:List V6}(r:cR S w ns (A xa xl xc))(hk:dn S w (b8 S w 6) y (A u x v))(q:gQ (A u x v))(ac:J ns<=200)(L:∀s,s∈ns->s.size<=10000):dZ S w 24 q5 j0 xa qa xl xc qc F (A u x v) (eu (fd 5 0 WT ns y)):=by
 have⟨W,j⟩:=iC w 24 q5 j0 xa qa xl xc qc F;have o:=j.is;have⟨q0,q1,q2,q3,q4⟩:=cP j.node;obtain⟨n,qq⟩:∃n,J ns=n:=⟨_,D⟩;have Q:xl=n:=by have⟨_,_,he,_⟩:=id r;have:xl=J ns:=(by injection he);omega
 subst Q;have k:=eC W (Zc #[] 9);have⟨N,O,P⟩:=Ca (w':=W.alloc (Zc #[] 9)) qq r (λb q9=>(k.block b (Qn (m b q9) j.bw.size)).trans (j.bw.block b (m b q9)));have i:G (_/\_/\_):=⟨N,O,P⟩;have⟨q6,C,R,T,X⟩:=QY Tryz.info_strD;have f:G (_/\_/\_/\_):=⟨C,R,T,X⟩;have ab:=(Qe.1 j.zero).1;have q7:G (∀(g cap:Nat)(V:Zw),V.ownsRow W.heap.size 9 1 (A (b5 g 0) xl cap) xl (ns.map Zt)->(W.alloc (Zc #[] 9)).grownBy V (Z W.heap.size)->WU WV 81 #[Za #[I U 5,I U 0,Zt ⟨#[]⟩,A (b5 g 0) xl cap,A u x v]] V λe w2=>Bw W w2/\∃z0 z1 z2 ra sa rl rc sl sc c,e=fT z0 z1 z2 ra sa rl rc sl sc c/\w2.heap[w.heap.size+1]?=Z d8/\gG S w (eu (fd 5 0 WT ns y)) e (dN w2 (w.heap.size+1) z0 z1 z2 ra sa rl rc sl sc)):=λg cap V a d=>by
  have t:=k.grown d zS zS;have p:=j.bw.trans (t.mono E);have K:=cO a;have M:cR (λb=>Ov S w.heap.size (Z (w.heap.size+1)) V b) V ns (A (b5 g 0) xl cap):=go (l:=ns) (by rw[qq];exact a) E L λql B=>by have:=K ql B;exact .inr ⟨E,this.2,λe=>FZ⟩
  refine H (lv (λb=>Ov S w.heap.size (Z (w.heap.size+1)) V b) (fd 5 0 WT ns y) _ _ _ _ _ V ⟨D,D,D,Q9 _,D,D,M,(hk.keepN (b6 p m) zI).keepN ik λ_ h=>.inl h,⟨_,_,_,D,JB a⟩,q⟩ (Ov.lt m p.size)) ?_;·intro e w2 hp;exact⟨t.trans (hp.1.mono t.size),j.pass m t hp⟩
 have y3:=kC k q3 E;unfold dZ;go_in;go_upto_region 1 with fail;rw[<- o];clear o;go_wp2_with (at_builtin;refine pg _ D (.tmp 44) (.tmp 46) 23 D W.heap.size 9 q6 _ 1 16 underlying23 f.1 f.2.1 f.2.2.1 f.2.2.2 D zC W.heap.size D (Qh W _) E xa xl xc (ns.map Zt) D i.1 i.2.2 i.2.1 fA E (W.heap.size+1) zS ?_);intro g cap V a d aa q8;have z:=a8 (q7 g cap V a d);go_wp2_with fail;refine H z ?_;exact qbA
def rB {l:List (T m)} (V:J l=n) (h:dn S w (b8 S w m) l (A ao n c)) :
  ∃g:List Zv,J g=n*5/\(∀u∈g,u.oneCell'=true)/\(∀L,gw S w L->0<n->∃ad,ao=Z ad/\∀j u,g[j]?=Z u->L.cell? (ad.add j)=Z u) /\
   ∀j (h:j<J l),∃c0 c1 c2 c3 c4,(g[j*5]?=Z c0/\g[j*5+1]?=Z c1/\g[j*5+2]?=Z c2/\g[j*5+3]?=Z c3/\g[j*5+4]?=Z c4)/\b8 S w m l[j] c0 c1 c2 c3 c4:=by
 subst V;obtain⟨o,M,he,-,R⟩:=h;by_cases qh:l=[];·exact Ya
 have⟨b,off,Q,P,d⟩:=R qh;have y:ao=o:=S3;have f:∀j,j<J l*5->∃u,a7 w b (off+j)=Z u/\u.oneCell'=true:=λj hj=>by
  have⟨c0,c1,c2,c3,c4,q,r,s,t,x,K⟩:=d (j / 5) E;obtain⟨_,_,_,_,_,_,_,_,_,rfl,rfl,rfl,rfl,rfl⟩:=K.shape;have i:j % 5=0∨j % 5=1∨j % 5=2∨j % 5=3∨j % 5=4:=E;rcases i with i|i|i|i|i;·rw[show off+j=off+j / 5*5 by omega];exact⟨_,q,D⟩
  .rw[show off+j=off+j / 5*5+1 by omega];exact⟨_,r,D⟩
  .rw[show off+j=off+j / 5*5+2 by omega];exact⟨_,s,D⟩
  .rw[show off+j=off+j / 5*5+3 by omega];exact⟨_,t,D⟩
  .rw[show off+j=off+j / 5*5+4 by omega];exact⟨_,x,D⟩
 have N:∀j u,((Ua (J l*5)).map λj=>(a7 w b (off+j)).getD (A Y 0 0))[j]?=Z u->j<J l*5/\a7 w b (off+j)=Z u:=λj u hu=>by
  rw[Xg]at hu;by_cases hj:j<J l*5;·rw[ZG hj]at hu;obtain⟨v,k,-⟩:=f j hj;refine⟨hj,?_⟩;simp only[ZZ,k,Xm]at hu;rw[k];exact hu
  .rw[Xs zE]at hu;cases hu
 have e:∀j u,j<J l*5->a7 w b (off+j)=Z u->((Ua (J l*5)).map λj=>(a7 w b (off+j)).getD (A Y 0 0))[j]?=Z u:=λj u hj hu=>by rw[Xg,ZG hj];simp[hu]
 refine⟨(Ua (J l*5)).map λj=>(a7 w b (off+j)).getD (A Y 0 0),zS,λu hu=>?_,λL W _=>⟨⟨b,off,Y⟩,y.trans Q,λj u hu=>?_⟩,λj hj=>?_⟩;·have⟨j,hj,C⟩:=List.mem_iff_getElem.1 hu;have⟨B,z⟩:=N j u (by rw[Qp hj,C]);have⟨v,k,O⟩:=f j B;rw[z]at k;cases k;exact O
 .rw[XC];exact (W.cell (p:=⟨b,off+j,Y⟩) P).trans (N j u hu).2
 .have⟨c0,c1,c2,c3,c4,q,r,s,t,x,K⟩:=d j hj;exact⟨c0,c1,c2,c3,c4,⟨e _ _ E q,e _ _ E (by rw[<- ZX];exact r),e _ _ E (by rw[<- ZX];exact s),e _ _ E (by rw[<- ZX];exact t),e _ _ E (by rw[<- ZX];exact x)⟩,K⟩
def Ma {l:List (T m)} {j:Nat} (q:J l=n) (h:dn S w (b8 S w m) l (A ao n c)) (M:i<=j) (R:j<=n) :
  ∃b:List Zv,J b=(j-i)*5/\(∀u∈b,u.oneCell'=true)/\(∀p e,gw S w p->(j-i≠0->e=ao.map λx=>x.add (i*5))->0<j-i->∃ad,e=Z ad/\∀k u,b[k]?=Z u->p.cell? (ad.add k)=Z u) /\
   ∀k (h:k<J ((l.drop i).take (j-i))),∃c0 c1 c2 c3 c4,(b[k*5]?=Z c0/\b[k*5+1]?=Z c1/\b[k*5+2]?=Z c2/\b[k*5+3]?=Z c3/\b[k*5+4]?=Z c4)/\b8 S w m ((l.drop i).take (j-i))[k] c0 c1 c2 c3 c4:=by
 have⟨b,Q,z,B,C⟩:=rB q h;subst q;have o:J ((b.drop (i*5)).take ((j-i)*5))=(j-i)*5:=by rw[Xj,XZ];omega
 have f:∀k u,((b.drop (i*5)).take ((j-i)*5))[k]?=Z u->b[i*5+k]?=Z u:=λk u d=>by
  have g:k<(j-i)*5:=by have:=(QN.1 d).1;omega
  rw[Xz g,Z3]at d;exact d
 have a:∀k u,k<(j-i)*5->b[i*5+k]?=Z u->((b.drop (i*5)).take ((j-i)*5))[k]?=Z u:=λk u g d=>by rw[Xz g,Z3];exact d
 refine⟨(b.drop (i*5)).take ((j-i)*5),o,λu d=>z u (ZF (XW d)),λp e P K hp=>?_,λk g=>?_⟩;·obtain⟨ad,rfl,L⟩:=B p P E;refine⟨ad.add (i*5),K E,λk u d=>?_⟩;rw[Addr.add_add];exact L _ _ (f k u d)
 .have N:k<j-i:=by rw[Xj]at g;omega
  have⟨c0,c1,c2,c3,c4,⟨r,s,t,v,y⟩,O⟩:=C (i+k) E;refine⟨c0,c1,c2,c3,c4,⟨a _ _ E ?_,a _ _ E ?_,a _ _ E ?_,a _ _ E ?_,a _ _ E ?_⟩,?_⟩;·rw[show i*5+k*5=(i+k)*5 by omega];exact r
  .rw[show i*5+(k*5+1)=(i+k)*5+1 by omega];exact s
  .rw[show i*5+(k*5+2)=(i+k)*5+2 by omega];exact t
  .rw[show i*5+(k*5+3)=(i+k)*5+3 by omega];exact v
  .rw[show i*5+(k*5+4)=(i+k)*5+4 by omega];exact y
  .rw[WH,WJ];exact O
def Sb {l:List (T 5)} (f:Bd S w) (i:Bw w V) (x:w.heap.size<=M) (t:∀ b,o=Z b->b<M) (r:J l=n) (s:n<=20000) (a:V.ownsRow M 31 5 (A (b5 g 0) n cap) n xs)
  (v:∀k (h:k<J l),∃c0 c1 c2 c3 c4,(xs[k*5]?=Z c0/\xs[k*5+1]?=Z c1/\xs[k*5+2]?=Z c2/\xs[k*5+3]?=Z c3/\xs[k*5+4]?=Z c4)/\b8 S w 5 l[k] c0 c1 c2 c3 c4) :
  b8 (Ov S w.heap.size o V) V 6 (⟨4,0,WT,[],l⟩:F (T 5)) (I U 4) (I U 0) (Zt ⟨#[]⟩) (A Y 0 0) (A (b5 g 0) n cap):=by
 subst r;have u:=cO a;refine⟨D,D,D,Q9 _,D,D,lz,mq a s (λd c=>?_) (λj p=>?_),k8,oJ a⟩;·have:=u d c;exact .inr ⟨E,E,λe=>by have:=t _ e;omega⟩
 .have⟨c0,c1,c2,c3,c4,m,q⟩:=v j p;exact⟨c0,c1,c2,c3,c4,m,q.keep (b6 i f) λ_ h=>.inl h⟩
def EC(N:Bd S w){t:V6}(ht:b8 S w 6 t c0 c1 c2 c3 c4)(a b:Int)(hk:J (F.o t)<=119)(hx:(F.a t).size<=60)(hs:F.k t=2∨F.k t=4):WU WV 86 #[Za #[c0,c1,c2,c3,c4],I U a,I U b] w (gG S w (mV t a b)):=by
 obtain⟨s,z1,q,xa,xl,xc,j2,M,O,rfl,rfl,rfl,rfl,rfl⟩:=ht.shape;have vq:s=F.k t:=FH;have qu:q=F.a t:=by have:=ht.2.2.1;injection this
 have l:dn S w (b8 S w 5) (F.o t) (A j2 M O):=ht.2.2.2.2.2.2.2.1;have aa:M<=O:=by have⟨_,_,_,qq,hc⟩:=ht.2.2.2.2.2.2.2.2.2;cases qq;exact hc
 have zj:J (F.o t)=M:=by have⟨_,_,qq,_⟩:=id l;have:M=J (F.o t):=(by injection qq);omega
 have⟨W,hW⟩:=fk ((w.alloc (UA s z1 q xa xl xc j2 M O)).alloc d8);have o:Bw w W:=FF;have p:W.heap[w.heap.size+1]?=Z d8:=by have:=Qh (w.alloc (UA s z1 q xa xl xc j2 M O)) d8;rw[hW];simpa using this
 have y:W.heap[w.heap.size]?=Z (Zc (Uz s z1 q xa xl xc j2 M O) 31 (0,0)):=by rw[hW,Qf _ _ _ zS];exact Qh _ _
 have K:=(Qe.1 p).1;obtain⟨⟨k0,k1,k2,k3,k4⟩,-⟩:=cI y;have⟨⟨r0,r1,r2,r3,r4⟩,f0,f1,f2,f3,f4⟩:=cI p;have HE:G (gG S w (.error 3) (Zr (Zu #[Gd,I U 3])) (dN W (w.heap.size+1) 0 0 ⟨#[]⟩ Y Y 0 0 0 0)):=lL o E;obtain⟨n,hn⟩:∃n:Nat,(n:Int)=if F.k t=2 then ((F.a t).size:Int) else (J (F.o t):Int):=by
  by_cases h:F.k t=2;·exact⟨_,(Qm h).symm⟩
  .exact⟨_,(Qd h).symm⟩
 by_cases d:a<0∨b<a∨(n:Int)<b
 .have hp:mV t a b=.error 3:=by unfold mV;rw[<- hn,Qm d]
  rw[hp];have hg:a<0∨(¬a<0/\b<a)∨(¬a<0/\¬b<a/\(n:Int)<b):=E;clear ht l aa o p y K hp d hx hk;rcases hs with hs|hs;·obtain rfl:s=2:=E;rw[Qm hs,<- qu]at hn;obtain rfl:n=q.size:=E;exact Tv
  .obtain rfl:s=4:=E;rw[Qd E,zj]at hn;obtain rfl:n=M:=E;exact Tv
 .have ag:¬a<0/\¬b<a/\¬(n:Int)<b:=E;obtain⟨i,rfl⟩:∃i:Nat,a=(i:Int):=⟨a.toNat,E⟩;obtain⟨j,rfl⟩:∃j:Nat,b=(j:Int):=⟨b.toNat,E⟩;obtain⟨h1,h2,h3⟩:=ag;have ac:i<=j:=E;have ae:j<=n:=E;rcases hs with hs|hs
  .obtain rfl:s=2:=E;have hp:mV t i j=.ok (fR 2 0 (q.extract i j)):=by unfold mV;rw[<- hn,Qd d,Qm hs,<- qu];rfl
   rw[hp];rw[Qm hs,<- qu]at hn;obtain rfl:n=q.size:=E;have ql:(q.extract i j).size<=WX:=by rw[<- qu]at hx;have:(q.extract i j).size<=q.size:=gE;exact fA
   have HF:G (gG S w (.ok (fR 2 0 (q.extract i j))) (fT 2 0 (q.extract i j) Y Y 0 0 0 0 0) (dN W (w.heap.size+1) 2 0 (q.extract i j) Y Y 0 0 0 0)):=km N o E (mm D D ql);clear ht l aa o p y K hp d hx hk hs vq qu hn zj ql HE N;go_in;go_upto_region 1 with fail;rw[<- hW];clear hW;exact sj
  .obtain rfl:s=4:=E;have hp:mV t i j=.ok (⟨4,0,WT,[],((F.o t).drop i).take (j-i)⟩:F (T 5)):=by unfold mV;rw[<- hn,Qd d,Qd E];rfl
   rw[hp];rw[Qd E,zj]at hn;obtain rfl:n=M:=E;have v:=eC W (Zc #[] 31);have y4:=kC v k4 E;have⟨q6,L,R,X,q7⟩:=Ma zj l ac ae;have r:G (J q6=(j-i)*5/\(∀u∈q6,u.oneCell'=true)/\∀C,(j-i≠0->C=j2.map λx=>x.add (i*5))->0<j-i->∃ad,C=Z ad/\∀k u,q6[k]?=Z u->(W.alloc (Zc #[] 31)).cell? (ad.add k)=Z u):=⟨L,R,λC ha hp=>X _ C (λb hb=>(v.block b (Qn (N b hb) E)).trans (o.block b (N b hb))) ha hp⟩;have z:J (((F.o t).drop i).take (j-i))=j-i:=by rw[Xj,XZ];omega
   have HF:G (∀(g cap:Nat)(V:Zw),V.ownsRow W.heap.size 31 5 (A (Z ⟨g,0,Y⟩) (j-i) cap) (j-i) q6->(W.alloc (Zc #[] 31)).grownBy V (Z W.heap.size)->V.heap[w.heap.size+1]?=Z d8/\gG S w (.ok (⟨4,0,WT,[],((F.o t).drop i).take (j-i)⟩:F (T 5))) (fT 4 0 ⟨#[]⟩ Y (Z ⟨g,0,Y⟩) 0 0 (j-i) cap 0) (dN V (w.heap.size+1) 4 0 ⟨#[]⟩ Y (Z ⟨g,0,Y⟩) 0 0 (j-i) cap)):=λg cap V f c=>by have hV:Bw W V:=v.grown c zS zS;have qa:=o.trans (hV.mono E);exact⟨dy p hV,km N qa E (Sb N qa o.size zE z E f q7)⟩
   have⟨ab,Q,j0,q9,q5⟩:=QY Tryz.info_treeX;have m:G (_/\_/\_/\_):=⟨Q,j0,q9,q5⟩;have am:(j:Int)<=(n:Int):=E;have ak:(j:Int)<=(O:Int):=E;by_cases qc:i=j
   .subst qc;have ah:q6=[]:=Qj (by rw[L];simp);subst ah;rw[WO]at HF ⊢;rw[WB]at HF ⊢;clear ht l o p y K hp d hx hs vq qu hn zj HE N L R X q7 Q j0 q9 q5 v z r;go_in;go_upto_region 1 with fail;rw[<- hW];clear hW;go_wp2_with (at_builtin;refine pg _ D (.tmp 40) (.tmp 45) 29 D W.heap.size 31 ab _ 5 80 underlying29 m.1 m.2.1 m.2.2.1 m.2.2.2 D zC W.heap.size D (Qh W _) E _ 0 _ [] D D E zS fA E (W.heap.size+1) zS ?_);all_goals
     intro g cap V f c P B
     have⟨hz,q8⟩:=HF.out g cap V f c
     have⟨⟨r0,r1,r2,r3,r4⟩,f0,f1,f2,f3,f4⟩:=cI hz
     have HQ:=a8 q8
     clear hz q8 f c P B m HF
     exact nX
   have al:i<j:=E;have af:n<=119:=E;obtain⟨yb,yo,rfl⟩:∃yb yo,j2=Z ⟨yb,yo,Y⟩:=by
    obtain⟨ao,cap,qq,-,hc⟩:=id l;obtain⟨b,off,rfl,-⟩:=hc (λe=>by rw[e]at zj;simp at zj;omega);cases qq
    exact zS
   have aj:¬O=i:=E;have ai:¬O-i=0:=E;clear ht l o p y K hp d hx hs vq qu hn zj HE N L R X q7 Q j0 q9 q5 v z;go_in;go_upto_region 1 with fail;rw[<- hW];clear hW;go_wp2_with (at_builtin;refine pg _ D (.tmp 40) (.tmp 45) 29 D W.heap.size 31 ab _ 5 80 underlying29 m.1 m.2.1 m.2.2.1 m.2.2.2 D zC W.heap.size D (Qh W _) E _ (j-i) _ q6 D r.1 (r.2.2 _ (λh=>by first|rfl|simp[XC])) r.2.1 fA E (W.heap.size+1) zS ?_);intro g cap V f c P B;have⟨hz,q8⟩:=HF.out g cap V f c;have⟨⟨r0,r1,r2,r3,r4⟩,f0,f1,f2,f3,f4⟩:=cI hz;have HQ:=a8 q8;clear hz q8 f c P B r m HF;exact nX
def RB(i:Bd S w)(s:Int)(t:ZB)(u y:ZA)(x v B z:Nat)(kc:Nat){g P Q:V6}{c0 c1:Int}{c2:ZB}{ca cd:ZA}{M C N L:Nat}(hk:Kx3 S w p q 3 g P Q a0 a1 a2 aa ad al ac am ae b0 b1 b2 ba bd bl bc bm be c0 c1 c2 ca cd M C N L)(n:J (F.o g)<=119)(o:(F.a g).size<=60)(R:F.k g=2∨F.k g=4):dZ S w 28 s t u y x v B z (A (b5 p q) 3 kc) (mV g (F.n P) (F.n Q)):=by
 have⟨W,a⟩:=iC w 28 s t u y x v B z;have j:=a.is;have d:=hk.keep a.bw i;have O:=i p hk.1;have HS:G (∀V:Zw,(∀b,b<=w.heap.size->V.heap[b]?=W.heap[b]?)->(Q5 V p q a0 a1 a2 aa al ac ad am ae)/\(Q5 V p (q+5) b0 b1 b2 ba bl bc bd bm be)/\(Q5 V p (q+10) c0 c1 c2 ca M C cd N L)/\N5 V w.heap.size 28 s t u x v y B z):=λV f=>by have hc:=oK (f p E);simp only[Q5,hc];exact⟨d.2.2.1.1,d.2.2.1.2.1,d.2.2.1.2.2,cP ((f _ E).trans a.node)⟩
 have HL:=a8 a.low;have jV:=a8 a.lowp;have k:b1=F.n P:=by have:=hk.2.2.2.2.1.2.1;injection this
 have m:c1=F.n Q:=PE;rw[<- k,<- m];clear k m;have T:G (∀V,Bw W V->WU WV 86 #[Uy a0 a1 a2 aa al ac ad am ae,I U b1,I U c1] V λe w2=>Bw W w2/\∃z0 z1 z2 ra sa rl rc sl sc c,e=fT z0 z1 z2 ra sa rl rc sl sc c/\w2.heap[w.heap.size+1]?=Z d8/\gG S w (mV g b1 c1) e (dN w2 (w.heap.size+1) z0 z1 z2 ra sa rl rc sl sc)):=λV f=>by refine (EC (Ov.lt i (a.bw.trans (f.mono a.bw.size)).size) ((hk.2.2.2.1.keep (b6 (a.bw.trans (f.mono a.bw.size)) i) zI).keep ik λ_ h=>.inl h) b1 c1 n o R).mono λe w2 hp=>⟨f.trans (hp.1.mono f.size),a.pass i f hp⟩
 clear n o R;have⟨⟨q7,j0,q9,q5,q6⟩,⟨j2,qa,qq,qc,q8⟩,⟨ql,ab,af,ag,ah⟩,n0,n1,n2,n3,n4⟩:=HS.out W zS;have l:Bw W W.drew:=(Qg _ _).drew;clear a i hk d O;unfold dZ;go_in;go_upto_region 1 with fail;rw[<- j];clear j;go_upto_region 38 with fail;refine Qz (S:=λr=>(Q5 r p q a0 a1 a2 aa al ac ad am ae)/\(Q5 r p (q+5) b0 b1 b2 ba bl bc bd bm be)/\(Q5 r p (q+10) c0 c1 c2 ca M C cd N L)/\N5 r w.heap.size 28 s t u x v y B z) zK (HS _ (HL _ l)) (λhHeld=>?_);generalize W.drew=X at *;have hX:=l;refine t4 0 1 2 3 ?_;refine t4 4 5 6 7 ?_;refine t2 8 9 ?_;refine tk 10 ?_;refine ic 11 λK hK=>?_;go_simp;go_at_call 86;refine H (T _ hX) ?_;exact S0
def O9 (M:W9) {base:Nat} {e:W9} {i:TypeInfo} {z:Zv} {size a:Nat} (L:P.underlying t=Z (.slice e)) (C:P.info? e=Z i) (ql:i.zero=Z z)
  (l:i.size=size) (r:i.bytes=a) (B:z.cells.size=size) (v:0<size) {g0 c0:Nat} (b:w.ownsRow base e size (A (b5 g0 0) n c0) n xs)
  (c:Nat) {news:List Zv} (hl:J news=m*size) (k:0<m->∃ad,ao=Z ad/\∀j u,news[j]?=Z u->w.cell? (ad.add j)=Z u) (O:∀u∈news,u.oneCell'=true)
  (q:n+m<=WX) (d:(n+m)*a<=140737488355328) (f:base<=w.heap.size) :
  ∃g cap o,(Builtin.append_ #[t,t] M #[A (b5 g0 0) n c0,A ao m c]).run P w=.ok (A (b5 g 0) (n+m) cap) o /\
   o.ownsRow base e size (A (b5 g 0) (n+m) cap) (n+m) (xs++news)/\w.grownBy o (Z g0)/\(g=g0∨g=w.heap.size)/\g<o.heap.size:=by
 rcases Xa m with rfl|K
 .have qc:news=[]:=Qj pd;subst qc;have W:n<=c0:=by
   rcases b.2 with ⟨y,F⟩|⟨g,cap,N,y,V,qa,s,X,p,x⟩;·cases y
   .cases y;exact s
  refine⟨g0,c0,w,?_,by rw[XF];exact b,⟨D,D,D,E,zS⟩,E,(cO b g0 D).2⟩;cases ao<;>simp[Builtin.append_,run_underlying L,sizeOf,typeInfo,C,Builtin.lenOf,Builtin.firstCells,loadCells,loadCellsFrom,storeCells,W]
 .obtain⟨ad,rfl,p⟩:=k K;have⟨g,cap,o,qq,Q,R,S,T⟩:=run_append_lies (P:=P) w t M base e i z size a L C ql l r B v (A (b5 g0 0) n c0) n xs b ad m c news hl p O K q d f w.heap.size D;refine⟨g,cap,o,qq,Q,R,S.imp (λh=>?_) id,T⟩;simpa [Value.ownBlock] using h.symm
def Mk (w:Zw) {r:Array Oper} {o:Oper} {a:Act} {K:Act->Zw->Prop} {Q:Exit->Act->Zw->Prop} {v:Prop} (C:o.guard=Y) (s x:Operand) (t:W9)
  (qa:o.op=.call { callee:=.builtin .append,args:=#[s,x],argTypes:=#[t,t] })
  (base:Nat) (e:W9) (i:TypeInfo) (z:Zv) (size b:Nat) (E:P.underlying t=Z (.slice e)) (W:P.info? e=Z i) (D:i.zero=Z z)
  (l:i.size=size) (B:i.bytes=b) (M:z.cells.size=size) (L:0<size) (g0 n c0:Nat) (xs:List Zv) (qc:a.eval s=A (b5 g0 0) n c0) (q:w.ownsRow base e size (A (b5 g0 0) n c0) n xs)
  (N:ZA) (m c:Nat) (news:List Zv) (qq:a.eval x=A N m c) (X:J news=m*size) (k:0<m->∃ad,N=Z ad/\∀j u,news[j]?=Z u->w.cell? (ad.add j)=Z u) (O:∀u∈news,u.oneCell'=true)
  (y:n+m<=WX) (d:(n+m)*b<=140737488355328) (f:base<=w.heap.size)
  (h:∀g cap p,p.ownsRow base e size (A (b5 g 0) (n+m) cap) (n+m) (xs++news)->w.grownBy p (Z g0)->(g=g0∨g=w.heap.size)->g<p.heap.size->K (a.put o.dst (A (b5 g 0) (n+m) cap)) p) :
  if Region.wanted o (yielded r a.tmps)=true then Oper.wp P o a w K Q else v:=by
 have F:Region.wanted o (yielded r a.tmps)=true:=by simp[Region.wanted,C]
 rw[Qm F];have⟨g,cap,p,ql,R,S,T,V⟩:=O9 (P:=P) o.type E W D l B M L q c X k O y d f;unfold Oper.wp execOp;simp only[qa,resolve,invoke,builtin,Sem.run_bind,Sem.run_pure,WI,WN,Xx,Z8,qc,qq,ql];exact h g cap p R S T V
def O8 {la lb:List (T 6)} {a b:List Zv} (p:J a=J la*5)
  (m:∀k (h:k<J la),∃c0 c1 c2 c3 c4,(a[k*5]?=Z c0/\a[k*5+1]?=Z c1/\a[k*5+2]?=Z c2/\a[k*5+3]?=Z c3/\a[k*5+4]?=Z c4)/\b8 S w 6 la[k] c0 c1 c2 c3 c4)
  (n:∀k (h:k<J lb),∃c0 c1 c2 c3 c4,(b[k*5]?=Z c0/\b[k*5+1]?=Z c1/\b[k*5+2]?=Z c2/\b[k*5+3]?=Z c3/\b[k*5+4]?=Z c4)/\b8 S w 6 lb[k] c0 c1 c2 c3 c4) :
  ∀k (h:k<J (la++lb)),∃c0 c1 c2 c3 c4,((a++b)[k*5]?=Z c0/\(a++b)[k*5+1]?=Z c1/\(a++b)[k*5+2]?=Z c2/\(a++b)[k*5+3]?=Z c3/\(a++b)[k*5+4]?=Z c4)/\b8 S w 6 (la++lb)[k] c0 c1 c2 c3 c4:=by
 intro k o;by_cases l:k<J la;·have⟨c0,c1,c2,c3,c4,⟨e,f,g,i,j⟩,d⟩:=m k l;refine⟨c0,c1,c2,c3,c4,⟨?_,?_,?_,?_,?_⟩,by rw[QS l];exact d⟩;all_goals (rw[QA E];assumption)
 .have c:k-J la<J lb:=by rw[Qi]at o;omega
  have⟨c0,c1,c2,c3,c4,⟨e,f,g,i,j⟩,d⟩:=n (k-J la) c;refine⟨c0,c1,c2,c3,c4,⟨?_,?_,?_,?_,?_⟩,by rw[List.getElem_append_right E];exact d⟩;·rw[Qu E,show k*5-J a=(k-J la)*5 by omega];exact e
  .rw[Qu E,show k*5+1-J a=(k-J la)*5+1 by omega];exact f
  .rw[Qu E,show k*5+2-J a=(k-J la)*5+2 by omega];exact g
  .rw[Qu E,show k*5+3-J a=(k-J la)*5+3 by omega];exact i
  .rw[Qu E,show k*5+4-J a=(k-J la)*5+4 by omega];exact j
def Rz(S:ZN)(w:Zw)(z:Bd S w)(x1:Int)(x2:ZB)(xa ya:ZA)(xl xc yl yc:Nat)(p q kc:Nat)(i r:V6)(a0 a1:Int)(x:ZB)(aa ad:ZA)(al ac f qc:Nat)(b0 b1:Int)(y:ZB)(ba q9:ZA)(bl bc l q8:Nat)(hk:Ni S w p q 2 i r a0 a1 x aa ad al ac f qc b0 b1 y ba q9 bl bc l q8)(q7:dB 6 i=true)(j0:dB 6 r=true)(aQ:(F.a i).size<=60)(aR:(F.a r).size<=60):dZ S w 27 x1 x2 xa ya xl xc yl yc (A (b5 p q) 2 kc) (eu (fd (F.k i) 0 (F.a i++F.a r) [] (cL i++cL r))):=by
 have⟨W,hW⟩:=iC w 27 x1 x2 xa ya xl xc yl yc;have ab:=hW.is;have jS:=hk.keep hW.bw z;have aO:=z p hk.1;have aH:=fP z hW.bw.size;have C:G (∀V:Zw,(∀b,b<=w.heap.size->V.heap[b]?=W.heap[b]?)->(Q5 V p q a0 a1 x aa al ac ad f qc)/\(Q5 V p (q+5) b0 b1 y ba bl bc q9 l q8)/\N5 V w.heap.size 27 x1 x2 xa xl xc ya yl yc):=λV hV=>by exact Yb
 have qq:=a8 hW.low;have aF:=a8 hW.lowp;have P:x=F.a i:=by have:=hk.2.2.2.1.2.2.1;injection this
 have m:y=F.a r:=PE;have af:f=J (F.o i):=Pr;have aj:l=J (F.o r):=by have⟨_,_,h4,_⟩:=hk.2.2.2.2.2.2.2.2.2.2.2.1;injection h4
 have O:a0=F.k i:=by have:=hk.2.2.2.1.1;injection this
 have ap:=Qa q7 (hk.2.2.2.1.2.2.2.2.2.2.2.1:dn S w (b8 S w 5) (F.o i) (A ad f qc));have aq:=Qa j0 (hk.2.2.2.2.2.2.2.2.2.2.2.1:dn S w (b8 S w 5) (F.o r) (A q9 l q8));have B:J (cL i)=f:=by rw[af];exact Qv ..
 have Q:J (cL r)=l:=by rw[aj];exact Qv ..
 have aI:f<=119:=by have:=mj q7;omega
 have aK:l<=119:=by have:=mj j0;omega
 have⟨j2,T,ay,az,aA⟩:=rB B ap;have⟨ys,au,av,aw,ax⟩:=rB Q aq;rw[<- O,<- P,<- m];have L:G (J j2=f*5/\(∀u∈j2,u.oneCell'=true)/\∀V,Bw W V->0<f->∃o,ad=Z o/\∀k u,j2[k]?=Z u->V.cell? (o.add k)=Z u):=⟨T,ay,λV hV hp=>az V (b6 (hW.bw.trans (hV.mono hW.bw.size)) z) hp⟩;have M:G (J ys=l*5/\(∀u∈ys,u.oneCell'=true)/\∀V,Bw W V->0<l->∃o,q9=Z o/\∀k u,ys[k]?=Z u->V.cell? (o.add k)=Z u):=⟨au,av,λV hV hp=>aw V (b6 (hW.bw.trans (hV.mono hW.bw.size)) z) hp⟩;have v:(x++y).size<=120:=by rw[Q3,P,m];omega
 have aT:¬9223372036854775807<x.size+y.size:=by rw[Q3]at v;omega
 have aN:=(Qe.1 hW.zero).1;have HM:G (∀(g cap:Nat)(V:Zw),V.ownsRow W.heap.size 31 5 (A (b5 g 0) (f+l) cap) (f+l) (j2++ys)->Bw W V->WU WV 81 #[Uy a0 0 (x++y) Y 0 0 (b5 g 0) (f+l) cap] V λe q6=>Bw W q6/\∃z0 z1 z2 ra sa rl rc sl sc c,e=fT z0 z1 z2 ra sa rl rc sl sc c/\q6.heap[w.heap.size+1]?=Z d8/\gG S w (eu (fd a0 0 (x++y) [] (cL i++cL r))) e (dN q6 (w.heap.size+1) z0 z1 z2 ra sa rl rc sl sc)):=λg cap V a hV=>by
  have ah:=hW.bw.trans (hV.mono E);have aP:=cO a;have aM:J (cL i++cL r)=f+l:=by rw[Qi,B,Q]
  have R:=O8 (S:=S) (w:=w) (la:=cL i) (lb:=cL r) (by rw[B];exact T) aA ax;have ar:dn (λb=>Ov S w.heap.size (Z (w.heap.size+1)) V b) V (b8 (λb=>Ov S w.heap.size (Z (w.heap.size+1)) V b) V 6) (cL i++cL r) (A (b5 g 0) (f+l) cap):=mq (by rw[aM];exact a) E (λg' aL=>by
   have:=aP g' aL
   exact .inr ⟨E,this.2,λe=>FZ⟩) λj hj=>by
   have⟨c0,c1,c2,c3,c4,hc,hn⟩:=R j hj
   exact⟨c0,c1,c2,c3,c4,hc,hn.keep (b6 ah z) λ_ h=>.inl h⟩
  have aS:(Lit.int U a0).wf=true:=hk.2.2.2.1.2.2.2.2.1 |> λh=>by rw[O];exact h
  refine H (lv (λb=>Ov S w.heap.size (Z (w.heap.size+1)) V b) (fd a0 0 (x++y) [] (cL i++cL r)) _ _ _ _ _ V ⟨D,D,D,Q1 (show (x++y).size<=120 from v) zL,aS,D,lz,ar,k8,oJ a⟩ (Ov.lt z ah.size)) ?_;intro e q6 hp;exact⟨hV.trans (hp.1.mono hV.size),hW.pass z hV hp⟩
 have⟨aE,ak,aB,aC,aD⟩:=QY Tryz.info_treeX;have d:G (_/\_/\_/\_):=⟨ak,aB,aC,aD⟩;clear ak aB aC aD ap aq T ay az aA au av aw ax O P m af aj B Q q7 j0 aQ aR v aN;have aU:=C.out W zS;have ai:Bw W W.drew:=(Qg _ _).drew;clear hW z hk jS aH aO;unfold dZ;go_in;go_upto_region 1 with fail;rw[<- ab];clear ab;go_upto_region 44 with fail;refine Qz (S:=λw'=>(Q5 w' p q a0 a1 x aa al ac ad f qc)/\(Q5 w' p (q+5) b0 b1 y ba bl bc q9 l q8)/\N5 w' w.heap.size 27 x1 x2 xa xl xc ya yl yc) zK (C _ (qq _ ai)) (λhHeld=>?_);generalize W.drew=X at *;have hX:=ai;refine t4 0 1 2 3 ?_;refine t4 4 5 6 7 ?_;refine t4 8 9 10 11 ?_;refine t4 12 14 15 16 ?_;refine t4 17 19 20 21 ?_;refine tk 22 ?_;refine ic 13 λK hK=>?_;go_simp;have q5:=hX.alloc hX.size (Zc #[] 31);have zX:=hX.size;refine hK.out _ _ (C _ (qq _ q5)) (λhHeld=>?_);clear hK K;obtain⟨V1,N⟩:∃V,V=X.alloc (Zc #[] 31):=⟨_,D⟩;rw[<- N]at q5 hHeld ⊢;have eE:V1.heap[X.heap.size]?=Z (Zc #[] 31 (0,0)):=by rw[N];exact Qh _ _
 clear N;refine ic 18 λK hK=>?_;refine kX V1 cU (.tmp 217) (.tmp 221) 29 cU W.heap.size 31 aE _ 5 80 underlying29 d.1 d.2.1 d.2.2.1 d.2.2.2 D zC X.heap.size cU eE zX ad f qc j2 cU L.1 (L.2.2 _ q5) L.2.1 zL E V1.heap.size D ?_;intro g cap V2 a s aJ an;have h2:Bw W V2:=q5.grown s q5.size zE;have aV:W.heap.size<=g:=by have:=q5.size;omega
 refine hK.out _ _ (C _ (qq _ h2)) (λhHeld=>?_);clear hK K s aJ an eE;refine ic 23 λK hK=>?_;refine Mk V2 cU (.tmp 222) (.tmp 226) 29 cU W.heap.size 31 aE _ 5 80 underlying29 d.1 d.2.1 d.2.2.1 d.2.2.2 D zC g f cap j2 cU a q9 l q8 ys cU M.1 (M.2.2 _ h2) M.2.1 zL E h2.size ?_;intro g2 ql V3 t n ag ao;have h3:Bw W V3:=h2.grown n h2.size zE;have aG:=a8 (HM g2 ql V3 t h3);refine hK.out _ _ (C _ (qq _ h3)) (λhHeld=>?_);clear hK K n ag ao a t HM;refine tk 24 ?_;refine ic 25 λK hK=>?_;go_simp;go_at_call 81;refine H aG ?_;intro e q6 hp;obtain⟨m,z0,z1,z2,ra,sa,rl,rc,sl,sc,c,rfl,hz,hq⟩:=hp;have⟨⟨r0,r1,r2,r3,r4⟩,f0,f1,f2,f3,f4⟩:=cI hz;have HQ:=a8 hq;have qa:=a8 (aF q6 z0 z1 z2 ra sa rl rc sl sc m);refine hK.out _ _ (C _ (qq _ m)) (λhHeld=>?_);clear hK K hz hq m;refine t2 26 27 ?_;refine qk 28 ?_ λhHeld=>?_;exact C _ qa;clear qa;refine tk 29 ?_;exact Ef
def sR{t:V6}(h:dB 6 t=true):(F.a t).size<=60:=by
 have a:=(dY (dr h).1).2.1;unfold cM at a;repeat' split at a
 all_goals first
  | (cases a;done)
  | (simp only[Qc,eW,Qk]at a;exact E)
  | (simp only[Qc]at a;rw[xo a.1.1.2];exact Q9 _)
def Bs(op:Int):Bool:=decide (op=1∨op=2∨op=3∨op=5∨op=6∨op=7∨op=8∨(9<=op/\op<=15)∨op=18∨(21<=op/\op<=30))
def Db (n:Bd S w) {t:T (m+1)} (ht:b8 S w (m+1) t c0 c1 c2 c3 c4) (hv:IP t) {V:List V6} (j:dn S w (b8 S w 6) V kv) (R:gQ kv) (g:∀ k,k∈V->dB 6 k=true) (ab:J V=J (F.o t)) (af:Bs (F.k t)=true) (X:F.k t=24->J (F.q t)<=200/\∀ s,s∈F.q t->s.size<=10000)
  (o:∀i (h:i<J V),dV (F.k t) i (F.k V[i]) (F.k (V.headD dU))=true) :
  WU WV 56 #[Za #[c0,c1,c2,c3,c4],kv] w (gG S w (e8 (F.k t) (F.n t) (F.a t) (F.q t) V)):=by
 obtain⟨x0,x,y,C,B,z,r,v,u,rfl,rfl,rfl,rfl,rfl⟩:=ht.shape;obtain⟨qq,qc,rfl,ah,-⟩:=id j;have h0:x0=F.k t:=FH;have h1:x=F.n t:=by have:=ht.2.1;injection this
 have h2:y=F.a t:=by have:=ht.2.2.1;injection this
 have qa:y.size<=WX:=by rw[h2];exact ht.2.2.2.1
 have j2:(Lit.int U x).wf=true:=by rw[h1];exact ht.2.2.2.2.2.1
 have q6:=ht.2.2.2.2.2.2.1;have f:F.k t≠24->J V=J (mD (F.k t).toNat):=λh=>ab.trans (hv.cnt h);rw[<- h1,<- h2];have ai:=hv.lo;have q5:∀a,F.q t=[a]->∃q8 nq,C=b5 q8 nq/\a7 w q8 nq=Z (Zt a)/\q8<w.heap.size/\0<B:=λa ha=>by
  rw[ha]at q6;obtain⟨ao,cap,he,-,-,hc⟩:=q6;obtain⟨b,off,rfl,hb,q9⟩:=hc zS;cases he
  exact⟨b,off,D,by simpa using q9 0 zS,n b hb,dS⟩
 have ag:=XI af;have hc:F.k t=1∨F.k t=2∨F.k t=3∨F.k t=5∨F.k t=6∨F.k t=7∨F.k t=8∨F.k t=9∨F.k t=10∨F.k t=11∨F.k t=12∨F.k t=13∨F.k t=14∨F.k t=15∨F.k t=18∨F.k t=21∨F.k t=22∨F.k t=23∨F.k t=24∨F.k t=25∨F.k t=26∨F.k t=27∨F.k t=28∨F.k t=29∨F.k t=30:=E;subst h0;rcases hc with e|e|e|e|e|e|e|e|e|e|e|e|e|e|e|e|e|e|e|e|e|e|e|e|e;all_goals rw[e]at o f ⊢
 .exact CR n 1 C r B z v u qq _ qc E j2 qa
 .exact CR n 2 C r B z v u qq _ qc E j2 qa
 .exact CR n 3 C r B z v u qq _ qc E j2 qa
 .exact I0 n 5 x y C r B z v u qq _ qc 6 E
 .exact I0 n 6 x y C r B z v u qq _ qc 4 E
 .exact IZ S w n 7 x y C r B z v u qq qc _ V j R 6 E
 .exact IZ S w n 8 x y C r B z v u qq qc _ V j R 4 E
 iterate 5
  .obtain⟨a,b,rfl⟩:=n8 (f zC)
   have⟨p,q,l,a0,K,L,M,ad,P,N,Q,O,ql,b1,b2,ba,bd,bl,bc,bm,be,d,hK⟩:=tF j
   cases d
   exact RG n x y C r B z v u _ hK zS (lc (g a zS)) (lc (g b zS))
 .obtain⟨a,b,rfl⟩:=n8 (f zC);have⟨p,q,l,a0,K,L,M,ad,P,N,Q,O,ql,b1,b2,ba,bd,bl,bc,bm,be,d,hK⟩:=tF j;cases d
  exact RA n x y C r B z v u _ hK
 .obtain⟨a,b,rfl⟩:=n8 (f zC);have⟨p,q,l,a0,K,L,M,ad,P,N,Q,O,ql,b1,b2,ba,bd,bl,bc,bm,be,d,hK⟩:=tF j;cases d
  exact RD n x y C r B z v u _ hK (g a zS) (g b zS)
 .obtain⟨a,rfl⟩:=ry (f zC);have⟨p,q,l,a0,K,L,M,ad,P,N,Q,O,d,hK⟩:=tE j;cases d
  exact Y3 n x y C r B z v u _ hK
 .obtain⟨a,rfl⟩:=ry (f zC);have⟨p,q,l,a0,K,L,M,ad,P,N,Q,O,d,hK⟩:=tE j;cases d
  obtain⟨s,q7,-⟩:=hv.fld E;obtain⟨q8,nq,rfl,h3,h4,h5⟩:=q5 s q7;have j0:F.k a=5:=by simpa [dV] using o 0 zS
  rw[q7,Am];exact Y2 n x y r z v u h3 h4 h5 _ hK (g a zS) j0
 .obtain⟨a,b,rfl⟩:=n8 (f zC);have⟨p,q,l,a0,K,L,M,ad,P,N,Q,O,ql,b1,b2,ba,bd,bl,bc,bm,be,d,hK⟩:=tF j;cases d
  obtain⟨s,q7,h8,-⟩:=hv.fld E;obtain⟨q8,nq,rfl,h3,h4,h5⟩:=q5 s q7;have j0:F.k a=5:=by simpa [dV] using o 0 zS
  rw[q7];exact Y4 S w n x y r B z v u q8 nq s h3 h4 h5 p q _ a b _ _ _ _ _ _ _ _ _ _ _ _ _ _ _ _ _ _ hK (g a zS) j0 h8
 .obtain⟨a,rfl⟩:=ry (f zC);have⟨p,q,l,a0,K,L,M,ad,P,N,Q,O,d,hK⟩:=tE j;cases d
  obtain⟨s,q7,-⟩:=hv.fld E;obtain⟨q8,nq,rfl,h3,h4,h5⟩:=q5 s q7;have j0:F.k a=5:=by simpa [dV] using o 0 zS
  rw[q7,Al];exact Y1 n x y r z v u h3 h4 h5 _ hK (g a zS) j0
 .exact Ry n x y r v u q6 j R (X e).1 (X e).2
 .obtain⟨a,b,rfl⟩:=n8 (f zC);have⟨p,q,l,a0,K,L,M,ad,P,N,Q,O,ql,b1,b2,ba,bd,bl,bc,bm,be,d,hK⟩:=tF j;cases d
  show dZ S w 25 x y C r B z v u _ (if 0<=F.n b/\F.n b<J (F.o a) then .ok ((cL a).getD (F.n b).toNat dU) else .error 3);by_cases W:0<=F.n b/\F.n b<J (F.o a);·rw[Qm W];exact Ks n x y C r B z v u _ hK W (g a zS)
  .rw[Qd W];exact NH n x y C r B z v u _ hK W (Q1 (mj (g a zS)) E)
 .obtain⟨a,rfl⟩:=ry (f zC);have⟨p,q,l,a0,K,L,M,ad,P,N,Q,O,d,hK⟩:=tE j;cases d
  exact RF n x y C r B z v u _ hK (Q1 (mj (g a zS)) E) (sR (g a zS))
 .obtain⟨a,b,rfl⟩:=n8 (f zC);have⟨p,q,l,a0,K,L,M,ad,P,N,Q,O,ql,b1,b2,ba,bd,bl,bc,bm,be,d,hK⟩:=tF j;cases d
  exact Rz S w n x y C r B z v u p q _ a b _ _ _ _ _ _ _ _ _ _ _ _ _ _ _ _ _ _ hK (g a zS) (g b zS) (sR (g a zS)) (sR (g b zS))
 .obtain⟨a,b,c,rfl⟩:=Oo (f zC);have⟨p,q,l,a0,K,L,M,ad,P,N,Q,O,ql,b1,b2,ba,bd,bl,bc,bm,be,c0,c1,c2,ca,cd,cl,cc,cm,ce,d,hK⟩:=qaH j;cases d
  have j0:F.k a=2∨F.k a=4:=by have:=o 0 zS;simp[dV]at this;omega
  exact RB n x y C r B z v u _ hK (mj (g a zS)) (sR (g a zS)) j0
 .obtain⟨a,rfl⟩:=ry (f zC);have⟨p,q,l,a0,K,L,M,ad,P,N,Q,O,d,hK⟩:=tE j;cases d
  exact RE n x y C r B z v u _ hK (lc (g a zS))
 .obtain⟨a,rfl⟩:=ry (f zC);have⟨p,q,l,a0,K,L,M,ad,P,N,Q,O,d,hK⟩:=tE j;cases d
  exact RC n x y C r B z v u _ hK (sR (g a zS))
structure Ro(w W:Zw)(op x1:Int)(x2:ZB)(xa ya:ZA)(xl xc yl yc:Nat)(a0 a1:Int)(a2:ZB)(aa ad:ZA)(al ac am ae:Nat):Prop where
 is:W=((w.alloc (UB op x1 x2 xa xl xc ya yl yc)).alloc (UA a0 a1 a2 aa al ac ad am ae)).alloc d8
 bw:Bw w W
 zero:W.heap[w.heap.size+1+1]?=Z d8
 first:W.heap[w.heap.size+1]?=Z (Zc (Uz a0 a1 a2 aa al ac ad am ae) 31 (0,0))
 node:W.heap[w.heap.size]?=Z (Zc (Uz op x1 x2 xa xl xc ya yl yc) 38 (0,0))
def p6(w:Zw)(op h:Int)(i:ZB)(j m:ZA)(l k o n:Nat)(a0 a:Int)(b:ZB)(c ad:ZA)(f d g e:Nat):∃W,Ro w W op h i j m l k o n a0 a b c ad f d g e:=by
 refine⟨_,D,((eC _ _).alloc zS _).alloc zE _,?_,?_,?_⟩;·have:=Qh ((w.alloc (UB op h i j l k m o n)).alloc (UA a0 a b c f d ad g e)) d8;exact iG
 .rw[Qf _ _ _ zS];have:=Qh (w.alloc (UB op h i j l k m o n)) (UA a0 a b c f d ad g e);exact iG
 .rw[Qf _ _ _ zE,Qf _ _ _ zS];exact Qh _ _
section
variable {S:ZN} {w W:Zw} {op x1:Int} {x2:ZB} {xa ya:ZA} {xl xc yl yc:Nat} {a0 a1:Int} {a2:ZB} {aa ad:ZA} {al ac am ae:Nat}
def Ro.pass (h:Ro w W op x1 x2 xa ya xl xc yl yc a0 a1 a2 aa ad al ac am ae) (p:Bd S w) {r:Except Int V6} (k:Bw W V) (hp:gG (λb=>Ov S w.heap.size (Z (w.heap.size+1+1)) V b) V r e w2) :
  ∃z0 i j a g f d sl sc c,e=fT z0 i j a g f d sl sc c/\w2.heap[w.heap.size+1+1]?=Z d8/\gG S w r e (dN w2 (w.heap.size+1+1) z0 i j a g f d sl sc):=by have l:=h.bw.trans (k.mono h.bw.size);have s:=(Qe.1 h.zero).1;have t:=k.size;obtain⟨z0,i,j,a,g,f,d,sl,sc,c,m,n,-,o⟩:=hp.pass p l E E λb q=>q;exact⟨z0,i,j,a,g,f,d,sl,sc,c,m,dy (dy h.zero k) n,o⟩
def Ro.ok (h:Ro w W op x1 x2 xa ya xl xc yl yc a0 a1 a2 aa ad al ac am ae) (b:Bd S w) (c:Bw W V) {t:V6} (d:b8 S w 6 t c0 c1 c2 c3 c4) :
  V.heap[w.heap.size+1+1]?=Z d8/\gG S w (.ok t) (Zr (Zu #[Za #[c0,c1,c2,c3,c4],I U 0])) (eF V (w.heap.size+1+1) 0 c0 c1 c2 c3 c4):=by have a:=h.bw.trans (c.mono h.bw.size);exact⟨dy h.zero c,km b a E (d.keep (b6 a b) λ_ h=>.inl h)⟩
end
def lm(S:ZN)(w:Zw)(v:Zv)(op h:Int)(i:ZB)(j m:ZA)(l k o n:Nat)(a0 a:Int)(b:ZB)(c ad:ZA)(f d g e:Nat)(r:Except Int V6):Prop:=
 WU WV 55 #[v,Uy op h i j l k m o n,Uy a0 a b c f d ad g e] w (gG S w r)
def qdE(S:ZN)(w W:Zw)(v:Zv)(m n:Int)(o:ZB)(p j:ZA)(s q l k:Nat)(r:Except Int V6)(X:Nat):Prop:=∀V,Bw W V->WU WV 24 #[v,Uy m n o p s q j l k] V λe a=>Bw W a/\∃z0 h i b g f d sl sc c,e=fT z0 h i b g f d sl sc c/\a.heap[X]?=Z d8/\gG S w r e (dN a X z0 h i b g f d sl sc)
def Ro.kid (q6:gj m) {t:T (m+1)} {l:List (ZB × V6)} {op:Int} (h:Ro w W op x1 x2 xa ya xl xc yl yc a0 a1 a2 aa ad al ac am ae) (f:Bd S w)
  (qc:b8 S w (m+1) t (I U op) (I U x1) (Zt x2) (A xa xl xc) (A ya yl yc)) (ql:fM S w 6 l v) (qq:c7 (m+1) t d=true) (z:F.k t<=35) (B:cJ (m+1) t<=200) (D:(J l:Int)<=1048576+2*d) (C:∀p,p∈l->dB 6 p.2=true) (i:Nat) (K:i<J (F.o t)) :
  ∃b off q r s u k y x o n,ya=b5 b off/\yl=J (F.o t)/\b<w.heap.size/\(Q5 W b (off+i*5) q r s u y x k o n)/\qdE S w W v q r s u k y x o n (b7 m (F.o t)[i] l.reverse) (w.heap.size+1+1):=by have⟨b,off,q,r,s,u,k,y,x,o,n,Q,c,q7,R,⟨L,M,N,O,P⟩,q5⟩:=iq qc f K;refine⟨b,off,q,r,s,u,k,y,x,o,n,Q,R,c,⟨kC h.bw L c,kC h.bw M c,kC h.bw N c,kC h.bw O c,kC h.bw P c⟩,λV j=>?_⟩;have a:=h.bw.trans (j.mono h.bw.size);have g:∀b,S b->Ov S w.heap.size (Z (w.heap.size+1+1)) V b:=λb X=>.inl X;refine (q6.kid K ((q5.keep (b6 a f) g)) (ql.keep (b6 a f) g) (Ov.lt f a.size) qq z B E C).mono λe qa hp=>⟨j.trans (hp.1.mono j.size),h.pass f j hp⟩
def Tg (z:Bd S w) (O:gj m) {t:T (m+1)} {l:List (ZB × V6)} (a0 f:Int) (n:ZB) (o ad:ZA) (s q u r:Nat) (P:b8 S w (m+1) t (I U 19) (I U x1) (Zt x2) (A xa xl xc) (A ya yl yc)) (x:fM S w 6 l v) (C:c7 (m+1) t d=true) (h:F.k t<=35) (i:cJ (m+1) t<=200) (N:(J l:Int)<=1048576+2*d) (j:∀ p,p∈l->dB 6 p.2=true) (k:Nat) (M:(f=1/\k=1)∨(f=0/\k=2)) (K:k<J (F.o t)) :
  lm S w v 19 x1 x2 xa ya xl xc yl yc a0 f n o ad s q u r (b7 m (F.o t)[k] l.reverse):=by
 have⟨W,g⟩:=p6 w 19 x1 x2 xa ya xl xc yl yc a0 f n o ad s q u r;have a:=g.is;obtain⟨va,vc,rfl,-⟩:=id x;have⟨D,q7,qc,q3,q4⟩:=cP g.node;have⟨qq,q5,j0,qa,ql⟩:=cP g.first;obtain⟨b,off,y0,y1,y2,za,ua,zl,zc,ul,uc,rfl,rfl,q8,⟨Q,V,X,q6,q9⟩,B⟩:=g.kid O z P x C h i N j k K;have y:=a8 (B W (Qg _ _));generalize b7 m (F.o t)[k] l.reverse=R at *;unfold lm;rcases M with ⟨rfl,rfl⟩|⟨rfl,rfl⟩;all_goals
  have L:((1:Int)<(J (F.o t):Int)):=E
  go_in
  go_upto_region 1 with fail
  rw[<- a]
  clear a
  go_wp2_with fail
  refine H y ?_
  exact qbA
def Jq(d:Bd S w)(c:v=A va vl vc)(op:Int)(g:Int)(h:ZB)(i l:ZA)(k j n m:Nat){f:V6}(e:b8 S w 6 f (I U a0) (I U a1) (Zt a2) (A aa al ac) (A ad am ae))(b:(op=16/\(a1==1)=false)∨(op=17/\(a1==1)=true)):lm S w v op g h i l k j n m a0 a1 a2 aa ad al ac am ae (.ok f):=by
 subst c;have⟨W,a⟩:=p6 w op g h i l k j n m a0 a1 a2 aa ad al ac am ae;have qO:=a.is;have⟨u,x,y,z,B⟩:=cP a.node;have⟨p,q,r,s,t⟩:=cP a.first;have HZ:=a8 (a.ok d (Qg _ _) e);clear a d e;unfold lm;rcases b with ⟨rfl,o⟩|⟨rfl,o⟩;all_goals
  exact Ty
def Jo(n:Bd S w){op:Int}(qq:gj m){t:T (m+1)}{l:List (ZB×V6)}(N:b8 S w (m+1) t (I U op) (I U x1) (Zt x2) (A xa xl xc) (A ya yl yc))(C:fM S w 6 l v)(L:c7 (m+1) t d=true)(u:F.k t<=35)(q:cJ (m+1) t<=200)(M:(J l:Int)<=1048576+2*d)(r:∀p,p∈l->dB 6 p.2=true){f:V6}(K:b8 S w 6 f (I U a0) (I U a1) (Zt a2) (A aa al ac) (A ad am ae))(j:F.k t=op)(s:(op=16/\(a1==1)=true)∨(op=17/\(a1==1)=false))(z:1<J (F.o t)):lm S w v op x1 x2 xa ya xl xc yl yc a0 a1 a2 aa ad al ac am ae (dD op 1 (F.k f) (b7 m (F.o t)[1] l.reverse)):=by
 have⟨W,a⟩:=p6 w op x1 x2 xa ya xl xc yl yc a0 a1 a2 aa ad al ac am ae;have o:=a.is;have⟨q0,q1,q2,q3,q4⟩:=cP a.node;have⟨q8,ql,p2,p3,p4⟩:=cP a.first;obtain⟨P,Q,rfl,-⟩:=id C;have X:G (WU WV 54 #[A P (J l) Q,Uy op x1 x2 xa xl xc ya yl yc,I U 1,A (b5 W.heap.size 0) 1 1] (W.alloc (UA a0 a1 a2 aa al ac ad am ae)) λe w2=>Bw W w2/\∃z0 z1 z2 ra sa rl rc sl sc c,e=fT z0 z1 z2 ra sa rl rc sl sc c/\w2.heap[w.heap.size+1+1]?=Z d8/\gG S w (dD op 1 (F.k f) (b7 m (F.o t)[1] l.reverse)) e (dN w2 (w.heap.size+1+1) z0 z1 z2 ra sa rl rc sl sc)):=by
  have x:=eC W (UA a0 a1 a2 aa al ac ad am ae);have g:=a.bw.trans (x.mono a.bw.size);have qa:=(Qe.1 a.zero).1;have O:=Qh W (UA a0 a1 a2 aa al ac ad am ae);have⟨q7,j0,q9,q5,q6⟩:=cP O;generalize W.alloc (UA a0 a1 a2 aa al ac ad am ae)=V at *;have k:∀b,S b->Ov S w.heap.size (Z (w.heap.size+1+1)) V b:=λb j2=>.inl j2;have y:=(Qe.1 O).1;have:=G6 qq (λb=>Ov S w.heap.size (Z (w.heap.size+1+1)) V b) t l [f] _ _ _ _ _ (A P (J l) Q) (A (b5 W.heap.size 0) 1 1) d 1 V (N.keep (b6 g n) k) (C.keep (b6 g n) k) (Ov.lt n g.size) L u q M r z (by rw[j];rcases s with ⟨rfl,-⟩|⟨rfl,-⟩<;>decide) ⟨b5 W.heap.size 0,1,D,by show 1<=_;unfold WX;omega,λ_=>⟨W.heap.size,0,D,.inr ⟨by have:=a.bw.size;omega,y,λe=>FZ⟩,λi z=>?_⟩⟩ (λh=>by rw[j]at h;omega);·rw[j]at this;exact this.mono λe w2 hp=>⟨x.trans (hp.1.mono E),a.pass n x hp⟩
  .have B:i=0:=by have:i<1:=z;omega
   subst B;exact⟨_,_,_,_,_,q7,j0,q9,q5,q6,K.keep (b6 g n) k⟩
 generalize b7 m (F.o t)[1] l.reverse=R at *;clear a n K N C L q M r j;unfold lm;rcases s with ⟨rfl,qc⟩|⟨rfl,qc⟩;all_goals
  go_in
  go_upto_region 1 with fail
  rw[<- o]
  clear o
  go_wp2_with fail
  refine H X ?_
  exact TG
def Sh(e:Bd S w)(j:v=A va vl vc)(s:Int)(t:ZB)(u z:ZA)(y x C B:Nat){f:V6}(q:b8 S w 6 f (I U a0) (I U a1) (Zt a2) (A aa al ac) (A ad am ae))(d:dB 6 f=true)(p:0<J (F.o f))(i:J (F.o f)=1):lm S w v 31 s t u z y x C B a0 a1 a2 aa ad al ac am ae (.ok (fl 5 5 (F.o f)[0])):=by subst j;have⟨W,a⟩:=p6 w 31 s t u z y x C B a0 a1 a2 aa ad al ac am ae;have qO:=a.is;have⟨q6,q9,q8,qq,q5⟩:=cP a.node;have⟨Q,R,T,V,X⟩:=cP a.first;obtain⟨b,off,D,q7,qc,za,j0,zl,zc,ql,qa,rfl,c,h,g,⟨k,l,m,n,o⟩,r⟩:=iq q e p;have HZ:=a8 (a.ok e (Qg _ _) (b8.fit (L:=5) (dr (n6 d p)).1 E r));obtain rfl:am=1:=E;have K:=kC a.bw k c;have M:=kC a.bw l c;have N:=kC a.bw m c;have O:=kC a.bw n c;have P:=kC a.bw o c;simp only[Zd,QC]at K M N O P;clear a e q r k l m n o c h g d i;unfold lm;exact Ty
def Jp(B:Bd S w){op:Int}(a0 q:Int)(r:ZB)(s ad:ZA)(y u z x:Nat)(Q:gj m){t:T (m+1)}{l:List (ZB×V6)}(M:b8 S w (m+1) t (I U op) (I U x1) (Zt x2) (A xa xl xc) (A ya yl yc))(o:fM S w 6 l v)(K:c7 (m+1) t d=true)(i:F.k t<=35)(g:cJ (m+1) t<=200)(L:(J l:Int)<=1048576+2*d)(h:∀p,p∈l->dB 6 p.2=true){k:Nat}(n:(op=31/\k=1)∨(op=32/\k=2))(j:z=0)(O:k<J (F.o t)):lm S w v op x1 x2 xa ya xl xc yl yc a0 q r s ad y u z x (b7 m (F.o t)[k] l.reverse):=by
 subst j;have⟨W,a⟩:=p6 w op x1 x2 xa ya xl xc yl yc a0 q r s ad y u 0 x;have f:=a.is;have⟨q7,qc,q2,q3,q4⟩:=cP a.node;have⟨q5,j0,qa,ql,D⟩:=cP a.first;obtain⟨va,vc,rfl,-⟩:=id o;obtain⟨b,off,y0,y1,y2,za,ua,zl,zc,ul,uc,rfl,rfl,qq,⟨V,X,q6,q9,q8⟩,C⟩:=a.kid Q B M o K i g L h k O;have N:=a8 (C W (Qg _ _));generalize b7 m (F.o t)[k] l.reverse=R at *;clear a B M o K g L h C;unfold lm;rcases n with ⟨rfl,rfl⟩|⟨rfl,rfl⟩;all_goals
  have P:(1:Int)<(J (F.o t):Int):=E
  go_in
  go_upto_region 1 with fail
  rw[<- f]
  clear f
  go_wp2_with fail
  refine H N ?_
  exact TG
def M8(S:ZN)(w W:Zw)(v:Zv)(nm:ZB)(c0 c1 c2 c3 c4:Zv)(q s:Int)(t:ZB)(u n:ZA)(y x p o:Nat)(r:Except Int V6)(X:Nat):Prop:=
 ∀V,Bw W V->WU WV 79 #[v,Zt nm,Za #[c0,c1,c2,c3,c4]] V λe b=>Bw W b/\∃d g f,e=Zr (A d g f)/\WU WV 24 #[A d g f,Uy q s t u y x n p o] b λe a=>Bw W a/\∃z0 l m h k j i sl sc c,e=fT z0 l m h k j i sl sc c/\a.heap[X]?=Z d8/\gG S w r e (dN a X z0 l m h k j i sl sc)
def Ro.bind (M:gj m) {t:T (m+1)} {l:List (ZB × V6)} {op:Int} (h:Ro w W op x1 x2 xa ya xl xc yl yc a0 a1 a2 aa ad al ac am ae) (f:Bd S w) (N:fM S w 6 l v) (y:c7 (m+1) t d=true) (n:F.k t<=35) (r:cJ (m+1) t<=200) (G:(J l:Int)<=1048576+2*d) (u:∀ p,p∈l->dB 6 p.2=true)
  {k:V6} (K:b8 S w 6 k c0 c1 c2 c3 c4) (x:dB 6 k=true) (s:nm.size<=WX) (C:i<J (F.o t)) (O:b8 S w m (F.o t)[i] (I U y0) (I U y1) (Zt y2) (A za zl zc) (A ua ul uc)) :
  M8 S w W v nm c0 c1 c2 c3 c4 y0 y1 y2 za ua zl zc ul uc (b7 m (F.o t)[i] ((nm,k) :: l.reverse)) (w.heap.size+1+1):=by
 intro V o;have g:=h.bw.trans (o.mono h.bw.size);have L:=(Qe.1 h.zero).1;have P:=o.size;have X:=pD y;refine H (mM (N.keep (b6 g f) zI) (K.keep (b6 g f) zI) (fP f E) E s) ?_;rintro e z ⟨B,Y,rfl,j⟩;obtain⟨Q,R,rfl,-⟩:=id j;have a:=o.trans (B.mono E);have c:=h.bw.trans (a.mono E);refine⟨a,Q,_,R,D,?_⟩;have:=M.kid (S:=λb=>Ov S w.heap.size (Z (w.heap.size+1+1)) z b) (l:=l++[(nm,k)]) C (O.keep (b6 c f) λb q=>.inl q) (j.keep ik λb q=>q.imp id zE) (Ov.lt f c.size) y n r (by rw[Qi];simp;omega) (λp hp=>by
  rcases QF.1 hp with hp|hp
  .exact u p hp
  .rw[QR]at hp;subst hp;exact x)
 rw[List.reverse_append]at this;exact this.mono λe qa hp=>⟨a.trans (hp.1.mono a.size),h.pass f a hp⟩
def qaM(O:Bd S w)(h:a7 w np nq=Z (Zt nm))(u:np<w.heap.size)(af:0<xl)(s:nm.size<=WX)  (hm:gj m) {t:T (m+1)} {l:List (ZB×V6)} (ht:b8 S w (m+1) t (I U 20) (I U x1) (Zt x2) (A (b5 np nq) xl xc) (A ya yl yc)) (q6:fM S w 6 l v) (hg:c7 (m+1) t d=true) (N:F.k t<=35) (q:cJ (m+1) t<=200) (hl:(J l:Int)<=1048576+2*d) (x:∀p,p∈l->dB 6 p.2=true) {f:V6} (hf:b8 S w 6 f (I U a0) (I U a1) (Zt a2) (A aa al ac) (A ad am ae)) (B:dB 6 f=true) (hi:1<J (F.o t)):lm S w v 20 x1 x2 (b5 np nq) ya xl xc yl yc a0 a1 a2 aa ad al ac am ae (b7 m (F.o t)[1] ((nm,f) :: l.reverse)):=by
 obtain⟨y,z,j0,qa,ql,D,q8,qc,q7,q5,qq,rfl,g,-,q9,⟨e0,e1,e2,e3,e4⟩,hy⟩:=iq ht O hi;have⟨W,j⟩:=p6 w 20 x1 x2 (b5 np nq) (b5 y z) xl xc yl yc a0 a1 a2 aa ad al ac am ae;have k:=j.is;obtain⟨va,vc,rfl,-⟩:=id q6;have P:G (M8 S w W _ nm (I U a0) (I U a1) (Zt a2) (A aa al ac) (A ad am ae) j0 qa ql D q8 qc q7 q5 qq (b7 m (F.o t)[1] ((nm,f) :: l.reverse)) (w.heap.size+1+1)):=j.bind hm O q6 hg N q hl x hf B s hi hy;have Q:=(Qe.1 j.zero).1;have ab:(1:Int)<(yl:Int):=E;have HS:G (∀V:Zw,(∀b,b<=w.heap.size+1->V.heap[b]?=W.heap[b]?)->(a7 V np nq=Z (Zt nm))/\(Q5 V y (z+5) j0 qa ql D qc q7 q8 q5 qq)/\(N5 V (w.heap.size+1) a0 a1 a2 aa al ac ad am ae)/\N5 V w.heap.size 20 x1 x2 (b5 np nq) xl xc (b5 y z) yl yc):=λV i=>by have hq:∀b o,b<w.heap.size->a7 V b o=a7 w b o:=λb o C=>(Ql (a:=⟨b,o,Y⟩) (i b E)).trans (Ql (a:=⟨b,o,Y⟩) (j.bw.block b C));refine⟨(hq np nq u).trans h,⟨(hq _ _ g).trans (by simpa using e0),(hq _ _ g).trans (by simpa using e1),(hq _ _ g).trans (by simpa using e2),(hq _ _ g).trans (by simpa using e3),(hq _ _ g).trans (by simpa using e4)⟩,cP ((i _ E).trans j.first),cP ((i _ E).trans j.node)⟩
 have HL:G (∀V,Bw W V->∀b,b<=w.heap.size+1->V.heap[b]?=W.heap[b]?):=λV i b C=>i.block b E;have jV:G (∀(V:Zw)(z0 z1:Int)(z2:ZB)(ra sa:ZA)(rl rc sl sc:Nat),Bw W V->∀b,b<=w.heap.size+1->(dN V (w.heap.size+1+1) z0 z1 z2 ra sa rl rc sl sc).heap[b]?=W.heap[b]?):=λV z0 z1 z2 ra sa rl rc sl sc i b C=>(dt E).trans (HL V i b C);have n:Bw W W.drew:=(Qg _ _).drew;obtain⟨-,-,⟨p0,p1,p2,p3,p4⟩,q0,q1,q2,q3,q4⟩:=HS.out W zS;generalize b7 m (F.o t)[1] ((nm,f) :: l.reverse)=R at *;clear j O ht q6 hg q hl x hf hy e0 e1 e2 e3 e4 h u g s Q q9 B;unfold lm;go_in;go_upto_region 1 with fail;rw[<- k];clear k;go_upto_region 18 with fail;refine Qz (S:=λL=>(a7 L np nq=Z (Zt nm))/\(Q5 L y (z+5) j0 qa ql D qc q7 q8 q5 qq)/\(N5 L (w.heap.size+1) a0 a1 a2 aa al ac ad am ae)/\N5 L w.heap.size 20 x1 x2 (b5 np nq) xl xc (b5 y z) yl yc) zK (HS _ (HL _ n)) (λhHeld=>?_);generalize W.drew=X at *;refine t4 0 1 2 3 ?_;refine t4 4 5 7 8 ?_;refine t2 9 10 ?_;refine ic 6 λK hK=>?_;go_simp;go_at_call 79;refine H (P X n) ?_;rintro e V2 ⟨h2,oa,ol,oc,rfl,r⟩;have M:=a8 r;refine hK.out _ _ (HS _ (HL _ h2)) (λhHeld=>?_);clear hK K r;refine ic 11 λK hK=>?_;go_simp;go_at_call 24;refine H M ?_;exact S0
def Sf(j0:Bd S w)(j:a7 w np nq=Z (Zt nm))(Q:np<w.heap.size)(ap:0<xl)(P:nm.size<=WX)  (hm:gj m) {t:T (m+1)} {l:List (ZB×V6)} (ht:b8 S w (m+1) t (I U 32) (I U x1) (Zt x2) (A (b5 np nq) xl xc) (A ya yl yc)) (hv:fM S w 6 l v) (hg:c7 (m+1) t d=true) (ag:F.k t<=35) (M:cJ (m+1) t<=200) (hl:(J l:Int)<=1048576+2*d) (q6:∀p,p∈l->dB 6 p.2=true) {f:V6} (hf:b8 S w 6 f (I U a0) (I U a1) (Zt a2) (A aa al ac) (A ad am ae)) (s:dB 6 f=true) (h0:0<J (F.o f)) (ak:J (F.o f)=1) (hi:1<J (F.o t)):lm S w v 32 x1 x2 (b5 np nq) ya xl xc yl yc a0 a1 a2 aa ad al ac am ae (b7 m (F.o t)[1] ((nm,fl 5 5 (F.o f)[0]) :: l.reverse)):=by
 obtain⟨y,z,g0,g1,g2,ga,ha,gl,gc,r,hc,rfl,h,-,ai,⟨k0,k1,k2,k3,k4⟩,O⟩:=iq hf j0 h0;obtain rfl:am=1:=E;obtain⟨q9,q8,y0,y1,y2,za,ua,zl,zc,ul,uc,rfl,i,-,an,⟨e0,e1,e2,e3,e4⟩,hy⟩:=iq ht j0 hi;have⟨W,n⟩:=p6 w 32 x1 x2 (b5 np nq) (b5 q9 q8) xl xc yl yc a0 a1 a2 aa (b5 y z) al ac 1 ae;have B:=n.is;obtain⟨va,vc,rfl,-⟩:=id hv;have ah:G (M8 S w W _ nm (I U g0) (I U g1) (Zt g2) (A ga gl gc) (A ha r hc) y0 y1 y2 za ua zl zc ul uc (b7 m (F.o t)[1] ((nm,fl 5 5 (F.o f)[0]) :: l.reverse)) (w.heap.size+1+1)):=n.bind hm j0 hv hg ag M hl q6 (b8.fit (L:=5) (dr (n6 s h0)).1 E O) (rD (L:=5) E (n6 s h0)).1 P hi hy;have aj:=(Qe.1 n.zero).1;have ao:(1:Int)<(yl:Int):=E;have x:G (∀V:Zw,(∀b,b<=w.heap.size+1->V.heap[b]?=W.heap[b]?)->(Q5 V y z g0 g1 g2 ga gl gc ha r hc)/\(a7 V np nq=Z (Zt nm))/\(Q5 V q9 (q8+5) y0 y1 y2 za zl zc ua ul uc)/\(N5 V (w.heap.size+1) a0 a1 a2 aa al ac (b5 y z) 1 ae)/\N5 V w.heap.size 32 x1 x2 (b5 np nq) xl xc (b5 q9 q8) yl yc):=λV k=>by have g:∀b o,b<w.heap.size->a7 V b o=a7 w b o:=λb o qa=>(Ql (a:=⟨b,o,Y⟩) (k b E)).trans (Ql (a:=⟨b,o,Y⟩) (n.bw.block b qa));refine⟨⟨(g _ _ h).trans (by simpa using k0),(g _ _ h).trans (by simpa using k1),(g _ _ h).trans (by simpa using k2),(g _ _ h).trans (by simpa using k3),(g _ _ h).trans (by simpa using k4)⟩,(g np nq Q).trans j,⟨(g _ _ i).trans (by simpa using e0),(g _ _ i).trans (by simpa using e1),(g _ _ i).trans (by simpa using e2),(g _ _ i).trans (by simpa using e3),(g _ _ i).trans (by simpa using e4)⟩,cP ((k _ E).trans n.first),cP ((k _ E).trans n.node)⟩
 have q5:G (∀V,Bw W V->∀b,b<=w.heap.size+1->V.heap[b]?=W.heap[b]?):=λV k b qa=>k.block b E;have af:G (∀(V:Zw)(z0 z1:Int)(z2:ZB)(ql qc:ZA)(q7 D sl sc:Nat),Bw W V->∀b,b<=w.heap.size+1->(dN V (w.heap.size+1+1) z0 z1 z2 ql qc q7 D sl sc).heap[b]?=W.heap[b]?):=λV z0 z1 z2 ql qc q7 D sl sc k b qa=>(dt E).trans (q5 V k b qa);have C:Bw W W.drew:=(Qg _ _).drew;obtain⟨-,-,-,⟨p0,p1,p2,p3,p4⟩,q0,q1,q2,q3,q4⟩:=x.out W zS;generalize b7 m (F.o t)[1] ((nm,fl 5 5 (F.o f)[0]) :: l.reverse)=R at *;clear n j0 ht hv hg M hl q6 hf hy e0 e1 e2 e3 e4 j Q i P aj an s O ak ai k0 k1 k2 k3 k4 h;unfold lm;go_in;go_upto_region 1 with fail;rw[<- B];clear B;go_upto_region 15 with fail;refine Qz (S:=λqq=>(Q5 qq y z g0 g1 g2 ga gl gc ha r hc)/\(a7 qq np nq=Z (Zt nm))/\(Q5 qq q9 (q8+5) y0 y1 y2 za zl zc ua ul uc)/\(N5 qq (w.heap.size+1) a0 a1 a2 aa al ac (b5 y z) 1 ae)/\N5 qq w.heap.size 32 x1 x2 (b5 np nq) xl xc (b5 q9 q8) yl yc) zK (x _ (q5 _ C)) (λhHeld=>?_);generalize W.drew=X at *;refine t4 0 1 2 3 ?_;refine t4 4 5 6 7 ?_;refine t4 8 10 11 12 ?_;refine tk 13 ?_;refine ic 9 λK hK=>?_;go_simp;go_at_call 79;refine H (ah X C) ?_;rintro e V2 ⟨h2,oa,ol,oc,rfl,N⟩;have ab:=a8 N;refine hK.out _ _ (x _ (q5 _ h2)) (λhHeld=>?_);clear hK K N;refine ic 14 λK hK=>?_;go_simp;go_at_call 24;refine H ab ?_;intro e w2 hp;obtain⟨q,z0,z1,z2,ql,qc,q7,D,sl,sc,c,rfl,hz,g⟩:=hp;have⟨⟨r0,r1,r2,r3,r4⟩,f0,f1,f2,f3,f4⟩:=cI hz;have HQ:=a8 g;have u:=a8 (af w2 z0 z1 z2 ql qc q7 D sl sc q);refine hK.out _ _ (x _ (q5 _ q)) (λhHeld=>?_);clear hK K hz g q;refine t2 15 16 ?_;refine qk 17 ?_ λhHeld=>?_;exact x _ u;clear u;refine tk 18 ?_;exact Ef
def nH{z0 a b z3 z4:Zv}(h:W.heap[X]?=Z (Zc #[z0,a,b,z3,z4] t (0,0))):(eF W X 0 c0 c1 c2 c3 c4).heap[X]?=Z (Zc #[c0,c1,c2,c3,c4] t (0,0)):=by unfold eF;simp[World.setCell,QQ,h]
def M5(S:ZN)(B X N:Nat)(w:Zw)(b:Nat):Prop:=S b∨(B<=b/\b<w.heap.size/\b≠X/\b≠N)
structure li(S:ZN)(w W V:Zw)(X N:Nat)(r:Except Int V6)(z0 z1:Int)(z2:ZB)(ra sa:ZA)(rl rc sl sc:Nat)(c:Int):Prop where
 bw:Bw W V
 hN:W.heap.size<=N
 box:V.heap[N]?=Z (Zc (Uz z0 z1 z2 ra rl rc sa sl sc) 31 (0,0))
 is:match r with
  | .ok a=>c=0/\b8 (M5 S w.heap.size X N V) V 6 a (I U z0) (I U z1) (Zt z2) (A ra rl rc) (A sa sl sc)
  | .error k=>c=k/\z0=0/\z1=0/\z2=⟨#[]⟩/\ra=Y/\rl=0/\rc=0/\sa=Y/\sl=0/\sc=0
section
variable {S:ZN} {w W V:Zw} {X N:Nat} {r:Except Int V6} {z0 z1:Int} {z2:ZB} {ra sa:ZA} {rl rc sl sc:Nat} {c:Int}
def M5.lt(c:∀b,S b->b<B)(d:B<=V.heap.size):∀b,M5 S B X N V b->b<V.heap.size:=λb a=>by
 rcases a with a|a
 .exact Qn (c b a) d
 .exact E
def li.done (h:li S w W V X N r z0 z1 z2 ra sa rl rc sl sc c) (i:Bd S w) (e:Bw w W) (f:w.heap.size<=X) :
  gG S w r (fT z0 z1 z2 ra sa rl rc sl sc c) (dN V X z0 z1 z2 ra sa rl rc sl sc):=by
 have d:=e.trans (h.bw.mono e.size);have g:=h.is;cases r with
 | error k=>obtain⟨rfl,rfl,rfl,rfl,rfl,rfl,rfl,rfl,rfl,rfl⟩:=g;exact lL d f
 | ok a=>obtain⟨rfl,j⟩:=g;exact km i d f (j.keep ik λb d=>d.imp id zE)
def li.later(h:li S w W V X N r z0 z1 z2 ra sa rl rc sl sc c)(i:Bd S w)(j:Bw w W)(d:Bw V V'):li S w W V' X N r z0 z1 z2 ra sa rl rc sl sc c:=by
 have f:=(Qe.1 h.box).1;have m:=d.size;have g:=j.size;have l:=h.bw.size;refine⟨h.bw.trans (d.mono E),h.hN,(d.block N f).trans h.box,?_⟩;have e:=h.is;cases r with
 | error k=>exact e
 | ok a=>exact⟨e.1,e.2.keep (b6 d (M5.lt i E)) λb g=>g.imp id E⟩
def NU (hB:Bd S w) (C:Bw w W) (A:w.heap.size<=X) {S':ZN} (y:Bw W V) (hN:W.heap.size<=N) (K:X<W.heap.size) (k:N<V.heap.size) {q s u v x:Zv} (d:V.heap[N]?=Z (Zc #[q,s,u,v,x] 31 (0,0))) (B:∀ b,S' b->M5 S w.heap.size X N V b) (h:gG S' V r e w2) :
  ∃z0 i j m p o n sl sc c,e=fT z0 i j m p o n sl sc c/\li S w W (dN w2 N z0 i j m p o n sl sc) X N r z0 i j m p o n sl sc c:=by
 obtain⟨hb,h⟩:=h;have U:=hb.size;have L:=C.size;have M:=y.size;have a:=y.trans (hb.mono E);have f:w2.heap[N]?=Z (Zc #[q,s,u,v,x] 31 (0,0)):=(hb.block N k).trans d;cases r with
 | error c=>subst h;exact⟨0,0,⟨#[]⟩,Y,Y,0,0,0,0,c,D,dk a hN,hN,nH f,D,D,D,D,D,D,D,D,D,D⟩
 | ok t=>
  obtain⟨c0,c1,c2,c3,c4,rfl,z⟩:=h;obtain⟨z0,i,j,O,Q,P,R,I,T,rfl,rfl,rfl,rfl,rfl⟩:=z.shape;have g:∀b,Ov S' V.heap.size Y w2 b->M5 S w.heap.size X N w2 b:=λb hb=>by
   rcases hb with hb|hb;·exact (B b hb).imp id E
   .exact .inr ⟨E,hb.2.1,E,E⟩
  have l:=z.keep (S':=M5 S w.heap.size X N w2) ik g;refine⟨z0,i,j,O,R,Q,P,I,T,0,D,dk a hN,hN,nH f,D,l.keep (λb hb=>dt λe=>?_) λb hb=>hb.imp id λh=>⟨h.1,by rw[eJ];exact h.2.1,h.2.2⟩⟩;rcases hb with hb|hb;·exact pf
  .exact E
def li.round (hm:gj m) {t:T (m+1)} {l:List (ZB × V6)} (o:Bd S w) (Q:Bw w W) (hX:w.heap.size<=X) (R:X<W.heap.size) (hv:fM S w 6 l v) (hg:c7 (m+1) t d=true) (O:F.k t<=35) (q9:cJ (m+1) t<=200) (hl:(J l:Int)<=1048576+2*d) (qa:∀ p,p∈l->dB 6 p.2=true)
  {a k:V6} (hk:b8 S w 6 k c0 c1 c2 c3 c4) (ql:dB 6 k=true) (q7:dB 6 a=true) (q5:n0.size<=WX) (Z:n1.size<=WX) (hi:i<J (F.o t)) (hy:b8 S w m (F.o t)[i] (I U y0) (I U y1) (Zt y2) (A za zl zc) (A ua ul uc))
  (h:li S w W V X N (.ok a) z0 z1 z2 ra sa rl rc sl sc c) :
  WU WV 79 #[v,Zt n0,Uy z0 z1 z2 ra rl rc sa sl sc] V λe j=>Bw V j/\∃B ol C,e=Zr (A B ol C)/\WU WV 79 #[A B ol C,Zt n1,Za #[c0,c1,c2,c3,c4]] j λe n=>Bw V n/\∃K pl L,e=Zr (A K pl L)/\WU WV 24 #[A K pl L,Uy y0 y1 y2 za zl zc ua ul uc] n λe w2=>Bw V w2/\∃z0 z1 z2 ra sa rl rc sl sc c,e=fT z0 z1 z2 ra sa rl rc sl sc c/\li S w W (dN w2 N z0 z1 z2 ra sa rl rc sl sc) X N (b7 m (F.o t)[i] ((n1,k) :: (n0,a) :: l.reverse)) z0 z1 z2 ra sa rl rc sl sc c:=by
 have u:=Q.trans (h.bw.mono E);have hd:=pD hg;have G:=(Qe.1 h.box).1;have aa:=h.bw.size;have ab:=Q.size;have q8:∀b,S b->M5 S w.heap.size X N V b:=λb f=>.inl f;have r:Bd (M5 S w.heap.size X N V) V:=M5.lt o E;refine H (mM (hv.keep (b6 u o) q8) h.is.2 r E q5) ?_;rintro e j ⟨z,v2,rfl,x⟩;obtain⟨B,C,rfl,-⟩:=id x;refine⟨z,B,_,C,D,?_⟩;have qq:=z.size;have s:=u.trans (z.mono E);have q:Bd (Ov (M5 S w.heap.size X N V) V.heap.size Y j) j:=Ov.lt r qq;refine H (mM x (hk.keep (b6 s o) λb f=>.inl (.inl f)) q (by rw[Qi];simp;omega) Z) ?_;rintro e n ⟨M,v3,rfl,y⟩;obtain⟨K,L,rfl,-⟩:=id y;have g:=z.trans (M.mono E);refine⟨g,K,_,L,D,?_⟩;have qc:=M.size;have q6:=s.trans (M.mono E);have P:Bd (Ov (Ov (M5 S w.heap.size X N V) V.heap.size Y j) j.heap.size Y n) n:=Ov.lt q qc;have:=hm.kid hi (hy.keep (b6 q6 o) λb f=>.inl (.inl (.inl f))) y P hg O q9 (by simp only[Qi,Qs,Q0];omega) (λp hp=>by
  rcases QF.1 hp with hp|hp
  .rcases QF.1 hp with hp|hp
   .exact qa p hp
   .rw[QR]at hp;subst hp;exact q7
  .rw[QR]at hp;subst hp;exact ql)
 have er:(l++[(n0,a)]++[(n1,k)]).reverse=(n1,k) :: (n0,a) :: l.reverse:=dS;rw[er]at this;refine this.mono λe w2 hp=>⟨g.trans (hp.1.mono E),?_⟩;have hN:=h.hN;exact NU o Q hX (h.bw.trans (g.mono E)) h.hN R E ((g.block N G).trans h.box) (λb f=>by
  rcases f with (f|f)|f
  .exact f.imp id E
  .exact .inr ⟨E,E,E,E⟩
  .exact .inr ⟨E,E,E,E⟩) hp
end
def pi(g:V6->V6->Except Int V6)(l:List V6)(r:Except Int V6):Except Int V6:=match r with|.error c=>.error c|.ok a=>lD g l a
def F5(b:V6->V6->Except Int V6)(x:V6)(r:List V6)(a:V6):pi b r (b a x)=pi b (x :: r) (.ok a):=by simp only[pi,lD];cases b a x<;>rfl
def GH {r:Except Int V6} (hB:Bd S w) (y:Bw w W) (z:X<W.heap.size) (h:gG (Ov S w.heap.size (Z X) W) W r e w2) :
  ∃z0 g i j m l k sl sc c,e=fT z0 g i j m l k sl sc c/\li S w W (w2.alloc (UA z0 g i j l k m sl sc)) X w2.heap.size r z0 g i j m l k sl sc c:=by
 obtain⟨hb,h⟩:=h;have x:=hb.size;have C:=y.size;cases r with
 | error c=>subst h;have d:=eC w2 d8;exact⟨0,0,⟨#[]⟩,Y,Y,0,0,0,0,c,D,hb.trans (d.mono E),x,Qh _ _,D,D,D,D,D,D,D,D,D,D⟩
 | ok t=>
  obtain⟨c0,c1,c2,c3,c4,rfl,v⟩:=h;obtain⟨z0,g,i,n,p,o,q,u,s,rfl,rfl,rfl,rfl,rfl⟩:=v.shape;have d:=eC w2 (UA z0 g i n p o q u s);have f:=Qh w2 (UA z0 g i n p o q u s);have B:=(Qe.1 f).1;have a:∀b,Ov (Ov S w.heap.size (Z X) W) W.heap.size Y w2 b->b<w2.heap.size/\(S b∨(w.heap.size<=b/\b≠X)):=λb hb=>by
   rcases hb with (hb|hb)|hb;·exact⟨pf,.inl hb⟩
   .exact⟨E,.inr ⟨hb.1,λe=>hb.2.2 (by rw[e])⟩⟩
   .exact⟨E,E⟩
  refine⟨z0,g,i,n,q,p,o,u,s,0,D,hb.trans (d.mono E),x,f,D,v.keep (λb hb=>d.block b (a b hb).1) λb hb=>?_⟩;have:=(a b hb).1;exact (a b hb).2.imp id E
def YR(S:ZN)(w W V:Zw)(N:Nat)(M:ZA)(P O:Nat)(z B:ZB)(z0 g:Int)(h:ZB)(a f:ZA)(d b sl sc:Nat)(g0 g1:Int)(g2:ZB)(s v:ZA)(u t y x:Nat)(Q R:Int)(T:ZB)(X C:ZA)(Y I L K:Nat)(r:Except Int V6):Prop:=
 WU WV 79 #[A M P O,Zt z,Uy z0 g h a d b f sl sc] V λe i=>Bw V i/\∃k m l,e=Zr (A k m l)/\WU WV 79 #[A k m l,Zt B,Uy g0 g1 g2 s u t v y x] i λe j=>Bw V j/\∃n p o,e=Zr (A n p o)/\WU WV 24 #[A n p o,Uy Q R T X Y I C L K] j λe q=>Bw V q/\∃z0 g h a f d b sl sc c,e=fT z0 g h a f d b sl sc c/\li S w W (dN q N z0 g h a f d b sl sc) (w.heap.size+1+1) N r z0 g h a f d b sl sc c
def DQ(S:ZN)(w:Zw)(v:Zv)(op h:Int)(i:ZB)(j m:ZA)(l k o n:Nat)(a0 a:Int)(b:ZB)(c ad:ZA)(f d g e:Nat)(r:Except Int V6):Prop:=
 WU WV 80 #[v,Uy op h i j l k m o n,Uy a0 a b c f d ad g e] w (gG S w r)
def Lr(hB:Bd S w)(z:a7 w np nq=Z (Zt n0))(Q:a7 w np (nq+1)=Z (Zt n1))(q8:np<w.heap.size)(aW:1<xl)(ar:n0.size<=WX)(au:n1.size<=WX)(hm:gj m){t:T (m+1)}{l:List (ZB×V6)}(ht:b8 S w (m+1) t (I U 35) (I U x1) (Zt x2) (A (b5 np nq) xl xc) (A ya yl yc))(hv:fM S w 6 l v)(hg:c7 (m+1) t d=true)(q5:F.k t<=35)(qa:cJ (m+1) t<=200)(hl:(J l:Int)<=1048576+2*d)(C:∀p,p∈l->dB 6 p.2=true){f:V6}(hf:b8 S w 6 f (I U a0) (I U a1) (Zt a2) (A aa al ac) (A ad am ae))(zH:dB 6 f=true)(qq:1<J (F.o t))(hi:2<J (F.o t))(n:∀i (h:i<J (F.o t)) env,(∀p,p∈env->dB 6 p.2=true)->lR (b7 m (F.o t)[i] env)):DQ S w v 35 x1 x2 (b5 np nq) ya xl xc yl yc a0 a1 a2 aa ad al ac am ae (pi (λacc x=>b7 m (F.o t)[2] ((n1,x) :: (n0,acc) :: l.reverse)) (cL f) (b7 m (F.o t)[1] l.reverse)):=by
 obtain⟨ql,ko,y0,y1,y2,za,ua,zl,zc,ul,uc,rfl,g,-,aL,⟨e0,e1,e2,e3,e4⟩,hy⟩:=iq ht hB hi;obtain⟨aX,aY,s0,s1,s2,ta,aN,tl,tc,aP,aO,B,-,-,-,⟨m0,m1,m2,m3,m4⟩,hs⟩:=iq ht hB qq;injection B with B;injection B with B aI;subst B aI;have⟨W,hW⟩:=p6 w 35 x1 x2 (b5 np nq) (b5 ql ko) xl xc yl yc a0 a1 a2 aa ad al ac am ae;have ai:=hW.is;obtain⟨va,vc,rfl,-⟩:=id hv;have q7:=(Qe.1 hW.zero).1;have aA:=a8 q7;have aK:0<xl:=E;have aV:(2:Int)<(yl:Int):=E;have aR:(1:Int)<(yl:Int):=E;have aT:(1:Int)<(xl:Int):=E;have aS:(0:Int)<(xl:Int):=E;have HS:G (∀V:Zw,(∀b,b<=w.heap.size+1->V.heap[b]?=W.heap[b]?)->(a7 V np nq=Z (Zt n0)/\a7 V np (nq+1)=Z (Zt n1))/\(Q5 V ql (ko+10) y0 y1 y2 za zl zc ua ul uc)/\(N5 V (w.heap.size+1) a0 a1 a2 aa al ac ad am ae)/\N5 V w.heap.size 35 x1 x2 (b5 np nq) xl xc (b5 ql ko) yl yc):=λV hV=>by have hq:∀b o,b<w.heap.size->a7 V b o=a7 w b o:=λb o hb=>(Ql (a:=⟨b,o,Y⟩) (hV b E)).trans (Ql (a:=⟨b,o,Y⟩) (hW.bw.block b hb));refine⟨⟨(hq np nq q8).trans z,(hq np _ q8).trans E⟩,⟨(hq _ _ g).trans (by simpa using e0),(hq _ _ g).trans (by simpa using e1),(hq _ _ g).trans (by simpa using e2),(hq _ _ g).trans (by simpa using e3),(hq _ _ g).trans (by simpa using e4)⟩,cP ((hV _ E).trans hW.first),cP ((hV _ E).trans hW.node)⟩
 have HL:G (∀V,Bw W V->∀b,b<=w.heap.size+1->V.heap[b]?=W.heap[b]?):=λV hV b hb=>hV.block b E;have qc:∀b,S b->Ov S w.heap.size (Z (w.heap.size+1+1)) W b:=λb hb=>.inl hb;have ab:G (WU WV 24 #[A va (J l) vc,Uy s0 s1 s2 ta tl tc aN aP aO] W λe w2=>∃z0 z1 z2 ra sa rl rc sl sc c,e=fT z0 z1 z2 ra sa rl rc sl sc c/\li S w W (w2.alloc (UA z0 z1 z2 ra rl rc sa sl sc)) (w.heap.size+1+1) w2.heap.size (b7 m (F.o t)[1] l.reverse) z0 z1 z2 ra sa rl rc sl sc c):=
  (hm.kid qq (hs.keep (b6 hW.bw hB) qc) (hv.keep (b6 hW.bw hB) qc) (Ov.lt hB E) hg q5 qa E C).mono λe w2 hp=>GH hB hW.bw q7 hp
 have ag:G (lR (b7 m (F.o t)[1] l.reverse)):=n 1 qq _ λp hp=>C p (X0.1 hp);have HG:G (∀a k:V6,dB 6 a=true->dB 6 k=true->lR (b7 m (F.o t)[2] ((n1,k) :: (n0,a) :: l.reverse))):=λa k ha hk=>n 2 hi _ λp hp=>by
  rcases QW.1 hp with rfl|hp;·exact hk
  rcases QW.1 hp with rfl|hp;·exact ha
  exact C p (X0.1 hp)
 have HF:G (am=J (cL f)/\∀j (h:j<J (cL f)),∃fb fo g0 g1 g2 ga ha gl gc jo hc,ad=b5 fb fo/\fb<w.heap.size/\(∀V:Zw,(∀b,b<=w.heap.size+1->V.heap[b]?=W.heap[b]?)->(Q5 V fb (fo+j*5) g0 g1 g2 ga gl gc ha jo hc))/\b8 S w 6 (cL f)[j] (I U g0) (I U g1) (Zt g2) (A ga gl gc) (A ha jo hc)/\dB 6 (cL f)[j]=true):=by exact qcS
 have aQ:am<=9223372036854775807:=by obtain⟨-,-,-,-,-,-,-,h4,-,-⟩:=id hf;obtain⟨ao,cap,hv,hl,hc⟩:=h4;injection hv with h1 h2 h3;subst h2;have aJ:J (F.o f)<=9223372036854775807:=Q1 hl zC;exact aJ
 have aC:G (∀(V:Zw)(N:Nat)(z0 z1:Int)(z2:ZB)(ra sa:ZA)(rl rc sl sc:Nat)(c:Int)(a k:V6)(g0 g1:Int)(g2:ZB)(ga ha:ZA)(gl gc jo hc:Nat),li S w W V (w.heap.size+1+1) N (.ok a) z0 z1 z2 ra sa rl rc sl sc c->dB 6 a=true->b8 S w 6 k (I U g0) (I U g1) (Zt g2) (A ga gl gc) (A ha jo hc)->dB 6 k=true->YR S w W V N va (J l) vc n0 n1 z0 z1 z2 ra sa rl rc sl sc g0 g1 g2 ga ha gl gc jo hc y0 y1 y2 za ua zl zc ul uc (b7 m (F.o t)[2] ((n1,k) :: (n0,a) :: l.reverse))):=λV N z0 z1 z2 ra sa rl rc sl sc c a k g0 g1 g2 ga ha gl gc jo hc h aM hk M=>h.round hm hB hW.bw E q7 hv hg q5 qa hl C hk M aM ar au hi hy;have HD:G (∀(V:Zw)(N:Nat)(r:Except Int V6)(z0 z1:Int)(z2:ZB)(ra sa:ZA)(rl rc sl sc:Nat)(c:Int),li S w W V (w.heap.size+1+1) N r z0 z1 z2 ra sa rl rc sl sc c->V.heap[w.heap.size+1+1]?=Z d8/\gG S w r (fT z0 z1 z2 ra sa rl rc sl sc c) (dN V (w.heap.size+1+1) z0 z1 z2 ra sa rl rc sl sc)):=λV N r z0 z1 z2 ra sa rl rc sl sc c h=>⟨dy hW.zero h.bw,h.done hB hW.bw E⟩;have j0:G (∀(V:Zw)(N:Nat)(r:Except Int V6)(z0 z1:Int)(z2:ZB)(ra sa:ZA)(rl rc sl sc:Nat)(c:Int),li S w W V (w.heap.size+1+1) N r z0 z1 z2 ra sa rl rc sl sc c->li S w W V.drew (w.heap.size+1+1) N r z0 z1 z2 ra sa rl rc sl sc c):=λV N r z0 z1 z2 ra sa rl rc sl sc c h=>h.later hB hW.bw (Qg _ _).drew;have⟨q0,q1,q2,q3,q4⟩:=cP hW.node;have⟨p0,p1,p2,p3,p4⟩:=cP hW.first;have g0:=kC hW.bw m0 g;have g1:=kC hW.bw m1 g;have g2:=kC hW.bw m2 g;have g3:=kC hW.bw m3 g;have g4:=kC hW.bw m4 g;simp only[Nat.one_mul]at g0 g1 g2 g3 g4;generalize b7 m (F.o t)[1] l.reverse=R0 at *;generalize aF:(λacc x=>b7 m (F.o t)[2] ((n1,x) :: (n0,acc) :: l.reverse))=Gzq at *;clear hW hB ht hv hg qa hl C hf hy e0 e1 e2 e3 e4 z Q q8 g ar au q7 aL zH n hm hs m0 m1 m2 m3 m4 qc q5;generalize hR:pi Gzq (cL f) R0=R at *;have HR:=a8 hR;clear hR;unfold DQ;go_in;go_upto_region 1 with fail;rw[<- ai];clear ai;go_wp2_with fail;refine H ab ?_;rintro e w2 ⟨z0,z1,z2,ra,sa,rl,rc,sl,sc,c,rfl,hF⟩;have af:=a8 hF;clear hF ab;go_wp2_with fail;go_loopw [9,10] (λcv iv wr=>∃(j:Nat)(r:Except Int V6)(z0 z1:Int)(z2:ZB)(ra sa:ZA)(rl rc sl sc:Nat)(c:Int),j<=am/\cv=I U c/\iv=I U j/\li S w W wr (w.heap.size+1+1) w2.heap.size r z0 z1 z2 ra sa rl rc sl sc c/\lR r/\pi Gzq ((cL f).drop j) r=R) (λ_ iv _=>am-(intOf iv).toNat);case atStart=>exact⟨0,R0,z0,z1,z2,ra,sa,rl,rc,sl,sc,c,E,D,D,af,ag,HR⟩
 case round=>
  clear af ag HR;obtain⟨j,r,z0,z1,z2,ra,sa,rl,rc,sl,sc,c,hj,rfl,rfl,s,ze,vV⟩:=hrel;have uw:(¬j<am->R=r)/\(c≠0->R=r)/\(c=0->∃a,r=.ok a):=by
   have hi:=s.is;cases r with
   | error k=>exact⟨λ_=>vV.symm,λ_=>vV.symm,λh=>by have:=ze.1;have:=hi.1;omega⟩
   | ok a=>refine⟨λh=>?_,E,zS⟩;rw[<- vV,Xw J6];exact cU
  have⟨o0,o1,o2,o3,o4⟩:=cP s.box;have⟨hz,hq⟩:=HD.out _ _ _ _ _ _ _ _ _ _ _ _ _ s;have⟨⟨r0,r1,r2,r3,r4⟩,f0,f1,f2,f3,f4⟩:=cI hz;have HQ:=a8 hq;have ui:=a8 s;obtain⟨-,-,⟨p0,p1,p2,p3,p4⟩,q0,q1,q2,q3,q4⟩:=HS.out wr (HL _ s.bw);clear hz hq s;by_cases aH:j<am
  .by_cases aj:c=0
   .subst aj;obtain⟨a,rfl⟩:=uw.2.2 D;have aq:j<J (cL f):=J6;have ak:(cL f).drop j=(cL f)[j] :: (cL f).drop (j+1):=zS;obtain⟨fb,fo,g0,g1,g2,ga,ha,gl,gc,jo,hc,rfl,zx,zR,ap,M⟩:=HF.2 j aq;generalize (cL f)[j]=kd at *;have q9:=aC.out _ _ _ _ _ _ _ _ _ _ _ _ _ kd _ _ _ _ _ _ _ _ _ (j0 _ _ _ _ _ _ _ _ _ _ _ _ _ ui) ze ap M;have q6:=HG.out a kd ze M;have eG:b7 m (F.o t)[2] ((n1,kd) :: (n0,a) :: l.reverse)=Gzq a kd:=by rw[<- aF]
    rw[eG]at q9 q6;have HN:G (pi Gzq ((cL f).drop (j+1)) (Gzq a kd)=R):=by show _=_;rw[<- vV,ak];exact F5 Gzq kd _ a
    have aE:=a8 q6;have aD:=a8 q9;have P:=(j0 _ _ _ _ _ _ _ _ _ _ _ _ _ ui).box;have j2:=(j0 _ _ _ _ _ _ _ _ _ _ _ _ _ ui).bw;have aU:=ui.hN;have y:G (∀V:Zw,(∀b,b<=w.heap.size+1->V.heap[b]?=W.heap[b]?)->(Q5 V fb (fo+j*5) g0 g1 g2 ga gl gc ha jo hc)/\(a7 V np nq=Z (Zt n0)/\a7 V np (nq+1)=Z (Zt n1))/\(Q5 V ql (ko+10) y0 y1 y2 za zl zc ua ul uc)/\(N5 V (w.heap.size+1) a0 a1 a2 aa al ac (b5 fb fo) am ae)/\N5 V w.heap.size 35 x1 x2 (b5 np nq) xl xc (b5 ql ko) yl yc):=λV hV=>⟨zR V hV,HS V hV⟩;have u:G (∀V,Bw wr.drew V->∀b,b<=w.heap.size+1->V.heap[b]?=W.heap[b]?):=λV hV=>HL V (j2.trans (hV.mono j2.size));have av:G (∀(V:Zw)(z0 z1:Int)(z2:ZB)(ra sa:ZA)(rl rc sl sc:Nat),Bw wr.drew V->∀b,b<=w.heap.size+1->(dN V w2.heap.size z0 z1 z2 ra sa rl rc sl sc).heap[b]?=W.heap[b]?):=λV z0 z1 z2 ra sa rl rc sl sc hV b hb=>(dt (by have:=aA.out;omega)).trans (u V hV b hb);have aw:G (∀V,Bw wr.drew V->V.heap[w2.heap.size]?=Z (Zc (Uz z0 z1 z2 ra rl rc sa sl sc) 31 (0,0))):=λV hV=>(hV.block _ (Qe.1 P).1).trans P;have aG:Bw wr.drew wr.drew:=Qg _ _;have⟨o0,o1,o2,o3,o4⟩:=cP P;have an:(j:Int)<(am:Int):=E;have q:=y.out _ (u _ aG);generalize Gzq a kd=R1 at *;clear uw vV ze ui HQ ak aq zx zR ap M q9 q6 P j2 eG f0 f1 f2 f3 f4 r0 r1 r2 r3 r4;go_upto_region 6 with fail;refine Qz (S:=λw'=>(Q5 w' fb (fo+j*5) g0 g1 g2 ga gl gc ha jo hc)/\(a7 w' np nq=Z (Zt n0)/\a7 w' np (nq+1)=Z (Zt n1))/\(Q5 w' ql (ko+10) y0 y1 y2 za zl zc ua ul uc)/\(N5 w' (w.heap.size+1) a0 a1 a2 aa al ac (b5 fb fo) am ae)/\N5 w' w.heap.size 35 x1 x2 (b5 np nq) xl xc (b5 ql ko) yl yc) zK q (λhHeld=>?_);clear q;generalize wr.drew=X at *;refine t4 0 1 2 3 ?_;refine t4 4 7 8 9 ?_;refine t4 10 11 12 13 ?_;refine t4 14 15 17 18 ?_;refine t2 19 20 ?_;refine qk 5 ?_ λhHeld=>?_;exact hHeld;refine ic 6 λK hK=>?_;go_simp;go_at_call 79;refine H aD ?_;rintro e V2 ⟨h2,oa,ol,oc,rfl,n⟩;have ax:=a8 n;refine hK.out _ _ (y _ (u _ h2)) (λhHeld=>?_);clear hK K n;refine ic 16 λK hK=>?_;go_simp;go_at_call 79;refine H ax ?_;rintro e V3 ⟨h3,pa,pl,pc,rfl,n⟩;have ay:=a8 n;refine hK.out _ _ (y _ (u _ h3)) (λhHeld=>?_);clear hK K n;refine ic 21 λK hK=>?_;go_simp;go_at_call 24;refine H ay ?_;rintro e w3 ⟨O,u0,u1,u2,ta,wa,tl,tc,wl,wc,k,rfl,ah⟩;have az:=a8 ah;have aB:=a8 (av w3 u0 u1 u2 ta wa tl tc wl wc O);have⟨⟨r0,r1,r2,r3,r4⟩,f0,f1,f2,f3,f4⟩:=cI (aw _ O);refine hK.out _ _ (y _ (u _ O)) (λhHeld=>?_);clear hK K ah O;refine t2 22 23 ?_;refine tk 24 ?_;refine qk 25 ?_ λhHeld=>?_;exact y _ aB;refine tk 26 ?_;refine Xi zK ?_ _;go_simp;go_wp2_with fail;go_roundw;case rel=>exact⟨j+1,R1,u0,u1,u2,ta,wa,tl,tc,wl,wc,k,E,D,ew,az,aE,HN⟩
    case measure=>exact eb
   .have HE:=a8 (uw.2.1 aj);have an:(j:Int)<(am:Int):=E;exact Ye
  .have HE:=a8 (uw.1 aH);have an:¬(j:Int)<(am:Int):=E;exact Ye
def DT(S:ZN)(B X N:Nat)(o:Option Nat)(w:Zw)(b:Nat):Prop:=S b∨(B<=b/\b<w.heap.size/\b≠X/\b≠N/\o≠Z b)
def pM{L:Nat}(S:ZN)(w V:Zw)(X N M:Nat)(acc:List (T L))(b:Zv):Prop:=
 ∃a,V.ownsRow M 31 5 b (J acc) a/\∀j (h:j<J acc),∃c0 c1 c2 c3 c4,(a[j*5]?=Z c0/\a[j*5+1]?=Z c1/\a[j*5+2]?=Z c2/\a[j*5+3]?=Z c3/\a[j*5+4]?=Z c4)/\b8 (DT S w.heap.size X N b.ownBlock V) V L acc[j] c0 c1 c2 c3 c4
def DT.lt(c:∀b,S b->b<B)(d:B<=V.heap.size):∀b,DT S B X N o V b->b<V.heap.size:=λb a=>by
 rcases a with a|a
 .exact Qn (c b a) d
 .exact E
def pM.keep{acc:List (T L)}(h:pM S w V X N M acc kv)(e:∀b,b<V.heap.size->b≠N->V'.heap[b]?=V.heap[b]?)(p:V.heap.size<=V'.heap.size)(hB:Bd S w)(m:w.heap.size<=V.heap.size)(hN:w.heap.size<=N)(o:N<M):pM S w V' X N M acc kv:=by
 obtain⟨n,c,k⟩:=h;have a:=cO c;refine⟨n,cV c λg d=>e g (a g d).2 (by have:=a g d;omega),λj i=>?_⟩;have⟨c0,c1,c2,c3,c4,f,l⟩:=k j i;refine⟨c0,c1,c2,c3,c4,f,l.keep (λb hb=>e b (DT.lt hB m b hb) ?_) λb hb=>hb.imp id λh=>⟨h.1,E,h.2.2⟩⟩;rcases hb with hb|hb;·exact pf
 .exact E
def pM.push {acc:List (T L)} (m:Bd S w) (y:w.heap.size<=V.heap.size) (u:w.heap.size<=M) {t:T L} 
  (r:b8 (DT S w.heap.size X N kv.ownBlock V) V L t c0 c1 c2 c3 c4) (ha:Wa.heap=V.heap.push one) (p:J acc=n)
  (d:V.ownsRow M 31 5 kv n xs) (hk:∀j (h:j<J acc),∃c0 c1 c2 c3 c4,(xs[j*5]?=Z c0/\xs[j*5+1]?=Z c1/\xs[j*5+2]?=Z c2/\xs[j*5+3]?=Z c3/\xs[j*5+4]?=Z c4)/\b8 (DT S w.heap.size X N kv.ownBlock V) V L acc[j] c0 c1 c2 c3 c4)
  (c:W2.ownsRow M 31 5 (A (b5 g 0) (n+1) cap) (n+1) (xs++[c0,c1,c2,c3,c4])) (qg:Wa.grownBy W2 kv.ownBlock) (f:kv.ownBlock=Z g∨g=V.heap.size+1) :
  pM S w W2 X N M (acc++[t]) (A (b5 g 0) (n+1) cap)/\(∀b,b<V.heap.size->kv.ownBlock≠Z b->W2.heap[b]?=V.heap[b]?)/\V.heap.size+1<=W2.heap.size:=by
 subst p;have s:W2.heap.size ≥ V.heap.size+1:=pP;have qn:=cO d;have q:∀b,b<V.heap.size->kv.ownBlock≠Z b->W2.heap[b]?=V.heap[b]?:=λb hb qh=>by exact Gc
 have k:=d.1;have jF:∀ {x:T L} {d0 d1 d2 d3 d4:Zv},b8 (DT S w.heap.size X N kv.ownBlock V) V L x d0 d1 d2 d3 d4->b8 (DT S w.heap.size X N (Z g) W2) W2 L x d0 d1 d2 d3 d4:=by
  intro x d0 d1 d2 d3 d4 hd;refine hd.keep (λb hb=>?_) (λb hb=>?_)
  .rcases hb with hb|hb;·have:=m b hb;exact q b E nN
   .exact q b hb.2.1 hb.2.2.2.2
  .rcases hb with hb|hb;·exact .inl hb
   .refine .inr ⟨hb.1,Ad,E,E,λe=>?_⟩;injection e with e;subst e;rcases f with l|l;·exact hb.2.2.2.2 l
    .exact Ad
 refine⟨⟨xs++[c0,c1,c2,c3,c4],by rw[Qi,QM];exact c,λj hj=>?_⟩,q,s⟩;by_cases jE:j<J acc;·exact Tn
 .have i:j=J acc:=Bi;subst i;have a:∀o v,o<5->[c0,c1,c2,c3,c4][o]?=Z v->(xs++[c0,c1,c2,c3,c4])[J acc*5+o]?=Z v:=λo v ho h=>by rw[Qu E,k,XR];exact h
  refine⟨c0,c1,c2,c3,c4,⟨a 0 _ E D,a 1 _ E D,a 2 _ E D,a 3 _ E D,a 4 _ E D⟩,?_⟩;have:(acc++[t])[J acc]=t:=zS;rw[this];exact jF r
structure nU(S:ZN)(w W V:Zw)(X:Nat)(acc:List V6)(kv:Zv):Prop where
 bw:Bw W V
 box:V.heap[W.heap.size]?=Z (Zc #[I U 4,I U 0,Zt ⟨#[]⟩,A Y 0 0,kv] 31 (0,0))
 o:pM S w V X W.heap.size (W.heap.size+1) acc kv
section
variable {S:ZN} {w W V:Zw} {X:Nat} {acc:List V6} {kv:Zv}
def nU.start:nU S w W (W.alloc (Zc #[I U 4,I U 0,Zt ⟨#[]⟩,A Y 0 0,A Y 0 0] 31)) X [] (A Y 0 0):=
 ⟨eC _ _,Qh _ _,[],QV _ _ _ _,zS⟩
def nU.lt(h:nU S w W V X acc kv):W.heap.size<V.heap.size:=(Qe.1 h.box).1
def nU.later(h:nU S w W V X acc kv)(d:Bd S w)(e:Bw w W)(a:Bw V V'):nU S w W V' X acc kv:=by have c:=e.size;have f:=h.lt;exact⟨h.bw.trans (a.mono E),(a.block _ h.lt).trans h.box,h.o.keep (λb c _=>a.block b c) a.size d E c E⟩
def nU.push (h:nU S w W V X acc kv) (m:Bd S w) (p:Bw w W) {t:V6} 
  (y:b8 (DT S w.heap.size X W.heap.size kv.ownBlock V) V 6 t c0 c1 c2 c3 c4)
  (s:Wa.heap=V.heap.push one) (l:Wa.os=V.os/\Wa.tape=V.tape/\Wa.output=V.output) (v:J acc=n)
  (f:V.ownsRow (W.heap.size+1) 31 5 kv n xs) (u:∀j (h:j<J acc),∃c0 c1 c2 c3 c4,(xs[j*5]?=Z c0/\xs[j*5+1]?=Z c1/\xs[j*5+2]?=Z c2/\xs[j*5+3]?=Z c3/\xs[j*5+4]?=Z c4)/\b8 (DT S w.heap.size X W.heap.size kv.ownBlock V) V 6 acc[j] c0 c1 c2 c3 c4)
  (d:W2.ownsRow (W.heap.size+1) 31 5 (A (b5 g 0) (n+1) cap) (n+1) (xs++[c0,c1,c2,c3,c4])) (a:Wa.grownBy W2 kv.ownBlock) (k:kv.ownBlock=Z g∨g=V.heap.size+1) :
  nU S w W (W2.setCell ⟨W.heap.size,4,Y⟩ (A (b5 g 0) (n+1) cap)) X (acc++[t]) (A (b5 g 0) (n+1) cap):=by
 have r:=h.lt;have i:=p.size;have qn:=cO f;have⟨x,q,z⟩:=pM.push m E E y s v f u d a k;have o:∀b,b≠W.heap.size->(W2.setCell ⟨W.heap.size,4,Y⟩ (A (b5 g 0) (n+1) cap)).heap[b]?=W2.heap[b]?:=λb c=>Qr _ _ _ _ c;have qo:(W2.setCell ⟨W.heap.size,4,Y⟩ (A (b5 g 0) (n+1) cap)).heap.size=W2.heap.size:=zS;have qF:=(q _ r (λe=>by have:=qn _ e;omega)).trans h.box;refine⟨⟨?_,?_,?_,oA,λb c=>?_⟩,?_,x.keep (λb _ c=>o b c) (by rw[qo];exact E) m E i E⟩;·show W2.os=W.os;rw[a.os,l.1];exact h.bw.os
 .show W2.tape=W.tape;rw[a.tape,l.2.1];exact h.bw.tape
 .show W2.output=W.output;rw[a.output,l.2.2];exact h.bw.output
 .rw[o b E,q b E nN];exact h.bw.block b c
 .exact ox
def nU.made (h:nU S w W V X acc kv) (r:Bd S w) (v:Bw w W) (P:w.heap.size<=X) (x:X<W.heap.size) (O:W.heap[X]?=Z d8) (M:J acc<=20000) :
  WU WV 81 #[Za #[I U 4,I U 0,Zt ⟨#[]⟩,A Y 0 0,kv]] V λe n=>Bw V n/\∃z0 o p i m l k sl sc c,e=fT z0 o p i m l k sl sc c/\n.heap[X]?=Z d8/\gG S w (eu (fd 4 0 WT [] acc)) e (dN n X z0 o p i m l k sl sc):=by
 have d:=v.trans (h.bw.mono E);have z:=h.bw.size;have⟨Q,a,L⟩:=h.o;have q:=cO a;have f:dn (Ov S w.heap.size (Z X) V) V (b8 (Ov S w.heap.size (Z X) V) V 6) acc kv:=mq a M (λg C=>by
  have:=q g C
  exact .inr ⟨E,this.2,λe=>FZ⟩) λj K=>by
  have⟨c0,c1,c2,c3,c4,B,N⟩:=L j K
  exact⟨c0,c1,c2,c3,c4,B,N.keep ik λb y=>y.imp id zE⟩
 refine H (lv (Ov S w.heap.size (Z X) V) (fd 4 0 WT [] acc) _ _ _ _ _ V ⟨D,D,D,Q9 _,D,D,lz,f,k8,oJ a⟩ (Ov.lt r d.size)) ?_;intro e n hp;obtain⟨z0,o,p,i,m,l,k,sl,sc,c,s,t,-,u⟩:=hp.pass r d E E zS;exact⟨hp.1,z0,o,p,i,m,l,k,sl,sc,c,s,dy (dy O h.bw) t,u⟩
end
def EvZ(S:ZN)(w:Zw)(r:Except Int V6)(z0 f:Int)(g:ZB)(a e:ZA)(d b sl sc:Nat)(c:Int)(w':Zw):Prop:=
 Bw w w' /\ match r with
  | .ok t=>c=0/\b8 (Ov S w.heap.size Y w') w' 6 t (I U z0) (I U f) (Zt g) (A a d b) (A e sl sc)
  | .error k=>c=k
def gG.z{r:Except Int V6}(h:gG S w r e w'):∃z0 a b g k j i sl sc c,e=fT z0 a b g k j i sl sc c/\EvZ S w r z0 a b g k j i sl sc c w':=by
 obtain⟨d,h⟩:=h;cases r with
 | error c=>exact⟨0,0,⟨#[]⟩,Y,Y,0,0,0,0,c,h,d,D⟩
 | ok t=>obtain⟨c0,c1,c2,c3,c4,rfl,f⟩:=h;obtain⟨z0,a,b,l,n,m,o,q,p,rfl,rfl,rfl,rfl,rfl⟩:=f.shape;exact⟨z0,a,b,l,o,n,m,q,p,0,D,d,D,f⟩
def qbO(S:ZN)(V d:Zw)(r:Except Int V6)(T:Nat)(z0 i:Int)(j:ZB)(e h:ZA)(g f sl sc:Nat)(c:Int):Prop:=
 Bw V d/\V.heap.size<=T/\d.heap[T]?=Z (Zc (Uz z0 i j e g f h sl sc) 31 (0,0)) /\
 match r with
  | .ok a=>c=0/\b8 (λb=>S b∨(V.heap.size<=b/\b<d.heap.size/\b≠T)) d 6 a (I U z0) (I U i) (Zt j) (A e g f) (A h sl sc)
  | .error k=>c=k
def qbN(S:ZN)(V:Zw)(v:Zv)(y:ZB)(g0 g1:Int)(g2:ZB)(q u:ZA)(t s x w:Nat)(K L:Int)(M:ZB)(N z:ZA)(P O C B:Nat)(r:Except Int V6):Prop:=
 ∀a,Bw V a->WU WV 79 #[v,Zt y,Uy g0 g1 g2 q t s u x w] a λe d=>Bw a d/\∃n p o,e=Zr (A n p o) /\
  ∀b,Bw d b->WU WV 24 #[A n p o,Uy K L M N P O z C B] b λe k=>Bw b k/\∃z0 l m g j i h sl sc c,e=fT z0 l m g j i h sl sc c /\
   ∀T f,V.heap.size<=T->Bw k f->f.heap[T]?=Z d8->(T<a.heap.size∨(d.heap.size<=T/\T<b.heap.size)∨k.heap.size<=T)->qbO S V (dN f T z0 l m g j i h sl sc) r T z0 l m g j i h sl sc c
def LC (hm:gj m) {t:T (m+1)} {l:List (ZB × V6)} (hB:Bd S w) (hv:fM S w 6 l v) (hg:c7 (m+1) t d=true) (C:F.k t<=35) (Q:cJ (m+1) t<=200) (hl:(J l:Int)<=1048576+2*d) (W:∀ p,p∈l->dB 6 p.2=true)
  {k:V6} {g0 g1:Int} {g2:ZB} {Z ha:ZA} {ql z o hc:Nat} (hk:b8 S w 6 k (I U g0) (I U g1) (Zt g2) (A Z ql z) (A ha o hc)) (G:dB 6 k=true) (R:n0.size<=WX) (hi:i<J (F.o t)) (hy:b8 S w m (F.o t)[i] (I U y0) (I U y1) (Zt y2) (A za zl zc) (A ua ul uc))
  (qc:Bw w V):qbN S V v n0 g0 g1 g2 Z ha ql z o hc y0 y1 y2 za ua zl zc ul uc (b7 m (F.o t)[i] ((n0,k) :: l.reverse)):=by
 intro s B;have hd:=pD hg;have ab:=B.size;have ad:=qc.size;have g:=qc.trans (B.mono E);have j:Bd S s:=λb hb=>Qn (hB b hb) E;refine H (mM (hv.keep (b6 g hB) zI) (hk.keep (b6 g hB) zI) j E R) ?_;rintro e u ⟨x,v2,rfl,q⟩;obtain⟨oa,oc,rfl,-⟩:=id q;refine⟨x,oa,_,oc,D,λqq y=>?_⟩;have q8:=x.size;have q7:=y.size;have N:=g.trans (x.mono E);have O:=N.trans (y.mono E);have n:Bd (Ov S s.heap.size Y u) u:=Ov.lt j q8;have L:Bd (Ov S s.heap.size Y u) qq:=λb hb=>Qn (n b hb) q7;have:=hm.kid hi (hy.keep (b6 O hB) λb hb=>.inl hb) (q.keep (b6 y n) zI) L hg C Q (by simp only[Qi,Qs,Q0];omega) (λp hp=>by
  rcases QF.1 hp with hp|hp
  .exact W p hp
  .rw[QR]at hp;subst hp;exact G)
 have er:(l++[(n0,k)]).reverse=(n0,k) :: l.reverse:=dS;rw[er]at this;refine this.mono λe w2 hp=>⟨hp.1,?_⟩;obtain⟨z0,z1,z2,ra,sa,rl,rc,sl,sc,c,rfl,hb,X⟩:=hp.z;refine⟨z0,z1,z2,ra,sa,rl,rc,sl,sc,c,D,λT V4 q6 K P aa=>?_⟩;have ae:=hb.size;have ac:=K.size;have M:Bw V V4:=((B.trans (x.mono E)).trans (y.mono E)).trans ((hb.mono E).trans (K.mono E));refine⟨dk M q6,q6,nH P,?_⟩;generalize b7 m (F.o t)[i] ((n0,k) :: l.reverse)=r at *;cases r with
 | error k=>exact X
 | ok a=>
  refine⟨X.1,?_⟩;have f:∀b,Ov (Ov S s.heap.size Y u) qq.heap.size Y w2 b->b<w2.heap.size/\(S b∨(V.heap.size<=b/\b≠T)):=λb hb=>by
   rcases hb with (hb|hb)|hb;·exact⟨pf,.inl hb⟩
   .exact⟨E,E⟩
   .exact E
  refine X.2.keep (λb hb=>?_) λb hb=>?_
  .have h:=f b hb;rw[dt,K.block b h.1];rcases h.2 with q5|q5;·have:=hB b q5;omega
   .exact q5.2
  .have h:=f b hb;exact h.2.imp id λqa=>⟨qa.1,Ab,qa.2⟩
