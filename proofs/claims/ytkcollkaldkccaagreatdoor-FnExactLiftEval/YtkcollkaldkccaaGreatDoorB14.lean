import Derived.Test.YtkcollkaldkccaaGreatDoorB13
set_option linter.all false
open List renaming length -> J,length->Uh,range->Ua,getD->Un
open Go.Calls renaming mono -> H
open Go.Value renaming slice->A,int->I,string->Zt,pointer->Zp,agg->Za,tuple->Zu,bool->Zb,ownBlock->Uj,string->Ul,slice->Uc
open Go.IntKind renaming i64->U
open Go.Ending renaming returned->Zr
open Go.Obj renaming cells->Zc
open Option renaming none->Y,some->Z
open Go renaming World->Zw,Value->Zv,maxLen->WX,TypeId->W9,Calls->WU
open Array renaming setIfInBounds->Ur
open ByteArray renaming empty->WT
open Go.World renaming frozen?->W7,setCell->Ug,cell?->WY
open Go.Proofs.Tryz renaming prog->WV
open Go.RowKit renaming Hid->G
namespace Go.Proofs.YtkcollkaldkccaaGreatDoor
open Go.RowKit Go.Proofs.Tryz
set_option maxRecDepth 100000
set_option maxHeartbeats 16000000
variable {α:Type} {env:gk} {c:Array Zv} {O m sb g b k i n base cap Fzq L B vb j Gzq off M kb mb:Nat} {w W wr w' w3 w2 w0:Zw} {C Q C2 S S' Azq:ZN} {r l:List (ZB×Nat)} {cs:List Nat} {s:ZB} {v' v x c1 c2 sv c0 c3 c4 cv vv av u:Zv} {o:Oper} {xs ys:List Zv} {ns:List ZB} {ρ:Go.Shelf.Ren} {a:ZA} {P:Program} {ops:Array Oper} {rest:List Oper} {t:W9} {d:Int}
def Kc(i:Nat)(b:Int)(r:Except Int V6):dD 24 i b r=r:=by
 cases r with
 | error c=>rfl
 | ok a=>simp[dD,dV]
def P9{ev:α->gk->Except Int V6}{k:α}{q:List α}{acc:List V6}{y:V6}(h:ev k env=.ok y):iJ ev 24 env (k :: q) acc=iJ ev 24 env q (acc++[y]):=by rw[iJ,Kc,h]
def P7{ev:α->gk->Except Int V6}{k:α}{q:List α}{acc:List V6}{c:Int}(h:ev k env=.error c):iJ ev 24 env (k :: q) acc=.error c:=by rw[iJ,Kc,h]
def Kp.less{O a:ZN}(h:Kp O w W)(d:∀b,b<w.heap.size->O b->a b):Kp a w W:=
 ⟨h.os,h.tape,h.output,h.size,λb c f=>h.block b c λg=>f (d b c g),λ_ _ e=>h.cells e⟩
def g9.roundF {t:T (m+1)} (h:g9 C Q w m t r env cs sb) {k:T m} {s:Nat} (f:ll C Q w m k r g s)
  (i:∀b,b<w.heap.size->(C2 b↔C b)) (n:∀b,C2 b->b<wr.heap.size) (j:Kp (de Q cs) w wr) (l:∀b,v'.ownBlock=Z b->w.heap.size<=b/\b<wr.heap.size) :
  WU WV 67 #[Zp (b5 g 0),Zp (b5 s 0)] wr (se C2 Q v' wr (b7 m k env)):=by
 have d:=h.ownC;have a:∀b,b<w.heap.size->((C2 b∨v'.ownBlock=Z b)↔C b):=λb hb=>⟨λh=>h.elim (i b hb).1 λe=>by have:=l b e;omega,λh=>.inl ((i b hb).2 h)⟩;have o:=fp.move a h.lt j d h.env λp hp q=>q.elim (h.away p hp).1 (h.away p hp).2;refine (f _ _ _ (λb hb=>(a b hb).1) (λb hb=>(a b (h.lt b (h.own b hb))).2 (h.own b hb)) (λb hb=>?_) (j.mono d) o).mono λe v hp=>⟨hp.1,?_⟩
 .rcases hb with hb|hb;·exact n b hb
  .exact (l b hb).2
 .have hp:=hp.2;cases hR:b7 m k env with
  | error c=>rw[hR]at hp;exact hp
  | ok b=>exact YB
def lQ.put{O:ZN}{m:List V6}{o:Nat}(h:lQ C O w wr m v)(s:O b)(r:C b)(M:b<w.heap.size)(z:∀u,dI w b u->False):lQ C O w (wr.setCell ⟨b,o,Y⟩ v') m v:=by
 have⟨L,l,B⟩:=h.row;have q:∀k,k≠b->(wr.setCell ⟨b,o,Y⟩ v').heap[k]?=wr.heap[k]?:=λk a=>Qr _ _ _ _ a;refine⟨⟨h.k.os,h.k.tape,h.k.output,by simpa using h.k.size,λk a d=>(q k λe=>d (e ▸ s)).trans (h.k.block k a d),λk _ t=>?_⟩,L,cV l λg x=>q g ?_,λj y=>?_⟩;·obtain⟨u,i⟩:=t;have⟨K,f⟩:=h.k.cells ⟨u,i⟩;exact⟨K,(q k λe=>z u (e ▸ i)).trans f⟩
 .have:=cO l g x;omega
 .have⟨c,n,p⟩:=B j y;exact⟨c,n,p.keep (λk a=>q k λe=>a.2.1 (e ▸ r)) λk a=>⟨by simpa using a.1,a.2⟩⟩
def SX{y:Zv}{a:W9}(h:w.heap[b]?=Z (Zc #[x,y] a (0,0)))(c:Zv):(w.setCell ⟨b,1,Y⟩ c).heap[b]?=Z (Zc #[x,c] a (0,0)):=by simp[Ug,QQ,h]
def Tryz.info_fm:(prog.info? 71).map (λi=>(i.zero,i.size,i.bytes))=Z (Z .nilIface,1,16):=gZ
def LJ {t:T (m+1)} (h:g9 C Q w m t r env cs sb) (ql:F.k t=24) :
  WU WV 124 #[Zp (b5 sb 0)] w (cQ C (de Q cs) w (b7 (m+1) t env)):=by
 have hv:=h.ok.2;have⟨ao,aD⟩:=hv.frm ql;have aq:ee (F.q t)=true:=by unfold ee fK;rw[Qo];intro i hi;have:=aD i (Q7.1 hi);unfold kr at this;rw[Qc]at this;exact this.1
 have av:G (b7 (m+1) t env=match iJ (b7 m) 24 env (F.o t) [] with|.error c=>.error c|.ok a=>eu (fd 5 0 WT (F.q t) a)):=by show gF (b7 m) (show F (T m) from t) env=_;rw[mB (by show F.k t≠4;omega) (by show hZ (F.k t)=false;rw[ql];decide)];show (match iJ (b7 m) (F.k t) env (F.o t) [] with|Except.error c=>Except.error c|Except.ok a=>e8 (F.k t) (F.n t) (F.a t) (F.q t) a)=_;rw[ql];cases iJ (b7 m) 24 env (F.o t) []<;>rfl
 obtain⟨c3,c4,d0,d1,d2,d3,d4,ap,-,-⟩:=h.stp.node;obtain⟨a3,P,rfl,-⟩:=id ap;have⟨va,vc,c6,j2⟩:=h.stp.vals;have aZ:=h.stp.nc;have an:=h.lt;have O:=h.ownC;have aI:=h.few;have ay:G (∀(i:Nat)(k:T m),(F.o t)[i]?=Z k->lR (b7 m k env)):=λi k hk=>h.okE hk env h.env.ok;have⟨i0,hi,ae,af,ag⟩:=QY Tryz.info_fm;have HI:G (_/\_/\_/\_):=⟨hi,ae,af,ag⟩;have ab:G (∀b,(de Q cs b∨b=w.heap.size)->(C b∨b=w.heap.size)):=λb p=>p.imp (O b) id;have L:G (∀b,(C b∨b=w.heap.size)->b<(w.alloc (Zc #[A a3 (J (F.q t)) P,A Y 0 0] 128)).heap.size):=λb p=>by
  rcases p with p|p;·have:=an b p;simp;omega
  .exact gE
 have HV:G (∀i k,(F.o t)[i]?=Z k->∃vb vo,va=b5 vb vo/\¬C vb/\∃g s,a7 w vb (vo+i)=Z (eN g s)/\ll C Q w m k r g s):=λi k hk=>by obtain⟨hi,rfl⟩:=QN.1 hk;obtain⟨vb,vo,rfl,h1,h2⟩:=j2 JU;have⟨g,s,h3,h4⟩:=h2 i hi;rw[Qd (by rw[ql];unfold nW;rw[Qd zC,Qd zC];omega)]at h4;exact⟨vb,vo,D,h1.2,g,s,h3,h4⟩
 have ac:=a8 h;have aP:=a8 ap;have aM:=Qh w (Zc #[A a3 (J (F.q t)) P,A Y 0 0] 128);clear hi ae af ag h hv j2 ap d0 d1 d2 d4 aD;generalize b7 (m+1) t env=R at *;obtain⟨n,am⟩:∃n,J (F.o t)=n:=⟨_,D⟩;rw[am]at c6 aI ao;have vC:=a8 am;have aO:=a8 ao;have aX:a7 (w.alloc (Zc #[A a3 (J (F.q t)) P,A Y 0 0] 128)) sb 6=Z (A va n vc):=kC (eC w _) c6 (dK c6);clear am ao;go_in;go_wp2_with fail;go_loopw [17] (λi wr=>∃k:Nat,k<=n/\i=I U k/\∃(a:List V6)(v:Zv),lQ (λb=>C b∨b=w.heap.size) (λb=>de Q cs b∨b=w.heap.size) (w.alloc (Zc #[A a3 (J (F.q t)) P,A Y 0 0] 128)) wr a v/\J a=k/\wr.heap[w.heap.size]?=Z (Zc #[A a3 (J (F.q t)) P,v] 128 (0,0))/\iJ (b7 m) 24 env (F.o t) []=iJ (b7 m) 24 env ((F.o t).drop k) a) (λi _=>n-(intOf i).toNat);case atStart=>exact⟨0,E,D,[],_,lQ.start _ _ _,D,aM,D⟩
 case round=>
  obtain⟨k,hk,rfl,a,v,X,aG,ak,aC⟩:=hrel;have au:=X.k.size;simp at au;have N:=a8 X;have qq:=a8 aC;have ai:=a8 aG;have qa:=a8 ak;have z:G (Kp (de Q cs) w wr):=((Kp.of_below (eC w (Zc #[A a3 (J (F.q t)) P,A Y 0 0] 128))).trans X.k).less λb p ho=>ho.elim id E;have⟨xs,q5,aL⟩:=id X.row;obtain⟨f,l,rfl⟩:=ep q5;have HX:G (wr.ownsRow (w.heap.size+1) 71 1 (A f (J a) l) (J a) xs):=by show World.ownsRow _ _ _ _ _ _ _;simpa using q5
  have W:=a8 aL;have aY:J a<=200:=E;obtain⟨⟨b0,b1⟩,-,-⟩:=ef ak;clear X aC q5 aL aG ak;by_cases zf:k<n
  .have q9:(F.o t)[k]?=Z ((F.o t)[k]'Af):=zS;obtain⟨vb,vo,rfl,aU,g,s,aE,aH⟩:=HV.out k _ q9;have aJ:=ay.out k _ q9;have aj:G ((F.o t).drop k=(F.o t)[k]'Af :: (F.o t).drop (k+1)):=pC Af;generalize (F.o t)[k]'Af=kd at *;have aF:=(z.mono O).cell aE aU;have al:Kp (de Q cs) w wr.drew:=z.drew;have az:=a8 (ac.roundF aH (C2:=λb=>C b∨b=w.heap.size) (wr:=wr.drew) (v':=A f (J a) l) (λb p=>⟨λh=>h.elim id λe=>E,.inl⟩) (λb p=>by have:=L.out b p;simp at this;show b<wr.heap.size;omega) al λb p=>by have:=N.far b p;simp at this;exact⟨E,this.2⟩);have aB:=N.keep (Kp.refl (λb=>de Q cs b∨b=w.heap.size) wr).drew zI ab L;clear q9 aE aH;go_upto_region 5 with fail;refine Qz (S:=λ_=>True) zK trivial (λhHeld=>?_);have N:=a8 aB;have z:=a8 al;have qa:G (wr.drew.heap[w.heap.size]?=Z (Zc #[A a3 (J (F.q t)) P,A f (J a) l] 128 (0,0))):=qa.out;have HX:G (wr.drew.ownsRow (w.heap.size+1) 71 1 (A f (J a) l) (J a) xs):=HX.drew;have W:G (∀j (h:j<J a),∃c,xs[j]?=Z c/\cN (Sg (λb=>C b∨b=w.heap.size) (A f (J a) l) wr.drew) wr.drew 6 a[j] c):=λj hj=>by have⟨c,h1,h2⟩:=W.out j hj;exact⟨c,h1,h2.keep ik zI⟩
   have b1:a7 wr.drew w.heap.size 1=Z (A f (J a) l):=b1;have au:w.heap.size+1<=wr.drew.heap.size:=au;clear aB al b0 aF;generalize wr.drew=V at *;refine t2 0 2 ?_;refine XG (rs:=[1,3]) zK zS ?_;refine QO D (λK hK=>?_) (QO D (λK hK=>?_) Xy);go_simp;refine hK.out _ _ trivial (λhHeld=>?_);clear hK K b1;refine ic 3 λK hK=>?_;rotate_left;clear b1;all_goals
    go_simp
    go_at_call 67
    refine H az ?_
    intro e w2 hp
    obtain⟨B,⟨c',er,rfl⟩|⟨y,vy,er,hy,rfl,ar⟩⟩:=hp.get aJ
    .refine⟨D,eP (z.trans (B.mono λ_=>.inl)) ?_⟩
     rw[av.out,qq.out,aj.out,P7 er]
    have aA:=N.keep B (λ_ h=>.inl (.inl h)) ab L
    obtain⟨yu,yx,rfl⟩:=ar.iface
    have ba:=B.size
    have aa:G (w2.heap[w.heap.size]?=Z (Zc #[A a3 (J (F.q t)) P,A f (J a) l] 128 (0,0))):=(B.block w.heap.size E λh=>by have:=an _ (O _ (.inl h));omega).trans qa
    have qc:G (w2.ownsRow (w.heap.size+1) 71 1 (A f (J a) l) (J a) xs/\∀j (h:j<J a),∃c,xs[j]?=Z c/\cN (Sg (λb=>C b∨b=w.heap.size) (A f (J a) l) w2) w2 6 a[j] c):=by
     refine⟨cV HX λg' aR=>?_,λj hj=>?_⟩
     .have h3:=cO HX g' aR
      exact B.block g' h3.2 λh=>by have:=an g' (O g' (.inl h));omega
     .have⟨d,e1,e2⟩:=W.out j hj
      exact⟨d,e1,e2.keep (B.same λb p=>⟨p.1,λho=>p.2.1 (.inl (O b (.inl ho)))⟩) λb p=>⟨Qn p.1 E,p.2⟩⟩
    have ah:=a8 aA
    have HY:=a8 ar
    have aQ:G (iJ (b7 m) 24 env (F.o t) []=iJ (b7 m) 24 env ((F.o t).drop (k+1)) (a++[y])):=by
     show _=_
     rw[qq.out,aj.out]
     exact P9 er
    obtain⟨⟨m0,m1⟩,-,-⟩:=ef aa
    refine hK.out _ _ trivial (λhHeld=>?_)
    clear hK K hp ar aA er B az aj
   refine XG (rs:=[1,4]) zK zS ?_;refine QO D (λK hK=>?_) (QO D (λK hK=>?_) Xy);iterate 2
    go_simp
    refine hK.out _ _ trivial (λhHeld=>?_)
    clear hK K
    rotate_left
   iterate 2
    refine qk 4 ?_ λhHeld=>?_
    exact trivial
    rotate_left
   have m2:a7 (w2.alloc (Zc #[.iface yu yx] 71)) w.heap.size 1=Z (A f (J a) l):=kC (eC w2 _) m1 E;refine qk 1 ?_ λhHeld=>?_;exact trivial;clear m2;all_goals
    refine ic 5 λK hK=>?_
    refine Xd _ cU (.tmp 22) (.tmp 25) 124 cU (w.heap.size+1) 71 i0 .nilIface 1 16 underlying124 HI.1 HI.2.1 HI.2.2.1 HI.2.2.2 D zC (A f (J a) l) (J a) xs cU (qc.1.alloc _) ⟨w2.heap.size,0,Y⟩ 1 1 [.iface yu yx] cU D (QB (Qh w2 _)) iz zC fA E gE (w2.heap.size+1) zS ?_
    intro gg M w3 q6 q ad aV
    have aw:G (lQ (λb=>C b∨b=w.heap.size) (λb=>de Q cs b∨b=w.heap.size) (w.alloc (Zc #[A a3 (J (F.q t)) P,A Y 0 0] 128)) w3 (a++[y]) (A (b5 gg 0) (J a+1) M)):=ah.add HY (by simpa using qc.1) qc.2 (by simpa using q6) q ad
    have j0:w3.heap[w.heap.size]?=Z (Zc #[A a3 (J (F.q t)) P,A f (J a) l] 128 (0,0)):=by
     rw[q.block w.heap.size zE (λe=>by have:=ah.far _ e.symm;simp at this;omega),Qf _ _ _ E]
     exact aa
    have⟨⟨x0,x1⟩,y0,y1⟩:=ef j0
    refine hK.out _ _ trivial (λhHeld=>?_)
    clear hK K q6 q ad qc HX W ah HY
    refine tk 6 ?_
    refine qk 7 ?_ λhHeld=>?_
    exact trivial
    have aN:=a8 (aw.put (b:=w.heap.size) (o:=1) (v':=A (b5 gg 0) (J a+1) M) E E zS (λu hu=>by unfold dI at hu;rw[aM]at hu;simp at hu))
    have ax:G ((w3.setCell ⟨w.heap.size,1,Y⟩ (A (b5 gg 0) (J a+1) M)).heap[w.heap.size]?=Z (Zc #[A a3 (J (F.q t)) P,A (b5 gg 0) (J a+1) M] 128 (0,0))):=SX j0 _
    clear aw j0 x0 x1 y0 y1 m0 m1
    refine Xi zK ?_ _
    go_simp
    go_wp2_with fail
    go_roundw
    case rel=>exact⟨k+1,E,ew,a++[y],_,aN,by have:=ai.out;simp;omega,ax,aQ⟩
    case measure=>exact eb
  .have aS:k=n:=E;have q7:iJ (b7 m) 24 env (F.o t) []=.ok a:=by rw[qq.out,Xw (by rw[vC.out];omega)];exact cU
   have aW:w.heap.size<wr.heap.size:=E;have HB:G (WU WV 105 #[.iface 128 (Za #[A a3 (J (F.q t)) P,A f (J a) l])] wr (cQ C (de Q cs) w R)):=by
    have hr:R=eu (fd 5 0 WT (F.q t) a):=by rw[av.out,q7]
    rw[hr];have aT:∀x,x∈a->dB 6 x=true:=by
     have h5:=Kb (op:=24) (ev:=b7 m) (env:=env) (kids:=F.o t) (acc:=[]) (λk hk=>by
      obtain⟨i,hi,rfl⟩:=QT hk
      exact ay i _ zS) zS
     rw[q7]at h5;exact h5
    have hd:=N.done L (by have:=ai.out;unfold WX;omega);have aK:fB (Sn C wr) wr (cN (Sn C wr) wr 6) a (A f (J a) l):=hd.row.keep ik (λb p=>⟨p.1,λhc=>p.2 (.inl hc)⟩) λ_ _ _ hx=>hx.keep ik λb p=>⟨p.1,λhc=>p.2 (.inl hc)⟩;have q8:cR (Sn C wr) wr (F.q t) (A a3 (J (F.q t)) P):=aP.keep (Sn.same z O) (Sn.up E);refine iU z (.inr (.inr (.inr (.inr (.inl ⟨D,_,_,D,q8,aK⟩))))) T7 Cl aT (.inl ?_);show cM 5 0 WT (F.q t) (J a)=true;have:=ai.out;have:=aO.out;simp[cM,aq];omega
   clear N qq HX W q7 aS HV ac qa z;exact MO
theorem kN(a:k<=b):∀(c:List Zv)(o:Nat){V:Zw},Below k w V->Below k w (V.setCells b o c)
 | [],_,_,h=>h
 | v :: r,o,V,h=>by rw[World.setCells];exact kN a r (o+1) (h.setCell a _)
theorem iy(b:Nat):∀(a:List Zv)(o:Nat)(w:Zw),(w.setCells b o a).heap.size=w.heap.size
 | [],_,_=>rfl
 | v :: r,o,w=>by rw[World.setCells,iy b r];simp[Ug]
def KU (p:i<=n) (m:J xs=n) (e:∀ j v,xs[j]?=Z v->w.cell? ⟨g,j,Y⟩=Z v) (c:∀ j,j<n+1->(w.cell? ⟨g,j,Y⟩).isSome=true) :
  ∀j v,(xs.take i++x :: xs.drop i)[j]?=Z v->((w.setCells g (i+1) (xs.drop i)).setCells g i [x]).cell? ⟨g,j,Y⟩=Z v:=by
 intro j v a;have f:J (xs.drop i)=n-i:=by rw[XZ,m]
 have b:∀j,j<J (xs.drop i)->(w.cell? ⟨g,i+1+j,Y⟩).isSome=true:=λj a=>c _ E;rcases WK j i with h|h|h;·rw[Xr g _ _ _ _ (λ_ _=>.inl h),Xr g _ _ _ _ (λ_ _=>.inl (by show j<i+1;omega))];rw[QA rd,Xz h]at a;exact e j v a
 .subst h;rw[Qu rd,Xj,show j-min j (J xs)=0 by omega]at a;simp only[XS,XP]at a;subst a;exact Zh g [x] j _ (λk l=>by obtain rfl:k=0:=(by simpa using l);exact Wt g _ _ _ b _ (c j E)) 0 zS
 .rw[Xr g _ _ _ _ (λ_ _=>.inr (by show i+1<=j;omega))];rw[Qu rd,Xj,show j-min i (J xs)=(j-i-1)+1 by omega,Z5]at a;have⟨d,o⟩:=QN.1 a;have:=Zh g (xs.drop i) (i+1) w b (j-i-1) d;rw[show i+1+(j-i-1)=j by omega,o]at this;exact this
def GU (m:i<=n) (k:J xs=n) (e:∀ j v,j<i->xs[j]?=Z v->w.cell? ⟨g,j,Y⟩=Z v) (b:∀ j,j<n+1->(w.cell? ⟨g,j,Y⟩).isSome=true) :
  ∀j v,(xs.take i++x :: xs.drop i)[j]?=Z v->((w.setCells g i [x]).drew.setCells g (i+1) (xs.drop i)).cell? ⟨g,j,Y⟩=Z v:=by
 intro j v hj;have f:J (xs.drop i)=n-i:=by rw[XZ,k]
 have a:∀j,j<[x].length->(w.cell? ⟨g,i+j,Y⟩).isSome=true:=λj hj=>b _ Bi;have d:∀j,j<J (xs.drop i)->((w.setCells g i [x]).drew.cell? ⟨g,i+1+j,Y⟩).isSome=true:=λj hj=>Wt g _ _ _ a _ (b _ E);rcases WK j i with h|h|h;·rw[Xr g _ _ _ _ (λ_ _=>.inl (by show j<i+1;omega))];refine (Xr g [x] i w ⟨g,j,Y⟩ zE).trans ?_;rw[QA rd,Xz h]at hj;exact e j v h hj
 .subst h;rw[Qu rd,Xj,show j-min j (J xs)=0 by omega]at hj;simp only[XS,XP]at hj;subst hj;rw[Xr g _ _ _ _ (λ_ _=>.inl (by show j<j+1;omega))];exact Zh g [x] j w a 0 zS
 .rw[Qu rd,Xj,show j-min i (J xs)=(j-i-1)+1 by omega,Z5]at hj;have⟨c,l⟩:=QN.1 hj;have:=Zh g (xs.drop i) (i+1) (w.setCells g i [x]).drew d (j-i-1) c;rw[show i+1+(j-i-1)=j by omega,l]at this;exact this
def DO(base g0:Nat)(w:Zw)(a:List Zv)(e:Ending)(w':Zw):Prop:=
 ∃g cap,e=Zr (A (b5 g 0) (J a) cap)/\base<=g/\g<w'.heap.size/\Below base w w' /\ (∀j v,a[j]?=Z v->a7 w' g j=Z v)/\(∀b,b<w.heap.size->b≠g0->w'.heap[b]?=w.heap[b]?)/\(g=g0∨w.heap.size<=g)
def BK{g0:Nat}{T:W9}(h:w'.ownsRow base T 1 (A (b5 g 0) n cap) n ys)(l:Below base w w')(e:g<w'.heap.size)(o:∀b,b<w.heap.size->b≠g0->w'.heap[b]?=w.heap[b]?)(a:g=g0∨w.heap.size<=g):DO base g0 w ys (Zr (A (b5 g 0) n cap)) w':=by
 obtain⟨i,⟨h,-⟩|⟨q,f,qH,h,c,xR,p,m,d,zi⟩⟩:=h;·exact eI
 injection h with h _ k;injection h with h;injection h with h;subst h k;simp only[WS]at i d zi;refine⟨g,cap,by rw[i],c,e,l,λj v hj=>?_,o,a⟩;exact PC
def mG(a O T L B:Nat)(z:Zv):Prop:=
 (a=210/\O=235/\T=9/\L=23/\B=16/\z=Zt ⟨#[]⟩) ∨
 (a=211/\O=237/\T=71/\L=124/\B=16/\z=.nilIface)
def tS:mG 210 235 9 23 16 (Zt ⟨#[]⟩):=.inl ⟨D,D,D,D,D,D⟩
def tK:mG 211 237 71 124 16 .nilIface:=.inr ⟨D,D,D,D,D,D⟩
def mG.inf{T:Nat}{z:Zv}(h:mG Fzq O T L B z):(prog.info? T).map (λi=>(i.zero,i.size,i.bytes))=Z (Z z,1,B):=by exact TR
def mG.und{T:Nat}{z:Zv}(h:mG Fzq O T L B z):prog.underlying L=Z (.slice T):=by exact TR
def mG.sz{T:Nat}{z:Zv}(h:mG Fzq O T L B z):∀w,Sem.run WV (sizeOf T) w=.ok 1 w:=by
 rcases h with ⟨rfl,rfl,rfl,rfl,rfl,rfl⟩|⟨rfl,rfl,rfl,rfl,rfl,rfl⟩;·exact sizeOf9
 .exact sizeOf71
def mG.ov{T:Nat}{z:Zv}(h:mG Fzq O T L B z)(args:Array Zv)(w:Zw):(callFunc O args).run WV w=((Extern.SlicesOverlaps.overlaps #[L,L] #[4] args).run WV w).andThen λv a=>.ok (.value v) a:=by
 rcases h with ⟨rfl,rfl,rfl,rfl,rfl,rfl⟩|⟨rfl,rfl,rfl,rfl,rfl,rfl⟩;·exact run_callFunc_extern func235 zK zK zK zK _ _
 .exact run_callFunc_extern func237 zK zK zK zK _ _
def mG.le{T:Nat}{z:Zv}(h:mG Fzq O T L B z):B<=16/\1<=B/\z.cells=#[z]:=by rcases h with ⟨rfl,rfl,rfl,rfl,rfl,rfl⟩|⟨rfl,rfl,rfl,rfl,rfl,rfl⟩<;>exact⟨zC,zC,D⟩
def RV {T:Nat} {z:Zv} (v:mG Fzq O T L B z) (r R:Nat) (o:w.ownsRow base T 1 (A (b5 g 0) n cap) n xs) (F:a7 w r 0=Z x) (qc:x.oneCell'=true) (q5:n<=1000) (f:base<=w.heap.size) :
  WU WV Fzq #[A (b5 g 0) n cap,I U n,A (b5 r 0) 1 R] w λe s=>∃d a,e=Zr (A (b5 d 0) (n+1) a)/\s.ownsRow base T 1 (A (b5 d 0) (n+1) a) (n+1) (xs++[x])/\Below base w s/\d<s.heap.size/\(∀b,b<w.heap.size->b≠g->s.heap[b]?=w.heap[b]?)/\(d=g∨w.heap.size<=d):=by
 have P:=a8 o;have⟨qa,y,K,M,N⟩:=QY v.inf;have p:G (_/\_/\_/\_):=⟨y,K,M,N⟩;have V:=a8 v.und;have W:G (∀j u,[x][j]?=Z u->w.cell? ((⟨r,0,Y⟩:Addr).add j)=Z u):=λj u h=>by
  cases j with
  | zero=>simp only[XS,XP]at h;subst h;simpa [Addr.add] using F
  | succ j=>simp at h
 have S:G (∀u∈[x],u.oneCell'=true):=λu Q=>by simp only[QR]at Q;subst Q;exact qc
 rcases v with ⟨rfl,rfl,rfl,rfl,rfl,rfl⟩|⟨rfl,rfl,rfl,rfl,rfl,rfl⟩;all_goals
  go_in
  go_wp2_with (at_builtin;refine Xb _ D (.tmp 23) (.tmp 24) _ D base _ qa _ 1 _ V.out p.1 p.2.1 p.2.2.1 p.2.2.2 D zC (A (b5 g 0) n cap) n xs D P.out ⟨r,0,Y⟩ 1 R [x] D D W.out S.out zC fA E f w.heap.size D ?_;intro X k t i c l m;refine XE ?_)
  all_goals
   refine QJ ?_
   have HF:G (∃d a,Ending.returned (A (b5 X 0) (n+1) k)=Zr (A (b5 d 0) (n+1) a)/\t.ownsRow base _ 1 (A (b5 d 0) (n+1) a) (n+1) (xs++[x])/\Below base w t/\d<t.heap.size/\(∀b,b<w.heap.size->b≠g->t.heap[b]?=w.heap[b]?)/\(d=g∨w.heap.size<=d)):=
    ⟨_,_,D,i,(Qg base w).grown c f (λq ql=>(dT P q ql).1),m,λb qq C=>c.block b qq (λe=>C ML),l.elim (λe=>.inl (by simpa [Uj] using e.symm)) E⟩
   exact FE
def N9 {T:Nat} {z:Zv} (o:mG Fzq O T L B z) (V:Nat) (i:Nat) (P:w.ownsRow base T 1 (A (b5 g 0) n cap) n xs) (S:w.heap[vb]?=Z (Zc #[x] T (0,0))) (Q:vb≠g) (ql:x.oneCell'=true) (qa:∀ v∈xs,v.oneCell'=true) (hi:i<n) (j0:n+1<=cap) :
  WU WV Fzq #[A (b5 g 0) n cap,I U i,A (b5 vb 0) 1 V] w (DO base g w (xs.take i++x :: xs.drop i)):=by
 obtain⟨qq,⟨h,-⟩|⟨g',q7,qH,h,p,xR,ah,y,C,zi⟩⟩:=P;·exact eI
 injection h with h _ h3;injection h with h;injection h with h;subst h h3;simp only[WS]at qq C zi;have K:=(Qe.1 xR).1;have q:∀j v,xs[j]?=Z v->a7 w g j=Z v:=λj v hj=>by exact PC
 have c:∀j,j<n+1->(a7 w g j).isSome=true:=λj hj=>by have:qH[j]?=Z qH[j]:=zS;simp[WY,xR,this]
 have r:∀j,w.frozen? ⟨g,j,Y⟩=false:=λj=>by simp[W7,xR]
 have R:a7 w vb 0=Z x:=by simp[WY,S]
 have s:(prog.info? T).map (·.size)=Z 1:=by have⟨i0,q8,h0,ql,h2⟩:=QY o.inf;rw[q8];simp[ql]
 have q5:∀F X,(callFunc O #[A (b5 vb 0) 1 V,A (b5 g (i+1)) F X]).run WV w=.ok (.value (Zb false)) w:=λF X=>by rw[o.ov,Lib.run_overlaps_apart w L 4 T o.und 1 o.sz ⟨vb,0,Y⟩ ⟨g,i+1,Y⟩ 1 V F X Q T T 1 qH.size (by simp[World.shape?,S]) (by simp[World.shape?,xR]) E (by simp[W7,S]) (by simp[W7,S])];exact cU
 have q9:J (xs.drop i)=n-i:=by rw[XZ,qq]
 have qc:=QJ (KU (w:=w.drew) (x:=x) (Nat.le_of_lt hi) qq q c);have⟨u,a⟩:=fk (w.drew.setCells g (i+1) (xs.drop i));have e:∀t d W m sc,J xs-i=Nat.min W d->(Builtin.copy_ #[L,L] t #[A (b5 g (i+1)) d m,A (b5 g i) W sc]).run WV w.drew=.ok (goInt (J (xs.drop i))) u:=λt d W m sc hm=>by
  rw[a];exact WC w.drew _ _ t T g (i+1) d m ⟨g,i,Y⟩ W sc (xs.drop i) o.und s (by rw[XZ];exact hm)
   (λj v hj=>by rw[XC];exact q (i+j) v (by rwa [Z3]at hj))
   (λj hj=>c _ E) (λj hj=>r _) (λv hv=>qa v (ZF hv))
 have l:∀k,k<n+1->(a7 u g k).isSome=true:=λk hk=>by rw[a];exact Wt g (xs.drop i) (i+1) w.drew (λj hj=>c _ E) _ (c k hk)
 have f:∀t d m,1<=d->(Builtin.copy_ #[L,L] t #[A (b5 g i) d m,A (b5 vb 0) 1 V]).run WV u=.ok (goInt 1) (u.setCells g i [x]):=λt d m hd=>
  WC u _ _ t T g i d m ⟨vb,0,Y⟩ 1 V [x] o.und s (by show 1=min 1 d;omega)
   (λj v hj=>by
    rw[XC,a,Xr g _ _ _ _ (λh _=>absurd h Q)]
    cases j with
    | zero=>simp only[XS,XP]at hj;subst hj;exact R
    | succ j=>simp at hj)
   (λj hj=>l _ Bi) (λj hj=>by rw[a,World.frozen?_setCells];exact r _) zE
 have HF:G (DO base g w (xs.take i++x :: xs.drop i) (Zr (A (b5 g 0) (n+1) cap)) (u.setCells g i [x])):=by refine⟨g,cap,by rw[Qi,Xj,Qs,q9,show min i (J xs)+(n-i+1)=n+1 by omega],p,by rw[iy,a,iy];exact K,?_,by rw[a];exact qc,λb hb N=>by rw[a,ZD _ _ _ _ (by rw[iy];exact hb) N];exact ZD w.drew _ _ _ hb N,E⟩;rw[a];exact kN p _ _ (kN p _ _ (Qg _ _).drew)
 have am:¬((i:Int)=(n:Int)):=E;have ab:¬(cap=i+1):=E;have ad:¬(cap=i):=E;have ak:IntKind.i64.wrap ((i:Int)+1)=(i:Int)+1:=by unfold WX at y;rw[IntKind.wrap_i64];omega
 have al:IntKind.i64.wrap ((n:Int)+1)=(n:Int)+1:=by unfold WX at y;rw[IntKind.wrap_i64];omega
 have aa:(0:Int)<=(i:Int)+1:=E;have ac:(i:Int)<=(n:Int)+1:=E;have ae:(i:Int)+1<=(n:Int)+1:=E;have aj:((i:Int)+1).toNat=i+1:=E;have ai:((n:Int)+1).toNat=n+1:=E;have af:¬(cap:Int)<(n:Int)+1:=E;have M:J xs-i=Nat.min (n+1-i) (n-i):=by show _=min _ _;omega
 have mixed:prog.follows .mixedOrders=true:=zK;have q6:=e 3 (n-i) (n+1-i) (cap-(i+1)) (cap-i) M;have ag:=f 3 (n+1-i) (cap-i) E;clear e f M a;clear q c r R s C zi xR S l qc;rcases o with ⟨rfl,rfl,rfl,rfl,rfl,rfl⟩|⟨rfl,rfl,rfl,rfl,rfl,rfl⟩;all_goals
  go_in
  go_wp2_with (simp only[q5])
  go_region_law_o (refine step_copy_runI D _ _ _ _ D _ _ (by simp[Act.eval,Act.put]) (by simp[Act.eval,Act.put]) q6 ?_)
  exact FE
def N8 {T:Nat} {z:Zv} (t:mG Fzq O T L B z) (vc:Nat) (i:Nat) (q8:w.ownsRow base T 1 (A (Z ⟨g,0,Y⟩) n cap) n xs) (hx:w.heap[vb]?=Z (Zc #[x] T (0,0))) (h1:x.oneCell'=true) (ab:∀ v∈xs,v.oneCell'=true) (hi:i<n) (K:cap<n+1) (hn:n<=1000) (d:base<=w.heap.size) :
  WU WV Fzq #[A (Z ⟨g,0,Y⟩) n cap,I U i,A (Z ⟨vb,0,Y⟩) 1 vc] w (DO base g w (xs.take i++x :: xs.drop i)):=by
 obtain⟨hl,⟨h,-⟩|⟨g',ac,qH,h,aj,xR,ap,am,V,zi⟩⟩:=q8;·exact eI
 injection h with h _ h3;injection h with h;injection h with h;subst h h3;simp only[WS]at hl V zi;have X:=(Qe.1 xR).1;have qq:=(Qe.1 hx).1;have u:∀j v,xs[j]?=Z v->w.cell? ⟨g,j,Y⟩=Z v:=λj v hj=>by exact PC
 have q5:w.cell? ⟨vb,0,Y⟩=Z x:=by simp[WY,hx]
 have⟨i0,y,j0,P,N⟩:=QY t.inf;have M:(prog.info? T).map (·.size)=Z 1:=by rw[y];simp[P]
 have C:i+(n+1-i)=n+1:=E;have q6:(n:Int)+1-(i:Int)=((n+1-i:Nat):Int):=E;have r:(Builtin.firstCells i0.size i (A (Z ⟨g,0,Y⟩) i cap)).run WV w.drew=.ok (xs.take i).toArray w.drew:=by
  rw[P];exact run_firstCells_some w.drew 1 i ⟨g,0,Y⟩ i cap (xs.take i) rd (λj v hj=>by
   rw[XC,ZS]
   rw[List.getElem?_take]at hj
   split at hj
   .exact u j v hj
   .cases hj)
 have⟨a,F⟩:=fk (grownCap w (n+1) cap T);have o:∀q,q<=1001->q*B<=16016:=λq h=>WA h t.le.1;have Q:=o (n+1-i) E;have R:=o (n+1) E;obtain⟨e,f⟩:∃e:Array Zv,e=(xs.take i).toArray++Builtin.zeroCells z.cells (n+1-i)++Builtin.zeroCells z.cells (a-(n+1)):=⟨_,D⟩;have⟨m,qR⟩:=fk (w.drew.alloc (Zc e T));have aa:(Builtin.append_ #[L,3] L #[A (Z ⟨g,0,Y⟩) i cap,I U ((n:Int)+1-(i:Int))]).run WV w=.ok (A (Z ⟨w.heap.size,0,Y⟩) (n+1) a) m:=by have h:=Lib.run_append_grow_zeros w L 3 L T i0 _ U U t.und underlying3 y j0 (Z ⟨g,0,Y⟩) i cap (xs.take i) r (n+1-i) E E E E (by rw[N];omega) (by rw[N,C];exact growslice_fits K E);rw[C,<- F,<- f,<- qR]at h;rw[q6];exact h
 have af:n+1<=a:=by rw[F];exact grownCap_ge w _ _ _
 have ag:n+1<=e.size:=by rw[f,t.le.2.2];simp[Builtin.zeroCells];omega
 have hN:∀j,j<n+1->(m.cell? ⟨w.heap.size,j,Y⟩).isSome=true:=λj hj=>by rw[qR,World.cell?_alloc_at (w:=w.drew) e _ w.heap.size j rfl,ZT E];rfl
 have s:∀j,m.frozen? ⟨w.heap.size,j,Y⟩=false:=λj=>by rw[qR];exact World.frozen?_alloc_at (w:=w.drew) e _ w.heap.size j D
 have S:∀j v,j<i->xs[j]?=Z v->m.cell? ⟨w.heap.size,j,Y⟩=Z v:=λj v hj hv=>by rw[qR,World.cell?_alloc_at (w:=w.drew) e _ w.heap.size j rfl,f,Array.append_assoc,Array.getElem?_append_left zE];rw[Wj,Xz hj];exact hv
 have qc:∀b j v,b<w.heap.size->w.cell? ⟨b,j,Y⟩=Z v->m.cell? ⟨b,j,Y⟩=Z v:=λb j v q7 h=>by rw[qR,World.cell?_alloc_past (w:=w.drew) _ b j q7];exact h
 have W:J (xs.drop i)=n-i:=by rw[XZ,hl]
 have⟨p,c⟩:=fk (m.setCells w.heap.size i [x]);have an:(Builtin.copy_ #[L,L] 3 #[A (Z ⟨w.heap.size,i,Y⟩) (n+1-i) (a-i),A (Z ⟨vb,0,Y⟩) 1 vc]).run WV m=.ok (goInt 1) p:=by
  rw[c];exact WC m _ _ _ T w.heap.size i (n+1-i) (a-i) ⟨vb,0,Y⟩ 1 vc [x] t.und M (by show 1=min 1 (n+1-i);omega)
   (λj v hj=>by
    rw[XC]
    cases j with
    | zero=>simp only[XS,XP]at hj;subst hj;exact qc _ _ _ qq q5
    | succ j=>simp at hj)
   (λj hj=>hN _ Bi) (λj hj=>s _) zE
 have⟨qa,l⟩:=fk (p.drew.setCells w.heap.size (i+1) (xs.drop i));have ql:(Builtin.copy_ #[L,L] 3 #[A (Z ⟨w.heap.size,i+1,Y⟩) (n-i) (a-(i+1)),A (Z ⟨g,i,Y⟩) (n-i) (cap-i)]).run WV p.drew=.ok (goInt (J (xs.drop i))) qa:=by
  rw[l];exact WC p.drew _ _ _ T w.heap.size (i+1) (n-i) (a-(i+1)) ⟨g,i,Y⟩ (n-i) (cap-i) (xs.drop i) t.und M (by rw[W];show n-i=min (n-i) (n-i);omega)
   (λj v hj=>by
    rw[XC]
    refine ((Xc (WY · ⟨g,i+j,Y⟩) c).trans (Xr w.heap.size [x] i m ⟨g,i+j,Y⟩ zE)).trans ?_
    exact qc _ _ _ X (u (i+j) v (by rwa [Z3]at hj)))
   (λj hj=>by
    show (p.cell? _).isSome=true
    rw[c]
    exact Wt w.heap.size [x] i m (λk hk=>hN _ (by simp at hk;omega)) _ (hN _ E))
   (λj hj=>by show p.frozen? _=false;rw[c,World.frozen?_setCells];exact s _) (λv hv=>ab v (ZF hv))
 have HF:G (DO base g w (xs.take i++x :: xs.drop i) (Zr (A (Z ⟨w.heap.size,0,Y⟩) (n+1) a)) qa):=by
  have hs:qa.heap.size=w.heap.size+1:=by rw[l,iy];show p.heap.size=_;rw[c,iy,qR];simp
  refine⟨w.heap.size,a,by rw[Qi,Xj,Qs,W,show min i (J xs)+(n-i+1)=n+1 by omega],d,E,?_,?_,λb q7 _=>?_,E⟩;·rw[l];refine kN d _ _ (Below.drew ?_);rw[c];refine kN d _ _ ?_;rw[qR];exact (Qg _ _).drew.alloc d _
  .rw[l,c];exact GU E hl S hN
  .have aq:m.heap.size=w.heap.size+1:=re;have q9:b≠w.heap.size:=E;rw[l,ZD _ _ _ _ (by show b<p.heap.size;rw[c,iy];omega) q9];show p.heap[b]?=_;rw[c,ZD _ _ _ _ E q9,qR];exact Qf _ _ _ q7
 have ax:¬((i:Int)=(n:Int)):=E;have ao:i<=n:=E;have ae:¬(a=i):=E;have ad:¬(a=i+1):=E;have ak:¬(cap=i):=E;have au:IntKind.i64.wrap ((i:Int)+1)=(i:Int)+1:=kG;have av:IntKind.i64.wrap ((n:Int)+1)=(n:Int)+1:=kG;have aw:IntKind.i64.wrap ((n:Int)+1-(i:Int))=(n:Int)+1-(i:Int):=kG;have ah:(0:Int)<=(i:Int)+1:=E;have ai:(i:Int)<=(n:Int)+1:=E;have ar:((i:Int)+1).toNat=i+1:=E;have al:(cap:Int)<(n:Int)+1:=E;have mixed:prog.follows .mixedOrders=true:=zK;clear u q5 M V zi xR hx hN s S qc qR c l f F r y j0 P N q6 C o Q R;rcases t with ⟨rfl,rfl,rfl,rfl,rfl,rfl⟩|⟨rfl,rfl,rfl,rfl,rfl,rfl⟩;all_goals
  go_in
  go_wp2_with (at_builtin;refine Lib.wpList_append_run _ D _ _ _ _ D _ _ D D _ _ aa ?_)
  go_region_law_o (refine step_copy_runI D _ _ _ _ D _ _ (by simp[Act.eval,Act.put]) (by simp[Act.eval,Act.put]) ql ?_)
  exact FE
def RU {T:Nat} {z:Zv} (k:mG Fzq O T L B z) (h:Nat) (a:w.ownsRow base T 1 (A (b5 g 0) n cap) n xs) (q:w.heap[vb]?=Z (Zc #[x] T (0,0))) (p:vb≠g) (j:x.oneCell'=true) (f:∀ v∈xs,v.oneCell'=true) (y:i<=n) (s:n<=1000) (b:base<=w.heap.size) :
  WU WV Fzq #[A (b5 g 0) n cap,I U i,A (b5 vb 0) 1 h] w (DO base g w (xs.take i++x :: xs.drop i)):=by
 by_cases m:i=n
 .subst m;have C:J xs=i:=by have:=a.1;simpa using this
  refine H (RV k vb h a (by simp[WY,q]) j s b) ?_;rintro e K ⟨u,r,rfl,c,l,o,d⟩;rw[Xf E,Xw E];exact BK c l o d.1 d.2
 .by_cases t:n+1<=cap;·exact N9 k h i a q p j f E t
  .exact N8 k h i a q j f E E s b
def RW {T:Nat} {z:Zv} (m:mG Fzq O T L B z) (g0 l v:Nat) (R:a7 w l 0=Z x) (N:x.oneCell'=true) (c:base<=w.heap.size) :
  WU WV Fzq #[A Y 0 0,I U 0,A (b5 l 0) 1 v] w (DO base g0 w [x]):=by
 have⟨S,n,o,p,r⟩:=QY m.inf;have k:G (_/\_/\_/\_):=⟨n,o,p,r⟩;have C:=a8 m.und;have K:G (∀j u,[x][j]?=Z u->w.cell? ((⟨l,0,Y⟩:Addr).add j)=Z u):=λj u h=>by
  cases j with
  | zero=>simp only[XS,XP]at h;subst h;simpa [Addr.add] using R
  | succ j=>simp at h
 have y:G (∀u∈[x],u.oneCell'=true):=λu t=>by simp only[QR]at t;subst t;exact N
 have s:G (w.ownsRow base T 1 (A Y 0 0) 0 []):=⟨D,.inl ⟨D,D⟩⟩;rcases m with ⟨rfl,rfl,rfl,rfl,rfl,rfl⟩|⟨rfl,rfl,rfl,rfl,rfl,rfl⟩;all_goals
  go_in
  go_wp2_with (at_builtin;refine Xb _ D (.tmp 23) (.tmp 24) _ D base _ S _ 1 _ C.out k.1 k.2.1 k.2.2.1 k.2.2.2 D zC (A Y 0 0) 0 [] D s.out ⟨l,0,Y⟩ 1 v [x] D D K.out y.out zC fA E c w.heap.size D ?_;intro M f V d a g i;refine XE ?_)
  all_goals
   refine QJ ?_
   have HF:G (DO base g0 w [x] (Zr (A (b5 M 0) (0+1) f)) V):=BK d ((Qg base w).grown a c (λq Q=>(dT s q Q).1)) i (λb P _=>a.block b P (λe=>by simp[Uj]at e)) (g.elim (λe=>by simp[Uj]at e) E)
   exact FE
def Ia (x:α) {a:List α} (f:J ns=J a) (c:j<J ns) (e:∀ i (h:i<J ns),i<j->ij ns[i] s=true) (d:ns[j]=s) (g:¬ ij s s=true) :
  eH s x ns a=(ns,a.set j x):=by
 have b:j<J a:=E;rw[pI s x ns a j f E e,Qy c,Qy b,d,eH,Qd g,Qm rfl];refine Prod.ext ?_ ?_;·show ns.take j++s :: ns.drop (j+1)=ns;rw[<- d,<- Qy c,Q2]
 .show a.take j++x :: a.drop (j+1)=a.set j x;rw[List.set_eq_take_append_cons_drop,Qm b]
def O1 (x:α) {a:List α} (f:J ns=J a) (e:j<=J ns) (d:∀ i (h:i<J ns),i<j->ij ns[i] s=true) (c:∀ (h:j<J ns),¬ ij ns[j] s=true/\ns[j]≠s) :
  eH s x ns a=(ns.take j++s :: ns.drop j,a.take j++x :: a.drop j):=by
 rw[pI s x ns a j f e d];by_cases h:j<J ns;·have b:j<J a:=E;rw[Qy h,Qy b,JA x _ _ _ (c h).1 (c h).2]
 .rw[Xw E,Xw E];exact cU
theorem Bz(s:ZB):∀(b:List ZB),DM b->∃k,k<=J b/\(∀i (h:i<J b),i<k->ij b[i] s=true)/\∀i (h:i<J b),k<=i->ij b[i] s=false
 | [],_=>⟨0,E,E,zS⟩
 | a :: l,h=>by
  have⟨f,j⟩:=XB.1 h
  cases hc:ij a s with
  | true=>
   have⟨k,m,d,e⟩:=Bz s l j
   refine⟨k+1,zE,λi h g=>?_,λi h g=>?_⟩
   .cases i with
    | zero=>exact hc
    | succ i=>exact d i mZ E
   .cases i with
    | zero=>omega
    | succ i=>exact e i mZ E
  | false=>
   refine⟨0,E,E,λi h _=>?_⟩
   cases i with
   | zero=>exact hc
   | succ i=>
    rw[XL]
    intro c
    have:=Ow (f _ zS) c
    rw[hc]at this
    cases this
def ND(s:ZB)(f:DM ns):∃k,k<=J ns/\Lib.bsGo (λt=>Op.bytesLess (ns.getD t s).toList s.toList) (J ns) 0 (J ns)=k/\(∀i (h:i<J ns),i<k->ij ns[i] s=true)/\∀(h:k<J ns),¬ij ns[k] s=true:=by
 have⟨k,e,c,d⟩:=Bz s ns f;refine⟨k,e,Lib.bsGo_spec _ k (λt b=>?_) (λt b=>?_) _ _ _ E E e,c,λh=>by rw[d k h (QD _)];simp⟩;·have a:t<J ns:=E;have:=c t a b;unfold ij at this;simpa [Un,a] using this
 .by_cases a:t<J ns;·have:=d t a b;unfold ij at this;simpa [Un,a] using this
  .have:=rz s;unfold ij at this;simpa [Un,Xs (Nat.le_of_not_lt a)] using this
theorem BD(s:ZB):∀(a:List ZB)(b:List α),J a=J b->(∀n,n∈a->n≠s)->ft s a b=(a,b)
 | [],[],_,_=>rfl
 | [],_ :: _,hl,_=>by simp at hl
 | _ :: _,[],hl,_=>by simp at hl
 | n :: a,k :: b,hl,h=>by
  rw[ft,Qd (h n (XT ..)),BD s a b pd λm c=>h m (Qt _ c)]
theorem CT (s:ZB):∀ (a:List ZB) (c:List α) (j:Nat),J a=J c->DM a->(hj:j<J a)->a[j]=s ->
  ft s a c=(a.take j++a.drop (j+1),c.take j++c.drop (j+1))
 | [],_,_,_,_,hj,_=>absurd hj zS
 | _ :: _,[],_,hl,_,_,_=>by simp at hl
 | n :: a,k :: c,0,hl,ha,_,b=>by
  have⟨d,h⟩:=XB.1 ha
  have b:n=s:=b
  rw[ft,Qm b,BD s a c pd λm i e=>Jl (d m i) (b.trans e.symm)]
  exact cU
 | n :: a,k :: c,j+1,hl,ha,hj,b=>by
  have⟨d,h⟩:=XB.1 ha
  have f:j<J a:=by simpa using hj
  have b:=b
  have g:n≠s:=λe=>Jl (d _ zS) (e.trans b.symm)
  rw[ft,Qd g,CT s a c j pd h f b]
  exact cU
def Kr {T:Nat} (y:Go.Proofs.SlLaysE0.n41 WV ρ) (x:ρ.f 41=Fzq) (C:ρ.t 23=T) {z:Zv} (i:mG Gzq O T L B z) (c:Nat) {a:List Zv} (R:J a=n) (P:n<=1000) (M:∀ j u,a[j]?=Z u->a7 w b (off+j)=Z u) (s:∀ u∈a,u.oneCell'=true) :
  WU WV Fzq #[A (b5 b off) n c] w λe q=>∃g cap,e=Zr (A (b5 g 0) n cap)/\q.ownsRow w.heap.size T 1 (A (b5 g 0) n cap) n a/\Bw w q:=by
 subst x C;have⟨Q,k,m,p,o⟩:=QY i.inf;refine H (AnyE.slices_Clone y Q _ 1 B k m p o (by rw[i.le.2.2];rfl) zC i.sz b off n c a w E zL (by have:=WA P i.le.1;omega) M s) ?_;rintro e q ⟨v,rfl,d,l,K⟩;obtain⟨N,⟨h,-⟩|⟨g,cap,r,h,rest⟩⟩:=id d;·exact absurd h l
 .subst h;exact⟨g,cap,D,d,K⟩
def Ih (c:Nat) (s:ZB) (p:J ns<=1000) (m:DM ns) (n:∀ j (h:j<J ns),w.cell? ⟨b,off+j,Y⟩=Z (Zt ns[j])) :
  WU WV 207 #[A (Z ⟨b,off,Y⟩) (J ns) c,Zt s] w λe f=>∃k q,k<=J ns/\(∀i (h:i<J ns),i<k->ij ns[i] s=true)/\(∀(h:k<J ns),¬ij ns[k] s=true)/\e=Zr (Zu #[I U (k:Nat),Zb (decide (ns[k]?=Z s))])/\f=w.drewN q:=by
 have⟨k,o,a,g,l⟩:=ND s m;refine H (Any2.slices_BinarySearch_string JF b off (J ns) c (λt=>ns.getD t s) s w E (λj d=>by rw[n j d];simp[Un,d])) ?_;rintro e f ⟨rfl,q,rfl⟩;refine⟨k,q,o,g,l,?_,D⟩;rw[a];have:decide (k<J ns/\ns.getD k s=s)=decide (ns[k]?=Z s):=by
  by_cases h:k<J ns;·simp[Un,h]
  .simp[h]
 rw[this]
def YO(base:Nat)(a:ZA)(w:Zw)(c:List Zv)(e:Ending)(w':Zw):Prop:=
 ∃g cap,e=Zr (A (b5 g 0) (J c) cap)/\base<=g/\g<w'.heap.size/\Below base w w' /\ (∀j v,c[j]?=Z v->a7 w' g j=Z v)/\(∀b,b<w.heap.size->(∀p,a=Z p->b≠p.block)->w'.heap[b]?=w.heap[b]?)/\((∃p,a=Z p/\g=p.block)∨w.heap.size<=g)
def gm{T:W9}(h:w.ownsRow base T 1 (A (b5 g 0) n cap) n ys):(base<=g/\g<w.heap.size)/\∀j v,ys[j]?=Z v->a7 w g j=Z v/\w.frozen? ⟨g,j,Y⟩=false:=by
 obtain⟨p,⟨h,-⟩|⟨r,k,c,h,d,a,q,m,e,b⟩⟩:=h;·exact eI
 injection h with h _ l;injection h with h;injection h with h;subst h l;simp only[WS]at p e b;refine⟨⟨d,(Qe.1 a).1⟩,λj v f=>?_⟩;have o:=(QN.1 f).1;rw[<- b,Xz E]at f;have i:c[j]?=Z v:=by rw[<- Array.getElem?_toList];exact f
 exact⟨by simp[WY,a,i],by simp[W7,a]⟩
def oU{T:W9}(h:w.ownsRow base T 1 (A a n cap) n ys)(d:n≠0):∃g,a=b5 g 0:=by
 obtain⟨-,⟨-,h⟩|⟨g,b,c,h,-⟩⟩:=h;·exact absurd h d
 .injection h with h;exact⟨g,h⟩
def oT{T:W9}(h:w.ownsRow base T 1 (A a n cap) n ys)(p:Addr)(hp:a=Z p):base<=p.block/\p.block<w.heap.size:=by
 obtain⟨-,⟨h,-⟩|⟨g,b,c,h,d,e,-⟩⟩:=h;·injection h with h;subst h;cases hp
 .injection h with h;subst h;injection hp with hp;subst hp;exact⟨d,(Qe.1 e).1⟩
def yH (c:Nat) (s:ZB) (n:J ns<=1000) (l:DM ns) (m:J ns≠0->∃ b off,a=b5 b off/\∀ j (h:j<J ns),a7 w b (off+j)=Z (Zt ns[j])) :
  WU WV 207 #[A a (J ns) c,Zt s] w λe g=>∃k q,k<=J ns/\(∀i (h:i<J ns),i<k->ij ns[i] s=true)/\(∀(h:k<J ns),¬ij ns[k] s=true)/\e=Zr (Zu #[I U (k:Nat),Zb (decide (ns[k]?=Z s))])/\g=w.drewN q:=by
 by_cases f:J ns=0;·obtain rfl:=Zg.1 f;refine H (Any2.slices_BinarySearch_string_empty JF a c s w) ?_;rintro e g ⟨rfl,rfl⟩;exact⟨0,0,E,E,E,zS,D⟩
 .obtain⟨b,off,rfl,d⟩:=m f;exact Ih c s n l d
def Gx {T:Nat} {z:Zv} (v:Fzq=208/\T=9∨Fzq=209/\T=71) (j:mG Gzq O T L B z) (p:Addr) (c:Nat) (w:Zw) :
  WU WV Fzq #[A (Z p) 0 c] w λe t=>∃g cap,e=Zr (A (b5 g 0) 0 cap)/\t.ownsRow w.heap.size T 1 (A (b5 g 0) 0 cap) 0 []/\Bw w t:=by
 have⟨C,l,m,q,o⟩:=QY j.inf;have s:=j.und;have K:∀(w:Zw)(a:ZA)(n c r i:Nat),(binOp .eql L (A a n c) (A Y r i)).run WV w=.ok (Zb a.isNone) w:=λw a n c r i=>Lib.run_eql_slice_nil w _ _ a n c r i s;rcases j with ⟨rfl,rfl,rfl,rfl,rfl,rfl⟩|⟨rfl,rfl,rfl,rfl,rfl,rfl⟩<;>rcases v with ⟨rfl,h⟩|⟨rfl,h⟩<;>cases h
 all_goals
  go_in
  go_wp2_with (at_builtin;refine WD _ D _ _ _ D w.heap.size _ C _ 1 _ s l m q o D zC _ _ _ D (World.ownsRow_made w #[] 0 E E zS) p 0 c [] D D zS zS fA E zS ?_)
  intro M w1 b d f
  go_wp2
  go_ret
  obtain⟨y,⟨h,-⟩|⟨g,cap,u,h,rest⟩⟩:=id b
  .exact absurd h f
  .subst h
   exact⟨g,cap,D,by simpa using b,((Qg _ w).alloc E _).grown d zS (by intro k x;simp[Uj]at x;omega)⟩
def pA {T:Nat} (q:Go.Proofs.SlLaysE0.n41 WV ρ) (o:ρ.f 41=Fzq) (x:ρ.t 23=T) (y:Fzq=208/\T=9∨Fzq=209/\T=71) {z:Zv} (r:mG Gzq O T L B z) (a:ZA) (n c:Nat) (d:List Zv) (w:Zw) (s:J d=n) (K:n<=1000) (C:n≠0->∃ b off,a=b5 b off/\∀ j u,d[j]?=Z u->a7 w b (off+j)=Z u) (v:∀ u∈d,u.oneCell'=true) :
  WU WV Fzq #[A a n c] w λe i=>∃l cap,e=Zr (A l n cap)/\i.ownsRow w.heap.size T 1 (A l n cap) n d/\Bw w i:=by
 by_cases m:n=0
 .subst m;obtain rfl:=Zg.1 s;cases a with
  | none=>rw[<- o];refine H (AnyE.slices_Clone_nil q 0 c w) ?_;rintro e i ⟨rfl,rfl⟩;exact⟨Y,0,D,⟨D,.inl ⟨D,D⟩⟩,Qg _ _⟩
  | some p=>refine H (Gx y r p c w) ?_;rintro e i ⟨g,cap,rfl,h⟩;exact⟨_,cap,D,h⟩
 .obtain⟨b,off,rfl,k⟩:=C m;refine H (Kr q o x r c s K k v) ?_;rintro e i ⟨g,cap,rfl,h⟩;exact⟨_,cap,D,h⟩
def I7 {T:Nat} {z:Zv} (C:mG Fzq O T L B z) (base l s n cap i:Nat) (a:ZA) (x:Zv) (xs:List Zv) (w:Zw) (d:w.ownsRow base T 1 (A a n cap) n xs) (K:w.heap[l]?=Z (Zc #[x] T (0,0))) (q:∀ p,a=Z p->l≠p.block) (u:x.oneCell'=true) (r:∀ v∈xs,v.oneCell'=true) (Q:i<=n) (S:n<=1000) (c:base<=w.heap.size) :
  WU WV Fzq #[A a n cap,I U i,A (b5 l 0) 1 s] w (YO base a w (xs.take i++x :: xs.drop i)):=by
 obtain⟨R,⟨h,-⟩|⟨g,t,M,h,-⟩⟩:=id d;·injection h with f k j;subst f k j;obtain rfl:i=0:=E;obtain rfl:=Zg.1 (by simpa using R:J xs=0);refine H (RW C w.heap.size l s (by simp[WY,K]) u c) ?_;rintro e V ⟨g,cap,rfl,k,j,m,o,y,N⟩;exact⟨g,cap,D,k,j,m,o,λb P _=>y b P E,E⟩
 .injection h with f k j;subst f j;refine H (RU C s d K (q _ D) u r Q S c) ?_;rintro e V ⟨g,cap,rfl,k,j,m,o,y,N⟩;exact⟨g,cap,D,k,j,m,o,zE,zE⟩
def I4 {T:Nat} (R:Go.Proofs.SlLaysE.n45 WV ρ) (Q:ρ.f 45=Fzq) (S:ρ.t 23=T) {z:Zv} (V:mG Gzq O T L B z) [Inhabited α] {en:α->Zv} (p:∀ x,(en x).oneCell'=true) {zr:α} (W:∀ w,(zeroValue T).run WV w=.ok (en zr) w) {xs:List α} (a:w.ownsRow base T 1 (A (Z ⟨g,0,Y⟩) n cap) n (xs.map en)) (qa:i<n) :
  WU WV Fzq #[A (Z ⟨g,0,Y⟩) n cap,I U i,I U ((i:Int)+1)] w λe m=>e=Zr (A (Z ⟨g,0,Y⟩) (n-1) cap)/\Below base w m/\(∀j v,((xs.take i++xs.drop (i+1)).map en)[j]?=Z v->m.cell? ⟨g,j,Y⟩=Z v)/\(∀b,b≠g->m.heap[b]?=w.heap[b]?)/\m.heap.size=w.heap.size:=by
 subst Q S;have⟨F,r,q8,y,f⟩:=QY V.inf;have qq:J xs=n:=by have:=a.1;simpa using this
 have⟨⟨X,q7⟩,d⟩:=gm a;obtain⟨qc,q6⟩:n<=cap/\cap<=WX:=by
  obtain⟨-,⟨h,-⟩|⟨t,C,M,h,-,-,p,N,-⟩⟩:=a;·exact eI
  .injection h with _ _ P;subst P;exact⟨p,N⟩
 have K:Sort.Holds en w g 0 xs.toArray:=λj o=>by
  have s:j<J xs:=by simpa using o
  rw[ZS];refine d j _ ?_;rw[Xg,Qp s,getElem!_pos _ j o];exact dS
 subst qq;refine H (AnyE.slices_Delete R en p zr W F r y g 0 cap i (i+1) xs.toArray w K (by simpa using qc) q6 E (by rw[List.size_toArray];omega)) ?_;rintro e m ⟨rfl,q,rfl⟩;refine⟨zS,⟨D,D,D,by simp[Sort.ahead],λk hk=>?_⟩,λj v o=>?_,λb q5=>?_,by simp[Sort.ahead]⟩;·have:g≠k:=E;simp[Sort.putRow,Sort.mapBlock,Sort.ahead,QQ,this]
 .obtain⟨u,rfl⟩:=QN.1 o;have c:j<J (xs.take i++xs.drop (i+1)):=by simpa using u
  have ql:(List.take i xs.toArray.toList++List.drop (i+1) xs.toArray.toList++List.replicate (i+1-i) zr).toArray.size=xs.toArray.size:=zE;have l:j<(List.take i xs.toArray.toList++List.drop (i+1) xs.toArray.toList++List.replicate (i+1-i) zr).toArray.size:=by simp at c ⊢;omega
  have:=(Sort.holds_putRow en (Sort.ahead w q) g 0 xs.toArray _ K ql) j l;rw[ZS]at this;rw[this.1,getElem!_pos _ j l,Xe,List.getElem_toArray,QS c]
 .have:g≠b:=E;simp[Sort.putRow,Sort.mapBlock,Sort.ahead,QQ,this]
def bwN(q:Nat)(w:Zw):Bw w (w.drewN q):=by
 have:∀q,Bw w (w.drewN q):=λq=>by
  induction q with
  | zero=>exact Qg _ _
  | succ q a=>exact a.drew
 exact this q
def WF(base:Nat)(w:Zw)(N Q:List Zv)(e:Ending)(w':Zw):Prop:=
 ∃a c1 b c2,e=Zr (Zu #[A (b5 a 0) (J N) c1,A (b5 b 0) (J Q) c2])/\(base<=a/\a<w'.heap.size)/\(base<=b/\b<w'.heap.size)/\Below base w w' /\
  (∀j v,N[j]?=Z v->a7 w' a j=Z v)/\∀j v,Q[j]?=Z v->a7 w' b j=Z v
def wW(h:w'.heap[g]?=w.heap[g]?):a7 w' g j=a7 w g j:=by simp[WY,h]
def qbG {b1 c1 c2:Nat} {w1 c t:Zw} {T u:W9} {f i:ZA} {N Q d e:List Zv} {k l:Ending} {x:Obj} (K:base<=b1) (b:Below base w w3) (z:w1.ownsRow base T 1 (A f n c1) n N) (O:w1.heap.size<=b1)
  (B:w3.ownsRow b1 u 1 (A i n c2) n Q) (C:YO base f w3 d k c) (hK:YO b1 i (c.alloc x) e l t):∃r s,k=Zr r/\l=Zr s/\WF base w d e (Zr (Zu #[r,s])) t:=by
 obtain⟨g,cap,rfl,m,o,P,R,X,S⟩:=C;obtain⟨y,a,rfl,I,V,k3,k4,W,Y⟩:=hK;refine⟨_,_,D,D,g,cap,y,a,D,⟨m,?_⟩,⟨E,V⟩,(b.trans P).trans ((((Qg base c).alloc ?_ x)).trans (k3.mono K)),λj v L=>?_,k4⟩;·have:=k3.size;rw[XN]at this;omega
 .exact Q1 m (Nat.le_of_lt o)
 .rw[<- R j v L,wW (W g (by rw[XN];omega) λp hp=>?_),wW (Qf _ _ _ o)];have hp:=oT B p hp;rcases S with ⟨q,M,rfl⟩|h;·have:=oT z q M;omega
  .omega
def oR:Option (W9×Zv)->Zv
 | none=>.nilIface
 | some p=>.iface p.1 p.2
def su(a:Option (W9×Zv)):(oR a).oneCell'=true:=by cases a<;>rfl
def Bj (na ka:ZA) (nc kc:Nat) (c:List Zv) (s:ZB) (r:W9) (x:Zv) (w:Zw) (hl:J c=J ns) (hn:J ns<=1000) (ha:DM ns) (hc:J ns≠0->∃ b off,na=Z ⟨b,off,Y⟩/\∀ j (h:j<J ns),w.cell? ⟨b,off+j,Y⟩=Z (Zt ns[j])) (hk:J ns≠0->∃ b off,ka=Z ⟨b,off,Y⟩/\b<w.heap.size/\∀ j u,c[j]?=Z u->w.cell? ⟨b,off+j,Y⟩=Z u) (h1:∀ u∈c,u.oneCell'=true) :
  WU WV 170 #[A na (J ns) nc,A ka (J ns) kc,Zt s,.iface r x] w (WF w.heap.size w ((eH s (.iface r x) ns c).1.map Zt) (eH s (.iface r x) ns c).2):=by
 have qc:=QJ (pA IY D D (.inl ⟨D,D⟩) tS na (J ns) nc (ns.map Zt) w zS hn (λq6=>by
  have⟨b,off,h,hc⟩:=hc q6
  refine⟨b,off,h,λj u z=>?_⟩
  rw[Xg]at z
  obtain⟨a,ha,rfl⟩:=Wi.1 z
  obtain⟨h,rfl⟩:=QN.1 ha
  exact hc j h) PL)
 have HK:=a8 hk;have q5:=a8 hl;clear hc hk hl;go_in;go_wp2_with fail;refine H qc ?_;rintro e w1 ⟨a1,cap,rfl,W,C⟩;have V:=a8 W;have ai:=C.size;have F:=QJ (pA IX D D (.inr ⟨D,D⟩) tK ka (J ns) kc c w1 q5 hn (λq6=>by
  have⟨b,off,h,am,hk⟩:=HK.out q6
  exact⟨b,off,h,λj u z=>kC C (hk j u z) am⟩) h1)
 clear W qc HK;go_wp2_with fail;refine H F ?_;rintro e w2 ⟨a2,i,rfl,P,M⟩;have X:=a8 P;have ao:=M.size;have q7:=QJ (yH (a:=a1) cap s (w:=w2) hn ha (λq6=>by
  obtain⟨g,rfl⟩:=oU V q6
  have⟨⟨ac,ad⟩,ab⟩:=gm V
  refine⟨g,0,D,λj h=>?_⟩
  rw[ZS]
  exact kC M (ab j _ (by rw[Xg,Qp h];rfl)).1 ad))
 clear P F;go_wp2_with fail;refine H q7 ?_;rintro e o ⟨k,q,q8,T,q9,rfl,aj⟩;have S:Bw w2 o:=by rw[aj];exact bwN q w2
 have B:G (o.ownsRow w1.heap.size 71 1 (A a2 (J ns) i) (J ns) c):=cV X (λy d=>S.block y (cO X y d).2);have N:=M.trans (S.mono M.size);have ap:=S.size;have f:G (o.ownsRow w.heap.size 9 1 (A a1 (J ns) cap) (J ns) (ns.map Zt)):=cV V (λy d=>N.block y (cO V y d).2);have K:=C.trans (N.mono C.size);clear aj X q7;by_cases j0:ns[k]?=Z s
 .have⟨qq,ah⟩:=QN.1 j0;have l:=Ia (.iface r x) q5.symm qq T ah (by rw[rz];simp);obtain⟨g,rfl⟩:=oU f E;obtain⟨R,rfl⟩:=oU B E;have⟨⟨au,av⟩,n⟩:=gm B;obtain⟨⟨ac,ad⟩,-⟩:=gm V;obtain⟨-,O⟩:=gm f;have ag:c[k]?=Z (c[k]'(by rw[q5.out];exact qq)):=Qp _;have⟨al,ar⟩:=n k _ ag;have an:g≠R:=E;have HF:G (WF w.heap.size w ((eH s (.iface r x) ns c).1.map Zt) (eH s (.iface r x) ns c).2 (Zr (Zu #[A (Z ⟨g,0,Y⟩) (J ns) cap,A (Z ⟨R,0,Y⟩) (J ns) i])) (o.setCell ⟨R,k,Y⟩ (.iface r x))):=by
   show WF _ _ _ _ _ (o.setCells R k [.iface r x]);rw[l];refine⟨g,cap,R,i,by rw[Qv,List.length_set,q5.out],⟨ac,by rw[iy];omega⟩,⟨E,by rw[iy];omega⟩,kN E _ _ K,λj v z=>?_,λj v z=>?_⟩;·show WY _ _=_;rw[Xr R _ _ _ _ (λh _=>absurd h an)];exact (O j v z).1
   .by_cases ae:j=k
    .subst ae;rw[List.getElem?_set_self (by rw[q5.out];exact qq)]at z;injection z with z;subst z;have q6:∀t,t<[Value.iface r x].length->(o.cell? ⟨R,j+t,Y⟩).isSome=true:=λt ht=>by
      obtain rfl:t=0:=by simpa using ht
      have e:WY _ _=_:=al;rw[QC,e];rfl
     exact Zh R [.iface r x] j o q6 0 zS
    .rw[List.getElem?_set_ne (λh=>ae h.symm)]at z;show WY _ _=_;rw[Xr R _ _ _ _ (λ_ _=>by show j<k∨k+1<=j;omega)];exact (n j v z).1
  have aw:(k:Int)<(J ns:Int):=E;rw[QK j0];clear l O n ag j0 ah T q9 f B V;generalize J ns=L at *;go_wp2_with fail;refine bR (v:=Zu #[A (Z ⟨g,0,Y⟩) L cap,A (Z ⟨R,0,Y⟩) L i]) ?_;exact HF
 .rw[QU j0];have l:=O1 (.iface r x) q5.symm q8 T (λh=>⟨q9 h,λe=>j0 (by rw[Qp h,e])⟩);have af:∀b,b<o.heap.size->(o.alloc (Zc #[Zt s] 9)).heap[b]?=o.heap[b]?:=λb hb=>Qf _ _ _ hb;have HI:=QJ (I7 tS w.heap.size o.heap.size 1 (J ns) cap k a1 (Zt s) (ns.map Zt) (o.alloc (Zc #[Zt s] 9)) (cV f (λy d=>af y (cO f y d).2)) (Qh _ _) (λp hp=>by have:=(oT f p hp).2;omega) D PL q8 hn (by rw[XN];omega));have HP:=a8 l;have qa:=a8 K;have m:=a8 (⟨V,f,B⟩:_/\_/\_);have HR:G (w1.heap.size<=o.heap.size):=by show w1.heap.size<=o.heap.size;omega
  have HW:G (w.heap.size<=w1.heap.size):=ai;clear l T q9 j0 V f B C M S N K ai ao ap af ha;have hL:J (ns.map Ul)=J ns:=zS;generalize aq:J ns=L at *;go_wp2_with fail;refine H HI ?_;intro e w5 hI;obtain⟨g5,ql,rfl,j1,j2,j3,j4,j5,j6⟩:=id hI;generalize J (List.take k (List.map Ul ns)++Ul s :: List.drop k (List.map Ul ns))=N5 at hI ⊢;have ak:=a8 hI;have HK:=QJ (I7 tK w1.heap.size w5.heap.size 1 L i k a2 (.iface r x) c (w5.alloc (Zc #[.iface r x] 71)) (cV m.2.2 (λy d=>by
    have hr:=cO m.2.2 y d
    have Q:=j3.size
    rw[XN]at Q
    rw[Qf _ _ _ E,j5 y (by rw[XN];omega) (λp hp=>by have:=(oT m.1 p hp).2;omega)]
    exact Qf _ _ _ hr.2)) (Qh _ _) (λp hp=>by
    have:=(oT m.2.2 p hp).2
    have Q:=j3.size
    rw[XN]at Q
    omega) D h1 q8 hn (by have Q:=j3.size;rw[XN]at Q ⊢;have:=HR.out;omega))
  go_wp2_with fail;refine H HK ?_;intro e w7 hK;have hF:=qbG (base:=w.heap.size) (w:=w) (b1:=w1.heap.size) HW (qa.alloc (Q1 HW HR) _) m.1 (QD _) (cV m.2.2 (λy d=>Qf _ _ _ (cO m.2.2 y d).2)) ak hK;obtain⟨g7,aa,rfl,-⟩:=id hK;obtain⟨v5,v7,e5,e7,hF⟩:=hF;injection e5 with e5;injection e7 with e7;subst e5 e7;have HF:=a8 hF;generalize J (List.take k c++Value.iface r x :: List.drop k c)=N7 at *;go_wp2_with fail;refine bR (v:=Zu #[A (Z ⟨g5,0,Y⟩) N5 ql,A (Z ⟨g7,0,Y⟩) N7 aa]) ?_;rw[HP.out,Q8,Xx,List.map_take,List.map_drop];exact HF
def tQ (na q6:ZA) (nc F:Nat) {ps:List (Option (W9 × Zv))} (w:Zw) (j0:J ps=J ns) (qa:J ns<=1000) (q5:i<J ns) (y:J ns≠0->∃ b off,na=Z ⟨b,off,Y⟩/\∀ j (h:j<J ns),w.cell? ⟨b,off+j,Y⟩=Z (Zt ns[j])) (z:J ns≠0->∃ b off,q6=Z ⟨b,off,Y⟩/\b<w.heap.size/\∀ j u,(ps.map oR)[j]?=Z u->w.cell? ⟨b,off+j,Y⟩=Z u) :
  WU WV 171 #[A na (J ns) nc,A q6 (J ns) F,I U i] w (WF w.heap.size w ((ns.take i++ns.drop (i+1)).map Zt) ((ps.take i++ps.drop (i+1)).map oR)):=by
 have p:=QJ (pA IY D D (.inl ⟨D,D⟩) tS na (J ns) nc (ns.map Zt) w zS qa (λO=>by
  have⟨b,off,h,y⟩:=y O
  refine⟨b,off,h,λj u n=>?_⟩
  rw[Xg]at n
  obtain⟨a,ha,rfl⟩:=Wi.1 n
  obtain⟨h,rfl⟩:=QN.1 ha
  exact y j h) PL)
 have q9:=a8 z;have q8:=a8 j0;clear y z j0;go_in;go_wp2_with fail;refine H p ?_;rintro e w1 ⟨a1,cap,rfl,f,l⟩;obtain⟨g,rfl⟩:=oU f E;have q:=a8 f;have o:=QJ (pA IX D D (.inr ⟨D,D⟩) tK q6 (J ns) F (ps.map oR) w1 (by rw[Qv];exact q8) qa (λO=>by
  have⟨b,off,h,W,z⟩:=q9.out O
  exact⟨b,off,h,λj u n=>kC l (z j u n) W⟩) (λu hu=>by obtain⟨a,-,rfl⟩:=Xo.1 hu;exact su a))
 clear f p q9;go_wp2_with fail;refine H o ?_;rintro e w2 ⟨a2,d,rfl,c,t⟩;obtain⟨x,rfl⟩:=oU c E;have k:=a8 c;have qc:=QJ (I4 qbZ D D tS (en:=Zt) (λ_=>D) zeroValue9 (cV q (λr m=>t.block r (cO q r m).2)) q5);have ab:IntKind.i64.wrap ((i:Int)+1)=(i:Int)+1:=kG;clear c o;generalize s:J ns=L at *;have M:=a8 s;clear s;go_wp2_with fail;refine H qc ?_;rintro e w3 ⟨rfl,P,R,T,X⟩;have aa:g<x:=by have qq:=(gm q).1;have q7:=(gm k).1;omega
 have K:=QJ (I4 qbY D D tK (en:=oR) (zr:=Y) su zeroValue71 (cV k (λr m=>T r (by have:=(cO k r m).1;have:=(gm q).1;omega))) q5);have C:=a8 R;have B:=a8 ((l.trans (t.mono l.size)).trans P);have N:=a8 X;go_wp2_with fail;refine H K ?_;rintro e w4 ⟨rfl,Q,S,V,ac⟩;have HF:G (WF w.heap.size w ((ns.take i++ns.drop (i+1)).map Zt) ((ps.take i++ps.drop (i+1)).map oR) (Zr (Zu #[A (Z ⟨g,0,Y⟩) (L-1) cap,A (Z ⟨x,0,Y⟩) (L-1) d])) w4):=by
  have qq:=(gm q).1;have q7:=(gm k).1;have hz:=N.out;have hL:=q8.out;have ql:=M.out;refine⟨g,cap,x,d,?_,⟨qq.1,E⟩,⟨E,E⟩,B.trans (Q.mono l.size),λj v n=>?_,S⟩;·rw[show J ((ns.take i++ns.drop (i+1)).map Ul)=L-1 by simp;omega,show J ((ps.take i++ps.drop (i+1)).map oR)=L-1 by simp;omega]
  .rw[wW (V g E)];exact C j v n
 go_wp2_with fail;refine bR (v:=Zu #[A (Z ⟨g,0,Y⟩) (L-1) cap,A (Z ⟨x,0,Y⟩) (L-1) d]) ?_;exact HF
def Rv(f:DM ns)(b:∀i (h:i<J ns),i<k->ij ns[i] s=true)(c:∀(h:k<J ns),¬ij ns[k] s=true)(d:ns[k]?≠Z s):s ∉ ns:=by
 intro g;have⟨i,a,e⟩:=QT g;rcases WK i k with h|h|h;·have:=b i a h;rw[e,rz]at this;cases this
 .subst h;exact d (by rw[Qp a,e])
 .have:=X1.1 f k i E a h;rw[e]at this;exact c E this
def CE(a:List ZB)(x:ZB)(w:Zw)(e:Ending)(w':Zw):Prop:=
 Bw w w' /\ ((∃k,a[k]?=Z x/\e=Zr (I U (k:Nat)))∨(x ∉ a/\e=.panicked (fL 6)))
def BG {nb no N nc:Nat} {x:ZB} {a:V6} {na:ZA} {c:Nat} {j:ZA} {m l:Nat} (L:a7 w sb 3=Z (A (b5 nb no) N nc)) (P:a7 w nb no=Z (Zt x)) (qq:0<N) (hN:cR S w (F.q a) (A na (J (F.q a)) c)) (ql:Bd S w) (M:dB 6 a=true) (W:F.k a=5) :
  WU WV 169 #[Zp (b5 sb 0),Za #[A na (J (F.q a)) c,A j m l]] w (CE (F.q a) x w):=by
 obtain⟨-,-,C,i⟩:=pH M W;have f:=CM i;have s:J (F.q a)<=1000:=by
  have h2:=(dr M).2;have L:1+cG (λk=>cJ 5 k) (F.o a)<=120:=h2;have qc:J (F.o a)<=cG (λk=>cJ 5 k) (F.o a):=by have Y:=(dY (n:=5) (dr M).1).2.2;exact mR (n:=5) (d:=2) (Qo.2 Y)
  omega
 have p:Bw w (w.alloc (Zc #[A na (J (F.q a)) c,A j m l] 128)):=eC _ _;have Q:G (∀V,Bw w V->WU WV 207 #[A na (J (F.q a)) c,Zt x] V λe X=>Bw V X/\∃k b,e=Zr (Zu #[I U (k:Nat),Zb b])/\((b=true/\(F.q a)[k]?=Z x)∨(b=false/\x ∉ F.q a))):=λV u=>by
  refine H (yH c x s f λh0=>?_) ?_;·obtain⟨qa,cap,hv,-,-,hc⟩:=hN.keep (b6 u ql) zI;exact Pu
  .rintro e X ⟨k,q,q5,h1,h2,rfl,rfl⟩;refine⟨bwN q V,k,_,D,?_⟩;by_cases T:(F.q a)[k]?=Z x;·exact .inl zE
   .exact .inr ⟨by simp[T],Rv f h1 h2 T⟩
 have z0:=Qh w (Zc #[A na (J (F.q a)) c,A j m l] 128);have HF:G (∀V,Bw (w.alloc (Zc #[A na (J (F.q a)) c,A j m l] 128)) V->a7 V w.heap.size 0=Z (A na (J (F.q a)) c)/\a7 V sb 3=Z (A (b5 nb no) N nc)/\a7 V nb no=Z (Zt x)):=λV u=>by have h1:=ef ((u.block w.heap.size zS).trans z0);have z:=p.trans (u.mono zS);exact⟨h1.1.1,kC z L (dK L),kC z P (dK P)⟩
 have HP:G (∀V,Bw (w.alloc (Zc #[A na (J (F.q a)) c,A j m l] 128)) V->Bw w V):=λV u=>p.trans (u.mono zS);have g:Bw (w.alloc (Zc #[A na (J (F.q a)) c,A j m l] 128)) (w.alloc (Zc #[A na (J (F.q a)) c,A j m l] 128)).drew:=(Qg _ _).drew;have v:=HF.out _ g;clear hN f i C M W z0 p L P;generalize J (F.q a)=ln at *;go_in;go_upto_region 1 with fail;refine Qz (S:=λV=>a7 V w.heap.size 0=Z (A na ln c)/\a7 V sb 3=Z (A (b5 nb no) N nc)/\a7 V nb no=Z (Zt x)) zK v (λhHeld=>?_);generalize (w.alloc (Zc #[A na ln c,A j m l] 128)).drew=V at *;refine t4 0 1 2 3 ?_;refine t4 4 5 6 7 ?_;refine tk 8 ?_;refine ic 9 λK hK=>?_;go_simp;go_at_call 207;refine H (Q V (HP _ g)) ?_;rintro e w1 ⟨y,k,b,rfl,B⟩;have t:=g.trans (y.mono g.size);refine hK.out _ _ (HF _ t) (λhHeld=>?_);clear hK K;refine t4 10 11 12 13 ?_;refine tk 14 ?_;refine Xi zK ?_ _;go_simp;have R:G (Bw w w1):=HP.out _ t;have o:=a8 B;clear Q HF HP g t B y v;go_wp2_with fail;refine H (nI _ _ _) ?_;rintro e E ⟨rfl,⟨r,rfl⟩|⟨r,rfl⟩⟩
 .have O:(F.q a)[k]?=Z x:=by
   rcases o.out with h|h;·exact h.2
   .rw[r]at h;cases h.1
  have HQ:=a8 O;clear O o;go_wp2_with fail;go_ret;exact⟨R,.inl ⟨k,HQ,D⟩⟩
 .have O:x ∉ F.q a:=by
   rcases o.out with h|h;·rw[r]at h;cases h.1
   .exact h.2
  exact⟨D,R,zE⟩
def g9.name1 {t:T (m+1)} (h:g9 C Q w m t r env cs sb) {c:ZB} (g:F.q t=[c]) :
  ∃nb no nc,a7 w sb 3=Z (A (b5 nb no) 1 nc)/\a7 w nb no=Z (Zt c)/\¬C nb:=by obtain⟨c3,c4,-,-,-,d,-,b,-⟩:=h.stp.node;rw[g]at b;obtain⟨i,nc,rfl,-,-,f⟩:=b;obtain⟨nb,no,rfl,e,a⟩:=f zS;have:=a 0 zS;exact⟨nb,no,nc,d,iG,e.2⟩
def OC {t:T (m+1)} (h:g9 C Q w m t r env cs sb) (qv:F.k t=21) :
  WU WV 121 #[Zp (b5 sb 0)] w (cQ C (de Q cs) w (b7 (m+1) t env)):=by
 have⟨k0,hl⟩:=ry (h.len (op:=21) qv zC);obtain⟨qa,hn,-,-⟩:=h.ok.2.fld E;have Ezq:=a8 (j8 (env:=env) hl gt gt);rw[qv]at Ezq;have⟨ae,ag,af,g0,s0,qc,P,q5,q6⟩:=h.kid hl 0 k0 D gt;rw[QC]at P;have aa:=h.lt;have hq:=h.own;have HC:=a8 (o8 q5 aa hq);rw[hn]at Ezq;have⟨nb,no,nc,n3,nx,ab⟩:=h.name1 hn;have ac:=h.stp.nc;generalize b7 (m+1) t env=R at *;generalize b7 m k0 env=r0 at *;clear h q5;go_in;go_wp2_with fail;refine H HC ?_;intro e w1 hp;obtain⟨qB,⟨c,e1,rfl⟩|⟨a,v,e1,hs,X,rfl,q9⟩⟩:=hp.get q6 21 0 0 nO;·exact pO
 obtain⟨nv,kv,rfl,hN,j⟩:=yy q9;obtain⟨na,f,rfl,-⟩:=id hN;obtain⟨l,o,rfl,-⟩:=id j;have q8:R=(match fU (F.q a) (cL a) qa with|Y=>.error 6|Z y=>.ok y):=by rw[Ezq.out,e1];exact Am _ _ _ _
 have HK:G (Kp (de Q cs) w w1):=qB.mono λ_=>.inl;have x:=(qB.mono hq).cell n3 ac;have B:=(qB.mono hq).cell nx ab;have q7:Bw w1 (w1.alloc (Zc #[A na (J (F.q a)) f,A l (J (F.o a)) o] 128)):=eC _ _;have z0:=Qh w1 (Zc #[A na (J (F.q a)) f,A l (J (F.o a)) o] 128);have N:G (∀V,Bw w1 V->WU WV 169 #[Zp (b5 sb 0),Za #[A na (J (F.q a)) f,A l (J (F.o a)) o]] V (CE (F.q a) qa V)):=λV i=>BG (kC i x (dK x)) (kC i B (dK B)) zC (hN.keep (b6 i λb L=>L.1) zI) (λb L=>Qn L.1 i.size) X hs;have HF:G (∀V,Bw (w1.alloc (Zc #[A na (J (F.q a)) f,A l (J (F.o a)) o] 128)) V->a7 V w1.heap.size 0=Z (A na (J (F.q a)) f)/\a7 V w1.heap.size 1=Z (A l (J (F.o a)) o)):=λV i=>(ef ((i.block w1.heap.size zS).trans z0)).1;have HP:G (∀V,Bw (w1.alloc (Zc #[A na (J (F.q a)) f,A l (J (F.o a)) o] 128)) V->Bw w1 V):=λV i=>q7.trans (i.mono zS);have g:Bw (w1.alloc (Zc #[A na (J (F.q a)) f,A l (J (F.o a)) o] 128)) (w1.alloc (Zc #[A na (J (F.q a)) f,A l (J (F.o a)) o] 128)).drew:=(Qg _ _).drew;have W:=HF.out _ g;have HN:G (qa ∉ F.q a->R=.error 6):=λh=>by rw[q8,py _ _ _ h]
 have HY:G (∀k V,(F.q a)[k]?=Z qa->Bw w1 V->k<J (F.o a)/\∃O off d,l=b5 O off/\a7 V O (off+k)=Z d/\(∃u z,d=.iface u z)/\cQ C (de Q cs) w R (Zr d) V):=λk V M i=>by
  have⟨s,ql⟩:=CY X hs M;have⟨O,off,cap,hv,L,d,j2,j0⟩:=nB X j s;cases hv
  exact⟨s,O,off,d,D,kC i j2 (dK j2),j0.iface,iD (HK.trans (.of_below i)) (by rw[q8,ql]) (j0.keep (b6 i λb L=>L.1) (Sn.up i.size))⟩
 have ad:J (F.o a)<=1000:=by have h3:1+cG (λk=>cJ 5 k) (F.o a)<=120:=(dr X).2;have h4:=mR (n:=5) (d:=2) (Qo.2 (dY (n:=5) (dr X).1).2.2);omega
 clear hp q9 HC Ezq e1 j hN q8 qc P n3 nx x B q7 z0 qB;generalize J (F.q a)=ln at *;generalize J (F.o a)=lk at *;go_upto_region 2 with fail;refine Qz (S:=λV=>a7 V w1.heap.size 0=Z (A na ln f)/\a7 V w1.heap.size 1=Z (A l lk o)) zK W (λhHeld=>?_);generalize (w1.alloc (Zc #[A na ln f,A l lk o] 128)).drew=V at *;refine t4 0 1 2 3 ?_;refine ic 4 λK hK=>?_;go_simp;go_at_call 169;refine H (N V (HP _ g)) ?_;rintro e w2 ⟨p,⟨k,M,rfl⟩|⟨M,rfl⟩⟩;·have q:=g.trans (p.mono g.size);obtain⟨s,O,off,d,rfl,j2,⟨du,dx,rfl⟩,hP⟩:=HY.out k w2 M (HP _ q);have qq:=a8 hP;refine hK.out _ _ (HF _ q) (λhHeld=>?_);clear hK K HY HN N HF HP hP W g q p M;refine tk 5 ?_;refine qk 6 ?_ λhHeld=>?_;exact hHeld;clear j2;refine tk 7 ?_;refine Xi zK ?_ _;go_simp;go_wp2_with fail;go_ret;exact qq
 .exact⟨D,eP (HK.trans (.of_below ((HP _ g).trans (p.mono (HP _ g).size)))) (HN M)⟩
def Ig {l:List (T n)} (h:fB S w (cN S w n) l v) :
  ∃(a:ZA)(cap:Nat)(k:List (Option (W9×Zv)×T n)),v=A a (J l) cap/\l=k.map (·.2)/\(∀q,q∈k->cN S w n q.2 (oR q.1))/\(J l≠0->∃b off,a=b5 b off/\S b/\∀j u,(k.map λq=>oR q.1)[j]?=Z u->a7 w b (off+j)=Z u):=by
 obtain⟨a,cap,rfl,y,t⟩:=h;by_cases m:l=[];·subst m;exact zS
 .obtain⟨b,off,rfl,s,d⟩:=t m;have hp:∀i (h:i<J l),∃p:Option (W9×Zv),a7 w b (off+i)=Z (oR p)/\cN S w n l[i] (oR p):=λi h=>by have⟨c,o,f⟩:=d i h;obtain⟨u,x,rfl⟩:=f.iface;exact⟨Z (u,x),o,f⟩
  refine⟨_,cap,List.ofFn (λi:Fin (J l)=>((hp i.1 i.2).choose,l[i.1])),D,?_,λq e=>?_,λ_=>⟨b,off,D,s,λj u r=>?_⟩⟩
  .apply Wk;·exact dS
   .intro i o f;exact dS
  .rw[List.mem_ofFn]at e;obtain⟨i,rfl⟩:=e;exact (hp i.1 i.2).choose_spec.2
  .rw[Xg]at r;obtain⟨q,e,rfl⟩:=Wi.1 r;obtain⟨hi,rfl⟩:=QN.1 e;have g:j<J l:=oC;simp;exact (hp j g).choose_spec.1
def F2 {N:List ZB} {a:List (Option (W9 × Zv) × T n)} {e:Ending} (h:WF base w (N.map Zt) (a.map λq=>oR q.1) e w') (o:∀ b,S b->b<base) (p:∀ q,q∈a->cN S w n q.2 (oR q.1)) (hN:J N<=1000) (r:∀ s,s∈N->s.size<=1000) (v:J a<=1000) :
  Below base w w' /\ ∃j c1 k c2,e=Zr (Zu #[A j (J N) c1,A k (J a) c2])/\cR (λb=>S b∨(base<=b/\b<w'.heap.size)) w' N (A j (J N) c1)/\fB (λb=>S b∨(base<=b/\b<w'.heap.size)) w' (cN (λb=>S b∨(base<=b/\b<w'.heap.size)) w' n) (a.map (·.2)) (A k (J a) c2):=by
 obtain⟨l,c1,c,c2,rfl,t,u,m,d,f⟩:=h;refine⟨m,b5 l 0,c1,b5 c 0,c2,dS,⟨_,_,D,fA,λs h=>by have:=r s h;unfold WX;omega,λ_=>⟨l,0,D,E,λi hi=>?_⟩⟩,⟨b5 c 0,c2,dS,by simp;unfold WX;omega,λ_=>⟨c,0,D,E,λi hi=>?_⟩⟩⟩;·rw[ZS];exact d i _ (by rw[Xg,Qp hi];rfl)
 .have g:i<J a:=oC;refine⟨oR a[i].1,?_,?_⟩;·rw[ZS];exact f i _ (by rw[Xg,Qp g];rfl)
  .rw[Xe];exact (p _ zS).keep (b6 m o) λb h=>.inl h
def OB {t:T (m+1)} (h:g9 C Q w m t r env cs sb) (qv:F.k t=23) :
  WU WV 123 #[Zp (b5 sb 0)] w (cQ C (de Q cs) w (b7 (m+1) t env)):=by
 have⟨k0,hl⟩:=ry (h.len (op:=23) qv zC);obtain⟨x,hn,-,-⟩:=h.ok.2.fld E;have Ezq:=a8 (j8 (env:=env) hl gt gt);rw[qv]at Ezq;have⟨av,ax,aw,g0,s0,ai,q5,aa,ag⟩:=h.kid hl 0 k0 D gt;rw[QC]at q5;have af:=h.lt;have hq:=h.own;have HC:=a8 (o8 aa af hq);rw[hn]at Ezq;have⟨nb,no,nc,n3,nx,al⟩:=h.name1 hn;have am:=h.stp.nc;generalize b7 (m+1) t env=R at *;generalize b7 m k0 env=r0 at *;clear h aa;go_in;go_wp2_with fail;refine H HC ?_;intro e w1 hp;obtain⟨qB,⟨c,e1,rfl⟩|⟨a,v,e1,hs,ha,rfl,ql⟩⟩:=hp.get ag 23 0 0 nO;·exact pO
 obtain⟨nv,kv,rfl,hN,B⟩:=yy ql;obtain⟨na,d,rfl,-⟩:=id hN;obtain⟨l,o,y,rfl,z,ae,ac⟩:=Ig B;have⟨f1,f2,f3,f4⟩:=sr ha hs;have hR:R=(match fU (F.q a) (cL a) x with|Y=>.error 6|Z _=>.ok (Bl a x)):=by rw[Ezq.out,e1];exact Al _ _ _ _
 have HK:G (Kp (de Q cs) w w1):=qB.mono λ_=>.inl;have au:=qB.size;have O:=(qB.mono hq).cell n3 am;have P:=(qB.mono hq).cell nx al;have qa:Bw w1 (w1.alloc (Zc #[A na (J (F.q a)) d,A l (J (F.o a)) o] 128)):=eC _ _;have z0:=Qh w1 (Zc #[A na (J (F.q a)) d,A l (J (F.o a)) o] 128);have X:G (∀V,Bw w1 V->WU WV 169 #[Zp (b5 sb 0),Za #[A na (J (F.q a)) d,A l (J (F.o a)) o]] V (CE (F.q a) x V)):=λV f=>BG (kC f O (dK O)) (kC f P (dK P)) zC (hN.keep (b6 f λb g=>g.1) zI) (λb g=>Qn g.1 f.size) ha hs;have HF:G (∀V,Bw (w1.alloc (Zc #[A na (J (F.q a)) d,A l (J (F.o a)) o] 128)) V->a7 V w1.heap.size 0=Z (A na (J (F.q a)) d)/\a7 V w1.heap.size 1=Z (A l (J (F.o a)) o)):=λV f=>(ef ((f.block w1.heap.size zS).trans z0)).1;have HP:G (∀V,Bw (w1.alloc (Zc #[A na (J (F.q a)) d,A l (J (F.o a)) o] 128)) V->Bw w1 V):=λV f=>qa.trans (f.mono zS);have i:Bw (w1.alloc (Zc #[A na (J (F.q a)) d,A l (J (F.o a)) o] 128)) (w1.alloc (Zc #[A na (J (F.q a)) d,A l (J (F.o a)) o] 128)).drew:=(Qg _ _).drew;have q6:=HF.out _ i;have HN:G (x ∉ F.q a->R=.error 6):=λh=>by rw[hR,py _ _ _ h]
 have HW:G (∀k V,(F.q a)[k]?=Z x->Bw w1 V->WU WV 171 #[A na (J (F.q a)) d,A l (J (F.o a)) o,I U (k:Nat)] V λe W=>Bw V W/\∃j0 l1 c1 q9 l2 c2,e=Zr (Zu #[A j0 l1 c1,A q9 l2 c2])/\cQ C (de Q cs) w R (Zr (.iface 128 (Za #[A j0 l1 c1,A q9 l2 c2]))) W):=λk V M f=>by
  have⟨N,ab⟩:=QN.1 M;have⟨aq,aj⟩:=CY ha hs M;have ad:J (y.map (·.1))=J (F.q a):=by rw[Qv,f1,z,Qv]
  have ak:y.map (λq=>oR q.1)=(y.map (·.1)).map oR:=by rw[List.map_map];rfl
  rw[<- f1];refine H (tQ na l d o V ad E N (λh0=>?_) (λh0=>?_)) ?_;·obtain⟨ao,cap,hv,-,-,hc⟩:=hN.keep (b6 f λb g=>g.1) zI;exact Pu
  .have⟨b,off,h1,h2,h3⟩:=ac E;refine⟨b,off,h1,Qn h2.1 f.size,λj u hj=>?_⟩;rw[<- ak]at hj;have:=h3 j u hj;exact kC f this (dK this)
  .intro e W hw;rw[show ((y.map (·.1)).take k++(y.map (·.1)).drop (k+1)).map oR=(y.take k++y.drop (k+1)).map (λq=>oR q.1) by rw[<- List.map_take,<- List.map_drop,<- Q8,List.map_map];rfl]at hw;have ar:J y<=119:=by have:=Xc Uh z;rw[Qv]at this;omega
   obtain⟨q8,j0,c1,q9,c2,rfl,ap,an⟩:=F2 (S:=Sn C w1) (n:=5) hw (λb g=>Qn g.1 f.size) (λq hq=>(ae q ((QF.1 hq).elim XW ZF)).keep (b6 f λb g=>g.1) zI) zE (λs hs=>by have:=f3 s ((QF.1 hs).elim XW ZF);omega) zE;have qq:Bw w1 W:=f.trans (q8.mono f.size);have hz:=f.size;have hu:∀b,(Sn C w1 b∨(V.heap.size<=b/\b<W.heap.size))->Sn C W b:=λb g=>by
    rcases g with g|g;·exact⟨Qn g.1 qq.size,g.2⟩
    .exact⟨g.2,λhc=>by have:=af b hc;omega⟩
   refine⟨q8,j0,_,c1,q9,_,c2,D,iD (HK.trans (.of_below qq)) (by rw[hR,aj]) (.inr (.inr (.inr (.inr (.inl ⟨D,_,_,D,?_,?_⟩)))))⟩
   .have e1:F.q (Bl a x)=(F.q a).take k++(F.q a).drop (k+1):=by show (ft x (F.q a) (F.o a)).1=_;rw[CT x (F.q a) (F.o a) k f1 f4 N ab]
    rw[e1];exact ap.keep ik hu
   .have e2:F.o (Bl a x)=(y.take k++y.drop (k+1)).map (·.2):=by show (ft x (F.q a) (F.o a)).2=_;rw[CT x (F.q a) (F.o a) k f1 f4 N ab,z,<- List.map_take,<- List.map_drop,<- Q8]
    rw[e2];exact an.keep ik hu λ_ _ _ hx=>hx.keep ik hu
 clear hp ql HC Ezq e1 B hN hR ai q5 n3 nx O P qa z0 qB z ae ac f1 f2 f3 f4;generalize J (F.q a)=ln at *;generalize J (F.o a)=lk at *;go_upto_region 2 with fail;refine Qz (S:=λV=>a7 V w1.heap.size 0=Z (A na ln d)/\a7 V w1.heap.size 1=Z (A l lk o)) zK q6 (λhHeld=>?_);generalize (w1.alloc (Zc #[A na ln d,A l lk o] 128)).drew=V at *;refine t4 0 1 2 3 ?_;refine t2 4 5 ?_;refine ic 6 λK hK=>?_;go_simp;go_at_call 169;refine H (X V (HP _ i)) ?_;rintro e w2 ⟨L,⟨k,M,rfl⟩|⟨M,rfl⟩⟩;·have p:=i.trans (L.mono i.size);have q7:=a8 (HW k w2 M (HP _ p));refine hK.out _ _ (HF _ p) (λhHeld=>?_);clear hK K HW HN X q6 i L M;refine ic 7 λK hK=>?_;go_simp;go_at_call 171;refine H q7 ?_;rintro e w3 ⟨qc,j0,l1,c1,q9,l2,c2,rfl,hP⟩;have ah:=a8 hP;have j2:a7 w3 w1.heap.size 0=Z (A na ln d)/\a7 w3 w1.heap.size 1=Z (A l lk o):=HF.out _ (p.trans (qc.mono p.size));refine hK.out _ _ j2 (λhHeld=>?_);clear hK K q7 HF HP hP j2 qc p;refine t4 8 9 10 11 ?_;refine tk 12 ?_;refine Xi zK ?_ _;go_simp;go_wp2_with fail;go_ret;exact ah
 .exact⟨D,eP (HK.trans (.of_below ((HP _ i).trans (L.mono (HP _ i).size)))) (HN M)⟩
def OI {t:T (m+1)} (h:g9 C Q w m t r env cs sb) (qv:F.k t=22) :
  WU WV 122 #[Zp (b5 sb 0)] w (cQ C (de Q cs) w (b7 (m+1) t env)):=by
 have⟨k0,k1,hl⟩:=n8 (h.len (op:=22) qv zC);have⟨f,hn,aI,aG⟩:=h.ok.2.fld E;have Ezq:=a8 (l8 (env:=env) hl gt gt);rw[qv]at Ezq;have⟨aN,aP,aO,g0,s0,av,ae,ak,am⟩:=h.kid hl 0 k0 D gt;rw[QC]at ae;have q7:=h.lt;have W:=h.own;have HC:=a8 (o8 ak q7 W);rw[hn]at Ezq;have⟨nb,no,nc,n3,nx,aA⟩:=h.name1 hn;have al:=h.stp.nc;have⟨j0,q9,ar,g1,s1,ad,af,aq,qq⟩:=h.spot hl 1 k1 D;rw[Qd gt]at qq;have an:=h.okE (i:=1) (k:=k1) fi env h.env.ok;have ab:G (∀V,Kp Q w V->lH C Q V (b7 m k1 env) g1 s1):=λV o=>qq C V env Cq W (λb y=>Qn (q7 b y) o.size) (o.mono W) (h.env.run o W λp hp=>(h.away p hp).1);generalize b7 (m+1) t env=R at *;generalize b7 m k0 env=r0 at *;generalize b7 m k1 env=r1 at *;clear h ak qq;go_in;go_wp2_with fail;refine H HC ?_;intro e w1 hp;obtain⟨qB,⟨c,e1,rfl⟩|⟨a,v,e1,hs,ha,rfl,aj⟩⟩:=hp.get am 22 0 0 nO;·exact pO
 obtain⟨nv,kv,rfl,hN,N⟩:=yy aj;obtain⟨na,d,rfl,-⟩:=id hN;obtain⟨O,P,rfl,-⟩:=id N;have⟨f1,f2,f3,f4⟩:=sr ha hs;have aJ:=qB.size;have ah:Bw w1 (w1.alloc (Zc #[A na (J (F.q a)) d,A O (J (F.o a)) P] 128)):=eC _ _;have z0:=Qh w1 (Zc #[A na (J (F.q a)) d,A O (J (F.o a)) P] 128);have HP:G (∀V,Kp Q (w1.alloc (Zc #[A na (J (F.q a)) d,A O (J (F.o a)) P] 128)) V->Kp Q w1 V):=λV o=>(Kp.of_below ah).trans o;have HF:G (∀V,Kp Q (w1.alloc (Zc #[A na (J (F.q a)) d,A O (J (F.o a)) P] 128)) V->a7 V w1.heap.size 0=Z (A na (J (F.q a)) d)/\a7 V w1.heap.size 1=Z (A O (J (F.o a)) P)/\a7 V sb 3=Z (A (b5 nb no) 1 nc)/\a7 V nb no=Z (Zt f)/\a7 V sb 6=Z (A (b5 j0 q9) 2 ar)/\a7 V j0 (q9+1)=Z (eN g1 s1)):=λV o=>by have h1:=(ef ((o.block w1.heap.size zS λh=>by have:=q7 _ (W _ h);omega).trans z0)).1;have q6:Kp C w V:=(qB.trans (HP V o)).mono W;exact⟨h1.1,h1.2,q6.cell n3 al,q6.cell nx aA,q6.cell ad al,q6.cell af aq⟩
 have B:Kp Q (w1.alloc (Zc #[A na (J (F.q a)) d,A O (J (F.o a)) P] 128)) (w1.alloc (Zc #[A na (J (F.q a)) d,A O (J (F.o a)) P] 128)).drew:=(Kp.refl _ _).drew;have ag:=HF.out _ B;have q5:=a8 (ab _ (qB.trans (HP _ B)));have ql:G (∀c,r1=.error c->R=.error c):=λc hc=>by rw[Ezq.out,e1];simp only[hc,dD]
 have aa:G (∀b,r1=.ok b->R=eu (F8 a f b)):=λb y=>by rw[Ezq.out,e1];simp only[y,dD,dV];exact cU
 have HW:G (∀V b g j,Kp Q w1 V->cN (Sn C V) V 6 b (.iface g j)->dB 6 b=true->R=eu (F8 a f b)->WU WV 170 #[A na (J (F.q a)) d,A O (J (F.o a)) P,Zt f,.iface g j] V λe w'=>Bw V w' /\ ∃a1 l1 c1 a2 l2 c2,e=Zr (Zu #[A a1 l1 c1,A a2 l2 c2])/\WU WV 105 #[.iface 128 (Za #[A a1 l1 c1,A a2 l2 c2])] w' (cQ C (de Q cs) w R)):=λV b g j o z ax hR=>by
  have aw:=hN.keep (Sn.same o W) (Sn.up o.size);have q8:=(wA N o W).map (R':=cN (Sn C V) V 6) (fl 5 5) λx c hx hc=>hc.fit (L:=5) (dr (pG (n:=5) ha hx)).1 zC;have⟨aL,aM,l,hv,M,qc,ay⟩:=Ig q8;rw[Qv]at hv;cases hv
  have M:cL a=l.map (·.2):=M;have az:J l=J (F.q a):=by have h1:=Xc Uh M;rw[Qv,nQ]at h1;omega
  have⟨p1,p2,p3,p4⟩:=SI f ((Z (g,j),b):Option (W9×Zv)×T 6) (F.q a) l E;have aB:=yC (λq:Option (W9×Zv)×T 6=>oR q.1) f (Z (g,j),b) (F.q a) l;have ap:=yC (λq:Option (W9×Zv)×T 6=>q.2) f (Z (g,j),b) (F.q a) l;have aH:J (eH f ((Z (g,j),b):Option (W9×Zv)×T 6) (F.q a) l).1<=120:=by
   rcases E8 f ((Z (g,j),b):Option (W9×Zv)×T 6) (F.q a) l with h|h;·have:=h.2.2.1;omega
   .omega
  rw[<- f1];refine H (Bj na O d P (l.map λq=>oR q.1) f g j V (by rw[Qv];exact az) E f4 (λh0=>?_) (λh0=>?_) (λu hu=>?_)) ?_;·obtain⟨ao,cap,hv,-,-,hc⟩:=aw;exact Pu
  .have⟨b,off,h1,h2,h3⟩:=ay (by rw[Qv];omega);exact⟨b,off,h1,h2.1,h3⟩
  .obtain⟨q,-,rfl⟩:=Xo.1 hu;exact su q.1
  .intro e w' q6;have e0:eH f (Value.iface g j) (F.q a) (l.map λq=>oR q.1)=((eH f ((Z (g,j),b):Option (W9×Zv)×T 6) (F.q a) l).1,(eH f ((Z (g,j),b):Option (W9×Zv)×T 6) (F.q a) l).2.map λq=>oR q.1):=aB;rw[e0]at q6;dsimp only at q6;obtain⟨j2,a1,c1,a2,c2,rfl,aF,aD⟩:=F2 (S:=Sn C V) (n:=6) q6 (λb y=>y.1) (λq W=>by
    rcases p3 q W with h|h
    .exact qc q h
    .rw[h];exact z) E (λs hs=>by
    rcases p2 s hs with h|h
    .have:=f3 s h;omega
    .rw[h];omega) E
   have hu:∀b,(Sn C V b∨(V.heap.size<=b/\b<w'.heap.size))->Sn C w' b:=λb y=>by
    have aK:=o.size;rcases y with y|y;·exact⟨Qn y.1 j2.size,y.2⟩
    .exact⟨y.2,λhc=>by have:=q7 b hc;omega⟩
   have e2:eH f b (F.q a) (cL a)=((eH f ((Z (g,j),b):Option (W9×Zv)×T 6) (F.q a) l).1,(eH f ((Z (g,j),b):Option (W9×Zv)×T 6) (F.q a) l).2.map (·.2)):=by rw[M];exact ap
   refine⟨j2,a1,_,c1,a2,_,c2,D,?_⟩;rw[hR];have ex:F8 a f b=fd 5 0 WT (eH f ((Z (g,j),b):Option (W9×Zv)×T 6) (F.q a) l).1 ((eH f ((Z (g,j),b):Option (W9×Zv)×T 6) (F.q a) l).2.map (·.2)):=by unfold F8;rw[e2]
   rw[ex];refine iU (((qB.trans o).trans (.of_below j2)).mono λ_=>.inl) (.inr (.inr (.inr (.inr (.inl ⟨D,_,_,D,aF.keep ik hu,aD.keep ik hu λ_ _ _ hx=>hx.keep ik hu⟩))))) T7 Cl (λk hk=>?_) (.inl ?_)
   .obtain⟨q,aC,rfl⟩:=Xo.1 hk;rcases p3 q aC with h|h;·exact kE ha _ (by rw[M];exact Wv h)
    .rw[h];exact ax
   .show cM 5 0 WT (eH f ((Z (g,j),b):Option (W9×Zv)×T 6) (F.q a) l).1 (J (List.map (λq:Option (W9×Zv)×T 6=>q.2) (eH f ((Z (g,j),b):Option (W9×Zv)×T 6) (F.q a) l).2))=true;have hr:ee (eH f ((Z (g,j),b):Option (W9×Zv)×T 6) (F.q a) l).1=true:=JC (λs aE=>by
     rcases p2 s aE with h|h
     .exact yF (pH ha hs).2.2.2 s h
     .rw[h];exact aG) (p4 f4)
    have qc:J (List.map (λq:Option (W9×Zv)×T 6=>q.2) (eH f ((Z (g,j),b):Option (W9×Zv)×T 6) (F.q a) l).2)=J (eH f ((Z (g,j),b):Option (W9×Zv)×T 6) (F.q a) l).1:=by rw[Qv,p1]
    rw[qc];simp[cM,hr]
 clear hp aj HC Ezq e1 N hN av ae n3 nx ah z0 f1 f2 f3 f4 ab ad af;generalize J (F.q a)=ln at *;generalize J (F.o a)=lk at *;go_upto_region 2 with fail;refine Qz (S:=λV=>a7 V w1.heap.size 0=Z (A na ln d)/\a7 V w1.heap.size 1=Z (A O lk P)/\a7 V sb 3=Z (A (b5 nb no) 1 nc)/\a7 V nb no=Z (Zt f)/\a7 V sb 6=Z (A (b5 j0 q9) 2 ar)/\a7 V j0 (q9+1)=Z (eN g1 s1)) zK ag (λhHeld=>?_);generalize (w1.alloc (Zc #[A na ln d,A O lk P] 128)).drew=V at *;refine t4 0 1 2 3 ?_;refine t4 4 5 6 7 ?_;refine t4 8 9 10 11 ?_;refine t4 12 13 14 15 ?_;refine tk 16 ?_;refine ic 17 λK hK=>?_;go_simp;go_at_call 67;refine H q5 ?_;intro e w2 hp;obtain⟨qa,⟨c,rfl,rfl⟩|⟨b,vb,rfl,y,rfl,z⟩⟩:=cQ.get hp an;·exact⟨D,eP ((qB.trans ((HP _ B).trans qa)).mono λ_=>.inl) (ql c D)⟩
 have X:=B.trans qa;obtain⟨g,j,rfl⟩:=z.iface;have ac:=a8 (HW w2 b g j (HP _ X) z y (aa b D));refine hK.out _ _ (HF _ X) (λhHeld=>?_);clear hK K HW ql aa ag B qa hp z q5;refine ic 18 λK hK=>?_;go_simp;go_at_call 170;refine H ac ?_;rintro e w3 ⟨ai,a1,l1,c1,a2,l2,c2,rfl,hP⟩;have au:=a8 hP;refine hK.out _ _ (HF _ (X.trans (.of_below ai))) (λhHeld=>?_);clear hK K ac HF HP hP ai X;refine t4 19 20 21 22 ?_;refine tk 23 ?_;refine Xi zK ?_ _;go_simp;go_wp2_with fail;refine H au ?_;intro e w4 hp;exact Ee
def rr:Go.Shelf.Ren:=⟨fun|4=>214|n=>n,fun|0=>0|3=>3|4=>4|9=>9|20=>20|22=>125|25=>71|n=>n,fun|n=>n⟩
def N3:Go.Proofs.Lays8.n4 WV rr:={
 mixed:=gZ
 f4:=⟨Tryz.f214.name,zC,func214.trans (Xc Z zK)⟩
 t0:=underlying0
 a0:=isAgg0
 z0:=sizeOf0
 v0:=zeroValue0
 t3:=underlying3
 a3:=isAgg3
 z3:=sizeOf3
 v3:=zeroValue3
 t4:=underlying4
 a4:=isAgg4
 z4:=sizeOf4
 v4:=zeroValue4
 t9:=underlying9
 a9:=isAgg9
 z9:=sizeOf9
 v9:=zeroValue9
 t20:=underlying20
 a20:=isAgg20
 z20:=sizeOf20
 v20:=zeroValue20
 t22:=underlying125
 a22:=isAgg125
 z22:=sizeOf125
 v22:=zeroValue125 }
def Tryz.info_lc:(prog.info? 71).map (λi=>(i.zero,i.size,i.bytes))=Z (Z .nilIface,1,16):=gZ
def Gh(w:Zw)(v:Zv)(xs:List Zv):Prop:=∃a c,v=A a (J xs) c/\(J xs≠0->∃b off,a=b5 b off/\b<w.heap.size/\∀j u,xs[j]?=Z u->a7 w b (off+j)=Z u)
def N4(l:n<=1000)(w:Zw):WU WV 214 #[A Y 0 0,I U n] w λe a=>Bw w a/\∃v,e=Zr v/\a.ownsRow w.heap.size 71 1 v 0 []:=by
 have⟨k,c,d,j,f⟩:=QY Tryz.info_lc;by_cases g:n=0;·subst g;refine H (Any8.slices_Grow_room N3 Y 0 0 0 w E zC zC E) ?_;rintro e a ⟨rfl,rfl⟩;exact⟨Qg _ _,_,D,QV _ _ _ _⟩
 .refine H (Any8.slices_Grow_grow N3 k .nilIface c d E Y 0 0 n [] w E E (by rw[f];omega) E zS E zS) ?_;rintro e a ⟨rfl,rfl⟩;refine⟨((Qg _ _).drew).alloc (QD _) _,_,D,?_⟩;have h:=grownCap_ge w n 0 (rr.t 25);have b:=grownCap_le_maxLen w (0+n) 0 (rr.t 25) zL;refine World.ownsRow_made w.drew _ _ (QD _) b ?_;have i:(Value.nilIface).cells.size=1:=D;simp[Builtin.zeroCells,i];omega
def D0 {a:Act} {Q:Exit->Act->Zw->Prop} (g:o.guard=Y) (s x:Operand) (t:W9)
  (n:o.op=.call { callee:=.builtin .append,args:=#[s,x],argTypes:=#[t,t] }) (e:W9) (i:TypeInfo) (k:P.underlying t=Z (.slice e)) (m:P.info? e=Z i)
  (base:ZA) (l c:Nat) (j:l<=c) (p:ZA) (b:Nat) (r:a.eval s=A base l c) (u:a.eval x=A p 0 b)
  (h:wpList P ops Q rest (a.put o.dst (A base l c)) w):wpList P ops Q (o :: rest) a w:=by
 refine wpList_plain g λK hK=>?_;have f:Src P i.size t (A p 0 b) 0 [] w:=by
  cases p with
  | none=>exact Src.ofNil w k b
  | some q=>exact Src.ofSlice w k q 0 b [] zS zS zS
 have d:=run_append_nothing (P:=P) w t t o.type e i k m base l c j (A p 0 b) f;unfold Oper.wp;simp[execOp,n,resolve,invoke,builtin,r,u,d,Result.andThen];exact hK _ _ h
def E3{e:W9}{l c:Nat}(h:w.ownsRow M e 1 (A a l c) n xs):l<=c:=by
 rcases h.2 with ⟨h,m⟩|⟨g,cap,f,h,i,o,b,j,k,d⟩;·cases h;exact E
 .cases h;exact b
def wX {a:Act} {Q:Exit->Act->Zw->Prop} (g:o.guard=Y) (so n:Operand)
  (B:o.op=.call { callee:=.builtin .append,args:=#[so,n],argTypes:=#[125,125] }) (C:a.eval so=v) (K:a.eval n=x) (d:wr.ownsRow w.heap.size 71 1 v (J xs) xs) (f:Bw w wr) (T:Gh w x ys) (M:∀u∈ys,u.oneCell'=true) (F:J xs+J ys<=1000)
  (h:∀m l,Bw w l->l.ownsRow w.heap.size 71 1 m (J (xs++ys)) (xs++ys)->wpList WV ops Q rest (a.put o.dst m) l):wpList WV ops Q (o :: rest) a wr:=by
 have⟨L,i,s,t,y⟩:=QY Tryz.info_lc;obtain⟨p,c,rfl,P⟩:=T;obtain⟨V,W,rfl⟩:=ep d;by_cases z:J ys=0;·have r:ys=[]:=Qj z;subst r;refine D0 g so n 125 B 71 L underlying125 i V (J xs) W (E3 d) p c C K ?_;exact h _ _ f (by simpa using d)
 .obtain⟨b,off,rfl,q,e⟩:=P z;refine WD wr g so n 125 B w.heap.size 71 L .nilIface 1 16 underlying125 i s t y D zC _ (J xs) xs C d ⟨b,off,Y⟩ (J ys) c ys K zS (λj u R=>?_) M zL E f.size ?_;·rw[XC];exact kC f (e j u R) q
  .intro m l N O X;refine h m l (f.grown O f.size λk S=>(cO d k S).1) (by rw[Qi];exact N)
def Gz {q:Nat} {Q R:Zv} (B:a7 w q 0=Z Q) (N:a7 w q 1=Z R) (r1:Gh w Q xs) (r2:Gh w R ys) (q5:∀ u∈xs,u.oneCell'=true) (qc:∀ u∈ys,u.oneCell'=true) (qq:J xs<=100) (q6:J ys<=100) :
  WU WV 173 #[A (b5 q 0) 2 2] w λe P=>Bw w P/\∃v,e=Zr v/\P.ownsRow w.heap.size 71 1 v (J (xs++ys)) (xs++ys):=by
 have k:=a8 r1;have l:=a8 r2;obtain⟨T,c1,rfl,-⟩:=r1;obtain⟨V,c2,rfl,-⟩:=r2;obtain⟨p,y⟩:∃n,J xs=n:=⟨_,D⟩;obtain⟨t,z⟩:∃n,J ys=n:=⟨_,D⟩;have M:G (J xs=p/\J ys=t):=⟨y,z⟩;rw[y]at B qq;rw[z]at N q6;rw[y]at k;rw[z]at l;have S:=a8 (λ(n:Nat) (X:n<=1000)=>N4 X w);have o:=dK B;have HF:G (∀W,Bw w W->a7 W q 0=Z (A T p c1)/\a7 W q 1=Z (A V t c2)):=λW O=>⟨kC O B o,kC O N o⟩;go_in;go_wp2_with fail;go_loopw [3,11] (λsz i wr=>wr=w/\((i=I U 0/\sz=I U 0)∨(i=I U 1/\sz=I U p)∨(i=I U 2/\sz=I U ((p:Int)+t)))) (λ_ i _=>2-(intOf i).toNat);case atStart=>exact⟨D,zS⟩
 case round=>
  obtain⟨rfl,⟨rfl,rfl⟩|⟨rfl,rfl⟩|⟨rfl,rfl⟩⟩:=hrel
  .go_wp2_with fail;go_roundw;case rel=>exact⟨trivial,zS⟩
   case measure=>simp[intOf]
  .go_wp2_with fail;go_roundw;case rel=>exact zS
   case measure=>simp[intOf]
  .obtain⟨w0,C⟩:∃w0,w0=wr:=⟨_,D⟩;subst C;have x:=a8 (S.out (p+t) E);go_wp2_with fail;refine H x ?_;rintro e w1 ⟨m,v,rfl,a⟩;have⟨f0,f1⟩:=HF.out w1 m;have q7:=a8 a;obtain⟨qa,F,rfl⟩:=ep a;go_wp2_with fail;go_loopw [6,27] (λv i f=>Bw w0 f/\((i=I U 0/\f.ownsRow w0.heap.size 71 1 v (J ([]:List Zv)) [])∨(i=I U 1/\f.ownsRow w0.heap.size 71 1 v (J xs) xs)∨(i=I U 2/\f.ownsRow w0.heap.size 71 1 v (J (xs++ys)) (xs++ys)))) (λ_ i _=>2-(intOf i).toNat);case atStart=>exact⟨m,zE⟩
   case round=>
    obtain⟨d,⟨rfl,a⟩|⟨rfl,a⟩|⟨rfl,a⟩⟩:=hrel
    .obtain⟨r,s,rfl⟩:=ep a;have⟨f0,f1⟩:=HF.out wr d;have c:=a8 a;have g:=a8 d;go_wp2_with (at_builtin;refine wX (w:=w0) D (.tmp 31) (.tmp 32) D D D c.out g.out k.out q5 (by have:=M.out;simp;omega) ?_;intro v3 ql j b;refine XE ?_);refine QJ ?_;have h:=a8 b;obtain⟨K,L,rfl⟩:=ep b;go_wp2_with fail;go_roundw;case rel=>exact⟨j,.inr (.inl ⟨ew,by simpa using h.out⟩)⟩
     case measure=>simp[intOf]
    .obtain⟨r,s,rfl⟩:=ep a;have⟨f0,f1⟩:=HF.out wr d;have c:=a8 a;have g:=a8 d;go_wp2_with (at_builtin;refine wX (w:=w0) D (.tmp 31) (.tmp 32) D D D c.out g.out l.out qc (by have:=M.out;simp;omega) ?_;intro v3 ql j b;refine XE ?_);refine QJ ?_;have h:=a8 b;obtain⟨K,L,rfl⟩:=ep b;go_wp2_with fail;go_roundw;case rel=>exact⟨j,.inr (.inr ⟨ew,h⟩)⟩
     case measure=>simp[intOf]
    .obtain⟨r,s,rfl⟩:=ep a;have c:=a8 a;go_wp2_with fail;go_ret;exact⟨d,_,D,c⟩
def Jh{a:V6}(r:dB 6 a=true)(t:fB S w (cN S w 5) (F.o a) v)(p:Bd S w):∃d:List (Option (W9×Zv)×T 6),cL a=d.map (·.2)/\J d=J (F.o a)/\(∀q,q∈d->cN S w 6 q.2 (oR q.1))/\Gh w v (d.map λq=>oR q.1):=by
 have h:=t.map (R':=cN S w 6) (fl 5 5) λx c y s=>s.fit (L:=5) (dr (pG (n:=5) r y)).1 zC;have⟨j,c1,d,u,e,g,f⟩:=Ig h;have i:J d=J (F.o a):=by have:=Xc Uh e;rw[Qv,Qv]at this;exact E
 refine⟨d,e,i,g,j,c1,?_,λk=>?_⟩;·rw[u,Qv,Qv,i]
 .have⟨b,off,l,m,o⟩:=f (by rw[Qv]at k ⊢;omega);exact⟨b,off,l,p b m,o⟩
def Gh.keep(h:Gh w v xs)(e:Bw w w'):Gh w' v xs:=by obtain⟨a,c,g,i⟩:=h;refine⟨a,c,g,λf=>?_⟩;have⟨b,off,k,d,l⟩:=i f;exact⟨b,off,k,Qn d e.size,λj u m=>kC e (l j u m) d⟩
def Pl{x y:ZB}(b:eW x=true)(c:eW y=true)(a:(x++y).size<=60):eW (x++y)=true:=by unfold eW at *;simp only[Qc,Qk]at *;refine⟨a,?_⟩;rw[ByteArray.data_append,Array.toList_append,Zj,b.2,c.2];exact cU
def RN:WT++WT=WT:=by apply ByteArray.ext;exact dS
def uM(n:Int)(x:ZB)(l:List ZB)(a b:V6):e8 27 n x l [a,b]=eu (fd (F.k a) 0 (F.a a++F.a b) [] (cL a++cL b)):=rfl
def LK {t:T (m+1)} (h:g9 C Q w m t r env cs sb) (qv:F.k t=27) :
  WU WV 127 #[Zp (b5 sb 0)] w (cQ C (de Q cs) w (b7 (m+1) t env)):=by
 have⟨k0,k1,hl⟩:=n8 (h.len (op:=27) qv zC);have Ezq:=a8 (l8 (env:=env) hl gt gt);rw[qv]at Ezq;have⟨am,ap,an,g0,s0,aa,q9,ae,j2⟩:=h.kid hl 0 k0 D gt;rw[QC]at q9;have HC:=a8 (ae.here h.lt);have n:G (∀W,Kp Q w W->∃ql vo vc g s,a7 W sb 6=Z (A (b5 ql vo) 2 vc)/\a7 W ql (vo+1)=Z (eN g s)/\WU WV 172 #[eN g s] W (eL C Q W (b7 m k1 env) 4 125)):=λW hW=>by have h1:=h.keep (hW.mono λ_=>.inl);obtain⟨qX,qY,qK,g1,s1,qZ,jb,qB,-⟩:=h1.kid hl 1 k1 D gt;exact⟨qX,qY,qK,g1,s1,qZ,jb,lA (qB.here h1.lt)⟩
 have K:=h.okE (i:=1) (k:=k1) fi env h.env.ok;have o:G (∀W,Kp Q w W->∃ql vo vc g s,a7 W sb 6=Z (A (b5 ql vo) 2 vc)/\a7 W ql (vo+1)=Z (eN g s)/\WU WV 166 #[eN g s] W (eL C Q W (b7 m k1 env) 2 121)):=λW hW=>by exact YF
 have K:=h.okE (i:=1) (k:=k1) fi env h.env.ok;have af:=h.lt;have hq:=h.own;generalize b7 (m+1) t env=R at *;generalize b7 m k0 env=r0 at *;generalize b7 m k1 env=r1 at *;have A0:=lK (T:=125) (z:=A Y 0 0);have A1:=lK (T:=121) (z:=Zt WT);simp[Kj]at A0 A1;go_in;go_wp2_with fail;refine H HC ?_;intro e w1 hp;obtain⟨qB,⟨c,rfl,rfl⟩|⟨a,v,rfl,ha,rfl,ad⟩⟩:=cQ.get hp j2;·exact IE
 .rcases ad with ⟨hs,rfl⟩|⟨hs,rfl⟩|⟨hs,rfl⟩|⟨hs,kv,rfl,qa⟩|⟨hs,nv,kv,rfl,hn,qa⟩|⟨hs,kv,rfl,qa⟩;·exact YA
  .have⟨qX,qY,qK,g1,s1,qZ,jb,O⟩:=o.out w1 qB;have p:=a8 O;have HA:G (dD 27 0 0 (.ok a)=.ok a):=by show _=_;simp[dD,dV,hs]
   go_wp2_with fail;refine H p ?_;intro e M hp;obtain⟨qM,⟨c,e2,rfl⟩|⟨b,v,e2,S,x,rfl,l⟩⟩:=hp.get K 27 1 (F.k a) JZ;·exact S9
   obtain rfl:=yz l;obtain⟨-,t1,-,qc⟩:=ld ha hs;obtain⟨-,t2,-,q8⟩:=ld x S;have z1:=l7 t1;have z2:=l7 t2;have q5:R=eu (fd 2 0 (F.a a++F.a b) [] []):=by rw[Ezq.out,HA.out];simp only[e2];rw[uM,hs];unfold cL;rw[qc,q8];exact cU
   have ag:(F.a a++F.a b).size=(F.a a).size+(F.a b).size:=by simp[Q3]
   have HB:G (WU WV 105 #[.iface 121 (Zt (F.a a++F.a b))] M (cQ C (de Q cs) w R)):=by
    rw[q5];refine iU ((qB.trans qM).mono λ_=>.inl) (.inr (.inl ⟨D,D⟩)) (λ_=>D) (by show (F.a a++F.a b).size<=1000;omega) (λk V=>by cases V) ?_;by_cases hq:(F.a a++F.a b).size<=60;·left;have:=Pl t1 t2 hq;show cM 2 0 (F.a a++F.a b) [] 0=true;simp[cM,this]
    .right;show kW 2 (F.a a++F.a b) 0=false;simp only[kW,XX];exact zE
   clear hp l p Ezq e2 qB qM HA q5 t1 t2 qc q8 ag;generalize F.a a=xa at *;generalize F.a b=xb at *;go_wp2_with fail;refine H HB ?_;intro e w5 hp;exact Ee
  .have HP:G (cQ C (de Q cs) w R (.panicked (fL 6)) w1):=eP (qB.mono λ_=>.inl) (by
    rw[Ezq.out]
    have:dV 27 0 (F.k a) 0=false:=zs
    simp[dD,this])
   clear hp qB Ezq HC n o;exact P5
  .have⟨qX,qY,qK,g1,s1,qZ,jb,O⟩:=n.out w1 qB;have p:=a8 O;have HA:G (dD 27 0 0 (.ok a)=.ok a):=by show _=_;simp[dD,dV,hs]
   have j0:=a8 qa.row;obtain⟨ao,cp,rfl,-⟩:=id qa;clear hp HC n o O aa q9 qa;go_wp2_with fail;refine H p ?_;intro e M hp;obtain⟨qM,⟨c,e2,rfl⟩|⟨b,v,e2,S,x,rfl,l⟩⟩:=hp.get K 27 1 (F.k a) JZ;·exact S9
   have P:=(oW l).row;obtain⟨-,ta,-,la⟩:=iP ha hs;obtain⟨-,tb,-,lb⟩:=iP x S;have q5:R=eu (fd 4 0 WT [] (cL a++cL b)):=by rw[Ezq.out,HA.out];simp only[e2];rw[uM,hs,ta,tb,RN]
   have aj:=qB.size;have ak:=qM.size;have⟨d,l1,n1,q1,v1⟩:=Jh ha (wA j0 qM hq) λb x=>x.1;have⟨f,l2,n2,q2,v2⟩:=Jh x P λb x=>x.1;obtain⟨bo,bc,rfl,-⟩:=id P;have z0:=Qh M (Zc #[A ao (J (F.o a)) cp,A bo (J (F.o b)) bc] 125);have B:Bw M (M.alloc (Zc #[A ao (J (F.o a)) cp,A bo (J (F.o b)) bc] 125)):=eC _ _;have q7:=a8 (Gz (ef z0).1.1 (ef z0).1.2 (v1.keep B) (v2.keep B) (λu hu=>by obtain⟨q,-,rfl⟩:=Xo.1 hu;exact su q.1) (λu hu=>by obtain⟨q,-,rfl⟩:=Xo.1 hu;exact su q.1) (by rw[Qv];omega) (by rw[Qv];omega));have X:G (∀L v,Bw (M.alloc (Zc #[A ao (J (F.o a)) cp,A bo (J (F.o b)) bc] 125)) L->L.ownsRow (M.alloc (Zc #[A ao (J (F.o a)) cp,A bo (J (F.o b)) bc] 125)).heap.size 71 1 v (J (d.map (λq=>oR q.1)++f.map λq=>oR q.1)) (d.map (λq=>oR q.1)++f.map λq=>oR q.1)->WU WV 105 #[.iface 125 v] L (cQ C (de Q cs) w R)):=λL v N j=>by
    rw[q5];have y:Bw M L:=B.trans (N.mono zS);have ek:cL a++cL b=(d++f).map (·.2):=by rw[l1,l2,Q8]
    have ev:d.map (λq=>oR q.1)++f.map (λq=>oR q.1)=(d++f).map λq=>oR q.1:=by rw[Q8]
    rw[ev]at j;have q6:J ((d++f).map (·.2))=J ((d++f).map λq:Option (W9×Zv)×T 6=>oR q.1):=by rw[Qv,Qv]
    have qq:fB (Sn C L) L (cN (Sn C L) L 6) ((d++f).map (·.2)) v:=by
     rw[<- q6]at j;refine gM j (by rw[Qv,Qi];unfold WX;omega) (λg hg=>?_) λi hi ai=>?_;·have:=cO j g hg;have al:=B.size;exact⟨E,λhc=>by have:=af g hc;omega⟩
     .rw[Xe,Xe];have hm:(d++f)[i]'oC∈d++f:=zS;have ac:cN (Sn C M) M 6 ((d++f)[i]'oC).2 (oR ((d++f)[i]'oC).1):=(QF.1 hm).elim (q1 _) (q2 _);exact ac.keep (b6 y λb x=>x.1) (Sn.up y.size)
    obtain⟨va,vc,rfl⟩:=ep j;rw[ek];have ah:J (d++f)=J (F.o a)+J (F.o b):=by rw[Qi,n1,n2]
    refine iU (((qB.trans qM).trans (.of_below y)).mono λ_=>.inl) (.inr (.inr (.inr (.inl ⟨D,_,D,.of qq (E3 j)⟩)))) Pt Cl (λk V=>?_) ?_;·have V:k∈(d++f).map (·.2):=V;rw[<- ek]at V;exact (QF.1 V).elim (kE ha k) (kE x k)
    .by_cases ab:J (d++f)<=20;·left;show cM 4 0 WT [] (J ((d++f).map (·.2)))=true;rw[Qv];simp[cM];rw[Qi]at ab;omega
     .right;show kW 4 WT (J ((d++f).map (·.2)))=false;rw[Qv];unfold kW;rw[Qd zC,Qm rfl];exact zE
   clear hp l p Ezq e2 qB qM HA q5 j0 P q1 q2 v1 v2 l1 l2 z0 B ta tb;generalize J (F.o a)=na at *;generalize J (F.o b)=nb at *;go_wp2_with fail;refine H q7 ?_;rintro e L ⟨N,v,rfl,j⟩;have HB:=a8 (X L v N j);obtain⟨va,vc,rfl⟩:=ep j;clear q7 X N j n1 n2;generalize J (d.map (λq=>oR q.1)++f.map λq=>oR q.1)=nn at *;go_wp2_with fail;refine H HB ?_;intro e w5 hp;exact Ee
  iterate 2
   .exact YA
def fnL:List Nat:=[0,100,100,100,0,102,103,104,106,0,0,0,0,0,113,114,115,116,117,119,120,121,122,123,124,125,126,127,128,129,130,131,132,133,134,135]
def rcL:List Nat:=[108,109,110,111,112]
def lq(C:ZN)(w:Zw)(op:Nat)(v:Zv):Prop:=
 if 9<=op/\op<=13 then ∃a,v=.func (.func 164) #[] #[Zp (b5 a 0)]/\a7 w a 0=Z (.func (.func (rcL.getD (op-9) 0)) #[] #[])/\¬C a
 else v=.func (.func (fnL.getD op 0)) #[] #[]
def lq.keep{op:Nat}(h:lq C w op v)(d:Kp C w w2):lq C w2 op v:=by
 unfold lq at *;split
 .next hc=>
  rw[Qm hc]at h;obtain⟨e,b,c,a⟩:=h;exact⟨e,b,d.cell c a,a⟩
 .next hc=>
  rw[Qd hc]at h;exact h
def SL:∀op:Nat,9<=op->op<=13->Gg op (rcL.getD (op-9) 0):=by
 intro op a b;have h:op=9∨op=10∨op=11∨op=12∨op=13:=E;rcases h with rfl|rfl|rfl|rfl|rfl;·exact SK
 .exact SP
 .exact SN
 .exact SM
 .exact SO
def Oz {t:T (m+1)} (h:g9 C Q w m t r env cs sb) {op:Nat} (a:F.k t=(op:Int)) (j:1<=op) (g:op<=35) (k:op≠4) (d:lq C w op v) :
  ∃b cap,v=.func (.func b) #[] cap/\(∀(args:Array Zv)(W:Zw),(callFunc b args).run WV W=.ok (.enter b args) W)/\WU WV b (#[Zp (b5 sb 0)]++cap) w (cQ C (de Q cs) w (b7 (m+1) t env)):=by
 unfold lq at d;by_cases c:9<=op/\op<=13;·rw[Qm c]at d;obtain⟨l,rfl,e,f⟩:=d;exact⟨_,_,D,Tryz.call164,OJ h a c.1 c.2 (SL op c.1 c.2) e f⟩
 .rw[Qd c]at d;subst d;have i:op=1∨op=2∨op=3∨op=5∨op=6∨op=7∨op=8∨op=14∨op=15∨op=16∨op=17∨op=18∨op=19∨op=20∨op=21∨op=22∨op=23∨op=24∨op=25∨op=26∨op=27∨op=28∨op=29∨op=30∨op=31∨op=32∨op=33∨op=34∨op=35:=E;rcases i with rfl|rfl|rfl|rfl|rfl|rfl|rfl|rfl|rfl|rfl|rfl|rfl|rfl|rfl|rfl|rfl|rfl|rfl|rfl|rfl|rfl|rfl|rfl|rfl|rfl|rfl|rfl|rfl|rfl;·exact⟨_,_,D,Tryz.call100,yp h E⟩
  .exact⟨_,_,D,Tryz.call100,yp h E⟩
  .exact⟨_,_,D,Tryz.call100,yp h E⟩
  .exact⟨_,_,D,Tryz.call102,LN h a⟩
  .exact⟨_,_,D,Tryz.call103,Hm h a⟩
  .exact⟨_,_,D,Tryz.call104,LT h a⟩
  .exact⟨_,_,D,Tryz.call106,OH h a⟩
  .exact⟨_,_,D,Tryz.call113,LM h a⟩
  .exact⟨_,_,D,Tryz.call114,LQ h a⟩
  .exact⟨_,_,D,Tryz.call115,OA h a⟩
  .exact⟨_,_,D,Tryz.call116,Sl h a⟩
  .exact⟨_,_,D,Tryz.call117,OG h a⟩
  .exact⟨_,_,D,Tryz.call119,Sk h a⟩
  .exact⟨_,_,D,Tryz.call120,OD h a⟩
  .exact⟨_,_,D,Tryz.call121,OC h a⟩
  .exact⟨_,_,D,Tryz.call122,OI h a⟩
  .exact⟨_,_,D,Tryz.call123,OB h a⟩
  .exact⟨_,_,D,Tryz.call124,LJ h a⟩
  .exact⟨_,_,D,Tryz.call125,Sj h a⟩
  .exact⟨_,_,D,Tryz.call126,LS h a⟩
  .exact⟨_,_,D,Tryz.call127,LK h a⟩
  .exact⟨_,_,D,Tryz.call128,LO h a⟩
  .exact⟨_,_,D,Tryz.call129,LR h a⟩
  .exact⟨_,_,D,Tryz.call130,LP h a⟩
  .exact⟨_,_,D,Tryz.call131,LH h a⟩
  .exact⟨_,_,D,Tryz.call132,LG h a⟩
  .exact⟨_,_,D,Tryz.call133,OE h a⟩
  .exact⟨_,_,D,Tryz.call134,LL h a⟩
  .exact⟨_,_,D,Tryz.call135,LI h a⟩
def IW {O:ZN} {R:Except Int V6} {s:Nat} {cap:Array Zv} (b:a7 w g 0=Z (.func (.func Fzq) #[] cap)) (c:a7 w s 0=Z (Zp (b5 sb 0))) (a:∀ (args:Array Zv) (W:Zw),(callFunc Fzq args).run WV W=.ok (.enter Fzq args) W)
  (h:WU WV Fzq (#[Zp (b5 sb 0)]++cap) w (cQ C O w R)):lH C O w R g s:=by have HB:=a8 h;unfold lH;go_in;exact MO
open Go.RowKit Go.WideMaps Go.Maps
def RI(v:Zv):Option (DataW Unit×List MemPlace):=
 match v with
 | Zp (Z ⟨b,0,Y⟩)=>Z (.lit (.int U (b:Int)),[])
 | Zp Y=>Z (.lit (.int U (-1)),[])
 | _=>Y
def I2{z:DataW Unit×List MemPlace}(h:RI v=Z z):(v=Zp Y/\z.1=.lit (.int U (-1)))∨∃b:Nat,v=Zp (b5 b 0)/\z.1=.lit (.int U (b:Int)):=by
 unfold RI at h;split at h;·cases h;exact zS
 .cases h;exact zS
 .exact eI
def tw:List (ZB×Nat)->DataW Unit
 | []=>.map []
 | p :: r=>(tw r).put (.string p.1.data.toList) (.lit (.int U (p.2:Int)))
def NE:∀l,IsMap (tw l):=by
 intro l;induction l with
 | nil=>exact⟨_,D⟩
 | cons p r a=>exact a.put _ _
def qbX(s:ZB):∀l,vx l s=Y->has (tw l) (.string s.data.toList)=false:=by
 intro l;induction l with
 | nil=>intro _;rfl
 | cons p r a=>
  obtain⟨x,b⟩:=p;intro h;unfold vx at h;split at h;·exact eI
  .next qh=>
   rw[tw,has_put_other (Oe Bb)];exact a h
def YY(s:ZB)(b:Nat):∀l,vx l s=Z b->has (tw l) (.string s.data.toList)=true/\∀z,(tw l).atKey (.string s.data.toList) z=.lit (.int U (b:Int)):=by
 intro l;induction l with
 | nil=>intro h;cases h
 | cons p r e=>
  obtain⟨x,c⟩:=p;intro h;unfold vx at h;split at h
  .next he=>
   cases h
   subst he;exact⟨has_put_same (NE r) (Jb _) _,λz=>atKey_put_same (NE r) (Jb _) _ z⟩
  .next qh=>
   have d:=Oe (a:=s) (b:=x) Bb;have:=e h;exact⟨by rw[tw,has_put_other d];exact this.1,λz=>by rw[tw,atKey_put_other d];exact this.2 z⟩
def SJ(s:ZB):∀(a b:List (ZB×Nat)),vx (a++b) s=match vx a s with|Z k=>Z k|Y=>vx b s:=by
 intro a b;induction a with
 | nil=>rfl
 | cons p r d=>
  obtain⟨x,k⟩:=p;have c:∀(l:List (ZB×Nat)),vx ((x,k) :: l) s=if x=s then Z k else vx l s:=λ_=>D
  rw[QH,c,c];by_cases h:x=s;·rw[Qm h,Qm h]
  .rw[Qd h,Qd h];exact d
def Kk(S:ZN)(w:Zw)(l:List (ZB×Nat))(v:Zv):Prop:=∃a n,v=.map (Z a)/\S a/\w.ownsMap WV 9 RI a n (tw l)
def Kk.keep(h:Kk S w l v)(j:gw S w w')(i:∀b,S b->S' b):Kk S' w' l v:=by obtain⟨c,n,rfl,d,⟨e,a,f,g⟩⟩:=h;exact⟨c,n,D,i c d,⟨e,a,by rw[j c d];exact f,g⟩⟩
def kH(S:ZN)(w:Zw):Nat->List (ZB×Nat)->Zv->Prop
 | 0,r,v=>r=[]/\v=Zp Y
 | n+1,r,v=>∃b o mv fr rest,r=fr++rest/\v=Zp (b5 b 0)/\S b/\w.heap[b]?=Z (Zc #[Zp o,mv] 102 (0,0))/\(∀a,o=Z a->a.block<b)/\Kk S w fr mv/\kH S w n rest (Zp o)
def kH.keep(d:gw S w w')(c:∀b,S b->S' b):∀ {n:Nat} {r:List (ZB×Nat)} {v:Zv},kH S w n r v->kH S' w' n r v:=by
 intro n;induction n with
 | zero=>intro r v h;exact h
 | succ n m=>intro r v h;obtain⟨a,o,mv,fr,rest,g,l,e,f,j,i,k⟩:=h;exact⟨a,o,mv,fr,rest,g,l,c a e,by rw[d a e];exact f,j,i.keep d c,m k⟩
def kH.ptr(h:kH S w n r v):(r=[]/\v=Zp Y)∨∃a,v=Zp (b5 a 0)/\S a:=by
 cases n with
 | zero=>exact .inl h
 | succ n=>obtain⟨a,o,mv,fr,rest,-,c,b,-⟩:=h;exact .inr ⟨a,c,b⟩
def M2(w:Zw):(zeroValue 105).run WV w=.ok (Zp Y) w:=gZ
def Kk.look (h:Kk S w l v) (s:ZB) (k:s.size<=WX) :
  (vx l s=Y/\∃c,(Instr.lookup 100 v (Zt s) true).run WV w=.ok (Zu #[Zp c,Zb false]) w) ∨
  ∃b,vx l s=Z b/\(Instr.lookup 100 v (Zt s) true).run WV w=.ok (Zu #[Zp (b5 b 0),Zb true]) w:=by
 obtain⟨m,n,rfl,-,d⟩:=h;have⟨c,o,a,g⟩:=d.look_ok Tryz.skeyed underlying100 (M2 w) (zd:=.lit (.int U (-1))) (zp:=[]) D (Wq underlying9 k);cases h2:vx l s with
 | none=>
  left;refine⟨D,?_⟩;rw[qbX s l h2]at a;rcases I2 g with ⟨rfl,-⟩|⟨b,rfl,-⟩;·exact⟨_,a⟩
  .exact⟨_,a⟩
 | some b=>
  right;refine⟨b,D,?_⟩;have⟨j,f⟩:=YY s b l h2;rw[j]at a;rcases I2 g with ⟨rfl,e⟩|⟨i,rfl,e⟩;·rw[f]at e;have:=Jj e;omega
  .rw[f]at e;have:=Jj e;have:b=i:=E;subst this;exact a
def qaS:Zv->Nat
 | Zp (Z a)=>a.block+1
 | _=>0
def Me (h:kH S w n r sv) (K:s.size<=WX) :
  WU WV 143 #[sv,Zt s] w λe M=>M=w/\e=Zr (Zp ((vx r s).map λb=>⟨b,0,Y⟩)):=by
 obtain⟨z,rfl⟩:∃z,sv=Zp z:=by rcases h.ptr with ⟨-,rfl⟩|⟨t,rfl,-⟩<;>exact⟨_,D⟩
 have m:=a8 h;go_in;go_wp2;go_loopw [0] (λv wr=>wr=w/\∃j q,kH S w j q v/\vx r s=vx q s) (λv _=>qaS v);case atStart=>exact⟨D,n,r,m,D⟩
 case round=>
  obtain⟨rfl,j,q,i,d⟩:=hrel;cases j with
  | zero=>obtain⟨rfl,rfl⟩:=i;have f:=a8 d;go_wp2;go_ret;exact⟨D,by rw[f.out];rfl⟩
  | succ j=>
   obtain⟨t,o,mv,fr,rest,rfl,rfl,L,u,x,p,y⟩:=i;obtain⟨⟨N,O⟩,-,-⟩:=ef u;obtain⟨l,rfl⟩:∃l,mv=.map (Z l):=by obtain⟨l,n,h,-⟩:=p;exact⟨l,h⟩
   have C:=a8 y;have B:=a8 x;rw[SJ]at d;rcases p.look s K with ⟨k,c,g⟩|⟨b,k,g⟩
   .rw[k]at d;have f:=a8 d;go_wp2;go_roundw;case rel=>exact⟨trivial,j,rest,C,f⟩
    case measure=>
     show qaS (Zp o)<qaS (Zp (b5 t 0));cases o with
     | none=>exact Nat.succ_pos _
     | some a=>have:=B.out a D;show a.block+1<t+1;omega
   .rw[k]at d;have f:=a8 d;clear d p y x u k;go_wp2;go_ret;exact⟨D,by rw[f.out];rfl⟩
structure DR(w:Zw)(s:ZB)(kb sb:Nat)(o:ZA)(w':Zw):Prop where
 below:Bw w w'
 ge:w.heap.size<=sb
 box:∃mb,w'.heap[sb]?=Z (Zc #[Zp o,.map (Z mb)] 102 (0,0))/\w.heap.size<=mb/\mb≠sb/\w'.ownsMap WV 9 RI mb 1 (tw [(s,kb)])
def Dz (c:Nat) (w:Zw) (k:s.size<=WX) :
  WU WV 217 #[Zt s,Zp (b5 c 0)] w λe m=>∃h,e=Zr (Zp (b5 h 0))/\DR w s c h Y m:=by
 have j:∀(w:Zw),(Instr.makeMap 100 Y).run WV w=.ok (.map (Z w.heap.size)) (w.alloc (.map #[] 0)):=by intro w;simp[Instr.makeMap,go_sem]
 have⟨w1,g,b,a⟩:=(Wz w WV 9 RI).update (t:=100) (e:=105) Tryz.skeyed underlying100 zL (Wq underlying9 k) (val:=Zp (b5 c 0)) (d:=.lit (.int U (c:Int))) (ps:=[]) D;have l:w1.heap.size=w.heap.size+1∨w.heap.size+1<=w1.heap.size:=.inr (by have:=a.size;simpa using this);have n:w.heap.size+1<=w1.heap.size:=E;have f:=(eC _ (.map #[] 0)).grown a zS zS;have i:G (DR w s c w1.heap.size Y (w1.alloc (Zc #[Zp Y,.map (Z w.heap.size)] 102))):=
  ⟨f.alloc E _,E,w.heap.size,Qh _ _,E,E,b.alloc _⟩
 go_in;go_wp2;go_ret;exact⟨_,D,i⟩
def DR.on {o:ZA} (h:DR w s kb sb o w') (i:Bd S w) (d:kH S w n r (Zp o)) :
  kH (λb=>S b∨(w.heap.size<=b/\b<w'.heap.size)) w' (n+1) ((s,kb) :: r) (Zp (b5 sb 0)):=by
 have⟨k,j,l,q,g⟩:=h.box;have f:=(Qe.1 j).1;refine⟨sb,o,.map (Z k),[(s,kb)],r,D,D,.inr ⟨h.ge,f⟩,j,λa m=>?_,⟨k,1,D,.inr ⟨l,g.lt⟩,g⟩,d.keep (b6 h.below i) λ_ h=>.inl h⟩;subst m;rcases d.ptr with ⟨-,c⟩|⟨e,c,p⟩;·cases c
 .injection c with c;injection c with c;rw[c];have:=i e p;have:=h.ge;show e<sb;omega
def MR (g:Nat) (jP:kH S w n r sv) (p:Bd S w) (q:s.size<=WX) :
  WU WV 180 #[sv,Zt s,Zp (b5 g 0)] w λe k=>∃sb,e=Zr (Zp (b5 sb 0))/\Bw w k/\kH (λb=>S b∨(w.heap.size<=b/\b<k.heap.size)) k (n+1) ((s,g) :: r) (Zp (b5 sb 0)):=by
 obtain⟨h,rfl⟩:∃h,sv=Zp h:=P4;have m:=a8 (Dz g w q);have o:=a8 jP;go_in;go_wp2_with fail;refine H m ?_;rintro e w1 ⟨sb,rfl,hN⟩;have c:=hN.ge;have⟨l,i,j,d,f⟩:=hN.box;have t:=(ef i).1.1;have f0:w1.frozen? ⟨sb,0,Y⟩=false:=by simp[W7,i]
 have a:G (DR w s g sb h (w1.setCell ⟨sb,0,Y⟩ (Zp h))):=
  ⟨hN.below.setCell c _,c,l,by simp[Ug,QQ,i],j,d,f.setCell (by show l≠sb;exact d) _⟩
 go_wp2;go_ret;exact⟨sb,D,a.below,a.on p o⟩
def j9(w:Zw)(sb:Nat)(c0 c1 c2 c3 c4 b c a:Zv):Prop:=w.heap[sb]?=Z (Zc #[c0,c1,c2,c3,c4,b,c,a] 162 (0,0))
def j9.cells (h:j9 w sb c0 c1 c2 c3 c4 cv vv av):(a7 w sb 0=Z c0/\a7 w sb 1=Z c1/\a7 w sb 2=Z c2/\a7 w sb 3=Z c3/\a7 w sb 4=Z c4/\a7 w sb 5=Z cv/\a7 w sb 6=Z vv/\a7 w sb 7=Z av) /\
  w.frozen? ⟨sb,5,Y⟩=false/\w.frozen? ⟨sb,6,Y⟩=false:=by unfold j9 at h;simp[WY,W7,h]
def j9.lt(h:j9 w sb c0 c1 c2 c3 c4 cv vv av):sb<w.heap.size:=(Qe.1 h).1
def j9.set5(h:j9 w sb c0 c1 c2 c3 c4 cv vv av)(v:Zv):j9 (w.setCell ⟨sb,5,Y⟩ v) sb c0 c1 c2 c3 c4 v vv av:=by unfold j9 at h ⊢;simp[Ug,QQ,h]
def j9.set6(h:j9 w sb c0 c1 c2 c3 c4 cv vv av)(v:Zv):j9 (w.setCell ⟨sb,6,Y⟩ v) sb c0 c1 c2 c3 c4 cv v av:=by unfold j9 at h ⊢;simp[Ug,QQ,h]
abbrev iw(b:Nat):Zv:=Zp (b5 b 0)
def Gp(x:ZB)(c:Nat):∀(a:List ZB)(cs:List Nat)(r:List (ZB×Nat)),J a=J cs->iZ (a++[x]) (cs++[c]) r=(x,c) :: iZ a cs r:=by
 intro a;induction a with
 | nil=>intro cs r h;cases cs with|nil=>rfl|cons b q=>cases h
 | cons s q d=>
  intro cs r h;cases cs with
  | nil=>cases h
  | cons b e=>exact d e ((s,b) :: r) mZ
structure oo(S:ZN)(w wr:Zw)(sb n:Nat)(r:List (ZB×Nat))(names:List ZB)(k:Nat)(cs:List Nat)(c0 c1 c2 c3 c4 cv vv av sv:Zv):Prop where
 near:cH sb w wr
 a:j9 wr sb c0 c1 c2 c3 c4 cv vv av
 own:wr.ownsRow w.heap.size 105 1 cv (J cs) (cs.map iw)
 len:J cs=k
 cel:∀b,b∈cs->w.heap.size<=b/\dI wr b .nilIface/\cv.ownBlock≠Z b
 dup:cs.Nodup
 scp:kH (λb=>S b∨(w.heap.size<=b/\b<wr.heap.size/\b ∉ cs/\cv.ownBlock≠Z b)) wr (n+k) (iZ (names.take k) cs r) sv
def Tryz.info_cp:(prog.info? 105).map (λi=>(i.zero,i.size,i.bytes))=Z (Z (Zp Y),1,8):=gZ
def oo.mid {S:ZN} {w wr w3:Zw} {sb n:Nat} {r:List (ZB × Nat)} {names:List ZB} {k:Nat} {cs:List Nat} {c0 c1 c2 c3 c4 d v o m i:Zv} {one:Obj} (h:oo S w wr sb n r names k cs c0 c1 c2 c3 c4 d v o m) (s:sb<w.heap.size) (f:∀ b,S b->b<w.heap.size/\b≠sb)
  (c:((wr.alloc (Zc #[.nilIface] 107)).alloc one).grownBy w3 d.ownBlock) :
  kH (λb=>S b∨(w.heap.size<=b/\b<wr.heap.size/\b ∉ cs/\d.ownBlock≠Z b)) (w3.setCell ⟨sb,5,Y⟩ i) (n+k) (iZ (names.take k) cs r) m/\∀b,(S b∨(w.heap.size<=b/\b<wr.heap.size/\b ∉ cs/\d.ownBlock≠Z b))->b<(w3.setCell ⟨sb,5,Y⟩ i).heap.size:=by
 have u:=c.size;simp at u;have t:=h.near.size;have qn:=cO h.own;have j:∀b,b<wr.heap.size->d.ownBlock≠Z b->w3.heap[b]?=wr.heap[b]?:=λb a qh=>by rw[c.block b zE Bb,Qf _ _ _ zE,Qf _ _ _ a]
 have l:∀b,b≠sb->(w3.setCell ⟨sb,5,Y⟩ i).heap[b]?=w3.heap[b]?:=λb a=>Qr _ _ _ _ a;have g:∀b,b<w.heap.size->d.ownBlock≠Z b:=λb a e=>PM;refine⟨h.scp.keep (λb a=>?_) zI,λb a=>?_⟩
 .rcases a with a|⟨x,p,y,q⟩;·have:=f b a;exact (l b E).trans (j b E (g b E))
  .exact (l b E).trans (j b p q)
 .rcases a with a|a;·have:=(f b a).1;simp;omega
  .have:=a.2.1;simp;omega
def oo.next {S:ZN} {w wr w3 p:Zw} {sb n:Nat} {r:List (ZB × Nat)} {names:List ZB} {k:Nat} {cs:List Nat} {c0 c1 c2 c3 c4 l Q v qc t:Zv} {g cap:Nat} {one:Obj} (h:oo S w wr sb n r names k cs c0 c1 c2 c3 c4 l Q v qc) (F:k<J names) (L:sb<w.heap.size)
  (o:w3.ownsRow w.heap.size 105 1 (A (b5 g 0) (J cs+1) cap) (J cs+1) (cs.map iw++[iw wr.heap.size])) (c:((wr.alloc (Zc #[.nilIface] 107)).alloc one).grownBy w3 l.ownBlock) (qy:l.ownBlock=Z g∨g=wr.heap.size+2)
  (f:Bw (w3.setCell ⟨sb,5,Y⟩ (A (b5 g 0) (J cs+1) cap)) p)
  (M:kH (λb=>(S b∨(w.heap.size<=b/\b<wr.heap.size/\b ∉ cs/\l.ownBlock≠Z b))∨(w3.heap.size<=b/\b<p.heap.size)) p (n+k+1) ((names[k],wr.heap.size) :: iZ (names.take k) cs r) t) :
  oo S w p sb n r names (k+1) (cs++[wr.heap.size]) c0 c1 c2 c3 c4 (A (b5 g 0) (J cs+1) cap) Q v t:=by
 have ql:=c.size;simp at ql;have N:=h.near.size;have qn:=cO h.own;have O:=f.size;simp at O;have s:w3.heap[wr.heap.size]?=Z (Zc #[.nilIface] 107 (0,0)):=by rw[c.block wr.heap.size zE (λe=>by have:=qn _ e.symm;omega),Qf _ _ _ zS];exact Qh _ _
 have T:∀b,b<wr.heap.size->l.ownBlock≠Z b->w3.heap[b]?=wr.heap[b]?:=λb d qh=>by rw[c.block b zE Bb,Qf _ _ _ zE,Qf _ _ _ d]
 have P:∀b,b≠sb->(w3.setCell ⟨sb,5,Y⟩ (A (b5 g 0) (J cs+1) cap)).heap[b]?=w3.heap[b]?:=λb d=>Qr _ _ _ _ d;have u:∀b,b<w3.heap.size->p.heap[b]?=(w3.setCell ⟨sb,5,Y⟩ (A (b5 g 0) (J cs+1) cap)).heap[b]?:=λb d=>f.block b (by simpa using d);have V:∀b,b<wr.heap.size->l.ownBlock≠Z b->b≠sb->p.heap[b]?=wr.heap[b]?:=λb h1 h2 h3=>((u b E).trans (P b h3)).trans (T b h1 h2);have m:∀b,b<w.heap.size->l.ownBlock≠Z b:=λb d e=>PM;have i:∀b,l.ownBlock≠Z b->b<wr.heap.size+2->(Uc (b5 g 0) (J cs+1) cap).ownBlock≠Z b:=by exact P2
 have K:=cO o g D;have q:g≠sb:=E;have C:(Uc (b5 g 0) (J cs+1) cap).ownBlock≠Z wr.heap.size:=by refine i _ (λe=>by have:=qn _ e;omega) E
 refine⟨⟨?_,?_,?_,E,λb d qh=>(V b E (m b d) qh).trans (h.near.block b d qh)⟩,?_,?_,by simp[h.len],λb d=>?_,?_,?_⟩;·rw[f.os];show w3.os=_;rw[c.os];exact h.near.os
 .rw[f.tape];show w3.tape=_;rw[c.tape];exact h.near.tape
 .rw[f.output];show w3.output=_;rw[c.output];exact h.near.output
 .have z:j9 w3 sb c0 c1 c2 c3 c4 l Q v:=(T sb E (m sb L)).trans h.a;have:=z.set5 (A (b5 g 0) (J cs+1) cap);exact (u sb E).trans this
 .rw[Qi,QM,Q8,XV];refine cV o λW B=>?_;have:g=W:=by simpa [Uj] using B
  subst this;exact (u g K.2).trans (P g q)
 .rcases QF.1 d with d|d;·have⟨x,y,R⟩:=h.cel b d;exact⟨x,(V b y.lt R E).trans y,i b R (by have:=y.lt;omega)⟩
  .rw[QR]at d;subst d;exact⟨N,((u _ E).trans (P _ E)).trans s,C⟩
 .rw[List.nodup_append];refine⟨h.dup,dS,λa qa b d e=>?_⟩;rw[QR]at d;have:=(h.cel a qa).2.1.lt;omega
 .have x:names.take (k+1)=names.take k++[names[k]]:=zS;rw[x,Gp _ _ _ _ _ (by rw[Xj,h.len];omega),show n+(k+1)=n+k+1 by omega];refine M.keep ik λb d=>?_
  .rcases d with (d|⟨h1,h2,h3,X⟩)|d;·exact .inl d
   .refine .inr ⟨h1,E,λj=>?_,i b X E⟩;rcases QF.1 j with j|j;·exact h3 j
    .rw[QR]at j;omega
   .refine .inr ⟨E,d.2,λj=>?_,λe=>?_⟩
    .rcases QF.1 j with j|j;·have:=(h.cel b j).2.1.lt;omega
     .rw[QR]at j;omega
    .have:g=b:=ML;omega
def NB {names:List ZB} (qa:j9 w sb c0 c1 c2 c3 c4 (A Y 0 0) vv av) (hN:cR S w names c3) (hS:∀ b,S b->b<w.heap.size/\b≠sb) (jP:kH S w n r sv) (hl:J names<=100) :
  WU WV 144 #[iw sb,sv] w λe w'=>∃cs P c,e=Zr c/\oo S w w' sb n r names (J names) cs c0 c1 c2 c3 c4 P vv av c:=by
 obtain⟨so,rfl⟩:∃so,sv=Zp so:=P4;have z:=qa.lt;obtain⟨na,nc,rfl,-,ac,d⟩:=id hN;have q8:=a8 ac;obtain⟨⟨-,-,-,d3,-,-,-,-⟩,-,-⟩:=qa.cells;have⟨i0,hi,B,C,K⟩:=QY Tryz.info_cp;have O:G (_/\_/\_/\_):=⟨hi,B,C,K⟩;have H0:G (oo S w w sb n r names 0 [] c0 c1 c2 (A na (J names) nc) c4 (A Y 0 0) vv av (Zp so)):=⟨.refl _ _,qa,QV _ _ _ _,D,zS,zS,jP.keep ik λb h=>.inl h⟩;obtain⟨f,y⟩:∃f,J names=f:=⟨_,D⟩;have vC:=a8 y;rw[y]at d3 hl H0 ⊢;go_in;go_wp2_with fail;go_loopw [1,14] (λsv i wr=>∃k cs P,k<=f/\i=I U (k:Nat)/\oo S w wr sb n r names k cs c0 c1 c2 (A na f nc) c4 P vv av sv) (λ_ i _=>f-(intOf i).toNat);case atStart=>exact⟨0,[],_,E,D,H0⟩
 case round=>
  obtain⟨k,cs,P,hk,rfl,s⟩:=hrel;obtain⟨p,rfl⟩:∃p,u1=Zp p:=by rcases s.scp.ptr with ⟨-,h⟩|⟨q,h,-⟩<;>exact⟨_,h⟩
  obtain⟨L,M,rfl⟩:=ep s.own;have qc:=s.len;have ai:=s.near.size;have j:=a8 s;by_cases zf:k<f
  .obtain⟨nb,no,rfl,aa,v⟩:=d (by intro e;rw[e]at vC;have:=vC.out;simp at this;omega);have hx:=v k Af;have ag:=j.near.cell hx (hS nb aa).2;have ad:(names[k]'Af).size<=WX:=q8.out _ zS;have hW:=j.a;have R:G (∀W q5,(names[k]'Af).size<=WX->∀T m r',kH T W m r' (Zp p)->Bd T W->WU WV 180 #[Zp p,Zt (names[k]'Af),Zp (b5 q5 0)] W _):=λW q5 hs T m r' h1 h2=>MR q5 h1 h2 hs;have q6:=a8 (λ(o N:Zw) (g cap:Nat) (one:Obj) (c:Zv)=>@oo.next S w wr o N sb n r names k cs c0 c1 c2 (A (b5 nb no) f nc) c4 (A L (J cs) M) vv av (Zp p) c g cap one j Af z);have V:=a8 (λ(o:Zw) (one:Obj) (v5:Zv)=>@oo.mid S w wr o sb n r names k cs c0 c1 c2 (A (b5 nb no) f nc) c4 (A L (J cs) M) vv av (Zp p) v5 one j z hS);have q9:=a8 j.own;have q7:=cO j.own;generalize ah:(names[k]'Af)=x at *;have Q:J cs<=100:=E;have z0:=Qh wr (Zc #[.nilIface] 107);have t:j9 (wr.alloc (Zc #[.nilIface] 107)) sb c0 c1 c2 (A (b5 nb no) f nc) c4 (A L (J cs) M) vv av:=(Qf _ _ _ E).trans hW;obtain⟨⟨-,-,-,-,-,e5,-,-⟩,-,-⟩:=t.cells;clear qc hx v d;go_wp2_with (at_builtin;refine Xb _ D (.tmp 24) (.tmp 26) 158 D w.heap.size 105 i0 (Zp Y) 1 8 underlying158 O.1 O.2.1 O.2.2.1 O.2.2.2 D zC (A L (J cs) M) (J cs) (cs.map iw) D ((q9.alloc _).alloc _) ⟨wr.heap.size+1,0,Y⟩ 1 1 [iw wr.heap.size] D D (QB (by have:=Qh (wr.alloc (Zc #[.nilIface] 107)) (Zc #[iw wr.heap.size] 105);simpa using this)) iz zC fA E gE (wr.heap.size+2) zS ?_;intro g cap o l a u af;refine XE ?_);refine QJ ?_;have ae:=a.size;simp at ae;have j0:j9 o sb c0 c1 c2 (A (b5 nb no) f nc) c4 (A L (J cs) M) vv av:=by unfold j9;rw[a.block sb zE (λe=>by have:=q7 _ e.symm;omega),Qf _ _ _ zE];exact t
   obtain⟨⟨-,-,-,-,-,y5,-,-⟩,y6,-⟩:=j0.cells;have⟨m1,m2⟩:=V.out o _ (A (b5 g 0) (J cs+1) cap) a;have qq:=a8 (R _ wr.heap.size ad _ _ _ m1 m2);have X:=a8 (λN c=>q6 o N g cap _ c l a u);go_wp2_with fail;refine H qq ?_;rintro e N ⟨aj,rfl,F,ab⟩;have HR:=a8 (X.out N _ F (by simpa using ab));go_wp2_with fail;go_roundw;case rel=>exact⟨k+1,_,_,E,ew,HR⟩
   case measure=>exact eb
  .have ql:k=f:=E;subst ql;go_wp2_with fail;go_ret;exact⟨cs,_,_,D,j⟩
def Sn.move(c:∀b,b<w.heap.size->C2 b->C b)(e:Kp C w W):∀b,Sn C w b->Sn C2 W b:=λb a=>⟨Qn a.1 e.size,λd=>a.2 (c b a.1 d)⟩
def Rq.move{t:T (m+1)}(h:Rq C Q w m t r cs sb)(c:∀b,b<w.heap.size->C2 b->C b)(a:Kp C w W):Rq C2 Q W m t r cs sb:=by have l:=Sn.same a zI;have j:=Sn.move c a;have⟨c3,c4,k,y,z,B,K,L,M,N⟩:=h.node;have⟨p,q,u⟩:=h.cels;have⟨P,R,f0,f1⟩:=h.vals;have f:¬C2 sb:=λd=>h.nc (c sb (dK k) d);refine⟨f,⟨c3,c4,a.cell k h.nc,a.cell y h.nc,a.cell z h.nc,a.cell B h.nc,a.cell K h.nc,L.keep l j,M,N⟩,⟨p,a.cell q h.nc,u.keep l j zS⟩,⟨P,R,a.cell f0 h.nc,λe=>?_⟩⟩;obtain⟨o,S,rfl,n,d⟩:=f1 e;refine⟨o,S,D,j o n,λi O=>?_⟩;have⟨g,s,v,x⟩:=d i O;exact⟨g,s,a.cell v n.2,x.keep c a⟩
def lq.move{op:Nat}(h:lq C w op v)(g:∀b,b<w.heap.size->C2 b->C b)(i:Kp C w W):lq C2 W op v:=by
 unfold lq at *;split
 .next a=>
  rw[Qm a]at h;obtain⟨e,f,c,d⟩:=h;exact⟨e,f,i.cell c d,λa=>d (g e (dK c) a)⟩
 .next a=>
  rw[Qd a]at h;exact h
def nC(h:∃B,gH B w/\B<=w.heap.size/\∀b,C b->B<=b)(g:∀b,b<w.heap.size->C2 b->C b)(e:Kp C w W):∃B,gH B W/\B<=W.heap.size/\∀b,C2 b->B<=b:=by
 obtain⟨B,f,c,d⟩:=h;refine⟨B,f.step (e.low c d),Q1 c e.size,λb i=>?_⟩;by_cases a:b<w.heap.size;·exact d b (g b a i)
 .omega
def G1 {t:T (m+1)} {s:Nat} {mv:Zv} (n:Rq C Q w m t r cs sb) (X:a7 w g 0=Z mv) (x:¬ C g) (I:a7 w s 0=Z (iw sb)) (K:¬ C s) {op:Nat} (z:F.k t=(op:Int)) (P:1<=op) (o:op<=35) (R:op≠4) (y:lq C w op mv)
  (c:∀p,p∈r->¬Q p.2/\p.2 ∉ cs) (a:∀b,b∈cs->¬Q b/\∃v,dI w b v) (e:∃d,c7 (m+1) t d=true) (f:∃B,gH B w/\B<=w.heap.size/\∀b,C b->B<=b) (k:J (F.o t)<=200) (h:nW (F.k t)<3->J cs=J (F.q t)/\cs.Nodup) :
  ll C (de Q cs) w (m+1) t r g s:=by intro M W env u L q i V;have l:g9 M Q W m t r env cs sb:=⟨n.move u i,V,q,λb j=>L b (.inl j),c,λb j=>⟨L b (.inr j),(a b j).1,i.cells (a b j).2⟩,e,E,nC f u i,k,h⟩;obtain⟨N,cap,rfl,O,S⟩:=Oz l z P o R (y.move u i);exact IW (i.cell X x) (i.cell I K) O S
def Es {t:T (m+1)} {s c k l:Nat} {x:ZB} (i:F.k t=4) (v:F.q t=[x]) (n:a7 w sb 5=Z (A (b5 c k) 1 l)) (h:¬ C sb) (d:¬ C c) (p:a7 w c k=Z (Zp ((vx r x).map λb=>⟨b,0,Y⟩)))
  (u:a7 w g 0=Z (.func (.func 101) #[] #[])) (f:¬C g) (y:a7 w s 0=Z (iw sb)) (j:¬C s):ll C (λ_=>False) w (m+1) t r g s:=by
 intro z W env K B o a q;have e:b7 (m+1) t env=(match DK env x with|Z t=>.ok t|Y=>.error 6):=by show gF (b7 m) (show F (T m) from t) env=_;unfold gF;rw[Qm (by exact i),show (show F (T m) from t).q=[x] from v];exact cU
 rw[e];exact IW (cap:=#[]) (a.cell u f) (a.cell y j) Tryz.call101 (Hl (a.cell n h) (a.cell p d) q)
def Gs(s:Int):Int:=if s=20∨s=32∨s=33∨s=34∨s=42∨s=43 then 1 else if s=35 then 2 else -1
def oI(s:Int)(w:Zw):WU WV 96 #[I U s] w λe a=>e=Zr (I U (Gs s))/\a=w:=by
 by_cases h:s=20∨s=32∨s=33∨s=34∨s=42∨s=43∨s=35
 .rcases h with rfl|rfl|rfl|rfl|rfl|rfl|rfl;all_goals
   go_in
   go_wp2
   go_ret
   exact⟨dd zC,D⟩
 .have b:(s==20)=false:=gE;have c:(s==32)=false:=zE;have d:(s==33)=false:=zE;have f:(s==34)=false:=zE;have g:(s==42)=false:=zE;have i:(s==43)=false:=zE;have j:(s==35)=false:=zE;have HF:G (Gs s = -1):=by show _=_;unfold Gs;rw[Qd E,Qd E]
  go_in;go_wp2;exact zg
def Ft(s:Int)(i:Nat)(w:Zw):WU WV 60 #[I U s,I U (i:Int)] w λe b=>e=Zr (I U (gr s i))/\b=w:=by
 have HB:=a8 (oI s);by_cases h:s=33∨s=34∨s=35∨s=43
 .have HT:G (gr s i=if (i:Int)=Gs s then 20 else 1):=by
   show _=_;rcases h with rfl|rfl|rfl|rfl;·rw[show Gs 33=1 from D];unfold gr;split<;>split<;>omega
   .rw[show Gs 34=1 from D];unfold gr;split<;>split<;>omega
   .rw[show Gs 35=2 from D];unfold gr;split<;>split<;>omega
   .rw[show Gs 43=1 from D];unfold gr;split<;>split<;>omega
  by_cases hp:(i:Int)=Gs s
  .have a:((i:Int)==Gs s)=true:=by simp[hp]
   rw[Qm hp]at HT;exact Tj
  .have a:((i:Int)==Gs s)=false:=by simp[hp]
   rw[Qd hp]at HT;exact Tj
 .have c:(s==33)=false:=gE;have d:(s==34)=false:=zE;have f:(s==43)=false:=zE;have g:(s==35)=false:=zE;have HF:G (gr s i=1):=JW;go_in;go_wp2;exact zg
def CG(C:ZN)(w:Zw)(a:Nat):Prop:=¬C a/\∀op:Nat,1<=op->op<=35->∃v,a7 w a op=Z v/\if op=4 then v=.func (.func 101) #[] #[] else lq C w op v
def CG.move(h:CG C w mb)(d:∀b,b<w.heap.size->C2 b->C b)(f:Kp C w W):CG C2 W mb:=by
 obtain⟨k,g,-⟩:=h.2 1 E E;refine⟨λi=>h.1 (d mb (dK g) i),λop a b=>?_⟩;have⟨v,j,c⟩:=h.2 op a b;refine⟨v,f.cell j h.1,?_⟩;split;·next e=>rw[Qm e]at c;exact c
 .next e=>rw[Qd e]at c;exact c.move d f
def nd(m:Nat):Prop:=∀(C S:ZN)(w:Zw)(c n:Nat)(r:List (ZB×Nat))(t:T m)(d:Int)(c0 c1 c2 c3 c4 f:Zv),cT S w m t c0 c1 c2 c3 c4->kH S w n r f->(∀b,S b->b<w.heap.size/\¬C b)->(∀b,C b->b<w.heap.size)->(∀p,p∈r->p.2<w.heap.size)->CG C w c ->
 (∃B,gH B w/\B<=w.heap.size/\∀b,C b->B<=b)->c7 m t d=true->p8 m t<=35->cJ m t<=200 ->
 WU WV 35 #[iw c,Za #[c0,c1,c2,c3,c4],f] w λe a=>∃g s O,e=Zr (eN g s)/\Bw w a/\(∀b,O b->w.heap.size<=b/\b<a.heap.size)/\ll (λb=>C b∨O b) O a m t r g s
def DN(C a:ZN)(cs:List Nat)(sb:Nat)(v:Zv):ZN:=λb=>C b∨a b∨b∈cs∨b=sb∨v.ownBlock=Z b
structure gx(C:ZN)(w0 wr:Zw)(sb m:Nat)(t:T (m+1))(r:List (ZB×Nat))(k kb:Nat)(Azq:ZN)(cs:List Nat)(c3 c4 cv v:Zv)(xs:List Zv):Prop where
 bw:Bw w0 wr
 ge:w0.heap.size<=sb
 a:j9 wr sb (I U (F.k t)) (I U (F.n t)) (Zt (F.a t)) c3 c4 cv v (A Y 0 0)
 new:∀b,Azq b->w0.heap.size<=b/\b<wr.heap.size/\b≠sb/\v.ownBlock≠Z b
 own:wr.ownsRow w0.heap.size 76 1 v k xs
 far:v.ownBlock≠Z sb
 cels:(cs=[]/\cv=A Y 0 0/\kb<=nW (F.k t))∨(nW (F.k t)<kb/\J cs=J (F.q t))
 crow:fB (λb=>w0.heap.size<=b/\b<wr.heap.size/\¬Azq b/\b ∉ cs/\b≠sb/\v.ownBlock≠Z b) wr (λb v=>v=iw b) cs cv
 cel:∀b,b∈cs->w0.heap.size<=b/\b<wr.heap.size/\¬Azq b/\b≠sb/\v.ownBlock≠Z b/\∃v,dI wr b v
 dup:cs.Nodup
 o:∀i (_:i<k) (hi:i<J (F.o t)),∃g s,xs[i]?=Z (eN g s)/\ll (DN C Azq cs sb v) Azq wr m (F.o t)[i] (if i=nW (F.k t) then iZ (F.q t) cs r else r) g s
def gx.up{t:T (m+1)}(h:gx C w0 wr sb m t r k kb Azq cs c3 c4 cv v xs)(a:Bw wr w2):gx C w0 w2 sb m t r k kb Azq cs c3 c4 cv v xs:=by
 have x:=a.size;refine⟨h.bw.trans (a.mono h.bw.size),h.ge,(a.block sb h.a.lt).trans h.a,λb q=>?_,cV h.own λg w=>a.block g (cO h.own g w).2,h.far,h.cels,h.crow.keep (λb d=>a.block b E) (λb d=>⟨d.1,E,d.2.2⟩) zS,λb d=>?_,h.dup,λi o p=>?_⟩;·have⟨c,e,f⟩:=h.new b q;exact⟨c,E,f⟩
 .have⟨c,e,f,j,l,u,n⟩:=h.cel b d;exact⟨c,E,f,j,l,u,(a.block b e).trans n⟩
 .have⟨g,s,c,e⟩:=h.o i o p;exact⟨g,s,c,e.keep Cq (.of_below a)⟩
def H4(h:w.ownsRow M 76 1 v k xs)(c:v.ownBlock=Z b)(a:dI w b u):False:=by
 rcases h.2 with ⟨rfl,j⟩|⟨g,cap,d,rfl,f,i,-⟩;·simp[Uj]at c
 .have e:g=b:=by simpa [Uj] using c
  subst e;unfold dI at a;rw[i]at a;simp at a
def wT(h:j9 w sb c0 c1 c2 c3 c4 cv vv av)(a:dI w sb u):False:=by unfold j9 at h;unfold dI at a;rw[h]at a;simp at a
def gx.next {O:ZN} {t:T (m+1)} {s gg:Nat} {one:Obj} (h:gx C w0 wr sb m t r k (k+1) Azq cs c3 c4 cv v xs) (hk:k<J (F.o t)) (j:Bw wr w2) (N:∀ b,O b->wr.heap.size<=b/\b<w2.heap.size)
  (X:ll (λb=>DN C Azq cs sb v b∨O b) O w2 m (F.o t)[k] (if k=nW (F.k t) then iZ (F.q t) cs r else r) g s)
  (K:w3.ownsRow w0.heap.size 76 1 (A (b5 gg 0) (k+1) cap) (k+1) (xs++[eN g s])) (d:(w2.alloc one).grownBy w3 v.ownBlock) (S:v.ownBlock=Z gg∨gg=w2.heap.size+1) :
  gx C w0 (w3.setCell ⟨sb,6,Y⟩ (A (b5 gg 0) (k+1) cap)) sb m t r (k+1) (k+1) (λb=>Azq b∨O b) cs c3 c4 cv (A (b5 gg 0) (k+1) cap) (xs++[eN g s]):=by
 have p:=h.up j;have D:=d.size;simp at D;have qc:=j.size;have q7:=h.bw.size;have ql:=h.a.lt;have qn:=cO h.own;have q6:J xs=k:=by simpa using h.own.1
 have y:∀b,b<w2.heap.size->v.ownBlock≠Z b->w3.heap[b]?=w2.heap[b]?:=λb f qh=>by rw[d.block b zE Bb,Qf _ _ _ f]
 have z:∀b,b≠sb->(w3.setCell ⟨sb,6,Y⟩ (A (b5 gg 0) (k+1) cap)).heap[b]?=w3.heap[b]?:=λb f=>Qr _ _ _ _ f;have c:∀b,v.ownBlock≠Z b->b<w2.heap.size->(Uc (b5 gg 0) (k+1) cap).ownBlock≠Z b:=by
  intro b q8 p e;have e:gg=b:=ML;rcases S with qq|qq;·exact q8 (by rw[qq,e])
  .omega
 have B:gg≠sb:=λe=>c sb h.far E (by simp[Uj,e]);have qo:(w3.setCell ⟨sb,6,Y⟩ (A (b5 gg 0) (k+1) cap)).heap.size=w3.heap.size:=dS;have l:Kp (DN C (λb=>Azq b∨O b) cs sb v) w2 (w3.setCell ⟨sb,6,Y⟩ (A (b5 gg 0) (k+1) cap)):=by
  refine⟨?_,?_,?_,oA,λb f q5=>?_,λb _ a=>?_⟩;·show w3.os=_;rw[d.os];rfl
  .show w3.tape=_;rw[d.tape];rfl
  .show w3.output=_;rw[d.output];rfl
  .exact (z b λe=>q5 (.inr (.inr (.inr (.inl e))))).trans (y b f λe=>q5 (.inr (.inr (.inr (.inr e)))))
  .obtain⟨u,P⟩:=a;exact⟨u,((z b λe=>by subst e;exact wT p.a P).trans (y b P.lt λe=>H4 p.own e P)).trans P⟩
 have L:∀b,b<w2.heap.size->DN C (λb=>Azq b∨O b) cs sb (A (b5 gg 0) (k+1) cap) b->DN C (λb=>Azq b∨O b) cs sb v b:=by
  intro b f a;rcases a with a|a|a|a|a;·exact .inl a
  .exact .inr (.inl a)
  .exact .inr (.inr (.inl a))
  .exact .inr (.inr (.inr (.inl a)))
  .refine .inr (.inr (.inr (.inr ?_)));exact Qx λqh=>c b qh f a
 refine⟨⟨l.os.trans p.bw.os,l.tape.trans p.bw.tape,l.output.trans p.bw.output,oA,λb f=>((z b (by have:=h.ge;omega)).trans (y b E λe=>PM)).trans (p.bw.block b f)⟩,h.ge,?_,λb f=>?_,?_,c sb h.far E,h.cels,?_,λb a=>?_,h.dup,λi q8 R=>?_⟩;·have:j9 w3 sb (I U (F.k t)) (I U (F.n t)) (Zt (F.a t)) c3 c4 cv v (A Y 0 0):=(y sb E h.far).trans p.a;exact this.set6 _
 .rcases f with f|f;·have⟨o,q,n,x⟩:=h.new b f;exact⟨o,oA,n,c b x E⟩
  .have⟨o,q⟩:=N b f;exact⟨E,oA,E,c b nN q⟩
 .refine cV K λqa V=>?_;have:gg=qa:=by simpa [Uj] using V
  subst this;exact z gg B
 .refine h.crow.keep (λb a=>((z b E).trans (y b (by have:=a.2.1;omega) a.2.2.2.2.2)).trans (j.block b E)) (λb a=>?_) zS;obtain⟨o,q,n,x,M,Q⟩:=a;exact⟨o,oA,λw=>w.elim n λw=>by have:=N b w;omega,x,M,c b Q E⟩
 .have⟨o,q,n,x,M,u,Q⟩:=h.cel b a;exact⟨o,oA,λw=>w.elim n λw=>by have:=N b w;omega,x,c b M E,u,(((z b x).trans (y b E M)).trans (j.block b q)).trans Q⟩
 .by_cases W:i<k
  .have⟨q9,j0,o,q⟩:=h.o i W R;have n:ll (DN C (λb=>Azq b∨O b) cs sb v) Azq w2 m (F.o t)[i] (if i=nW (F.k t) then iZ (F.q t) cs r else r) q9 j0:=q.keep (λb f a=>by
    rcases a with a|a|a
    .exact .inl a
    .rcases a with a|a
     .exact .inr (.inl a)
     .have:=N b a;omega
    .exact .inr (.inr a)) (.of_below j)
   exact⟨q9,j0,by rw[QA E];exact o,(n.wide λ_ h=>.inl h).keep L l⟩
  .have:i=k:=E;subst this;refine⟨g,s,by rw[Qu E,q6,WO];rfl,?_⟩;have n:ll (DN C (λb=>Azq b∨O b) cs sb v) O w2 m (F.o t)[i] (if i=nW (F.k t) then iZ (F.q t) cs r else r) g s:=X.keep (λb f a=>by
    rcases a with a|a|a
    .exact .inl (.inl a)
    .rcases a with a|a
     .exact .inl (.inr (.inl a))
     .exact .inr a
    .exact .inl (.inr (.inr a))) (.refl _ _)
   exact (n.wide λ_ h=>.inr h).keep L l
def gx.bound {t:T (m+1)} {c5:Zv} (h:gx C w0 wr sb m t r k k Azq [] c3 c4 c5 v xs) (V:k=nW (F.k t)) (W:J (F.q t)<=100)
  (a:oo S wr w2 sb n r (F.q t) (J (F.q t)) cs c0 c1 c2 c3 c4 cv v av sv) (B:c0=I U (F.k t)) (l:c1=I U (F.n t)) (f:c2=Zt (F.a t)) (K:av=A Y 0 0) :
  gx C w0 w2 sb m t r k (k+1) Azq cs c3 c4 cv v xs:=by
 subst B l f K;have R:=a.near.size;have x:=h.bw.size;have Q:=h.a.lt;have qn:=cO h.own;have p:=cO a.own;have q:Kp (DN C Azq [] sb v) wr w2:=by refine⟨a.near.os,a.near.tape,a.near.output,R,λb d P=>a.near.block b d λe=>P (.inr (.inr (.inr (.inl e)))),λb _ c=>?_⟩;obtain⟨u,w⟩:=c;exact⟨u,(a.near.block b w.lt λe=>by subst e;exact wT h.a w).trans w⟩
 refine⟨h.bw.trans (a.near.below h.ge x),h.ge,a.a,λb d=>?_,cV h.own λg j=>a.near.block g (qn g j).2 λe=>h.far (e ▸ j),h.far,.inr ⟨E,a.len⟩,?_,λb d=>?_,a.dup,λi M N=>?_⟩;·have⟨l,f,y⟩:=h.new b d;exact⟨l,E,y⟩
 .refine gM a.own (by rw[a.len];unfold WX;omega) (λg j=>?_) zS;have:=p g j;exact⟨E,E,λo=>by have:=h.new g o;omega,λO=>(a.cel g O).2.2 j,E,λe=>by have:=qn g e;omega⟩
 .have⟨l,f,y⟩:=a.cel b d;exact⟨E,f.lt,λo=>by have:=h.new b o;omega,E,λe=>PM,_,f⟩
 .have⟨g,s,L,z⟩:=h.o i M N;rw[Qd E]at z ⊢;refine⟨g,s,L,z.keep (λb d c=>?_) q⟩;rcases c with c|c|c|c;·exact .inl c
  .exact .inr (.inl c)
  .have:=(a.cel b c).1;omega
  .exact .inr (.inr zE)
def gx.done {t:T (m+1)} (h:gx C w0 wr sb m t r (J (F.o t)) kb Azq cs c3 c4 cv v xs) (hN:cR S w0 (F.q t) c3) (u:∀ b,S b->b<w0.heap.size/\¬ C b) (q9:∀ b,C b->b<w0.heap.size) (q6:∃ a l c,c4=A a l c) (qq:(F.a t).size<=WX) :
  Rq (λb=>C b∨de Azq cs b) Azq wr m t r cs sb:=by
 have q5:=h.bw.size;have o:=cO h.own;have n:=h.ge;obtain⟨⟨z,B,K,L,M,N,O,ql⟩,-,-⟩:=h.a.cells;have old:∀b,w0.heap.size<=b->¬Azq b->b ∉ cs->¬(C b∨de Azq cs b):=λb qc W X d=>by
  rcases d with d|d|d;·have:=q9 b d;omega
  .exact W d
  .exact X d
 refine⟨old sb n (λk=>(h.new sb k).2.2.1 D) λp=>(h.cel sb p).2.2.2.1 D,⟨c3,c4,z,B,K,L,M,hN.keep (λb f=>h.bw.block b (u b f).1) λb f=>?_,q6,qq⟩,⟨cv,N,h.crow.keep ik (λb f=>⟨E,old b f.1 f.2.2.1 f.2.2.2.1⟩) zS⟩,?_⟩
 .have:=u b f;refine⟨E,λd=>?_⟩;rcases d with d|d|d;·exact this.2 d
  .have:=h.new b d;omega
  .have:=h.cel b d;omega
 .obtain⟨x,qa,rfl⟩:=ep h.own;refine⟨x,qa,O,λq=>?_⟩;rcases h.own.2 with ⟨e,V⟩|⟨g,cap,y,e,q8,q7,-⟩;·exact absurd (Qj V) q
  .have s:x=b5 g 0:=by injection e
   subst s;have j:=o g D;refine⟨g,0,D,⟨j.2,old g j.1 (λk=>(h.new g k).2.2.2 D) λp=>(h.cel g p).2.2.2.2.1 D⟩,λi w=>?_⟩;have⟨R,j0,P,Q⟩:=h.o i w w;refine⟨R,j0,?_,Q.keep (λb _ d=>?_) (.refl _ _)⟩;·have:=h.own.cells (g:=g) D i _ P;rw[XC]at this;exact this
   .rcases d with d|d|d;·exact .inl d
    .exact .inr (.inl d)
    .exact .inr (.inr (.inl d))
def mnV(b:Nat->Nat)(op:Nat):Zv:=
 if op=0 then .nilFunc else if op=4 then .func (.func 101) #[] #[]
 else if 9<=op/\op<=13 then .func (.func 164) #[] #[Zp (b5 (b (op-9)) 0)] else .func (.func (fnL.getD op 0)) #[] #[]
def LU(b:Nat->Nat):List Zv:=(Ua 36).map (mnV b)
def dnF:List Nat:=[136,137,138,138,139,140,141,142]
def RL:List Zv:=(Ua 44).map λop=>if op<36 then .nilFunc else .func (.func (dnF.getD (op-36) 0)) #[] #[]
abbrev zM:Array Zv:=#[.nilFunc,.nilFunc,.nilFunc,.nilFunc,.nilFunc,.nilFunc,.nilFunc,.nilFunc,.nilFunc,.nilFunc,.nilFunc,.nilFunc,.nilFunc,.nilFunc,.nilFunc,.nilFunc,.nilFunc,.nilFunc,.nilFunc,.nilFunc,.nilFunc,.nilFunc,.nilFunc,.nilFunc,.nilFunc,.nilFunc,.nilFunc,.nilFunc,.nilFunc,.nilFunc,.nilFunc,.nilFunc,.nilFunc,.nilFunc,.nilFunc,.nilFunc]
def sk(a b1 b c d:Nat)(i:Nat):Nat:=[a,b1,b,c,d].getD i 0
def Th {c0:Array Zv} {f:Unit->Zw->Result α} (a:w.heap[b]?=Z (Zc c0 t (0,0))) (j:i<c.size) (h:v.oneCell'=true) :
  ((store ⟨b,i,Y⟩ v).run P (w.setRow b c)).andThen f=f () (w.setRow b (c.setIfInBounds i v)):=by
 have d:=setRow_heap w b c0 c t (0,0) a;have e:(w.setRow b c).cell? ⟨b,i,Y⟩=Z c[i]:=by rw[cell_setRow_same w b i c0 c t (0,0) a];exact zS
 have g:(w.setRow b c).frozen? ⟨b,i,Y⟩=false:=by simp[W7,d]
 rw[run_store _ _ _ _ _ h,e];simp only[g];rw[setCell_eq_setRow (w.setRow b c) b i c t (0,0) v d,setRow_setRow];exact cU
def uA(a:w.heap[b]?=Z (Zc c t (0,0))):w.setRow b c=w:=by
 have h:(w.setRow b c).heap=w.heap:=by
  refine Array.ext_getElem? λk=>?_;by_cases e:k=b;·subst e;rw[setRow_heap w k c c t (0,0) a,a]
  .exact setRow_other w b k c e
 cases w
 simp only[World.setRow]at h ⊢;simp only[h]
def kB(a:Nat)(w:Zw):WU WV 107 #[.func (.func a) #[] #[]] w λe c=>∃b,e=Zr (.func (.func 164) #[] #[Zp (b5 b 0)])/\Bw w c/\w.heap.size<=b/\a7 c b 0=Z (.func (.func a) #[] #[]):=by go_in;go_wp2;go_ret;exact⟨_,D,eC _ _,E,by have:=Qh w (Zc #[.func (.func a) #[] #[]] 164);simp only[WY,this];rfl⟩
def Nk(w:Zw)(e:Ending)(w':Zw):Prop:=
 ∃a b c d f,e=Zr (Za (LU (sk a b c d f)).toArray)/\Bw w w' /\ ∀i,i<5->w.heap.size<=sk a b c d f i/\a7 w' (sk a b c d f i) 0=Z (.func (.func (rcL.getD i 0)) #[] #[])
def uZ(w:Zw):WU WV 64 #[] w (Nk w):=by
 have⟨K,m⟩:=fk (w.alloc (Zc zM 110));have M:Bw w K:=by rw[m];exact eC _ _
 have O:w.heap.size+1<=K.heap.size:=by rw[m];simp
 have N:K.heap[w.heap.size]?=Z (Zc zM 110 (0,0)):=by rw[m];exact Qh _ _
 have B:=a8 M;have p:=a8 O;have C:=a8 N;go_in;go_wp2_with fail;rw[<- m];refine H (kB _ _) ?_;rintro e w1 ⟨f,rfl,a,d,c1⟩;have v:G (_/\_/\_):=⟨a,d,c1⟩;go_wp2_with fail;refine H (kB _ _) ?_;rintro e qa ⟨g,rfl,a,d,c1⟩;have x:G (_/\_/\_):=⟨a,d,c1⟩;go_wp2_with fail;refine H (kB _ _) ?_;rintro e F ⟨h,rfl,a,d,c1⟩;have y:G (_/\_/\_):=⟨a,d,c1⟩;go_wp2_with fail;refine H (kB _ _) ?_;rintro e qc ⟨j,rfl,a,d,c1⟩;have z:G (_/\_/\_):=⟨a,d,c1⟩;go_wp2_with fail;refine H (kB _ _) ?_;rintro e o ⟨l,rfl,a,d,c1⟩;have Q:G (_/\_/\_):=⟨a,d,c1⟩;go_wp2_with fail;have n:o.heap[w.heap.size]?=Z (Zc zM 110 (0,0)):=by have z0:=p.out;have X:=v.1.size;have q5:=x.1.size;have z3:=y.1.size;have z4:=z.1.size;rw[Q.1.block _ E,z.1.block _ E,y.1.block _ E,x.1.block _ E,v.1.block _ E];exact C
 generalize t:o=W5;rw[<- uA (w:=W5) (by rw[<- t];exact n)];subst t;iterate 36 rw[Th n zS rfl]
 conv=>
  pattern (Ur (Ur _ 34 _) 35 _)
  tactic=>refine Eq.trans (b:=(LU (sk f g h j l)).toArray) ?_ D;kernel_rfl
 have S:G _:=run_loadVar_row (P:=WV) (o.setRow w.heap.size (LU (sk f g h j l)).toArray) w.heap.size 110 110 (LU (sk f g h j l)).toArray (0,0) _ (setRow_heap o w.heap.size _ _ _ _ n) underlying110 D zK;have HP:G (Nk w (Zr (Za (LU (sk f g h j l)).toArray)) (o.setRow w.heap.size (LU (sk f g h j l)).toArray)):=by
  have⟨a,d,c1⟩:=v.out;have⟨L,q7,c2⟩:=x.out;have⟨u,q6,c3⟩:=y.out;have⟨q,ql,c4⟩:=z.out;have⟨r,qq,c5⟩:=Q.out;have z0:=p.out;have X:=a.size;have q5:=L.size;have z3:=u.size;have z4:=q.size;have c:=((((B.trans (a.mono E)).trans (L.mono E)).trans (u.mono E)).trans (q.mono E)).trans (r.mono E);refine⟨f,g,h,j,l,D,⟨c.os,c.tape,c.output,by rw[setRow_size];exact c.size,λk T=>(setRow_other _ _ _ _ E).trans (c.block k T)⟩,λi R=>?_⟩;have s:∀b,w.heap.size+1<=b->a7 (o.setRow w.heap.size (LU (sk f g h j l)).toArray) b 0=a7 o b 0:=λb q8=>cell_setRow_other _ _ _ _ (show b≠w.heap.size by omega);have V:=dK c1;have W:=dK c2;have k3:=dK c3;have k4:=dK c4;have R:i=0∨i=1∨i=2∨i=3∨i=4:=E;rcases R with rfl|rfl|rfl|rfl|rfl;·exact⟨show w.heap.size<=f by omega,(s f E).trans (kC r (kC q (kC u (kC L c1 V) E) E) E)⟩
  .exact⟨show w.heap.size<=g by omega,(s g E).trans (kC r (kC q (kC u c2 W) E) E)⟩
  .exact⟨show w.heap.size<=h by omega,(s h E).trans (kC r (kC q c3 k3) E)⟩
  .exact⟨show w.heap.size<=j by omega,(s j E).trans (kC r c4 k4)⟩
  .exact⟨show w.heap.size<=l by omega,(s l E).trans c5⟩
 rw[Oper.upon_skip];go_wp2_with fail;exact XQ (mY results64 D S) D HP
abbrev zD:Array Zv:=#[.nilFunc,.nilFunc,.nilFunc,.nilFunc,.nilFunc,.nilFunc,.nilFunc,.nilFunc,.nilFunc,.nilFunc,.nilFunc,.nilFunc,.nilFunc,.nilFunc,.nilFunc,.nilFunc,.nilFunc,.nilFunc,.nilFunc,.nilFunc,.nilFunc,.nilFunc,.nilFunc,.nilFunc,.nilFunc,.nilFunc,.nilFunc,.nilFunc,.nilFunc,.nilFunc,.nilFunc,.nilFunc,.nilFunc,.nilFunc,.nilFunc,.nilFunc,.nilFunc,.nilFunc,.nilFunc,.nilFunc,.nilFunc,.nilFunc,.nilFunc,.nilFunc]
def AQ(w:Zw):WU WV 65 #[] w λe l=>e=Zr (Za RL.toArray)/\Bw w l:=by
 have⟨f,d⟩:=fk (w.alloc (Zc zD 114));have c:Bw w f:=by rw[d];exact eC _ _
 have a:f.heap[w.heap.size]?=Z (Zc zD 114 (0,0)):=by rw[d];exact Qh _ _
 have HP:G (Bw w (f.setRow w.heap.size RL.toArray)):=⟨c.os,c.tape,c.output,by rw[setRow_size];exact c.size,λk j=>(setRow_other _ _ _ _ E).trans (c.block k j)⟩;have i:G _:=run_loadVar_row (P:=WV) (f.setRow w.heap.size RL.toArray) w.heap.size 114 114 RL.toArray (0,0) _ (setRow_heap f w.heap.size _ _ _ _ a) underlying114 D zK;have h:=a8 a;clear a c;go_in;go_wp2_with fail;rw[<- d];clear d;have a:=h.out;generalize g:f=W5;rw[<- uA (w:=W5) (by rw[<- g];exact a)];subst g;iterate 44 rw[Th a zS rfl]
 conv=>
  pattern (Ur (Ur _ 42 _) 43 _)
  tactic=>refine Eq.trans (b:=RL.toArray) ?_ D;kernel_rfl
 clear a;rw[Oper.upon_skip];go_wp2_with fail;exact XQ (mY results65 D i) D ⟨D,HP⟩
def sI(w:Zw):WU WV 34 #[] w λe M=>∃v,e=Zr (iw v)/\Bw w M/\w.heap.size<=v/\∀C:ZN,(∀b,C b->b<w.heap.size)->CG C M v:=by
 have O:=a8 (AQ);have P:=a8 (uZ w);go_in;go_wp2_with fail;refine H P ?_;rintro e w1 ⟨g,h,i,j,k,rfl,r,q⟩;have o:G (_/\_):=⟨r,q⟩;clear r q;have⟨y,d⟩:=fk (LU (sk g h i j k)).toArray;rw[<- d];have a:=a8 d;clear d;go_wp2_with fail;refine H (O w1) ?_;rintro e N ⟨rfl,K⟩;have p:=a8 K;clear K;have⟨z,c⟩:=fk RL.toArray;rw[<- c];have f:=a8 c;have V:y.size=36:=by rw[a.out];kernel_rfl
 have T:z.size=44:=by rw[f.out];kernel_rfl
 have S:(Array.foldl (λ(cs:Array Zv) (x:Zv×Nat)=>cs.setIfInBounds x.snd x.fst) Tryz.zeroCells117 y.zipIdx 0 36).size=80:=by rw[a.out];kernel_rfl
 have l:G ((Array.foldl (λ(cs:Array Zv) (x:Zv×Nat)=>cs.setIfInBounds (36+x.snd) x.fst) (Array.foldl (λ(cs:Array Zv) (x:Zv×Nat)=>cs.setIfInBounds x.snd x.fst) Tryz.zeroCells117 y.zipIdx 0 36) z.zipIdx 0 44)=(LU (sk g h i j k)++RL).toArray):=by show _=_;rw[a.out,f.out];kernel_rfl
 clear c;go_wp2_with fail;rw[l.out];go_ret;have u:=p.size;have t:=o.1.size;refine⟨_,D,(o.1.trans (p.mono t)).alloc E _,E,λC L=>⟨λs=>by have:=L _ s;omega,λop r Q=>⟨mnV (sk g h i j k) op,?_,?_⟩⟩⟩;·have:(N.alloc (Zc (LU (sk g h i j k)++RL).toArray 117)).heap[N.heap.size]?=Z (Zc (LU (sk g h i j k)++RL).toArray 117 (0,0)):=Qh _ _;simp only[WY,this];rw[Wj,QA (by simp[LU];omega)];simp[LU,ZG (show op<36 by omega)]
 .by_cases m:op=4;·rw[Qm m,m];rfl
  .rw[Qd m];unfold lq mnV;rw[Qd (show ¬op=0 by omega),Qd m];by_cases n:9<=op/\op<=13;·rw[Qm n,Qm n];have⟨q,B⟩:=o.2 (op-9) E;have R:=dK B;exact⟨_,D,kC (p.alloc u _) B R,λs=>by have:=L _ s;omega⟩
   .rw[Qd n,Qd n]
def Ko{p:ZB×Nat}:∀ {a:List ZB} {cs:List Nat} {r:List (ZB×Nat)},p∈iZ a cs r->p∈r∨p.2∈cs:=by
 intro a;induction a with
 | nil=>intro cs r h;exact .inl h
 | cons x q c=>
  intro cs r h;cases cs with
  | nil=>exact .inl h
  | cons b d=>
   rcases c (r:=(x,b) :: r) h with h|h
   .rcases QW.1 h with rfl|h;·exact zS
    .exact .inl h
   .exact .inr (Qt _ h)
def gx.zlt{t:T (m+1)}(h:gx C w0 wr sb m t r k kb Azq cs c3 c4 cv v xs)(c:∀b,C b->b<w0.heap.size):∀b,DN C Azq cs sb v b->b<wr.heap.size/\(b<w0.heap.size->C b):=by
 intro b a;have:=h.bw.size;have:=h.ge;rcases a with a|a|a|rfl|a;·exact⟨by have:=c b a;omega,λ_=>a⟩
 .have:=h.new b a;exact⟨E,E⟩
 .have:=h.cel b a;exact⟨E,E⟩
 .exact⟨h.a.lt,E⟩
 .have:=cO h.own b a;exact⟨E,E⟩
def gx.call {j:ZN} {t:T (m+1)} (h:gx C w0 wr sb m t r k kb Azq cs c3 c4 cv v xs) (Z:nd m) {U:Nat} {P Q R V W M:Zv} (I:k<J (F.o t)) (a:Bw w w0) (L:cT S w m (F.o t)[k] P Q R V W)
  (K:kH j wr U (if k=nW (F.k t) then iZ (F.q t) cs r else r) M) (H:∀b,S b->b<w.heap.size/\¬C b) (q:∀b,S b->j b) (o:∀b,j b->b<wr.heap.size/\¬DN C Azq cs sb v b) (G:∀b,C b->b<w.heap.size) (A:∀p,p∈r->p.2<w.heap.size) (z:CG C w mb) (y:∃B,gH B w/\B<=w.heap.size/\∀b,C b->B<=b) (X:c7 (m+1) t d=true) (n:F.k t<=35) (x:cJ (m+1) t<=200) :
  WU WV 35 #[iw mb,Za #[P,Q,R,V,W],M] wr λe N=>∃g s O,e=Zr (eN g s)/\Bw wr N/\(∀b,O b->wr.heap.size<=b/\b<N.heap.size)/\ll (λb=>DN C Azq cs sb v b∨O b) O N m (F.o t)[k] (if k=nW (F.k t) then iZ (F.q t) cs r else r) g s:=by
 have l:=a.trans (h.bw.mono a.size);have Y:=h.zlt λb c=>Qn (G b c) a.size;have i:∀b,b<w.heap.size->DN C Azq cs sb v b->C b:=λb u c=>(Y b c).2 (Qn u a.size);have D:=iW (ed X).1 n;refine Z (DN C Azq cs sb v) j wr mb U _ _ (d+1) P Q R V W M (L.keep (λb E=>l.block b (H b E).1) q) K o (λb c=>(Y b c).1) (λp hp=>?_) (z.move i (.of_below l)) (nC y i (.of_below l)) ((ed X).2 _ zS) (kT (D.kid k I)).2 ?_
 .have f:∀p,p∈r->p.2<wr.heap.size:=λp hp=>Qn (A p hp) l.size;split at hp
  .rcases Ko hp with hp|hp;·exact f p hp
   .exact (h.cel _ hp).2.1
  .exact f p hp
 .have:=Of I;simp only[cJ]at x;omega
def gx.beside {nk:Nat} {t:T (m+1)} {r2:List (ZB × Nat)} {c:List Nat} {g:Zv} (h:gx C w0 wr sb m t r k kb Azq cs c3 c4 cv v xs) (e:Bw w w0) (p:∀ b,S b->b<w.heap.size/\¬ C b) (o:∀ b,C b->b<w.heap.size)
  (f:oo S wr w2 sb n r2 ns nk c c0 c1 c2 c3 c4 g v av sv):∀b,(S b∨(wr.heap.size<=b/\b<w2.heap.size/\b ∉ c/\g.ownBlock≠Z b))->b<w2.heap.size/\¬DN C Azq c sb v b:=by
 intro b d;have s:=e.size;have u:=f.near.size;have x:=h.a.lt;have y:=h.ge;rcases d with d|⟨q,i,j,-⟩
 .have l:=p b d;refine⟨E,λa=>?_⟩;rcases a with a|a|a|rfl|a;·exact l.2 a
  .have:=h.new b a;omega
  .have:=(f.cel b a).1;omega
  .omega
  .have:=cO h.own b a;omega
 .refine⟨i,λa=>?_⟩;rcases a with a|a|a|rfl|a;·have:=o b a;omega
  .have:=h.new b a;omega
  .exact j a
  .omega
  .have:=cO h.own b a;omega
def gx.pass{t:T (m+1)}(h:gx C w0 wr sb m t r k k Azq cs c3 c4 cv v xs)(d:k≠nW (F.k t)):gx C w0 wr sb m t r k (k+1) Azq cs c3 c4 cv v xs:=
 ⟨h.bw,h.ge,h.a,h.new,h.own,h.far,h.cels.imp (λ⟨a,b,c⟩=>⟨a,b,E⟩) E,h.crow,h.cel,h.dup,h.o⟩
def Rw(s:Int)(k:Nat)(a:k<200):((k:Int)=Gs s↔k=nW s):=by
 unfold Gs nW;split;·omega
 .split<;>omega
def Tryz.info_fv:(prog.info? 76).map (λi=>(i.zero,i.size,i.bytes))=Z (Z .nilFunc,1,8):=gZ
def Mj (hm:nd m) {t:T (m+1)} (ht:cT S w (m+1) t c0 c1 c2 c3 c4) (jP:kH S w n r sv) (hS:∀ b,S b->b<w.heap.size/\¬ C b) (hC:∀ b,C b->b<w.heap.size) (hr:∀ p,p∈r->p.2<w.heap.size) (aV:CG C w mb)
  (aT:∃B,gH B w/\B<=w.heap.size/\∀b,C b->B<=b) (hg:c7 (m+1) t d=true) (aM:F.k t<=35) (ax:cJ (m+1) t<=200) (aW:F.k t≠4) :
  WU WV 66 #[iw mb,Za #[c0,c1,c2,c3,c4],sv] w λe w'=>∃j sb f cs cv v qa,e=Zr (iw sb)/\Bw w j/\gx C j w' sb m t r (J (F.o t)) (J (F.o t)) f cs c3 c4 cv v qa:=by
 have ae:=iW (ed hg).1 aM;have bu:=ae.lo;have aP:J (F.o t)<=199:=by have:=BN (F.o t);simp only[cJ]at ax;omega
 have ql:=a8 (λ(w0 wr:Zw) (sb k kb:Nat) (f:ZN) (cs:List Nat) (c3 c4 cv v:Zv) (qa:List Zv) (x:ZN) (n2:Nat) (y q7 j5 y3 y4 sp:Zv) (h:gx C w0 wr sb m t r k kb f cs c3 c4 cv v qa) (hk:k<J (F.o t)) (q5:Bw w w0) (P:cT S w m (F.o t)[k] y q7 j5 y3 y4) (jP:kH x wr n2 (if k=nW (F.k t) then iZ (F.q t) cs r else r) sp) (ak:∀b,S b->x b) (aj:∀b,x b->b<wr.heap.size/\¬DN C f cs sb v b)=>h.call hm hk q5 P jP hS ak aj hC hr aV aT hg aM ax);have aX:(F.k t)=20∨F.k t=32∨F.k t=33∨F.k t=34∨F.k t=35->J (F.q t)<=100:=by
  intro h;by_cases h5:F.k t=35;·have⟨a,b,e⟩:=ae.two h5;rw[e];exact (by decide:2<=100)
  .obtain⟨a,e,-⟩:=ae.free E;rw[e];exact (by decide:1<=100)
 have aO:∀k:Nat,k<J (F.o t)->k=nW (F.k t)->J (F.q t)<=100:=by
  intro k hk he;refine aX ?_;unfold nW at he;split at he;·omega
  .split at he<;>omega
 obtain⟨so,rfl⟩:∃so,sv=Zp so:=P4;obtain⟨rfl,rfl,rfl,hs,bv,bx,h3,h4⟩:=ht;obtain⟨na,nc,rfl,-⟩:=id h3;obtain⟨ka,qq,rfl,aU,ac⟩:=id h4;have aF:=a8 ac;have aD:=a8 aO;have bc:=a8 h3;have aJ:=a8 jP;have aH:G (∀k (h:k<J (F.o t)),iQ m (F.o t)[k]=86):=ae.kid;obtain⟨j,q9⟩:∃j,j=w.alloc (UB (F.k t) (F.n t) (F.a t) na (J (F.q t)) nc ka (J (F.o t)) qq):=⟨_,D⟩;have q5:Bw w j:=by rw[q9];exact eC _ _
 have bk:j.heap.size=w.heap.size+1:=by rw[q9];simp
 have an:j.heap[w.heap.size]?=Z (Zc (Uz (F.k t) (F.n t) (F.a t) na (J (F.q t)) nc ka (J (F.o t)) qq) 38 (0,0)):=by rw[q9];exact Qh _ _
 obtain⟨W1,qR⟩:∃W1,W1=j.alloc (Zc #[I U (F.k t),I U (F.n t),Zt (F.a t),A na (J (F.q t)) nc,A ka (J (F.o t)) qq,A Y 0 0,A Y 0 0,A Y 0 0] 162):=⟨_,D⟩;have aN:Bw j W1:=by rw[qR];exact eC _ _
 have bz:W1.heap.size=j.heap.size+1:=re;have am:j9 W1 j.heap.size (I U (F.k t)) (I U (F.n t)) (Zt (F.a t)) (A na (J (F.q t)) nc) (A ka (J (F.o t)) qq) (A Y 0 0) (A Y 0 0) (A Y 0 0):=FT;have ah:G (gx C j W1 j.heap.size m t r 0 0 (λ_=>False) [] (A na (J (F.q t)) nc) (A ka (J (F.o t)) qq) (A Y 0 0) (A Y 0 0) []):=
  ⟨aN,E,am,zS,QV _ _ _ _,by simp[Uj],zS,⟨Y,0,rfl,by simp,zS⟩,zS,zS,E⟩
 have q8:G (∀V,Bw j V->N5 V w.heap.size (F.k t) (F.n t) (F.a t) na (J (F.q t)) nc ka (J (F.o t)) qq):=λV hV=>cP ((hV.block w.heap.size E).trans an);have⟨x0,x1,x2,x3,x4⟩:=q8.out j (Qg _ _);have⟨z0,z1,z2,z3,z4⟩:=q8.out W1 aN;have⟨i0,hi,ap,aq,ar⟩:=QY Tryz.info_fv;have HI:G (_/\_/\_/\_):=⟨hi,ap,aq,ar⟩;have bq:(F.k t==4)=false:=by simp[aW]
 have vQ:=a8 hS;obtain⟨qc,az⟩:∃qc,J (F.o t)=qc:=⟨_,D⟩;have vC:=a8 az;clear hi ap aq ar ac h3 h4 aO aX jP ae aV aT hg ax an am hS hr aW hm aU;rw[az]at aP ah x4 z4 q9 qR q8 ⊢;go_in;go_wp2_with fail;rw[<- q9,<- qR];rw[bk]at ah;clear q9 qR az;go_loopw [30] (λi wr=>∃(k:Nat)(f:ZN)(cs:List Nat)(cv v:Zv)(qa:List Zv),k<=qc/\i=I U k/\gx C j wr (w.heap.size+1) m t r k k f cs (A na (J (F.q t)) nc) (A ka qc qq) cv v qa) (λi _=>qc-(intOf i).toNat);case atStart=>exact⟨0,_,_,_,_,_,E,D,ah⟩
 case round=>
  obtain⟨k,f,cs,cv,v,qa,hk,rfl,hL⟩:=hrel;have bB:=hL.bw.size;have⟨q0,q1,q2,q3,q4⟩:=q8.out wr hL.bw;have HL:=a8 hL;clear hL ah;by_cases zf:k<qc
  .obtain⟨kb,ko,rfl,aQ,ab⟩:=aF.out (by intro e;have:=vC.out;rw[e]at this;simp at this;omega);have q6:k<J (F.o t):=Af;have⟨y,q7,j5,y3,y4,e0,e1,e2,e3,e4,P⟩:=ab k q6;obtain⟨y,q7,j5,ya,yl,yc,za,zl,zc,rfl,rfl,rfl,rfl,rfl⟩:=P.shape;have xQ:Bw w wr:=q5.trans (HL.bw.mono E);have N:=(vQ kb aQ).1;have br:=HL.a.lt;have f0:=kC xQ e0 N;have f1:=kC xQ e1 N;have f2:=kC xQ e2 N;have f3:=kC xQ e3 N;have f4:=kC xQ e4 N;have aY:y=p8 m (F.o t)[k]:=by
    cases m with
    | zero=>exact P.elim
    | succ m=>have h:=P.1;injection h
   have aZ:vu y=86:=by rw[aY];exact aH k q6
   have be:G (∀W,WU WV 29 #[I U y] W λe w'=>e=Zr (I .i32 86)/\w'=W):=λW=>by have:=mp y W;rw[aZ]at this;exact this
   have bf:=a8 P;obtain⟨V,hV⟩:∃V,V=wr.alloc (UB y q7 j5 ya yl yc za zl zc):=⟨_,D⟩;have qV:Bw wr V:=by rw[hV];exact eC _ _
   have bl:V.heap.size=wr.heap.size+1:=by rw[hV];simp
   have ay:V.heap[wr.heap.size]?=Z (Zc (Uz y q7 j5 ya yl yc za zl zc) 38 (0,0)):=by rw[hV];exact Qh _ _
   have L:=a8 (HL.up qV);have⟨v0,v1,v2,v3,v4⟩:=q8.out V L.bw;have aE:G (WU WV 96 #[I U (F.k t)] V _):=oI (F.k t) V;have au:=a8 (Rw (F.k t) k E);have aB:=a8 (λ(u:k=nW (F.k t)) (hb:j9 V (w.heap.size+1) (I U (F.k t)) (I U (F.n t)) (Zt (F.a t)) (A na (J (F.q t)) nc) (A (Z ⟨kb,ko,Y⟩) qc qq) (A Y 0 0) v (A Y 0 0))=>NB hb (bc.keep PO zI) (λb hs=>by have:=(vQ b hs).1;omega) (aJ.keep PO zI) (aD k q6 u));have aC:=a8 (aD k q6);have aI:G (kH S V n r (Zp so)):=aJ.keep PO zI;have aK:G (∀b,C b->b<j.heap.size):=λb hc=>by have:=hC b hc;omega
   clear ab e0 e1 e2 e3 e4 P aY aZ aQ aH x0 x1 x2 x3 x4 z0 z1 z2 z3 z4;generalize bn:Gs (F.k t)=bp at *;go_upto_region 8 with fail;rw[<- hV];clear hV;go_wp2_with fail;refine H aE ?_;rintro e V ⟨rfl,rfl⟩;go_upto_if 40 with fail;go_cut [10] from 36 to 43 (λsp wx=>∃(c:List Nat)(l:Zv)(x:ZN)(n2:Nat)(sq:ZA),sp=Zp sq/\gx C j wx (w.heap.size+1) m t r k (k+1) f c (A na (J (F.q t)) nc) (A (b5 kb ko) qc qq) l v qa/\kH x wx n2 (if k=nW (F.k t) then iZ (F.q t) c r else r) (Zp sq)/\(∀b,S b->x b)/\(∀b,x b->b<wx.heap.size/\¬DN C f c (w.heap.size+1) v b)/\wx.heap[wr.heap.size]?=Z (Zc (Uz y q7 j5 ya yl yc za zl zc) 38 (0,0)));case first=>
    by_cases j8:(k:Int)=bp
    .have aR:((k:Int)==bp)=true:=by simp[j8]
     have u:=au.1 j8;have bh:cs=[]/\cv=A Y 0 0:=by
      rcases L.cels with ⟨a,b,-⟩|⟨a,-⟩;·exact⟨a,b⟩
      .omega
     obtain⟨rfl,rfl⟩:=bh;have HB:=a8 (aB u L.a);have av:=a8 u;clear j8 u;go_wp2_with fail;refine H HB ?_;rintro e R ⟨c,l,bm,rfl,hB⟩;obtain⟨sq,rfl⟩:∃sq,bm=Zp sq:=by rcases hB.scp.ptr with ⟨-,h⟩|⟨q,h,-⟩<;>exact⟨_,h⟩
     have HM:G (∃(c:List Nat)(l:Zv)(x:ZN)(n2:Nat)(af:ZA),Value.pointer sq=Zp af/\gx C j R (w.heap.size+1) m t r k (k+1) f c (A na (J (F.q t)) nc) (A (b5 kb ko) qc qq) l v qa/\kH x R n2 (if k=nW (F.k t) then iZ (F.q t) c r else r) (Zp af)/\(∀b,S b->x b)/\(∀b,x b->b<R.heap.size/\¬DN C f c (w.heap.size+1) v b)/\R.heap[wr.heap.size]?=Z (Zc (Uz y q7 j5 ya yl yc za zl zc) 38 (0,0))):=by refine⟨c,l,_,n+J (F.q t),sq,D,L.bound av (aC av) hB D D D D,?_,λb hb=>.inl hb,L.beside q5 vQ hC hB,(hB.near.block _ E E).trans ay⟩;rw[Qm av.out];have:=hB.scp;rw[QG]at this;exact this
     clear hB HB;go_wp2_with fail;go_meet;exact HM
    .have aR:((k:Int)==bp)=false:=by simp[j8]
     have u:k≠nW (F.k t):=λh=>j8 (au.2 h);have HM:G (∃(c:List Nat)(l:Zv)(x:ZN)(n2:Nat)(af:ZA),Value.pointer so=Zp af/\gx C j V (w.heap.size+1) m t r k (k+1) f c (A na (J (F.q t)) nc) (A (b5 kb ko) qc qq) l v qa/\kH x V n2 (if k=nW (F.k t) then iZ (F.q t) c r else r) (Zp af)/\(∀b,S b->x b)/\(∀b,x b->b<V.heap.size/\¬DN C f c (w.heap.size+1) v b)/\V.heap[wr.heap.size]?=Z (Zc (Uz y q7 j5 ya yl yc za zl zc) 38 (0,0))):=by
      refine⟨cs,cv,S,n,so,D,L.pass u,?_,zS,λb hb=>?_,ay⟩;·rw[Qd u];exact aI
      .have h1:=vQ.out b hb;exact⟨E,λhz=>h1.2 ((L.zlt aK b hz).2 E)⟩
     clear j8 u;go_wp2_with fail;go_meet;exact HM
   case rest=>
    obtain⟨c,l,x,n2,sq,rfl,aw,ao,ak,aj,Q⟩:=hcut;have⟨k0,k1,k2,k3,k4⟩:=cP Q;obtain⟨va,vc,rfl⟩:=ep aw.own;have hd:Bw wc wc.drew:=(Qg _ _).drew;have z:=a8 (aw.up hd);have HQ:=a8 (ql j wc.drew (w.heap.size+1) k (k+1) f c _ _ l _ qa x n2 _ _ _ _ _ _ z q6 q5 bf (ao.keep (show gw x wc wc.drew from λ_ _=>D) zI) ak aj);have ag:G (wc.drew.heap[wr.heap.size]?=Z (Zc (Uz y q7 j5 ya yl yc za zl zc) 38 (0,0))):=Q;have bj:wr.heap.size<wc.drew.heap.size:=(Qe.1 Q).1;have⟨j0,j1,j2,j3,j4⟩:=cP ag;have aa:G (∀V':Zw,V'.heap[wr.heap.size]?=Z (Zc (Uz y q7 j5 ya yl yc za zl zc) 38 (0,0))->N5 V' wr.heap.size y q7 j5 ya yl yc za zl zc):=λV' h=>cP h;have bd:G ((Uc va k vc).ownBlock≠Z wr.heap.size):=λe=>by
     rcases z.own.2 with ⟨h,-⟩|⟨g,cap,bt,h,-,hg,-⟩;·rw[h]at e;simp[Uj]at e
     .rw[h]at e;have e:g=wr.heap.size:=ML;rw[e,ag.out]at hg;simp at hg
    obtain⟨⟨-,-,-,-,-,-,j6,-⟩,-,-⟩:=z.a.cells;clear aw ao ak aj Q ql aB aE au L aF aI HL aC ay v0 v1 v2 v3 v4 f0 f1 f2 f3 f4 q0 q1 q2 q3 q4 qV bl xQ;go_wp2_with fail;refine H (be _) ?_;rintro e wc ⟨rfl,rfl⟩;go_upto_region 11 with fail;refine Qz (S:=λw'=>N5 w' wr.heap.size y q7 j5 ya yl yc za zl zc) zK ⟨j0,j1,j2,j3,j4⟩ (λhHeld=>?_);generalize wc.drew=X at *;clear k0 k1 k2 k3 k4 j0 j1 j2 j3 j4;refine t4 0 1 2 3 ?_;refine t2 5 6 ?_;refine tk 7 ?_;refine XG (rs:=[4,8]) zK zS ?_;refine QO D (λK hK=>?_) (QO D (λK hK=>?_) Xy);go_simp;refine hK.out _ _ hHeld (λhHeld=>?_);clear hK K;refine ic 8 λK hK=>?_;rotate_left;all_goals
     go_simp
     go_at_call 35
     refine H HQ ?_
     rintro e R ⟨g,s,O,rfl,M,hO,aS⟩
     have bA:=M.size
     have aG:G (R.ownsRow j.heap.size 76 1 (A va k vc) k qa):=cV z.own λb hb=>M.block b (cO z.own b hb).2
     have m6:a7 R (w.heap.size+1) 6=Z (A va k vc):=kC M j6 E
     have HN:=a8 (λ(w3:Zw) (gg cap:Nat) (one:Obj)=>z.next (w3:=w3) (gg:=gg) (cap:=cap) (one:=one) q6 M hO aS)
     have aA:G (∀(w3:Zw)(one:Obj),(R.alloc one).grownBy w3 (Uc va k vc).ownBlock->j9 w3 (w.heap.size+1) (I U (F.k t)) (I U (F.n t)) (Zt (F.a t)) (A na (J (F.q t)) nc) (A (b5 kb ko) qc qq) l (A va k vc) (A Y 0 0)/\w3.heap[wr.heap.size]?=Z (Zc (Uz y q7 j5 ya yl yc za zl zc) 38 (0,0))):=λw3 one hg=>⟨by
      unfold j9
      rw[hg.block (w.heap.size+1) zE (λe=>z.far e.symm),Qf _ _ _ E,M.block _ E]
      exact z.a,by
      rw[hg.block wr.heap.size zE (λe=>bd.out e.symm),Qf _ _ _ E,M.block _ E]
      exact ag⟩
     have ai:G (R.heap[wr.heap.size]?=Z (Zc (Uz y q7 j5 ya yl yc za zl zc) 38 (0,0))):=(M.block _ bj).trans ag
     refine hK.out _ _ (aa _ ai) (λhHeld=>?_)
     clear hK K M hO aS HQ
    refine XG (rs:=[4,9]) zK zS ?_;refine QO D (λK hK=>?_) (QO D (λK hK=>?_) Xy);go_simp;refine hK.out _ _ hHeld (λhHeld=>?_);clear hK K;rotate_left;go_simp;refine hK.out _ _ (aa _ ((Qf _ _ _ E).trans ai)) (λhHeld=>?_);clear hK K;have m7:a7 (R.alloc (Zc #[eN g s] 76)) (w.heap.size+1) 6=Z (A va k vc):=kC (eC R _) m6 E;refine qk 4 ?_ λhHeld=>?_;exact hHeld;rotate_left;iterate 2
     refine qk 9 ?_ λhHeld=>?_
     exact aa _ ((Qf _ _ _ E).trans ai)
     rotate_left
    all_goals
     refine ic 10 λK hK=>?_
     refine Xd _ cU (.tmp 52) (.tmp 57) 159 cU j.heap.size 76 i0 .nilFunc 1 8 underlying159 HI.1 HI.2.1 HI.2.2.1 HI.2.2.2 D zC (A va k vc) k qa cU (aG.alloc _) ⟨R.heap.size,0,Y⟩ 1 1 [eN g s] cU D (QB (Qh R _)) iz zC fA E gE (R.heap.size+1) zS ?_
     intro gg aL w3 ad o al bo
     have bb:=a8 (HN w3 gg aL _ ad o al)
     have⟨bg,ba⟩:=aA.out w3 _ o
     obtain⟨⟨-,-,-,-,-,-,s6,-⟩,-,s7⟩:=bg.cells
     refine hK.out _ _ (aa _ ba) (λhHeld=>?_)
     clear hK K ad o al aG HN aA ai
     refine t2 11 12 ?_
     refine qk 13 ?_ λhHeld=>?_
     exact aa _ ((Qr _ _ _ _ (show wr.heap.size≠w.heap.size+1 by omega)).trans ba)
     refine Xi zK ?_ _
     go_simp
     go_wp2_with fail
     go_roundw
     case rel=>exact⟨k+1,_,c,l,_,_,E,ew,bb⟩
     case measure=>exact eb
  .have bi:k=qc:=E;subst bi;go_wp2_with fail;go_ret;exact⟨j,_,f,cs,cv,v,qa,D,q5,HL⟩
def Ml (ql:Nat) {t:T (m+1)} {x:ZB} (qq:cT S w (m+1) t c0 c1 c2 c3 c4) (jP:kH S w n r sv) (W:∀ b,S b->b<w.heap.size) (C:F.k t=4) (qa:F.q t=[x]) (j2:J (F.o t)=0) :
  WU WV 66 #[iw ql,Za #[c0,c1,c2,c3,c4],sv] w λe R=>∃sb v,e=Zr (iw sb)/\Bw w R/\w.heap.size<=sb/\w.heap.size<=v/\a7 R sb 5=Z (A (b5 v 0) 1 1)/\a7 R v 0=Z (Zp ((vx r x).map λb=>⟨b,0,Y⟩)):=by
 obtain⟨j0,rfl⟩:∃j0,sv=Zp j0:=P4;obtain⟨rfl,rfl,rfl,hs,qc,q8,V,q5⟩:=qq;rw[qa]at V;obtain⟨na,nc,rfl,-,L,s⟩:=id V;obtain⟨nb,no,rfl,B,z⟩:=s zS;have M:a7 w nb no=Z (Zt x):=by simpa using z 0 zS
 have O:=L x zS;obtain⟨j,k,rfl,X,-⟩:=id q5;rw[j2,C,show [x].length=1 from D];obtain⟨g,qR⟩:∃g,g=(w.alloc (UB 4 (F.n t) (F.a t) (Z ⟨nb,no,Y⟩) 1 nc j 0 k)).alloc (Zc #[I U 4,I U (F.n t),Zt (F.a t),A (Z ⟨nb,no,Y⟩) 1 nc,A j 0 k,A Y 0 0,A Y 0 0,A Y 0 0] 162):=⟨_,D⟩;have o:Bw w g:=by rw[qR];exact (eC _ _).alloc zS _
 have P:g.heap.size=w.heap.size+2:=re;have q7:=kC o M (W nb B);have q9:=a8 (Me (jP.keep (λb q6=>o.block b (W b q6)) zI) O);have u:g.heap[w.heap.size]?=Z (Zc (Uz 4 (F.n t) (F.a t) (b5 nb no) 1 nc j 0 k) 38 (0,0)):=by rw[qR,Qf _ _ _ zS];exact Qh _ _
 have h:j9 g (w.heap.size+1) (I U 4) (I U (F.n t)) (Zt (F.a t)) (A (b5 nb no) 1 nc) (A j 0 k) (A Y 0 0) (A Y 0 0) (A Y 0 0):=by rw[qR];have:=Qh (w.alloc (UB 4 (F.n t) (F.a t) (b5 nb no) 1 nc j 0 k)) (Zc #[I U 4,I U (F.n t),Zt (F.a t),A (b5 nb no) 1 nc,A j 0 k,A Y 0 0,A Y 0 0,A Y 0 0] 162);unfold j9;exact iG
 have⟨q0,q1,q2,q3,q4⟩:=cP u;generalize ((vx r x).map λb=>(⟨b,0,Y⟩:Addr))=po at *;obtain⟨l,a⟩:∃l,l=g.setCell ⟨w.heap.size+1,5,Y⟩ (A (Z ⟨w.heap.size+2,0,Y⟩) 1 1):=⟨_,D⟩;have Q:l.heap.size=w.heap.size+2:=by rw[a];simp[P]
 have y:Bw w l:=by rw[a];exact o.setCell (by show w.heap.size<=w.heap.size+1;omega) _
 have c:=h.set5 (A (b5 (w.heap.size+2) 0) 1 1);rw[<- a]at c;have N:l.heap[w.heap.size]?=Z (Zc (Uz 4 (F.n t) (F.a t) (b5 nb no) 1 nc j 0 k) 38 (0,0)):=by rw[a];exact (Qr _ _ _ _ (show w.heap.size≠w.heap.size+1 by omega)).trans u
 obtain⟨d,f⟩:∃d,d=l.alloc (Zc #[Zp po] 105):=⟨_,D⟩;have p:Bw l d:=by rw[f];exact eC _ _
 have K:a7 d (w.heap.size+2) 0=Z (Zp po):=by
  have:d.heap[w.heap.size+2]?=Z (Zc #[Zp po] 105 (0,0)):=by rw[f,<- Q];exact Qh _ _
  simp[WY,this]
 have q:j9 d (w.heap.size+1) (I U 4) (I U (F.n t)) (Zt (F.a t)) (A (b5 nb no) 1 nc) (A j 0 k) (A (b5 (w.heap.size+2) 0) 1 1) (A Y 0 0) (A Y 0 0):=(p.block _ E).trans c;have⟨s0,s1,s2,s3,s4⟩:=cP ((p.block _ E).trans N);obtain⟨⟨-,-,-,-,-,u5,-,-⟩,u6,-⟩:=h.cells;have HF:G (Bw w d/\w.heap.size<=w.heap.size+1/\w.heap.size<=w.heap.size+2/\a7 d (w.heap.size+1) 5=Z (A (b5 (w.heap.size+2) 0) 1 1)/\a7 d (w.heap.size+2) 0=Z (Zp po)):=⟨y.trans (p.mono E),E,E,q.cells.1.2.2.2.2.2.1,K⟩;go_in;go_upto_region 3 with fail;rw[<- qR];clear qR;go_wp2_with fail;refine H q9 ?_;rintro e g ⟨rfl,rfl⟩;go_upto_region 4 with fail;rw[<- a,<- f];clear a f;go_wp2_with fail;go_loopw [30] (λi wr=>i=I U 0/\wr=d) (λ_ _=>0);case atStart=>exact zS
 case round=>obtain⟨rfl,rfl⟩:=hrel;go_wp2_with fail;go_ret;exact⟨_,_,D,HF⟩
def DV(C:ZN)(w:Zw)(m:Nat)(t:T (m+1))(r:List (ZB×Nat))(op:Nat)(e:Ending)(w':Zw):Prop:=
 ∃c O,e=Zr (iw c)/\Bw w w' /\ (∀b,O b->w.heap.size<=b/\b<w'.heap.size) /\
  ∀(a:ZN)(W:Zw)(g s:Nat)(mv:Zv),(∀b,b<w'.heap.size->a b->C b∨O b)->Kp (λb=>C b∨O b) w' W->¬a g->¬a s->a7 W g 0=Z mv->a7 W s 0=Z (iw c)->(if op=4 then mv=.func (.func 101) #[] #[] else lq C w op mv)->ll a O W (m+1) t r g s
def RX{t:T (m+1)}(d:IP t)(b:F.k t<=35)(h:nW (F.k t)<3):nW (F.k t)<J (F.o t):=by
 have c:F.k t=20∨F.k t=32∨F.k t=33∨F.k t=34∨F.k t=35:=by
  unfold nW at h;split at h;·omega
  .split at h<;>omega
 have a:=d.cnt E;rw[a];rcases c with e|e|e|e|e<;>(rw[e];decide)
def Pg (hm:nd m) {t:T (m+1)} (op:Nat) (A:F.k t=(op:Int)) (qa:cT S w (m+1) t c0 c1 c2 c3 c4) (Q:kH S w n r sv) (M:∀ b,S b->b<w.heap.size/\¬ C b) (Y:∀ b,C b->b<w.heap.size) (hr:∀ p,p∈r->p.2<w.heap.size) (Z:CG C w mb)
  (P:∃B,gH B w/\B<=w.heap.size/\∀b,C b->B<=b) (G:c7 (m+1) t d=true) (k:F.k t<=35) (O:cJ (m+1) t<=200) :
  WU WV 66 #[iw mb,Za #[c0,c1,c2,c3,c4],sv] w (DV C w m t r op):=by
 have I:=iW (ed G).1 k;have aa:=I.lo;by_cases X:F.k t=4
 .obtain⟨x,hx,-⟩:=I.free E;have hk:J (F.o t)=0:=by rw[I.cnt E,X];decide
  refine H (Ml mb qa Q (λb a=>(M b a).1) X hx hk) ?_;rintro e w' ⟨q5,cb,rfl,a,h1,h2,V,h5⟩;have old:∀b,w.heap.size<=b->¬(C b∨False):=λb a c=>by
   rcases c with c|c;·have:=Y b c;omega
   .exact c
  refine⟨q5,λ_=>False,D,a,zS,λqc W g s mv l K q y u z i=>?_⟩;rw[Qm E]at i;subst i;exact Es X hx (K.cell V (old _ h1)) (λc=>old _ h1 (l _ (dK V) c)) (λc=>old _ h2 (l _ (dK h5) c)) (K.cell h5 (old _ h2)) u q z y
 .refine H (Mj hm qa Q M Y hr Z P G k O X) ?_;rintro e w' ⟨W0,q5,L,cs,cv,v,xs,rfl,o,f⟩;have ab:=o.size;have ac:=f.bw.size;have a:=o.trans (f.bw.mono E);have U:∀b,de L cs b->w.heap.size<=b/\b<w'.heap.size:=λb a=>by
   rcases a with a|a;·have:=f.new b a;omega
   .have:=f.cel b a;omega
  refine⟨q5,de L cs,D,a,U,λqc W g s mv l K q y u z i=>?_⟩;rw[Qd E]at i;have N:Kp C w W:=((Kp.of_below a).trans K).less λb a c=>by
   rcases c with c|c;·exact c
   .have:=U b c;omega
  have j:∀b,b<w.heap.size->qc b->C b:=λb a c=>by
   rcases l b E c with c|c;·exact c
   .have:=U b c;omega
  obtain⟨-,-,-,ql,-,-,hN,hK⟩:=qa;obtain⟨ka,kc,qq,-⟩:=id hK;have R:=(f.done (S:=S) (hN.keep (λb a=>o.block b (M b a).1) zI) (λb a=>⟨by have:=(M b a).1;omega,(M b a).2⟩) (λb a=>by have:=Y b a;omega) ⟨ka,_,kc,qq⟩ ql).move l K;refine G1 R u q z y A E E E (i.move j N) (λp hp=>?_) (λb a=>⟨(f.cel b a).2.2.1,K.cells (f.cel b a).2.2.2.2.2⟩) ⟨d,G⟩ (nC P j N) ?_ λV=>?_;·have:=hr p hp;exact⟨λl=>by have:=f.new _ l;omega,λc=>by have:=f.cel _ c;omega⟩
  .have:=BN (F.o t);simp only[cJ]at O;omega
  .have:=RX I k V;rcases f.cels with ⟨-,-,h⟩|⟨-,h⟩;·omega
   .exact⟨h,f.dup⟩
