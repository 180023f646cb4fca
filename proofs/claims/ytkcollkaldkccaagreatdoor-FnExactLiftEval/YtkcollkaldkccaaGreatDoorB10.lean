import Derived.Test.YtkcollkaldkccaaGreatDoorB4
import Derived.Test.YtkcollkaldkccaaGreatDoorB6
set_option linter.all false
open List renaming length -> J
open Go.Calls renaming mono -> H
open Go.Value renaming slice->A,int->I,string->Zt,pointer->Zp,agg->Za,tuple->Zu,bool->Zb
open Go.IntKind renaming i64->U
open Go.Ending renaming returned->Zr
open Go.Obj renaming cells->Zc
open Option renaming none->Y,some->Z
open Go renaming World->Zw,Value->Zv,maxLen->WX,Calls->WU
open ByteArray renaming empty->WT
open Go.Lib renaming itoa->W6
open Go.Lit renaming int->Ud
open Go.Proofs.Tryz renaming prog->WV
open Go.RowKit renaming Hid->G
namespace Go.Proofs.YtkcollkaldkccaaGreatDoor
open Go.RowKit Go.Proofs.Tryz
set_option maxRecDepth 100000
set_option maxHeartbeats 16000000
variable {n m c R X B j i kl kc M g cap nac la xl xc yl yc p q al ac am ae bl bc bm be i' Yzq:Nat} {d k so x1 a0 a1 b0 b1 nm:Int} {α:Type} {S:ZN} {ns NA N:List ZB} {nv c0 c1 c2 kv c3 c4 v:Zv} {w wr V w2 W Wa W2:Zw} {x s x2 a2 b2 tx:ZB} {r bad bad':Bool} {e:Ending} {ka na xa ya aa ad ba bd:ZA} {xs:List Zv} {post:List UInt8}
def eZ(n:Nat)(t:T n)(d:Int):Int:=if cS n t d=true/\cJ n t<=120 then (cJ n t:Int) else -1
def B0(n:Nat)(t:T (n+1))(d:Int)(h:(decide (d<=6) && oF (show F (T n) from t))=false):eZ (n+1) t d = -1:=by unfold eZ;rw[Qd];rintro ⟨a,-⟩;simp only[cS,h,Ze]at a;cases a
def H7{t:T (n+1)}{k:Nat}(b:k<J (F.o t))(h:eZ n (F.o t)[k] (d+1)<0):eZ (n+1) t d = -1:=by unfold eZ;rw[Qd];rintro ⟨a,c⟩;simp only[cS,Qc,Qo]at a;have e:=a.2 _ (QE b);have f:=eK (λk=>cJ n k) (F.o t) _ (QE b);simp only[cJ]at c;unfold eZ at h;rw[Qm ⟨e,E⟩]at h;omega
def E5(n:Nat)(t:T (n+1))(d:Int)(k:Nat)(h:120<1+cG (λk=>cJ n k) ((F.o t).take k)):eZ (n+1) t d = -1:=by unfold eZ;rw[Qd];rintro ⟨-,a⟩;have:=eV (λk=>cJ n k) ((F.o t).take k) ((F.o t).drop k);rw[Q2]at this;simp only[cJ]at a;omega
def H8 {t:T (n+1)} (h:(decide (d<=6) && oF (show F (T n) from t))=true) (a:(F.o t).all (λk=>cS n k (d+1))=true) (b:1+cG (λk=>cJ n k) (F.o t)<=120) :
  eZ (n+1) t d=1+(cG (λk=>cJ n k) (F.o t):Int):=by
 unfold eZ;rw[Qm];·exact Cn
 .exact⟨by simp only[cS,h,a,ZV],Cn⟩
def yw{t:T n}(h:0<=eZ n t d):eZ n t d=cJ n t/\cS n t d=true/\cJ n t<=120:=by
 unfold eZ at h ⊢;by_cases a:cS n t d=true/\cJ n t<=120;·rw[Qm a];exact zE
 .rw[Qd a]at h;omega
def Mb(t:T n)(d:Int): -1<=eZ n t d/\eZ n t d<=120:=by unfold eZ;split<;>omega
def CL{p:α->Bool}{l:List α}{k:Nat}(h:k<J l)(b:(l.take k).all p=true)(a:p l[k]=true):(l.take (k+1)).all p=true:=by rw[Qq h,Zj,b];simpa using a
def tg(n:Nat):Prop:=∀(S:ZN)(t:T n)(c0 c1 c2 c3 c4:Zv)(d:Int)(w:Zw),cT S w n t c0 c1 c2 c3 c4->(Bd S w)->1<=d->d<=7 ->
 WU WV 52 #[Za #[c0,c1,c2,c3,c4],I U d] w λe a=>e=Zr (I U (eZ n t d))/\Bw w a
def Dc(hn:tg n):tg (n+1):=by
 intro S t c0 c1 c2 c3 c4 d w ht u ab ac;obtain⟨rfl,rfl,rfl,hs,-,-,X,q7⟩:=ht;obtain⟨na,nc,rfl,-,-,-⟩:=id X;obtain⟨Q,R,rfl,O,f⟩:=id q7;unfold WX at O;have qp:=(Qg w.heap.size w).alloc E (UA (F.k t) (F.n t) (F.a t) na (J (F.q t)) nc Q (J (F.o t)) R);by_cases x:d<=6;case neg=>have HF:G (eZ (n+1) t d = -1):=B0 n t d (by simp[x]);exact PS
 have N:=X.keep (b6 qp u) zI;have qc:G (WU WV 77 _ _ _):=ug (F.k t) (F.n t) (F.a t) (F.q t) Q (J (F.o t)) R _ na nc hs S N (fP u);have hK:=q7.keepT (b6 qp u) zI;have HD:G (d<=6):=x;go_in;go_wp2_with fail;refine H qc ?_;rintro e w1 ⟨rfl,j⟩;have⟨hc,hf⟩:=BB j;have qq:=j.size;simp at qq;have v:=b9 qp zS j;have m4:a7 w1 w.heap.size 4=Z (A Q (J (F.o t)) R):=by rw[hc _ _ zS];simp[go_sem]
 have j0:=hK.keepT (b6 j (fP u)) zI;clear qp N qc hK j hc hf X q7 f;cases hal:cM (F.k t) (F.n t) (F.a t) (F.q t) (J (F.o t)) with
 | false=>have HF:G (eZ (n+1) t d = -1):=B0 n t d (by show (_ && cM _ _ _ _ _)=_;rw[hal];simp);clear hal;go_wp2;go_ret;exact⟨dd HF.symm,v⟩
 | true=>
  have V:G ((decide (d<=6) && oF (show F (T n) from t))=true):=by show (_ && cM _ _ _ _ _)=_;rw[hal];simp[x]
  clear hal;obtain⟨_,_,q5,-,f⟩:=j0;cases q5
  go_wp2;go_loopw [5,6] (λa i wr=>∃ k:Nat,k<=J (F.o t)/\i=I U k/\a=I U (1+(cG (λk=>cJ n k) ((F.o t).take k):Int))/\1+cG (λk=>cJ n k) ((F.o t).take k)<=120 /\
    ((F.o t).take k).all (λk=>cS n k (d+1))=true/\Bw w1 wr) (λ_ i _=>J (F.o t)-(intOf i).toNat)
  case atStart=>exact⟨0,E,D,uL,uL,zS,Qg _ _⟩
  case round=>
   obtain⟨k,hk,rfl,rfl,P,s,c⟩:=hrel;have o:=a8 s;clear s;have qa:=c.size;have q4:a7 wr w.heap.size 4=Z (A Q (J (F.o t)) R):=kC c m4 E;have B:=a8 P;generalize L:cG (λk=>cJ n k) ((F.o t).take k)=sm at *;have y:=a8 L;clear L B;by_cases qf:k<J (F.o t)
   .obtain⟨b,off,rfl,q9,l⟩:=f nS;have⟨x0,x1,x2,x3,x4,q8,ql,e2,e3,e4,hr⟩:=l k qf;have aa:=u b q9;have f0:=kC c q8 E;have f1:=kC c ql E;have f2:=kC c e2 E;have f3:=kC c e3 E;have f4:=kC c e4 E;have q:=hr.keep (b6 c (fP u)) zI;clear f l q8 ql e2 e3 e4 hr;go_wp2_with fail;refine H (hn S (F.o t)[k] x0 x1 x2 x3 x4 (d+1) wr q (fP u) E E) ?_;rintro e w2 ⟨rfl,C⟩;have K:=b9 c qa C;have ad:=Mb (F.o t)[k] (d+1);have z:G (eZ n (F.o t)[k] (d+1)<0->eZ (n+1) t d = -1):=λh=>H7 qf h;have p:G (0<=eZ n (F.o t)[k] (d+1)->eZ n (F.o t)[k] (d+1)=cJ n (F.o t)[k]/\cS n (F.o t)[k] (d+1)=true):=λh=>⟨(yw h).1,(yw h).2.1⟩;have g:G (cG (λk=>cJ n k) ((F.o t).take (k+1))=sm+cJ n (F.o t)[k]):=by show _=_;rw[dw _ qf,y.out]
    have m:=b9 v E K;clear C q f0 f1 f2 f3 f4 c q4;generalize eZ n (F.o t)[k] (d+1)=r at *;by_cases j2:r<0;·go_wp2;go_ret;exact⟨dd (z j2).symm,m⟩
    .by_cases q6:120<1+(sm:Int)+r;·go_wp2;go_ret;refine⟨dd (E5 n t d (k+1) ?_).symm,m⟩;have:=p.out E;rw[g.out];omega
     .go_wp2;go_roundw;case rel=>
       have hg:=p.out E;refine⟨k+1,E,ew,?_,?_,CL qf o hg.2,K⟩;·rw[g.out,hg.1];go_num
       .rw[g.out];omega
      case measure=>exact eb
   .have M:k=J (F.o t):=E;have HF:G (eZ (n+1) t d=1+(sm:Int)):=by show _=_;have h1:=o.out;have W:=y.out;rw[M,QG]at h1 W;rw[H8 V.out h1 (by rw[W];omega),W]
    have m:=b9 v E c;clear M f;go_wp2;go_ret;exact⟨dd HF.symm,m⟩
def EG:∀n,tg n:=by
 intro n;induction n with
 | zero=>intro S t c0 c1 c2 c3 c4 d w a;exact a.elim
 | succ n b=>exact Dc b
def qaQ(t:T n):decide (0<eZ n t 1)=dB n t:=by
 unfold eZ dB;by_cases a:cS n t 1=true/\cJ n t<=120;·rw[Qm a,a.1];have:=D7 n t 1 a.1;simp[a.2];omega
 .rw[Qd a];cases hg:cS n t 1 with
  | false=>simp
  | true=>simp[hg]at a;simp;omega
def rL (n:Nat) (S:ZN) (t:T n) (c0 c1 c2 c3 c4:Zv) (w:Zw) (g:cT S w n t c0 c1 c2 c3 c4) (i:Bd S w) :
  WU WV 23 #[Za #[c0,c1,c2,c3,c4]] w λe j=>e=Zr (Zb (dB n t))/\Bw w j:=by obtain⟨k,l,m,o,q,p,r,u,s,rfl,rfl,rfl,rfl,rfl⟩:=g.shape;have a:=(Qg w.heap.size w).alloc E (UA k l m o q p r u s);have c:=g.keep (b6 a i) zI;have h:=qaQ t;have d:G (decide (0<eZ n t 1)=dB n t):=h;clear h g;go_in;go_wp2_with fail;refine H (EG n S t _ _ _ _ _ 1 _ c (fP i) E E) ?_;rintro e w1 ⟨rfl,b⟩;have f:=b9 a zS b;clear a b c;go_wp2;go_ret;exact⟨fJ d,f⟩
def sC (x:ZB) (r:cR S w ns nv) (z:J ns<=1048576) :
  WU WV 88 #[nv,Zt x] w λe s=>((∃i,∃h:i<J ns,ns[i]=x/\e=Zr (I U (i:Int)))∨(x ∉ ns/\e=Zr (I U (-1))))/\s=w:=by
 obtain⟨t,cap,rfl,-,-,l⟩:=r;go_in;go_wp2;go_loopw [5] (λm wr=>∃j:Nat,j<=J ns/\m=I U j/\(∀i (h:i<J ns),i<j->ns[i]≠x)/\wr=w) (λm _=>J ns-(intOf m).toNat);case atStart=>exact⟨0,Q9 _,D,λi _ h=>absurd h (XJ _),D⟩
 case round=>
  obtain⟨j,v,rfl,g,rfl⟩:=hrel;have n:=QJ g;clear g;by_cases qf:j<J ns
  .obtain⟨b,off,rfl,u,a⟩:=l nS;have f:=a j qf;clear l a;by_cases c:ns[j]=x;·have d:=QJ (⟨j,qf,c,D⟩:∃i,∃h:i<J ns,ns[i]=x/\Ending.returned (I U (j:Int))=Zr (I U (i:Int)));rw[c]at f;have k:(x.toList==x.toList)=true:=zS;clear c;go_wp2;go_ret;exact⟨.inl d,D⟩
   .have k:(ns[j].toList==x.toList)=false:=by rw[Q6];intro e;exact c (by rw[QI,QI]at e;exact ZE e)
    have d:=QJ c;generalize p:ns[j]=y at *;have q:=QJ p;clear c p;go_wp2;go_roundw;case rel=>exact⟨j+1,E,ew,λi h o=>(by
     by_cases e:i=j
     .subst e;rw[q.out];exact d
     .exact n i h E),by first|rfl|trivial⟩
    case measure=>exact eb
  .have d:G (x ∉ ns):=by intro h;have⟨i,o,e⟩:=QT h;exact n i o E e
   clear l;go_wp2;go_ret;exact⟨.inr ⟨d,D⟩,D⟩
def RK:(m:Nat)->K m->ZN
 | 0,_,_=>False
 | m+1,t,d=>1<=d/\J (Kd.q t)<=1000/\(∀s,s∈Kd.q t->s.size<=10000)/\J (Kd.o t)<=1000/\∀k,k∈Kd.o t->RK m k (d-1)
def RK.one{x:Int}{d:Nat}{k:K m}(h:RK m k d):RK (m+1) (⟨x,[],[k]⟩:Kd (K m)) (d+1):=⟨E,zS,λs h=>eI,zS,λy a=>(by have e:y=k:=(by simpa using a);rw[e];simpa using h)⟩
def pk:Nat->Nat
 | 0=>0
 | d+1=>9+8*pk d
def Om(S:ZN)(w:Zw)(m:Nat)(x:Int)(a:(Ud U x).wf=true):cW S w (m+1) (⟨x,[],[]⟩:Kd (K m)) (I U x) (A Y 0 0) (A Y 0 0):=
 ⟨D,a,⟨Y,0,D,gO,λs h=>eI,λh=>absurd D h⟩,⟨Y,0,D,gO,λh=>absurd D h⟩⟩
def Sq {x:Int} {t:K m} {b:Nat} (k:(Ud U x).wf=true) (f:S b) (a:a7 w b 0=Z c0) (d:a7 w b 1=Z c1) (e:a7 w b 2=Z c2) (j:cW S w m t c0 c1 c2) :
  cW S w (m+1) (⟨x,[],[t]⟩:Kd (K m)) (I U x) (A Y 0 0) (A (b5 b 0) 1 c):=by
 refine⟨D,k,⟨Y,0,D,by simp[WX],λs h=>(by cases h),λh=>absurd D h⟩,⟨b5 b 0,c,D,by simp[WX],λ_=>⟨b,0,D,f,λi g=>?_⟩⟩⟩;have:i=0:=by simpa using g
 subst this;exact⟨c0,c1,c2,by simpa using a,by simpa using d,by simpa using e,j⟩
def Tryz.info_strD:(prog.info? 9).map (λi=>(i.zero,i.size,i.bytes))=Z (Z (Zt ⟨#[]⟩),1,16):=gZ
def CB(R X:Nat)(w wr:Zw)(j:Nat):Prop:=
 ∃(c:Int)(a:Zv),pS R X w wr/\wr.heap[X]?=Z (Zc #[I U c,A Y 0 0,a] 177 (0,0))/\∀M,j+1<=M->∃k:K M,cW (λb=>w.heap.size<=b/\b<wr.heap.size) wr M k (I U c) (A Y 0 0) a
def CB.start(h:w.heap[X]?=Z (Zc (UE 3 Y 0 0 Y 0 0) 177 (0,0))):CB R X w w 0:=
 ⟨3,_,pS.refl _ _ _,h,λM b=>by
  obtain⟨a,rfl⟩:∃a,M=a+1:=⟨M-1,E⟩
  exact⟨(⟨3,[],[]⟩:Kd (K a)),Om _ _ a 3 D⟩⟩
def CB.more {a:Zw} {t:Int} (f:pS R X w wr) (h:∀ M,j+1<=M->∃ k:K M,cW (λb=>w.heap.size<=b/\b<wr.heap.size) wr M k (I U so) (A Y 0 0) kv) (s:X<w.heap.size) (p:(Ud U t).wf=true)
  (i:a.os=wr.os/\a.tape=wr.tape/\a.output=wr.output) (m:∀b,b<wr.heap.size->b≠X->a.heap[b]?=wr.heap[b]?) (q:wr.heap.size<=B/\B<a.heap.size) (c:lP a B (I U so) (A Y 0 0) kv)
  (e:a.heap[X]?=Z (Zc (UE t Y 0 0 (b5 B 0) 1 1) 177 (0,0))):CB R X w a (j+1):=by have u:=f.size;refine⟨t,A (b5 B 0) 1 1,⟨i.1.trans f.os,i.2.1.trans f.tape,i.2.2.trans f.output,E,λb d n l=>(m b E l).trans (f.block b d n l)⟩,e,λM r=>?_⟩;obtain⟨g,rfl⟩:∃g,M=g+1:=⟨M-1,E⟩;have⟨k,o⟩:=h g E;refine⟨(⟨t,[],[k]⟩:Kd (K g)),Sq (t:=k) p ⟨E,E⟩ c.c0 c.c1 c.c2 ?_⟩;exact o.keep (λb d=>m b d.2 E) (λb d=>⟨d.1,E⟩)
def Ke(a b:gk)(x:ZB)(h:∀p,p∈a->p.1≠x):DK (a++b) x=DK b x:=by
 induction a with
 | nil=>rfl
 | cons p r e=>obtain⟨s,k⟩:=p;have c:=h (s,k) zS;rw[QH,DK,Qd c];exact e λq d=>h q (Qt _ d)
def qbJ{l:List (ZB×V6)}(c:i<J l)(b:l[i].1=x)(d:∀j (h:j<J l),i<j->l[j].1≠x):DK l.reverse x=Z l[i].2:=by
 have e:l=l.take i++(l[i] :: l.drop (i+1)):=by rw[<- Qy c,Q2]
 have a:l.reverse=(l.drop (i+1)).reverse++(l[i] :: (l.take i).reverse):=by
  conv=>lhs;rw[e]
  exact dS
 rw[a,Ke];·rw[DK,Qm b]
 .intro p hp;obtain⟨j,f,rfl⟩:=QT (X0.1 hp);rw[WJ];exact d _ _ E
def qbK{l:List (ZB×V6)}(b:∀j (h:j<J l),l[j].1≠x):DK l.reverse x=Y:=by have:=Ke l.reverse [] x (λp hp=>by obtain⟨j,a,rfl⟩:=QT (X0.1 hp);exact b j a);rw[XF]at this;exact this
def gG(S:ZN)(w:Zw)(r:Except Int V6)(e:Ending)(w':Zw):Prop:=
 Bw w w' /\ match r with
  | .ok t=>∃c0 c1 c2 c3 c4,e=Zr (Zu #[Za #[c0,c1,c2,c3,c4],I U 0])/\b8 (Ov S w.heap.size Y w') w' 6 t c0 c1 c2 c3 c4
  | .error c=>e=Zr (Zu #[Gd,I U c])
def Ov.none{o:Option Nat}:∀b,Ov S X o w b->Ov S X Y w b:=λ_ a=>a.imp id zE
def km{t:V6}(hB:Bd S w)(a:Bw w V)(c:w.heap.size<=X)(h:b8 (Ov S w.heap.size (Z X) V) V 6 t c0 c1 c2 c3 c4):gG S w (.ok t) (Zr (Zu #[Za #[c0,c1,c2,c3,c4],I U 0])) (eF V X 0 c0 c1 c2 c3 c4):=
 ⟨dk a c,_,_,_,_,_,D,h.keep (λb hb=>dt λe=>by
  rcases hb with hb|hb
  .exact pf
  .exact hb.2.2 (by rw[e])) λb hb=>(Ov.none b hb).imp id λh=>⟨h.1,by rw[eJ];exact h.2.1,h.2.2⟩⟩
def lL{c:Int}(a:Bw w V)(b:w.heap.size<=X):gG S w (.error c) (Zr (Zu #[Gd,I U c])) (eF V X 0 (I U 0) (I U 0) (Zt ⟨#[]⟩) (A Y 0 0) (A Y 0 0)):=⟨dk a b,D⟩
def pj(l:List (ZB×V6))(x:ZB):Except Int V6:=match DK l.reverse x with|Z t=>.ok t|Y=>.error 6
def EB {l:List (ZB × V6)} (nm:ZB) (hv:fM S w 6 l v) (O:Bd S w) (hl:J l<=3000000) :
  WU WV 53 #[v,Zt nm] w (gG S w (pj l nm)):=by
 have⟨W,hW⟩:=fk (w.alloc d8);have a:Bw w W:=Ag;have N:W.heap[w.heap.size]?=Z d8:=uK;obtain⟨ao,cap,rfl,-,qc⟩:=id hv;have⟨⟨r0,r1,r2,r3,r4⟩,f0,f1,f2,f3,f4⟩:=cI N;have P:G (∀ i (h:i<J l),∃ b off s t u z C B p r q,ao=b5 b off/\a7 W b (off+i*6)=Z (Zt l[i].1)/\(Q5 W b (off+i*6+1) s t u z C B p r q) /\
   (l[i].1=nm->(∀j (h:j<J l),i<j->l[j].1≠nm)->gG S w (pj l nm) (Zr (Zu #[Uy s t u z C B p r q,I U 0])) (eF W w.heap.size 0 (I U s) (I U t) (Zt u) (A z C B) (A p r q)))):=λi L=>by
  have⟨b,off,ha,hb,m⟩:=qc (λe=>by rw[e]at L;simp at L)
  have⟨c0,c1,c2,c3,c4,e,qq,q5,j0,qa,F,ac,ql⟩:=m i L
  obtain⟨s,t,u,z,C,B,p,r,q,rfl,rfl,rfl,rfl,rfl⟩:=ql.shape
  have c:=O b hb
  refine⟨b,off,s,t,u,z,C,B,p,r,q,ha,kC a e c,⟨kC a qq c,kC a q5 c,kC a j0 c,kC a qa c,kC a F c⟩,λhe o=>?_⟩
  have X:pj l nm=.ok l[i].2:=by unfold pj;rw[qbJ L he o]
  rw[X]
  exact km O a E (ql.keep (b6 a O) λ_ h=>.inl h)
 have HN:G ((∀j (h:j<J l),l[j].1≠nm)->gG S w (pj l nm) (Zr (Zu #[Gd,I U 6])) (eF W w.heap.size 0 (I U 0) (I U 0) (Zt ⟨#[]⟩) (A Y 0 0) (A Y 0 0))):=λo=>by
  have X:pj l nm=.error 6:=by unfold pj;rw[qbK o]
  rw[X];exact lL a E
 generalize pj l nm=R at *;obtain⟨n,o⟩:∃n,J l=n:=⟨_,D⟩;have K:=a8 o;rw[o]at hl ⊢;have ad:IntKind.i64.wrap ((n:Int)-1)=(n:Int)-1:=kG;clear hv qc O a N o;go_in;go_wp2_with fail;rw[<- hW];clear hW;go_loopw [6] (λq8 wr=>wr=W/\∃(x:Int)(j:Nat),q8=I U x/\x=(j:Int)-1/\j<=n/\(∀i (h:i<J l),j<=i->l[i].1≠nm)) (λq8 _=>(intOf q8+1).toNat);case atStart=>exact⟨D,(n:Int)-1,n,D,D,E,λi h L=>absurd (K.out ▸ h) E⟩
 case round=>
  obtain⟨rfl,x,j,rfl,q9,q7,M⟩:=hrel;have g:=QJ M;clear M;cases j with
  | zero=>
   obtain rfl:x = -1:=by simpa using q9
   have HF:=QJ (HN (λj h=>g j h E));clear q9;exact sj
  | succ i=>
   obtain rfl:x=(i:Int):=E;have V:i<J l:=by have:=K.out;omega
   obtain⟨b,off,s,t,u,z,C,B,p,r,q,rfl,e,⟨qq,q5,j0,qa,F⟩,f⟩:=P.out i V;have ab:(i:Int)<(n:Int):=E;have aa:(0:Int)<=(i:Int):=E;have Q:=QJ f;generalize hy:l[i].1=y at *;have HY:=QJ hy;have q6:IntKind.i64.wrap ((i:Int)-1)=(i:Int)-1:=kG;clear q9 f hy;by_cases d:y=nm
   .have T:(y.toList==nm.toList)=true:=by rw[d];simp
    have k:=QJ d;clear d;go_wp2_with fail;refine bR (v:=Zu #[Uy s t u z C B p r q,I U 0]) ?_;exact Q (by rw[k.out]) (λj h q7=>g j h E)
   .have T:(y.toList==nm.toList)=false:=by rw[Q6];intro e;exact d (by rw[QI,QI]at e;exact ZE e)
    have k:=QJ d;clear d;go_wp2;go_roundw;case rel=>
     refine⟨trivial,(i:Int)-1,i,?_,D,E,λj h q7=>?_⟩;·first|rfl|rw[q6]|go_num
     .by_cases e:j=i;·subst e;rw[HY.out];exact k
      .exact g j h E
    case measure=>(simp[intOf];try omega)
def Br(op:Int)(i:Nat)(k b:Int)(r:Bool):Prop:=∀(f:Int)(g:ZB)(a h m:ZA)(l j s o n c:Nat)(w:Zw),((op=14∨op=27)->i=1->∃p q,a=b5 p q/\0<n/\p<w.heap.size/\a7 w p q=Z (I U b)) ->
 WU WV 78 #[I U op,I U (i:Int),Uy k f g h l j m s o,A a n c] w λe d=>e=Zr (Zb r)/\Bw w d
def qbL {op:Int} (i:Nat) (b:Int) (a:(op=9/\(k==1)=r)∨(op=10/\(k==1)=r)∨(op=11/\(k==1)=r)∨(op=12/\(k==1)=r)∨(op=13/\(k==1)=r)∨(op=29/\(k==1)=r)∨(op=30/\(k==2)=r)∨(op=16/\(k==3)=r)∨(op=17/\(k==3)=r)∨(op=18/\(k==3)=r)∨(op=21/\(k==5)=r)∨(op=23/\(k==5)=r)
  ∨ (op=7/\true=r)∨(op=8/\true=r)∨(op=15/\true=r)∨(op=20/\true=r)∨(op=24/\true=r)):Br op i k b r:=by
 intro d e o f j h g m l n c w _;have hb:=eC w (UA k d e f h g j m l);rcases a with ⟨rfl,rfl⟩|⟨rfl,rfl⟩|⟨rfl,rfl⟩|⟨rfl,rfl⟩|⟨rfl,rfl⟩|⟨rfl,rfl⟩|⟨rfl,rfl⟩|⟨rfl,rfl⟩|⟨rfl,rfl⟩|⟨rfl,rfl⟩|⟨rfl,rfl⟩|⟨rfl,rfl⟩|⟨rfl,rfl⟩|⟨rfl,rfl⟩|⟨rfl,rfl⟩|⟨rfl,rfl⟩|⟨rfl,rfl⟩;all_goals
  go_in
  exact FJ
def Kg{op:Int}(b:Int)(a:(op=19/\(k==3)=r)∨(op=31/\(k==6)=r)∨(op=32/\(k==6)=r)∨(op=33/\(k==4)=r)∨(op=34/\(k==4)=r)∨(op=35/\(k==4)=r)∨(op=22/\(k==5)=r)):Br op 0 k b r:=by
 intro d e m f i h g l j n c w _;have hb:=eC w (UA k d e f h g i l j);rcases a with ⟨rfl,rfl⟩|⟨rfl,rfl⟩|⟨rfl,rfl⟩|⟨rfl,rfl⟩|⟨rfl,rfl⟩|⟨rfl,rfl⟩|⟨rfl,rfl⟩;all_goals
  go_in
  exact FJ
def DL{op:Int}(b:Int)(a:(op=22/\i=1/\true=r)∨(op=25/\i=1/\(k==1)=r)∨(op=28/\i=1/\(k==1)=r)∨(op=28/\i=2/\(k==1)=r)):Br op i k b r:=by
 intro d e o f j h g m l n c w _;have hb:=eC w (UA k d e f h g j m l);rcases a with ⟨rfl,rfl,rfl⟩|⟨rfl,rfl,rfl⟩|⟨rfl,rfl,rfl⟩|⟨rfl,rfl,rfl⟩;all_goals
  go_in
  exact FJ
def pK{op:Int}(b:Int)(d:(op=14/\k=1/\true=r)∨(op=14/\¬k=1/\(k==2)=r)∨(op=27/\k=4/\true=r)∨(op=27/\¬k=4/\(k==2)=r)∨(op=28/\k=4/\true=r)∨(op=28/\¬k=4/\(k==2)=r)∨(op=26/\k=4/\true=r)∨(op=26/\¬k=4/\(k==2)=r)∨(op=25/\k=4/\true=r)∨(op=25/\¬k=4/\false=r)):Br op 0 k b r:=by
 intro e f o g j i h m l n c w _;have p:=eC w (UA k e f g i h j m l);rcases d with ⟨rfl,a,rfl⟩|⟨rfl,a,rfl⟩|⟨rfl,a,rfl⟩|⟨rfl,a,rfl⟩|⟨rfl,a,rfl⟩|⟨rfl,a,rfl⟩|⟨rfl,a,rfl⟩|⟨rfl,a,rfl⟩|⟨rfl,a,rfl⟩|⟨rfl,a,rfl⟩;all_goals
  try subst a
  go_in
  go_wp2
  all_goals
   go_ret
   exact⟨by first|rfl|simp_all,eC _ _⟩
def Cy{op:Int}(k b:Int)(a:op=14∨op=27):Br op 1 k b (k==b):=by
 intro e f r h l j i o m n c w d;obtain⟨p,q,rfl,t,hp,g⟩:=d a D;have hb:=eC w (UA k e f h j i l o m);have s:=kC hb g hp;rcases a with rfl|rfl;all_goals
  go_in
  exact FJ
def uH(op:Int)(i:Nat):Bool:=
 if op=19∨(31<=op/\op<=35)∨op=26 then i==0 else if op=14∨op=22∨op=25∨op=27 then decide (i<2) else if op=28 then decide (i<3) else decide (op=7∨op=8∨op=15∨op=20∨op=24∨(9<=op/\op<=13)∨op=29∨op=30∨(16<=op/\op<=18)∨op=21∨op=23)
def EF{op:Int}(k b:Int)(h:uH op i=true):Br op i k b (dV op i k b):=by
 unfold uH at h;split at h
 .have c:i=0:=mZ;subst c;by_cases d:op=26;·subst d;exact PB
  .refine Kg _ ?_;have a:op=19∨op=31∨op=32∨op=33∨op=34∨op=35:=E;rcases a with rfl|rfl|rfl|rfl|rfl|rfl<;>simp[dV]
 .split at h
  .have c:i=0∨i=1:=by have:=XI h;omega
   rcases c with rfl|rfl
   .next a=>
    rcases a with rfl|rfl|rfl|rfl
    .by_cases hk:k=1;·exact pK _ (by subst hk;simp[dV])
     .exact pK _ (by simp[dV,hk])
    .exact Kg _ IG
    iterate 2
     .exact PB
   .next a=>
    rcases a with rfl|rfl|rfl|rfl;·have e:dV 14 1 k b=(k==b):=IG;rw[e];exact Cy _ _ E
    .exact DL _ IG
    .exact DL _ IG
    .have e:dV 27 1 k b=(k==b):=IG;rw[e];exact Cy _ _ E
  .split at h
   .next a=>
    subst a;have c:i=0∨i=1∨i=2:=by have:=XI h;omega
    rcases c with rfl|rfl|rfl;·exact PB
    .exact DL _ IG
    .exact DL _ IG
   .refine qbL _ _ ?_;have h:=XI h;have a:op=7∨op=8∨op=15∨op=20∨op=24∨op=9∨op=10∨op=11∨op=12∨op=13∨op=29∨op=30∨op=16∨op=17∨op=18∨op=21∨op=23:=E;rcases a with rfl|rfl|rfl|rfl|rfl|rfl|rfl|rfl|rfl|rfl|rfl|rfl|rfl|rfl|rfl|rfl|rfl<;>simp[dV]
def lz:cR S w [] (A Y 0 0):=⟨Y,0,D,Q9 _,λs b=>(by cases b),λa=>absurd D a⟩
def Fb{R:α->Zv->Zv->Zv->Zv->Zv->Prop}:dn S w R [] (A Y 0 0):=⟨Y,0,D,Q9 _,λa=>absurd D a⟩
def k8:gQ (A Y 0 0):=⟨_,_,_,D,E⟩
def mm{s n:Int}(b:(Ud U s).wf=true)(a:(Ud U n).wf=true)(c:x.size<=WX):b8 S w 6 (fR s n x) (I U s) (I U n) (Zt x) (A Y 0 0) (A Y 0 0):=
 ⟨D,D,D,c,b,a,lz,Fb,k8,k8⟩
def b8.fit:∀ {n:Nat} {L:Nat} {t:T n} {d:Int} {c0 c1 c2 c3 c4:Zv},cS n t d=true->6-d<=(L:Int)->b8 S w n t c0 c1 c2 c3 c4->b8 S w (L+1) (fl L n t) c0 c1 c2 c3 c4:=by
 intro n;induction n with
 | zero=>intro L t;exact Empty.elim (show Empty from t)
 | succ n ih=>
  intro L t d c0 c1 c2 c3 c4 hg m h;obtain⟨c,e,f,l,a,b,g,h4,i,j⟩:=h;have k:dn S w (b8 S w L) (F.o (fl L (n+1) t)) c4:=by exact qcN
  rw[b8,BH,Ej,BI,x5];exact⟨c,e,f,l,a,b,g,k,i,j⟩
abbrev fT(z0 z1:Int)(z2:ZB)(xa ya:ZA)(xl xc yl yc:Nat)(c:Int):Ending:=Zr (Zu #[Uy z0 z1 z2 xa xl xc ya yl yc,I U c])
abbrev dN(w:Zw)(X:Nat)(z0 z1:Int)(z2:ZB)(xa ya:ZA)(xl xc yl yc:Nat):Zw:=eF w X 0 (I U z0) (I U z1) (Zt z2) (A xa xl xc) (A ya yl yc)
def gG.pass {S':ZN} {w1:Zw} {r:Except Int V6} (h:gG S' w1 r e w2) (u:Bd S w) (s:Bw w w1) (p:w.heap.size<=X) (x:X<w1.heap.size) (v:∀ b,S' b->Ov S w.heap.size (Z X) w1 b) :
  ∃z0 n o f j i g m l c,e=fT z0 n o f j i g m l c/\Bw w1 w2/\(match r with|.ok _=>c=0|.error k=>c=k)/\gG S w r e (dN w2 X z0 n o f j i g m l):=by
 obtain⟨a,h⟩:=h;have d:=s.trans (a.mono E);have y:=a.size;cases r with
 | error c=>subst h;exact⟨_,_,_,_,_,_,_,_,_,_,D,a,D,dk d p,D⟩
 | ok t=>
  obtain⟨c0,c1,c2,c3,c4,rfl,q⟩:=h;obtain⟨z0,n,o,f,i,g,j,m,l,rfl,rfl,rfl,rfl,rfl⟩:=q.shape;refine⟨z0,n,o,f,j,i,g,m,l,0,D,a,D,km u d p (q.keep ik λb a=>?_)⟩;rcases a with a|a
  .rcases v b a with h|h;·exact .inl h
   .exact .inr ⟨h.1,E,h.2.2⟩
  .exact .inr ⟨E,a.2.1,λe=>FZ⟩
def dy(a:W.heap[X]?=Z d8)(b:Bw W w2):w2.heap[X]?=Z d8:=(b.block X (Qe.1 a).1).trans a
def yh(n:Int)(hB:Bd S w):WU WV 84 #[I U n] w (gG S w (kf n)):=by
 have⟨W,hW⟩:=fk (w.alloc d8);have qp:Bw w W:=Ag;have qN:W.heap[w.heap.size]?=Z d8:=uK;have⟨⟨r0,r1,r2,r3,r4⟩,f0,f1,f2,f3,f4⟩:=cI qN;have HC:=a8 (fx n (-999999999) 999999999 W);by_cases hn : -999999999<=n/\n<=999999999
 .have hx:kf n=.ok (fR 1 n WT):=by unfold kf;rw[Qm hn]
  rw[QK hn]at HC;have HF:G (gG S w (kf n) (fT 1 n ⟨#[]⟩ Y Y 0 0 0 0 0) (dN W w.heap.size 1 n ⟨#[]⟩ Y Y 0 0 0 0)):=by rw[hx];exact km hB qp E (mm zC (iX n hn.1 hn.2) gO)
  exact TV
 .have hx:kf n=.error 1:=by unfold kf;rw[Qd hn]
  rw[QU hn]at HC;have HF:G (gG S w (kf n) (Zr (Zu #[Gd,I U 1])) (dN W w.heap.size 0 0 ⟨#[]⟩ Y Y 0 0 0 0)):=by rw[hx];exact lL qp E
  exact TV
def t8(S:ZN)(b:Bool)(w:Zw):WU WV 83 #[Zb b] w (gG S w (.ok (lO b))):=by
 have a:∀(n:Int)(W:Zw),(n=0∨n=1)->b8 (Ov S w.heap.size Y W) W 6 (fR 3 n WT) (I U 3) (I U n) (Zt ⟨#[]⟩) (A Y 0 0) (A Y 0 0):=λn W c=>mm zC (iX n E E) gO;cases b
 .go_in;go_wp2;refine bR (v:=Zu #[Za #[I U 3,I U 0,Zt ⟨#[]⟩,A Y 0 0,A Y 0 0],I U 0]) ?_;exact⟨eC _ _,_,_,_,_,_,D,a _ _ zS⟩
 .go_in;go_wp2;refine bR (v:=Zu #[Za #[I U 3,I U 1,Zt ⟨#[]⟩,A Y 0 0,A Y 0 0],I U 0]) ?_;exact⟨eC _ _,_,_,_,_,_,D,a _ _ zS⟩
def lv(S:ZN)(t:T 7)(c0 c1 c2 c3 c4:Zv)(w:Zw)(x:b8 S w 7 t c0 c1 c2 c3 c4)(z:Bd S w):WU WV 81 #[Za #[c0,c1,c2,c3,c4]] w (gG S w (eu t)):=by
 obtain⟨z0,p,q,j,l,k,m,o,n,rfl,rfl,rfl,rfl,rfl⟩:=x.shape;have⟨W,hW⟩:=fk ((w.alloc (UA z0 p q j l k m o n)).alloc d8);have a:Bw w W:=FF;have r:W.heap[w.heap.size+1]?=Z d8:=by have:=Qh (w.alloc (UA z0 p q j l k m o n)) d8;rw[hW];simpa using this
 have c:W.heap[w.heap.size]?=Z (Zc (Uz z0 p q j l k m o n) 31 (0,0)):=by rw[hW,Qf _ _ _ zS];exact Qh _ _
 have⟨i,f⟩:=x.step z a;have s:=a8 (rL 7 S t _ _ _ _ _ W i.tree f);obtain⟨⟨B,C,K,k3,k4⟩,-⟩:=cI c;have u:G (∀V,Bw W V->V.heap[w.heap.size+1]?=Z d8/\V.heap[w.heap.size]?=Z (Zc (Uz z0 p q j l k m o n) 31 (0,0))/\Bw w V/\b8 S V 7 t (I U z0) (I U p) (Zt q) (A j l k) (A m o n)):=λV d=>⟨dy r d,(d.block _ (Qe.1 c).1).trans c,a.trans (d.mono a.size),(i.step f d).1⟩;clear a r c x i f;go_in;go_wp2_with fail;rw[<- hW];clear hW;refine H s ?_;rintro e V ⟨rfl,d⟩;have⟨y,v,b,g⟩:=u.out V d;obtain⟨⟨B,C,K,k3,k4⟩,-⟩:=cI v;have⟨⟨r0,r1,r2,r3,r4⟩,f0,f1,f2,f3,f4⟩:=cI y;cases hok:dB 7 t with
 | true=>
  have HF:G (gG S w (eu t) (fT z0 p q j m l k o n 0) (dN V (w.heap.size+1) z0 p q j m l k o n)):=by unfold eu;rw[Qm hok];exact km z b E (((g.fit (L:=5) (dr hok).1 E).keep ik λ_ h=>.inl h))
  clear hok y v b g s u d;exact sj
 | false=>
  have HF:G (gG S w (eu t) (Zr (Zu #[Gd,I U 4])) (dN V (w.heap.size+1) 0 0 ⟨#[]⟩ Y Y 0 0 0 0)):=by unfold eu;rw[Qd (by rw[hok];simp)];exact lL b E
  clear hok y v b g s u d;exact sj
def EE{op a b:Int}(K:Bd S w)(T : -999999999<=a/\a<=999999999)(y : -999999999<=b/\b<=999999999)(f:op=9∨op=10∨op=11∨op=12∨op=13):WU WV 82 #[I U op,I U a,I U b] w (gG S w (mC op a b)):=by
 have⟨W,hW⟩:=fk (w.alloc d8);have h:Bw w W:=Ag;have g:W.heap[w.heap.size]?=Z d8:=uK;have k:=(Qe.1 g).1;have M:G (∀n,WU WV 84 #[I U n] W λe z=>∃z0 u v o r q p t s c,e=fT z0 u v o r q p t s c/\z.heap[w.heap.size]?=Z d8/\gG S w (kf n) e (dN z w.heap.size z0 u v o r q p t s)):=λn=>by refine H (yh n λb y=>Qn (K b y) E) ?_;intro e z hp;obtain⟨z0,u,v,o,r,q,p,t,s,c,x,C,-,O⟩:=hp.pass K h E k λb y=>.inl y;exact⟨z0,u,v,o,r,q,p,t,s,c,x,dy g C,O⟩
 have B:G (gG S w (.error 2) (Zr (Zu #[Gd,I U 2])) W):=⟨h,D⟩;have⟨⟨r0,r1,r2,r3,r4⟩,f0,f1,f2,f3,f4⟩:=cI g;have l : -999999998000000001<=a*b/\a*b<=999999998000000001:=by
  have x:(a*b).natAbs<=999999999*999999999:=by rw[Int.natAbs_mul];exact WA E E
  omega
 have P:IntKind.i64.wrap (a+b)=a+b:=kG;have Q:IntKind.i64.wrap (a-b)=a-b:=kG;have R:IntKind.i64.wrap (a*b)=a*b:=kG;clear h g k K l;have m:b=0∨(b≠0/\IntKind.i64.wrap (a.tdiv b)=a.tdiv b/\IntKind.i64.wrap (a.tmod b)=a.tmod b):=by
  by_cases j:b=0;·exact E
  .have x:(a.tdiv b).natAbs<=a.natAbs:=by rw[Int.natAbs_tdiv];exact Nat.div_le_self _ _
   have C:(a.tmod b).natAbs<=a.natAbs:=by rw[Int.natAbs_tmod];exact Nat.mod_le _ _
   exact .inr ⟨j,kG,kG⟩
 have i:((op=12∨op=13)/\b=0/\mC op a b=.error 2)∨(op=9/\mC op a b=kf (a+b))∨(op=10/\mC op a b=kf (a-b))∨(op=11/\mC op a b=kf (a*b))∨(op=12/\b≠0/\mC op a b=kf (a.tdiv b)/\IntKind.i64.wrap (a.tdiv b)=a.tdiv b)∨(op=13/\b≠0/\mC op a b=kf (a.tmod b)/\IntKind.i64.wrap (a.tmod b)=a.tmod b):=by unfold mC;rcases f with rfl|rfl|rfl|rfl|rfl<;>rcases m with j|⟨j,x,C⟩<;>simp[j];all_goals assumption
 clear f m;rcases i with ⟨f,rfl,d⟩|i
 .rw[d];rcases f with rfl|rfl;all_goals
   clear d
   go_in
   go_wp2_with fail
   rw[<- hW]
   clear hW
   exact bR B
 rcases i with ⟨rfl,d⟩|⟨rfl,d⟩|⟨rfl,d⟩|⟨rfl,j,d,L⟩|⟨rfl,j,d,L⟩;all_goals
  rw[d];clear d
  go_in
  go_wp2_with fail
  rw[<- hW]
  clear hW
  refine H (M _) ?_
  rintro e z ⟨z0,u,v,o,r,q,p,t,s,c,rfl,N,m⟩
  have⟨⟨r0,r1,r2,r3,r4⟩,f0,f1,f2,f3,f4⟩:=cI N
  have HQ:=a8 m
  clear N m M
  exact nX
def gj(m:Nat):Prop:=∀(S:ZN)(t:T m)(l:List (ZB×V6))(c0 c1 c2 c3 c4 v:Zv)(d:Int)(w:Zw),b8 S w m t c0 c1 c2 c3 c4->fM S w 6 l v->Bd S w->c7 m t d=true->p8 m t<=35->cJ m t<=200->(J l:Int)<=1048576+2*d->(∀p,p∈l->dB 6 p.2=true) ->
 WU WV 24 #[v,Za #[c0,c1,c2,c3,c4]] w (gG S w (b7 m t l.reverse))
def iq {t:T (m+1)} (h:b8 S w (m+1) t c0 c1 c2 c3 (A ka kl kc)) (hB:Bd S w) (hi:i<J (F.o t)) :
  ∃(b off:Nat)(y0 y1:Int)(y2:ZB)(za ua:ZA)(zl zc ul uc:Nat),ka=b5 b off/\b<w.heap.size/\S b/\kl=J (F.o t)/\(Q5 w b (off+i*5) y0 y1 y2 za zl zc ua ul uc)/\b8 S w m (F.o t)[i] (I U y0) (I U y1) (Zt y2) (A za zl zc) (A ua ul uc):=by obtain⟨-,-,-,-,-,-,-,a,-,-⟩:=h;obtain⟨c,cap,hv,d,hc⟩:=a;exact qdC
def Po {a:List (T n)} {c:ZA} (h:dn S w (b8 S w n) a (A c kl kc)) (hB:Bd S w) (i:Nat) (hi:i<J a) :
  ∃(b off:Nat)(y0 y1:Int)(y2:ZB)(za ua:ZA)(zl zc ul uc:Nat),c=b5 b off/\b<w.heap.size/\S b/\kl=J a/\(Q5 w b (off+i*5) y0 y1 y2 za zl zc ua ul uc)/\b8 S w n a[i] (I U y0) (I U y1) (Zt y2) (A za zl zc) (A ua ul uc):=by obtain⟨d,cap,hv,f,hc⟩:=h;exact qdC
def pD{t:T m}(h:c7 m t d=true):d<=24:=by
 cases m with
 | zero=>exact Empty.elim (show Empty from t)
 | succ m=>simp only[c7,Qc,Qk]at h;exact h.1.1
def gj.kid (y:gj m) {t:T (m+1)} {l:List (ZB × V6)} {j n o q r:Zv} (c:i<J (F.o t)) (u:b8 S w m (F.o t)[i] j n o q r) (z:fM S w 6 l v) (s:Bd S w) (h:c7 (m+1) t d=true) (a:F.k t<=35) (b:cJ (m+1) t<=200) (x:(J l:Int)<=1048576+2*(d+1)) (e:∀ p,p∈l->dB 6 p.2=true) :
  WU WV 24 #[v,Za #[j,n,o,q,r]] w (gG S w (b7 m (F.o t)[i] l.reverse)):=by have f:=iW (ed h).1 a;have B:=eK (λk=>cJ m k) (F.o t) _ (QE c);have g:1+cG (λk=>cJ m k) (F.o t)<=200:=b;exact y S _ l _ _ _ _ _ v (d+1) w u z s ((ed h).2 _ (QE c)) (kT (f.kid i c)).2 E x e
def rv (hm:gj m) (S S2:ZN) (t:T (m+1)) (l:List (ZB × V6)) (K:List V6) (c0 c1 c2 c3 c4 v bv:Zv) (d:Int) (i:Nat) (w:Zw) (ht:b8 S w (m+1) t c0 c1 c2 c3 c4) (hv:fM S w 6 l v) (q5:Bd S w) (P:c7 (m+1) t d=true) (q9:F.k t<=35) (ql:cJ (m+1) t<=200) (hl:(J l:Int)<=1048576+2*d) (Q:∀ p,p∈l->dB 6 p.2=true)
  (hi:i<J (F.o t)) (hw:uH (F.k t) i=true) (q6:Bd S2 w) (O:dn S2 w (b8 S2 w 6) K bv) (qq:(F.k t=14∨F.k t=27)->i=1->K≠[]) :
  WU WV 54 #[v,Za #[c0,c1,c2,c3,c4],I U (i:Int),bv] w (gG S w (dD (F.k t) i (F.k (K.headD dU)) (b7 m (F.o t)[i] l.reverse))):=by
 obtain⟨j0,x1,x2,xa,xl,xc,ya,yl,yc,rfl,rfl,rfl,rfl,rfl⟩:=ht.shape;have aa:j0=F.k t:=FH;obtain⟨va,vc,rfl,-⟩:=id hv;obtain⟨ba,bc,rfl,-⟩:=id O;obtain⟨b,off,y0,y1,y2,za,ua,zl,zc,ul,uc,rfl,j,am,rfl,⟨e0,e1,e2,e3,e4⟩,hk⟩:=iq ht q5 hi;have⟨W,hW⟩:=fk ((w.alloc (UB j0 x1 x2 xa xl xc (b5 b off) (J (F.o t)) yc)).alloc d8);have a:Bw w W:=FF;have q7:W.heap[w.heap.size+1]?=Z d8:=by have:=Qh (w.alloc (UB j0 x1 x2 xa xl xc (b5 b off) (J (F.o t)) yc)) d8;rw[hW];simpa using this
 have q8:W.heap[w.heap.size]?=Z (Zc (Uz j0 x1 x2 xa xl xc (b5 b off) (J (F.o t)) yc) 38 (0,0)):=by rw[hW,Qf _ _ _ zS];exact Qh _ _
 have aq:=(Qe.1 q7).1;have⟨q0,q1,q2,q3,q4⟩:=cP q8;have f0:=kC a e0 j;have f1:=kC a e1 j;have f2:=kC a e2 j;have f3:=kC a e3 j;have f4:=kC a e4 j;have j2:Bd S W:=λb hb=>Qn (q5 b hb) E;have HE:=a8 (hm.kid hi (hk.keep (b6 a q5) zI) (hv.keep (b6 a q5) zI) j2 P q9 ql E Q);have an:(i:Int)<(J (F.o t):Int):=E;have X:=iW (ed P).1 q9;have N:G (lR (b7 m (F.o t)[i] l.reverse)):=lC m _ (d+1) l.reverse ((ed P).2 _ zS) (kT (X.kid i hi)).1 (kT (X.kid i hi)).2 λp hp=>Q p (X0.1 hp);have HW:G (∀(k:V6)(V:Zw)(y:Int)(z:ZB)(s o:ZA)(x u sl sc:Nat),Bw W V->WU WV 78 #[I U j0,I U (i:Int),Uy (F.k k) y z s x u o sl sc,A ba (J K) bc] V λe w'=>e=Zr (Zb (dV (F.k t) i (F.k k) (F.k (K.headD dU))))/\Bw V w'):=λk V y z s o x u sl sc C=>by
  rw[aa];refine EF (F.k k) (F.k (K.headD dU)) hw y z ba s o x u sl sc (J K) bc V λh1 B=>?_;obtain⟨k0,r,ae⟩:∃k0 r,K=k0 :: r:=by
   cases K with
   | nil=>exact absurd D (qq h1 B)
   | cons k0 r=>exact zS
  subst ae;have⟨p,q,u0,_,_,_,_,_,_,_,_,hp,ai,_,_,⟨g0,_⟩,af⟩:=Po O q6 0 zS;have hu:u0=F.k k0:=by have:=af.1;injection this
  refine⟨p,q,hp,dS,by have:=a.size;have:=C.size;omega,?_⟩;have P:=kC C (kC a g0 ai) (by have:=a.size;omega);rw[hu]at P;simpa using P
 have HZ:G (∀V,Bw W V->V.heap[w.heap.size+1]?=Z d8/\a7 V w.heap.size 0=Z (I U j0)/\Bw w V):=λV C=>⟨dy q7 C,kC C q0 E,a.trans (C.mono E)⟩;have HB:=a8 q5;clear q6 ht hv O hk q7 q8 X e0 e1 e2 e3 e4 j2 P ql Q aa hw qq;generalize b7 m (F.o t)[i] l.reverse=R at *;generalize F.k (K.headD dU)=bb at *;go_in;go_upto_region 1 with fail;rw[<- hW];clear hW;go_wp2_with fail;refine H HE ?_;intro e V hp;obtain⟨C,hp⟩:=hp;have ac:=C.size;cases R with
 | error k=>
  subst hp;have ao:(k==0)=false:=by have h1:1<=k:=N.1;simpa using E
  have⟨L,c⟩:=fk (V.alloc d8);have⟨n,ag,f⟩:=HZ.out L (by rw[c];exact C.alloc ac _);have⟨⟨r0,r1,r2,r3,r4⟩,h0,h1,B,h3,h4⟩:=cI n;have HF:G (gG S w (dD (F.k t) i bb (.error k)) (Zr (Zu #[Gd,I U k])) (dN L (w.heap.size+1) 0 0 ⟨#[]⟩ Y Y 0 0 0 0)):=lL f E;clear HE HW HZ N n f;go_upto_region 2 with fail;rw[<- c];clear c;exact sj
 | ok k=>
  obtain⟨g0,g1,g2,g3,g4,rfl,hn⟩:=hp;have aj:=hn.shape;obtain⟨z0,y,z,s,x,u,o,sl,sc,rfl,rfl,rfl,rfl,rfl⟩:=aj;have al:z0=F.k k:=by have:=hn.1;injection this
  subst al;have⟨L,c⟩:=fk (V.alloc (UA (F.k k) y z s x u o sl sc));have h:Bw W L:=by rw[c];exact C.alloc ac _
  have M:L.heap[V.heap.size]?=Z (Zc (Uz (F.k k) y z s x u o sl sc) 31 (0,0)):=by rw[c];exact Qh _ _
  have⟨n,ag,f⟩:=HZ.out L h;obtain⟨⟨t0,t1,t2,t3,t4⟩,-⟩:=cI M;have HN:G (∀g,Bw L g->b8 (Ov S w.heap.size (Z (w.heap.size+1)) g) g 6 k (I U (F.k k)) (I U y) (Zt z) (A s x u) (A o sl sc)/\g.heap[w.heap.size+1]?=Z d8/\g.heap[V.heap.size]?=Z (Zc (Uz (F.k k) y z s x u o sl sc) 31 (0,0))/\Bw w g):=λg B=>by
   have qa:Bw V g:=by
    have:Bw V L:=by rw[c];exact eC _ _
    exact this.trans (B.mono this.size)
   have ab:=qa.size;have ap:=a.size;refine⟨hn.keep (λb hb=>qa.block b ?_) λb hb=>?_,dy n B,(B.block _ (Qe.1 M).1).trans M,f.trans (B.mono f.size)⟩
   .rcases hb with hb|hb;·have:=HB.out b hb;omega
    .exact E
   .rcases hb with hb|hb;·exact .inl hb
    .exact .inr ⟨pe,Ad,λe=>by injection e with e;have:=hb.1;omega⟩
  have ad:=a8 (HW k L y z s o x u sl sc h);clear HE HW HZ N n f hn h M;go_upto_region 2 with fail;rw[<- c];clear c;go_wp2_with fail;refine H ad ?_;rintro e g ⟨rfl,B⟩;have⟨ah,ab,ak,qc⟩:=HN.out g B;have⟨⟨r0,r1,r2,r3,r4⟩,h0,h1,B,h3,h4⟩:=cI ab;obtain⟨⟨t0,t1,t2,t3,t4⟩,-⟩:=cI ak;cases hwb:dV (F.k t) i (F.k k) bb with
  | true=>
   have HF:G (gG S w (dD (F.k t) i bb (.ok k)) (fT (F.k k) y z s o x u sl sc 0) (dN g (w.heap.size+1) (F.k k) y z s o x u sl sc)):=by
    have:dD (F.k t) i bb (.ok k)=.ok k:=by show (if dV (F.k t) i (F.k k) bb=true then (Except.ok k:Except Int V6) else .error 6)=_;rw[Qm hwb]
    rw[this];exact km HB qc E ah
   exact sj
  | false=>
   have HF:G (gG S w (dD (F.k t) i bb (.ok k)) (Zr (Zu #[Gd,I U 6])) (dN g (w.heap.size+1) 0 0 ⟨#[]⟩ Y Y 0 0 0 0)):=by
    have:dD (F.k t) i bb (.ok k)=.error 6:=by show (if dV (F.k t) i (F.k k) bb=true then (Except.ok k:Except Int V6) else .error 6)=_;rw[Qd (by rw[hwb];simp)]
    rw[this];exact lL qc E
   exact sj
def G6 (q:gj m) (S:ZN) (t:T (m+1)) (l:List (ZB × V6)) (a:List V6) (c0 c1 c2 c3 c4 v b:Zv) (d:Int) (i:Nat) (w:Zw) (r:b8 S w (m+1) t c0 c1 c2 c3 c4) (s:fM S w 6 l v) (j:Bd S w) (k:c7 (m+1) t d=true) (c:F.k t<=35) (g:cJ (m+1) t<=200) (o:(J l:Int)<=1048576+2*d) (h:∀ p,p∈l->dB 6 p.2=true)
  (n:i<J (F.o t)) (u:uH (F.k t) i=true) (f:dn S w (b8 S w 6) a b) (e:(F.k t=14∨F.k t=27)->i=1->a≠[]) :
  WU WV 54 #[v,Za #[c0,c1,c2,c3,c4],I U (i:Int),b] w (gG S w (dD (F.k t) i (F.k (a.headD dU)) (b7 m (F.o t)[i] l.reverse))):=
 rv q S S t l a c0 c1 c2 c3 c4 v b d i w r s j k c g o h n u j f e
def Bo(S:ZN)(n:Nat)(t:T n)(w:Zw)(e:Ending)(w':Zw):Prop:=
 Bw w w' /\ ∃c0 c1 c2 c3 c4,e=Zr (Za #[c0,c1,c2,c3,c4])/\b8 (Ov S w.heap.size Y w') w' n t c0 c1 c2 c3 c4
def Tryz.info_treeX:(prog.info? 31).map (λi=>(i.zero,i.size,i.bytes))=Z (Z (Za #[I U 0,I U 0,Zt ⟨#[]⟩,A Y 0 0,A Y 0 0]),5,80):=gZ
def oJ{z:Nat}{e:TypeId}(h:w.ownsRow M e z v n xs):gQ v:=by
 rcases h.2 with ⟨rfl,j⟩|⟨g,cap,c,rfl,d,k,a,f,i,b⟩;·exact k8
 .exact⟨_,_,_,D,a⟩
def mq {e:TypeId} {l:List (T n)} (h:w.ownsRow M e 5 v (J l) xs) (a:J l<=20000) (hS:∀ g,v.ownBlock=Z g->S g)
  (hk:∀j (h:j<J l),∃c0 c1 c2 c3 c4,(xs[j*5]?=Z c0/\xs[j*5+1]?=Z c1/\xs[j*5+2]?=Z c2/\xs[j*5+3]?=Z c3/\xs[j*5+4]?=Z c4)/\b8 S w n l[j] c0 c1 c2 c3 c4):dn S w (b8 S w n) l v:=by have xD:J l<=WX:=fA;exact qcX
structure fq(S:ZN)(X n:Nat)(w wr:Zw)(so:Int)(ns:List ZB)(ks:List (T n))(nv kv:Zv):Prop where
 near:cH X w wr
 box:wr.heap[X]?=Z (Zc #[I U so,I U 0,Zt ⟨#[]⟩,nv,kv] 31 (0,0))
 q:wr.ownsRow w.heap.size 9 1 nv (J ns) (ns.map Zt)
 short:∀s,s∈ns->s.size<=10000
 o:∃xs,wr.ownsRow w.heap.size 31 5 kv (J ks) xs/\∀j (h:j<J ks),∃c0 c1 c2 c3 c4,(xs[j*5]?=Z c0/\xs[j*5+1]?=Z c1/\xs[j*5+2]?=Z c2/\xs[j*5+3]?=Z c3/\xs[j*5+4]?=Z c4)/\b8 S wr n ks[j] c0 c1 c2 c3 c4
 apart:∀b,nv.ownBlock=Z b->kv.ownBlock≠Z b
def fq.lt{a:List (T n)}(h:fq S X n w wr so ns a nv kv):X<wr.heap.size:=(Qe.1 h.box).1
def fq.drewN{a:List (T n)}(h:fq S X n w wr so ns a nv kv)(q:Nat):fq S X n w (wr.drewN q) so ns a nv kv:=by have⟨g,f,d⟩:=h.o;refine⟨⟨h.near.os,h.near.tape,h.near.output,h.near.size,h.near.block⟩,h.box,cV h.q zS,h.short,⟨g,cV f zS,λj c=>?_⟩,h.apart⟩;have⟨c0,c1,c2,c3,c4,b,e⟩:=d j c;exact⟨c0,c1,c2,c3,c4,b,b8.keep (w:=wr) (w':=wr.drewN q) ik zI e⟩
def fq.name {f:List (T n)} {one:Obj} (h:fq S X n w W so ns f nv kv) (i:∀ b,S b->b<w.heap.size/\b≠X) (l:X<w.heap.size)
  (ha:Wa.heap=W.heap.push one) (ho:Wa.os=W.os/\Wa.tape=W.tape/\Wa.output=W.output) (hx:x.size<=10000)
  (qd:W2.ownsRow w.heap.size 9 1 (A (b5 g 0) (J ns+1) cap) (J ns+1) (ns.map Zt++[Zt x])) (qg:Wa.grownBy W2 nv.ownBlock) (qy:nv.ownBlock=Z g∨g=W.heap.size+1) :
  fq S X n w (W2.setCell ⟨X,3,Y⟩ (A (b5 g 0) (J ns+1) cap)) so (ns++[x]) f (A (b5 g 0) (J ns+1) cap) kv:=by
 have k:=h.lt;have v:W2.heap.size ≥ W.heap.size+1:=pP;have qS:=cO h.q;have t:=h.near.size;have q:∀b,b<W.heap.size->nv.ownBlock≠Z b->W2.heap[b]?=W.heap[b]?:=λb hb qh=>by exact Gc
 have qs:∀b,b≠X->(W2.setCell ⟨X,3,Y⟩ (A (b5 g 0) (J ns+1) cap)).heap[b]?=W2.heap[b]?:=λb hb=>Qr _ _ _ _ hb;have qo:(W2.setCell ⟨X,3,Y⟩ (A (b5 g 0) (J ns+1) cap)).heap.size=W2.heap.size:=zS;have d:nv.ownBlock≠Z X:=λe=>Co;have qF:=(q X k d).trans h.box;have⟨u,c,p⟩:=h.o;have qn:=cO c;refine⟨⟨?_,?_,?_,oA,λb hb a=>?_⟩,?_,?_,?_,⟨u,cV c λg' qC=>?_,λj o=>?_⟩,λb hb=>?_⟩;·exact F0
 .exact FX
 .exact FY
 .rw[qs b a,q b E (λe=>tP)];exact h.near.block b hb a
 .exact ox
 .rw[Qi,QM,Q8,XV];exact F1
 .exact FQ
 .exact MP
 .have⟨c0,c1,c2,c3,c4,m,r⟩:=p j o;refine⟨c0,c1,c2,c3,c4,m,r.keep (λb hb=>?_) zS⟩;have:=i b hb;rw[qs b this.2,q b E (λe=>tP)]
 .exact FC
def fq.kid {c:List (T n)} {t:T n} {one:Obj} (h:fq S X n w W so ns c nv kv) (m:∀ b,S b->b<w.heap.size/\b≠X) (r:X<w.heap.size)
  (s:b8 S W n t c0 c1 c2 c3 c4)
  (ha:Wa.heap=W.heap.push one) (ho:Wa.os=W.os/\Wa.tape=W.tape/\Wa.output=W.output) 
  (f:W.ownsRow w.heap.size 31 5 kv (J c) xs) (hk:∀j (h:j<J c),∃c0 c1 c2 c3 c4,(xs[j*5]?=Z c0/\xs[j*5+1]?=Z c1/\xs[j*5+2]?=Z c2/\xs[j*5+3]?=Z c3/\xs[j*5+4]?=Z c4)/\b8 S W n c[j] c0 c1 c2 c3 c4)
  (qd:W2.ownsRow w.heap.size 31 5 (A (b5 g 0) (J c+1) cap) (J c+1) (xs++[c0,c1,c2,c3,c4])) (qg:Wa.grownBy W2 kv.ownBlock) (qy:kv.ownBlock=Z g∨g=W.heap.size+1) :
  fq S X n w (W2.setCell ⟨X,4,Y⟩ (A (b5 g 0) (J c+1) cap)) so ns (c++[t]) nv (A (b5 g 0) (J c+1) cap):=by
 have p:=h.lt;have y:W2.heap.size ≥ W.heap.size+1:=pP;have qS:=cO h.q;have qn:=cO f;have u:=h.near.size;have q:∀b,b<W.heap.size->kv.ownBlock≠Z b->W2.heap[b]?=W.heap[b]?:=λb hb qh=>by exact Gc
 have qs:∀b,b≠X->(W2.setCell ⟨X,4,Y⟩ (A (b5 g 0) (J c+1) cap)).heap[b]?=W2.heap[b]?:=λb hb=>Qr _ _ _ _ hb;have qo:(W2.setCell ⟨X,4,Y⟩ (A (b5 g 0) (J c+1) cap)).heap.size=W2.heap.size:=zS;have i:kv.ownBlock≠Z X:=λe=>FM;have qF:=(q X p i).trans h.box;have l:=f.1;have jF:∀ {x:T n} {d0 d1 d2 d3 d4:Zv},b8 S W n x d0 d1 d2 d3 d4->b8 S (W2.setCell ⟨X,4,Y⟩ (A (b5 g 0) (J c+1) cap)) n x d0 d1 d2 d3 d4:=by intro x d0 d1 d2 d3 d4 hd;refine hd.keep (λb hb=>?_) zI;have:=m b hb;rw[qs b this.2,q b E nN]
 refine⟨⟨?_,?_,?_,oA,λb hb d=>?_⟩,?_,cV h.q λg' qC=>?_,h.short,⟨xs++[c0,c1,c2,c3,c4],?_,λj hj=>?_⟩,λb hb=>?_⟩;·exact F0
 .exact FX
 .exact FY
 .rw[qs b d,q b E nN];exact h.near.block b hb d
 .exact ox
 .have:=qS g' qC;rw[qs g' E,q g' this.2 (h.apart g' qC)]
 .rw[Qi,QM];exact F1
 .by_cases jE:j<J c;·exact Tn
  .have k:j=J c:=Bi;subst k;have a:∀o v,o<5->[c0,c1,c2,c3,c4][o]?=Z v->(xs++[c0,c1,c2,c3,c4])[J c*5+o]?=Z v:=λo v ho h=>by rw[Qu E,l,XR];exact h
   refine⟨c0,c1,c2,c3,c4,⟨a 0 _ E D,a 1 _ E D,a 2 _ E D,a 3 _ E D,a 4 _ E D⟩,?_⟩;have:(c++[t])[J c]=t:=zS;rw[this];exact jF s
 .exact YK
def fq.start(h:w.heap[X]?=Z (Zc #[I U so,I U 0,Zt ⟨#[]⟩,A Y 0 0,A Y 0 0] 31 (0,0))):fq S X m w w so [] [] (A Y 0 0) (A Y 0 0):=
 ⟨cH.refl _ _,h,QV _ _ _ _,zS,⟨[],QV _ _ _ _,zS⟩,zC⟩
def fq.kind {i:List (T m)} (h:fq S X m w wr so ns i nv kv) (f:(Ud U so).wf=true) (hW:∀ b,w.heap.size<=b∨S b->W.heap[b]?=wr.heap[b]?) (q:wr.heap.size<=W.heap.size) (hl:J ns<=20000) (o:J i<=20000) (p:B<=w.heap.size) :
  b8 (Ov S B Y W) W (m+1) (⟨so,0,WT,ns,i⟩:F (T m)) (I U so) (I U 0) (Zt ⟨#[]⟩) nv kv:=by
 have⟨r,a,e⟩:=h.o;have qS:=cO h.q;have c:=cO a;refine⟨D,D,D,gO,f,D,?_,?_,oJ h.q,oJ a⟩;·exact qcP
 .refine mq (cV a λg hg=>hW g (.inl (by have:=c g hg;omega))) o (λg hg=>?_) λj n=>?_;·have:=c g hg;exact .inr ⟨E,E,zS⟩
  .have⟨c0,c1,c2,c3,c4,l,d⟩:=e j n;exact⟨c0,c1,c2,c3,c4,l,d.keep (λb k=>hW b (.inr k)) FL⟩
structure m9(S:ZN)(X n:Nat)(w wr:Zw)(so:Int)(ns:List ZB)(ks:List (K n))(nv kv:Zv):Prop where
 near:cH X w wr
 box:wr.heap[X]?=Z (Zc #[I U so,nv,kv] 177 (0,0))
 q:wr.ownsRow w.heap.size 9 1 nv (J ns) (ns.map Zt)
 short:∀s,s∈ns->s.size<=10000
 o:∃xs,wr.ownsRow w.heap.size 177 3 kv (J ks) xs/\∀j (h:j<J ks),∃c0 c1 c2,(xs[j*3]?=Z c0/\xs[j*3+1]?=Z c1/\xs[j*3+2]?=Z c2)/\cW S wr n ks[j] c0 c1 c2
 apart:∀b,nv.ownBlock=Z b->kv.ownBlock≠Z b
def m9.lt{a:List (K n)}(h:m9 S X n w wr so ns a nv kv):X<wr.heap.size:=(Qe.1 h.box).1
def m9.drewN{a:List (K n)}(h:m9 S X n w wr so ns a nv kv)(q:Nat):m9 S X n w (wr.drewN q) so ns a nv kv:=by have⟨g,f,d⟩:=h.o;refine⟨⟨h.near.os,h.near.tape,h.near.output,h.near.size,h.near.block⟩,h.box,cV h.q zS,h.short,⟨g,cV f zS,λj c=>?_⟩,h.apart⟩;have⟨c0,c1,c2,b,e⟩:=d j c;exact⟨c0,c1,c2,b,cW.keep (w:=wr) (w':=wr.drewN q) ik zI e⟩
def m9.name {f:List (K n)} {one:Obj} (h:m9 S X n w W so ns f nv kv) (i:∀ b,S b->b<w.heap.size/\b≠X) (l:X<w.heap.size)
  (ha:Wa.heap=W.heap.push one) (ho:Wa.os=W.os/\Wa.tape=W.tape/\Wa.output=W.output) (hx:x.size<=10000)
  (qd:W2.ownsRow w.heap.size 9 1 (A (b5 g 0) (J ns+1) cap) (J ns+1) (ns.map Zt++[Zt x])) (qg:Wa.grownBy W2 nv.ownBlock) (qy:nv.ownBlock=Z g∨g=W.heap.size+1) :
  m9 S X n w (W2.setCell ⟨X,1,Y⟩ (A (b5 g 0) (J ns+1) cap)) so (ns++[x]) f (A (b5 g 0) (J ns+1) cap) kv:=by
 have k:=h.lt;have y:W2.heap.size ≥ W.heap.size+1:=pP;have qS:=cO h.q;have o:=cO qd g D;have u:=h.near.size;have q:∀b,b<W.heap.size->nv.ownBlock≠Z b->W2.heap[b]?=W.heap[b]?:=λb hb qh=>by exact Gc
 have qs:∀b,b≠X->(W2.setCell ⟨X,1,Y⟩ (A (b5 g 0) (J ns+1) cap)).heap[b]?=W2.heap[b]?:=λb hb=>Qr _ _ _ _ hb;have qo:(W2.setCell ⟨X,1,Y⟩ (A (b5 g 0) (J ns+1) cap)).heap.size=W2.heap.size:=zS;have d:nv.ownBlock≠Z X:=λe=>Co;have qF:=(q X k d).trans h.box;have⟨v,c,r⟩:=h.o;have qn:=cO c;refine⟨⟨?_,?_,?_,oA,λb hb a=>?_⟩,?_,?_,?_,⟨v,cV c λg' qC=>?_,λj p=>?_⟩,λb hb=>?_⟩;·exact F0
 .exact FX
 .exact FY
 .rw[qs b a,q b E (λe=>tP)];exact h.near.block b hb a
 .exact ox
 .rw[Qi,QM,Q8,XV];exact F1
 .exact FQ
 .exact MP
 .have⟨c0,c1,c2,m,t⟩:=r j p;refine⟨c0,c1,c2,m,t.keep (λb hb=>?_) zS⟩;have:=i b hb;rw[qs b this.2,q b E (λe=>tP)]
 .exact FC
def m9.kid {a:List (K n)} {t:K n} {one:Obj} (h:m9 S X n w W so ns a nv kv) (M:∀ b,S b->b<w.heap.size/\b≠X) (O:X<w.heap.size)
  (R:cW S W n t c0 c1 c2)
  (ha:Wa.heap=W.heap.push one) (ho:Wa.os=W.os/\Wa.tape=W.tape/\Wa.output=W.output) 
  (r:W.ownsRow w.heap.size 177 3 kv (J a) xs) (Q:∀j (h:j<J a),∃c0 c1 c2,(xs[j*3]?=Z c0/\xs[j*3+1]?=Z c1/\xs[j*3+2]?=Z c2)/\cW S W n a[j] c0 c1 c2)
  (qd:W2.ownsRow w.heap.size 177 3 (A (b5 g 0) (J a+1) cap) (J a+1) (xs++[c0,c1,c2])) (qg:Wa.grownBy W2 kv.ownBlock) (qy:kv.ownBlock=Z g∨g=W.heap.size+1) :
  m9 S X n w (W2.setCell ⟨X,2,Y⟩ (A (b5 g 0) (J a+1) cap)) so ns (a++[t]) nv (A (b5 g 0) (J a+1) cap):=by
 have N:=h.lt;have V:W2.heap.size ≥ W.heap.size+1:=pP;have qS:=cO h.q;have qn:=cO r;have P:=cO qd g D;have T:=h.near.size;have q:∀b,b<W.heap.size->kv.ownBlock≠Z b->W2.heap[b]?=W.heap[b]?:=λb hb qh=>by exact Gc
 have qs:∀b,b≠X->(W2.setCell ⟨X,2,Y⟩ (A (b5 g 0) (J a+1) cap)).heap[b]?=W2.heap[b]?:=λb hb=>Qr _ _ _ _ hb;have qo:(W2.setCell ⟨X,2,Y⟩ (A (b5 g 0) (J a+1) cap)).heap.size=W2.heap.size:=zS;have s:kv.ownBlock≠Z X:=λe=>FM;have qF:=(q X N s).trans h.box;have z:=r.1;have f:∀ {x:K n} {k l m:Zv},cW S W n x k l m->cW S (W2.setCell ⟨X,2,Y⟩ (A (b5 g 0) (J a+1) cap)) n x k l m:=by intro x k l m u;refine u.keep (λb hb=>?_) zI;have:=M b hb;rw[qs b this.2,q b E nN]
 refine⟨⟨?_,?_,?_,oA,λb hb i=>?_⟩,?_,cV h.q λg' qC=>?_,h.short,⟨xs++[c0,c1,c2],?_,λj hj=>?_⟩,λb hb=>?_⟩;·exact F0
 .exact FX
 .exact FY
 .rw[qs b i,q b E nN];exact h.near.block b hb i
 .exact ox
 .have:=qS g' qC;rw[qs g' E,q g' this.2 (h.apart g' qC)]
 .rw[Qi,QM];exact F1
 .by_cases p:j<J a
  .have⟨k,l,m,⟨B,C,L⟩,u⟩:=Q j p;have c:∀o v,o<3->xs[j*3+o]?=Z v->(xs++[c0,c1,c2])[j*3+o]?=Z v:=λo v ho h=>by rw[QA E];exact h
   refine⟨k,l,m,⟨c 0 _ E B,c 1 _ E C,c 2 _ E L⟩,?_⟩;rw[QS p];exact f u
  .have y:j=J a:=Bi;subst y;have d:∀o v,o<3->[c0,c1,c2][o]?=Z v->(xs++[c0,c1,c2])[J a*3+o]?=Z v:=λo v ho h=>by rw[Qu E,z,XR];exact h
   refine⟨c0,c1,c2,⟨d 0 _ E D,d 1 _ E D,d 2 _ E D⟩,?_⟩;have:(a++[t])[J a]=t:=zS;rw[this];exact f R
 .exact YK
def m9.start(h:w.heap[X]?=Z (Zc (UE so Y 0 0 Y 0 0) 177 (0,0))):m9 S X m w w so [] [] (A Y 0 0) (A Y 0 0):=
 ⟨cH.refl _ _,h,QV _ _ _ _,zS,⟨[],QV _ _ _ _,zS⟩,zC⟩
def NL(s:ZB):∀(b:List ZB)(a:List α),J (ft s b a).1=J (ft s b a).2/\J (ft s b a).1<=J b:=by
 intro b;induction b with
 | nil=>intro a;simp[ft]
 | cons n b c=>
  intro a;cases a with
  | nil=>simp[ft]
  | cons k a=>
   have:=c a;unfold ft;by_cases h:n=s;·rw[Qm h];simp only[Qs];omega
   .rw[Qd h];simp only[Qs];omega
def Ky (s:ZB):∀ (b:List ZB) (a:List α) (j:Nat) (h1:j<J b) (h2:j<J a),
  ft s (b.take (j+1)) (a.take (j+1))=if b[j]=s then ft s (b.take j) (a.take j) else ((ft s (b.take j) (a.take j)).1++[b[j]],(ft s (b.take j) (a.take j)).2++[a[j]]):=by
 intro b;induction b with
 | nil=>intro a j h1;exact absurd h1 (XJ _)
 | cons n b d=>
  intro a j h1 h2;cases a with
  | nil=>exact absurd h2 (XJ _)
  | cons k a=>
   cases j with
   | zero=>
    simp only[X3,WB,XY,ft];by_cases h:n=s;·rw[Qm h,Qm h]
    .rw[Qd h,Qd h];rfl
   | succ j=>
    have:=d a j Aa Ct;simp only[X3,ZI]at this ⊢;simp only[ft];rw[this];by_cases h:n=s;·simp only[Qm h]
    .simp only[Qd h];by_cases c:b[j]'Aa=s;·simp only[Qm c]
     .simp only[Qd c,QH]
def Ey (so nu:Int) (tx:ZB) {d:List (T n)} {u V:Nat} (x:ZB) (h1:cR S w NA (A na la nac)) (h2:dn S w (b8 S w n) d (A ka V u)) (hB:Bd S w)
  (aC:J NA=la) (aF:J d=V) (ah:la=V) (bb:la<=139) (zz:∀s,s∈NA->s.size<=8) :
  WU WV 89 #[Uy so nu tx na la nac ka V u,Zt x] w (Bo S (n+1) (⟨5,0,WT,(ft x NA d).1,(ft x NA d).2⟩:F (T n)) w):=by
 have⟨h,r⟩:=fk (((w.alloc (UA so nu tx na la nac ka V u)).alloc d8).alloc (Zc #[I U 5,I U 0,Zt ⟨#[]⟩,A Y 0 0,A Y 0 0] 31));have zw:Bw w h:=by rw[r];exact ((eC _ _).alloc zS _).alloc zE _
 have aj:h.heap.size=w.heap.size+3:=by rw[r];simp
 have⟨X,hX⟩:=fk (w.heap.size+1+1);have aI:h.heap[w.heap.size]?=Z (Zc (Uz so nu tx na la nac ka V u) 31 (0,0)):=by rw[r,Qf _ _ _ zE,Qf _ _ _ zS];exact Qh _ _
 have aJ:h.heap[w.heap.size+1]?=Z d8:=by have:=Qh (w.alloc (UA so nu tx na la nac ka V u)) d8;rw[r,Qf _ _ _ zS];exact iG
 have aK:h.heap[X]?=Z (Zc #[I U 5,I U 0,Zt ⟨#[]⟩,A Y 0 0,A Y 0 0] 31 (0,0)):=by have:=Qh ((w.alloc (UA so nu tx na la nac ka V u)).alloc d8) (Zc #[I U 5,I U 0,Zt ⟨#[]⟩,A Y 0 0,A Y 0 0] 31);rw[r,hX];exact iG
 have bd:=Wh hX.symm;have be:=Wh hX;have bj:=Wh aj.symm;have bk:=Wh aj;have ar:G (∀b,S b->b<h.heap.size/\b≠X):=λb hb=>by have:=hB b hb;exact E
 have vW:∀W,cH X h W->∀b,S b->W.heap[b]?=w.heap[b]?:=λW hW b hb=>by have:=hB b hb;exact (hW.block b E E).trans (zw.block b this)
 have al:G (∀W,cH X h W->(a7 W w.heap.size 3=Z (A na la nac)/\a7 W w.heap.size 4=Z (A ka V u))/\W.heap[w.heap.size+1]?=Z d8):=λW hW=>by have e1:=(hW.block w.heap.size E E).trans aI;have e2:=(hW.block (w.heap.size+1) E E).trans aJ;exact⟨⟨iM e1 3 D,iM e1 4 D⟩,e2⟩
 have aR:G (∀i (hi:i<J NA),(∃p q,na=b5 p q/\∀W,cH X h W->a7 W p (q+i)=Z (Zt NA[i]))/\NA[i].size<=10000):=λi hi=>by exact Ys
 have aQ:G (∀i (hi:i<J d),∃p q u0 u1 u2 ua ul uc ta tl tc,ka=b5 p q/\∀W,cH X h W->(Q5 W p (q+i*5) u0 u1 u2 ua ul uc ta tl tc)/\b8 S W n d[i] (I U u0) (I U u1) (Zt u2) (A ua ul uc) (A ta tl tc)):=λi hi=>by exact qcV
 have q6:G (∀(W:Zw)(ns:List ZB)(ks:List (T n))(nv kv:Zv),fq S X n h W 5 ns ks nv kv->J ns<=139->J ks<=139->Bo S (n+1) (⟨5,0,WT,ns,ks⟩:F (T n)) w (Zr (Za #[I U 5,I U 0,Zt ⟨#[]⟩,nv,kv])) (eF W (w.heap.size+1) 0 (I U 5) (I U 0) (Zt ⟨#[]⟩) nv kv)):=λW ns ks nv kv hG hn hk=>by exact Ym
 have aS:=a8 aK;have HC:=a8 (Ky x NA d);have aP:=a8 (λj=>NL x (NA.take j) (d.take j));have q5:G (ft x NA d=ft x (NA.take la) (d.take la)):=by show _=_;rw[Xf E,Xf E]
 have aq:G (J NA=la/\J d=V):=⟨aC,aF⟩;have aZ:=Wh ah;have ba:=Wh ah.symm;have⟨aW,L,O,P,Q⟩:=QY Tryz.info_treeX;have q7:G (_/\_/\_/\_):=⟨L,O,P,Q⟩;clear L O P Q;have⟨aX,L,O,P,Q⟩:=QY Tryz.info_strD;have j0:G (_/\_/\_/\_):=⟨L,O,P,Q⟩;rw[q5.out];clear L O P Q h1 h2 hB zz aj aI aJ aK zw vW aC aF ah q5;go_in;go_wp2_with fail;rw[<- r,<- hX];clear r hX;go_loopw [6] (λiv wr=>∃(j:Nat)(an:ZA)(m:Nat)(qa:ZA)(l:Nat),j<=la/\iv=I U j/\fq S X n h wr 5 (ft x (NA.take j) (d.take j)).1 (ft x (NA.take j) (d.take j)).2 (A an (J (ft x (NA.take j) (d.take j)).1) m) (A qa (J (ft x (NA.take j) (d.take j)).1) l)) (λiv _=>la-(intOf iv).toNat);case atStart=>exact⟨0,Y,0,Y,0,E,D,fq.start aS⟩
 case round=>
  obtain⟨j,an,m,qa,l,hj,rfl,hG⟩:=hrel;have af:=aP.out j;have aH:J (NA.take j)<=j:=rd;have⟨⟨y1,y2⟩,R⟩:=al.out wr hG.near;by_cases bg:j<la
  .have aw:j<J NA:=by have:=aq.1;omega
   have av:j<J d:=by have:=aq.2;omega
   have z:=a8 (HC j aw av);obtain⟨⟨np,nq,rfl,ag⟩,aG⟩:=aR.out j aw;have fN:=ag _ hG.near;have bf:(j:Int)<(la:Int):=E;have bh:(j:Int)<(V:Int):=E;obtain⟨acc,qq⟩:∃acc,ft x (NA.take j) (d.take j)=acc:=⟨_,D⟩;rw[qq]at hG af z;obtain⟨f,M⟩:∃f,J acc.1=f:=⟨_,D⟩;have q9:G (J acc.1=f/\J acc.2=f):=⟨M,E⟩;rw[M]at hG;have aY:f<=139:=E;clear qq M af aH;by_cases hx:NA[j]=x
   .have C:G (ft x (NA.take (j+1)) (d.take (j+1))=acc):=by show _=_;rw[z.out,Qm hx]
    have aV:(x.toList==x.toList)=true:=zS;rw[hx]at fN;have HG:=QJ hG;clear hG hx z ag R aG;go_wp2;go_roundw;case rel=>exact⟨j+1,an,m,qa,l,E,ew,by rw[C.out,q9.1];exact HG⟩
    case measure=>exact eb
   .have C:G (ft x (NA.take (j+1)) (d.take (j+1))=(acc.1++[NA[j]],acc.2++[d[j]])):=by show _=_;rw[z.out,Qd hx]
    have aV:(NA[j].toList==x.toList)=false:=by rw[Q6];intro e;exact hx (by rw[QI,QI]at e;exact ZE e)
    have aT:=aQ.out j av;generalize d[j]=kx at *;generalize NA[j]=nm at *;have⟨V1,ax⟩:=fk wr;rw[<- ax]at hG fN y1 y2 R ⊢;have x1:=iM hG.box 3 D;have ae:G (V1.ownsRow h.heap.size 9 1 (A an f m) f (acc.1.map Zt)):=by have:=hG.q;rw[q9.1]at this;exact this
    have ac:∀o,(V1.drew.alloc o).ownsRow h.heap.size 9 1 (A an f m) f (acc.1.map Zt):=λo=>ae.drew.alloc o;have az:=hG.lt;have bl:=hG.near.size;have ad:=QJ hG;clear hG ax hx z ag R;go_upto_region 6 with fail;go_cut [6] from 8 to 41 (λiv wx=>iv=I U j/\∃g cap,fq S X n h wx 5 (acc.1++[nm]) acc.2 (A (b5 g 0) (f+1) cap) (A qa f l));case first=>
     go_region_law (first
      | (refine Xd _ cU (.tmp 23) (.tmp 29) 23 cU h.heap.size 9 aX _ 1 16 underlying23 j0.1 j0.2.1 j0.2.2.1 j0.2.2.2 D zC (A an f m) f (acc.1.map Zt) cU (ac _) ⟨V1.heap.size,0,Y⟩ 1 1 [Zt nm] cU D (QB (Qh V1.drew _)) iz zC fA E zE (V1.heap.size+1) zS ?_;intro g cap v3 aa t aA aE;have qt:=((t.block X zE (λe=>by have:=cO ae.out _ e.symm;omega)).trans (Qf _ _ _ (by simpa using az))).trans ad.box;have aL:a7 v3 X 3=Z (A an f m):=rf;have aN:v3.frozen? ⟨X,3,Y⟩=false:=rg))
     all_goals
      have c:=fq.name (Wa:=V1.drew.alloc (Zc #[Zt nm] 9)) (one:=Zc #[Zt nm] 9) (x:=nm) (g:=g) (cap:=cap) ad ar E D ⟨D,D,D⟩ aG (by rw[q9.1];exact aa) t aA
      rw[q9.1]at c
      have y:=QJ c
      clear c aa t aA aE qt aL aN x1 fN
      go_wp2
      go_meet
      exact⟨D,_,_,y⟩
    case rest=>
     obtain⟨rfl,g,cap,c⟩:=hcut;have⟨j2,ay⟩:=fk wc;rw[<- ay]at c ⊢;clear ay y1 y2 x1 fN;have bi:=c.near.size;obtain⟨⟨y1,y2⟩,-⟩:=al.out j2 c.near;obtain⟨kp,kq,u0,u1,u2,ua,ul,uc,ta,tl,tc,rfl,au⟩:=aT;have⟨⟨q0,q1,q2,q3,q4⟩,q8⟩:=au j2 c.near;have⟨xs,ai,ql⟩:=c.o;have ap:=QJ ql;have HX:G (j2.ownsRow h.heap.size 31 5 (A qa f l) f xs):=by rw[q9.2]at ai;exact ai
     have ab:∀o,(j2.drew.alloc o).ownsRow h.heap.size 31 5 (A qa f l) f xs:=λo=>HX.drew.alloc o;have x2:=iM c.box 4 D;have aU:=c.lt;have y:=QJ c;have am:=QJ q8;clear c q8 au ai ql ae ac ad az;go_wp2_with fail;go_region_law (first
      | (refine Xd _ cU (.tmp 33) (.tmp 39) 29 cU h.heap.size 31 aW _ 5 80 underlying29 q7.1 q7.2.1 q7.2.2.1 q7.2.2.2 D zC (A qa f l) f xs cU (ab _) ⟨j2.heap.size,0,Y⟩ 1 1 [I U u0,I U u1,Zt u2,A ua ul uc,A ta tl tc] cU D (QB (Qh j2.drew _)) iz zC fA E zE (j2.heap.size+1) zS ?_;intro g2 K v3 N k qc aD;have js:=((k.block X zE JO).trans (Qf _ _ _ (by simpa using aU))).trans y.box;have aM:a7 v3 X 4=Z (A qa f l):=sW;have aO:v3.frozen? ⟨X,4,Y⟩=false:=sX))
     all_goals
      have hF:=fq.kid (Wa:=j2.drew.alloc (UA u0 u1 u2 ua ul uc ta tl tc)) (one:=UA u0 u1 u2 ua ul uc ta tl tc) (g:=g2) (cap:=K) (xs:=xs) y ar E am D ⟨D,D,D⟩ (by rw[q9.2];exact HX) ap (by rw[q9.2];exact N) k qc
      rw[q9.2]at hF
      have HF:=QJ hF
      clear hF N k qc aD aM aO js x2 ab ap HX y am
      go_wp2
      go_roundw
      case rel=>
       refine⟨j+1,b5 g 0,cap,b5 g2 0,K,E,ew,?_⟩
       rw[C.out]
       show fq S X n h _ 5 (acc.1++[nm]) (acc.2++[kx]) (A _ (J (acc.1++[nm])) cap) (A _ (J (acc.1++[nm])) K)
       rw[show J (acc.1++[nm])=f+1 by rw[Qi,q9.1];rfl]
       exact HF
      case measure=>exact eb
  .have aB:j=la:=E;have bc:¬(j:Int)<(la:Int):=E;have M:J (ft x (NA.take j) (d.take j)).1<=139:=E;have HF:=QJ (q6 _ _ _ _ _ hG M E);obtain⟨⟨p0,p1,p2,p3,p4⟩,-⟩:=cI hG.box;have⟨⟨r0,r1,r2,r3,r4⟩,f0,f1,f2,f3,f4⟩:=cI R;generalize J (ft x (NA.take j) (d.take j)).1=f at *;rw[aB]at HF;clear hG af aB R aH q6;exact sj
def dZ(S:ZN)(w:Zw)(op b:Int)(c:ZB)(d g:ZA)(f e i h:Nat)(a:Zv)(r:Except Int V6):Prop:=
 WU WV 56 #[Uy op b c d f e g i h,a] w (gG S w r)
structure Ge(w W:Zw)(op x1:Int)(x2:ZB)(xa ya:ZA)(xl xc yl yc:Nat):Prop where
 is:W=(w.alloc (UB op x1 x2 xa xl xc ya yl yc)).alloc d8
 bw:Bw w W
 zero:W.heap[w.heap.size+1]?=Z d8
 node:W.heap[w.heap.size]?=Z (Zc (Uz op x1 x2 xa xl xc ya yl yc) 38 (0,0))
def iC(w:Zw)(op a:Int)(b:ZB)(c f:ZA)(e d h g:Nat):∃W,Ge w W op a b c f e d h g:=by
 refine⟨_,D,(eC _ _).alloc zS _,?_,?_⟩;·have:=Qh (w.alloc (UB op a b c e d f h g)) d8;exact iG
 .rw[Qf _ _ _ zS];exact Qh _ _
def Ge.low{op:Int}(h:Ge w W op x1 x2 xa ya xl xc yl yc):∀V,Bw W V->∀b,b<=w.heap.size->V.heap[b]?=W.heap[b]?:=λV a b c=>a.block b (by have:=(Qe.1 h.zero).1;omega)
def Ge.lowp{op:Int}(h:Ge w W op x1 x2 xa ya xl xc yl yc):∀(V:Zw)(z0 i:Int)(j:ZB)(d g:ZA)(f e sl sc:Nat),Bw W V->∀b,b<=w.heap.size->(dN V (w.heap.size+1) z0 i j d g f e sl sc).heap[b]?=W.heap[b]?:=λV _ _ _ _ _ _ _ _ _ a b c=>(dt E).trans (h.low V a b c)
def oK(h:V.heap[p]?=W.heap[p]?):∀o,a7 V p o=a7 W p o:=λo=>Ql (a:=⟨p,o,Y⟩) h
def Ge.pass {op:Int} (h:Ge w W op x1 x2 xa ya xl xc yl yc) (p:Bd S w) {r:Except Int V6} (k:Bw W V) (hp:gG (λb=>Ov S w.heap.size (Z (w.heap.size+1)) V b) V r e w2) :
  ∃z0 i j a g f d sl sc c,e=fT z0 i j a g f d sl sc c/\w2.heap[w.heap.size+1]?=Z d8/\gG S w r e (dN w2 (w.heap.size+1) z0 i j a g f d sl sc):=by have l:=h.bw.trans (k.mono h.bw.size);have s:=(Qe.1 h.zero).1;have t:=k.size;obtain⟨z0,i,j,a,g,f,d,sl,sc,c,m,n,-,o⟩:=hp.pass p l (WR _) E λb q=>q;exact⟨z0,i,j,a,g,f,d,sl,sc,c,m,dy (dy h.zero k) n,o⟩
def CR(d:Bd S w)(op:Int)(g j:ZA)(i h l k:Nat)(m:ZA)(o n:Nat)(c:op=1∨op=2∨op=3)(e:(Ud U x1).wf=true)(f:x2.size<=WX):dZ S w op x1 x2 g j i h l k (A m o n) (.ok (fR op x1 x2)):=by
 have⟨W,a⟩:=iC w op x1 x2 g j i h l k;have b:=a.is;have⟨⟨r0,r1,r2,r3,r4⟩,f0,f1,f2,f3,f4⟩:=cI a.zero;have⟨p,q,r,s,t⟩:=cP a.node;have HF:=a8 (km d a.bw (WR _) (mm (iX op E E) e f));clear a d e f;unfold dZ;rcases c with rfl|rfl|rfl;all_goals
  go_in
  go_upto_region 1 with fail
  rw[<- b]
  clear b
  go_wp2_with fail
  refine XQ (v:=Zu #[Uy _ x1 x2 Y 0 0 Y 0 0,I U 0]) (by simp[results,results56,go_sem,r0,r1,r2,r3,r4];rfl) D ?_
  exact HF
def I0(d:Bd S w)(op e:Int)(f:ZB)(g j:ZA)(i h l k:Nat)(m:ZA)(o n:Nat)(s:Int)(c:(op=5/\s=6)∨(op=6/\s=4)):dZ S w op e f g j i h l k (A m o n) (.ok (fR s 0 WT)):=by
 have⟨W,a⟩:=iC w op e f g j i h l k;have b:=a.is;have⟨⟨r0,r1,r2,r3,r4⟩,f0,f1,f2,f3,f4⟩:=cI a.zero;have⟨p,q,r,t,u⟩:=cP a.node;have HF:G (gG S w (.ok (fR s 0 WT)) (fT s 0 ⟨#[]⟩ Y Y 0 0 0 0 0) (dN W (w.heap.size+1) s 0 ⟨#[]⟩ Y Y 0 0 0 0)):=km d a.bw E (mm (iX s E E) D gO);clear a d;unfold dZ;rcases c with ⟨rfl,rfl⟩|⟨rfl,rfl⟩;all_goals
  go_in
  go_upto_region 1 with fail
  rw[<- b]
  clear b
  go_wp2_with fail
  refine XQ (v:=Zu #[Za #[I U _,I U 0,Zt ⟨#[]⟩,A Y 0 0,A Y 0 0],I U 0]) (by simp[results,results56,go_sem,r0,r1,r2,r3,r4];rfl) D ?_
  exact HF
def IZ(S:ZN)(w:Zw)(g:Bd S w)(op u:Int)(v:ZB)(x B:ZA)(z y K C:Nat)(k:ZA)(l m:Nat)(i:List V6)(p:dn S w (b8 S w 6) i (A k m l))(a:gQ (A k m l))(s:Int)(j:(op=7/\s=6)∨(op=8/\s=4)):dZ S w op u v x B z y K C (A k m l) (eu (fd s 0 WT [] i)):=by
 have⟨W,d⟩:=iC w op u v x B z y K C;have f:=d.is;have⟨L,M,N,O,P⟩:=cP d.node;have o:=a8 (lv (λb=>Ov S w.heap.size (Z (w.heap.size+1)) W b) (fd s 0 WT [] i) _ _ _ _ _ W ⟨D,D,D,Q9 _,iX s E E,D,lz,(p.keepN (b6 d.bw g) zI).keepN ik λ_ h=>.inl h,k8,a⟩ (Ov.lt g d.bw.size));have HP:=a8 (λ(e:Ending) (n:Zw)=>d.pass (S:=S) (r:=eu (fd s 0 WT [] i)) (e:=e) (w2:=n) g (Qg _ _));clear d g p a;unfold dZ;rcases j with ⟨rfl,rfl⟩|⟨rfl,rfl⟩;all_goals
  go_in
  go_upto_region 1 with fail
  rw[<- f]
  clear f
  go_wp2_with fail
  refine H o ?_
  intro e n hp
  obtain⟨z0,X,F,Q,V,T,R,sl,sc,c,rfl,t,q⟩:=HP.out _ _ hp
  have⟨⟨r0,r1,r2,r3,r4⟩,f0,f1,f2,f3,f4⟩:=cI t
  have HQ:=a8 q
  clear t q hp o HP
  exact nX
def Ri(S:ZN)(w:Zw)(p q h:Nat)(i:V6)(a0 a:Int)(b:ZB)(c ad:ZA)(f d g e:Nat):Prop:=
 S p/\h=1/\((Q5 w p q a0 a b c f d ad g e))/\b8 S w 6 i (I U a0) (I U a) (Zt b) (A c f d) (A ad g e)
def tE{s:V6}(h:dn S w (b8 S w 6) [s] kv):∃p q y a0 d e f ad o g r i,kv=A (b5 p q) 1 y/\Ri S w p q 1 s a0 d e f ad o g r i:=by obtain⟨z,cap,x,N,v⟩:=h;have⟨b,off,t,u,a⟩:=v zS;have⟨B,C,K,L,M,j,k,l,m,n,c⟩:=a 0 zS;obtain⟨a0,d,e,f,o,g,ad,r,i,rfl,rfl,rfl,rfl,rfl⟩:=c.shape;subst t;refine⟨b,off,cap,a0,d,e,f,ad,o,g,r,i,x,u,D,⟨by simpa using j,by simpa using k,by simpa using l,by simpa using m,by simpa using n⟩,by simpa using c⟩
def Ri.keep{d:V6}(h:Ri S w p q kl d a0 a1 a2 aa ad al ac am ae)(a:Bw w V)(c:Bd S w):Ri S V p q kl d a0 a1 a2 aa ad al ac am ae:=by obtain⟨hp,l,k,m⟩:=h;have b:=c p hp;have n:=b6 a c;obtain⟨e,f,g,i,j⟩:=k;exact⟨hp,l,⟨kC a e b,kC a f b,kC a g b,kC a i b,kC a j b⟩,m.keep n zI⟩
def Ni(S:ZN)(w:Zw)(p q o:Nat)(r:V6)(s:V6)(a0 a:Int)(b:ZB)(c ad:ZA)(f d g e:Nat)(h b1:Int)(i:ZB)(j k:ZA)(m bc n l:Nat):Prop:=
 S p/\o=2/\((Q5 w p q a0 a b c f d ad g e)/\(Q5 w p (q+5) h b1 i j m bc k n l))/\b8 S w 6 r (I U a0) (I U a) (Zt b) (A c f d) (A ad g e)/\b8 S w 6 s (I U h) (I U b1) (Zt i) (A j m bc) (A k n l)
def tF{P Q:V6}(h:dn S w (b8 S w 6) [P,Q] kv):∃p q qa a0 e f g ad r i s j t u v x y N bc O z,kv=A (b5 p q) 2 qa/\Ni S w p q 2 P Q a0 e f g ad r i s j t u v x y N bc O z:=by obtain⟨q5,cap,F,E,ql⟩:=h;have⟨b,off,qc,qq,a⟩:=ql zS;have⟨R,T,V,W,X,k,l,m,n,o,c⟩:=a 0 zS;obtain⟨a0,e,f,g,r,i,ad,s,j,rfl,rfl,rfl,rfl,rfl⟩:=c.shape;have⟨R,T,V,W,X,B,C,K,L,M,d⟩:=a 1 zS;obtain⟨t,u,v,x,N,bc,y,O,z,rfl,rfl,rfl,rfl,rfl⟩:=d.shape;subst qc;refine⟨b,off,cap,a0,e,f,g,ad,r,i,s,j,t,u,v,x,y,N,bc,O,z,F,qq,D,⟨⟨by simpa using k,by simpa using l,by simpa using m,by simpa using n,by simpa using o⟩,⟨by simpa using B,by simpa using C,by simpa using K,by simpa using L,by simpa using M⟩⟩,by simpa using c,by simpa using d⟩
def Ni.keep{e f:V6}(h:Ni S w p q kl e f a0 a1 a2 aa ad al ac am ae b0 b1 b2 ba bd bl bc bm be)(a:Bw w V)(c:Bd S w):Ni S V p q kl e f a0 a1 a2 aa ad al ac am ae b0 b1 b2 ba bd bl bc bm be:=by obtain⟨hp,r,o,s⟩:=h;have b:=c p hp;have d:=b6 a c;have⟨⟨⟨g,i,j,k,l⟩,f0,f1,f2,f3,f4⟩,m,n⟩:=And.intro o s;exact⟨hp,r,⟨⟨kC a g b,kC a i b,kC a j b,kC a k b,kC a l b⟩,kC a f0 b,kC a f1 b,kC a f2 b,kC a f3 b,kC a f4 b⟩,m.keep d zI,n.keep d zI⟩
def Kx3(S:ZN)(w:Zw)(p q u:Nat)(v:V6)(x:V6)(y:V6)(a0 a:Int)(b:ZB)(c ad:ZA)(f d g e:Nat)(h b1:Int)(i:ZB)(j k:ZA)(m bc n l:Nat)(c0 c1:Int)(c2:ZB)(ca cd:ZA)(s o t r:Nat):Prop:=
 S p/\u=3/\((Q5 w p q a0 a b c f d ad g e)/\(Q5 w p (q+5) h b1 i j m bc k n l)/\(Q5 w p (q+10) c0 c1 c2 ca s o cd t r))/\b8 S w 6 v (I U a0) (I U a) (Zt b) (A c f d) (A ad g e)/\b8 S w 6 x (I U h) (I U b1) (Zt i) (A j m bc) (A k n l)/\b8 S w 6 y (I U c0) (I U c1) (Zt c2) (A ca s o) (A cd t r)
def qaH{qc q6 E:V6}(h:dn S w (b8 S w 6) [qc,q6,E] kv):∃p q kc a0 f g i ad s j t k u v x y z O bc P B c0 c1 c2 ca cd q8 Q q7 R,kv=A (b5 p q) 3 kc/\Kx3 S w p q 3 qc q6 E a0 f g i ad s j t k u v x y z O bc P B c0 c1 c2 ca cd q8 Q q7 R:=by obtain⟨ao,cap,hv,hl,hc⟩:=h;have⟨b,off,ha,hb,a⟩:=hc zS;have⟨ql,qq,q9,qa,F,l,m,n,o,r,c⟩:=a 0 zS;obtain⟨a0,f,g,i,s,j,ad,t,k,rfl,rfl,rfl,rfl,rfl⟩:=c.shape;have⟨ql,qq,q9,qa,F,C,K,L,M,N,d⟩:=a 1 zS;obtain⟨u,v,x,y,O,bc,z,P,B,rfl,rfl,rfl,rfl,rfl⟩:=d.shape;have⟨ql,qq,q9,qa,F,T,V,W,X,q5,e⟩:=a 2 zS;obtain⟨c0,c1,c2,ca,q8,Q,cd,q7,R,rfl,rfl,rfl,rfl,rfl⟩:=e.shape;subst ha;refine⟨b,off,cap,a0,f,g,i,ad,s,j,t,k,u,v,x,y,z,O,bc,P,B,c0,c1,c2,ca,cd,q8,Q,q7,R,hv,hb,D,⟨⟨by simpa using l,by simpa using m,by simpa using n,by simpa using o,by simpa using r⟩,⟨by simpa using C,by simpa using K,by simpa using L,by simpa using M,by simpa using N⟩,⟨by simpa using T,by simpa using V,by simpa using W,by simpa using X,by simpa using q5⟩⟩,by simpa using c,by simpa using d,by simpa using e⟩
def Kx3.keep{j k l:V6}{c0 c1:Int}{c2:ZB}{ca cd:ZA}{f d g e:Nat}(h:Kx3 S w p q kl j k l a0 a1 a2 aa ad al ac am ae b0 b1 b2 ba bd bl bc bm be c0 c1 c2 ca cd f d g e)(a:Bw w V)(i:Bd S w):Kx3 S V p q kl j k l a0 a1 a2 aa ad al ac am ae b0 b1 b2 ba bd bl bc bm be c0 c1 c2 ca cd f d g e:=by obtain⟨hp,L,K,M⟩:=h;have b:=i p hp;have c:=b6 a i;have⟨⟨⟨m,n,o,r,s⟩,⟨f0,f1,f2,f3,f4⟩,t,u,v,x,y⟩,z,B,C⟩:=And.intro K M;exact⟨hp,L,⟨⟨kC a m b,kC a n b,kC a o b,kC a r b,kC a s b⟩,⟨kC a f0 b,kC a f1 b,kC a f2 b,kC a f3 b,kC a f4 b⟩,kC a t b,kC a u b,kC a v b,kC a x b,kC a y b⟩,z.keep c zI,B.keep c zI,C.keep c zI⟩
def RG(g:Bd S w){op:Int}(y:Int)(z:ZB)(B M:ZA)(L C O N:Nat)(kc:Nat){o r:V6}(hk:Ni S w p q 2 o r a0 a1 a2 aa ad al ac am ae b0 b1 b2 ba bd bl bc bm be)(n:op=9∨op=10∨op=11∨op=12∨op=13)(d : -999999999<=F.n o/\F.n o<=999999999)(f : -999999999<=F.n r/\F.n r<=999999999):dZ S w op y z B M L C O N (A (b5 p q) 2 kc) (mC op (F.n o) (F.n r)):=by
 have⟨W,hW⟩:=iC w op y z B M L C O N;have j:=hW.is;have jS:=hk.keep hW.bw g;have q6:=g p hk.1;have T:=fP g hW.bw.size;have s:G (∀V:Zw,(∀b,b<=w.heap.size->V.heap[b]?=W.heap[b]?)->(Q5 V p q a0 a1 a2 aa al ac ad am ae)/\(Q5 V p (q+5) b0 b1 b2 ba bl bc bd bm be)/\N5 V w.heap.size op y z B L C M O N):=λV hV=>by exact Pq
 have q8:=a8 hW.low;have R:=a8 hW.lowp;have k:a1=F.n o:=by have:=hk.2.2.2.1.2.1;injection this
 have l:b1=F.n r:=MN;rw[<- k]at d ⊢;rw[<- l]at f ⊢;clear k l;have j0:G (∀V,Bw W V->WU WV 82 #[I U op,I U a1,I U b1] V λe h=>Bw W h/\∃z0 P Q t x v u sl sc c,e=fT z0 P Q t x v u sl sc c/\h.heap[w.heap.size+1]?=Z d8/\gG S w (mC op a1 b1) e (dN h (w.heap.size+1) z0 P Q t x v u sl sc)):=λV hV=>by refine (EE (Ov.lt g (hW.bw.trans (hV.mono hW.bw.size)).size) d f n).mono λe h hp=>⟨hV.trans (hp.1.mono hV.size),hW.pass g hV hp⟩
 have⟨⟨qa,ql,D,q7,qc⟩,⟨ab,af,ag,ah,ai⟩,n0,n1,n2,n3,n4⟩:=s.out W zS;have m:Bw W W.drew:=(Qg _ _).drew;clear hW g hk jS T q6;unfold dZ;clear d f;rcases n with rfl|rfl|rfl|rfl|rfl;all_goals
  go_in
  go_upto_region 1 with fail
  rw[<- j]
  clear j
  go_upto_region 21 with fail
  refine Qz (S:=λq9=>(Q5 q9 p q a0 a1 a2 aa al ac ad am ae)/\(Q5 q9 p (q+5) b0 b1 b2 ba bl bc bd bm be)/\N5 q9 w.heap.size _ y z B L C M O N) zK (s _ (q8 _ m)) (λhHeld=>?_)
  generalize W.drew=X at *
  have hX:=m
  refine t4 0 1 2 3 ?_
  refine t4 4 5 6 7 ?_
  refine t2 8 9 ?_
  refine ic 10 λK hK=>?_
  go_simp
  go_at_call 82
  refine H (j0 _ hX) ?_
  intro e h hp
  obtain⟨a,z0,P,Q,t,x,v,u,sl,sc,c,rfl,q5,qq⟩:=hp
  have⟨⟨r0,r1,r2,r3,r4⟩,f0,f1,f2,f3,f4⟩:=cI q5
  have HQ:=a8 qq
  have i:=a8 (R h z0 P Q t x v u sl sc a)
  refine hK.out _ _ (s _ (q8 _ a)) (λhHeld=>?_)
  clear hK K q5 qq a
  refine t2 11 12 ?_
  refine qk 13 ?_ λhHeld=>?_
  exact s _ i
  clear i
  refine tk 14 ?_
  exact Ef
def Y3(a:Bd S w)(l:Int)(m:ZB)(n s:ZA)(r o u t:Nat)(N:Nat){k:V6}(g:Ri S w p q 1 k a0 a1 a2 aa ad al ac am ae):dZ S w 18 l m n s r o u t (A (b5 p q) 1 N) (.ok (lO (F.n k==0))):=by
 have⟨W,hW⟩:=iC w 18 l m n s r o u t;have d:=hW.is;have jS:=g.keep hW.bw a;have j:=a p g.1;have i:=fP a hW.bw.size;have y:G (∀V:Zw,(∀b,b<=w.heap.size->V.heap[b]?=W.heap[b]?)->(Q5 V p q a0 a1 a2 aa al ac ad am ae)/\N5 V w.heap.size 18 l m n r o s u t):=λV hV=>by exact PA
 have O:=a8 hW.low;have v:=a8 hW.lowp;have f:a1=F.n k:=by have:=g.2.2.2.2.1;injection this
 rw[<- f];clear f;have x:G (∀V,Bw W V->WU WV 83 #[Zb (a1==0)] V λe w2=>Bw W w2/\∃z0 z1 z2 ra sa rl rc sl sc c,e=fT z0 z1 z2 ra sa rl rc sl sc c/\w2.heap[w.heap.size+1]?=Z d8/\gG S w (.ok (lO (a1==0))) e (dN w2 (w.heap.size+1) z0 z1 z2 ra sa rl rc sl sc)):=λV hV=>by refine (t8 (λb=>Ov S w.heap.size (Z (w.heap.size+1)) V b) (a1==0) V).mono λe w2 hp=>⟨hV.trans (hp.1.mono hV.size),hW.pass a hV hp⟩
 have h:=x.out W (Qg _ _);have⟨⟨z,B,C,K,L⟩,P,Q,R,n3,n4⟩:=y.out W zS;have M:Bw W W.drew:=(Qg _ _).drew;clear hW a g jS i j;unfold dZ;go_in;go_upto_region 1 with fail;rw[<- d];clear d;go_wp2_with fail;refine H h ?_;exact qbA
def YX(x y:List UInt8):((bs x).toList==(bs y).toList)=(x==y):=by rw[QI,QI,fG,fG]
def RA(hB:Bd S w)(x:Int)(y:ZB)(z L:ZA)(C B N M:Nat)(kc:Nat){n o:V6}(hk:Ni S w p q 2 n o a0 a1 a2 aa ad al ac am ae b0 b1 b2 ba bd bl bc bm be):dZ S w 14 x y z L C B N M (A (b5 p q) 2 kc) (.ok (lO (decide (F.n n<F.n o) || ij (F.a n) (F.a o)))):=by
 have⟨W,hW⟩:=iC w 14 x y z L C B N M;have i:=hW.is;have jS:=hk.keep hW.bw hB;have q7:=hB p hk.1;have R:=fP hB hW.bw.size;have r:G (∀V:Zw,(∀b,b<=w.heap.size->V.heap[b]?=W.heap[b]?)->(Q5 V p q a0 a1 a2 aa al ac ad am ae)/\(Q5 V p (q+5) b0 b1 b2 ba bl bc bd bm be)/\N5 V w.heap.size 14 x y z C B L N M):=λV hV=>by exact Pq
 have q9:=a8 hW.low;have Q:=a8 hW.lowp;have j:a1=F.n n:=by have:=hk.2.2.2.1.2.1;injection this
 have l:b1=F.n o:=MN;have k:a2=F.a n:=by have:=hk.2.2.2.1.2.2.1;injection this
 have a:b2=F.a o:=PE;rw[<- j,<- l,<- k,<- a];clear j l k a;have⟨bb,f⟩:=fk (decide (a1<b1) || ij a2 b2);rw[<- f];have j2:G (∀V,Bw W V->WU WV 83 #[Zb bb] V λe w2=>Bw W w2/\∃z0 O P s v u t sl sc c,e=fT z0 O P s v u t sl sc c/\w2.heap[w.heap.size+1]?=Z d8/\gG S w (.ok (lO bb)) e (dN w2 (w.heap.size+1) z0 O P s v u t sl sc)):=λV hV=>by exact T3
 have d:a1<b1/\bb=true∨¬a1<b1/\bb=ij a2 b2:=by
  rw[f];by_cases h:a1<b1;·exact zE
  .exact zE
 clear f;have⟨⟨qa,qq,qc,q8,ql⟩,⟨ab,af,ag,ah,ai⟩,n0,n1,n2,n3,n4⟩:=r.out W zS;have m:Bw W W.drew:=(Qg _ _).drew;clear hW hB hk jS R q7;unfold dZ;go_in;go_upto_region 1 with fail;rw[<- i];clear i;go_upto_region 23 with fail;refine Qz (S:=λj0=>(Q5 j0 p q a0 a1 a2 aa al ac ad am ae)/\(Q5 j0 p (q+5) b0 b1 b2 ba bl bc bd bm be)/\N5 j0 w.heap.size 14 x y z C B L N M) zK (r _ (q9 _ m)) (λhHeld=>?_);generalize W.drew=X at *;have hX:=m;rcases d with ⟨d,rfl⟩|⟨d,rfl⟩;have T:decide (a1<b1)=true:=by simp[d]
 refine t4 0 1 2 3 ?_;refine t4 4 5 6 7 ?_;refine t2 8 9 ?_;refine ts 10 ?_;refine ts 11 ?_;refine ts 12 ?_;refine ts 13 ?_;refine ts 14 ?_;refine ts 15 ?_;refine ts 16 ?_;refine ts 17 ?_;refine ts 18 ?_;refine tk 19 ?_;rotate_left;have T:decide (a1<b1)=false:=by simp[d]
 have aj:Op.bytesLess a2.toList b2.toList=ij a2 b2:=D;refine t4 0 1 2 3 ?_;refine t4 4 5 6 7 ?_;refine t4 8 9 10 11 ?_;refine t4 12 13 14 15 ?_;refine t4 16 17 18 19 ?_;all_goals
  refine ic 20 λK hK=>?_
  go_simp
  go_at_call 83
  refine H (j2 _ hX) ?_
  intro e w2 hp
  obtain⟨a,z0,O,P,s,v,u,t,sl,sc,c,rfl,q6,q5⟩:=hp
  have⟨⟨r0,r1,r2,r3,r4⟩,f0,f1,f2,f3,f4⟩:=cI q6
  have HQ:=a8 q5
  have g:=a8 (Q w2 z0 O P s v u t sl sc a)
  refine hK.out _ _ (r _ (q9 _ a)) (λhHeld=>?_)
  clear hK K q6 q5 a
  refine t2 21 22 ?_
  refine qk 23 ?_ λhHeld=>?_
  exact r _ g
  clear g
  refine tk 24 ?_
  exact Ef
def RD(hB:Bd S w)(C:Int)(L:ZB)(M P:ZA)(O N R Q:Nat)(kc:Nat){f g:V6}(t:Ni S w p q 2 f g a0 a1 a2 aa ad al ac am ae b0 b1 b2 ba bd bl bc bm be)(j:dB 6 f=true)(k:dB 6 g=true):dZ S w 15 C L M P O N R Q (A (b5 p q) 2 kc) (.ok (lO (cK 6 f==cK 6 g))):=by
 have⟨W,hW⟩:=iC w 15 C L M P O N R Q;have r:=hW.is;have jS:=t.keep hW.bw hB;have q9:=hB p t.1;have m:G (∀V:Zw,(∀b,b<=w.heap.size->V.heap[b]?=W.heap[b]?)->(Q5 V p q a0 a1 a2 aa al ac ad am ae)/\(Q5 V p (q+5) b0 b1 b2 ba bl bc bd bm be)/\N5 V w.heap.size 15 C L M O N P R Q):=λV hV=>by exact Pq
 have v:=a8 hW.low;have q8:=a8 hW.lowp;have q7:G (∀V,Bw W V->WU WV 74 #[Uy a0 a1 a2 aa al ac ad am ae] V λe l=>e=Zr (Zt (bs (cK 6 f)))/\Bw V l):=λV hV=>by have a:=hW.bw.trans (hV.mono hW.bw.size);exact n7 6 S f _ _ _ _ _ 1 V (t.2.2.2.1.tree.keep (b6 a hB) zI) (fP hB a.size) (dr j).1 (dr j).2
 have ql:G (∀V,Bw W V->WU WV 74 #[Uy b0 b1 b2 ba bl bc bd bm be] V λe l=>e=Zr (Zt (bs (cK 6 g)))/\Bw V l):=λV hV=>by have a:=hW.bw.trans (hV.mono hW.bw.size);exact n7 6 S g _ _ _ _ _ 1 V (t.2.2.2.2.tree.keep (b6 a hB) zI) (fP hB a.size) (dr k).1 (dr k).2
 have⟨bb,i⟩:=fk (cK 6 f==cK 6 g);rw[<- i];have D:G (∀V,Bw W V->WU WV 83 #[Zb bb] V λe w2=>Bw W w2/\∃z0 T q5 x B z y sl sc c,e=fT z0 T q5 x B z y sl sc c/\w2.heap[w.heap.size+1]?=Z d8/\gG S w (.ok (lO bb)) e (dN w2 (w.heap.size+1) z0 T q5 x B z y sl sc)):=λV hV=>by exact T3
 have ao:((bs (cK 6 f)).toList==(bs (cK 6 g)).toList)=bb:=by rw[YX,i]
 clear i j k;generalize bs (cK 6 f)=sx at *;generalize bs (cK 6 g)=sy at *;have⟨⟨q6,qc,ab,af,ag⟩,⟨ah,ai,aj,ak,an⟩,n0,n1,n2,n3,n4⟩:=m.out W zS;have s:Bw W W.drew:=(Qg _ _).drew;clear hW hB t jS q9;unfold dZ;go_in;go_upto_region 1 with fail;rw[<- r];clear r;go_upto_region 25 with fail;refine Qz (S:=λl=>(Q5 l p q a0 a1 a2 aa al ac ad am ae)/\(Q5 l p (q+5) b0 b1 b2 ba bl bc bd bm be)/\N5 l w.heap.size 15 C L M O N P R Q) zK (m _ (v _ s)) (λhHeld=>?_);generalize W.drew=X at *;have qq:=s;refine t4 0 1 2 4 ?_;refine t2 5 6 ?_;refine ic 3 λK hK=>?_;go_simp;go_at_call 74;refine H (q7 _ qq) ?_;rintro e V1 ⟨rfl,u⟩;have d:=qq.trans (u.mono qq.size);refine hK.out _ _ (m _ (v _ d)) (λhHeld=>?_);clear hK K u;refine ic 7 λK hK=>?_;go_simp;go_at_call 74;refine H (ql _ d) ?_;rintro e V2 ⟨rfl,u⟩;have o:=d.trans (u.mono d.size);refine hK.out _ _ (m _ (v _ o)) (λhHeld=>?_);clear hK K u;refine tk 8 ?_;refine ic 9 λK hK=>?_;go_simp;go_at_call 83;refine H (D _ o) ?_;intro e w2 hp;obtain⟨h,z0,T,q5,x,B,z,y,sl,sc,c,rfl,F,qa⟩:=hp;have⟨⟨r0,r1,r2,r3,r4⟩,f0,f1,f2,f3,f4⟩:=cI F;have HQ:=a8 qa;have n:=a8 (q8 w2 z0 T q5 x B z y sl sc h);refine hK.out _ _ (m _ (v _ h)) (λhHeld=>?_);clear hK K F qa h;refine t2 10 11 ?_;refine qk 12 ?_ λhHeld=>?_;exact m _ n;clear n;refine tk 13 ?_;exact Ef
def RF(d:Bd S w)(j:Int)(k:ZB)(l o:ZA)(n m s r:Nat)(Q:Nat){a:V6}(hk:Ri S w p q 1 a a0 a1 a2 aa ad al ac am ae)(t:J (F.o a)<=120)(v:(F.a a).size<=60):dZ S w 26 j k l o n m s r (A (b5 p q) 1 Q) (kf (J (F.o a)+(F.a a).size)):=by
 have⟨W,hW⟩:=iC w 26 j k l o n m s r;have f:=hW.is;have jS:=hk.keep hW.bw d;have u:=d p hk.1;have HS:G (∀V:Zw,(∀b,b<=w.heap.size->V.heap[b]?=W.heap[b]?)->(Q5 V p q a0 a1 a2 aa al ac ad am ae)/\N5 V w.heap.size 26 j k l n m o s r):=λV hV=>by exact PA
 have HL:=a8 hW.low;have jV:=a8 hW.lowp;have g:a2=F.a a:=MN;have h:am=J (F.o a):=by have⟨_,_,N,_⟩:=hk.2.2.2.2.2.2.2.2.2.2.1;injection N
 rw[<- h]at t ⊢;rw[<- g]at v ⊢;clear g h;have P:IntKind.i64.wrap ((am:Int)+(a2.size:Int))=(am:Int)+(a2.size:Int):=kG;have y:G (∀V,Bw W V->WU WV 84 #[I U ((am:Int)+(a2.size:Int))] V λe w2=>Bw W w2/\∃z0 z1 z2 ra sa rl rc sl sc c,e=fT z0 z1 z2 ra sa rl rc sl sc c/\w2.heap[w.heap.size+1]?=Z d8/\gG S w (kf ((am:Int)+(a2.size:Int))) e (dN w2 (w.heap.size+1) z0 z1 z2 ra sa rl rc sl sc)):=λV hV=>by refine (yh _ (Ov.lt d (hW.bw.trans (hV.mono hW.bw.size)).size)).mono λe w2 hp=>⟨hV.trans (hp.1.mono hV.size),hW.pass d hV hp⟩
 have⟨⟨z,B,C,L,M⟩,R,T,D,n3,n4⟩:=HS.out W zS;have i:Bw W W.drew:=(Qg _ _).drew;clear hW d hk jS u;unfold dZ;go_in;go_upto_region 1 with fail;rw[<- f];clear f;go_upto_region 29 with fail;refine Qz (S:=λx=>(Q5 x p q a0 a1 a2 aa al ac ad am ae)/\N5 x w.heap.size 26 j k l n m o s r) zK (HS _ (HL _ i)) (λhHeld=>?_);generalize W.drew=X at *;have O:=i;refine t4 0 1 2 3 ?_;refine t4 4 5 6 7 ?_;refine t2 8 9 ?_;refine tk 10 ?_;refine ic 11 λK hK=>?_;go_simp;go_at_call 84;refine H (y _ O) ?_;exact S0
def RE(j:Bd S w)(n:Int)(o:ZB)(r u:ZA)(t s x v:Nat)(R:Nat){i:V6}(k:Ri S w p q 1 i a0 a1 a2 aa ad al ac am ae)(a : -999999999<=F.n i/\F.n i<=999999999):dZ S w 29 n o r u t s x v (A (b5 p q) 1 R) (.ok (fR 2 0 (bs (W6 (F.n i))))):=by
 have⟨W,hW⟩:=iC w 29 n o r u t s x v;have c:=hW.is;have jS:=k.keep hW.bw j;have m:=j p k.1;have z:G (∀V:Zw,(∀b,b<=w.heap.size->V.heap[b]?=W.heap[b]?)->(Q5 V p q a0 a1 a2 aa al ac ad am ae)/\N5 V w.heap.size 29 n o r t s u x v):=λV hV=>by exact PA
 have K:=a8 hW.low;have l:=a8 hW.lowp;have d:a1=F.n i:=by have:=k.2.2.2.2.1;injection this
 rw[<- d]at a ⊢;clear d;have g:(bs (W6 a1)).size<=WX:=by have h:=BL a.1 a.2;simp only[eW,Qc,Qk]at h;have:=h.1;exact fA
 have y:=a8 (BO W a.1 a.2);generalize bs (W6 a1)=sx at *;have HF:G (∀V,Bw W V->V.heap[w.heap.size+1]?=Z d8/\gG S w (.ok (fR 2 0 sx)) (fT 2 0 sx Y Y 0 0 0 0 0) (dN V (w.heap.size+1) 2 0 sx Y Y 0 0 0 0)):=λV hV=>⟨dy hW.zero hV,km j (hW.bw.trans (hV.mono hW.bw.size)) E (mm zC D g)⟩;clear g a;have⟨⟨L,M,N,O,P⟩,X,qa,qc,n3,n4⟩:=z.out W zS;have Q:Bw W W.drew:=(Qg _ _).drew;clear hW j k jS m;unfold dZ;go_in;go_upto_region 1 with fail;rw[<- c];clear c;go_wp2_with fail;refine H y ?_;rintro e T ⟨rfl,f⟩;have⟨C,B⟩:=HF.out T f;have⟨⟨r0,r1,r2,r3,r4⟩,f0,f1,f2,f3,f4⟩:=cI C;have HQ:=a8 B;clear C B f y HF z K l;exact nX
def oy{α:Type}(s:ZB)(x:α)(a:List ZB)(b:List α)(j:Nat)(d:Bool)(N:List ZB)(Q:List α):Prop:=
 J N=J Q/\J N<=j+1/\(d=false->J N<=j/\N=a.take j/\Q=b.take j/\∀i (h:i<J a),i<j->ij a[i] s=true) /\
  (d=true->eH s x a b=(N++a.drop j,Q++b.drop j)/\∀i (h:i<J a),j<=i->a[i]≠s)
def oy.start(s:ZB)(x:α)(b:List ZB)(a:List α):oy s x b a 0 false [] []:=
 ⟨D,zS,zS,zS⟩
def oy.round {x:α} {c:List α} {d:Bool} {Q:List α} (h:oy s x NA c j d N Q) (L:J NA=J c) (C:DM NA) (r:j<J NA) (w:j<J c) :
  (¬(d=false/\ij NA[j] s=false)->NA[j]≠s/\oy s x NA c (j+1) d (N++[NA[j]]) (Q++[c[j]])) /\
  ((d=false/\ij NA[j] s=false)->(NA[j]=s->oy s x NA c (j+1) true (N++[s]) (Q++[x]))/\(NA[j]≠s->oy s x NA c (j+1) true ((N++[s])++[NA[j]]) ((Q++[x])++[c[j]]))):=by
 obtain⟨q,P,v,B⟩:=h;have m:=Qy r;have l:=Qy w;have g:∀i (h:i<J NA),j+1<=i->ij NA[j] NA[i]=true:=λi f K=>(X1.1 C) j i r f E;refine⟨λM=>?_,λO=>?_⟩
 .cases d with
  | false=>
   have⟨z,n,k,t⟩:=v D;have b:ij NA[j] s=true:=by
    cases hb:ij NA[j] s with
    | true=>rfl
    | false=>exact absurd ⟨D,hb⟩ M
   refine⟨Jl b,by simp[q],zE,λ_=>⟨zE,?_,?_,λi f a=>?_⟩,zS⟩;·rw[n,List.take_append_getElem r]
   .rw[k,List.take_append_getElem w]
   .by_cases e:i=j;·subst e;exact b
    .exact t i f E
  | true=>have⟨n,k⟩:=B D;refine⟨k j r E,by simp[q],zE,zS,λ_=>⟨?_,λi f a=>k i f E⟩⟩;rw[n,m,l,QZ,QZ];rfl
 .obtain⟨rfl,b⟩:=O;have⟨z,n,k,t⟩:=v D;have p:=pI s x NA c j L E t;have y:J N+1=J Q+1:=E;refine⟨λo=>?_,λu=>?_⟩
  .refine⟨by simp[q],zE,zS,λ_=>⟨?_,λi f a e=>?_⟩⟩;·rw[p,m,l,SH x _ _ _ o,<- n,<- k,QZ,QZ];rfl
   .have:=g i f a;rw[o,e,rz]at this;cases this
  .refine⟨by simp[q],zE,zS,λ_=>⟨?_,λi f a e=>?_⟩⟩;·rw[p,m,l,JA x _ _ _ (by rw[b];simp) u,<- n,<- k];exact dS
   .have:=g i f a;rw[e,b]at this;cases this
def oy.done {x:α} {a:List α} {d:Bool} {Q:List α} (h:oy s x NA a j d N Q) (e:J NA=J a) (m:j=J NA) :
  (d=true->eH s x NA a=(N,Q))/\(d=false->eH s x NA a=(N++[s],Q++[x])):=by
 subst m;obtain⟨p,q,k,l⟩:=h;refine⟨λc=>?_,λc=>?_⟩;·have:=(l c).1;rw[Zz,e,Zz,XF,XF]at this;exact this
 .have⟨o,f,g,i⟩:=k c;have b:=pI s x NA a (J NA) e E i;have n:a.drop (J NA)=[]:=by rw[e];exact zS
  rw[Zz,n,O2]at b;rw[b,f,g]
def iT{l:List α}(x:α)(h:J l=n):J (l++[x])=n+1:=by rw[Qi,h];rfl
def ED (so nu:Int) (tx:ZB) (q5:List (T n)) {qc:T n} (ka:ZA) (ah:Nat) (ma:Nat) {d0 d1:Int} {d2:ZB} {da ea:ZA} {dl dc el ec:Nat} (h1:cR S w NA (A na la nac)) (h2:dn S w (b8 S w n) q5 (A ka ma ah)) (h3:b8 S w n qc (I U d0) (I U d1) (Zt d2) (A da dl dc) (A ea el ec)) (hB:Bd S w)
  (bj:J NA=la) (bk:J q5=ma) (bB:la=ma) (bJ:la<=139) (zz:∀s,s∈NA->s.size<=8) (bo:x.size<=8) (aF:DM NA) :
  WU WV 87 #[Uy so nu tx na la nac ka ma ah,Zt x,Uy d0 d1 d2 da dl dc ea el ec] w (Bo S (n+1) (⟨5,0,WT,(eH x qc NA q5).1,(eH x qc NA q5).2⟩:F (T n)) w):=by
 have⟨u,ab⟩:=fk ((((w.alloc (UA so nu tx na la nac ka ma ah)).alloc (UA d0 d1 d2 da dl dc ea el ec)).alloc d8).alloc (Zc #[I U 5,I U 0,Zt ⟨#[]⟩,A Y 0 0,A Y 0 0] 31));have zw:Bw w u:=by rw[ab];exact (((eC _ _).alloc zS _).alloc zE _).alloc zE _
 have bE:u.heap.size=w.heap.size+4:=by rw[ab];simp
 have⟨X,hX⟩:=fk (w.heap.size+1+1+1);have bl:u.heap[w.heap.size]?=Z (Zc (Uz so nu tx na la nac ka ma ah) 31 (0,0)):=by rw[ab,Qf _ _ _ zE,Qf _ _ _ zE,Qf _ _ _ zS];exact Qh _ _
 have bp:u.heap[w.heap.size+1]?=Z (Zc (Uz d0 d1 d2 da dl dc ea el ec) 31 (0,0)):=by have:=Qh (w.alloc (UA so nu tx na la nac ka ma ah)) (UA d0 d1 d2 da dl dc ea el ec);rw[ab,Qf _ _ _ zS,Qf _ _ _ zS];exact iG
 have bm:u.heap[w.heap.size+1+1]?=Z d8:=by have:=Qh ((w.alloc (UA so nu tx na la nac ka ma ah)).alloc (UA d0 d1 d2 da dl dc ea el ec)) d8;rw[ab,Qf _ _ _ zS];exact iG
 have bn:u.heap[X]?=Z (Zc #[I U 5,I U 0,Zt ⟨#[]⟩,A Y 0 0,A Y 0 0] 31 (0,0)):=by have:=Qh (((w.alloc (UA so nu tx na la nac ka ma ah)).alloc (UA d0 d1 d2 da dl dc ea el ec)).alloc d8) (Zc #[I U 5,I U 0,Zt ⟨#[]⟩,A Y 0 0,A Y 0 0] 31);rw[ab,hX];exact iG
 have bL:w.heap.size+3<=X:=E;have bM:X<=w.heap.size+3:=E;have bT:w.heap.size+4<=u.heap.size:=E;have bU:u.heap.size<=w.heap.size+4:=E;have ar:G (∀b,S b->b<u.heap.size/\b≠X):=λb hb=>by have:=hB b hb;exact⟨E,E⟩
 have vW:∀W,cH X u W->∀b,S b->W.heap[b]?=w.heap[b]?:=λW hW b hb=>by have:=hB b hb;exact (hW.block b E E).trans (zw.block b this)
 have aD:G (∀W,cH X u W->(a7 W w.heap.size 3=Z (A na la nac)/\a7 W w.heap.size 4=Z (A ka ma ah))/\W.heap[w.heap.size+1+1]?=Z d8):=λW hW=>by have e1:=(hW.block w.heap.size E E).trans bl;have e2:=(hW.block (w.heap.size+1+1) E E).trans bm;exact⟨⟨iM e1 3 D,iM e1 4 D⟩,e2⟩
 have ba:G (∀W,cH X u W->(N5 W (w.heap.size+1) d0 d1 d2 da dl dc ea el ec)/\b8 S W n qc (I U d0) (I U d1) (Zt d2) (A da dl dc) (A ea el ec)):=λW hW=>by have e1:=(hW.block (w.heap.size+1) E E).trans bp;exact⟨⟨iM e1 0 D,iM e1 1 D,iM e1 2 D,iM e1 3 D,iM e1 4 D⟩,h3.keep (vW W hW) zI⟩
 have bw:G (∀i (hi:i<J NA),(∃p q,na=b5 p q/\∀W,cH X u W->a7 W p (q+i)=Z (Zt NA[i]))/\NA[i].size<=10000):=λi hi=>by exact Ys
 have bu:G (∀i (hi:i<J q5),∃p q u0 u1 u2 ua ul uc ta tl tc,ka=b5 p q/\∀W,cH X u W->(Q5 W p (q+i*5) u0 u1 u2 ua ul uc ta tl tc)/\b8 S W n q5[i] (I U u0) (I U u1) (Zt u2) (A ua ul uc) (A ta tl tc)):=λi hi=>by exact qcV
 have am:G (∀(W:Zw)(ns:List ZB)(ks:List (T n))(nv kv:Zv),fq S X n u W 5 ns ks nv kv->J ns<=142->J ks<=142->Bo S (n+1) (⟨5,0,WT,ns,ks⟩:F (T n)) w (Zr (Za #[I U 5,I U 0,Zt ⟨#[]⟩,nv,kv])) (eF W (w.heap.size+1+1) 0 (I U 5) (I U 0) (Zt ⟨#[]⟩) nv kv)):=λW ns ks nv kv hG hn hk=>by exact Ym
 have bx:G (u.heap[X]?=Z (Zc #[I U 5,I U 0,Zt ⟨#[]⟩,A Y 0 0,A Y 0 0] 31 (0,0))):=bn;have HR:G (∀ {j:Nat} {d:Bool} {N:List ZB} {Q:List (T n)},oy x qc NA q5 j d N Q->∀(hj:j<J NA)(hk:j<J q5),(¬(d=false/\ij NA[j] x=false)->NA[j]≠x/\oy x qc NA q5 (j+1) d (N++[NA[j]]) (Q++[q5[j]])) /\
  ((d=false/\ij NA[j] x=false)->(NA[j]=x->oy x qc NA q5 (j+1) true (N++[x]) (Q++[qc]))/\(NA[j]≠x->oy x qc NA q5 (j+1) true ((N++[x])++[NA[j]]) ((Q++[qc])++[q5[j]])))):=λh hj hk=>h.round E aF hj hk
 have HD:G (∀ {j:Nat} {d:Bool} {N:List ZB} {Q:List (T n)},oy x qc NA q5 j d N Q->j=la->(d=true->eH x qc NA q5=(N,Q))/\(d=false->eH x qc NA q5=(N++[x],Q++[qc]))):=λh hj=>h.done E E;have aX:G (J NA=la/\J q5=ma):=⟨bj,bk⟩;have bH:la<=ma:=E;have bI:ma<=la:=E;have aZ:=a8 bo;have⟨aT,ay,aB,aC,af⟩:=QY Tryz.info_treeX;have P:G (_/\_/\_/\_):=⟨ay,aB,aC,af⟩;clear ay aB aC af;have⟨aU,ay,aB,aC,af⟩:=QY Tryz.info_strD;have R:G (_/\_/\_/\_):=⟨ay,aB,aC,af⟩;clear ay aB aC af h1 h2 h3 hB zz bE bl bm bn bp zw vW bj bk bB aF bo;go_in;go_wp2_with fail;rw[<- ab,<- hX];clear ab hX;go_loopw [8,9] (λdv iv wr=>∃(j:Nat)(d:Bool)(N:List ZB)(Q:List (T n))(an:ZA)(z:Nat)(ak:ZA)(y:Nat),j<=la/\iv=I U j/\dv=Zb d/\oy x qc NA q5 j d N Q/\fq S X n u wr 5 N Q (A an (J N) z) (A ak (J N) y)) (λ_ iv _=>la-(intOf iv).toNat);case atStart=>exact⟨0,false,[],[],Y,0,Y,0,E,D,D,oy.start _ _ _ _,fq.start bx⟩
 case round=>
  obtain⟨j,d,N,Q,an,z,ak,y,hj,rfl,rfl,hI,hG⟩:=hrel;have aO:=hI.1;have aP:=hI.2.1;have⟨⟨y1,y2⟩,ag⟩:=aD.out wr hG.near;obtain⟨l,aA⟩:∃l,J N=l:=⟨_,D⟩;have q6:G (J N=l/\J Q=l):=⟨aA,E⟩;rw[aA]at hG;by_cases bP:j<la
  .have be:j<J NA:=by have:=aX.1;omega
   have bc:j<J q5:=by have:=aX.2;omega
   have aY:=a8 (HR hI be bc);obtain⟨⟨np,nq,rfl,aR⟩,bD⟩:=bw.out j be;have bt:=a8 aR;have fN:=aR _ hG.near;have bO:(j:Int)<(la:Int):=E;have bQ:(j:Int)<(ma:Int):=E;have bz:=bu.out j bc;generalize q5[j]=kx at *;generalize NA[j]=nm at *;have⟨V1,aw⟩:=fk wr;rw[<- aw]at hG fN y1 y2 ag ⊢;have t:=QJ hG;have bG:l<=140:=E;have bN:d=false/\ij nm x=false∨¬(d=false/\ij nm x=false):=zS;clear aw hI aO aP aA hG aR ag;go_upto_region 6 with fail;go_cut [8,9,28] from 11 to 67 (λdv iv bv wx=>dv=Zb d/\iv=I U j/\(∃b:Bool,bv=Zb b/\(b=true↔d=false/\ij nm x=false))/\wx=V1);case first=>
    cases d with
    | true=>go_wp2;go_meet;exact⟨D,D,zS,D⟩
    | false=>
     have HE:G ((!Op.bytesLess nm.toList x.toList)=true↔false=false/\ij nm x=false):=by show (!ij nm x)=true↔false=false/\ij nm x=false;cases ij nm x<;>simp
     go_wp2;go_meet;exact⟨D,D,⟨_,D,HE⟩,D⟩
   case rest=>
    obtain⟨rfl,rfl,⟨b,rfl,hb⟩,rfl⟩:=hcut;have aV:=a8 hb;clear hb fN;go_upto_if 28 with fail;go_cut [8,9] from 11 to 67 (λdv iv wx=>iv=I U j/\∃(N':List ZB)(Q':List (T n))(an:ZA)(z:Nat)(ak:ZA)(y l:Nat),dv=Zb (d || b)/\J N'=l/\J Q'=l/\l<=141/\fq S X n u wx 5 N' Q' (A an l z) (A ak l y)/\(nm=x->oy x qc NA q5 (j+1) (d || b) N' Q')/\(nm≠x->oy x qc NA q5 (j+1) (d || b) (N'++[nm]) (Q'++[kx])));case first=>
     cases b with
     | false=>
      have bC:¬(d=false/\ij nm x=false):=λh=>by have:=aV.2 h;cases this
      have HP:=a8 (aY.1 bC);go_wp2;go_meet;exact⟨D,N,Q,an,z,ak,y,l,zS,q6.1,q6.2,E,t,λe=>absurd e HP.1,λ_=>by simpa using HP.2⟩
     | true=>
      have af:=aV.1 D;have HP:=a8 (aY.2 af);have hd:=af.1;subst hd;have x1:a7 wc X 3=Z (A an l z):=iM t.box 3 D;have q7:G (wc.ownsRow u.heap.size 9 1 (A an l z) l (N.map Zt)):=by have:=t.q;rw[q6.1]at this;exact this
      have av:X<wc.heap.size:=t.lt;have br:=t.near.size;go_wp2_with (at_builtin;refine Xb _ D (.tmp 30) (.tmp 32) 23 D u.heap.size 9 aU _ 1 16 underlying23 R.1 R.2.1 R.2.2.1 R.2.2.2 D zC (A an l z) l (N.map Zt) D (q7.alloc _) ⟨wc.heap.size,0,Y⟩ 1 1 [Zt x] D D (QB (Qh wc _)) iz zC fA E zE (wc.heap.size+1) zS ?_;intro g cap v3 O k ac ae;refine XE ?_);refine QJ ?_;have c:=fq.name (Wa:=wc.alloc (Zc #[Zt x] 9)) (one:=Zc #[Zt x] 9) (x:=x) (g:=g) (cap:=cap) t ar E D ⟨D,D,D⟩ (by have:=aZ.out;omega) (by rw[q6.1];exact O) k ac;rw[q6.1]at c;have qt:=((k.block X zE (λe=>by have:=cO q7 _ e.symm;omega)).trans (Qf _ _ _ (by simpa using av))).trans t.box;have ai:a7 v3 X 3=Z (A an l z):=rf;have aj:v3.frozen? ⟨X,3,Y⟩=false:=rg;have⟨V,qa⟩:=fk (v3.setCell ⟨X,3,Y⟩ (A (b5 g 0) (l+1) cap));rw[<- qa]at c;have⟨⟨k0,k1,k2⟩,az⟩:=ba.out V c.near;have⟨xs,q9,M⟩:=c.o;have aa:=QJ M;have HX:G (V.ownsRow u.heap.size 31 5 (A ak l y) l xs):=by rw[q6.2]at q9;exact q9
      have x2:a7 V X 4=Z (A ak l y):=iM c.box 4 D;have ax:=c.lt;have bq:=c.near.size;have K:=QJ c;have ql:=QJ az;clear c O k ac ae qt x1 q7 q9 M az;go_upto_region 8 with fail;rw[<- qa];clear qa ai aj;go_wp2_with (at_builtin;refine Xb _ D (.tmp 36) (.tmp 38) 29 D u.heap.size 31 aT _ 5 80 underlying29 P.1 P.2.1 P.2.2.1 P.2.2.2 D zC (A ak l y) l xs D (HX.alloc _) ⟨V.heap.size,0,Y⟩ 1 1 [I U d0,I U d1,Zt d2,A da dl dc,A ea el ec] D D (QB (Qh V _)) iz zC fA E zE (V.heap.size+1) zS ?_;intro g2 C v4 r f L ad;refine XE ?_);refine QJ ?_;have hF:=fq.kid (Wa:=V.alloc (UA d0 d1 d2 da dl dc ea el ec)) (one:=UA d0 d1 d2 da dl dc ea el ec) (g:=g2) (cap:=C) (xs:=xs) K ar E ql D ⟨D,D,D⟩ (by rw[q6.2];exact HX) aa (by rw[q6.2];exact r) f L;rw[q6.2]at hF;have js:=((f.block X zE (λe=>by have:=cO HX _ e.symm;omega)).trans (Qf _ _ _ (by simpa using ax))).trans K.box;have ap:a7 v4 X 4=Z (A ak l y):=sW;have aq:v4.frozen? ⟨X,4,Y⟩=false:=sX;have HF:=QJ hF;clear hF r f L ad js HX K ql aa x2;go_wp2;go_meet;exact⟨D,N++[x],Q++[qc],b5 g 0,cap,b5 g2 0,C,l+1,D,iT x q6.1,iT qc q6.2,E,HF,HP.1,HP.2⟩
    case rest=>
     obtain⟨rfl,N',Q',au,qq,al,j0,m,rfl,bd,bh,bS,j2,bf,bg⟩:=hcut;have q8:G (J N'=m/\J Q'=m):=⟨bd,bh⟩;have aK:=a8 bf;have aL:=a8 bg;have⟨V3,bi⟩:=fk wc;rw[<- bi]at j2 ⊢;clear y1 y2 bi bd bh bf bg t q6;have fN:=bt.out V3 j2.near;obtain⟨⟨y1,y2⟩,-⟩:=aD.out V3 j2.near;have aE:=QJ j2;generalize (d || b)=db at *;by_cases hx:nm=x
     .have bA:(x.toList==x.toList)=true:=dS;subst hx;have aM:=a8 (aK D);clear j2 aK aL;go_wp2;go_roundw;case rel=>exact⟨j+1,db,N',Q',au,qq,al,j0,E,ew,D,aM,by rw[q8.1];exact aE⟩
      case measure=>exact eb
     .have bA:(nm.toList==x.toList)=false:=by rw[Q6];intro e;exact hx (by rw[QI,QI]at e;exact ZE e)
      have aM:=a8 (aL hx);have x1:a7 V3 X 3=Z (A au m qq):=iM j2.box 3 D;have q7:G (V3.ownsRow u.heap.size 9 1 (A au m qq) m (N'.map Zt)):=by have:=j2.q;rw[q8.1]at this;exact this
      have aI:∀o,(V3.drew.alloc o).ownsRow u.heap.size 9 1 (A au m qq) m (N'.map Zt):=λo=>q7.drew.alloc o;have av:X<V3.heap.size:=j2.lt;have br:=j2.near.size;clear j2 hx aK aL;go_upto_region 11 with fail;go_cut [8,9] from 11 to 67 (λdv iv wx=>dv=Zb db/\iv=I U j/\∃g cap,fq S X n u wx 5 (N'++[nm]) Q' (A (b5 g 0) (m+1) cap) (A al m j0));case first=>
       go_region_law (first
        | (refine Xd _ cU (.tmp 49) (.tmp 55) 23 cU u.heap.size 9 aU _ 1 16 underlying23 R.1 R.2.1 R.2.2.1 R.2.2.2 D zC (A au m qq) m (N'.map Zt) cU (aI _) ⟨V3.heap.size,0,Y⟩ 1 1 [Zt nm] cU D (QB (Qh V3.drew _)) iz zC fA E zE (V3.heap.size+1) zS ?_;intro g cap v3 O k ac ae;have qt:=((k.block X zE (λe=>by have:=cO q7.out _ e.symm;omega)).trans (Qf _ _ _ (by simpa using av))).trans aE.box;have ai:a7 v3 X 3=Z (A au m qq):=rf;have aj:v3.frozen? ⟨X,3,Y⟩=false:=rg))
       all_goals
        have c:=fq.name (Wa:=V3.drew.alloc (Zc #[Zt nm] 9)) (one:=Zc #[Zt nm] 9) (x:=nm) (g:=g) (cap:=cap) aE ar E D ⟨D,D,D⟩ bD (by rw[q8.1];exact O) k ac
        rw[q8.1]at c
        have K:=QJ c
        clear c O k ac ae qt ai aj x1 fN
        go_wp2
        go_meet
        exact⟨D,D,_,_,K⟩
      case rest=>
       obtain⟨rfl,rfl,g,cap,c⟩:=hcut;have⟨V,qa⟩:=fk wc;rw[<- qa]at c ⊢;clear qa y1 y2 x1 fN;have bq:=c.near.size;obtain⟨⟨y1,y2⟩,-⟩:=aD.out V c.near;obtain⟨kp,kq,u0,u1,u2,ua,ul,uc,ta,tl,tc,rfl,bb⟩:=bz;have⟨⟨q0,q1,q2,q3,q4⟩,aG⟩:=bb V c.near;have⟨xs,q9,M⟩:=c.o;have aa:=QJ M;have HX:G (V.ownsRow u.heap.size 31 5 (A al m j0) m xs):=by rw[q8.2]at q9;exact q9
       have aH:∀o,(V.drew.alloc o).ownsRow u.heap.size 31 5 (A al m j0) m xs:=λo=>HX.drew.alloc o;have x2:a7 V X 4=Z (A al m j0):=iM c.box 4 D;have ax:=c.lt;have K:=QJ c;have ql:=QJ aG;clear c aG bb q9 M q7 aI aE av;go_wp2_with fail;go_region_law (first
        | (refine Xd _ cU (.tmp 59) (.tmp 65) 29 cU u.heap.size 31 aT _ 5 80 underlying29 P.1 P.2.1 P.2.2.1 P.2.2.2 D zC (A al m j0) m xs cU (aH _) ⟨V.heap.size,0,Y⟩ 1 1 [I U u0,I U u1,Zt u2,A ua ul uc,A ta tl tc] cU D (QB (Qh V.drew _)) iz zC fA E zE (V.heap.size+1) zS ?_;intro g2 C v3 r f L ad;have js:=((f.block X zE JO).trans (Qf _ _ _ (by simpa using ax))).trans K.box;have ap:a7 v3 X 4=Z (A al m j0):=sW;have aq:v3.frozen? ⟨X,4,Y⟩=false:=sX))
       all_goals
        have hF:=fq.kid (Wa:=V.drew.alloc (UA u0 u1 u2 ua ul uc ta tl tc)) (one:=UA u0 u1 u2 ua ul uc ta tl tc) (g:=g2) (cap:=C) (xs:=xs) K ar E ql D ⟨D,D,D⟩ (by rw[q8.2];exact HX) aa (by rw[q8.2];exact r) f L
        rw[q8.2]at hF
        have HF:=QJ hF
        clear hF r f L ad ap aq js x2 aH aa HX K ql
        go_wp2
        go_roundw
        case rel=>
         refine⟨j+1,db,N'++[nm],Q'++[kx],b5 g 0,cap,b5 g2 0,C,E,ew,D,aM,?_⟩
         rw[iT nm q8.1]
         exact HF
        case measure=>exact eb
  .have aS:j=la:=E;have bK:¬(j:Int)<(la:Int):=E;have aW:=a8 (HD hI aS);have t:=QJ hG;have bF:l<=140:=E;cases d with
   | true=>have HF:=QJ (am _ _ _ _ _ hG E E);obtain⟨⟨p0,p1,p2,p3,p4⟩,-⟩:=cI hG.box;have⟨⟨r0,r1,r2,r3,r4⟩,f0,f1,f2,f3,f4⟩:=cI ag;have aJ:=a8 (aW.1 D);clear hG ag hI aS aA aO aP am;go_wp2_with fail;refine bR (v:=Za #[I U 5,I U 0,Zt ⟨#[]⟩,A an l z,A ak l y]) ?_;rw[aJ.out];exact HF
   | false=>
    have aJ:=a8 (aW.2 D);have⟨V1,aw⟩:=fk wr;rw[<- aw]at t y1 ⊢;clear hG ag hI aS aA aO aP aw y2;have x1:a7 V1 X 3=Z (A an l z):=iM t.box 3 D;have q7:G (V1.ownsRow u.heap.size 9 1 (A an l z) l (N.map Zt)):=by have:=t.q;rw[q6.1]at this;exact this
    have av:X<V1.heap.size:=t.lt;have br:=t.near.size;go_wp2_with (at_builtin;refine Xb _ D (.tmp 71) (.tmp 73) 23 D u.heap.size 9 aU _ 1 16 underlying23 R.1 R.2.1 R.2.2.1 R.2.2.2 D zC (A an l z) l (N.map Zt) D (q7.alloc _) ⟨V1.heap.size,0,Y⟩ 1 1 [Zt x] D D (QB (Qh V1 _)) iz zC fA E zE (V1.heap.size+1) zS ?_;intro g cap v3 O k ac ae;refine XE ?_);refine QJ ?_;have c:=fq.name (Wa:=V1.alloc (Zc #[Zt x] 9)) (one:=Zc #[Zt x] 9) (x:=x) (g:=g) (cap:=cap) t ar E D ⟨D,D,D⟩ (by have:=aZ.out;omega) (by rw[q6.1];exact O) k ac;rw[q6.1]at c;have qt:=((k.block X zE (λe=>by have:=cO q7 _ e.symm;omega)).trans (Qf _ _ _ (by simpa using av))).trans t.box;have ai:a7 v3 X 3=Z (A an l z):=rf;have aj:v3.frozen? ⟨X,3,Y⟩=false:=rg;have⟨V,qa⟩:=fk (v3.setCell ⟨X,3,Y⟩ (A (b5 g 0) (l+1) cap));rw[<- qa]at c;have⟨⟨k0,k1,k2⟩,az⟩:=ba.out V c.near;have⟨xs,q9,M⟩:=c.o;have aa:=QJ M;have HX:G (V.ownsRow u.heap.size 31 5 (A ak l y) l xs):=by rw[q6.2]at q9;exact q9
    have x2:a7 V X 4=Z (A ak l y):=iM c.box 4 D;have ax:=c.lt;have bq:=c.near.size;have K:=QJ c;have ql:=QJ az;clear c O k ac ae qt x1 q7 q9 M az;go_upto_region 15 with fail;rw[<- qa];clear qa ai aj;go_wp2_with (at_builtin;refine Xb _ D (.tmp 77) (.tmp 79) 29 D u.heap.size 31 aT _ 5 80 underlying29 P.1 P.2.1 P.2.2.1 P.2.2.2 D zC (A ak l y) l xs D (HX.alloc _) ⟨V.heap.size,0,Y⟩ 1 1 [I U d0,I U d1,Zt d2,A da dl dc,A ea el ec] D D (QB (Qh V _)) iz zC fA E zE (V.heap.size+1) zS ?_;intro g2 C v4 r f L ad;refine XE ?_);refine QJ ?_;have hF:=fq.kid (Wa:=V.alloc (UA d0 d1 d2 da dl dc ea el ec)) (one:=UA d0 d1 d2 da dl dc ea el ec) (g:=g2) (cap:=C) (xs:=xs) K ar E ql D ⟨D,D,D⟩ (by rw[q6.2];exact HX) aa (by rw[q6.2];exact r) f L;rw[q6.2]at hF;have js:=((f.block X zE (λe=>by have:=cO HX _ e.symm;omega)).trans (Qf _ _ _ (by simpa using ax))).trans K.box;have ap:a7 v4 X 4=Z (A ak l y):=sW;have aq:v4.frozen? ⟨X,4,Y⟩=false:=sX;have HF:=QJ (am _ _ _ _ _ hF (by rw[iT x q6.1];omega) (by rw[iT qc q6.2];omega));have aN:=hF.near;have⟨V5,aQ⟩:=fk (v4.setCell ⟨X,4,Y⟩ (A (b5 g2 0) (l+1) C));rw[<- aQ]at HF aN hF;obtain⟨⟨p0,p1,p2,p3,p4⟩,-⟩:=cI hF.box;obtain⟨-,ag⟩:=aD.out V5 aN;have⟨⟨r0,r1,r2,r3,r4⟩,f0,f1,f2,f3,f4⟩:=cI ag;clear hF r f L ad js HX K ql aa x2 ag aN am;go_upto_region 16 with fail;rw[<- aQ];clear aQ ap aq;go_wp2_with fail;refine bR (v:=Za #[I U 5,I U 0,Zt ⟨#[]⟩,A (b5 g 0) (l+1) cap,A (b5 g2 0) (l+1) C]) ?_;rw[aJ.out];exact HF
def DW(w:Zw)(R:Nat)(s:ZB)(i:Nat)(a:Bool)(e:Ending)(w':Zw):Prop:=
 cH R w w' /\ ((∃x r,fh 34 (s.data.toList.drop (i+1))=Z (x,r)/\e=Zr (Zt (bs x))/\d9 w' R s ((i+1+J x+1:Nat):Int) a/\i+1+J x+1<=s.size) ∨
  (fh 34 (s.data.toList.drop (i+1))=Y/\∃x,x.size<=10000/\e=Zr (Zt x)/\d9 w' R s (s.size:Int) true))
def Pk (h:d9 w R s i bad) (C:s.size<=10000) (qc:i<s.size) (P:s[i]=34) :
  WU WV 222 #[Zp (b5 R 0)] w (DW w R s i bad):=by
 have n:G (dq [34] (s.data.toList.drop i)=Z (s.data.toList.drop (i+1))):=by show _=_;rw[wo qc,P];exact di _ _
 go_enter func222,ntmps222;go_wp2_with fail;refine H (fC ⟨#[34]⟩ h C zC E) ?_;rintro e w1 ⟨rfl,r,⟨-,-,g⟩|⟨m,-⟩⟩;case inr=>exact absurd (n.symm.trans m) zS
 have g:d9 w1 R s ((i+1:Nat):Int) bad:=g;have c0:=g.cell0;have c1:=g.cell1;have c2:=g.cell2;go_wp2_with fail;go_loopw [14] (λ_ wr=>∃k:Nat,i+1+k<=s.size/\d9 wr R s ((i+1+k:Nat):Int) bad/\cH R w wr/\∀x,x∈(s.data.toList.drop (i+1)).take k->x≠34) (λ_ wr=>s.size-atOf wr R);case atStart=>exact⟨0,E,g,r,dS⟩
 case round=>
  obtain⟨k,ql,p,t,a⟩:=hrel;have L:=p.cell0;have M:=p.cell1;have N:=p.cell2;have O:=p.free 1;have f:G (d9 wr R s ((i+1+k:Nat):Int) bad/\cH R w wr):=⟨p,t⟩;clear p t c0 c1 c2 g r n h P;generalize o:i+1+k=j at *;by_cases q:j<s.size
  .have I:decide ((j:Int)<(s.size:Int))=true:=gE;have S:(j:Int)<(s.size:Int):=E;have U:(0:Int)<=(j:Int):=E;by_cases u:s[j]=34
   .have B:(((s[j]).toNat:Int)==34)=true:=by rw[u];rfl
    have z:G (fh 34 (s.data.toList.drop (i+1))=Z ((s.data.toList.drop (i+1)).take k,(s.data.toList.drop (i+1)).drop k)):=
     Cf _ a (by rw[Xk,Xk,o,<- ZX,o,wo q,u])
    have n:G (dq [34] (s.data.toList.drop j)=Z (s.data.toList.drop (j+1))):=by show _=_;rw[wo q,u];exact di _ _
    have W:G (s.extract (i+1) j=bs ((s.data.toList.drop (i+1)).take k)):=by show _=_;rw[<- o];exact rq s (i+1) k
    have Q:J ((s.data.toList.drop (i+1)).take k)=k:=gE;clear a;go_wp2_with fail;go_quiet (fail);go_wp2_with fail;refine H (fC ⟨#[34]⟩ (f.1.drewN _) C zC E) ?_;rintro e y ⟨rfl,b,⟨-,K,l⟩|⟨m,-⟩⟩;case inr=>exact absurd (n.symm.trans m) zS
    have c0:=l.cell0;have d:G (d9 y R s ((j+1:Nat):Int) bad/\cH R w y):=⟨l,(f.2.drewN _).trans b⟩;clear l b L M N O;go_wp2_with fail;go_ret;exact⟨d.2,.inl ⟨_,_,z,hQ W,by rw[Q,o];exact d.1,by rw[Q,o];exact K⟩⟩
   .have B:(((s[j]).toNat:Int)==34)=false:=by rw[Q6];intro h;apply u;apply X8.1;have X:(34:UInt8).toNat=34:=D;omega
    have T:G (∀x,x∈(s.data.toList.drop (i+1)).take (k+1)->x≠34):=Mn E a (by simpa only[o] using u);have A:IntKind.i64.wrap ((j:Int)+1)=(j:Int)+1:=kG;clear a;go_wp2_with fail;go_quiet (fail);go_wp2_with fail;have d:=((f.1.drewN nq).set1 ((j:Int)+1));go_roundw;case rel=>exact⟨k+1,E,by rw[show ((i+1+(k+1):Nat):Int)=(j:Int)+1 by omega];exact d,(f.2.drewN nq).trans (cH.set R 1 _ _),T⟩
    case measure=>rw[d.atOf,f.1.atOf];omega
  .have I:decide ((j:Int)<(s.size:Int))=false:=gE;have V:G (j=s.size):=by show _=_;omega
   have z:G (fh 34 (s.data.toList.drop (i+1))=Y):=sS (c:=34) (by rw[Xf zE]at a;exact a);have n:G (dq [34] (s.data.toList.drop j)=Y):=by show _=_;rw[Zy zE];rfl
   have qa:(s.extract (i+1) j).size<=10000:=by simp[ByteArray.size_extract];omega
   have F:(j:Int)<=(s.size:Int):=E;clear a;go_wp2_with fail;go_quiet (fail);go_wp2_with fail;refine H (fC ⟨#[34]⟩ (f.1.drewN _) C zC E) ?_;rintro e y ⟨rfl,b,⟨v,-,-⟩|⟨-,l⟩⟩;case inl=>exact absurd (n.symm.trans v) zS
   have c0:=l.cell0;have d:G (d9 y R s (j:Int) true/\cH R w y):=⟨l,(f.2.drewN _).trans b⟩;clear l b L M N O;go_wp2_with fail;go_ret;exact⟨d.2,.inr ⟨z,_,qa,D,by rw[<- V.out];exact d.1⟩⟩
def Tb(s:ZB)(j c:Nat)(b a:Bool):Prop:=
 (dq [58] (s.data.toList.drop j)=Z (s.data.toList.drop (j+1))/\j+1<=s.size/\c=j+1/\a=b)∨(dq [58] (s.data.toList.drop j)=Y/\c=j/\a=true)
def rV(m n:Nat)(s:ZB)(i:Nat)(g:List ZB)(f:List (T m))(e:Nat)(b:Bool):Prop:=
 i<e/\(b=false->e<=s.size)/\e<=s.size+n/\J f<=e+(if b=true then 1 else 0)/\J g=J f /\
  ∀(c:List ZB)(a:List (T m)) d,J c=J a->(∀x,x∈c->c8 x=true)->s.data.toList.drop (i+1)=cX (dh c (a.map (cK m)))++125 :: d->(∀k,k∈a->cS m k (7-(n:Int))=true) ->
   ∃k,k<=J a/\f=a.take k/\g=c.take k/\b=false/\s.data.toList.drop e=dH (decide (k=0)) ((dh c (a.map (cK m))).drop k)++125 :: d
def BS(h:c8 x=true):∃c r,x.data.toList=c :: r/\dz c=true:=by
 have a:1<=x.size:=by simp only[c8,Qc,Qk]at h;exact E
 cases hd:x.data.toList with
 | nil=>
  have b:J x.data.toList=0:=by rw[hd];rfl
  have d:J x.data.toList=x.size:=dS;omega
 | cons c r=>exact⟨c,r,D,i7 h c (by rw[hd];exact zS)⟩
def KK {B:List (T m)} {g o t:Nat} {j f jJ:Bool} {t2:T m} (S:rV m n s i ns B i' false) (K:¬ cF s i'=125) (hc:wD s (J B) i' g j)
  (vk:Tb s (g+J ((s.data.toList.drop g).takeWhile dz)) o j f)
  (hp:o<=t/\(jJ=false->f=false/\o<t/\t<=s.size)/\(f=false->t<=s.size+n)/\(f=true->t=o) /\
   (∀(t0:T m) d,f=false->s.data.toList.drop o=cK m t0++d->cS m t0 (7-(n:Int))=true->lw d=true->t2=t0/\jJ=false/\t=o+J (cK m t0)))
  (q8:g+J ((s.data.toList.drop g).takeWhile dz)<=s.size) :
  rV m n s i (ns++[bs ((s.data.toList.drop g).takeWhile dz)]) (B++[t2]) t jJ/\(if jJ=true then 0 else s.size+1-t)<s.size+1-i':=by
 obtain⟨h1,N,h3,O,R,Q⟩:=S;obtain⟨p1,p2,q5,j0,qa⟩:=hp;have N:=N D;have O:J B<=i':=by simpa using O
 have X:i'<=g:=by exact PF
 have q6:g<=o/\o<=s.size:=by rcases vk with ⟨-,h,ql,-⟩|⟨-,h,-⟩<;>omega
 refine⟨⟨E,λh=>(p2 h).2.2,?_,?_,by simp[R],λb a d qe x V P=>?_⟩,?_⟩
 .cases f with
  | false=>exact q5 D
  | true=>have:=j0 D;omega
 .rw[Qi,QM];exact Pw
 .obtain⟨k,hk,w,M,-,p⟩:=Q b a d qe x V P;have q9:J B=k:=by rw[w,Xj];omega
  have qq:J (dh b (a.map (cK m)))=J a:=by rw[eY _ _ z8];simp
  have qf:k<J a:=by refine Qx λW=>K ?_;have:(dh b (a.map (cK m))).drop k=[]:=zE;rw[this]at p;unfold cF;rw[p];rfl
  have q:k<J (dh b (a.map (cK m))):=E;have v:k<J b:=E;rw[Qy q,pm _ _ _ v sY q,Xe,dH,QZ]at p;have xn:j=false/\s.data.toList.drop g=b[k].data.toList++58 :: (cK m a[k]++(dH false ((dh b (a.map (cK m))).drop (k+1))++125 :: d)):=by
   by_cases u:k=0
   .simp only[u,XU,XX,QZ,QH]at p;rcases hc with ⟨-,h,hb⟩|⟨h,-⟩;·refine⟨hb,?_⟩;rw[h,p];simp only[u]
    .exact E
   .simp only[u,Zq,Xu,Zf,QH,QZ]at p;rcases hc with ⟨h,-⟩|⟨-,⟨jW,-,h,hb⟩|⟨jW,-⟩⟩;·exact E
    .refine⟨hb,?_⟩;rw[p,di]at jW;rw[h];exact (XK jW).symm
    .rw[p,di]at jW;cases jW
  have L:=x b[k] zS;have z:(s.data.toList.drop g).takeWhile dz=b[k].data.toList:=by rw[xn.2];exact gW (i7 L) (by intro c r e;cases e;decide)
  have vY:s.data.toList.drop (g+J ((s.data.toList.drop g).takeWhile dz))=58 :: (cK m a[k]++(dH false ((dh b (a.map (cK m))).drop (k+1))++125 :: d)):=by rw[z,<- Xk,xn.2,ZQ]
  have l:f=false/\s.data.toList.drop o=cK m a[k]++(dH false ((dh b (a.map (cK m))).drop (k+1))++125 :: d):=by exact T2
  have C:lw (dH false ((dh b (a.map (cK m))).drop (k+1))++125 :: d)=true:=by
   cases (dh b (a.map (cK m))).drop (k+1) with
   | nil=>rfl
   | cons y r=>rw[gD];rfl
  have⟨F,qc,q7⟩:=qa a[k] _ l.1 l.2 (P _ zS) C;refine⟨k+1,E,?_,?_,qc,?_⟩;·rw[Qq qf,<- w,F]
  .rw[Qq v,<- M,z,nw]
  .rw[q7,<- Xk,l.2,ZQ];exact dS
 .exact Py
def pL(m n:Nat)(s:ZB)(i:Nat)(a:Bool)(t:T m)(d:Nat)(b:Bool):Prop:=
 i<=d/\(b=false->a=false/\i<d/\d<=s.size)/\(a=false->d<=s.size+n)/\(a=true->d=i) /\
  (∀(t0:T m) c,a=false->s.data.toList.drop i=cK m t0++c->cS m t0 (7-(n:Int))=true->lw c=true->t=t0/\b=false/\d=i+J (cK m t0))
def ff {t:T (m+1)} (h:cS (m+1) t d=true) :
  (∃k:Int,(-999999999<=k/\k<=999999999)/\t=(⟨1,k,WT,[],[]⟩:F (T m))/\cK (m+1) t=W6 k) ∨
  (∃x:ZB,eW x=true/\t=(⟨2,0,x,[],[]⟩:F (T m))/\cK (m+1) t=34 :: (x.data.toList++[34])) ∨
  (t=(⟨3,1,WT,[],[]⟩:F (T m))/\cK (m+1) t=[121,101,115])∨(t=(⟨3,0,WT,[],[]⟩:F (T m))/\cK (m+1) t=[110,111]) ∨
  (∃j,t=(⟨4,0,WT,[],j⟩:F (T m))/\(∀k,k∈j->cS m k (d+1)=true)/\cK (m+1) t=91 :: (cX (j.map (cK m))++[93])) ∨
  (∃q j,t=(⟨5,0,WT,q,j⟩:F (T m))/\J q=J j/\(∀x,x∈q->c8 x=true)/\(∀k,k∈j->cS m k (d+1)=true)/\cK (m+1) t=123 :: (cX (dh q (j.map (cK m)))++[125])) ∨
  (t=(⟨6,0,WT,[],[]⟩:F (T m))/\cK (m+1) t=[126]) ∨
  (∃k,t=(⟨6,0,WT,[],[k]⟩:F (T m))/\cS m k (d+1)=true/\cK (m+1) t=63 :: cK m k):=by
 simp only[cS,Qc]at h;have a:=h.1.2;have p:=Qo.1 h.2;obtain⟨n,s,tx,na,C⟩:=t;simp only[oF]at a p;unfold cM at a;have b:∀l:List ZB,(J l:Int)=0->l=[]:=zS;have e:∀l:List (T m),(J l:Int)=0->l=[]:=zS;by_cases u:n=1;·rw[Qm u]at a;simp only[Qc,QP,Qk]at a;obtain⟨⟨⟨f,c⟩,a3⟩,a4⟩:=a;have g:=oH c;have i:=b _ a3;have o:=e _ a4;subst g i o u;exact .inl ⟨s,f,D,by simp[cK]⟩
 rw[Qd u]at a;by_cases v:n=2;·rw[Qm v]at a;simp only[Qc,QP]at a;obtain⟨⟨⟨f,c⟩,a3⟩,a4⟩:=a;have i:=b _ a3;have o:=e _ a4;subst f i o v;exact .inr (.inl ⟨tx,c,D,by simp[cK]⟩)
 rw[Qd v]at a;by_cases w:n=3
 .rw[Qm w]at a;simp only[Qc,QP,Qk]at a;obtain⟨⟨⟨f,c⟩,a3⟩,a4⟩:=a;have g:=oH c;have i:=b _ a3;have o:=e _ a4;subst g i o w;by_cases K:0<s;·have:s=1:=E;subst this;exact .inr (.inr (.inl ⟨D,by simp[cK]⟩))
  .have:s=0:=E;subst this;exact .inr (.inr (.inr (.inl ⟨D,by simp[cK]⟩)))
 rw[Qd w]at a;by_cases y:n=4;·rw[Qm y]at a;simp only[Qc,QP,Qk]at a;obtain⟨⟨⟨f,c⟩,a3⟩,a4⟩:=a;have g:=oH c;have i:=b _ a3;subst f g i y;exact .inr (.inr (.inr (.inr (.inl ⟨C,D,E,by simp[cK]⟩))))
 rw[Qd y]at a;by_cases z:n=5;·rw[Qm z]at a;simp only[Qc,QP]at a;obtain⟨⟨⟨f,c⟩,a3⟩,a4⟩:=a;have g:=oH c;subst f g z;exact .inr (.inr (.inr (.inr (.inr (.inl ⟨na,C,D,E,rK a4,E,by simp[cK]⟩)))))
 rw[Qd z]at a;by_cases B:n=6
 .rw[Qm B]at a;simp only[Qc,QP,Qk]at a;obtain⟨⟨⟨f,c⟩,a3⟩,a4⟩:=a;have g:=oH c;have i:=b _ a3;subst f g i B;match C,a4,p with
  | [],_,_=>exact .inr (.inr (.inr (.inr (.inr (.inr (.inl ⟨D,by simp[cK,gA]⟩))))))
  | [x],_,p=>exact .inr (.inr (.inr (.inr (.inr (.inr (.inr ⟨x,D,p x zS,by simp[cK,gA]⟩))))))
  | _ :: _ :: r,a4,_=>simp at a4;omega
 .rw[Qd B]at a;cases a
def kz{c:UInt8}{r:List UInt8}(h:s.data.toList.drop i=c :: r):cF s i=c:=by unfold cF;rw[h];rfl
def Dl(n:Nat):(7-((n+1:Nat):Int))+1=7-(n:Int):=E
def yn(h:s.data.toList.drop i=W6 k++post):fw (cF s i)=true∨cF s i=45:=by have⟨c,r,e,a⟩:=tD k;rw[e]at h;rw[kz h];exact a
def nP {t:T (m+1)} (j:i<=s.size) (g:(dq x.data.toList (s.data.toList.drop i)=Z (s.data.toList.drop (i+x.size))/\i+x.size<=s.size/\i'=i+x.size/\bad'=false)∨(dq x.data.toList (s.data.toList.drop i)=Y/\i'=i/\bad'=true))
  (k:0<x.size) (a:∀(t0:T (m+1)) post,s.data.toList.drop i=cK (m+1) t0++post->cS (m+1) t0 (7-((n+1:Nat):Int))=true->t0=t/\cK (m+1) t0=x.data.toList) :
  pL (m+1) (n+1) s i false t i' bad':=by
 rcases g with ⟨c,h,rfl,rfl⟩|⟨c,rfl,rfl⟩;·refine⟨E,zE,E,zS,λt0 post _ b d _=>?_⟩;have⟨f,e⟩:=a t0 post b d;exact⟨f.symm,D,by rw[e];simp⟩
 .refine⟨E,zS,E,E,λt0 post _ b d _=>?_⟩;have⟨f,e⟩:=a t0 post b d;rw[b,e,ie]at c;cases c
def Kh(hl:cF s i=121){t0:T (m+1)}(he:s.data.toList.drop i=cK (m+1) t0++post)(b:cS (m+1) t0 d=true):t0=(⟨3,1,WT,[],[]⟩:F (T m))/\cK (m+1) t0=[121,101,115]:=by
 rcases ff b with ⟨k,-,a,h2⟩|⟨x,-,a,h2⟩|⟨a,h2⟩|⟨a,h2⟩|⟨c,a,-,h2⟩|⟨e,c,a,-,-,-,h2⟩|⟨a,h2⟩|⟨k,a,-,h2⟩;·exact Ch
 .rw[h2]at he;rw[kz he]at hl;exact absurd hl zC
 .exact⟨a,h2⟩
 all_goals (rw[h2]at he;rw[kz he]at hl;exact absurd hl zC)
def OL(hl:cF s i=110){t0:T (m+1)}(he:s.data.toList.drop i=cK (m+1) t0++post)(b:cS (m+1) t0 d=true):t0=(⟨3,0,WT,[],[]⟩:F (T m))/\cK (m+1) t0=[110,111]:=by
 rcases ff b with ⟨k,-,a,h2⟩|⟨x,-,a,h2⟩|⟨a,h2⟩|⟨a,h2⟩|⟨c,a,-,h2⟩|⟨e,c,a,-,-,-,h2⟩|⟨a,h2⟩|⟨k,a,-,h2⟩;·exact Ch
 .rw[h2]at he;rw[kz he]at hl;exact absurd hl zC
 .rw[h2]at he;rw[kz he]at hl;exact absurd hl zC
 .exact⟨a,h2⟩
 all_goals (rw[h2]at he;rw[kz he]at hl;exact absurd hl zC)
def EV(hl:cF s i=126){t0:T (m+1)}(he:s.data.toList.drop i=cK (m+1) t0++post)(b:cS (m+1) t0 d=true):t0=(⟨6,0,WT,[],[]⟩:F (T m))/\cK (m+1) t0=[126]:=by
 rcases ff b with ⟨k,-,a,h2⟩|⟨x,-,a,h2⟩|⟨a,h2⟩|⟨a,h2⟩|⟨c,a,-,h2⟩|⟨e,c,a,-,-,-,h2⟩|⟨a,h2⟩|⟨k,a,-,h2⟩;·exact Ch
 case inr.inr.inr.inr.inr.inr.inl=>exact⟨a,h2⟩
 all_goals (rw[h2]at he;rw[kz he]at hl;exact absurd hl zC)
def Pc{x:T m}(hl:cF s i=63)(hp:pL m n s (i+1) false x i' bad'):pL (m+1) (n+1) s i false (⟨6,0,WT,[],[x]⟩:F (T m)) i' bad':=by
 obtain⟨u,j,l,v,o⟩:=hp;refine⟨E,λh=>⟨D,E,(j h).2.2⟩,λ_=>by have:=l D;omega,zS,λt0 b _ he f d=>?_⟩;rcases ff f with ⟨k,-,a,h2⟩|⟨x,-,a,h2⟩|⟨a,h2⟩|⟨a,h2⟩|⟨g,a,-,h2⟩|⟨t,g,a,-,-,-,h2⟩|⟨a,h2⟩|⟨y,a,e,h2⟩;·exact Ch
 case inr.inr.inr.inr.inr.inr.inr=>
  rw[h2]at he;rw[Dl]at e;have c:s.data.toList.drop (i+1)=cK m y++b:=by rw[<- Xk,he];rfl
  have⟨p,q,r⟩:=o y b D c e d;exact⟨by rw[a,p],q,by rw[h2,r,Qs];omega⟩
 all_goals (rw[h2]at he;rw[kz he]at hl;exact absurd hl zC)
def Ic {x r:List UInt8} (hl:cF s i=34) (f:fh 34 (s.data.toList.drop (i+1))=Z (x,r)) (h:i+1+J x+1<=s.size) :
  pL (m+1) (n+1) s i false (⟨2,0,bs x,[],[]⟩:F (T m)) (i+1+J x+1) false:=by
 refine⟨E,zE,E,zS,λt0 c _ he g _=>?_⟩;rcases ff g with ⟨k,-,a,h2⟩|⟨y,e,a,h2⟩|⟨a,h2⟩|⟨a,h2⟩|⟨j,a,-,h2⟩|⟨l,j,a,-,-,-,h2⟩|⟨a,h2⟩|⟨y,a,e,h2⟩;·exact Ch
 .rw[h2]at he;have d:s.data.toList.drop (i+1)=y.data.toList++34 :: c:=FSq;rw[d,gX _ (o6 e)]at f;have b:=(Prod.mk.inj (XK f)).1;refine⟨by rw[a,<- b,nw],rfl,?_⟩;rw[h2,<- b];simp;omega
 all_goals (rw[h2]at he;rw[kz he]at hl;exact absurd hl zC)
def Ib{t:T (m+1)}(hl:cF s i=34)(g:i<=s.size)(e:fh 34 (s.data.toList.drop (i+1))=Y):pL (m+1) (n+1) s i false t s.size true:=by
 refine⟨g,zS,E,zS,λt0 b _ he f _=>?_⟩;rcases ff f with ⟨k,-,a,h2⟩|⟨y,d,a,h2⟩|⟨a,h2⟩|⟨a,h2⟩|⟨h,a,-,h2⟩|⟨j,h,a,-,-,-,h2⟩|⟨a,h2⟩|⟨y,a,d,h2⟩;·exact Ch
 .rw[h2]at he;have c:s.data.toList.drop (i+1)=y.data.toList++34 :: b:=FSq;rw[c,gX _ (o6 d)]at e;cases e
 all_goals (rw[h2]at he;rw[kz he]at hl;exact absurd hl zC)
def Lp {f:List (T m)} (e:cF s i=91) (j:i<i') (l:bad'=false->i'<=s.size) (r:i'<=s.size+n+1)
  (o:∀(a:List (T m)) post,s.data.toList.drop (i+1)=cX (a.map (cK m))++93 :: post->(∀k,k∈a->cS m k (7-(n:Int))=true)->f=a/\bad'=false/\i'=i+J (cX (a.map (cK m)))+2) :
  pL (m+1) (n+1) s i false (⟨4,0,WT,[],f⟩:F (T m)) i' bad':=by
 refine⟨E,λh=>⟨D,j,l h⟩,E,zS,λt0 post _ he p _=>?_⟩;rcases ff p with ⟨k,-,c,b⟩|⟨y,g,c,b⟩|⟨c,b⟩|⟨c,b⟩|⟨a,c,g,b⟩|⟨t,f,c,-,-,-,b⟩|⟨c,b⟩|⟨y,c,g,b⟩;·rw[b]at he;have:=yn he;rw[e]at this;exact absurd this zC
 case inr.inr.inr.inr.inl=>rw[b]at he;have d:s.data.toList.drop (i+1)=cX (a.map (cK m))++93 :: post:=FSq;have⟨r1,r2,r3⟩:=o a post d (λk q=>by have:=g k q;rwa [Dl]at this);exact⟨by rw[c,r1],r2,by rw[r3,b];simp;omega⟩
 all_goals (rw[b]at he;rw[kz he]at e;exact absurd e zC)
def KI {j:List (T m)} (g:cF s i=123) (l:i<i') (o:bad'=false->i'<=s.size) (v:i'<=s.size+n+1)
  (p:∀(b:List ZB)(a:List (T m)) post,J b=J a->(∀x,x∈b->c8 x=true)->s.data.toList.drop (i+1)=cX (dh b (a.map (cK m)))++125 :: post->(∀k,k∈a->cS m k (7-(n:Int))=true) ->
   ns=b/\j=a/\bad'=false/\i'=i+J (cX (dh b (a.map (cK m))))+2) :
  pL (m+1) (n+1) s i false (⟨5,0,WT,ns,j⟩:F (T m)) i' bad':=by
 refine⟨E,λh=>⟨D,l,o h⟩,E,zS,λt0 post _ he q _=>?_⟩;rcases ff q with ⟨k,-,d,c⟩|⟨y,e,d,c⟩|⟨d,c⟩|⟨d,c⟩|⟨a,d,e,c⟩|⟨b,a,d,e,t,u,c⟩|⟨d,c⟩|⟨y,d,e,c⟩;·rw[c]at he;have:=yn he;rw[g]at this;exact absurd this zC
 case inr.inr.inr.inr.inr.inl=>rw[c]at he;have f:s.data.toList.drop (i+1)=cX (dh b (a.map (cK m)))++125 :: post:=FSq;have⟨r0,r1,r2,r3⟩:=p b a post e t f (λk r=>by have:=u k r;rwa [Dl]at this);exact⟨by rw[d,r0,r1],r2,by rw[r3,c];simp;omega⟩
 all_goals (rw[c]at he;rw[kz he]at g;exact absurd g zC)
def OM {k a:Nat} {neg:Bool} {v:Int} (w:¬ cF s i=34) (x:¬ cF s i=121) (z:¬ cF s i=110) (B:¬ cF s i=126) (C:¬ cF s i=63) (K:¬ cF s i=91) (L:¬ cF s i=123)
  (j:neg=decide (cF s i=45)) (t:a=if neg=true then i+1 else i) (l:a+k<=s.size) (f:∀c,c∈(s.data.toList.drop a).take k->fw c=true) (g:k=10∨fw (cF s (a+k))=false)
  (O:v=if neg=true then -(fa ((s.data.toList.drop a).take k):Int) else (fa ((s.data.toList.drop a).take k):Int)) :
  pL (m+1) (n+1) s i false (⟨1,v,WT,[],[]⟩:F (T m)) (a+k) (false || k==0):=by
 have M:i<=a:=by cases neg<;>simp at t<;>omega
 refine⟨E,λh=>⟨D,?_,l⟩,λ_=>E,λh=>eI,λt0 u _ b N o=>?_⟩;·simp at h;omega
 rcases ff N with ⟨q,Q,e,d⟩|⟨y,r,e,d⟩|⟨e,d⟩|⟨e,d⟩|⟨p,e,r,d⟩|⟨P,p,e,r,R,S,d⟩|⟨e,d⟩|⟨y,e,r,d⟩;·rw[d]at b;have⟨r1,r2,r3⟩:=L0 Q b o j t l f g;exact⟨by rw[e,O,r1],by simpa using r3,by rw[d];exact r2⟩
 .rw[d]at b;exact absurd (kz b) w
 .rw[d]at b;exact absurd (kz b) x
 .rw[d]at b;exact absurd (kz b) z
 .rw[d]at b;exact absurd (kz b) K
 .rw[d]at b;exact absurd (kz b) L
 .rw[d]at b;exact absurd (kz b) B
 .rw[d]at b;exact absurd (kz b) C
def pZ{α:Type}(f:List UInt8->Option (α×List UInt8)):Nat->List α->List UInt8->Option (List α×List UInt8)
 | 0,_,_=>Y
 | k+1,acc,s=>
  match dq [93] s with
  | some r=>Z (acc,r)
  | none=>
   match (if J acc=0 then Z s else dq [44] s) with
   | none=>Y
   | some a=>
    match f a with
    | none=>Y
    | some (t,r)=>pZ f k (acc++[t]) r
def gB:(n:Nat)->List UInt8->Option (T n×List UInt8)
 | 0,_=>Y
 | n+1,s=>
  if fw (s.headD 0)=true∨s.headD 0=45 then
   match fy (Dr s) with
   | none=>Y
   | some m=>Z ((⟨1,m,WT,[],[]⟩:F (T n)),s.drop (J (Dr s)))
  else if s.headD 0=34 then
   match fh 34 (s.drop 1) with
   | none=>Y
   | some (w,r)=>Z ((⟨2,0,bs w,[],[]⟩:F (T n)),r.drop 1)
  else if s.headD 0=121∨s.headD 0=110 then
   match dq [121,101,115] s with
   | some r=>Z ((⟨3,1,WT,[],[]⟩:F (T n)),r)
   | none=>
    match dq [110,111] s with
    | some r=>Z ((⟨3,0,WT,[],[]⟩:F (T n)),r)
    | none=>Y
  else if s.headD 0=91 then
   match pZ (gB n) (J (s.drop 1)+1) [] (s.drop 1) with
   | none=>Y
   | some (l,r)=>Z ((⟨4,0,WT,[],l⟩:F (T n)),r)
  else if s.headD 0=123 then
   match fQ (gB n) (J (s.drop 1)+1) [] [] (s.drop 1) with
   | none=>Y
   | some (ns,l,r)=>Z ((⟨5,0,WT,ns,l⟩:F (T n)),r)
  else if s.headD 0=126 then Z ((⟨6,0,WT,[],[]⟩:F (T n)),s.drop 1)
  else if s.headD 0=63 then
   match gB n (s.drop 1) with
   | none=>Y
   | some (t,r)=>Z ((⟨6,0,WT,[],[t]⟩:F (T n)),r)
  else Y
def EL (f:List UInt8->Option (α × List UInt8)) (txt:α->List UInt8) (g:∀ s t r,f s=Z (t,r)->s=txt t++r)
  (fuel:Nat) (acc:List α) (s:List UInt8) (l:List α) (r:List UInt8) (h:pZ f fuel acc s=Z (l,r)) :
  ∃c,l=acc++c/\s=dH (decide (J acc=0)) (c.map txt)++93 :: r:=by
 induction fuel generalizing acc s with
 | zero=>simp[pZ]at h
 | succ k i=>
  rw[pZ]at h;cases h1:dq [93] s with
  | some r1=>rw[h1]at h;simp only[XP,Prod.mk.injEq]at h;obtain⟨rfl,rfl⟩:=h;exact⟨[],dS,by simpa [dH] using fH h1⟩
  | none=>
   rw[h1]at h;simp only at h;cases h2:(if J acc=0 then Z s else dq [44] s) with
   | none=>rw[h2]at h;cases h
   | some m=>
    rw[h2]at h;simp only at h;cases h3:f m with
    | none=>rw[h3]at h;cases h
    | some x=>
     obtain⟨t,r2⟩:=x;rw[h3]at h;simp only at h;have e:=g _ _ _ h3;have⟨c,j,d⟩:=i _ _ h;have a:decide (J (acc++[t])=0)=false:=dS;rw[a]at d;refine⟨t :: c,by simpa using j,?_⟩;simp only[Xx,dH,QZ];by_cases b:J acc=0
     .rw[Qm b]at h2;cases h2
      simp only[b,XU,XX];rw[<- d];exact e
     .rw[Qd b]at h2;simp only[b,Zq,Xu,Zf,QH];rw[<- d,<- e];exact fH h2
def oQ{s:List UInt8}{c:UInt8}(h:s.headD 0=c)(a:c≠0):s=c :: s.drop 1:=by
 cases s with
 | nil=>exact absurd h.symm a
 | cons d r=>simp at h;subst h;rfl
def Dv:∀(n:Nat)(s:List UInt8)(t:T n)(r:List UInt8),gB n s=Z (t,r)->s=cK n t++r:=by
 intro n;induction n with
 | zero=>intro s t r h;simp[gB]at h
 | succ n f=>
  intro s t r h;rw[gB]at h;split at h
  .cases h1:fy (Dr s) with
   | none=>rw[h1]at h;cases h
   | some m=>
    rw[h1]at h;cases h
    have:=(ob h1).2;simp only[cK,XX];rw[this];exact (EX s).symm
  split at h
  .next hc=>
   cases h1:fh 34 (s.drop 1) with
   | none=>rw[h1]at h;cases h
   | some x=>
    obtain⟨w,r1⟩:=x;rw[h1]at h;cases h
    obtain⟨o,d,e,-⟩:=o7 h1;rw[oQ hc zC,e,d];simp[cK,fG]
  split at h
  .cases h1:dq [121,101,115] s with
   | some r1=>rw[h1]at h;cases h;simpa [cK] using fH h1
   | none=>
    rw[h1]at h;simp only at h;cases h2:dq [110,111] s with
    | some r1=>rw[h2]at h;cases h;simpa [cK] using fH h2
    | none=>rw[h2]at h;cases h
  split at h
  .next hc=>
   cases h1:pZ (gB n) (J (s.drop 1)+1) [] (s.drop 1) with
   | none=>rw[h1]at h;cases h
   | some x=>
    obtain⟨l,r1⟩:=x;rw[h1]at h;cases h
    have⟨g,a,b⟩:=EL _ (cK n) E _ _ _ _ _ h1;simp only[XM]at a;subst a;simp only[Q0,XU,gN]at b;rw[oQ hc zC,b];simp[cK]
  split at h
  .next hc=>
   cases h1:fQ (gB n) (J (s.drop 1)+1) [] [] (s.drop 1) with
   | none=>rw[h1]at h;cases h
   | some x=>
    obtain⟨k,l,r1⟩:=x;rw[h1]at h;cases h
    have⟨j,g,c,a,i,b⟩:=tX _ (cK n) E _ _ _ _ _ _ _ h1;simp only[XM]at c a;subst c a;simp only[Q0,XU,gN]at b;rw[oQ hc zC,b];simp[cK]
  split at h;·next hc=>cases h;rw[oQ hc zC];simp[cK,gA]
  split at h
  .next hc=>
   cases h1:gB n (s.drop 1) with
   | none=>rw[h1]at h;cases h
   | some x=>
    obtain⟨p,r1⟩:=x;rw[h1]at h;cases h
    have:=f _ _ _ h1;rw[oQ hc zC,this];simp[cK,gA]
  .exact eI
def yk (f:List UInt8->Option (α × List UInt8)) (txt:α->List UInt8) (b:List α) (m:∀ k,k∈b->∀ a,lw a=true->f (txt k++a)=Z (k,a))
  (n:∀k,k∈b->∃c r,txt k=c :: r/\Ny c=true) (fuel:Nat) (acc:List α) (a:List UInt8) (g:J b<fuel) :
  pZ f fuel acc (dH (decide (J acc=0)) (b.map txt)++93 :: a)=Z (acc++b,a):=by
 induction b generalizing fuel acc with
 | nil=>
  cases fuel with
  | zero=>simp at g
  | succ k=>simp[pZ,dH,di]
 | cons x b p=>
  cases fuel with
  | zero=>omega
  | succ k=>
   have l:lw (dH false (b.map txt)++93 :: a)=true:=by
    cases b with
    | nil=>rfl
    | cons y r=>rw[Xx,gD];rfl
   have step:=m x zS (dH false (b.map txt)++93 :: a) l;have rest:=p (λk j=>m k (Qt _ j)) (λk j=>n k (Qt _ j)) k (acc++[x]) (by simp at g;omega);have d:decide (J (acc++[x])=0)=false:=dS;rw[d]at rest;have⟨c,r,e,o⟩:=n x zS;simp only[Xx,dH,QZ];by_cases h:J acc=0
   .simp only[h,XU,XX];rw[pZ];have i:dq [93] (txt x++(dH false (b.map txt)++93 :: a))=Y:=by rw[e,QH];exact mJ _ (Nz o).1
    rw[i];simp only[h,XX];rw[step];simp only;rw[rest];exact dS
   .simp only[h,Zq,Zf,Xu,QH];rw[pZ,mJ _ zC];simp only[h,Zf,di];rw[step];simp only;rw[rest];exact dS
def uV (f:List UInt8->Option (α × List UInt8)) (txt:α->List UInt8) (ks:List α) (j:∀ k,k∈ks->∀ post,lw post=true->f (txt k++post)=Z (k,post))
  (ms:List ZB) (d:∀s,s∈ms->c8 s=true) (qe:J ms=J ks) (fuel:Nat) (ns:List ZB) (acc:List α) (post:List UInt8) (b:J ks<fuel) :
  fQ f fuel ns acc (dH (decide (J ns=0)) (dh ms (ks.map txt))++125 :: post)=Z (ns++ms,acc++ks,post):=by
 induction ks generalizing fuel ns acc ms with
 | nil=>
  have:ms=[]:=Qj z8;subst this;cases fuel with
  | zero=>simp at b
  | succ k=>simp[fQ,dH,dh,di]
 | cons x ks q=>
  cases ms with
  | nil=>simp at qe
  | cons m ms=>
  cases fuel with
  | zero=>omega
  | succ k=>
   have l:=d m zS;have h:=i7 l;have i:lw (dH false (dh ms (ks.map txt))++125 :: post)=true:=by
    cases dh ms (ks.map txt) with
    | nil=>rfl
    | cons y r=>rw[gD];rfl
   have step:=j x zS (dH false (dh ms (ks.map txt))++125 :: post) i;have rest:=q (λk o=>j k (Qt _ o)) ms (λs p=>d s (Qt _ p)) z8 k (ns++[m]) (acc++[x]) (by simp at b;omega);have a:decide (J (ns++[m])=0)=false:=dS;rw[a]at rest;have vr:=gX (c:=58) (w:=m.data.toList) (txt x++(dH false (dh ms (ks.map txt))++125 :: post)) (λc n=>(BU (h c n)).1);have⟨c,r,e,g⟩:=BS l;have qW:=BU g;exact Yl
def u7:∀(n:Nat)(t:T n)(d:Int)(a:List UInt8),cS n t d=true->lw a=true->gB n (cK n t++a)=Z (t,a):=by
 intro n;induction n with
 | zero=>intro t d a h;simp[cS]at h
 | succ n u=>
  intro t d a h p;rcases ff h with ⟨k,B,b,f⟩|⟨y,l,b,f⟩|⟨b,f⟩|⟨b,f⟩|⟨j,b,l,f⟩|⟨q,j,b,l,C,K,f⟩|⟨b,f⟩|⟨y,b,l,f⟩
  .rw[f,gB];have⟨c,r,e,v⟩:=tD k;have w:(W6 k++a).headD 0=c:=by rw[e];rfl
   rw[w,Qm v,LZ k p,rC B];simp[b]
  .have e:cK (n+1) t++a=34 :: (y.data.toList++34 :: a):=by rw[f];simp
   rw[e,gB];simp only[XA,Xv,Xn,gX _ (o6 l),nw,b];simp[fw]
  iterate 2
   .rw[f,gB]
    simp only[QH,XM,XA,b]
    simp[fw,dq,List.isPrefixOf]
  .have e:cK (n+1) t++a=91 :: (dH true (j.map (cK n))++93 :: a):=by rw[f,gN];simp
   have m:J j<J (dH true (j.map (cK n))++93 :: a)+1:=by
    have s:=o5 (j.map (cK n)) (λx z=>by
     obtain⟨k,o,rfl⟩:=Xo.1 z
     obtain⟨c,r,e,-⟩:=tC n k (d+1) (l k o)
     rw[e];simp) true
    rw[Qv]at s;simp only[Qi,Qs];omega
   have i:=yk (gB n) (cK n) j (λk o a hp=>u k (d+1) a (l k o) hp) (λk o=>tC n k (d+1) (l k o)) _ [] a m;simp only[Q0,XU,XM]at i;rw[e,gB];simp only[XA,Xv,Xn,i,b];simp[fw]
  .have e:cK (n+1) t++a=123 :: (dH true (dh q (j.map (cK n)))++125 :: a):=by rw[f,gN];simp
   have m:J j<J (dH true (dh q (j.map (cK n)))++125 :: a)+1:=by have s:=o5 (dh q (j.map (cK n))) (Ki _ _) true;rw[eY _ _ (by simpa using l),Qv]at s;simp only[Qi,Qs];omega
   have g:=uV (gB n) (cK n) j (λk o a hp=>u k (d+1) a (K k o) hp) q C l _ [] [] a m;simp only[Q0,XU,XM]at g;rw[e,gB];simp only[XA,Xv,Xn,g,b];simp[fw]
  .rw[f,gB];simp only[QH,XM,XA,b];simp[fw]
  .rw[f,gB];simp only[QH,XA,Xv,Xn,u y (d+1) a l p,b];simp[fw]
def iE(n:Nat)(s:ZB):Option (T n):=
 if s.size<=10000 then
  match gB n s.data.toList with
  | some (t,[])=>if dB n t=true then Z t else Y
  | _=>Y
 else Y
def BW{t:T n}(h:dB n t=true):cS n t 1=true/\cJ n t<=120:=by simpa only[dB,Qc,Qk] using h
def rJ{t:T n}(h:iE n s=Z t):s.size<=10000/\dB n t=true/\cK n t=s.data.toList:=by
 unfold iE at h;split at h
 .next h8=>
  split at h
  .next t' hp=>
   split at h
   .next hok=>
    cases h
    exact⟨h8,hok,by have:=Dv n _ _ _ hp;simpa using this.symm⟩
   .exact eI
  .exact eI
 .exact eI
def Fa{t:T n}(b:s.size<=10000)(a:dB n t=true)(c:cK n t=s.data.toList):iE n s=Z t:=by unfold iE;rw[Qm b,<- c];have:=u7 n t 1 [] (BW a).1 D;rw[XF]at this;rw[this];simp only[a,XX]
def sg(m:Nat)(s:ZB):T (m+1):=(iE (m+1) s).getD (⟨0,0,WT,[],[]⟩:F (T m))
def Jv(m:Nat)(s:ZB):Bool:=(iE (m+1) s).isSome
def tr{t:T (m+1)}(h:iE (m+1) s=Z t):sg m s=t/\Jv m s=true:=by unfold sg Jv;rw[h];exact⟨D,D⟩
def Bv(h:iE (m+1) s=Y):sg m s=(⟨0,0,WT,[],[]⟩:F (T m))/\Jv m s=false:=by unfold sg Jv;rw[h];exact⟨D,D⟩
def Ie(h:¬s.size<=10000):iE n s=Y:=by unfold iE;rw[Qd h]
def sD(M:Nat)(s:ZB):Option (Int×Int×ZB):=
 match iE (M+1) s with
 | some t=>if F.k t<=3 then Z (F.k t,F.n t,F.a t) else Y
 | none=>Y
abbrev Er:=Int×Nat
abbrev Rd3(α:Type):=Except Er (α×Nat×Nat)
def Ha{l:Int×Int×ZB}(h:sD M s=Z l):1<=l.1/\l.1<=3/\cM l.1 l.2.1 l.2.2 [] 0=true:=by
 unfold sD at h;cases hr:iE (M+1) s with
 | none=>rw[hr]at h;cases h
 | some t=>
  rw[hr]at h;dsimp only at h;split at h
  .rename_i c;cases h
   have a:=(BW (rJ hr).2.1).1;simp only[cS,Qc]at a;have ha:oF (show F (T M) from t)=true:=a.1.2;unfold oF at ha;change cM (F.k t) (F.n t) (F.a t) (F.q t) (J (F.o t))=true at ha;dsimp only;have d:1<=F.k t:=by
    rcases Int.lt_or_le 0 (F.k t) with b|b;·omega
    .unfold cM at ha;rw[Qd E,Qd E,Qd E,Qd E,Qd E,Qd E]at ha;cases ha
   refine⟨d,c,?_⟩;have:F.k t=1∨F.k t=2∨F.k t=3:=E;rcases this with e|e|e;·exact PU
   .exact PU
   .exact PU
  .exact eI
def Got{α:Type}(r:Rd3 α)(t:α)(a c:Nat)(b d:Int):Prop:=
 match r with
 | .ok q=>t=q.1/\a=q.2.1/\c=q.2.2/\b=0/\d=0
 | .error e=>b=e.1/\d=(e.2:Int)/\b≠0
def Got.zero{r:Rd3 α}{t:α}{a:Nat}{b:Int}(h:Got r t a c 0 b):r=.ok (t,a,c)/\b=0:=by
 cases r with
 | ok q=>obtain⟨rfl,rfl,rfl,-,h⟩:=h;exact⟨D,h⟩
 | error e=>exact absurd D h.2.2
def bnd(d:Int)(c:Nat):Int:=if 24<d then 3 else if 200<=c then 4 else 0
def ON(M:Nat)(k:s.size<=3000):(∃t:T (M+1),iE (M+1) s=Z t/\F.k t=1/\fy s.data.toList=Z (F.n t))∨((∀t:T (M+1),iE (M+1) s=Z t->F.k t≠1)/\fy s.data.toList=Y):=by
 cases hn:fy s.data.toList with
 | some v=>
  have⟨j,h⟩:=ob hn;refine .inl ⟨(⟨1,v,WT,[],[]⟩:F (T M)),?_,D,D⟩;refine Fa E ?_ ?_
  .have g:cS (M+1) (⟨1,v,WT,[],[]⟩:F (T M)) 1=true:=by show (decide ((1:Int)<=6) && cM 1 v WT [] 0 && List.all ([]:List (T M)) _)=_;simp[cM,j]
   have f:cJ (M+1) (⟨1,v,WT,[],[]⟩:F (T M))=1:=D;simp only[dB,g,f];rfl
  .show (if (1:Int)=1 then W6 v else _)=_;rw[Qm rfl];exact h
 | none=>refine .inr ⟨λt e d=>?_,D⟩;obtain⟨-,i,a⟩:=rJ e;have c:=Ha (M:=M) (s:=s) (l:=(F.k t,F.n t,F.a t)) (by unfold sD;rw[e];dsimp only;rw[Qm E]);have b:=c.2.2;dsimp only at b;rw[d]at b;simp only[cM,XX,Qc,Qk]at b;rw[cK,Qm d]at a;have:=rC (m:=F.n t) E;rw[a,hn]at this;cases this
structure tR(R X Yzq n:Nat)(w wr:Zw)(so nm:Int)(tx:ZB)(ns:List ZB)(ks:List (T n))(nv kv:Zv):Prop where
 near:cH R w wr
 box:wr.heap[X]?=Z (Zc #[I U so,I U nm,Zt tx,nv,kv] 38 (0,0))
 q:wr.ownsRow (Yzq+1) 9 1 nv (J ns) (ns.map Zt)
 short:∀s,s∈ns->s.size<=10000
 o:∃xs,wr.ownsRow (Yzq+1) 38 5 kv (J ks) xs/\∀j (h:j<J ks),∃c0 c1 c2 c3 c4,(xs[j*5]?=Z c0/\xs[j*5+1]?=Z c1/\xs[j*5+2]?=Z c2/\xs[j*5+3]?=Z c3/\xs[j*5+4]?=Z c4)/\b8 (YN (Yzq+1) nv kv wr.heap.size) wr n ks[j] c0 c1 c2 c3 c4
 apart:∀b,nv.ownBlock=Z b->kv.ownBlock≠Z b
 xy:X<=Yzq/\Yzq<wr.heap.size
def tR.lt{a:List (T n)}(h:tR R X Yzq n w wr so nm tx ns a nv kv):X<wr.heap.size:=(Qe.1 h.box).1
def tR.keep{e:List (T n)}(h:tR R X Yzq n w wr so nm tx ns e nv kv)(i:R<X)(hn:cH R wr W):tR R X Yzq n w W so nm tx ns e nv kv:=by
 have k:=h.lt;have l:=h.xy;have hs:∀b,X<=b->b<wr.heap.size->W.heap[b]?=wr.heap[b]?:=λb o f=>hn.block b f E;have⟨m,d,hk⟩:=h.o;refine⟨h.near.trans hn,by rw[hs X (QD _) k];exact h.box,eT h.q λg a=>?_,h.short,⟨m,eT d λg a=>?_,λj hj=>?_⟩,h.apart,⟨E,by have c:=h.xy.2;first|exact Qn c hn.size|(rw[hsz];exact c)⟩⟩;·have:=dT h.q g a;exact hs g E E
 .have:=dT d g a;exact hs g E E
 .exact Yz
def tR.name {i:List (T n)} {one:Obj} (h:tR R X Yzq n w W so nm tx ns i nv kv) (o:w.heap.size<=X)
  (ha:Wa.heap=W.heap.push one) (ho:Wa.os=W.os/\Wa.tape=W.tape/\Wa.output=W.output) (hx:x.size<=10000)
  (a:W2.ownsRow (Yzq+1) 9 1 (A (b5 g 0) (J ns+1) cap) (J ns+1) (ns.map Zt++[Zt x])) (qg:Wa.grownBy W2 nv.ownBlock) (qy:nv.ownBlock=Z g∨g=W.heap.size+1) :
  tR R X Yzq n w (W2.setCell ⟨X,3,Y⟩ (A (b5 g 0) (J ns+1) cap)) so nm tx (ns++[x]) i (A (b5 g 0) (J ns+1) cap) kv:=by
 have k:=h.lt;have d:=h.xy;have p:W2.heap.size ≥ W.heap.size+1:=pP;have qS:=dT h.q;have l:=dT a g D;have q:∀b,b<W.heap.size->nv.ownBlock≠Z b->W2.heap[b]?=W.heap[b]?:=λb hb qh=>by exact Gc
 have qs:∀b,b≠X->(W2.setCell ⟨X,3,Y⟩ (A (b5 g 0) (J ns+1) cap)).heap[b]?=W2.heap[b]?:=λb hb=>Qr _ _ _ _ hb;have qo:(W2.setCell ⟨X,3,Y⟩ (A (b5 g 0) (J ns+1) cap)).heap.size=W2.heap.size:=dS;have f:nv.ownBlock≠Z X:=λe=>Co;have qF:=(q X k f).trans h.box;have⟨m,c,hk⟩:=h.o;have qn:=dT c;refine⟨⟨?_,?_,?_,JR,λb hb qh=>?_⟩,?_,?_,?_,⟨m,eT c λg' qC=>?_,λj hj=>?_⟩,λb hb=>?_,⟨d.1,by first|(rw[qo,p5s];omega)|(rw[qo];omega)⟩⟩;·exact F0
 .exact FX
 .exact FY
 .exact P0
 .exact ox
 .rw[Qi,QM,Q8,XV];exact eT a λg' qC=>qs g' (by have:=dT a g' qC;omega)
 .exact FQ
 .exact MP
 .exact Yp
 .exact FC
def eX {N:Nat} (h:w.heap[N]?=Z d8) :
  (a7 w N 0=Z (I U 0)/\a7 w N 1=Z (I U 0)/\a7 w N 2=Z (Zt ⟨#[]⟩)/\a7 w N 3=Z (A Y 0 0)/\a7 w N 4=Z (A Y 0 0)) /\
   w.frozen? ⟨N,0,Y⟩=false/\w.frozen? ⟨N,1,Y⟩=false/\w.frozen? ⟨N,2,Y⟩=false/\w.frozen? ⟨N,3,Y⟩=false/\w.frozen? ⟨N,4,Y⟩=false:=by refine⟨⟨?_,?_,?_,?_,?_⟩,?_,?_,?_,?_,?_⟩<;>simp[World.cell?,World.frozen?,h]
def iN(S:ZN)(w:Zw)(m:Nat)(x v:Int)(b:(Ud U x).wf=true)(a:(Ud U v).wf=true)(c:tx.size<=10000):cT S w (m+1) (⟨x,v,tx,[],[]⟩:F (T m)) (I U x) (I U v) (Zt tx) (A Y 0 0) (A Y 0 0):=
 ⟨D,D,D,by show tx.size<=_;unfold WX;omega,b,a,⟨Y,0,rfl,gO,zS,zS⟩,⟨Y,0,rfl,gO,zS⟩⟩
def wfT{x:Int}(c : -9999999999<=x)(d:x<=9999999999):(Ud U x).wf=true:=by simp only[Lit.wf,Qc,Qk];have a:IntKind.i64.min = -9223372036854775808:=cU;have b:IntKind.i64.max=9223372036854775807:=cU;rw[a,b];omega
def kD {t:T m} {g0 g1 g2 g3 g4:Zv} (c:cH R w W) (l:R<w.heap.size) (j:d9 W R s i' bad') (g:cT (λb=>w.heap.size+1<=b/\b<W.heap.size) W m t g0 g1 g2 g3 g4) (f:pL m n s i bad t i' bad') :
  dW m n w R s i bad (Zr (Za #[g0,g1,g2,g3,g4])) (eF W w.heap.size 0 g0 g1 g2 g3 g4):=by have q:∀b,b≠w.heap.size->(eF W w.heap.size 0 g0 g1 g2 g3 g4).heap[b]?=W.heap[b]?:=λb h=>dt h;have k:(eF W w.heap.size 0 g0 g1 g2 g3 g4).heap.size=W.heap.size:=eJ;have a:Below 0 W (eF W w.heap.size 0 g0 g1 g2 g3 g4):=dk (Qg 0 W) E;exact⟨⟨a.os.trans c.os,a.tape.trans c.tape,a.output.trans c.output,by rw[k];exact c.size,λb e d=>(q b E).trans (c.block b e d)⟩,t,_,_,_,_,_,i',bad',D,g.keep FN E,(q R E).trans j,f⟩
def Jc (n m:Nat) (h:d9 w R s i bad) (a:bad=true∨n=0) (k:bad=false->i<=s.size) :
  WU WV 186 #[Zp (b5 R 0),I U (7-(n:Int))] w (dW (m+1) n w R s i bad):=by
 have f:=h.lt;have e:pL (m+1) n s i bad (⟨0,0,⟨#[]⟩,[],[]⟩:F (T m)) i true:=by
  refine⟨E,zS,λc=>(by have:=k c;omega),E,λt0 d c l j _=>?_⟩;rcases a with a|a;·rw[a]at c;cases c
  .subst a;simp[cS]at j
 have HP:G (∀o,dW (m+1) n w R s i bad (Zr (Za #[I U 0,I U 0,Zt ⟨#[]⟩,A Y 0 0,A Y 0 0])) ((w.setCell ⟨R,2,Y⟩ (Zb true)).alloc o)):=λo=>⟨(cH.set R 2 w _).trans (cH.alloc _ _ _),_,_,_,_,_,_,i,true,D,iN _ _ m 0 0 D D zC,(Qf _ _ _ (by simpa using f)).trans (h.set2 true),e⟩;have c2:=h.cell2;have fz:=h.free 2;have b:bad=false->(6:Int)<7-(n:Int):=λc=>by
  rcases a with a|a;·rw[a]at c;cases c
  .omega
 cases bad with
 | true=>go_enter func186,ntmps186;exact T5
 | false=>have g:=b D;go_enter func186,ntmps186;exact T5
def qaJ (n m:Nat) (h:d9 w R s i false) (C:s.size<=10000) (p:i<=s.size) (hl:cF s i=121) :
  WU WV 186 #[Zp (b5 R 0),I U (7-((n+1:Nat):Int))] w (dW (m+1) (n+1) w R s i false):=by
 have u:=h.lt;have⟨O,g,K,c2,z⟩:=fj (k:=121) d8 h fi;have j:¬(6:Int)<7-((n+1:Nat):Int):=E;have b:=a8 hl;generalize B:7-((n+1:Nat):Int)=dp at *;go_enter func186,ntmps186;go_wp2_with fail;rw[<- g];refine H z ?_;rintro e P ⟨rfl,c,r,L,f⟩;have y:=a8 (fC ⟨#[121,101,115]⟩ r C zC p);go_wp2_with fail;refine H y ?_;rintro e N ⟨rfl,a,q⟩;have⟨⟨r0,r1,r2,r3,r4⟩,f0,f1,f2,f3,f4⟩:=eX ((a.block w.heap.size E E).trans E);have HP:G (dW (m+1) (n+1) w R s i false (Zr (Za #[I U 3,I U 1,Zt ⟨#[]⟩,A Y 0 0,A Y 0 0])) (eF N w.heap.size 0 (I U 3) (I U 1) (Zt ⟨#[]⟩) (A Y 0 0) (A Y 0 0))):=by
  rcases q with ⟨v,M,t⟩|⟨v,t⟩;·exact kD (c.trans a) u t (iN _ _ m 3 1 D D zC) (nP (x:=⟨#[121,101,115]⟩) p (.inl ⟨v,M,D,D⟩) zC (λt0 d l o=>Kh b l o))
  .exact kD (c.trans a) u t (iN _ _ m 3 1 D D zC) (nP (x:=⟨#[121,101,115]⟩) p zE zC (λt0 d l o=>Kh b l o))
 exact io
def qcC (n m:Nat) (h:d9 w R s i false) (C:s.size<=10000) (p:i<=s.size) (hl:cF s i=110) :
  WU WV 186 #[Zp (b5 R 0),I U (7-((n+1:Nat):Int))] w (dW (m+1) (n+1) w R s i false):=by
 have u:=h.lt;have⟨O,g,K,c2,z⟩:=fj (k:=110) d8 h fi;have j:¬(6:Int)<7-((n+1:Nat):Int):=E;have b:=a8 hl;generalize B:7-((n+1:Nat):Int)=dp at *;go_enter func186,ntmps186;go_wp2_with fail;rw[<- g];refine H z ?_;rintro e P ⟨rfl,c,r,L,f⟩;have y:=a8 (fC ⟨#[110,111]⟩ r C zC p);go_wp2_with fail;refine H y ?_;rintro e N ⟨rfl,a,q⟩;have⟨⟨r0,r1,r2,r3,r4⟩,f0,f1,f2,f3,f4⟩:=eX ((a.block w.heap.size E E).trans E);have HP:G (dW (m+1) (n+1) w R s i false (Zr (Za #[I U 3,I U 0,Zt ⟨#[]⟩,A Y 0 0,A Y 0 0])) (eF N w.heap.size 0 (I U 3) (I U 0) (Zt ⟨#[]⟩) (A Y 0 0) (A Y 0 0))):=by
  rcases q with ⟨v,M,t⟩|⟨v,t⟩;·exact kD (c.trans a) u t (iN _ _ m 3 0 D D zC) (nP (x:=⟨#[110,111]⟩) p (.inl ⟨v,M,D,D⟩) zC (λt0 d l o=>OL b l o))
  .exact kD (c.trans a) u t (iN _ _ m 3 0 D D zC) (nP (x:=⟨#[110,111]⟩) p zE zC (λt0 d l o=>OL b l o))
 exact io
def R2 (n m:Nat) (h:d9 w R s i false) (C:s.size<=10000) (p:i<=s.size) (hl:cF s i=126) :
  WU WV 186 #[Zp (b5 R 0),I U (7-((n+1:Nat):Int))] w (dW (m+1) (n+1) w R s i false):=by
 have u:=h.lt;have⟨O,g,K,c2,z⟩:=fj (k:=126) d8 h fi;have j:¬(6:Int)<7-((n+1:Nat):Int):=E;have b:=a8 hl;generalize B:7-((n+1:Nat):Int)=dp at *;go_enter func186,ntmps186;go_wp2_with fail;rw[<- g];refine H z ?_;rintro e P ⟨rfl,c,r,L,f⟩;have y:=a8 (fC ⟨#[126]⟩ r C zC p);go_wp2_with fail;refine H y ?_;rintro e N ⟨rfl,a,q⟩;have⟨⟨r0,r1,r2,r3,r4⟩,f0,f1,f2,f3,f4⟩:=eX ((a.block w.heap.size E E).trans E);have HP:G (dW (m+1) (n+1) w R s i false (Zr (Za #[I U 6,I U 0,Zt ⟨#[]⟩,A Y 0 0,A Y 0 0])) (eF N w.heap.size 0 (I U 6) (I U 0) (Zt ⟨#[]⟩) (A Y 0 0) (A Y 0 0))):=by
  rcases q with ⟨v,M,t⟩|⟨v,t⟩;·exact kD (c.trans a) u t (iN _ _ m 6 0 D D zC) (nP (x:=⟨#[126]⟩) p (.inl ⟨v,M,D,D⟩) zC (λt0 d l o=>EV b l o))
  .exact kD (c.trans a) u t (iN _ _ m 6 0 D D zC) (nP (x:=⟨#[126]⟩) p zE zC (λt0 d l o=>EV b l o))
 exact io
def R4 (n m:Nat) (h:d9 w R s i false) (Q:s.size<=10000) (P:i<=s.size) (hl:cF s i=34) :
  WU WV 186 #[Zp (b5 R 0),I U (7-((n+1:Nat):Int))] w (dW (m+1) (n+1) w R s i false):=by
 have N:=h.lt;have⟨qc,j,V,c2,B⟩:=fj (k:=34) d8 h fi;have t:¬(6:Int)<7-((n+1:Nat):Int):=E;have f:=a8 hl;have d:i<s.size:=Qx λO=>J2;have g:s[i]=34:=by rw[<- ky d];exact hl
 clear h hl;generalize u:7-((n+1:Nat):Int)=dp at *;clear u;go_enter func186,ntmps186;go_wp2_with fail;rw[<- j];clear j c2;refine H B ?_;rintro e L ⟨rfl,l,p,W,c⟩;have C:G (WU WV 222 #[Zp (b5 R 0)] L (DW L R s i false)):=Pk p Q d g;clear B p g;go_wp2_with fail;refine H C ?_;rintro e M ⟨b,o⟩;obtain⟨x,v,a,rfl,S,q,K⟩:∃(x:ZB)(v:Nat)(a:Bool),e=Zr (Zt x)/\x.size<=10000/\d9 M R s v a/\pL (m+1) (n+1) s i false (⟨2,0,x,[],[]⟩:F (T m)) v a:=by
  rcases o with ⟨x,r,y,rfl,z,ql⟩|⟨y,x,qa,rfl,z⟩;·exact⟨bs x,_,false,D,o9,z,Ic f y ql⟩
  .exact⟨x,s.size,true,D,qa,z,Ib f P y⟩
 have X:=b.size;have⟨⟨r0,r1,r2,r3,r4⟩,f0,f1,f2,f3,f4⟩:=eX ((b.block w.heap.size E E).trans E);have HP:G (dW (m+1) (n+1) w R s i false (Zr (Uy 2 0 x Y 0 0 Y 0 0)) (eF M w.heap.size 0 (I U 2) (I U 0) (Zt x) (A Y 0 0) (A Y 0 0))):=
  kD (l.trans b) N q (iN _ _ m 2 0 D D S) K
 clear C o b l c q K;exact io
def qaI (n m:Nat) (h:d9 w R s i false) (q6:s.size<=10000) (hi:i<=s.size) (j:¬ cF s i=34) (l:¬ cF s i=121) (o:¬ cF s i=110) (p:¬ cF s i=126) (q:¬ cF s i=63) (r:¬ cF s i=91) (t:¬ cF s i=123) :
  WU WV 186 #[Zp (b5 R 0),I U (7-((n+1:Nat):Int))] w (dW (m+1) (n+1) w R s i false):=by
 have q8:=h.lt;have⟨W1,L,ab,c2,q5⟩:=fj d8 h D;have S:¬(6:Int)<7-((n+1:Nat):Int):=E;have a:∀c:UInt8,¬cF s i=c->((((cF s i).toNat:Nat):Int)==(c.toNat:Int))=false:=λc ql=>by rw[Q6];intro e;apply ql;apply X8.1;omega
 have e1:((((cF s i).toNat:Nat):Int)==34)=false:=a 34 j;have e2:((((cF s i).toNat:Nat):Int)==121)=false:=a 121 l;have e3:((((cF s i).toNat:Nat):Int)==110)=false:=a 110 o;have e4:((((cF s i).toNat:Nat):Int)==126)=false:=a 126 p;have e5:((((cF s i).toNat:Nat):Int)==63)=false:=a 63 q;have e6:((((cF s i).toNat:Nat):Int)==91)=false:=a 91 r;have e7:((((cF s i).toNat:Nat):Int)==123)=false:=a 123 t;have j2:G (¬cF s i=34/\¬cF s i=121/\¬cF s i=110/\¬cF s i=126/\¬cF s i=63/\¬cF s i=91/\¬cF s i=123):=⟨j,l,o,p,q,r,t⟩;have C:G (∀x,d9 x R s i false->WU WV 224 #[Zp (b5 R 0)] x λe z=>cH R x z/\∃(v:Int)(B:Nat)(b:Bool),e=Zr (I U v)/\(Ud U v).wf=true/\d9 z R s B b/\pL (m+1) (n+1) s i false (⟨1,v,WT,[],[]⟩:F (T m)) B b):=by
  intro x g;have K:∀(neg:Bool)(f:Nat),neg=decide (cF s i=45)->f=(if neg=true then i+1 else i)->∀e z,CH x R s false neg f e z->(cH R x z/\∃(v:Int)(B:Nat)(b:Bool),e=Zr (I U v)/\(Ud U v).wf=true/\d9 z R s B b/\pL (m+1) (n+1) s i false (⟨1,v,WT,[],[]⟩:F (T m)) B b):=by rintro neg f P qq e z ⟨hn,k,hk,j0,y,M,rfl,hr⟩;have W:=oL y rd;refine⟨hn,_,f+k,_,D,?_,hr,OM j l o p q r t P qq j0 y M D⟩;generalize fa ((s.data.toList.drop f).take k)=u at W;refine wfT ?_ ?_<;>(cases neg<;>simp<;>omega)
  by_cases d:cF s i=45
  .have N:i<s.size:=Qx λaa=>by rw[ir s i E]at d;exact absurd d zC
   exact (So g q6 N d).mono (K true (i+1) (by simp[d]) D)
  .exact (Sp g q6 hi d).mono (K false i (by simp[d]) D)
 clear a j l o p q r t;generalize ((cF s i).toNat:Nat)=cc at *;clear h;generalize V:7-((n+1:Nat):Int)=dp at *;clear V;go_enter func186,ntmps186;go_wp2_with fail;rw[<- L];clear L c2;refine H q5 ?_;rintro e x ⟨rfl,X,g,ac,Q⟩;have qa:G (WU WV 224 #[Zp (b5 R 0)] x _):=C.out x g;clear q5 g C;go_wp2_with fail;refine H qa ?_;rintro e w3 ⟨O,v,B,b,rfl,q9,q7,qc⟩;have⟨⟨r0,r1,r2,r3,r4⟩,f0,f1,f2,f3,f4⟩:=eX ((O.block w.heap.size E E).trans E);have HP:G (dW (m+1) (n+1) w R s i false (Zr (Za #[I U 1,I U v,Zt ⟨#[]⟩,A Y 0 0,A Y 0 0])) (eF w3 w.heap.size 0 (I U 1) (I U v) (Zt ⟨#[]⟩) (A Y 0 0) (A Y 0 0))):=
  kD (X.trans O) q8 q7 (iN _ _ m 1 v D q9 zC) qc
 exact io
