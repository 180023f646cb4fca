import Derived.Test.YtkcollkaldkccaaGreatDoorB12
import Derived.Test.YtkcollkaldkccaaGreatDoorB9
import Derived.Test.YtkcollkaldkccaaGreatDoorB15
set_option linter.all false
open List renaming length -> J,range->Ua
open Go.Calls renaming mono -> H
open Go.Value renaming slice->A,int->I,string->Zt,pointer->Zp,agg->Za,tuple->Zu,bool->Zb,string->Ul,slice->Uc
open Go.IntKind renaming i64->U
open Go.Ending renaming returned->Zr
open Go.Obj renaming cells->Zc
open Option renaming none->Y,some->Z
open Go renaming World->Zw,Value->Zv,maxLen->WX,TypeId->W9,wpAnyH->Uv,Calls->WU,undef->Ui
open ByteArray renaming empty->WT
open Go.Region renaming binds->Up,ready->Ut
open Array renaming getD->Uu
open Go.Oper renaming wp->Us
open Go.Proofs.Tryz renaming prog->WV
open Go.RowKit renaming Hid->G
namespace Go.Proofs.YtkcollkaldkccaaGreatDoor
open Go.RowKit Go.Proofs.Tryz
set_option maxRecDepth 100000
set_option maxHeartbeats 16000000
variable {S S' B:ZN} {l:List ZB} {v v' c0 c1 c2 c3 c4 g0 g1 g2 g3 g4 x a1 a2 a3 a4 p3 p4:Zv} {w w' W2 w5 V0 W u':Zw} {α Hzq:Type} {k:Int} {b M n d X g nl cap Ezq i m f u s t N o fm fs fu fuel C:Nat} {L L3 L4:List cZ} {a a0:Act} {Uzq:List Nat} {e:Ending} {ops:Array Oper} {md:Region.Mode} {Dzq:Nat->Tmp} {Jzq:Nat->Zv->(ZN)->Zw->Prop} {listed:Array Bool} {P:Program} {spare:Nat->Bool} {held:Bool}
def mN(l:List ZB)(k:Nat)(left:Int):Int:=left-J l-cG (λs:ZB=>s.size) (l.take k)
def Il(l:List ZB):gV l=J l+cG (λs:ZB=>s.size) l:=by
 induction l with
 | nil=>rfl
 | cons x r a=>simp only[gV,cG,Qs,a];omega
def A6 {left:Int} (y:cR S w l v) (K : -1<=left) (u:left<=1048576) :
  WU WV 18 #[v,I U left] w λe B=>e=Zr (I U (dQ (gV l) left))/\B=w:=by
 obtain⟨C,cap,rfl,f,n,j⟩:=y;unfold WX at f;by_cases p:left-J l<0;·go_in;go_wp2;go_ret;exact⟨dd (by rw[dQ,Il,Qd E]),D⟩
 go_in;go_wp2;go_loop [1,5] (λa i=>∃k:Nat,k<=J l/\i=I U k/\a=I U (mN l k left)/\0<=mN l k left) (λ_ i=>J l-(intOf i).toNat);case atStart=>exact⟨0,E,D,by simp[mN,cG],by simp[mN,cG];omega⟩
 case round=>
  obtain⟨k,M,rfl,rfl,q⟩:=hrel;have z:mN l k left<=1048576:=by unfold mN;omega
  by_cases qf:k<J l
  .obtain⟨b,off,rfl,-,c⟩:=j nS;have x:=c k qf;have o:=n l[k] zS;have g:G (mN l (k+1) left=mN l k left-(l[k].size:Int)):=by show _=_;unfold mN;rw[dw _ qf];omega
   have t:G (mN l (k+1) left=left-J l-cG (λs:ZB=>s.size) (l.take (k+1))/\cG (λs:ZB=>s.size) (l.take (k+1))<=cG (λs:ZB=>s.size) l):=by refine⟨D,?_⟩;have:=eV (λs:ZB=>s.size) (l.take (k+1)) (l.drop (k+1));rw[Q2]at this;omega
   unfold WX at o;clear j n c;generalize l[k]=s at *;generalize mN l k left=m at *;go_wp2;·go_ret;refine⟨dd ?_,D⟩;have u:=g.out;have L:=t.out;rw[dQ,Il,Qd E]
   .go_round;case rel=>exact⟨k+1,E,ew,by rw[g.out],by rw[g.out];omega⟩
    case measure=>exact eb
  .have d:k=J l:=E;have r:G (mN l k left=dQ (gV l) left):=by
    show _=_;have e:mN l k left=left-(gV l:Int):=by unfold mN;rw[Il,d,QG];omega
    rw[dQ,Qm E,e]
   clear d j n;go_wp2;go_ret;exact⟨dd r,D⟩
def gz{α:Type}(f:α->Nat)(l:List α)(k:Nat)(left:Int):Int:=dQ (J l+cG f (l.take k)) left
def nL(f:α->Nat)(l:List α):cG (λk=>f k+1) l=J l+cG f l:=by
 induction l with
 | nil=>rfl
 | cons x r a=>simp only[cG,Qs,a];omega
def yj(f:α->Nat){l:List α}{k:Nat}(left:Int)(h:k<J l):gz f l (k+1) left=dQ (f l[k]) (gz f l k left):=by unfold gz;rw[nE,dw _ h];congr 1;omega
def xu (z:cR S w l v) (p:cR S' w l v') (y:Bd S w) (m:∀ b,S' b->b<w.heap.size) :
  WU WV 37 #[v,v'] w λe K=>e=Zr (Zb true)/\Bw w K:=by
 obtain⟨L,cap,rfl,j,q,o⟩:=z;obtain⟨u,r,rfl,-,-,f⟩:=p;unfold WX at j;have B:((J l:Int) != (J l:Int))=false:=zS;go_in;go_wp2;go_loopw [5] (λi wr=>∃k:Nat,k<=J l/\i=I U k/\Bw w wr) (λi _=>J l-(intOf i).toNat);case atStart=>exact⟨0,E,D,Qg _ _⟩
 case round=>
  obtain⟨k,M,rfl,a⟩:=hrel;by_cases qf:k<J l
  .obtain⟨b,off,rfl,n,d⟩:=o nS;obtain⟨x,t,rfl,g,c⟩:=f nS;have f0:=kC a (d k qf) (y b n);have f1:=kC a (c k qf) (m x g);have C:=q l[k] zS;clear o f d c q;generalize l[k]=s at *;go_wp2_with fail;go_region;all_goals go_wp2_with fail
   all_goals
    go_roundw
    case rel=>exact⟨k+1,E,ew,a.drew⟩
    case measure=>exact eb
  .clear o f q;go_wp2;go_ret;exact⟨D,a⟩
def Ai:∀(L:List cZ)(w:Zw)(k:Int),(∀s,s∈L->s.b≠b)->(et w L k).heap[b]?=w.heap[b]?:=by
 intro L;induction L with
 | nil=>intro w k _;rfl
 | cons s r a=>intro w k h;rw[et,a _ _ Bh];exact Qr _ _ _ _ (λe=>h s (XT ..) e.symm)
def dA.other(h:dA L k w w')(c:b<w.heap.size)(a:∀s,s∈L->s.b≠b):w'.heap[b]?=w.heap[b]?:=(h.block b c).trans (Ai L w k a)
def dA.below_of{a:Zw}(h:Below M a w)(g:M<=w.heap.size)(c:dA L k w w')(d:∀s,s∈L->M<=s.b):Below M a w':=
 ⟨c.os.trans h.os,c.tape.trans h.tape,c.output.trans h.output,Q1 h.size c.size,λb e=>(c.other E (λs f=>by have:=d s f;omega)).trans (h.block b e)⟩
def dA.holds(h:dA L k w w')(c:∀s,s∈L->s.ok w)(hp:L.Pairwise (λa b=>a.at≠b.at)):Holds w' L k:=
 (Aj L w k c hp).keep (λs d=>Ql (w:=et w L k) (w':=w') (a:=s.at) (h.block s.b (cZ.ok_lt (c s d))))
def qaU:∀(n:Nat)(t:T n)(d:Int),cS n t d=true->B7 n t+4<=4*cJ n t:=by
 intro n;induction n with
 | zero=>intro t d h;simp[cS]at h
 | succ n p=>
  intro t d h;have g:∀b:List (T n),(∀k,k∈b->cS n k (d+1)=true)->J b+cG (λk=>3+B7 n k) b<=4*cG (λk=>cJ n k) b:=by
   intro b;induction b with
   | nil=>intro _;simp[cG]
   | cons k r f=>intro e;have s:=p k (d+1) (e k zS);have j:=f (λx o=>e x (Qt _ o));simp only[cG,Qs]at j ⊢;omega
  have l:cJ (n+1) t=1+cG (λk=>cJ n k) (F.o t):=D;have m:B7 (n+1) t=J (F.q t)+cG (λk=>3+B7 n k) (F.o t):=D;rw[l,m];have e:=Qo.1 (by simp only[cS,Qc]at h;exact h.2);have q:=g (F.o t) e;have u:J (F.q t)<=J (F.o t):=by
   rcases ff h with ⟨k,w,a,c⟩|⟨y,i,a,c⟩|⟨a,c⟩|⟨a,c⟩|⟨b,a,i,c⟩|⟨v,b,a,i,z,B,c⟩|⟨a,c⟩|⟨y,a,i,c⟩;case inr.inr.inr.inr.inr.inl=>rw[a];exact zE
   all_goals (rw[a];exact Q9 _)
  omega
def YM(n:Nat):Prop:=∀(S:ZN)(t:T n)(d:Int)(c0 c1 c2 c3 c4:Zv)(w:Zw),cS n t d=true->cJ n t<=120->b8 S w n t c0 c1 c2 c3 c4->Bd S w ->
 WU WV 25 #[Za #[c0,c1,c2,c3,c4]] w (Bo (λ_=>False) n t w)
def N1{t:T (n+1)}{d:Int}(g:cS (n+1) t d=true)(q:cJ (n+1) t<=120):J (F.q t)<=119/\(∀s,s∈F.q t->s.size<=10000)/\J (F.o t)<=119/\∀x,x∈F.o t->cS n x (d+1)=true/\cJ n x<=120:=by
 obtain⟨-,a,m⟩:=dY g;have o:cJ (n+1) t=1+cG (λx=>cJ n x) (F.o t):=D;have p:=mR (n:=n) (d:=d+1) (l:=F.o t) zE;have e:F.q t=[]∨(J (F.q t)=J (F.o t)/\ee (F.q t)=true):=by
  by_cases c:F.k t=5;·right;rw[c]at a;simp[cM]at a;exact⟨E,a.2⟩
  .left;apply Qj;unfold cM at a;repeat' split at a
   all_goals first
    | (cases a;done)
    | (exfalso;exact c nM)
    | (simp only[Qc,QP]at a;omega)
 refine⟨?_,λs b=>?_,E,λx f=>⟨m x f,?_⟩⟩
 .rcases e with h|h;·rw[h];exact Q9 _
  .omega
 .rcases e with h|h;·rw[h]at b;cases b
  .obtain⟨i,j,rfl⟩:=QT b;have:=I9 h.2 j;omega
 .have:cJ n x<=cG (λk=>cJ n k) (F.o t):=eK _ _ _ f;omega
structure qbM(k:List ZB)(so nu:Int)(tx:ZB)(nv:Zv)(X:Nat)(W2 W:Zw):Prop where
 below:Bw W2 W
 box:W.heap[X]?=Z (Zc #[I U so,I U nu,Zt tx,nv,A Y 0 0] 31 (0,0))
 q:cR (λb=>W2.heap.size<=b/\b<W.heap.size/\b≠X) W k nv
 cap:gQ nv
 x:W2.heap.size<=X
def IU {k:List ZB} {so nu:Int} {tx:ZB} {d:Zv} {a:Zw} (c:Bw W2 a) (g:a.heap[X]?=Z d8) (e:W2.heap.size<=X) (hN:cR (λb=>W2.heap.size<=b/\b<a.heap.size/\b≠X) a k d) (f:gQ d) :
  qbM k so nu tx d X W2 (eF a X 0 (I U so) (I U nu) (Zt tx) d (A Y 0 0)):=
 ⟨dk c e,nH g,hN.keep (λb c=>dt E) λb c=>⟨c.1,by rw[eJ];exact E,E⟩,f,e⟩
def Kw{k:List ZB}{e:W9}(a:w5.ownsRow W2.heap.size e 1 (A (b5 g 0) nl cap) nl (k.map Zt))(d:J k=nl)(f:nl<=20000)(i:∀x,x∈k->x.size<=10000)(j:g≠X):cR (λb=>W2.heap.size<=b/\b<w5.heap.size/\b≠X) w5 k (A (b5 g 0) nl cap):=by
 subst d;refine go a f i λq c=>?_;have h:=cO a q c;have e:g=q:=by simpa [Value.ownBlock] using c
 exact⟨h.1,h.2,E⟩
def CN {k:List ZB} {V a:Zw} (h:Bw W2 V) (e:V.grownBy w5 (Z Ezq)) (n:W2.heap.size<=Ezq) (c:w5.ownsRow W2.heap.size 9 1 (A (b5 g 0) nl cap) nl (k.map Zt)) (j:J k=nl) (l:nl<=20000) (m:∀ x,x∈k->x.size<=10000) (f:Bw w5 a) (i:g≠X) :
  Bw W2 w5/\Bw W2 a/\cR (λb=>W2.heap.size<=b/\b<a.heap.size/\b≠X) a k (A (b5 g 0) nl cap)/\gQ (A (b5 g 0) nl cap):=by have d:=h.grown e h.size zE;have o:=f.size;exact⟨d,d.trans (f.mono d.size),(Kw (X:=X) c j l m i).keep (λb h=>f.block b E) E,oJ c⟩
def Ku {wc wr c v3:Zw} {acc:List (T n)} {K:T n} {L M N O l:Zv} {xs:List Zv} {one:Obj} (B:Bd S w) (d:cH X wc wr) (x:wr.heap[X]?=Z (Zc #[L,M,N,O,l] 31 (0,0))) (qc:w.heap.size+1<X) (t:X<wc.heap.size) (m:Bw wr.drew c) (V:J acc=i)
  (k:∀q,l.ownBlock=Z q->wc.heap.size<=q/\q<wr.heap.size) (z:c.ownsRow wc.heap.size 31 5 l i xs)
  (R:∀j (h:j<J acc),∃c0 c1 c2 c3 c4,(xs[j*5]?=Z c0/\xs[j*5+1]?=Z c1/\xs[j*5+2]?=Z c2/\xs[j*5+3]?=Z c3/\xs[j*5+4]?=Z c4)/\b8 (DT S w.heap.size (w.heap.size+1) X l.ownBlock c) c n acc[j] c0 c1 c2 c3 c4)
  (y:b8 (Ov S wr.drew.heap.size Y c) c n K c0 c1 c2 c3 c4) (r:v3.ownsRow wc.heap.size 31 5 (A (b5 g 0) (i+1) cap) (i+1) (xs++[c0,c1,c2,c3,c4])) (a:(c.alloc one).grownBy v3 l.ownBlock) (u:l.ownBlock=Z g∨g=c.heap.size+1) :
  cH X wc (v3.setCell ⟨X,4,Y⟩ (A (b5 g 0) (i+1) cap))/\(v3.setCell ⟨X,4,Y⟩ (A (b5 g 0) (i+1) cap)).heap[X]?=Z (Zc #[L,M,N,O,A (b5 g 0) (i+1) cap] 31 (0,0))/\pM S w (v3.setCell ⟨X,4,Y⟩ (A (b5 g 0) (i+1) cap)) (w.heap.size+1) X wc.heap.size (acc++[K]) (A (b5 g 0) (i+1) cap):=by
 have qa:=d.size;have Q:wr.heap.size<=c.heap.size:=m.size;have s:∀b,Ov S wr.drew.heap.size Y c b->DT S w.heap.size (w.heap.size+1) X l.ownBlock c b:=λb f=>f.imp id λh=>by have ql:wr.heap.size<=b:=h.1;exact⟨E,h.2.1,E,E,λe=>by have:=k b e;omega⟩
 have⟨W,C,F⟩:=pM.push (Wa:=c.alloc one) (one:=one) B E E (y.keep ik s) D V z R r a u;have o:∀b,b<wr.heap.size->c.heap[b]?=wr.heap[b]?:=λb f=>m.block b f;have P:∀b,b≠X->(v3.setCell ⟨X,4,Y⟩ (A (b5 g 0) (i+1) cap)).heap[b]?=v3.heap[b]?:=λb f=>Qr _ _ _ _ f;have qo:(v3.setCell ⟨X,4,Y⟩ (A (b5 g 0) (i+1) cap)).heap.size=v3.heap.size:=zS;have v:=((C X E (λe=>by have:=k X e;omega)).trans (o X E)).trans x;refine⟨⟨?_,?_,?_,oA,λb f p=>?_⟩,?_,W.keep (λb _ f=>P b f) (by rw[qo];exact E) B E E t⟩;·show v3.os=wc.os;rw[a.os];exact m.os.trans d.os
 .show v3.tape=wc.tape;rw[a.tape];exact m.tape.trans d.tape
 .show v3.output=wc.output;rw[a.output];exact m.output.trans d.output
 .rw[P b p,C b E (λe=>by have:=k b e;omega),o b E];exact d.block b f p
 .simp[World.setCell,QQ,v]
def Kv(n:Nat)(hn:YM n):YM (n+1):=by
 intro S t d c0 c1 c2 c3 c4 w hg hc ht hB;have⟨bq,aL,bp,ai⟩:=N1 hg hc;have aO:=ht;obtain⟨rfl,rfl,rfl,aP,aQ,aR,h3,h4,bm,bl⟩:=ht;obtain⟨na,nc,rfl,-⟩:=id h3;obtain⟨ka,kc,rfl,-⟩:=id h4;have HN:=a8 hn;have HB:=a8 hB;have HT:G (F.o t=F.o t/\b8 S w (n+1) t (I U (F.k t)) (I U (F.n t)) (Zt (F.a t)) (A na (J (F.q t)) nc) (A ka (J (F.o t)) kc)):=⟨D,aO⟩;have aj:=a8 aL;have HF:=a8 ai;have aC:G (cR S w (F.q t) (A na (J (F.q t)) nc)):=h3;have ay:G (∀(wr:Zw)(nv kv:Zv)(S':ZN),cR S' wr (F.q t) nv->gQ nv->dn S' wr (b8 S' wr n) (F.o t) kv->gQ kv->b8 S' wr (n+1) t (I U (F.k t)) (I U (F.n t)) (Zt (F.a t)) nv kv):=λwr nv kv S' q1 q2 q3 q4=>⟨D,D,D,aP,aQ,aR,q1,q3,q2,q4⟩;generalize hs:F.k t=so at *;generalize hu:F.n t=nu at *;generalize hx:F.a t=tx at *;obtain⟨P,B⟩:∃P,J (F.o t)=P:=⟨_,D⟩;obtain⟨nl,s⟩:∃nl,J (F.q t)=nl:=⟨_,D⟩;rw[B]at bp;rw[s]at bq;rw[B,s];rw[B,s]at HT;rw[s]at aC;have m:G (J (F.o t)=P/\J (F.q t)=nl):=⟨B,s⟩;have⟨f,q9⟩:=fk ((w.alloc (UA so nu tx na nl nc ka P kc)).alloc d8);have an:Bw w f:=by rw[q9];exact (eC _ _).alloc zS _
 have z:f.heap[w.heap.size]?=Z (Zc (Uz so nu tx na nl nc ka P kc) 31 (0,0)):=by rw[q9,Qf _ _ _ zS];exact Qh _ _
 have ar:f.heap[w.heap.size+1]?=Z d8:=by have:=Qh (w.alloc (UA so nu tx na nl nc ka P kc)) d8;rw[q9];simpa using this
 have ql:=(Qe.1 ar).1;have HW:G (Bw w f/\w.heap.size+1<f.heap.size/\f.heap[w.heap.size+1]?=Z d8):=⟨an,ql,ar⟩;have HC:G (∀W,Bw f W->N5 W w.heap.size so nu tx na nl nc ka P kc):=λW hW=>cP ((hW.block w.heap.size E).trans z);have v:G (∀W,Bw f W->J ((F.q t).map Ul)=nl*1/\(∀u∈(F.q t).map Ul,u.oneCell'=true)/\(0<nl->∃ad,na=Z ad/\∀j u,((F.q t).map Ul)[j]?=Z u->W.cell? (ad.add j)=Z u)):=λW hW=>Ca m.2 aC (b6 (an.trans (hW.mono E)) HB);have⟨au,x,q7,qc,aa⟩:=QY Tryz.info_strD;have l:G (_/\_/\_/\_):=⟨x,q7,qc,aa⟩;clear h3 h4 hn hB aQ aR hg hc ai z ar B s hs hu hx x q7 qc aa an aL aP aO bm bl;go_in;go_upto_region 1 with fail;rw[<- q9];clear q9;go_cut [3] from 5 to 35 (λpv wx=>∃(X:Nat)(nv:Zv),pv=Zp (b5 X 0)/\qbM (F.q t) so nu tx nv X f wx);case first=>
  have N:Bw f f.drew:=(Qg _ _).drew;refine Qz (S:=λw'=>N5 w' w.heap.size so nu tx na nl nc ka P kc) zK (HC _ N) (λhHeld=>?_);refine t4 0 1 2 3 ?_;refine t4 4 5 7 8 ?_;refine XG (rs:=[6,11]) zK zS ?_;refine QO D (λK hK=>?_) (QO D (λK hK=>?_) Xy)
  .go_simp;refine hK.out _ _ (HC _ (l4 N)) (λhHeld=>?_);clear hK K;obtain⟨VA,q6⟩:∃V,V=(f.alloc (Zc #[] 9)).drew:=⟨_,D⟩;rw[<- q6];have Q:Bw f VA:=by rw[q6];exact l4 N
   have eA:VA.heap[f.heap.size]?=Z (Zc #[] 9 (0,0)):=by rw[q6];exact Qh f _
   have sA:f.heap.size+1<=VA.heap.size:=by rw[q6];show _<=(f.alloc _).heap.size;simp
   clear q6;refine XG (rs:=[9,11]) zK zS ?_;refine QO D (λK hK=>?_) (QO D (λK hK=>?_) Xy);·refine kX VA cU (.tmp 11) (.tmp 13) 23 cU f.heap.size 9 au _ 1 16 underlying23 l.1 l.2.1 l.2.2.1 l.2.2.2 D zC (f.heap.size) cU eA E na nl nc ((F.q t).map Zt) cU (v _ Q).1 (v _ Q).2.2 (v _ Q).2.1 zL E VA.heap.size D ?_;intro g cap w5 qd qg qy aq;have hU:=eC w5 d8;have aT:=Qh w5 d8;have⟨qL,ao,bf,be⟩:=CN (X:=w5.heap.size) Q qg E qd m.2 E aj hU E;have zQ:=qL.size;refine hK.out _ _ (HC _ qL) (λhHeld=>?_);clear hK K qd qg qy;refine tk 10 ?_;refine qk 11 ?_ λhHeld=>?_;exact HC _ ao;clear hHeld hU;generalize w5.alloc d8=Uzq at *;generalize w5.heap.size=X at *;have⟨⟨r0,r1,r2,r3,r4⟩,f0,f1,f2,f3,f4⟩:=cI aT;have vM:=a8 (IU (so:=so) (nu:=nu) (tx:=tx) ao aT zQ bf be);have xK:=HC.out _ (dk (o:=0) (g0:=I U so) (g1:=I U nu) (g2:=Zt tx) (g3:=(A (b5 g 0) nl cap)) (g4:=A Y 0 0) ao zQ);refine qk 12 ?_ λhHeld=>?_;exact xK;clear xK r0 r1 r2 r3 r4 f0 f1 f2 f3 f4;refine Xi zK ?_ _;go_wp2;go_meet;exact⟨_,_,D,vM⟩
   .go_simp;have q8:=Q.alloc Q.size d8;have zB:=Qh VA d8;have eB:=(Qf VA d8 f.heap.size E).trans eA;refine hK.out _ _ (HC _ q8) (λhHeld=>?_);clear hK K;have am:=(Qe.1 zB).1;generalize VA.alloc d8=VB at *;generalize VA.heap.size=X at *;refine ic 9 λK hK=>?_;refine kX VB cU (.tmp 11) (.tmp 13) 23 cU f.heap.size 9 au _ 1 16 underlying23 l.1 l.2.1 l.2.2.1 l.2.2.2 D zC (f.heap.size) cU eB E na nl nc ((F.q t).map Zt) cU (v _ q8).1 (v _ q8).2.2 (v _ q8).2.1 zL E VB.heap.size D ?_;intro g cap w5 qd qg qy aq;obtain⟨qL,-,vU,vT⟩:=CN (X:=X) q8 qg E qd m.2 E aj (Qg _ _) E;have jZ:=(qg.block X am zE).trans zB;have zQ:f.heap.size<=X:=E;exact qcZ
  .go_simp;have qq:=l4 (o:=d8) N;have aW:((f.alloc d8).drew).heap[f.heap.size]?=Z d8:=Qh f _;refine hK.out _ _ (HC _ qq) (λhHeld=>?_);clear hK K;have am:=(Qe.1 aW).1;generalize bg:(f.alloc d8).drew=VC at *;clear bg;refine ic 6 λK hK=>?_;go_simp;have q5:=qq.alloc qq.size (Zc #[] 9);have eD:=Qh VC (Zc #[] 9);have zD:=(Qf VC (Zc #[] 9) f.heap.size am).trans aW;refine hK.out _ _ (HC _ q5) (λhHeld=>?_);clear hK K;have bB:=(Qe.1 eD).1;generalize VC.alloc (Zc #[] 9)=VD at *;generalize VC.heap.size=Ezq at *;refine ic 9 λK hK=>?_;refine kX VD cU (.tmp 11) (.tmp 13) 23 cU f.heap.size 9 au _ 1 16 underlying23 l.1 l.2.1 l.2.2.1 l.2.2.2 D zC (Ezq) cU eD E na nl nc ((F.q t).map Zt) cU (v _ q5).1 (v _ q5).2.2 (v _ q5).2.1 zL E VD.heap.size D ?_;intro g cap w5 qd qg qy aq;obtain⟨qL,-,vU,vT⟩:=CN (X:=f.heap.size) q5 qg E qd m.2 E aj (Qg _ _) E;have jZ:=(qg.block f.heap.size E zE).trans zD;have zQ:f.heap.size<=f.heap.size:=E;exact qcZ
 case rest=>
  obtain⟨X,nv,rfl,M⟩:=hcut;have bx:=M.x;obtain⟨ae,af,rfl,-⟩:=id M.q;have bE:=M.below.size;have aF:X<wc.heap.size:=(Qe.1 M.box).1;have bC:=HW.2.1;have bh:w.heap.size+1<X:=E;have L:=a8 M;have ax:G (∀V,cH X wc V->(N5 V w.heap.size so nu tx na nl nc ka P kc)/\V.heap[w.heap.size+1]?=Z d8/\Bw w V):=λV hV=>by have hq:∀b,b<f.heap.size->V.heap[b]?=f.heap[b]?:=λb p=>(hV.block b E E).trans (L.below.block b p);have bk:=HC.out f (Qg _ _);have hc:∀o,a7 V w.heap.size o=a7 f w.heap.size o:=λo=>Ql (a:=⟨w.heap.size,o,Y⟩) (hq _ (show w.heap.size<f.heap.size by omega));have hz:=hV.size;refine⟨?_,(hq _ E).trans HW.2.2,hV.os.trans (L.below.os.trans HW.1.os),hV.tape.trans (L.below.tape.trans HW.1.tape),hV.output.trans (L.below.output.trans HW.1.output),by have:=HW.1.size;omega,λb p=>(hq b E).trans (HW.1.block b p)⟩;simp only[N5,hc];exact bk
  obtain⟨⟨y0,y1,y2,y3,y4⟩,-,-⟩:=ax.out wc (cH.refl _ _);rw[m.2]at M;clear M;go_wp2;go_loopw [4] (λiv wr=>∃(i:Nat)(a:ZA)(c:Nat),i<=P/\iv=I U i/\cH X wc wr/\wr.heap[X]?=Z (Zc (Uz so nu tx ae (J (F.q t)) af a i c) 31 (0,0))/\pM (λ_=>False) w wr (w.heap.size+1) X wc.heap.size ((F.o t).take i) (A a i c)) (λiv _=>P-(intOf iv).toNat);case atStart=>exact⟨0,Y,0,E,D,cH.refl _ _,L.box,[],QV _ _ _ _,zS⟩
  case round=>
   obtain⟨i,a,c,hi,rfl,T,j0,al⟩:=hrel;have⟨⟨y0,y1,y2,y3,y4⟩,aS,r⟩:=ax.out wr T;have bF:=T.size;have bi:X<wr.heap.size:=E;have aB:=a8 T;have aw:=a8 j0;have ak:=a8 al;have aA:G (J ((F.o t).take i)=i):=by show _=_;have:=m.1;exact rd
   by_cases aq:i<P
   .have bz:(i:Int)<(P:Int):=E;have ac:i<J (F.o t):=by have:=m.1;omega
    obtain⟨kb,ko,u0,u1,u2,ua,ta,ul,uc,tl,tc,bo,z,-,-,⟨e0,e1,e2,e3,e4⟩,aK⟩:=iq (m.1 ▸ HT.2:b8 S w (n+1) t (I U so) (I U nu) (Zt tx) (A na nl nc) (A ka (J (F.o t)) kc)) HB ac;have q0:=kC r e0 z;have q1:=kC r e1 z;have q2:=kC r e2 z;have q3:=kC r e3 z;have q4:=kC r e4 z;have⟨aJ,aH⟩:=HF.out _ (QE ac);have aI:Bw wr wr.drew:=(Qg _ _).drew;have N:=r.trans (aI.mono E);have bd:Bd S wr.drew:=λb p=>Qn (HB b p) N.size;have aX:=a8 (HN S _ (d+1) _ _ _ _ _ wr.drew aJ aH (aK.keep (b6 N HB) zI) bd);have bc:G ((F.o t).take (i+1)=(F.o t).take i++[(F.o t)[i]]):=Qq ac;have bb:G (∀C:Zw,Bw wr.drew C->∃R,C.ownsRow wc.heap.size 31 5 (A a i c) i R/\G (∀j (h:j<J ((F.o t).take i)),∃c0 c1 c2 c3 c4,(R[j*5]?=Z c0/\R[j*5+1]?=Z c1/\R[j*5+2]?=Z c2/\R[j*5+3]?=Z c3/\R[j*5+4]?=Z c4)/\b8 (DT (λ_=>False) w.heap.size (w.heap.size+1) X (Uc a i c).ownBlock C) C n ((F.o t).take i)[j] c0 c1 c2 c3 c4)/\(∀o,(C.alloc o).ownsRow wc.heap.size 31 5 (A a i c) i R)/\a7 C X 4=Z (A a i c)/\(∀o,a7 (C.alloc o) X 4=Z (A a i c))/\X<C.heap.size/\wr.heap.size<=C.heap.size/\G (C.heap[X]?=Z (Zc (Uz so nu tx ae (J (F.q t)) af a i c) 31 (0,0)))):=λC hv=>by have h2:=aI.trans (hv.mono zS);have br:=h2.size;have bt:=r.size;have⟨R,k,O⟩:=ak.keep (λb p _=>h2.block b p) h2.size Ae E E aF;rw[aA.out]at k;have p:=(h2.block X bi).trans aw;exact⟨R,k,O,λo=>k.alloc o,iM p 4 D,λo=>iM ((Qf _ _ _ E).trans p) 4 D,E,br,p⟩
    have aD:G (∀q,(Uc a i c).ownBlock=Z q->wc.heap.size<=q/\q<wr.heap.size):=λq hq=>by obtain⟨R,k,-⟩:=ak.out;exact cO k q hq
    have⟨bu,x,q7,qc,aa⟩:=QY Tryz.info_treeX;have ab:G (_/\_/\_/\_):=⟨x,q7,qc,aa⟩;generalize (F.o t)[i]=kx at *;clear x q7 qc aa e0 e1 e2 e3 e4 aK aJ aH T al ac;subst bo;have x4:a7 wr X 4=Z (A a i c):=iM j0 4 D;clear j0;go_wp2_with fail;go_region_law (first
      | (refine Xd _ cU (.tmp 24) (.tmp 31) 29 cU wc.heap.size 31 bu _ 5 80 underlying29 ab.1 ab.2.1 ab.2.2.1 ab.2.2.2 D zC (A a i c) i R cU (aM _) ⟨C.heap.size,0,Y⟩ 1 1 [I U y0,I U y1,Zt y2,A ya yl yc,A za zl zc] cU D (QB (Qh C _)) iz zC fA E zE (C.heap.size+1) zS ?_;intro g2 aE v3 qa y ag ql;have js:=((y.block X zE (λe=>by have:=aD.out _ e.symm;omega)).trans (Qf _ _ _ bj)).trans ah.out;have aU:a7 v3 X 4=Z (A a i c):=sW;have aV:v3.frozen? ⟨X,4,Y⟩=false:=sX)
      | (go_simp;go_at_call 25;refine H aX ?_;rintro e C ⟨qL,d0,d1,d2,d3,d4,rfl,ap⟩;obtain⟨y0,y1,y2,ya,yl,yc,za,zl,zc,rfl,rfl,rfl,rfl,rfl⟩:=ap.shape;have⟨R,k,O,aM,bv,bw,bj,bA,ah⟩:=bb.out C qL;have az:=a8 ap;have av:=a8 qL;clear ap qL))
    all_goals
     have hF:=Ku Ae aB aw bh aF av aA aD k O az qa y ag
     rw[<- bc.out]at hF
     have aY:=a8 hF.1
     have aZ:=a8 hF.2.1
     have ba:=a8 hF.2.2
     clear hF qa y ag ql aM bv bw k O ah aU aV js az av
     go_wp2
     go_roundw
     case rel=>exact⟨i+1,b5 g2 0,aE,E,ew,aY,aZ,ba⟩
     case measure=>exact eb
   .have bD:¬(i:Int)<(P:Int):=E;obtain rfl:i=P:=E;have⟨⟨r0,r1,r2,r3,r4⟩,f0,f1,f2,f3,f4⟩:=cI aS;have⟨b0,b1,b2,b3,b4⟩:=cP j0;have HE:G (Bo (λ_=>False) (n+1) t w (Zr (Uy so nu tx ae (J (F.q t)) af a i c)) (eF wr (w.heap.size+1) 0 (I U so) (I U nu) (Zt tx) (A ae (J (F.q t)) af) (A a i c))):=by
     have aG:(F.o t).take i=F.o t:=Xf (by have:=m.1;omega);have⟨R,k,O⟩:=ak.out;rw[aG]at k O;have aN:=cO k;have bt:=r.size;refine⟨dk r E,_,_,_,_,_,D,ay _ _ _ _ (L.q.keep (λb p=>?_) λb p=>?_) L.cap (mq (cV k λq hq=>dt (by have:=aN q hq;omega)) (by have:=m.1;omega) (λq hq=>?_) λj hj=>?_) (oJ k)⟩;·rw[dt E];exact aB.block b p.2.1 E
     .exact .inr ⟨E,Ab,zS⟩
     .have:=aN q hq;exact .inr ⟨E,Ab,zS⟩
     .have⟨d0,d1,d2,d3,d4,hd,bn⟩:=O j hj;refine⟨d0,d1,d2,d3,d4,hd,bn.keep (λb p=>dt ?_) λb p=>p.imp id λh=>⟨h.1,by rw[eJ];exact h.2.1,zS⟩⟩;rcases p with p|p;·exact p.elim
      .exact E
    clear j0 T al aS r;go_wp2_with fail;exact bR HE
def Ex:∀n,YM n:=by
 intro n;induction n with
 | zero=>intro S t;exact Empty.elim (show Empty from t)
 | succ n a=>exact Kv n a
def Da(s:Int)(i:Nat)(w:Zw):WU WV 50 #[I U s,I U (i:Int)] w λe f=>e=Zr (I U (gr s i))/\f=w:=by
 by_cases h:s=33∨s=34∨s=43
 .have c:(s==35)=false:=gE;by_cases a:i=1
  .subst a;have HF:G (gr s 1=20):=by show _=_;unfold gr;rw[Qm (.inl ⟨h,rfl⟩)]
   rcases h with rfl|rfl|rfl;all_goals
    go_enter func50,ntmps50
    go_wp2
    exact zg
  .have b:((i:Int)==1)=false:=gE;have HF:G (gr s i=1):=JW;rcases h with rfl|rfl|rfl;all_goals
    go_enter func50,ntmps50
    go_wp2_with fail
    exact zg
 .have g:(s==33)=false:=gE;have j:(s==34)=false:=gE;have k:(s==43)=false:=gE;by_cases d:s=35
  .subst d;by_cases a:i=2;·subst a;have HF:G (gr 35 2=20):=D;go_enter func50,ntmps50;go_wp2;exact zg
   .have b:((i:Int)==2)=false:=gE;have HF:G (gr 35 i=1):=JW;go_enter func50,ntmps50;go_wp2_with fail;exact zg
  .have l:(s==35)=false:=gE;have HF:G (gr s i=1):=JW;go_enter func50,ntmps50;go_wp2_with fail;exact zg
def Nc(m:Nat):Prop:=∀(S:ZN)(t:T m)(c0 c1 c2 c3 c4:Zv)(w:Zw),b8 S w m t c0 c1 c2 c3 c4->(∀b,S b->b<w.heap.size)->gY m t<=1048576 ->
 WU WV 21 #[Za #[c0,c1,c2,c3,c4]] w λe a=>e=Zr (I U (dX m t))/\Below w.heap.size w a
def K8{t:T (m+1)}(h:gY (m+1) t<=1048576):J (F.o t)<=1048576:=by exact Tp
def C9(hn:Nc m):Nc (m+1):=by
 intro S t c0 c1 c2 c3 c4 w ht s zA;obtain⟨rfl,rfl,rfl,hs,aj,ak,h3,h4,⟨na,nl,nc,rfl,af⟩,⟨j2,kl,B,rfl,ag⟩⟩:=ht;obtain⟨_,_,q8,-⟩:=id h3;cases q8
 obtain⟨_,_,q8,ab,-⟩:=id h4;cases q8
 have aa:=K8 zA;have M:G (∀k (h:k<J (F.o t)),gY m (F.o t)[k]<=1048576):=λk h=>by exact PH
 have n:=(Qg w.heap.size w).alloc E (UB (F.k t) (F.n t) (F.a t) na (J (F.q t)) nc j2 (J (F.o t)) B);have hK:=h4.keepN (b6 n s) zI;obtain⟨W,hW⟩:∃W,W=w.alloc (UB (F.k t) (F.n t) (F.a t) na (J (F.q t)) nc j2 (J (F.o t)) B):=⟨_,D⟩;have v:=Xq w (UB (F.k t) (F.n t) (F.a t) na (J (F.q t)) nc j2 (J (F.o t)) B);have z:w.heap.size<W.heap.size:=pR;have⟨z0,z1,z2,z3,z4⟩:=cP v;rw[<- hW]at n hK z0 z4;have r:=a8 n;have O:G (∀j,ei (dX m) (F.k t) (F.o t) j<=1+800020*(j:Int)/\1<=ei (dX m) (F.k t) (F.o t) j):=λj=>by have:=pB (dX m) (F.k t) (F.o t) PG j;exact⟨E,E⟩
 go_enter func21,ntmps21;go_wp2_with fail;rw[<- hW];obtain⟨_,_,X,-,q⟩:=hK;cases X
 go_loopw [3,4] (λa i wr=>∃j:Nat,j<=J (F.o t)/\i=I U j/\a=I U (ei (dX m) (F.k t) (F.o t) j)/\ei (dX m) (F.k t) (F.o t) j<=40000/\Below W.heap.size W wr) (λ_ i _=>J (F.o t)-(intOf i).toNat);case atStart=>exact⟨0,E,D,D,by show (1:Int)<=_;omega,Qg _ _⟩
 case round=>
  obtain⟨j,hj,rfl,rfl,ac,c⟩:=hrel;have ah:=c.size;have ai:=O.out j;have q0:=(c.cell (p:=⟨w.heap.size,0,Y⟩) z).trans z0;have q4:=(c.cell (p:=⟨w.heap.size,4,Y⟩) z).trans z4;by_cases qf:j<J (F.o t)
  .obtain⟨b,off,rfl,R,o⟩:=q nS;have⟨x0,x1,x2,x3,x4,e0,e1,e2,e3,e4,x⟩:=o j qf;obtain⟨j0,q6,q7,j3,q5,qa,qc,ql,q9,rfl,rfl,rfl,rfl,rfl⟩:=x.shape;have ae:=s b R;have f0:=(c.cell (p:=⟨b,off+j*5,Y⟩) pQ).trans e0;have f1:=(c.cell (p:=⟨b,off+j*5+1,Y⟩) pQ).trans e1;have f2:=(c.cell (p:=⟨b,off+j*5+2,Y⟩) pQ).trans e2;have f3:=(c.cell (p:=⟨b,off+j*5+3,Y⟩) pQ).trans e3;have f4:=(c.cell (p:=⟨b,off+j*5+4,Y⟩) pQ).trans e4;have qq:=x.keep (b6 c (fP s)) zI;have L:G (WU WV 21 #[Uy j0 q6 q7 j3 q5 qa qc ql q9] wr.drew λe g=>e=Zr (I U (dX m (F.o t)[j]))/\Below W.heap.size W g/\(a7 g w.heap.size 0=Z (I U (F.k t))/\a7 g w.heap.size 4=Z (A (b5 b off) (J (F.o t)) B)/\Q5 g b (off+j*5) j0 q6 q7 j3 q5 qa qc ql q9)):=by have P:Below wr.heap.size wr wr.drew:=(Qg _ _).drew;refine H (hn S (F.o t)[j] _ _ _ _ _ wr.drew (qq.keep (b6 P (fP s)) zI) (λb Q=>by have:=s b Q;have:=P.size;omega) (M j qf)) ?_;rintro e g ⟨rfl,Q⟩;have d:=P.trans (Q.mono zS);exact⟨D,c.trans (d.mono E),(d.cell (p:=⟨w.heap.size,0,Y⟩) (by show w.heap.size<_;omega)).trans q0,(d.cell (p:=⟨w.heap.size,4,Y⟩) (by show w.heap.size<_;omega)).trans q4,(d.cell (p:=⟨b,off+j*5,Y⟩) pQ).trans f0,(d.cell (p:=⟨b,off+j*5+1,Y⟩) pQ).trans f1,(d.cell (p:=⟨b,off+j*5+2,Y⟩) pQ).trans f2,(d.cell (p:=⟨b,off+j*5+3,Y⟩) pQ).trans f3,(d.cell (p:=⟨b,off+j*5+4,Y⟩) pQ).trans f4⟩
   have N:G (∀w,WU WV 50 #[I U (F.k t),I U (j:Int)] w λe g=>e=Zr (I U (gr (F.k t) j))/\g=w):=λw=>Da (F.k t) j w;have f:G (ei (dX m) (F.k t) (F.o t) (j+1)=ei (dX m) (F.k t) (F.o t) j+gr (F.k t) j*dX m (F.o t)[j]):=tT _ _ qf;have l:G (40000<ei (dX m) (F.k t) (F.o t) (j+1)->dX (m+1) t=40001):=λh=>Kx E h;rw[f.out]at l;have hc:=si m (F.o t)[j];have y:=yW (F.k t) j;have hm:=yX y.1 y.2 E hc.2;generalize ei (dX m) (F.k t) (F.o t) j=cs at *;generalize dX m (F.o t)[j]=cv at *;generalize gr (F.k t) j=tv at *;have al:IntKind.i64.wrap (tv*cv)=tv*cv:=kG;have am:IntKind.i64.wrap (cs+tv*cv)=cs+tv*cv:=kG;go_wp2_with fail;go_region_held (λg=>a7 g w.heap.size 0=Z (I U (F.k t))/\a7 g w.heap.size 4=Z (A (b5 b off) (J (F.o t)) B)/\a7 g b (off+j*5)=Z (I U j0)/\a7 g b (off+j*5+1)=Z (I U q6)/\a7 g b (off+j*5+2)=Z (Zt q7)/\a7 g b (off+j*5+3)=Z (A j3 q5 qa)/\a7 g b (off+j*5+4)=Z (A qc ql q9)) (first|with_reducible assumption|go_keep) (first|(go_at_call 21;refine H L.out ?_;rintro e w2 ⟨rfl,u,ad⟩)|(go_at_call 50;refine H (N.out _) ?_;rintro e w3 ⟨rfl,rfl⟩));all_goals
    have C:=a8 u
    have K:=a8 (r.trans (u.mono E))
    by_cases T:40000<cs+tv*cv
    .have HF:=a8 (l T)
     go_wp2_with fail
     go_ret
     exact⟨dd HF.symm,K⟩
    .go_wp2_with fail
     go_roundw
     case rel=>
      refine⟨j+1,E,ew,?_,?_,C⟩
      .rw[f.out]
      .rw[f.out];omega
     case measure=>exact eb
  .have V:j=J (F.o t):=E;have HP:=a8 (r.trans (c.mono E));have HF:G (dX (m+1) t=ei (dX m) (F.k t) (F.o t) j):=by show min (ei (dX m) (F.k t) (F.o t) (J (F.o t))) 40001=_;rw[<- V];omega
   go_wp2_with fail;go_ret;exact⟨dd HF.symm,HP⟩
def Ew:∀m,Nc m:=by
 intro m;induction m with
 | zero=>intro S t c0 c1 c2 c3 c4 w a;exact a.elim
 | succ m b=>exact C9 b
def Nu{p:α->Bool}{l:List α}(h:i<J l):(l.take (i+1)).all p=((l.take i).all p && p l[i]):=by rw[Qq h,Zj];simp
def Ru{p:α->Bool}{l:List α}(h:i<J l)(hp:p l[i]=false):l.all p=false:=by rw[ZM];exact⟨l[i],zS,by rw[hp];simp⟩
def fM.fit{l:List (ZB×T n)}(h:fM S w n l v)(s:l.all wC=true):fM S w 6 (l.map λp=>(p.1,(fl 5 n p.2:V6))) v:=by obtain⟨f,cap,z,x,t⟩:=h;refine⟨f,cap,by rw[z,Qv],by rw[Qv];exact x,λqh=>?_⟩;have⟨b,off,q,r,a⟩:=t PJ;refine⟨b,off,q,r,λi hi=>?_⟩;have d:i<J l:=oC;have⟨c0,c1,c2,c3,c4,e,g,j,k,m,o,y,u⟩:=a i d;have c:=Qo.1 s _ (QE d);unfold wC at c;rw[Qc]at c;rw[Xe];exact⟨c0,c1,c2,c3,c4,e,g,j,k,m,o,y,u.fit (dr c.1).1 E⟩
def A3 {t:T m} {l:List (ZB × T n)} (ht:b8 S w m t c0 c1 c2 c3 c4) (hv:fM S w n l v) (hB:Bd S w) (am:gY m t<=1048576) (hl:J l<=1048576) :
  WU WV 6 #[v,Za #[c0,c1,c2,c3,c4]] w (gG (λ_=>False) w (ny m t l)):=by
 obtain⟨x0,x1,x2,xa,xl,xc,ya,yl,yc,rfl,rfl,rfl,rfl,rfl⟩:=ht.shape;have⟨W,hW⟩:=iC w x0 x1 x2 xa ya xl xc yl yc;have aw:=hW.is;have P:=hW.bw;have aE:=(Qe.1 hW.zero).1;have g:G (∀V,Bw W V->(N5 V w.heap.size x0 x1 x2 xa xl xc ya yl yc)/\V.heap[w.heap.size+1]?=Z d8/\Bw w V/\∀c,gG (λ_=>False) w (.error c) (Zr (Zu #[Gd,I U c])) (dN V (w.heap.size+1) 0 0 ⟨#[]⟩ Y Y 0 0 0 0)):=λV hV=>⟨cP ((hV.block w.heap.size E).trans hW.node),dy hW.zero hV,P.trans (hV.mono E),λc=>lL (P.trans (hV.mono E)) E⟩;have aq:=QJ (Le false (ht.keep (b6 P hB) zI) (fP hB E) am);have ad:G (∀w1,Bw W w1->WU WV 21 #[Uy x0 x1 x2 xa xl xc ya yl yc] w1 λe w'=>e=Zr (I U (dX m t))/\Bw w1 w'):=λw1 h1=>by have ql:=P.trans (h1.mono E);exact Ew m S t _ _ _ _ _ w1 (ht.keep (b6 ql hB) zI) (λb aL=>Qn (hB b aL) ql.size) am
 have aI:=a8 ht;have HV:=a8 hv;have HB:G (Bd S w):=hB;have aH:=a8 hl;have HE:G (ny m t l=if GV m t false=true/\dX m t<=40000/\l.all wC=true then b7 m t (pN l) else .error 6):=D;have HX:G (w.heap.size+1<W.heap.size):=aE;generalize ny m t l=R at *;obtain⟨⟨q0,q1,q2,q3,q4⟩,-,-,-⟩:=g.out W (Qg _ _);clear hW ht hv hB P aE am;go_in;go_upto_region 1 with fail;rw[<- aw];clear aw;go_wp2_with fail;refine H aq ?_;rintro e w1 ⟨rfl,M⟩;clear aq q0 q1 q2 q3 q4;obtain⟨⟨q0,q1,q2,q3,q4⟩,f,-,d⟩:=g.out w1 M;cases his:GV m t false with
 | false=>
  obtain rfl:R=.error 6:=by rw[HE.out,Qd (by rw[his];simp)]
  have⟨⟨r0,r1,r2,r3,r4⟩,f0,f1,f2,f3,f4⟩:=cI f;have HF:=a8 (d 6);clear g f d HE his ad;exact sj
 | true=>
 have ao:=a8 (ad w1 M);have HS:=a8 his;clear ad f d his;go_wp2_with fail;refine H ao ?_;rintro e w2 ⟨rfl,o⟩;have B:=M.trans (o.mono M.size);clear ao q0 q1 q2 q3 q4;obtain⟨⟨q0,q1,q2,q3,q4⟩,f,-,d⟩:=g.out w2 B;have ac:=a8 B;generalize aA:dX m t=ct at *;by_cases F:ct<=40000;case neg=>
  obtain rfl:R=.error 6:=by rw[HE.out,Qd (λh=>F h.2.1)]
  have⟨⟨r0,r1,r2,r3,r4⟩,f0,f1,f2,f3,f4⟩:=cI f;have HF:=a8 (d 6);have aC:(40000:Int)<(ct:Int):=E;clear g f d HE aA F M o B ac;exact sj
 have ap:G (R=if l.all wC=true then b7 m t (pN l) else .error 6):=by
  show _=_;rw[HE.out];by_cases h:l.all wC=true;·rw[Qm ⟨HS.out,F,h⟩,Qm h]
  .rw[Qd (λq=>h q.2.2),Qd h]
 have aC:¬(40000:Int)<(ct:Int):=E;have⟨va,vc,aP,aT,q8⟩:=HV.out;subst aP;have aG:=a8 q8;clear q8 q0 q1 q2 q3 q4 HE aA F M o B f d;go_wp2;go_loopw [6] (λiv wr=>∃i:Nat,iv=I U i/\i<=J l/\(l.take i).all wC=true/\Bw W wr) (λiv _=>J l-(intOf iv).toNat);case atStart=>exact⟨0,D,E,D,ac⟩
 case round=>
  clear ac aC;obtain⟨i,rfl,aS,aa,u⟩:=hrel;have q6:=a8 aa;have aQ:=a8 u;have⟨⟨q0,q1,q2,q3,q4⟩,f,a,d⟩:=g.out wr u;clear aa;by_cases qf:i<J l
  .obtain⟨b,off,rfl,aM,q5⟩:=aG.out nS;have⟨k0,k1,k2,k3,k4,e,e0,e1,e2,e3,e4,aO,ak⟩:=q5 i qf;obtain⟨y0,y1,y2,aU,aW,aV,aX,aZ,aY,rfl,rfl,rfl,rfl,rfl⟩:=ak.shape;have N:=HB.out b aM;have fe:=kC a e N;have f0:=kC a e0 N;have f1:=kC a e1 N;have f2:=kC a e2 N;have f3:=kC a e3 N;have f4:=kC a e4 N;have aN:(i:Int)<(J l:Int):=E;have K:=QJ (kt l[i].1 wr aO);have O:G (dB n l[i].2=false∨c8 l[i].1=false->R=.error 6):=λh=>by rw[ap.out,Qd];rw[Ru qf (by unfold wC;rcases h with h|h<;>(rw[h];simp))];exact dS
   have qq:G (dB n l[i].2=true->c8 l[i].1=true->(l.take (i+1)).all wC=true):=λh1 h2=>by rw[Nu qf,q6.out];unfold wC;rw[h1,h2];rfl
   have af:=QJ (rL n S l[i].2 _ _ _ _ _ wr (ak.keep (b6 a HB) zI).tree (λb ql=>Qn (HB b ql) a.size));generalize l[i].1=s at *;generalize l[i]=p at *;clear q5 e e0 e1 e2 e3 e4 ak f d;cases hnb:c8 s with
   | false=>rw[hnb]at K;obtain rfl:=O.out (.inr hnb);clear O qq af hnb;go_wp2_with fail;refine H K ?_;rintro e w2 ⟨rfl,rfl⟩;clear K fe f0 f1 f2 f3 f4 q0 q1 q2 q3 q4;obtain⟨-,f,-,d⟩:=g.out w2 u;have⟨⟨r0,r1,r2,r3,r4⟩,f0,f1,f2,f3,f4⟩:=cI f;have HF:=a8 (d 6);clear g f d;exact sj
   | true=>
    rw[hnb]at K;go_wp2_with fail;refine H K ?_;rintro e w2 ⟨rfl,rfl⟩;clear K;go_wp2_with fail;refine H af ?_;rintro e w3 ⟨rfl,aj⟩;have ay:=u.trans (aj.mono u.size);clear af fe f0 f1 f2 f3 f4 q0 q1 q2 q3 q4;cases hko:dB n p.2 with
    | false=>obtain rfl:=O.out (.inl hko);clear O qq hnb hko;obtain⟨-,f,-,d⟩:=g.out w3 ay;have⟨⟨r0,r1,r2,r3,r4⟩,f0,f1,f2,f3,f4⟩:=cI f;have HF:=a8 (d 6);clear g f d aj;exact sj
    | true=>have aJ:=a8 (qq hko hnb);clear O qq hnb hko aj;go_wp2_with fail;exact⟨⟨i+1,zS,E,aJ,ay⟩,by simp[intOf];omega⟩
  .have aD:i=J l:=E;have j:l.all wC=true:=by have:=q6.out;rw[aD,QG]at this;exact this
   have hR:R=b7 m t (pN l):=by rw[ap.out,Qm j]
   have r:c7 m t 1=true/\p8 m t<=35/\cJ m t<=200:=by have:=HS.out;unfold GV at this;simp only[Qc,Qk,QP]at this;have h2:=this.1.1.2;exact⟨this.1.1.1,by have:=Z4 h2.symm;omega,E⟩
   have au:1<=p8 m t:=by
    cases m with
    | zero=>exact absurd r.1 (by simp[c7])
    | succ m=>exact (iW (ed r.1).1 r.2.1).lo
   have q7:∀p,p∈(l.map λp=>(p.1,(fl 5 n p.2:V6)))->dB 6 p.2=true:=λp hp=>by obtain⟨q,hq,rfl⟩:=Xo.1 hp;have an:=Qo.1 j q hq;unfold wC at an;rw[Qc]at an;exact (rD (L:=5) E an.1).1
   have ax:lR R:=by rw[hR];exact lC m t 1 (pN l) r.1 au r.2.1 λp hp=>q7 p (X0.1 hp)
   have ah:Bd S wr:=λb ql=>Qn (HB b ql) a.size;have ai:=Ez m S t (l.map λp=>(p.1,(fl 5 n p.2:V6))) _ _ _ _ _ (A va (J l) vc) 1 wr (aI.keep (b6 a HB) zI) ((HV.keep (b6 a HB) zI).fit j) ah r.1 r.2.1 r.2.2 (by rw[Qv];have:=aH.out;omega) q7;have eR:b7 m t (l.map λp=>(p.1,(fl 5 n p.2:V6))).reverse=R:=hR.symm;rw[eR]at ai;have ae:=a8 ai;have q9:=a8 ax;have aN:¬(i:Int)<(J l:Int):=E;clear hR r au q7 ax ai eR j aD f d;go_wp2_with fail;refine H ae ?_;intro e V2 hp;obtain⟨z0,z1,z2,ra,sa,rl,rc,sl,sc,c,rfl,o,hq⟩:=hp.z;have y:=eC V2 (UA z0 z1 z2 ra rl rc sa sl sc);have C:=Qh V2 (UA z0 z1 z2 ra rl rc sa sl sc);have⟨V3,jN⟩:=fk (V2.alloc (UA z0 z1 z2 ra rl rc sa sl sc));rw[<- jN]at y C;have Q:=u.trans ((o.trans (y.mono o.size)).mono u.size);obtain⟨-,qa,X,d⟩:=g.out V3 Q;obtain⟨⟨k0,k1,k2,k3,k4⟩,-⟩:=cI C;cases R with
   | error k=>
    obtain rfl:c=k:=hq;have HN:=a8 (d c);have aR:(c==0)=false:=by have h1:1<=c:=q9.1;simpa using E
    have⟨⟨r0,r1,r2,r3,r4⟩,f0,f1,f2,f3,f4⟩:=cI qa;clear y C d o qa Q ae q9 hp g a X;go_upto_region 9 with fail;exact PX
   | ok x=>
    obtain⟨rfl,hn⟩:=hq;have⟨aB,az⟩:=dr (show dB 6 x=true from q9.out);have aF:=o.size;have ag:Bd (Ov S wr.heap.size Y V2) V2:=Ov.lt ah aF;have av:Bd (Ov S wr.heap.size Y V2) V3:=λb ql=>Qn (ag b ql) y.size;have HC:=a8 (Ex 6 (Ov S wr.heap.size Y V2) x 1 _ _ _ _ _ V3 aB az (hn.keep (b6 y ag) zI) av);have qc:G (∀w4,Bw V3 w4->∀b,Ov (λ_=>False) V3.heap.size Y w4 b->Ov (λ_=>False) w.heap.size (Z (w.heap.size+1)) w4 b):=λw4 h4 b ql=>ql.imp id λh=>by have h5:=h4.size;have h6:=y.size;have h7:=u.size;have h8:=HX.out;exact zE
    have ar:=a8 X;have aK:=a8 qa;clear y C d o qa Q ae q9 hp g a X hn aB az aF ag av ah;go_upto_region 9 with fail;rw[<- jN];clear jN;go_wp2_with fail;refine H HC ?_;rintro e w4 ⟨z,d0,d1,d2,d3,d4,rfl,al⟩;obtain⟨u0,u1,u2,ta,tl,tc,wa,wl,wc,rfl,rfl,rfl,rfl,rfl⟩:=al.shape;have ab:=ar.trans (z.mono ar.size);have HF:G (gG (λ_=>False) w (.ok x) (fT u0 u1 u2 ta wa tl tc wl wc 0) (dN w4 (w.heap.size+1) u0 u1 u2 ta wa tl tc wl wc)):=km Ae ab E (al.keep ik (qc w4 z));have⟨⟨r0,r1,r2,r3,r4⟩,f0,f1,f2,f3,f4⟩:=cI (dy aK z);clear al z ab HC qc;exact sj
abbrev TS(f g u:Nat):Prop:=(f=47/\g=71/\u=50)∨(f=5/\g=19/\u=26)
def SW:TS 47 71 50:=E
def SV:TS 5 19 26:=E
def wj(f n:Nat):Prop:=∀(S:ZN)(t:T n)(c0 c1 c2 c3 c4:Zv)(left:Int)(w:Zw),cT S w n t c0 c1 c2 c3 c4->(Bd S w) -> -1<=left->left<=1048576 ->
 WU WV f #[Za #[c0,c1,c2,c3,c4],I U left] w λe a=>e=Zr (I U (dQ (gY n t) left))/\Bw w a
def Fo (qq:TS f g u) (ql:wj f n) (S:ZN) (l:List (T n)) (v:Zv) (left:Int) (w:Zw) (q8:dn S w (cT S w n) l v) (j:Bd S w) (qc : -1<=left) (X:left<=1048576) :
  WU WV g #[v,I U left] w λe qa=>e=Zr (I U (dQ (cG (λk=>gY n k+1) l) left))/\Bw w qa:=by
 obtain⟨F,cap,rfl,q,q5⟩:=q8;unfold WX at q;rcases qq with ⟨rfl,rfl,rfl⟩|⟨rfl,rfl,rfl⟩
 all_goals
  by_cases B:left-J l<0
  .go_in
   go_wp2
   go_ret
   exact⟨dd (by rw[dQ,nL,Qd E]),Qg _ _⟩
  go_in
  go_wp2
  go_loopw [1,5] (λa i wr=>∃k:Nat,k<=J l/\i=I U k/\a=I U (gz (gY n) l k left)/\0<=gz (gY n) l k left/\Bw w wr) (λ_ i _=>J l-(intOf i).toNat)
  case atStart=>
   have e:gz (gY n) l 0 left=left-J l:=by simp[gz,dQ,cG];omega
   exact⟨0,E,D,by rw[e],by rw[e];omega,Qg _ _⟩
  case round=>
   obtain⟨k,q6,rfl,rfl,C,c⟩:=hrel
   have p:=(mn (J l+cG (gY n) (l.take k)) X).2
   change gz (gY n) l k left<=1048576 at p
   by_cases qf:k<J l
   .obtain⟨b,off,rfl,d,o⟩:=q5 nS
    have⟨K,L,M,N,O,P,Q,R,V,W,q9⟩:=o k qf
    have f0:=kC c P (j b d)
    have f1:=kC c Q (j b d)
    have f2:=kC c R (j b d)
    have f3:=kC c V (j b d)
    have f4:=kC c W (j b d)
    have y:=q9.keep (b6 c j) zI
    have r:=c.size
    have z:G (gz (gY n) l (k+1) left=dQ (gY n l[k]) (gz (gY n) l k left)):=yj _ _ qf
    have HM:G (gz (gY n) l (k+1) left = -1->dQ (cG (λk=>gY n k+1) l) left = -1):=by
     intro hm
     have:=eV (gY n) (l.take (k+1)) (l.drop (k+1))
     rw[Q2]at this
     rw[nL]
     unfold gz dQ at hm
     unfold dQ
     rw[Qd]
     intro q7
     rw[Qm E]at hm
     omega
    go_wp2_with fail
    refine H (ql S l[k] K L M N O _ wr y (fP j r) E p) ?_
    rintro e w1 ⟨rfl,s⟩
    rw[<- z.out]
    have t:=mn (gY n l[k]) p
    rw[<- z.out]at t
    have jl:=c.trans (s.mono r)
    generalize hm:gz (gY n) l (k+1) left=m at *
    exact Yq
   .have x:k=J l:=E
    have HE:G (gz (gY n) l k left=dQ (cG (λk=>gY n k+1) l) left):=by
     show _=_
     unfold gz;rw[nL,x,QG]
    go_wp2
    go_ret
    exact⟨dd HE,c⟩
def Fp(i:TS f g u)(K:wj f n):wj f (n+1):=by
 intro S t c0 c1 c2 c3 c4 left w M p N O;obtain⟨rfl,rfl,rfl,L,-,-,s,v⟩:=M;have B:gY (n+1) t=(F.a t).size+gV (F.q t)+cG (λk=>gY n k+1) (F.o t):=D;have j:=a8 B;have a:Bw w (w.alloc (Zc #[I U (F.k t),I U (F.n t),Zt (F.a t),c3,c4] u)):=eC _ _;have z:=a8 (Fo i K);rcases i with ⟨rfl,rfl,rfl⟩|⟨rfl,rfl,rfl⟩;all_goals
  unfold WX at L
  by_cases y:left-(F.a t).size<0
  .go_in
   go_wp2
   go_ret
   exact⟨dd (by rw[dQ,j.out,Qd E]),eC _ _⟩
  have b:=s.keep (b6 a p) zI
  have c:=v.keepT (b6 a p) zI
  have r:=mn (gV (F.q t)) (left:=left-(F.a t).size) E
  have l:G (dQ (gV (F.q t)) (left-(F.a t).size)=dQ ((F.a t).size+gV (F.q t)) left):=by
   show _=_
   rw[<- nE];congr 1;rw[dQ,Qm E]
  clear s v
  go_in
  go_wp2_with fail
  refine H (A6 b E E) ?_
  rintro e w1 ⟨rfl,rfl⟩
  rw[l.out]
  rw[l.out]at r
  generalize x:dQ ((F.a t).size+gV (F.q t)) left=m at *
  have o:=a8 x
  clear x l
  by_cases C:m<0
  .go_wp2
   go_ret
   refine⟨dd ?_,a⟩
   rw[j.out,<- nE,o.out,dQ,Qd E]
  .go_wp2_with fail
   refine H (z S _ _ _ _ c (fP p) E E) ?_
   rintro e w1 ⟨rfl,d⟩
   have qi:=b9 a zS d
   have h:=mn (cG (λk=>gY n k+1) (F.o t)) (left:=m) E
   have HF:G (dQ (cG (λk=>gY n k+1) (F.o t)) m=dQ (gY (n+1) t) left):=by
    show _=_
    rw[j.out,<- nE,o.out]
   clear a d b c o j
   rw[HF.out]
   rw[HF.out]at h
   generalize i:dQ (gY (n+1) t) left=q at *
   have HQ:=a8 i
   clear i HF
   exact Yh
def yQ(a:TS f g u):∀n,wj f n:=by
 intro n;induction n with
 | zero=>intro S t c0 c1 c2 c3 c4 left w b;exact b.elim
 | succ n c=>exact Fp a c
def oq(S:ZN)(w:Zw)(n:Nat)(l:List (ZB×T n))(v:Zv):Prop:=
 ∃(a:ZA)(cap:Nat),v=A a (J l) cap/\J l<=WX /\
  (l≠[]->∃b off,a=b5 b off/\S b/\∀i (h:i<J l),∃c0 c1 c2 c3 c4,a7 w b (off+i*6)=Z (Zt l[i].1)/\a7 w b (off+i*6+1)=Z c0 /\
   a7 w b (off+i*6+2)=Z c1/\a7 w b (off+i*6+3)=Z c2/\a7 w b (off+i*6+4)=Z c3/\a7 w b (off+i*6+5)=Z c4/\l[i].1.size<=WX/\cT S w n l[i].2 c0 c1 c2 c3 c4)
def fM.bnd{l:List (ZB×T n)}(h:fM S w n l v):oq S w n l v:=by obtain⟨d,cap,x,t,q⟩:=h;refine⟨d,cap,x,t,λc=>?_⟩;have⟨b,off,o,p,a⟩:=q c;refine⟨b,off,o,p,λi r=>?_⟩;have⟨c0,c1,c2,c3,c4,e,f,g,j,k,m,u,s⟩:=a i r;exact⟨c0,c1,c2,c3,c4,e,f,g,j,k,m,u,s.tree⟩
def ou{n:Nat}(p:ZB×T n):Nat:=p.1.size+gY n p.2
def Mm (n:Nat) (S:ZN) (p:ZB × T n) (c0 c1 c2 c3 c4:Zv) (left:Int) (w:Zw) (g:cT S w n p.2 c0 c1 c2 c3 c4) (i:Bd S w) (y:p.1.size<=WX) (B:0<=left) (C:left<=1048576) :
  WU WV 17 #[Za #[Zt p.1,c0,c1,c2,c3,c4],I U left] w λe z=>e=Zr (I U (dQ (ou p) left))/\Bw w z:=by
 obtain⟨l,m,o,r,t,s,u,x,v,rfl,rfl,rfl,rfl,rfl⟩:=g.shape;have a:Bw w (w.alloc (Zc #[Zt p.1,I U l,I U m,Zt o,A r t s,A u x v] 52)):=eC _ _;unfold WX at y;have d:G (ou p=p.1.size+gY n p.2):=D;by_cases j:left-p.1.size<0
 .have c:G (dQ (ou p) left = -1):=by show _=_;rw[dQ,Qd (by rw[d.out];omega)]
  go_in;go_wp2;go_ret;exact⟨dd c.symm,a⟩
 .have h:G (WU WV 47 #[Uy l m o r t s u x v,I U (left-p.1.size)] _ _):=yQ SW n S p.2 _ _ _ _ _ (left-p.1.size) _ (g.keep (b6 a i) zI) (fP i) E E;have f:=mn (gY n p.2) (left:=left-p.1.size) E;have c:G (dQ (gY n p.2) (left-p.1.size)=dQ (ou p) left):=by show _=_;rw[d.out,<- nE];congr 1;rw[dQ,Qm E]
  clear g;go_in;go_wp2_with fail;refine H h ?_;rintro e w1 ⟨rfl,b⟩;have qi:=b9 a zS b;clear b h a;rw[c.out]at f ⊢;generalize k:dQ (ou p) left=q at *;have HQ:=a8 k;clear k c d;exact Yh
def Ik {l:List (ZB × T n)} (left:Int) (qq:oq S w n l v) (f:Bd S w) (qa : -1<=left) (W:left<=1048576) :
  WU WV 4 #[v,I U left] w λe qc=>e=Zr (I U (dQ (cG (λk=>ou k+1) l) left))/\Bw w qc:=by
 obtain⟨ql,cap,rfl,o,X⟩:=qq;unfold WX at o;by_cases z:left-J l<0;·go_in;go_wp2;go_ret;exact⟨dd (by rw[dQ,nL,Qd E]),Qg _ _⟩
 go_in;go_wp2;go_loopw [1,5] (λa i wr=>∃k:Nat,k<=J l/\i=I U k/\a=I U (gz ou l k left)/\0<=gz ou l k left/\Bw w wr) (λ_ i _=>J l-(intOf i).toNat);case atStart=>
  have e:gz ou l 0 left=left-J l:=by simp[gz,dQ,cG];omega
  exact⟨0,E,D,by rw[e],by rw[e];omega,Qg _ _⟩
 case round=>
  obtain⟨k,F,rfl,rfl,p,c⟩:=hrel;have j:=(mn (J l+cG ou (l.take k)) W).2;change gz ou l k left<=1048576 at j;by_cases qf:k<J l
  .obtain⟨b,off,rfl,d,g⟩:=X nS;have⟨B,C,K,L,M,V,N,O,P,Q,R,x,q5⟩:=g k qf;have q7:=kC c V (f b d);have f0:=kC c N (f b d);have f1:=kC c O (f b d);have f2:=kC c P (f b d);have f3:=kC c Q (f b d);have f4:=kC c R (f b d);have u:=q5.keep (b6 c f) zI;have q:=c.size;have y:G (gz ou l (k+1) left=dQ (ou l[k]) (gz ou l k left)):=yj _ _ qf;have HM:G (gz ou l (k+1) left = -1->dQ (cG (λk=>ou k+1) l) left = -1):=by intro hm;have:=eV ou (l.take (k+1)) (l.drop (k+1));rw[Q2]at this;rw[nL];unfold gz dQ at hm;unfold dQ;rw[Qd];intro q6;rw[Qm E]at hm;omega
   go_wp2_with fail;refine H (Mm n S l[k] B C K L M _ wr u (fP f q) x p j) ?_;rintro e w1 ⟨rfl,r⟩;rw[<- y.out];have s:=mn (ou l[k]) j;rw[<- y.out]at s;have jl:=c.trans (r.mono q);generalize hm:gz ou l (k+1) left=m at *;exact Yq
  .have t:k=J l:=E;have HE:G (gz ou l k left=dQ (cG (λk=>ou k+1) l) left):=by show _=_;unfold gz;rw[nL,t,QG]
   go_wp2;go_ret;exact⟨dd HE,c⟩
def Tryz.info_str:(prog.info? 9).map (λi=>(i.zero,i.size,i.bytes))=Z (Z (Zt WT),1,16):=gZ
abbrev TE(f g u:Nat):Prop:=(f=10/\g=38/\u=31)∨(f=12/\g=40/\u=38)
def wB:TE 10 38 31:=E
def SR:TE 12 40 38:=E
def wg(f n:Nat):Prop:=∀(S a:ZN)(t:T n)(c0 c1 c2 c3 c4 c d g h i:Zv)(w:Zw),cT S w n t c0 c1 c2 c3 c4->cT a w n t c d g h i ->
 (Bd S w)->(∀b,a b->b<w.heap.size) ->
 WU WV f #[Za #[c0,c1,c2,c3,c4],Za #[c,d,g,h,i]] w λe j=>e=Zr (Zb true)/\Bw w j
def CV (hq:TE f g u) (ql:wg f n) (S S':ZN) (l:List (T n)) (v v':Zv) (w:Zw) (q7:dn S w (cT S w n) l v) (N:dn S' w (cT S' w n) l v')
  (p:Bd S w) (c:∀b,S' b->b<w.heap.size) :
  WU WV g #[v,v'] w λe z=>e=Zr (Zb true)/\Bw w z:=by
 obtain⟨ao,cap,rfl,y,V⟩:=q7;obtain⟨q9,R,rfl,-,x⟩:=N;unfold WX at y;have⟨F,W⟩:=fk f;rcases hq with ⟨rfl,rfl,rfl⟩|⟨rfl,rfl,rfl⟩
 all_goals
  go_in
  go_wp2
  go_loopw [5] (λi wr=>∃k:Nat,k<=J l/\i=I U k/\Bw w wr) (λi _=>J l-(intOf i).toNat)
  case atStart=>exact⟨0,E,D,Qg _ _⟩
  case round=>
   obtain⟨k,hk,rfl,a⟩:=hrel
   by_cases qf:k<J l
   .obtain⟨b,off,rfl,j,r⟩:=V nS
    obtain⟨t,X,rfl,d,o⟩:=x nS
    have⟨x0,x1,x2,x3,x4,q8,qq,q5,j0,qa,hr⟩:=r k qf
    have⟨y0,y1,y2,y3,y4,B,C,K,L,M,Q⟩:=o k qf
    have f0:=kC a q8 (p b j)
    have f1:=kC a qq (p b j)
    have f2:=kC a q5 (p b j)
    have f3:=kC a j0 (p b j)
    have f4:=kC a qa (p b j)
    have f5:=kC a B (c t d)
    have f6:=kC a C (c t d)
    have f7:=kC a K (c t d)
    have f8:=kC a L (c t d)
    have f9:=kC a M (c t d)
    have q:=hr.keep (b6 a p) zI
    have q':=Q.keep (b6 a c) zI
    have s:=a.size
    have q6:G (∀m:Nat,WU WV F #[Za #[x0,x1,x2,x3,x4],Za #[y0,y1,y2,y3,y4]] (wr.drewN m) λe z=>e=Zr (Zb true)/\Bw wr z):=by
     subst W
     intro m
     have O:Bw wr (wr.drewN m):=Wn (Qg _ _) m
     have P:(wr.drewN m).heap.size=wr.heap.size:=zS
     refine H (ql S S' l[k] _ _ _ _ _ _ _ _ _ _ (wr.drewN m) (q.keep (b6 O (fP p s)) zI) (q'.keep (b6 O (fP c s)) zI)
      (fP p) (fP c)) ?_
     rintro e z ⟨rfl,h⟩
     rw[Bw,P]at h
     exact⟨D,O.trans h⟩
    subst W
    go_wp2_with fail
    go_region_with ((first|go_at_call 10|go_at_call 12);refine H (q6 1) ?_;rintro e z ⟨rfl,qc⟩)
    all_goals go_wp2_with fail
    all_goals
     go_roundw
     case rel=>exact⟨k+1,E,ew,b9 a s nM⟩
     case measure=>exact eb
   .clear V x
    go_wp2
    go_ret
    exact⟨D,a⟩
def Eh(s:TE f g u)(K:wg f n):wg f (n+1):=by
 intro S x t c0 c1 c2 c3 c4 N O P y z w L m d a;obtain⟨rfl,rfl,rfl,T,-,-,B,C⟩:=L;obtain⟨rfl,rfl,rfl,-,-,-,h,i⟩:=m;have b:Bw w ((w.alloc (Zc #[I U (F.k t),I U (F.n t),Zt (F.a t),c3,c4] u)).alloc (Zc #[I U (F.k t),I U (F.n t),Zt (F.a t),y,z] u)):=
  (eC _ _).alloc zS _
 have k3:=B.keep (b6 b d) zI;have p:=h.keep (b6 b a) zI;have k4:=C.keepT (b6 b d) zI;have q:=i.keepT (b6 b a) zI;have v:=a8 (CV s K);rcases s with ⟨rfl,rfl,rfl⟩|⟨rfl,rfl,rfl⟩;all_goals
  go_in
  go_wp2_with fail
  refine H (xu k3 p (fP d) (fP a)) ?_
  rintro e w1 ⟨rfl,c⟩
  have⟨Q,R⟩:=BB c
  have o:=c.size
  simp at o
  have j:=b9 b zE c
  have M:=k4.keepT (b6 c (fP d)) zI
  have r:=q.keepT (b6 c (fP a)) zI
  go_wp2_with fail
  refine H (v S x _ _ _ _ M r (fP d) (fP a)) ?_
  rintro e V ⟨rfl,k⟩
  have l:=b9 j E k
  go_wp2
  go_ret
  exact⟨D,l⟩
def lr(a:TE f g u):∀n,wg f n:=by
 intro n;induction n with
 | zero=>intro S d t c0 c1 c2 c3 c4 e h i j k w b;exact b.elim
 | succ n c=>exact Eh a c
def GD (n:Nat) (S S':ZN) (p:ZB × T n) (c0 c1 c2 c3 c4 k l m o q:Zv) (w:Zw) (h:cT S w n p.2 c0 c1 c2 c3 c4) (f:cT S' w n p.2 k l m o q) (r:Bd S w) (a:∀ b,S' b->b<w.heap.size) :
  WU WV 39 #[Za #[Zt p.1,c0,c1,c2,c3,c4],Za #[Zt p.1,k,l,m,o,q]] w λe W=>e=Zr (Zb true)/\Bw w W:=by obtain⟨x,y,z,B,K,C,L,N,M,rfl,rfl,rfl,rfl,rfl⟩:=h.shape;obtain⟨z0,O,P,Q,V,R,t,v,u,rfl,rfl,rfl,rfl,rfl⟩:=f.shape;have d:Bw w ((w.alloc (Zc #[Zt p.1,I U x,I U y,Zt z,A B K C,A L N M] 59)).alloc (Zc #[Zt p.1,I U z0,I U O,Zt P,A Q V R,A t v u] 59)):=(eC _ _).alloc zS _;have j:G (WU WV 10 #[Uy x y z B K C L N M,Uy z0 O P Q V R t v u] _ _):=lr wB n S S' p.2 _ _ _ _ _ _ _ _ _ _ _ (h.keep (b6 d r) zI) (f.keep (b6 d a) zI) (fP r) (fP a);have i:=a8 d;clear h f d;generalize p.1=s at *;go_in;go_wp2_with fail;refine H j ?_;rintro e w1 ⟨rfl,c⟩;have g:=b9 i zE c;clear j i c;go_wp2;go_ret;exact⟨D,g⟩
def Eg {l:List (ZB × T n)} (F:oq S w n l v) (M:oq S' w n l v')
  (j:Bd S w) (d:∀b,S' b->b<w.heap.size) :
  WU WV 11 #[v,v'] w λe x=>e=Zr (Zb true)/\Bw w x:=by
 obtain⟨ao,cap,rfl,u,R⟩:=F;obtain⟨X,Q,rfl,-,t⟩:=M;unfold WX at u;go_in;go_wp2;go_loopw [5] (λi wr=>∃k:Nat,k<=J l/\i=I U k/\Bw w wr) (λi _=>J l-(intOf i).toNat);case atStart=>exact⟨0,E,D,Qg _ _⟩
 case round=>
  obtain⟨k,hk,rfl,a⟩:=hrel;by_cases qf:k<J l
  .obtain⟨b,off,rfl,f,p⟩:=R nS;obtain⟨s,V,rfl,c,o⟩:=t nS;obtain⟨qc,x1,x2,x3,x4,Z,q5,Y,q7,ql,qq,-,qa⟩:=p k qf;obtain⟨y0,y1,y2,y3,y4,L,y,z,B,C,K,-,P⟩:=o k qf;have fs:=kC a Z (j b f);have f0:=kC a q5 (j b f);have f1:=kC a Y (j b f);have f2:=kC a q7 (j b f);have f3:=kC a ql (j b f);have f4:=kC a qq (j b f);have g:=kC a L (d s c);have g0:=kC a y (d s c);have g1:=kC a z (d s c);have g2:=kC a B (d s c);have g3:=kC a C (d s c);have g4:=kC a K (d s c);have q:=qa.keep (b6 a j) zI;have q6:=P.keep (b6 a d) zI;have r:=a.size;have W:G (∀m:Nat,WU WV 39 #[Za #[Zt l[k].1,qc,x1,x2,x3,x4],Za #[Zt l[k].1,y0,y1,y2,y3,y4]] (wr.drewN m) λe x=>e=Zr (Zb true)/\Bw wr x):=by
    intro m;have N:Bw wr (wr.drewN m):=Wn (Qg _ _) m;have O:(wr.drewN m).heap.size=wr.heap.size:=zS;refine H (GD n S S' l[k] _ _ _ _ _ _ _ _ _ _ (wr.drewN m) (q.keep (b6 N (fP j r)) zI) (q6.keep (b6 N (fP d r)) zI)
     (fP j) (fP d)) ?_
    rintro e x ⟨rfl,h⟩;rw[Bw,O]at h;exact⟨D,N.trans h⟩
   go_wp2_with fail;go_region_with (go_at_call 39;refine H (W 1) ?_;rintro e x ⟨rfl,A⟩);all_goals go_wp2_with fail
   all_goals
    go_roundw
    case rel=>exact⟨k+1,E,ew,b9 a r nM⟩
    case measure=>exact eb
  .clear R t;go_wp2;go_ret;exact⟨D,a⟩
def ki(M:Nat)(w:Zw):Prop:=∀b o,M<=b->b<w.heap.size->w.frozen? ⟨b,o,Y⟩=false
def ki.base(w:Zw):ki w.heap.size w:=λb o a c=>E
def ki.set(h:ki M w)(p:Addr)(v:Zv):ki M (w.setCell p v):=λb o a h2=>by
 rw[XO];exact h b o a Ct
def ki.alloc(h:ki M w)(c:Array Zv)(t:W9):ki M (w.alloc (Zc c t)):=λb o f g=>by
 by_cases d:b<w.heap.size
 .have e:=Qf w (Zc c t) b d
  have:=h b o f d
  simp only[World.frozen?,e]at this ⊢
  exact this
 .have a:b=w.heap.size:=by simp at g;omega
  subst a
  have e:=Qh w (Zc c t)
  simp only[World.frozen?,e];simp
def ki.step(h:ki M w)(f:Bw w w')(c:ki w.heap.size w')(_hM:M<=w.heap.size):ki M w':=λb o d e=>by
 by_cases a:b<w.heap.size
 .rw[f.frozen (p:=⟨b,o,Y⟩) a];exact h b o d a
 .exact c b o E e
def A7 (L:cR S w l v) (K:Bd S w) (N:gV l<=1048576) :
  WU WV 27 #[v] w λe p=>∃x,e=Zr x/\cR (λb=>w.heap.size<=b/\b<p.heap.size) p l x/\Bw w p/\ki w.heap.size p/\gQ x:=by
 obtain⟨O,cap,rfl,f,y,s⟩:=L;have M:=yP l;have g:=run_make_row' (P:=WV) 23 9 (Zt WT) 16 underlying23 Tryz.info_str D U U (J l) E E;go_in;go_wp2;go_loopw [4] (λi wr=>∃k:Nat,k<=J l/\i=I U k/\wr.rowIs w.heap.size 9 (J l) (λj=>if j<k then Zt (l.getD j WT) else Zt WT)/\Bw w wr/\wr.heap.size=w.heap.size+1)
  (λi _=>J l-(intOf i).toNat)
 case atStart=>exact⟨0,Q9 _,D,(World.rowIs_made _ _ _ _).congr (λi _=>zS),eC _ _,zS⟩
 case round=>
  obtain⟨k,Q,rfl,a,c,m⟩:=hrel;by_cases qf:k<J l
  .obtain⟨b,off,rfl,r,d⟩:=s nS;have f0:=kC c (d k qf) (K b r);have f1:=a.cell qf;have f2:=a.frozen k;have B:G ((wr.setCell ⟨w.heap.size,k,Y⟩ (Zt l[k])).rowIs w.heap.size 9 (J l) (λj=>if j<k+1 then Zt (l.getD j WT) else Zt WT)):=by
    refine (a.set k (Zt l[k])).congr λi t=>?_;by_cases n:i=k;·subst n;simp[qf]
    .by_cases q:i<k;·rw[Qd n,Qm q,Qm E]
     .rw[Qd n,Qd q,Qd E]
   have z:G (Bw w (wr.setCell ⟨w.heap.size,k,Y⟩ (Zt l[k]))):=c.setCell (QD _) _;clear s d a c g;go_wp2;go_roundw;case rel=>exact⟨k+1,E,ew,B,z,by simpa using m⟩
   case measure=>exact eb
  .have u:k=J l:=E;have HF:G (cR (λb=>w.heap.size<=b/\b<wr.heap.size) wr l (A (b5 w.heap.size 0) (J l) (J l))):=by refine⟨_,_,D,f,y,λ_=>⟨w.heap.size,0,D,⟨QD _,a.lt⟩,λi t=>?_⟩⟩;have:=a.cell t;rw[Qm E]at this;simpa [List.getD,t] using this
   have C:G (ki w.heap.size wr):=λb o n q=>by have:b=w.heap.size:=E;subst this;exact a.frozen o
   clear u s y a g;go_wp2;go_ret;exact⟨_,D,HF,c,C,_,_,_,D,QD _⟩
abbrev TN(f g s t u:Nat):Prop:=(f=57/\g=90/\s=29/\t=31/\u=50)∨(f=8/\g=28/\s=36/\t=38/\u=26)
def SU:TN 57 90 29 31 50:=E
def DE:TN 8 28 36 38 26:=E
def ST(h:TN f g s t u):(prog.info? t).map (λi=>(i.zero,i.size,i.bytes))=Z (Z (Uy 0 0 WT Y 0 0 Y 0 0),5,80)/\prog.underlying s=Z (.slice t):=by
 rcases h with ⟨-,-,rfl,rfl,-⟩|⟨-,-,rfl,rfl,-⟩;·exact⟨gZ,underlying29⟩
 .exact⟨gZ,underlying36⟩
def qaN (e:TN f g s t u) (n:Nat) (j:n<=1048576) (w:Zw):(Instr.makeSlice s (I U (n:Int)) (I U (n:Int))).run WV w =
  .ok (A (b5 w.heap.size 0) n n) (w.alloc (Zc (madeCells (Uz 0 0 WT Y 0 0 Y 0 0) (n*5)) t)):=by have⟨a,h⟩:=ST e;have⟨i,a,b,c,d⟩:=QY a;have:=run_make (P:=WV) w s t i _ h a b U U (n:Int) (n:Int) E E (by rw[d];omega) E;rw[c]at this;simpa [Value.cells] using this
def wn(f n:Nat):Prop:=∀(S:ZN)(t:T n)(c0 c1 c2 c3 c4:Zv)(w:Zw),cT S w n t c0 c1 c2 c3 c4->(Bd S w)->gY n t<=1048576 ->
 WU WV f #[Za #[c0,c1,c2,c3,c4]] w λe a=>∃c d g h i,e=Zr (Za #[c,d,g,h,i])/\b8 (λb=>w.heap.size<=b/\b<a.heap.size) a n t c d g h i/\Bw w a/\ki w.heap.size a
def DF (q7:TN f g s t u) (hn:wn f n) (S:ZN) (l:List (T n)) (v:Zv) (w:Zw) (hl:dn S w (cT S w n) l v) (O:Bd S w) (ae:cG (λk=>gY n k+1) l<=1048576) :
  WU WV g #[v] w λe Q=>∃F,e=Zr F/\dn (λb=>w.heap.size<=b/\b<Q.heap.size) Q (b8 (λb=>w.heap.size<=b/\b<Q.heap.size) Q n) l F/\gQ F/\Bw w Q/\ki w.heap.size Q:=by
 obtain⟨ao,cap,rfl,q6,hc⟩:=hl;have ac:=oZ (gY n) l;have ad:=qaN q7 (J l) E;obtain⟨Rl,V⟩:∃ R:Zv->Zw->Prop,R=λi wr=>∃ (k:Nat) (Fzq:Nat->Zv),k<=J l/\i=I U k/\wr.rowIs w.heap.size t (J l*5) Fzq/\(Bw w wr/\ki w.heap.size wr) /\
   ∀j (h:j<J l),j<k->b8 (λb=>w.heap.size<b/\b<wr.heap.size) wr n l[j] (Fzq (j*5)) (Fzq (j*5+1)) (Fzq (j*5+2)) (Fzq (j*5+3)) (Fzq (j*5+4)):=⟨_,D⟩
 rcases q7 with ⟨rfl,rfl,rfl,rfl,rfl⟩|⟨rfl,rfl,rfl,rfl,rfl⟩
 all_goals
  go_in
  go_wp2
  go_loopw [4] Rl
   (λi _=>J l-(intOf i).toNat)
  case atStart=>
   subst V
   obtain⟨Fzq,hF⟩:=oY w (Uz 0 0 WT Y 0 0 Y 0 0) (J l*5) _
   exact TF
  case round=>
   subst V
   obtain⟨k,Fzq,hk,rfl,d,⟨c,q8⟩,q⟩:=hrel
   by_cases qf:k<J l
   .obtain⟨b,off,rfl,p,P⟩:=hc nS
    obtain⟨d0,d1,d2,d3,d4,e0,e1,e2,e3,e4,hr⟩:=P k qf
    have f0:=kC c e0 (O b p)
    have f1:=kC c e1 (O b p)
    have f2:=kC c e2 (O b p)
    have f3:=kC c e3 (O b p)
    have f4:=kC c e4 (O b p)
    have j0:=hr.keep (b6 c O) zI
    have r:=c.size
    have qc:=eK (λk=>gY n k+1) l l[k] (QE qf)
    go_wp2_with fail
    refine H (hn S l[k] d0 d1 d2 d3 d4 wr j0 (fP O r) E) ?_
    rintro e w1 ⟨g0,g1,g2,g3,g4,rfl,W,m,qa⟩
    have qq:=q8.step m qa r
    have af:=m.size
    have q9:=d.lt
    have a:=d.of_block (m.block _ q9)
    have q0:=a.cell (i:=k*5) E
    have q1:=a.cell (i:=k*5+1) E
    have q2:=a.cell (i:=k*5+2) E
    have q3:=a.cell (i:=k*5+3) E
    have q4:=a.cell (i:=k*5+4) E
    have r0:=a.frozen (k*5)
    have r1:=a.frozen (k*5+1)
    have r2:=a.frozen (k*5+2)
    have r3:=a.frozen (k*5+3)
    have r4:=a.frozen (k*5+4)
    obtain⟨x,y,z,B,K,C,L,N,M,rfl,rfl,rfl,rfl,rfl⟩:=W.shape
    have HR:G (∀ j (h:j<J l),j<k+1->b8 (λb=>w.heap.size<b/\b<(eF w1 w.heap.size (k*5) (I U x) (I U y) (Zt z) (A B K C) (A L N M)).heap.size)
      (eF w1 w.heap.size (k*5) (I U x) (I U y) (Zt z) (A B K C) (A L N M)) n l[j]
      (kK (k*5) Fzq (I U x) (I U y) (Zt z) (A B K C) (A L N M) (j*5)) (kK (k*5) Fzq (I U x) (I U y) (Zt z) (A B K C) (A L N M) (j*5+1))
      (kK (k*5) Fzq (I U x) (I U y) (Zt z) (A B K C) (A L N M) (j*5+2)) (kK (k*5) Fzq (I U x) (I U y) (Zt z) (A B K C) (A L N M) (j*5+3))
      (kK (k*5) Fzq (I U x) (I U y) (Zt z) (A B K C) (A L N M) (j*5+4))):=by
     intro j hj aa
     by_cases X:j<k
     .rw[lx _ _ _ _ _ _ (j*5) E,lx _ _ _ _ _ _ (j*5+1) E,lx _ _ _ _ _ _ (j*5+2) E,lx _ _ _ _ _ _ (j*5+3) E,lx _ _ _ _ _ _ (j*5+4) E]
      refine (q j hj X).keep (λb q5=>?_) (λb q5=>?_)
      .rw[dt E];exact m.block b q5.2
      .exact Ab
     .have:j=k:=E
      subst this
      rw[SC,SD,SE,SF,SG]
      refine W.keep (λb q5=>?_) (λb q5=>?_)
      .rw[dt E]
      .exact Ab
    have HW:=OZ a (k*5) (I U x) (I U y) (Zt z) (A B K C) (A L N M)
    have ql:=dk (o:=k*5) (g0:=I U x) (g1:=I U y) (g2:=Zt z) (g3:=A B K C) (g4:=A L N M) (b9 c r m) (QD _)
    have HA:G (_/\_/\_/\_):=⟨HW,ql,HR,(((((qq.set ⟨w.heap.size,k*5,Y⟩ (I U x)).set ⟨w.heap.size,k*5+1,Y⟩ (I U y)).set ⟨w.heap.size,k*5+2,Y⟩ (Zt z)).set ⟨w.heap.size,k*5+3,Y⟩ (A B K C)).set ⟨w.heap.size,k*5+4,Y⟩ (A L N M))⟩
    exact Yv
   .have ab:k=J l:=E
    have HF:G (dn (λb=>w.heap.size<=b/\b<wr.heap.size) wr (b8 (λb=>w.heap.size<=b/\b<wr.heap.size) wr n) l (A (Z ⟨w.heap.size,0,Y⟩) (J l) (J l))):=by
     refine⟨_,_,D,q6,λ_=>⟨w.heap.size,0,D,⟨QD _,d.lt⟩,λi hi=>?_⟩⟩
     refine⟨_,_,_,_,_,?_,?_,?_,?_,?_,(q i hi E).keep ik Cj⟩
     .simpa using d.cell (i:=i*5) E
     .simpa using d.cell (i:=i*5+1) E
     .simpa using d.cell (i:=i*5+2) E
     .simpa using d.cell (i:=i*5+3) E
     .simpa using d.cell (i:=i*5+4) E
    go_wp2
    go_ret
    exact⟨_,D,HF,⟨_,_,_,D,QD _⟩,c,q8⟩
def DG{q:Nat}(qq:TN f g s q u)(hn:wn f n):wn f (n+1):=by
 intro S t c0 c1 c2 c3 c4 w ht r X;obtain⟨rfl,rfl,rfl,hs,q9,q5,h3,qa⟩:=ht;have hT:gY (n+1) t=(F.a t).size+gV (F.q t)+cG (λk=>gY n k+1) (F.o t):=D;rw[hT]at X;have m:Bw w (((w.alloc (Zc #[I U (F.k t),I U (F.n t),Zt (F.a t),c3,c4] u)).alloc
   (Zc #[I U 0,I U 0,Zt ⟨#[]⟩,A Y 0 0,A Y 0 0] q)).alloc (Zc (Uz (F.k t) (F.n t) (F.a t) Y 0 0 Y 0 0) q)):=
  ((eC _ _).alloc zS _).alloc zE _
 have V:=h3.keep (b6 m r) zI;have q8:=a8 (qa.keepT (b6 m r) zI);obtain⟨ka,kc,W,-⟩:=qa;subst W;have ql:=a8 (DF qq hn);rcases qq with ⟨rfl,rfl,rfl,rfl,rfl⟩|⟨rfl,rfl,rfl,rfl,rfl⟩;all_goals
  go_in
  go_wp2_with fail
  refine H (A7 V (fP r) E) ?_
  rintro e w1 ⟨v3,rfl,K,h,q7,o⟩
  have B:=ki.step (((ki.base w).alloc _ _).alloc _ _ |>.alloc _ _) h q7 zE
  have N:=a8 o
  have q6:=h.size
  simp at q6
  have⟨hc,hf⟩:=BB h
  obtain⟨na,nc,rfl,-⟩:=id K
  have R:=a8 K
  have x:=b9 m zE h
  have P:=a8 (q8.keepT (b6 h (fP r)) zI)
  have l:gw S w1 (w1.setCell ⟨w.heap.size+1+1,3,Y⟩ (A na (J (F.q t)) nc)):=λb j=>Qr _ _ _ _ (by have:=r b j;show b≠w.heap.size+1+1;omega)
  have Q:=a8 (P.keepT l zI)
  have y:Bw w (w1.setCell ⟨w.heap.size+1+1,3,Y⟩ (A na (J (F.q t)) nc)):=x.setCell (by show w.heap.size<=w.heap.size+1+1;omega) _
  go_wp2_with fail
  refine H (ql S _ _ _ Q (fP r) E) ?_
  rintro e a ⟨v4,rfl,L,p,i,j0⟩
  have C:=ki.step (B.set ⟨w.heap.size+1+1,3,Y⟩ (A na (J (F.q t)) nc)) i j0 zE
  have O:=a8 p
  have j2:=i.size
  simp at j2
  have⟨jK,ux⟩:=BB i
  obtain⟨c,d,rfl,-⟩:=id L
  have T:=a8 L
  have z:=b9 y zE i
  have M:=a8 i
  have m0:a7 a (w.heap.size+1+1) 0=Z (I U (F.k t)):=Bf
  have m1:a7 a (w.heap.size+1+1) 1=Z (I U (F.n t)):=Bf
  have m2:a7 a (w.heap.size+1+1) 2=Z (Zt (F.a t)):=Bf
  have m3:a7 a (w.heap.size+1+1) 3=Z (A na (J (F.q t)) nc):=Bf
  have m4:a7 a (w.heap.size+1+1) 4=Z (A Y 0 0):=Bf
  have aa:a.frozen? ⟨w.heap.size+1+1,4,Y⟩=false:=Ci
  have r0:a7 a (w.heap.size+1) 0=Z (I U 0):=Bf
  have ab:a.frozen? ⟨w.heap.size+1,0,Y⟩=false:=Ci
  have r1:a7 a (w.heap.size+1) 1=Z (I U 0):=Bf
  have ac:a.frozen? ⟨w.heap.size+1,1,Y⟩=false:=Ci
  have r2:a7 a (w.heap.size+1) 2=Z (Zt ⟨#[]⟩):=Bf
  have ad:a.frozen? ⟨w.heap.size+1,2,Y⟩=false:=Ci
  have r3:a7 a (w.heap.size+1) 3=Z (A Y 0 0):=Bf
  have ae:a.frozen? ⟨w.heap.size+1,3,Y⟩=false:=Ci
  have r4:a7 a (w.heap.size+1) 4=Z (A Y 0 0):=Bf
  have af:a.frozen? ⟨w.heap.size+1,4,Y⟩=false:=Ci
  have HF:G (b8 (λb=>w.heap.size<=b/\b<(eF (a.setCell ⟨w.heap.size+1+1,4,Y⟩ (A c (J (F.o t)) d)) (w.heap.size+1) 0 (I U (F.k t)) (I U (F.n t)) (Zt (F.a t)) (A na (J (F.q t)) nc) (A c (J (F.o t)) d)).heap.size)
    (eF (a.setCell ⟨w.heap.size+1+1,4,Y⟩ (A c (J (F.o t)) d)) (w.heap.size+1) 0 (I U (F.k t)) (I U (F.n t)) (Zt (F.a t)) (A na (J (F.q t)) nc) (A c (J (F.o t)) d))
    (n+1) t (I U (F.k t)) (I U (F.n t)) (Zt (F.a t)) (A na (J (F.q t)) nc) (A c (J (F.o t)) d)):=by
   refine⟨D,D,D,hs,q9,q5,R.keep (λb j=>?_) (λb j=>?_),T.keepN (λb j=>?_) (λb j=>?_),N,O⟩
   .simp at j
    rw[dt E,Qr _ _ _ _ PT,M.block b zE,Qr _ _ _ _ PT]
   .simp at j;rw[eJ];simp;omega
   .simp at j
    rw[dt E,Qr _ _ _ _ PT]
   .simp at j;rw[eJ];simp;omega
  have qc:G (Bw w (eF (a.setCell ⟨w.heap.size+1+1,4,Y⟩ (A c (J (F.o t)) d)) (w.heap.size+1) 0 (I U (F.k t)) (I U (F.n t)) (Zt (F.a t)) (A na (J (F.q t)) nc) (A c (J (F.o t)) d))):=
   dk (z.setCell (by show w.heap.size<=w.heap.size+1+1;omega) _) E
  have HT:G (ki w.heap.size (eF (a.setCell ⟨w.heap.size+1+1,4,Y⟩ (A c (J (F.o t)) d)) (w.heap.size+1) 0 (I U (F.k t)) (I U (F.n t)) (Zt (F.a t)) (A na (J (F.q t)) nc) (A c (J (F.o t)) d))):=
   ((((((C.set ⟨w.heap.size+1+1,4,Y⟩ (A c (J (F.o t)) d)).set ⟨w.heap.size+1,0,Y⟩ (I U (F.k t))).set ⟨w.heap.size+1,0+1,Y⟩ (I U (F.n t))).set ⟨w.heap.size+1,0+2,Y⟩ (Zt (F.a t))).set ⟨w.heap.size+1,0+3,Y⟩ (A na (J (F.q t)) nc)).set ⟨w.heap.size+1,0+4,Y⟩ (A c (J (F.o t)) d))
  go_wp2_with fail
  refine XQ (v:=Uy (F.k t) (F.n t) (F.a t) na (J (F.q t)) nc c (J (F.o t)) d) (by first|simp[results,results57,go_sem,r0,r1,r2,r3,r4]|simp[results,results8,go_sem,r0,r1,r2,r3,r4]) D ?_
  exact⟨_,_,_,_,_,D,HF,qc,HT⟩
def mT(a:TN f g s t u):∀n,wn f n:=by
 intro n;induction n with
 | zero=>intro S t c0 c1 c2 c3 c4 w b;exact b.elim
 | succ n c=>exact DG a c
def Tryz.info_lbnd:(prog.info? 59).map (λi=>(i.zero,i.size,i.bytes))=Z (Z (Za #[Zt ⟨#[]⟩,I U 0,I U 0,Zt ⟨#[]⟩,A Y 0 0,A Y 0 0]),6,96):=gZ
def Lx (n:Nat) (f:n<=1048576) (w:Zw):(Instr.makeSlice 34 (I U (n:Int)) (I U (n:Int))).run WV w =
  .ok (A (b5 w.heap.size 0) n n) (w.alloc (Zc (madeCells #[Zt ⟨#[]⟩,I U 0,I U 0,Zt ⟨#[]⟩,A Y 0 0,A Y 0 0] (n*6)) 59)):=by have⟨e,d,a,b,c⟩:=QY Tryz.info_lbnd;have:=run_make (P:=WV) w 34 59 e _ underlying34 d a U U (n:Int) (n:Int) E E (by rw[c];omega) E;rw[b]at this;simpa [Value.cells] using this
def Mu (n:Nat) (S:ZN) (p:ZB × T n) (c0 c1 c2 c3 c4:Zv) (w:Zw) (qc:cT S w n p.2 c0 c1 c2 c3 c4) (q5:Bd S w) (q6:gY n p.2<=1048576) :
  WU WV 26 #[Za #[Zt p.1,c0,c1,c2,c3,c4]] w λe t=>∃P Q R V X,e=Zr (Za #[Zt p.1,P,Q,R,V,X])/\b8 (λb=>w.heap.size<=b/\b<t.heap.size) t n p.2 P Q R V X/\Bw w t/\ki w.heap.size t:=by
 obtain⟨x0,x1,x2,xa,xl,xc,ya,yl,yc,rfl,rfl,rfl,rfl,rfl⟩:=qc.shape;have⟨W,hW⟩:=fk (((w.alloc (Zc #[Zt p.1,I U x0,I U x1,Zt x2,A xa xl xc,A ya yl yc] 52)).alloc (Zc #[Zt ⟨#[]⟩,I U 0,I U 0,Zt ⟨#[]⟩,A Y 0 0,A Y 0 0] 59)).alloc (Zc #[Zt p.1,I U 0,I U 0,Zt ⟨#[]⟩,A Y 0 0,A Y 0 0] 59));have k:Bw w W:=by rw[hW];exact ((eC _ _).alloc zS _).alloc zE _
 have hz:W.heap.size=w.heap.size+3:=pR;have q8:ki w.heap.size W:=by rw[hW];exact ((ki.base w).alloc _ _).alloc _ _ |>.alloc _ _
 have HC:=a8 (mT SU n S p.2 _ _ _ _ _ W (qc.keep (b6 k q5) zI) (fP q5) q6);have hA:∀j,j<6->a7 W (w.heap.size+1) j=#[Ul ⟨#[]⟩,I U 0,I U 0,Zt ⟨#[]⟩,A Y 0 0,A Y 0 0][j]?/\W.frozen? ⟨w.heap.size+1,j,Y⟩=false/\a7 W (w.heap.size+1+1) j=#[Zt p.1,I U 0,I U 0,Zt ⟨#[]⟩,A Y 0 0,A Y 0 0][j]?/\W.frozen? ⟨w.heap.size+1+1,j,Y⟩=false:=λj F=>by rw[hW];rcases j with _|_|_|_|_|_|j<;>first|(refine⟨?_,?_,?_,?_⟩<;>simp[go_sem])|omega
 have ql:=a8 hA;have O:=a8 q8;have L:=a8 k;have HZ:=a8 hz;go_in;go_wp2_with fail;rw[<- hW];refine H HC ?_;rintro e w1 ⟨P,Q,R,V,X,rfl,l,i,q9⟩;obtain⟨u,x,y,z,C,B,q,s,r,rfl,rfl,rfl,rfl,rfl⟩:=l.shape;have aa:=HZ.out;have⟨j0,qa⟩:=BB i;have f:∀j,j<6->a7 w1 (w.heap.size+1) j=#[Ul ⟨#[]⟩,I U 0,I U 0,Zt ⟨#[]⟩,A Y 0 0,A Y 0 0][j]?/\w1.frozen? ⟨w.heap.size+1,j,Y⟩=false/\a7 w1 (w.heap.size+1+1) j=#[Zt p.1,I U 0,I U 0,Zt ⟨#[]⟩,A Y 0 0,A Y 0 0][j]?/\w1.frozen? ⟨w.heap.size+1+1,j,Y⟩=false:=λj F=>by have⟨a,b,c,d⟩:=ql.out j F;exact⟨(j0 _ _ E).trans a,(qa _ _ E).trans b,(j0 _ _ E).trans c,(qa _ _ E).trans d⟩
 have⟨r0,ah,m0,ab⟩:=f 0 E;have⟨r1,ai,m1,ac⟩:=f 1 E;have⟨r2,aj,m2,ad⟩:=f 2 E;have⟨r3,ak,m3,ae⟩:=f 3 E;have⟨r4,al,m4,af⟩:=f 4 E;have⟨q7,am,m5,ag⟩:=f 5 E;simp only[Wj,XS,Z5]at r0 m0 r1 m1 r2 m2 r3 m3 r4 m4 q7 m5;have N:=a8 l;have K:=a8 (b9 L E i);have m:=O.step i q9 E;have⟨W2,g⟩:=fk (eF w1 (w.heap.size+1+1) 1 (I U u) (I U x) (Zt y) (A z C B) (A q s r));have⟨o,h⟩:=fk (eF (W2.setCell ⟨w.heap.size+1,0,Y⟩ (Zt p.1)) (w.heap.size+1) 1 (I U u) (I U x) (Zt y) (A z C B) (A q s r));have HF:G (b8 (λb=>w.heap.size<=b/\b<o.heap.size) o n p.2 (I U u) (I U x) (Zt y) (A z C B) (A q s r)/\Bw w o/\ki w.heap.size o):=by
  refine⟨N.keep (λb hb=>?_) (λb hb=>?_),?_,?_⟩;·rw[h,dt E,Qr _ _ _ _ (by show b≠w.heap.size+1;omega),g,dt E]
  .rw[h,eJ];simp;rw[g,eJ];omega
  .rw[h];refine dk (Below.setCell ?_ (by show w.heap.size<=w.heap.size+1;omega) _) E;rw[g];exact dk K E
  .rw[h,g];exact (((((((((((m.set _ _).set _ _).set _ _).set _ _).set _ _).set ⟨w.heap.size+1,0,Y⟩ (Zt p.1)).set _ _).set _ _).set _ _).set _ _).set _ _)
 have qq:=h;rw[g]at qq;have M:=a8 qq;go_wp2_with fail;refine XQ (v:=Za #[Zt p.1,I U u,I U x,Zt y,A z C B,A q s r]) (by simp[results,results26,go_sem,r0,r1,r2,r3,r4,q7]) D ?_;refine⟨_,_,_,_,_,D,?_⟩;have:=HF.out;rw[M.out]at this;exact this
def H9(w:Zw)(b o:Nat)(s g0 g1 g2 g3 g4:Zv):Zw:=eF (w.setCell ⟨b,o,Y⟩ s) b (o+1) g0 g1 g2 g3 g4
def p9(o:Nat)(a:Nat->Zv)(s g0 g1 g2 g3 g4:Zv)(j:Nat):Zv:=
 if j=o+5 then g4 else if j=o+4 then g3 else if j=o+3 then g2 else if j=o+2 then g1 else if j=o+1 then g0 else if j=o then s else a j
def O0{a:Nat->Zv}(h:w.rowIs b t N a)(o:Nat)(s g0 g1 g2 g3 g4:Zv):(H9 w b o s g0 g1 g2 g3 g4).rowIs b t N (p9 o a s g0 g1 g2 g3 g4):=
 (((((h.set o s).set (o+1) g0).set (o+2) g1).set (o+3) g2).set (o+4) g3).set (o+5) g4
def i8(a:Nat->Zv)(s g0 g1 g2 g3 g4:Zv)(j:Nat)(b:j<o∨o+6<=j):p9 o a s g0 g1 g2 g3 g4 j=a j:=by unfold p9;rw[Qd E,Qd E,Qd E,Qd E,Qd E,Qd E]
def yB{s:Zv}{k:Nat}(h:k≠b):(H9 w b o s g0 g1 g2 g3 g4).heap[k]?=w.heap[k]?:=(dt h).trans (Qr _ _ _ _ h)
def B5{s:Zv}:(H9 w b o s g0 g1 g2 g3 g4).heap.size=w.heap.size:=by rw[H9,eJ];simp
def rO {l:List (ZB × T n)} (hl:oq S w n l v) (L:Bd S w) (ae:cG (λk=>ou k+1) l<=1048576) :
  WU WV 7 #[v] w λe q7=>∃a c,e=Zr (A a (J l) c)/\fM (λb=>w.heap.size<=b/\b<q7.heap.size) q7 n l (A a (J l) c)/\Bw w q7/\ki w.heap.size q7:=by
 obtain⟨ao,cap,rfl,P,hc⟩:=hl;have ac:=oZ (ou (n:=n)) l;have ad:=Lx (J l) E;go_in;go_wp2;go_loopw [4] (λi wr=>∃ (k:Nat) (Fzq:Nat->Zv),k<=J l/\i=I U k/\wr.rowIs w.heap.size 59 (J l*6) Fzq/\(Bw w wr/\ki w.heap.size wr) /\
   ∀j (h:j<J l),j<k->Fzq (j*6)=Zt l[j].1/\l[j].1.size<=WX/\b8 (λb=>w.heap.size<b/\b<wr.heap.size) wr n l[j].2 (Fzq (j*6+1)) (Fzq (j*6+2)) (Fzq (j*6+3)) (Fzq (j*6+4)) (Fzq (j*6+5)))
  (λi _=>J l-(intOf i).toNat)
 case atStart=>have⟨Fzq,hF⟩:=oY w #[Zt ⟨#[]⟩,I U 0,I U 0,Zt ⟨#[]⟩,A Y 0 0,A Y 0 0] (J l*6) 59;exact TF
 case round=>
  obtain⟨k,Fzq,hk,rfl,g,⟨f,V⟩,q⟩:=hrel;by_cases qf:k<J l
  .obtain⟨b,off,rfl,m,M⟩:=hc nS;have⟨d0,d1,d2,d3,d4,es,e0,e1,e2,e3,e4,q9,hr⟩:=M k qf;have fs:=kC f es (L b m);have f0:=kC f e0 (L b m);have f1:=kC f e1 (L b m);have f2:=kC f e2 (L b m);have f3:=kC f e3 (L b m);have f4:=kC f e4 (L b m);have j0:=hr.keep (b6 f L) zI;have r:=f.size;have F:=eK (λk=>ou k+1) l l[k] zS;have R:gY n l[k].2<=1048576:=by have:ou l[k]=l[k].1.size+gY n l[k].2:=D;omega
   go_wp2_with fail;refine H (Mu n S l[k] d0 d1 d2 d3 d4 wr j0 (fP L r) R) ?_;rintro e w1 ⟨g0,g1,g2,g3,g4,rfl,N,p,qq⟩;have W:=V.step p qq r;have af:=p.size;have Q:=g.lt;have d:=g.of_block (p.block _ Q);have q0:=d.cell (i:=k*6) E;have q1:=d.cell (i:=k*6+1) E;have q2:=d.cell (i:=k*6+2) E;have q3:=d.cell (i:=k*6+3) E;have q4:=d.cell (i:=k*6+4) E;have q5:=d.cell (i:=k*6+5) E;have r0:=d.frozen (k*6);have r1:=d.frozen (k*6+1);have r2:=d.frozen (k*6+2);have r3:=d.frozen (k*6+3);have r4:=d.frozen (k*6+4);have r5:=d.frozen (k*6+5);obtain⟨s,t,u,x,z,y,B,K,C,rfl,rfl,rfl,rfl,rfl⟩:=N.shape;have q8:G (∀ j (h:j<J l),j<k+1->p9 (k*6) Fzq (Zt l[k].1) (I U s) (I U t) (Zt u) (A x z y) (A B K C) (j*6)=Zt l[j].1/\l[j].1.size<=WX/\b8 (λb=>w.heap.size<b/\b<(H9 w1 w.heap.size (k*6) (Zt l[k].1) (I U s) (I U t) (Zt u) (A x z y) (A B K C)).heap.size)
     (H9 w1 w.heap.size (k*6) (Zt l[k].1) (I U s) (I U t) (Zt u) (A x z y) (A B K C)) n l[j].2
     (p9 (k*6) Fzq (Zt l[k].1) (I U s) (I U t) (Zt u) (A x z y) (A B K C) (j*6+1)) (p9 (k*6) Fzq (Zt l[k].1) (I U s) (I U t) (Zt u) (A x z y) (A B K C) (j*6+2))
     (p9 (k*6) Fzq (Zt l[k].1) (I U s) (I U t) (Zt u) (A x z y) (A B K C) (j*6+3)) (p9 (k*6) Fzq (Zt l[k].1) (I U s) (I U t) (Zt u) (A x z y) (A B K C) (j*6+4)) (p9 (k*6) Fzq (Zt l[k].1) (I U s) (I U t) (Zt u) (A x z y) (A B K C) (j*6+5))):=by
    intro j hj aa
    by_cases O:j<k
    .rw[i8 _ _ _ _ _ _ _ (j*6) E,i8 _ _ _ _ _ _ _ (j*6+1) E,i8 _ _ _ _ _ _ _ (j*6+2) E,i8 _ _ _ _ _ _ _ (j*6+3) E,i8 _ _ _ _ _ _ _ (j*6+4) E,i8 _ _ _ _ _ _ _ (j*6+5) E]
     have⟨q6,j2,qa⟩:=q j hj O
     refine⟨q6,j2,qa.keep (λb X=>?_) (λb X=>?_)⟩
     .rw[yB E];exact p.block b X.2
     .rw[B5];omega
    .have:j=k:=E
     subst this
     simp only[p9]
     refine⟨zS,q9,?_⟩
     simp
     refine N.keep (λb X=>?_) (λb X=>?_)
     .rw[yB E]
     .rw[B5];omega
   have ql:=O0 d (k*6) (Zt l[k].1) (I U s) (I U t) (Zt u) (A x z y) (A B K C);have qc:Bw w (H9 w1 w.heap.size (k*6) (Zt l[k].1) (I U s) (I U t) (Zt u) (A x z y) (A B K C)):=dk ((b9 f r p).setCell (QD _) _) (QD _);have HA:G (_/\_/\_/\_):=⟨ql,qc,q8,(((((W.set ⟨w.heap.size,k*6,Y⟩ (Zt l[k].1)).set ⟨w.heap.size,k*6+1,Y⟩ (I U s)).set ⟨w.heap.size,k*6+2,Y⟩ (I U t)).set ⟨w.heap.size,k*6+3,Y⟩ (Zt u)).set ⟨w.heap.size,k*6+4,Y⟩ (A x z y)).set ⟨w.heap.size,k*6+5,Y⟩ (A B K C)⟩;exact Yv
  .have ab:k=J l:=E;have HF:G (fM (λb=>w.heap.size<=b/\b<wr.heap.size) wr n l (A (b5 w.heap.size 0) (J l) (J l))):=by
    refine⟨_,_,D,P,λ_=>⟨w.heap.size,0,D,⟨E,g.lt⟩,λi hi=>?_⟩⟩;have⟨q6,j2,qa⟩:=q i hi E;refine⟨_,_,_,_,_,?_,?_,?_,?_,?_,?_,j2,qa.keep ik Cj⟩;·rw[<- q6];simpa using g.cell (i:=i*6) E
    .simpa using g.cell (i:=i*6+1) E
    .simpa using g.cell (i:=i*6+2) E
    .simpa using g.cell (i:=i*6+3) E
    .simpa using g.cell (i:=i*6+4) E
    .simpa using g.cell (i:=i*6+5) E
   go_wp2;go_ret;exact⟨_,_,D,HF,f,V⟩
def Si (n:Nat) (i j:Int) (l:ZB) (c3 c4:Zv) (L3 L4:List cZ) (k:Int) (w:Zw) (p:lE w c3 L3) (q:lI w n c4 L4) (x:1<=k) (C:k+J L3+J L4<=1000000000) :
  WU WV 15 #[Za #[I U i,I U j,Zt l,c3,c4],I U k] w λe z=>e=Zr (I U (k+J L3+J L4))/\dA (L3++L4) k w z:=by
 obtain⟨na,m,nc,rfl⟩:=p.slice;obtain⟨c,f,d,rfl⟩:=q.slice;have b:=(Qg w.heap.size w).alloc E (UA i j l na m nc c f d);have a:=p.below b;have u:G (WU WV 42 _ _ _):=gS k a x E;have o:G (lI (w.alloc (UA i j l na m nc c f d)) n (A c f d) L4/\∀s,s∈L3->s.ok (w.alloc (UA i j l na m nc c f d))):=⟨q.below b,a.ok⟩;have y:a7 (w.alloc (UA i j l na m nc c f d)) w.heap.size 4=Z (A c f d):=by simp[go_sem]
 clear p q a;go_in;go_wp2_with fail;refine H u ?_;rintro e w1 ⟨rfl,r⟩;have t:=r.sim o.2;have K:=t.sl _ _ _ _ _ y;have g:G (WU WV 43 _ _ _):=AP n L4 _ (k+J L3) w1 (o.1.sim t) E E;have v:G _:=r;clear t r u o;go_wp2_with fail;refine H g ?_;rintro e B ⟨rfl,h⟩;have HF:G (dA (L3++L4) k w B):=dA.from_below b (v.trans h);clear h v g;go_wp2;go_ret;exact⟨D,HF⟩
def ss (r s:Int) (t:ZB) (j:lE w c3 L3) (l:lI w n c4 L4) (y:Holds w (L3++L4) k) (B:1<=k) (M:k+J L3+J L4<=1000000000) :
  WU WV 16 #[Za #[I U r,I U s,Zt t,c3,c4],I U k] w λe q=>e=Zr (I U (k+J L3+J L4))/\Bw w q:=by obtain⟨na,z,nc,rfl⟩:=j.slice;obtain⟨m,p,o,rfl⟩:=l.slice;have⟨h,i⟩:=nA y;have b:=(Qg w.heap.size w).alloc E (UA r s t na z nc m p o);have u:G (WU WV 45 _ _ _):=ot (j.below b) (h.below j.ok b) B E;have v:G (∀W,Bw w W->WU WV 46 #[A m p o,I U (k+J L3)] W λe q=>e=Zr (I U (k+J L3+J L4))/\Bw W q):=λW x=>AC n L4 _ (k+J L3) W (l.below x) (i.below l.ok x) E E;have C:a7 (w.alloc (UA r s t na z nc m p o)) w.heap.size 4=Z (A m p o):=ke;have K:¬k+(J L3:Int)<0:=E;have L:¬k+(J L3:Int)+(J L4:Int)<0:=E;clear j l y h i;go_in;go_wp2_with fail;refine H u ?_;rintro e w1 ⟨rfl,c⟩;have N:=kC c C zS;have a:=b9 b zS c;have d:G (WU WV 46 _ _ _):=v.out w1 a;clear u v c;go_wp2_with fail;refine H d ?_;rintro e O ⟨rfl,f⟩;have g:=b9 a a.size f;clear f d;go_wp2;go_ret;exact⟨D,g⟩
abbrev TM(fm fs fu:Nat):Prop:=(fm=15/\fs=43/\fu=31)∨(fm=14/\fs=44/\fu=38)
def JK:TM 15 43 31:=E
def SS:TM 14 44 38:=E
def pr(a n:Nat):Prop:=∀(L:List cZ)(v:Zv)(k:Int)(w:Zw),lI w n v L->1<=k->k+J L<=1000000000 ->
 WU WV a #[v,I U k] w λe b=>e=Zr (I U (k+J L))/\dA L k w b
def Hk(a:TM fm fs fu):pr fs 0:=by
 intro L v k w h c d;obtain⟨b,cap,rfl,rfl⟩:=h;have HP:G (dA [] k w w/\k=k+(J ([]:List cZ):Int)):=⟨dA.refl k w,zS⟩;rcases a with ⟨rfl,rfl,rfl⟩|⟨rfl,rfl,rfl⟩;all_goals
  go_in
  go_wp2
  refine wp_loop_rounds 1 ?_;repeat any_goals (rw[rounds_succ];go_wp2)
  go_ret
  exact⟨zS,HP.1⟩
def Hj(hq:TM fm fs fu)(hn:pr fs n):pr fs (n+1):=by
 intro L v k w h h0 F;have ac:=h.ok;obtain⟨ao,cap,Ls,rfl,Q,rfl,hi⟩:=h;unfold WX at Q;have qq:=a8 ac;have x:G (∀j,J (Ls.take j).flatten<=J Ls.flatten):=λj=>ip Ls j;have HB:=a8 F;rcases hq with ⟨rfl,rfl,rfl⟩|⟨rfl,rfl,rfl⟩
 all_goals
  go_in
  go_wp2
  go_loopw [1,5] (λa i wr=>∃j:Nat,j<=J Ls/\i=I U j/\a=I U (k+(J (Ls.take j).flatten:Int))/\dA (Ls.take j).flatten k w wr) (λ_ i _=>J Ls-(intOf i).toNat)
  case atStart=>exact⟨0,E,D,zS,by simpa using dA.refl k w⟩
  case round=>
   obtain⟨j,hj,rfl,rfl,jU⟩:=hrel
   by_cases R:j<J Ls
   .obtain⟨b,off,c3,c4,l,u,rfl,C,d,N,ab,hN,hR⟩:=hi j R
    have c:=lV R
    have P:=x.out (j+1)
    rw[c,C]at P
    simp only[Qi]at P
    have t:J (mQ b (off+j*5))=3:=D
    have aa:k+(J (Ls.take j).flatten:Int)+3+J l+J u<=1000000000:=by have:=HB.out;omega
    have f:∀s,s∈(Ls.take j).flatten->s.ok w:=λs S=>qq s (by
     have⟨Li,F,h2⟩:=Xl.1 S
     exact Xl.2 ⟨Li,XW F,h2⟩)
    have⟨M,hM⟩:=fk ((Ls.take j).flatten)
    rw[<- hM]at jU f c aa ⊢
    have g:=jU.sim f
    have o0:=cZ.ok_sim (d ⟨b,off+j*5,false⟩ (by simp[mQ])) g
    have o1:=cZ.ok_sim (d ⟨b,off+j*5+1,false⟩ (by simp[mQ])) g
    have o2:=cZ.ok_sim (d ⟨b,off+j*5+2,true⟩ (by simp[mQ])) g
    obtain⟨⟨x0,r0⟩,z0⟩:=o0
    obtain⟨⟨x1,r1⟩,z1⟩:=o1
    obtain⟨⟨x2,r2⟩,z2⟩:=o2
    simp only[cZ.at]at r0 r1 r2 z0 z1 z2
    generalize O:k+(J M:Int)=kk at *
    have ad:1<=kk:=E
    have W1:=jU.snocI ⟨b,off+j*5,false⟩ O.symm ⟨b,off+j*5,Y⟩ (I U kk) D D
    have W2:=W1.snocI (kk:=kk+1) ⟨b,off+j*5+1,false⟩ zE ⟨b,off+j*5+1,Y⟩ (I U (kk+1)) D D
    have q5:G _:=W2
    have c2:((wr.setCell ⟨b,off+j*5,Y⟩ (I U kk)).setCell ⟨b,off+j*5+1,Y⟩ (I U (kk+1))).cell? ⟨b,off+j*5+2,Y⟩=Z (Zt x2):=by
     rw[Xh _ _ _ _ zS,Xh _ _ _ _ zS];exact r2
    have f2:((wr.setCell ⟨b,off+j*5,Y⟩ (I U kk)).setCell ⟨b,off+j*5+1,Y⟩ (I U (kk+1))).frozen? ⟨b,off+j*5+2,Y⟩=false:=by
     rw[XO,XO];exact z2
    have HC:G (WU WV 41 #[I U (kk+1+1)] ((wr.setCell ⟨b,off+j*5,Y⟩ (I U kk)).setCell ⟨b,off+j*5+1,Y⟩ (I U (kk+1))) λe X=>e=Zr (Zt (mt (kk+1+1))) /\
      X.cell? ⟨b,off+j*5+2,Y⟩=Z (Zt x2)/\X.frozen? ⟨b,off+j*5+2,Y⟩=false/\dA (M++mQ b (off+j*5)) k w (X.setCell ⟨b,off+j*5+2,Y⟩ (Zt (mt (kk+1+1))))):=by
     refine H (gK (kk+1+1) _ E E) ?_
     rintro e X ⟨rfl,ql⟩
     refine⟨D,kC ql c2 (BR (o:=off+j*5+2) c2),(ql.frozen (p:=⟨b,off+j*5+2,Y⟩) (BR (o:=off+j*5+2) c2)).trans f2,?_⟩
     have:=(q5.below ql).snocI (kk:=kk+1+1) ⟨b,off+j*5+2,true⟩ zE ⟨b,off+j*5+2,Y⟩ (Zt (mt (kk+1+1))) D D
     simpa [mQ] using this
    have m:G (∀s,s∈M++mQ b (off+j*5)->s.ok w):=λs S=>by
     rcases QF.1 S with h|h
     .exact f s h
     .exact d s h
    have W:G (lE w c3 l/\lI w n c4 u/\w.cell? ⟨b,off+j*5+3,Y⟩=Z c3/\w.cell? ⟨b,off+j*5+4,Y⟩=Z c4):=⟨hN,hR,N,ab⟩
    obtain⟨na,nl,nc,rfl⟩:=hN.slice
    obtain⟨ka,kl,kc,rfl⟩:=hR.slice
    have y:G ((Ls.take (j+1)).flatten=M++(mQ b (off+j*5)++(l++u))):=by show _=_;rw[c,C]
    have r:=a8 O
    generalize mt (kk+1+1)=tx at *
    go_wp2_with fail
    refine H HC ?_
    rintro e w3 ⟨rfl,N,ae,K⟩
    have T:=K.sim m
    have q3:=T.sl _ _ _ _ _ W.2.2.1
    have q9:=a8 (gS (kk+1+1+1) (W.1.sim T) E E)
    have j0:G _:=K
    go_wp2_with fail
    refine H q9 ?_
    rintro e w5 ⟨rfl,qc⟩
    have q:dA (M++mQ b (off+j*5)++l) k w w5:=j0.trans (by
     rw[show k+(J (M++mQ b (off+j*5)):Int)=kk+1+1+1 by have:=r.out;rw[Qi,t];omega];exact qc)
    have z:G (∀s,s∈M++mQ b (off+j*5)++l->s.ok w):=λs S=>by
     rcases QF.1 S with h|h
     .exact m s h
     .exact W.1.ok s h
    have V:=q.sim z
    have q4:=V.sl _ _ _ _ _ E
    have q6:=a8 (hn u _ (kk+1+1+1+J l) w5 (W.2.1.sim V) E E)
    have B:G _:=q
    go_wp2_with fail
    refine H q6 ?_
    rintro e w6 ⟨rfl,q7⟩
    have qa:G (dA (Ls.take (j+1)).flatten k w w6):=by
     show dA _ _ _ _
     rw[y.out]
     have:=B.trans (M:=u) (w2:=w6) (by
      rw[show k+(J (M++mQ b (off+j*5)++l):Int)=kk+1+1+1+(J l:Int) by have:=r.out;rw[Qi,Qi,t];omega];exact q7)
     simpa [QZ] using this
    have q8:G (kk+1+1+1+(J l:Int)+(J u:Int)=k+(J (Ls.take (j+1)).flatten:Int)):=by
     show _=_
     rw[y.out]
     have:=r.out
     simp only[Qi,t]
     omega
    go_wp2
    go_roundw
    case rel=>exact⟨j+1,E,ew,by rw[q8.out],qa⟩
    case measure=>exact eb
   .exact TK
def p7(a:TM fm fs fu):∀n,pr fs n:=by
 intro n;induction n with
 | zero=>exact Hk a
 | succ n b=>exact Hj a b
def sF (t:TM fm fs fu) (g h:Int) (i:ZB) (k:Int) (p:lE w c3 L3) (q:lI w n c4 L4) (z:1<=k) (K:k+J L3+J L4<=1000000000) :
  WU WV fm #[Za #[I U g,I U h,Zt i,c3,c4],I U k] w λe C=>e=Zr (I U (k+J L3+J L4))/\dA (L3++L4) k w C:=by
 obtain⟨na,j,nc,rfl⟩:=p.slice;obtain⟨b,d,c,rfl⟩:=q.slice;have a:=(Qg w.heap.size w).alloc E (Zc (Uz g h i na j nc b d c) fu);have f:=p.below a;have v:=a8 (gS k f z E);have o:G (lI (w.alloc (Zc (Uz g h i na j nc b d c) fu)) n (A b d c) L4/\∀s,s∈L3->s.ok (w.alloc (Zc (Uz g h i na j nc b d c) fu))):=⟨q.below a,f.ok⟩;have B:a7 (w.alloc (Zc (Uz g h i na j nc b d c) fu)) w.heap.size 4=Z (A b d c):=ke;have x:=a8 (p7 t n);rcases t with ⟨rfl,rfl,rfl⟩|⟨rfl,rfl,rfl⟩;all_goals
  go_in
  go_wp2_with fail
  refine H v ?_
  rintro e w1 ⟨rfl,r⟩
  have u:=r.sim o.2
  have L:=u.sl _ _ _ _ _ B
  have l:=a8 (x L4 _ (k+J L3) w1 (o.1.sim u) E E)
  have y:G _:=r
  go_wp2_with fail
  refine H l ?_
  rintro e M ⟨rfl,m⟩
  have HF:=a8 (dA.from_below a (y.trans m))
  go_wp2
  go_ret
  exact⟨D,HF⟩
def Ij(f:α->Nat)(l:List α)(x:α):cG f (l++[x])=cG f l+f x:=by
 induction l with
 | nil=>simp[cG]
 | cons a r b=>simp only[QH,cG,b];omega
def Fh(h:cR S w l v)(m:∀b o,S b->w.frozen? ⟨b,o,Y⟩=false):∃L,lE w v L/\(∀s,s∈L->S s.b)/\J L=J l:=by
 obtain⟨j,cap,rfl,g,-,k⟩:=h;by_cases c:l=[];·subst c;exact⟨[],⟨j,cap,D,g,zS,zS⟩,zS,D⟩
 .obtain⟨b,off,rfl,e,a⟩:=k c;refine⟨(Ua (J l)).map (λi=>(⟨b,off+i,true⟩:cZ)),⟨_,cap,by rw[Qv,X4],by rw[Qv,X4];exact g,zS,λs d=>?_⟩,λs d=>?_,zS⟩;·obtain⟨i,f,rfl⟩:=Xo.1 d;exact⟨⟨_,a i (Q7.1 f)⟩,m _ _ e⟩
  .obtain⟨i,f,rfl⟩:=Xo.1 d;exact e
def yV:∀ (n:Nat) {S:ZN} {w:Zw} (t:T n) {c0 c1 c2 c3 c4:Zv},cT S w n t c0 c1 c2 c3 c4->(∀ b o,S b->w.frozen? ⟨b,o,Y⟩=false) ->
  ∃c a,lE w c3 c/\lI w (n-1) c4 a/\(∀s,s∈c++a->S s.b)/\J (c++a)<=3*gY n t:=by
 intro n;induction n with
 | zero=>intro S w t c0 c1 c2 c3 c4 h;exact h.elim
 | succ n ih=>
  intro S w t c0 c1 c2 c3 c4 h C;obtain⟨-,-,-,-,-,-,qq,W⟩:=h;have⟨c,p1,p2,p3⟩:=Fh qq C;have P:gY (n+1) t=(F.a t).size+gV (F.q t)+cG (λk=>gY n k+1) (F.o t):=D;have ql:=yP (F.q t);suffices h:∃a,lI w n c4 a/\(∀s,s∈a->S s.b)/\J a<=3*cG (λk=>gY n k+1) (F.o t) by obtain⟨a,u,v,L⟩:=h;refine⟨c,a,p1,u,λs y=>(QF.1 y).elim (p2 s) (v s),?_⟩;rw[Qi,P,p3];omega
  generalize F.o t=ks at W ⊢;obtain⟨V,cap,rfl,q7,q8⟩:=W;by_cases q:ks=[]
  .subst q;refine⟨[],?_,zS,zS⟩;cases n with
   | zero=>exact⟨V,cap,D,D⟩
   | succ n=>exact⟨V,cap,[],D,q7,D,zS⟩
  .obtain⟨b,off,rfl,M,l⟩:=q8 q;have d:∀i (h:i<J ks),∃c3 c4 c a,(∀s,s∈mQ b (off+i*5)->s.ok w)/\a7 w b (off+i*5+3)=Z c3/\a7 w b (off+i*5+4)=Z c4/\lE w c3 c/\lI w (n-1) c4 a/\(∀s,s∈c++a->S s.b)/\J (c++a)<=3*gY n ks[i]:=by
    intro i hi;have⟨d0,d1,d2,q9,q5,q6,j2,qa,z,B,X⟩:=l i hi;have⟨c,a,u,v,L,j0⟩:=ih ks[i] X C;refine⟨q9,q5,c,a,λs y=>?_,z,B,u,v,L,j0⟩;obtain⟨x0,x1,x2,_,_,_,_,_,_,rfl,rfl,rfl,-⟩:=X.shape;simp only[mQ,QW,ZH,WQ]at y;rcases y with rfl|rfl|rfl;·exact⟨⟨x0,q6⟩,C _ _ M⟩
    .exact⟨⟨x1,j2⟩,C _ _ M⟩
    .exact⟨⟨x2,qa⟩,C _ _ M⟩
   have O:∃m,n=m+1:=by
    cases n with
    | zero=>obtain⟨x,r,rfl⟩:=List.exists_cons_of_ne_nil q;exact (x:Empty).elim
    | succ m=>exact⟨m,D⟩
   obtain⟨m,rfl⟩:=O;let f:Nat->List cZ:=λi=>if hi:i<J ks then mQ b (off+i*5)++((d i hi).choose_spec.choose_spec.choose++(d i hi).choose_spec.choose_spec.choose_spec.choose) else []
   have p:∀i (hi:i<J ks),∃c3 c4 c a,f i=mQ b (off+i*5)++(c++a)/\(∀s,s∈mQ b (off+i*5)->s.ok w)/\a7 w b (off+i*5+3)=Z c3/\a7 w b (off+i*5+4)=Z c4/\lE w c3 c/\lI w m c4 a/\(∀s,s∈c++a->S s.b)/\J (c++a)<=3*gY (m+1) ks[i]:=by intro i hi;have g:=(d i hi).choose_spec.choose_spec.choose_spec.choose_spec;exact⟨_,_,_,_,dif_pos hi,g.1,g.2.1,g.2.2.1,g.2.2.2.1,g.2.2.2.2.1,g.2.2.2.2.2.1,E⟩
   refine⟨((Ua (J ks)).map f).flatten,⟨b5 b off,cap,(Ua (J ks)).map f,by rw[Qv,X4],by rw[Qv,X4];exact q7,D,λi hi=>?_⟩,λs y=>?_,?_⟩;·have N:i<J ks:=oC;obtain⟨c3,c4,c,a,e,o,z,B,u,v,-⟩:=p i N;exact⟨b,off,c3,c4,c,a,D,by rw[Xe,List.getElem_range];exact e,o,z,B,u,v⟩
   .have⟨x,hx,K⟩:=Xl.1 y;obtain⟨i,hi,rfl⟩:=Xo.1 hx;obtain⟨c3,c4,c,a,e,o,z,B,u,v,L,-⟩:=p i (Q7.1 hi);rw[e]at K;rcases QF.1 K with h|h;·simp only[mQ,QW,ZH,WQ]at h;rcases h with rfl|rfl|rfl<;>exact M
    .exact L s h
   .have R:∀ j,j<=J ks->J ((Ua j).map f).flatten<=3*cG (λk=>gY (m+1) k+1) (ks.take j):=by
     intro j;induction j with
     | zero=>intro _;simp
     | succ j Q=>intro hj;have h1:=Q E;have⟨c3,c4,c,a,e,o,z,B,u,v,L,j0⟩:=p j E;have qc:J (mQ b (off+j*5))=3:=D;rw[X7,Q8,Xp,Qi,Qq E,Ij];simp only[Xx,Z8,Z9,WM,XF];rw[e,Qi,qc];omega
    have:=R (J ks) E;rwa [QG]at this
def As(b o:Nat):List cZ:=[⟨b,o,true⟩,⟨b,o+1,false⟩,⟨b,o+1+1,false⟩,⟨b,o+1+2,true⟩]
def YS(w:Zw)(n:Nat)(v:Zv)(L:List cZ):Prop:=∃(e:ZA)(cap:Nat)(a:List (List cZ)),v=A e (J a) cap/\J a<=WX/\L=a.flatten /\
 ∀i (h:i<J a),∃b off c3 c4 c d,e=b5 b off/\a[i]=As b (off+i*6)++(c++d)/\(∀s,s∈As b (off+i*6)->s.ok w) /\
  a7 w b (off+i*6+1+3)=Z c3/\a7 w b (off+i*6+1+4)=Z c4/\lE w c3 c/\lI w n c4 d
def YS.ok(h:YS w n v L):∀s,s∈L->s.ok w:=by
 intro s k;obtain⟨q,cap,p,-,-,rfl,f⟩:=h;have⟨o,c,a⟩:=Xl.1 k;obtain⟨i,h,rfl⟩:=QT c;obtain⟨b,off,c3,c4,l,m,-,c,e,-,-,g,j⟩:=f i h;rw[c]at a;rcases QF.1 a with d|d;·exact e s d
 .exact (QF.1 d).elim (g.ok s) (j.ok s)
def YS.sim(a:At w w')(h:YS w n v L):YS w' n v L:=by obtain⟨l,cap,k,u,t,p,r⟩:=h;refine⟨l,cap,k,u,t,p,λi h=>?_⟩;have⟨b,off,c3,c4,g,j,q,c,d,m,o,e,f⟩:=r i h;obtain⟨na,B,nc,rfl⟩:=e.slice;obtain⟨x,z,y,rfl⟩:=f.slice;exact⟨b,off,_,_,g,j,q,c,λs h=>cZ.ok_sim (d s h) a,a.sl _ _ _ _ _ m,a.sl _ _ _ _ _ o,e.sim a,f.sim a⟩
def Do (k:Int) (h:YS w n v L) (h0:1<=k) (h1:k+J L<=1000000000) :
  WU WV 13 #[v,I U k] w λe g=>e=Zr (I U (k+J L))/\dA L k w g:=by
 have ai:=h.ok;obtain⟨ao,cap,Ls,rfl,X,rfl,hi⟩:=h;unfold WX at X;have q7:=a8 ai;have K:G (∀j,J (Ls.take j).flatten<=J Ls.flatten):=λj=>ip Ls j;have HB:=a8 h1;go_in;go_wp2;go_loopw [1,5] (λa i wr=>∃j:Nat,j<=J Ls/\i=I U j/\a=I U (k+(J (Ls.take j).flatten:Int))/\dA (Ls.take j).flatten k w wr) (λ_ i _=>J Ls-(intOf i).toNat);case atStart=>exact⟨0,E,D,zS,by simpa using dA.refl k w⟩
 case round=>
  obtain⟨j,hj,rfl,rfl,jU⟩:=hrel;by_cases q6:j<J Ls
  .obtain⟨b,off,c3,c4,m,C,rfl,Q,c,ag,ah,hN,hR⟩:=hi j q6;have d:=lV q6;have V:=K.out (j+1);rw[d,Q]at V;simp only[Qi]at V;have B:J (As b (off+j*6))=4:=D;have af:k+(J (Ls.take j).flatten:Int)+4+J m+J C<=1000000000:=by have:=HB.out;omega
   have l:∀s,s∈(Ls.take j).flatten->s.ok w:=λs q9=>q7 s (by
    have⟨Li,h1,h2⟩:=Xl.1 q9
    exact Xl.2 ⟨Li,XW h1,h2⟩)
   have⟨M,hM⟩:=fk ((Ls.take j).flatten);rw[<- hM]at jU l d af ⊢;have f:=jU.sim l;have o0:=cZ.ok_sim (c ⟨b,off+j*6,true⟩ (by simp[As])) f;have o1:=cZ.ok_sim (c ⟨b,off+j*6+1,false⟩ (by simp[As])) f;have o2:=cZ.ok_sim (c ⟨b,off+j*6+1+1,false⟩ (by simp[As])) f;have o3:=cZ.ok_sim (c ⟨b,off+j*6+1+2,true⟩ (by simp[As])) f;obtain⟨⟨x0,r0⟩,z0⟩:=o0;obtain⟨⟨x1,r1⟩,z1⟩:=o1;obtain⟨⟨x2,r2⟩,z2⟩:=o2;obtain⟨⟨x3,r3⟩,z3⟩:=o3;simp only[cZ.at]at r0 r1 r2 r3 z0 z1 z2 z3;generalize T:k+(J M:Int)=kk at *;have al:1<=kk:=E;have HW:=a8 jU;have HC:G (WU WV 41 #[I U kk] wr λe g=>e=Zr (Zt (mt kk))/\∃ W,W=((g.setCell ⟨b,off+j*6,Y⟩ (Zt (mt kk))).setCell ⟨b,off+j*6+1,Y⟩ (I U (kk+1))).setCell ⟨b,off+j*6+1+1,Y⟩ (I U (kk+1+1)) /\
     (g.cell? ⟨b,off+j*6,Y⟩=Z (Zt x0)/\g.frozen? ⟨b,off+j*6,Y⟩=false)/\(g.cell? ⟨b,off+j*6+1,Y⟩=Z (I U x1)/\g.frozen? ⟨b,off+j*6+1,Y⟩=false)/\(g.cell? ⟨b,off+j*6+1+1,Y⟩=Z (I U x2)/\g.frozen? ⟨b,off+j*6+1+1,Y⟩=false) /\
     WU WV 41 #[I U (kk+1+1+1)] W λe v=>e=Zr (Zt (mt (kk+1+1+1)))/\(v.cell? ⟨b,off+j*6+1+2,Y⟩=Z (Zt x3)/\v.frozen? ⟨b,off+j*6+1+2,Y⟩=false)/\dA (M++As b (off+j*6)) k w (v.setCell ⟨b,off+j*6+1+2,Y⟩ (Zt (mt (kk+1+1+1))))):=by
    refine H (gK kk _ E E) ?_
    rintro e g ⟨rfl,q⟩
    have u:=BR (o:=off+j*6) r0
    have aj:=kC q r3 u
    have ak:=(q.frozen (p:=⟨b,off+j*6+1+2,Y⟩) u).trans z3
    have hW:=(((HW.below q).snocI ⟨b,off+j*6,true⟩ T.symm ⟨b,off+j*6,Y⟩ (Zt (mt kk)) D D).snocI (kk:=kk+1) ⟨b,off+j*6+1,false⟩ zE ⟨b,off+j*6+1,Y⟩ (I U (kk+1)) D D).snocI (kk:=kk+1+1) ⟨b,off+j*6+1+1,false⟩ zE ⟨b,off+j*6+1+1,Y⟩ (I U (kk+1+1)) D D
    refine⟨D,_,D,⟨kC q r0 u,(q.frozen (p:=⟨b,off+j*6,Y⟩) u).trans z0⟩,⟨kC q r1 u,(q.frozen (p:=⟨b,off+j*6+1,Y⟩) u).trans z1⟩,⟨kC q r2 u,(q.frozen (p:=⟨b,off+j*6+1+1,Y⟩) u).trans z2⟩,?_⟩
    have y:(((g.setCell ⟨b,off+j*6,Y⟩ (Zt (mt kk))).setCell ⟨b,off+j*6+1,Y⟩ (I U (kk+1))).setCell ⟨b,off+j*6+1+1,Y⟩ (I U (kk+1+1))).cell? ⟨b,off+j*6+1+2,Y⟩=Z (Zt x3):=by
     rw[Xh _ _ _ _ zS,Xh _ _ _ _ zS,Xh _ _ _ _ zS];exact aj
    have ab:(((g.setCell ⟨b,off+j*6,Y⟩ (Zt (mt kk))).setCell ⟨b,off+j*6+1,Y⟩ (I U (kk+1))).setCell ⟨b,off+j*6+1+1,Y⟩ (I U (kk+1+1))).frozen? ⟨b,off+j*6+1+2,Y⟩=false:=by
     rw[XO,XO,XO];exact ak
    generalize ((g.setCell ⟨b,off+j*6,Y⟩ (Zt (mt kk))).setCell ⟨b,off+j*6+1,Y⟩ (I U (kk+1))).setCell ⟨b,off+j*6+1+1,Y⟩ (I U (kk+1+1))=W at *
    refine H (gK (kk+1+1+1) _ E E) ?_
    rintro e v ⟨rfl,z⟩
    refine⟨D,⟨kC z y (BR (o:=off+j*6+1+2) y),(z.frozen (p:=⟨b,off+j*6+1+2,Y⟩) (BR (o:=off+j*6+1+2) y)).trans ab⟩,?_⟩
    have:=(hW.below z).snocI (kk:=kk+1+1+1) ⟨b,off+j*6+1+2,true⟩ zE ⟨b,off+j*6+1+2,Y⟩ (Zt (mt (kk+1+1+1))) D D
    simpa [As] using this
   have r:G (∀s,s∈M++As b (off+j*6)->s.ok w):=λs q9=>(QF.1 q9).elim (l s) (c s);have q5:G (lE w c3 m/\lI w n c4 C/\w.cell? ⟨b,off+j*6+1+3,Y⟩=Z c3/\w.cell? ⟨b,off+j*6+1+4,Y⟩=Z c4):=⟨hN,hR,ag,ah⟩;obtain⟨na,nl,nc,rfl⟩:=hN.slice;obtain⟨ka,kl,kc,rfl⟩:=hR.slice;have N:G ((Ls.take (j+1)).flatten=M++(As b (off+j*6)++(m++C))):=by show _=_;rw[d,Q]
   have x:=a8 T;generalize mt kk=tx at *;generalize mt (kk+1+1+1)=ty at *;go_wp2_with fail;refine H HC ?_;rintro e w1 ⟨rfl,W,S,⟨g0,g1⟩,⟨g2,g3⟩,⟨g4,g5⟩,ac⟩;have j0:=a8 ac;go_upto_region 9 with fail;rw[<- S];clear S g0 g1 g2 g3 g4 g5;go_wp2_with fail;refine H j0 ?_;rintro e w3 ⟨rfl,⟨g0,g1⟩,R⟩;have q8:=R.sim r;have q3:=q8.sl _ _ _ _ _ q5.2.2.1;have F:=a8 (gS (kk+1+1+1+1) (q5.1.sim q8) E E);have ql:G _:=R;go_wp2_with fail;refine H F ?_;rintro e w5 ⟨rfl,ad⟩;have t:dA (M++As b (off+j*6)++m) k w w5:=ql.trans (by
    rw[show k+(J (M++As b (off+j*6)):Int)=kk+1+1+1+1 by have:=x.out;rw[Qi,B];omega];exact ad)
   have O:G (∀s,s∈M++As b (off+j*6)++m->s.ok w):=λs q9=>(QF.1 q9).elim (r s) (q5.1.ok s);have qq:=t.sim O;have q4:=qq.sl _ _ _ _ _ E;have qa:=a8 (p7 JK n C _ (kk+1+1+1+1+J m) w5 (q5.2.1.sim qq) E E);have P:G _:=t;go_wp2_with fail;refine H qa ?_;rintro e w6 ⟨rfl,ae⟩;have aa:G (dA (Ls.take (j+1)).flatten k w w6):=by
    show dA _ _ _ _;rw[N.out];have:=P.trans (M:=C) (w2:=w6) (by
     rw[show k+(J (M++As b (off+j*6)++m):Int)=kk+1+1+1+1+(J m:Int) by have:=x.out;rw[Qi,Qi,B];omega];exact ae)
    simpa [QZ] using this
   have qc:G (kk+1+1+1+1+(J m:Int)+(J C:Int)=k+(J (Ls.take (j+1)).flatten:Int)):=by show _=_;rw[N.out];have:=x.out;simp only[Qi,B];omega
   go_wp2;go_roundw;case rel=>exact⟨j+1,E,ew,by rw[qc.out],aa⟩
   case measure=>exact eb
  .exact TK
def Gq {l:List (ZB × T n)} (h:oq S w n l v) (t:∀ b o,S b->w.frozen? ⟨b,o,Y⟩=false) :
  ∃L,YS w (n-1) v L/\(∀s,s∈L->S s.b)/\J L<=4*cG (λk=>ou k+1) l:=by
 obtain⟨q6,cap,rfl,W,F⟩:=h;by_cases u:l=[];·subst u;exact⟨[],⟨q6,cap,[],D,W,D,zS⟩,zS,zS⟩
 .obtain⟨b,off,rfl,r,g⟩:=F u;have a:∀i (h:i<J l),∃c3 c4 c d,(∀s,s∈As b (off+i*6)->s.ok w)/\a7 w b (off+i*6+1+3)=Z c3/\a7 w b (off+i*6+1+4)=Z c4/\lE w c3 c/\lI w (n-1) c4 d/\(∀s,s∈c++d->S s.b)/\J (c++d)<=3*ou l[i]:=by
   intro i hi;obtain⟨q7,ql,d2,q9,q8,qa,qq,q5,j0,p,q,-,V⟩:=g i hi;have⟨c,d,C,K,N,X⟩:=yV n l[i].2 V t;refine⟨q9,q8,c,d,λs M=>?_,p,q,C,K,N,Q1 X (by have:ou l[i]=l[i].1.size+gY n l[i].2:=D;omega)⟩;simp only[As,QW,ZH,WQ]at M;obtain⟨x,y,z,_,_,_,_,_,_,rfl,rfl,rfl,-⟩:=V.shape;rcases M with rfl|rfl|rfl|rfl;·exact⟨⟨_,qa⟩,t _ _ r⟩
   .exact⟨⟨x,qq⟩,t _ _ r⟩
   .exact⟨⟨y,q5⟩,t _ _ r⟩
   .exact⟨⟨z,j0⟩,t _ _ r⟩
  let f:Nat->List cZ:=λi=>if hi:i<J l then As b (off+i*6)++((a i hi).choose_spec.choose_spec.choose++(a i hi).choose_spec.choose_spec.choose_spec.choose) else []
  have m:∀i (hi:i<J l),∃c3 c4 c d,f i=As b (off+i*6)++(c++d)/\(∀s,s∈As b (off+i*6)->s.ok w)/\a7 w b (off+i*6+1+3)=Z c3/\a7 w b (off+i*6+1+4)=Z c4/\lE w c3 c/\lI w (n-1) c4 d/\(∀s,s∈c++d->S s.b)/\J (c++d)<=3*ou l[i]:=by intro i hi;have P:=(a i hi).choose_spec.choose_spec.choose_spec.choose_spec;exact⟨_,_,_,_,dif_pos hi,P⟩
  refine⟨((Ua (J l)).map f).flatten,⟨b5 b off,cap,(Ua (J l)).map f,by rw[Qv,X4],by rw[Qv,X4];exact W,D,λi hi=>?_⟩,λs M=>?_,?_⟩;·have O:i<J l:=oC;obtain⟨c3,c4,c,d,e,o,p,q,C,K,-⟩:=m i O;exact⟨b,off,c3,c4,c,d,D,by rw[Xe,List.getElem_range];exact e,o,p,q,C,K⟩
  .have⟨x,qc,B⟩:=Xl.1 M;obtain⟨i,hi,rfl⟩:=Xo.1 qc;obtain⟨c3,c4,c,d,e,o,p,q,C,K,N,-⟩:=m i (Q7.1 hi);rw[e]at B;rcases QF.1 B with h|h;·simp only[As,QW,ZH,WQ]at h;rcases h with rfl|rfl|rfl|rfl<;>exact r
   .exact N s h
  .have R:∀ j,j<=J l->J ((Ua j).map f).flatten<=4*cG (λk=>ou k+1) (l.take j):=by
    intro j;induction j with
    | zero=>intro _;simp
    | succ j Q=>intro hj;have h1:=Q E;have⟨c3,c4,c,d,e,o,p,q,C,K,N,X⟩:=m j E;rw[X7,Q8,Xp,Qi,Qq E,eV];simp only[Xx,Z8,Z9,WM,XF,cG,QC];rw[e,Qi,show J (As b (off+j*6))=4 from D];omega
   have:=R (J l) E;rwa [QG]at this
def iV:Nat->Array Bool->Nat
 | 0,_=>0
 | k+1,l=>iV k l+(if l.getD k true=true then 0 else 1)
def yI(l:Array Bool)(i:Nat):(l.setIfInBounds i true).getD i true=true:=by
 by_cases h:i<l.size;·simp[Uu,h]
 .simp[Uu,h]
def My(i:Nat)(l:Array Bool):∀k,iV k (l.setIfInBounds i true)<=iV k l:=by
 intro k;induction k with
 | zero=>exact QD _
 | succ k a=>
  unfold iV;by_cases h:i=k;·subst h;rw[yI];simp;omega
  .rw[Z6 true h];omega
def yZ{l:Array Bool}(b:l.getD i true=false):∀k,i<k->iV k (l.setIfInBounds i true)+1<=iV k l:=by
 intro k;induction k with
 | zero=>intro h;omega
 | succ k c=>
  intro h;unfold iV;by_cases a:i=k;·subst a;rw[yI,b];have:=My i l i;exact gE
  .rw[Z6 true a];have:=c E;omega
def uG(l:Array Bool):∀k,iV k l=0->∀j,j<k->l.getD j true=true:=by
 intro k;induction k with
 | zero=>intro _ j h;omega
 | succ k b=>
  intro h j c;unfold iV at h;by_cases a:j=k
  .subst a;split at h;·exact nM
   .omega
  .exact b E j E
def DH(l:Array Bool):∀k,0<iV k l->∃j,j<k/\l.getD j true=false/\∀i,i<j->l.getD i true=true:=by
 intro k;induction k with
 | zero=>intro h;exact absurd h (Nat.lt_irrefl _)
 | succ k d=>
  intro h;by_cases a:0<iV k l;·have⟨j,e,b,c⟩:=d a;exact⟨j,E,b,c⟩
  .refine⟨k,E,?_,uG l k E⟩;unfold iV at h;split at h;·omega
   .next hne=>
    cases hx:l.getD k true with
    | true=>exact absurd hx hne
    | false=>rfl
def oP{t:Array Zv}{k:Nat}(h:d≠k):(t.setIfInBounds d v).getD k Ui=t.getD k Ui:=by rw[ZO,ZO,Array.getElem?_setIfInBounds_ne h]
def tA{t:Array Zv}(h:d<t.size):(t.setIfInBounds d v).getD d Ui=v:=by rw[ZO,Array.getElem?_setIfInBounds_self_of_lt h];rfl
section
variable {P:Program} {md:Region.Mode} {ops:Array Oper} {Q:Exit->Act->Zw->Prop}
end
def Rr{b:Act}(d:a.tmps.size=b.tmps.size)(c:a.defers=b.defers)(h:∀k,a.tmps.getD k Ui=b.tmps.getD k Ui):a=b:=by obtain⟨e,ad⟩:=a;obtain⟨l,j⟩:=b;simp only at d c h;subst c;congr 1;refine Array.ext d λi f g=>?_;have:=h i;simpa [Uu,f,g] using this
theorem DZ:∀(L:List (Tmp×Zv))(a0:Act),a.tmps.size=a0.tmps.size->a.defers=a0.defers->(∀p,p∈L->a.tmps.getD p.1 Ui=p.2/\p.1<a.tmps.size)->(∀k,(∀p,p∈L->p.1≠k)->a.tmps.getD k Ui=a0.tmps.getD k Ui)->a=L.foldl (λx p=>x.put (Z p.1) p.2) a0
 | [],a0,h1,h2,_,h4=>Rr h1 h2 λk=>h4 k zS
 | p :: L,a0,h1,h2,h3,h4=>by
  refine DZ L (a0.put (Z p.1) p.2) (by simpa [Act.put] using h1) h2 (λq b=>h3 q (Qt _ b)) λk c=>?_
  show _=(a0.tmps.setIfInBounds p.1 p.2).getD k Ui
  by_cases e:p.1=k
  .subst e
   rw[tA (by rw[<- h1];exact (h3 p zS).2)]
   exact (h3 p zS).1
  .rw[oP e]
   exact h4 k λq b=>by
    rcases QW.1 b with rfl|b
    .exact e
    .exact c q b
def EZ(h:(Ua n).all (λi=>match ops[i]? with|Z o=>decide (o.dst=Z (Dzq i)) && o.guard.isNone && o.after.all (λe=>!(Up md e) || decide (e.on<i))|Y=>false)=true):∀i,i<n->∃o,ops[i]?=Z o/\o.dst=Z (Dzq i)/\o.guard=Y/\∀e,e∈o.after->Up md e=true->e.on<i:=by
 intro i c;have:=Qo.1 h i (Q7.2 c);split at this
 .next o ho=>
  simp only[Qc,Qk,Option.isNone_iff_eq_none]at this;exact⟨o,ho,this.1.1,this.1.2,λe b a=>by
   have:=(Array.all_eq_true_iff_forall_mem.1 this.2) e b
   rw[a]at this
   simpa using this⟩
 .cases this
def BF{l:Nat}(m:ops.size=n+Ezq)(h:(Ua Ezq).all (λi=>match ops[n+i]? with|Z o=>(Ua n).all (λj=>decide (j=l) || o.after.any λe=>Up md e && decide (e.on=j))|Y=>true)=true):∀i o,n<=i->ops[i]?=Z o->∀j,j<n->j≠l->∃e,e∈o.after/\Up md e=true/\e.on=j:=by
 intro i o g c j f b;have d:=(Qe.1 c).1;have:=Qo.1 h (i-n) (Q7.2 E);rw[show n+(i-n)=i by omega,c]at this;have:=Qo.1 this j (Q7.2 f);simp only[Wp,Qk]at this;rcases this with h|h;·exact absurd h b
 .have⟨q,k,a⟩:=Array.any_eq_true.1 h;simp only[Qc,Qk]at a;exact⟨o.after[q],zS,a.1,a.2⟩
def Rj(n Ezq:Nat)(l:Option Nat)(x:Array Bool):Prop:=x.size=n+Ezq/\(∀j,j<n->x.getD j true = !(decide (l=Z j)))/\∀j,n<=j->j<n+Ezq->x.getD j true=false
def Rj.one{l:Option Nat}{x y:Array Bool}(a:Rj n Ezq l x)(b:Rj n Ezq l y):x=y:=by
 refine Array.ext (a.1.trans b.1.symm) λi d f=>?_;have e:x.getD i true=y.getD i true:=by
  by_cases c:i<n;·rw[a.2.1 i c,b.2.1 i c]
  .rw[a.2.2 i E (by have:=a.1;omega),b.2.2 i E (by have:=a.1;omega)]
 simpa [Uu,d,f] using e
section
variable {P:Program} {md:Region.Mode} {ops:Array Oper} {Q:Exit->Act->Zw->Prop} {S:Zw->Prop}
structure Nj(Uzq:List Nat)(V0:Zw)(a0:Act)(Dzq:Nat->Tmp)(a:Act)(B:ZN)(W:Zw):Prop where
 below:Bw V0 W
 lt:Bd B W
 old:∀b,b<V0.heap.size->B b
 size:a.tmps.size=a0.tmps.size
 defers:a.defers=a0.defers
 fr:∀k,(∀i,i∈Uzq->Dzq i≠k)->a.tmps.getD k Ui=a0.tmps.getD k Ui
def DY(b:Nj Uzq V0 a0 Dzq a B W)(L:List (Tmp×Zv))(d:L.map (·.1)=Uzq.map Dzq){z:Nat}(l:a.tmps.size=z)(f:(Uzq.map Dzq).all (λk=>decide (k<z))=true)(h:∀p,p∈L->a.tmps.getD p.1 Ui=p.2):a=L.foldl (λx p=>x.put (Z p.1) p.2) a0:=
 DZ L a0 b.size b.defers (λp hp=>⟨h p hp,by
  have:=Qo.1 f p.1 (by rw[<- d];exact Wv hp)
  rw[l];simpa using this⟩) λk j=>b.fr k λi g e=>by
  have:Dzq i∈L.map (·.1):=by rw[d];exact Wv g
  have⟨p,hp,c⟩:=Xo.1 this
  exact j p hp (c.trans e)
structure r6(B B':ZN)(W W':Zw):Prop where
 below:Bw W W'
 on:∀b,B b->B' b
 new:∀b,B' b->B b∨(W.heap.size<=b/\b<W'.heap.size)
def Nw {l:Nat} {LA LB:Array Bool} (ac:Rj n Ezq Y LA) (ad:Rj n Ezq (Z l) LB)
  (T:∀i o,n<=i->ops[i]?=Z o->∀j,j<n->j≠l->∃e,e∈o.after/\Up md e=true/\e.on=j)
  (O:∀i,i<n->∃o,ops[i]?=Z o/\o.dst=Z (Dzq i)/\o.guard=Y/\∀e,e∈o.after->Up md e=true->e.on<i)
  (hU:∀i,i∈Uzq->i<n) (F:∀i,i∈Uzq->∀j,j∈Uzq->Dzq i=Dzq j->i=j) (hD:∀i,i∈Uzq->Dzq i<a0.tmps.size)
  (hJ:∀j v B w W t,Jzq j v B W->r6 B w W t->Jzq j v w t)
  (hS:∀W,Bw V0 W->S W)
  (q8:∀i,i∈Uzq->∀o,ops[i]?=Z o->∀a B W,Nj Uzq V0 a0 Dzq a B W->(∀e,e∈o.after->Up md e=true->e.on∈Uzq->Jzq e.on (a.tmps.getD (Dzq e.on) Ui) B W) ->
   Us P o a W (λa' t=>∃v w,a'=a.put o.dst v/\r6 B w W t/\Jzq i v w t) Q)
  (hA:∀f a B W,Nj Uzq V0 a0 Dzq a B W->(∀j,j∈Uzq->Jzq j (a.tmps.getD (Dzq j) Ui) B W)->Uv P md ops Q S (f+Ezq) LA a W)
  (hB:∀f a B W,Nj Uzq V0 a0 Dzq a B W->(∀j,j∈Uzq->j≠l->Jzq j (a.tmps.getD (Dzq j) Ui) B W)->Uv P md ops Q S (f+(Ezq+1)) LB a W) :
  ∀(u d:Nat)(c:Array Bool)(a:Act)(B:ZN)(W:Zw),iV n c=u->u+Ezq<=d->c.size=n+Ezq->(∀j,n<=j->j<n+Ezq->c.getD j true=false)->(∀j,j<n->j ∉ Uzq->c.getD j true=true)->Nj Uzq V0 a0 Dzq a B W->(∀j,j∈Uzq->c.getD j true=true->Jzq j (a.tmps.getD (Dzq j) Ui) B W) ->
   Uv P md ops Q S d c a W:=by
 intro u;induction u using Nat.strongRecOn with
 | _ u ih=>
  intro d c a B W hu hf q6 X ql r hj;by_cases h0:u=0;·subst h0;have N:=uG c n hu;obtain⟨f,rfl⟩:∃f,d=f+Ezq:=⟨d-Ezq,E⟩;rw[Rj.one (x:=c) ⟨q6,λj h=>by rw[N j h];simp,X⟩ ac];exact hA f a B W r λj h=>hj j h (N j (hU j h))
  .have⟨j0,qc,z,ah⟩:=DH c n E;by_cases hl:∀j,j<n->j≠l->c.getD j true=true
   .have q7:j0=l:=Qx λh=>by rw[hl j0 qc h]at z;cases z
    obtain⟨f,rfl⟩:∃f,d=f+(Ezq+1):=⟨d-(Ezq+1),E⟩;rw[Rj.one (x:=c) ⟨q6,λj h=>by
     by_cases e:j=l
     .subst e;rw[<- q7,z];simp
     .rw[hl j h e,QU (λh=>e (XK h).symm)];rfl,X⟩ ad]
    exact hB f a B W r λj h e=>hj j h (hl j (hU j h) e)
   .obtain⟨d,rfl⟩:∃f,d=f+1:=⟨d-1,E⟩;have aa:j0∈Ut md ops c:=by obtain⟨o,ho,-,-,qq⟩:=O j0 qc;refine mem_ready.2 ⟨z,o,ho,λe qa q5=>?_⟩;have M:=qq e qa q5;have y:=ah e.on M;have L:e.on<c.size:=E;simp[Uu,L]at y ⊢;exact y
    refine⟨λh=>(by rw[h]at aa;cases aa),λi hi=>?_⟩;have⟨M,o,y,h3⟩:=mem_ready.1 hi;have q:∀j,c.getD j false=true->c.getD j true=true:=λj h=>by
     by_cases L:j<c.size;·simp[Uu,L]at h ⊢;exact h
     .simp[Uu,L]at h
    have m:i<n:=by
     by_cases m:i<n;·exact m
     .refine absurd (λj K C=>?_) hl;have⟨e,qa,R,af⟩:=T i o E y j K C;rw[<- af];exact q _ (h3 e qa R)
    have⟨o',q9,g,ag,qq⟩:=O i m;have p:=Qx λh=>by rw[ql i m h]at M;cases M
    rw[q9]at y;cases y
    unfold wpOp;simp only[q9];rw[Qm (by simp[Region.wanted,ag])];refine .inl (Oper.wp_mono ?_ (q8 i p _ q9 a B W r λe qa R ae=>hj e.on ae (q _ (h3 e qa R))));rintro a' t ⟨v,w,rfl,s,ab⟩;have ak:=s.below.size;have j2:=r.below.trans (s.below.mono r.below.size);refine⟨hS t j2,ih _ ?_ d _ _ w t D ?_ (by simpa using q6) ?_ (λj M y=>?_) ⟨j2,λb q5=>?_,λb q5=>s.on b (r.old b q5),?_,?_,?_⟩ ?_⟩;·have:=yZ M n m;omega
    .have:=yZ M n m;omega
    .intro j aj ai;rw[Z6 true E];exact X j aj ai
    .rw[Z6 true (λe:i=j=>y (by rw[<- e];exact p))];exact ql j M y
    .rcases s.new b q5 with h|h;·have:=r.lt b h;omega
     .exact h.2
    .rw[g];simpa [Act.put] using r.size
    .rw[g];exact r.defers
    .intro k hk;rw[g];show (a.tmps.setIfInBounds (Dzq i) v).getD k Ui=_;rw[oP (λe=>hk i p e)];exact r.fr k hk
    .intro j K C;rw[g];show Jzq j ((a.tmps.setIfInBounds (Dzq i) v).getD (Dzq j) Ui) w t;by_cases V:i=j;·subst V;rw[tA (by rw[r.size];exact hD i p)];exact ab
     .rw[oP (λe=>V (F i p j K e))];rw[Z6 true V]at C;exact hJ j _ B w W t (hj j K C) s
def Hc(n Ezq:Nat):Array Bool:=Array.ofFn λi:Fin (n+Ezq)=>decide (i.1<n)
def Dm(n Ezq l:Nat):Array Bool:=Array.ofFn λi:Fin (n+Ezq)=>decide (i.1<n/\i.1≠l)
def Jk(n Ezq:Nat):Rj n Ezq Y (Hc n Ezq):=by
 refine⟨by simp[Hc],λj h=>?_,λj b a=>?_⟩;·simp[Hc,Uu,show j<n+Ezq by omega,h]
 .simp[Hc,Uu,a,show ¬j<n by omega]
def wu(n Ezq l:Nat):Rj n Ezq (Z l) (Dm n Ezq l):=by
 refine⟨by simp[Dm],λj h=>?_,λj b a=>?_⟩
 .by_cases e:j=l;·subst e;simp[Dm,Uu,show j<n+Ezq by omega]
  .simp[Dm,Uu,show j<n+Ezq by omega,h,e];omega
 .simp[Dm,Uu,a,show ¬j<n by omega]
def Km {l:Nat} 
  (c:∀i o,n<=i->ops[i]?=Z o->∀j,j<n->j≠l->∃e,e∈o.after/\Up md e=true/\e.on=j)
  (q:∀i,i<n->∃o,ops[i]?=Z o/\o.dst=Z (Dzq i)/\o.guard=Y/\∀e,e∈o.after->Up md e=true->e.on<i)
  (O:Uzq.all (λi=>decide (i<n) && Uzq.all λj=>!(Dzq i==Dzq j) || i==j)=true) {z:Nat} (V:a0.tmps.size=z) (L:Uzq.all (λi=>decide (Dzq i<z))=true)
  (M:∀j v B g W k,Jzq j v B W->r6 B g W k->Jzq j v g k) (N:∀W,Bw V0 W->S W)
  (w:listed.size=n+Ezq) (t:(Ua Ezq).all (λi=>!listed.getD (n+i) true)=true) (u:(Ua n).all (λj=>Uzq.contains j != listed.getD j true)=true) (R:iV n listed+Ezq<=fuel)
  (d:∀i,i∈Uzq->∀o,ops[i]?=Z o->∀a B W,Nj Uzq V0 a0 Dzq a B W->(∀e,e∈o.after->Up md e=true->e.on∈Uzq->Jzq e.on (a.tmps.getD (Dzq e.on) Ui) B W) ->
   Us P o a W (λy k=>∃v g,y=a.put o.dst v/\r6 B g W k/\Jzq i v g k) Q)
  (C:∀f a B W,Nj Uzq V0 a0 Dzq a B W->(∀j,j∈Uzq->Jzq j (a.tmps.getD (Dzq j) Ui) B W)->Uv P md ops Q S (f+Ezq) (Hc n Ezq) a W)
  (K:∀f a B W,Nj Uzq V0 a0 Dzq a B W->(∀j,j∈Uzq->j≠l->Jzq j (a.tmps.getD (Dzq j) Ui) B W)->Uv P md ops Q S (f+(Ezq+1)) (Dm n Ezq l) a W):Uv P md ops Q S fuel listed a0 V0:=by
 have r:∀i,i∈Uzq->i<n/\∀j,j∈Uzq->Dzq i=Dzq j->i=j:=λi T=>by have:=Qo.1 O i T;simp only[Qc,Qk]at this;exact⟨E,λj s e=>by have:=Qo.1 this.2 j s;simpa [e] using this⟩
 have x:∀j,j<n->(j∈Uzq↔listed.getD j true=false):=λj s=>by
  have:=Qo.1 u j (Q7.2 s);by_cases e:j∈Uzq;·simp[e]at this;simp[e,this]
  .simp[e]at this;simp[e,this]
 refine Nw (Jk n Ezq) (wu n Ezq l) c q (λi h=>(r i h).1) (λi h=>(r i h).2) (λi h=>by rw[V];simpa using Qo.1 L i h) M N d C K _ fuel listed a0 (λb=>b<V0.heap.size) V0 D R w (λj m p=>?_) (λj m p=>?_) ⟨Qg _ _,zI,zI,D,D,zS⟩ λj m p=>?_;·have:=Qo.1 t (j-n) (Q7.2 E);rw[show n+(j-n)=j by omega]at this;exact iG
 .cases h:listed.getD j true with
  | true=>rfl
  | false=>exact absurd ((x j m).2 h) p
 .rw[(x j (r j m).1).1 m]at p;cases p
def Sd(Ezq:Nat){l:Nat}(c:l<n):(Dm n Ezq l).setIfInBounds l true=Hc n Ezq:=by
 refine Rj.one (l:=Y) ⟨by simpa using (wu n Ezq l).1,λj h=>?_,λj a b=>?_⟩ (Jk n Ezq)
 .by_cases e:l=j;·subst e;rw[yI];rfl
  .rw[Z6 true e,(wu n Ezq l).2.1 j h,QU (λh=>e (XK h))];rfl
 .rw[Z6 true E];exact (wu n Ezq l).2.2 j a b
def Bx (n Ezq l:Nat) (b:List Nat) (Jzq:Nat->Zv->(ZN)->Zw->Prop) (Dzq:Nat->Tmp)
  (r:∀i o,n<=i->ops[i]?=Z o->∀j,j<n->j≠l->∃e,e∈o.after/\Up md e=true/\e.on=j)
  (q:∀i,i<n->∃o,ops[i]?=Z o/\o.dst=Z (Dzq i)/\o.guard=Y/\∀e,e∈o.after->Up md e=true->e.on<i)
  (ql:b.all (λi=>decide (i<n) && b.all λj=>!(Dzq i==Dzq j) || i==j)=true) (z:Nat) (qa:a0.tmps.size=z) (q8:b.all (λi=>decide (Dzq i<z))=true)
  (D:∀j v B t W p,Jzq j v B W->r6 B t W p->Jzq j v t p) (q7:∀W,Bw V0 W->S W)
  (O:listed.size=n+Ezq) (M:(Ua Ezq).all (λi=>!listed.getD (n+i) true)=true) (N:(Ua n).all (λj=>b.contains j != listed.getD j true)=true) (hf:iV n listed+Ezq<=fuel)
  (g:b.contains l=true) (T:Region.noSelect ops=true) (K:Region.free md ops (Dm n Ezq l) l=true) (X:(Ut md ops (Dm n Ezq l)).contains l=true)
  (s:∀i,i∈b->∀o,ops[i]?=Z o->∀a B W,Nj b V0 a0 Dzq a B W->(∀e,e∈o.after->Up md e=true->e.on∈b->Jzq e.on (a.tmps.getD (Dzq e.on) Ui) B W) ->
   Us P o a W (λF p=>∃v t,F=a.put o.dst v/\r6 B t W p/\Jzq i v t p) Q)
  (qc:∀o,ops[l]?=Z o->∀v c a w,Q (.panic c) (a.put o.dst v) w->Q (.panic c) a w)
  (q6:∀o,ops[l]?=Z o->∀a B W,Nj b V0 a0 Dzq a B W->(∀j,j∈b->j≠l->Jzq j (a.tmps.getD (Dzq j) Ui) B W)->∃v,(∀p,Sem.run P (execOp a.eval o) p=.ok (.value v) p)/\Jzq l v B W)
  (q5:∀f a B W,Nj b V0 a0 Dzq a B W->(∀j,j∈b->Jzq j (a.tmps.getD (Dzq j) Ui) B W)->Uv P md ops Q S (f+Ezq) (Hc n Ezq) a W):Uv P md ops Q S fuel listed a0 V0:=by
 refine Km r q ql qa q8 D q7 O M N hf s q5 λf a B W m qq=>?_;have g:l∈b:=by simpa using g
 have x:=Qo.1 ql l g;simp only[Qc,Qk]at x;obtain⟨o,V,d,L,-⟩:=q l x.1;have⟨v,hv,C⟩:=q6 o V a B W m qq;refine wpAnyH_take (fuel:=f+Ezq) V T K X (qc o V v) (.inl ⟨by simp[Region.wanted,L],λw' _=>hv w'⟩) (q7 W m.below) ?_;rw[Sd Ezq x.1];have y:Dzq l<a.tmps.size:=by rw[m.size,qa];simpa using Qo.1 q8 l g
 refine q5 f _ B W ⟨m.below,m.lt,m.old,by rw[d];simpa [Act.put] using m.size,by rw[d];exact m.defers,λk q9=>?_⟩ λj u=>?_;·rw[d];show (a.tmps.setIfInBounds (Dzq l) v).getD k Ui=_;rw[oP (λe=>q9 l g e)];exact m.fr k q9
 .rw[d];show Jzq j ((a.tmps.setIfInBounds (Dzq l) v).getD (Dzq j) Ui) B W;by_cases e:j=l;·subst e;rw[tA y];exact C
  .have R:Dzq l≠Dzq j:=λh=>by have:=Qo.1 x.2 j u;simp[h]at this;exact E
   rw[oP R];exact qq j u e
end
structure Jx where
 p:Zv->(ZN)->Zw->Prop
 on:∀ {v B B' W W'},p v B W->r6 B B' W W'->p v B' W'
def Jx.any:Jx:=⟨λ_ _ _=>True,zS⟩
def Jx.is(x:Zv):Jx:=⟨λv _ _=>v=x,λh _=>h⟩
def Jx.box(X:Nat)(z:Obj):Jx:=⟨λv B W=>∃N,v=Zp (b5 N 0)/\X<=N/\W.heap[N]?=Z z/\¬B N,λ{v B B' W W'} ⟨N,h1,h2,h3,h4⟩ h=>by
 have b:=(Qe.1 h3).1
 exact⟨N,h1,h2,(h.below.block N b).trans h3,λa=>(h.new N a).elim h4 E⟩⟩
def r6.lt{c:ZN}{d:Zw}(e:r6 B c W d)(h:Bd B W):∀b,c b->b<d.heap.size:=λb a=>by
 have:=e.below.size
 rcases e.new b a with a|a
 .have:=h b a;omega
 .exact a.2
def I8{m:Nat}(t:T m):Jx:=⟨λv B W=>∃c0 c1 c2 c3 c4,v=Za #[c0,c1,c2,c3,c4]/\b8 B W m t c0 c1 c2 c3 c4/\Bd B W,λ⟨c0,c1,c2,c3,c4,d,e,c⟩ a=>⟨c0,c1,c2,c3,c4,d,e.keep (λb f=>a.below.block b (c b f)) a.on,a.lt c⟩⟩
def r6.refl(B:ZN)(W:Zw):r6 B B W W:=⟨Qg _ _,zI,λ_ h=>.inl h⟩
def LvB(o:Oper)(a:Act)(B:ZN)(W:Zw)(Jzq:Jx)(d:Act)(c:Zw):Prop:=∃v b,d=a.put o.dst v/\r6 B b W c/\Jzq.p v b c
section
variable {o:Oper} {a:Act} {B:ZN} {W:Zw} {Q:Exit->Act->Zw->Prop} {Jzq:Jx}
def Jm(c:o.op=.move (.tmp s))(d:a.tmps.getD s Ui=v)(b:Jzq.p v B W):Us WV o a W (LvB o a B W Jzq) Q:=by
 unfold Us;have:a.eval (.tmp s)=v:=by simpa [Act.eval] using d
 simp[execOp,c,this];exact⟨v,B,D,r6.refl _ _,b⟩
def GE(b:o.op=.extract (.tmp s) i)(c:a.tmps.getD s Ui=x) (d:∀W,(execOp (λ_=>x) { o with op:=.extract (.tmp 0) i }).run WV W=.ok (.value v) W) (W:Zw):(execOp a.eval o).run WV W=.ok (.value v) W:=by
 have e:a.eval (.tmp s)=x:=by simpa [Act.eval] using c
 rw[<- d W];simp[execOp,b,e]
def n9(c:o.op=.extract (.tmp s) i)(d:a.tmps.getD s Ui=x) (e:∀W,(execOp (λ_=>x) { o with op:=.extract (.tmp 0) i }).run WV W=.ok (.value v) W) (b:Jzq.p v B W):Us WV o a W (LvB o a B W Jzq) Q:=by unfold Us;rw[GE c d e W];exact⟨v,B,D,r6.refl _ _,b⟩
def EP{T:W9}{cs:Array Zv}(d:∀W,(execOp a.eval o).run WV W=.ok (.value (Zp (b5 W.heap.size 0))) (W.alloc (Zc cs T)))(c:X<=W.heap.size)(b:Bd B W):Us WV o a W (LvB o a B W (Jx.box X (Zc cs T (0,0)))) Q:=by unfold Us;rw[d W];exact⟨_,B,D,⟨eC _ _,zI,λ_ h=>.inl h⟩,W.heap.size,D,c,Qh _ _,λh=>absurd (b _ h) E⟩
def wv{xs:Array Operand}{ts:Array W9}{args:Array Zv} (l:o.op=.call { callee:=.value (.func f),args:=xs,argTypes:=ts }) (m:xs.map a.eval=args) (k:(callFunc f args).run WV W=.ok (.enter f args) W) (j:WU WV f args W λe c=>∃v,e=Zr v/\Bw W c/\Jzq.p v (λb=>B b∨(W.heap.size<=b/\b<c.heap.size)) c):Us WV o a W (LvB o a B W Jzq) Q:=by unfold Us;have d:=m;simp[execOp,l,resolve,invoke,Act.eval,d,k,Deferred.ofValue];refine H j ?_;rintro e c ⟨v,rfl,i,g⟩;exact⟨v,_,D,⟨i,λ_ h=>.inl h,zI⟩,g⟩
end
def c5 {t:W9} {a b c d e:Zv} (h:w.heap[N]?=Z (Zc #[a,b,c,d,e] t (0,0))) :
  a7 w N 0=Z a/\a7 w N 1=Z b/\a7 w N 2=Z c/\a7 w N 3=Z d/\a7 w N 4=Z e:=cP h
def wS{o:Obj}(h:w.heap[N]?=Z o):N<w.heap.size:=(Qe.1 h).1
def gH.up(h:gH w.heap.size w)(a:Bw w W):gH W.heap.size W:=by obtain⟨c,⟨i,f,d⟩,t2,g,e⟩:=h;exact⟨λb k=>c b (a.trans (k.mono a.size)),⟨i,f,λb k=>d b (a.trans (k.mono a.size))⟩,t2,g,λb k=>e b (a.trans (k.mono a.size))⟩
def leT(r:Except Int V6):V6:=match r with|.ok t=>t|.error _=>dU
def leC(r:Except Int V6):Int:=match r with|.ok _=>0|.error c=>c
def wI(k:V6)(m:Int)(w:Zw)(e:Ending)(w':Zw):Prop:=
 Bw w w' /\ ∃a c d f h g i l j,e=Zr (Zu #[Uy a c d f h g i l j,I U m])/\cT (λb=>w.heap.size<=b/\b<w'.heap.size) w' 6 k (I U a) (I U c) (Zt d) (A f h g) (A i l j)
def CF(k:V6)(o:Int)(w:Zw)(e:Ending)(w':Zw):Prop:=
 Bw w w' /\ ∃l m n d g f h j i a c,e=Zr (Zu #[Uy l m n d g f h j i,I U o])/\cT (λb=>w.heap.size<=b/\b<w'.heap.size) w' 6 k (I U l) (I U m) (Zt n) (A d g f) (A h j i) /\
  lE w' (A d g f) a/\lI w' 5 (A h j i) c/\Own (λb=>w.heap.size<=b/\b<w'.heap.size) (a++c)/\J a+J c<=1000
def CF.sl{k:V6}{a:Int}(h:CF k a w e w'):wI k a w e w':=by obtain⟨n,b,c,d,f,i,g,j,m,l,q,r,o,p,-⟩:=h;exact⟨n,b,c,d,f,i,g,j,m,l,o,p⟩
def Ga(P:ZN)(w:Zw):cT P w 6 dU (I U 0) (I U 0) (Zt ⟨#[]⟩) (A Y 0 0) (A Y 0 0):=
 ⟨D,D,D,Q9 _,D,D,lz,⟨Y,0,D,Q9 _,λh=>absurd D h⟩⟩
def Mi{r:Except Int V6}(h:gG (λ_=>False) w r e w'):wI (leT r) (leC r) w e w':=by
 obtain⟨a,h⟩:=h;cases r with
 | error c=>exact⟨a,_,_,_,_,_,_,_,_,_,h,Ga _ _⟩
 | ok t=>obtain⟨c0,c1,c2,c3,c4,f,d⟩:=h;obtain⟨g,i,j,k,m,l,n,p,o,rfl,rfl,rfl,rfl,rfl⟩:=d.shape;exact⟨a,_,_,_,_,_,_,_,_,_,f,d.tree.keep ik λb a=>a.elim False.elim E⟩
def KS{r:Except Int V6}(n:lR r)(h:Rn r w e w'):CF (leT r) (leC r) w e w':=by
 obtain⟨a,h⟩:=h;cases r with
 | error c=>exact⟨a,_,_,_,_,_,_,_,_,_,[],[],h,Ga _ _,lE.no _,lI.no _ _,Own.nil _,zS⟩
 | ok t=>obtain⟨c0,c1,c2,c3,c4,d,f,k,b,i,j,m,l⟩:=h;obtain⟨o,p,q,s,v,u,x,z,y,rfl,rfl,rfl,rfl,rfl⟩:=b.shape;refine⟨a,_,_,_,_,_,_,_,_,_,d,f,k,b,i,j,m,?_⟩;have⟨g,c⟩:=dr (show dB 6 t=true from n);have:=qaU 6 t 1 g;rw[Qi]at l;omega
def NR{t:T m}{l:List (ZB×T n)}:lR (ny m t l):=by
 unfold ny;split
 .next h=>
  obtain⟨a,-,d⟩:=h;unfold GV at a;simp only[Qc,Qk,QP]at a;have c:p8 m t<=35:=by have:=a.1.1.2;have:=Z4 this.symm;omega
  have e:1<=p8 m t:=by
   cases m with
   | zero=>exact absurd a.1.1.1 (by simp[c7])
   | succ m=>exact (iW (ed a.1.1.1).1 c).lo
  refine lC m t 1 (pN l) a.1.1.1 e c λp hp=>?_;obtain⟨q,f,rfl⟩:=Xo.1 (X0.1 hp);have b:=Qo.1 d q f;unfold wC at b;rw[Qc]at b;exact (rD (L:=5) E b.1).1
 .exact⟨zC,zC⟩
structure mF(S:ZN){n m:Nat}(l:List (ZB×T n))(t:T m)(v a0 a1 a2 a3 a4:Zv)(w u:Zw):Prop where
 below:Bw w u
 box:u.heap[w.heap.size]?=Z (Zc #[a0,a1,a2,a3,a4] 26 (0,0))
 vars:oq S u n l v
 arg:cT S u m t a0 a1 a2 a3 a4
 lt:Bd S w
def oq.keep{l:List (ZB×T n)}(h:oq S w n l v)(g:gw S w w')(f:∀b,S b->S' b):oq S' w' n l v:=by obtain⟨j,cap,K,B,x⟩:=h;refine⟨j,cap,K,B,λc=>?_⟩;have⟨b,off,u,d,a⟩:=x c;refine⟨b,off,u,f b d,λi y=>?_⟩;have⟨c0,c1,c2,c3,c4,e,k,m,r,s,t,C,z⟩:=a i y;have q:∀o,a7 w' b o=a7 w b o:=λo=>g.cell (p:=⟨b,o,Y⟩) d;exact⟨c0,c1,c2,c3,c4,(q _).trans e,(q _).trans k,(q _).trans m,(q _).trans r,(q _).trans s,(q _).trans t,C,z.keep g f⟩
section
variable {S:ZN} {n m:Nat} {l:List (ZB×T n)} {t:T m} {v a0 a1 a2 a3 a4:Zv} {w u u':Zw}
def mF.size(h:mF S l t v a0 a1 a2 a3 a4 w u):w.heap.size+1<=u.heap.size:=wS h.box
def mF.step(h:mF S l t v a0 a1 a2 a3 a4 w u)(a:Bw w u')(c:∀b:Nat,b<w.heap.size+1->u'.heap[b]?=u.heap[b]?):mF S l t v a0 a1 a2 a3 a4 w u':=
 ⟨a,(c _ E).trans h.box,h.vars.keep (λb a=>c b (by have:=h.lt b a;omega)) zI,h.arg.keep (λb a=>c b (by have:=h.lt b a;omega)) zI,h.lt⟩
def mF.keep(h:mF S l t v a0 a1 a2 a3 a4 w u)(a:Bw u u'):mF S l t v a0 a1 a2 a3 a4 w u':=
 h.step (b9 h.below h.below.size a) (λb c=>a.block b (by have:=h.size;omega))
def mF.ltu(h:mF S l t v a0 a1 a2 a3 a4 w u):Bd S u:=λb a=>by have:=h.lt b a;have:=h.size;omega
end
structure mE(k:V6)(C Dzq Azq:Nat)(p0 p1 p2 p3 p4:Zv)(u:Zw):Prop where
 box:u.heap[Azq]?=Z (Zc #[p0,p1,p2,p3,p4] 31 (0,0))
 kind:cT (λb=>C<=b/\b<Dzq) u 6 k p0 p1 p2 p3 p4
 ca:C<=Azq
 ad:Azq<Dzq
 lt:Dzq<=u.heap.size
section
variable {k:V6} {C Dzq Azq:Nat} {p0 p1 p2 p3 p4:Zv} {u u':Zw}
def mE.same(h:mE k C Dzq Azq p0 p1 p2 p3 p4 u)(d:u.heap.size<=u'.heap.size)(c:∀b:Nat,C<=b->b<Dzq->u'.heap[b]?=u.heap[b]?):mE k C Dzq Azq p0 p1 p2 p3 p4 u':=
 ⟨(c Azq h.ca h.ad).trans h.box,h.kind.keep (λb a=>c b a.1 a.2) zI,h.ca,h.ad,Q1 h.lt d⟩
def mE.keep(h:mE k C Dzq Azq p0 p1 p2 p3 p4 u)(a:Bw u u'):mE k C Dzq Azq p0 p1 p2 p3 p4 u':=
 h.same a.size (λb _ c=>a.block b (by have:=h.lt;omega))
end
def IQ {k:V6} {a:Nat} (i:cT (λb=>B b/\C<=b) W 6 k g0 g1 g2 g3 g4) (f:W.heap[a]?=Z d8) (h:C<=a) (g:¬ B a) (d:Bd B W) :
  mE k C (eF W a 0 g0 g1 g2 g3 g4).heap.size a g0 g1 g2 g3 g4 (eF W a 0 g0 g1 g2 g3 g4):=
 ⟨nH f,i.keep (λb c=>dt (λe=>g (by rw[<- e];exact c.1))) (λb c=>⟨c.2,by rw[eJ];exact d b c.1⟩),h,by rw[eJ];exact wS f,E⟩
structure Gf{n m:Nat}(l:List (ZB×T n))(t:T m)(C Dzq X:Nat)(v a0 a1 a2 a3 a4:Zv)(u:Zw):Prop where
 vars:fM (λb=>C<=b/\b<Dzq) u n l v
 node:b8 (λb=>Dzq<=b/\b<X) u m t a0 a1 a2 a3 a4
 box:u.heap[X]?=Z (Zc #[a0,a1,a2,a3,a4] 38 (0,0))
 thaw:∀b o,C<=b->b<X->u.frozen? ⟨b,o,Y⟩=false
 cd:C<=Dzq
 dx:Dzq<=X
def Gf.keep{l:List (ZB×T n)}{t:T m}{Dzq:Nat}{a0:Zv}{u:Zw}(h:Gf l t C Dzq X v a0 a1 a2 a3 a4 u)(a:Bw u u'):Gf l t C Dzq X v a0 a1 a2 a3 a4 u':=by have g:=wS h.box;have e:=h.cd;have c:=h.dx;exact⟨h.vars.keep (λb d=>a.block b E) zI,h.node.keep (λb d=>a.block b E) zI,(a.block X g).trans h.box,λb o c f=>(a.frozen (p:=⟨b,o,Y⟩) pQ).trans (h.thaw b o c f),e,c⟩
structure DU(C Dzq:Nat)(L3 L4:List cZ)(p3 p4:Zv)(u:Zw):Prop where
 spn:lE u p3 L3
 spk:lI u 5 p4 L4
 own:Own (λb=>C<=b/\b<Dzq) (L3++L4)
 len:J L3+J L4<=1000
def DU.same{Dzq:Nat}{u:Zw}(h:DU C Dzq L3 L4 p3 p4 u)(c:∀b:Nat,C<=b->b<Dzq->u'.heap[b]?=u.heap[b]?):DU C Dzq L3 L4 p3 p4 u':=
 ⟨h.spn.same (w':=u') (λs a=>by have:=h.own.1 s (XH _ a);exact c _ this.1 E),h.spk.same (w':=u') (λs a=>by have:=h.own.1 s (Xt _ a);exact c _ this.1 E),h.own,h.len⟩
def DU.ok{Dzq:Nat}{u:Zw}(h:DU C Dzq L3 L4 p3 p4 u):∀s,s∈L3++L4->s.ok u:=λs a=>(QF.1 a).elim (h.spn.ok s) (h.spk.ok s)
def AB{u:Zw}(h:u'.heap[b]?=u.heap[b]?)(o:Nat):u'.frozen? ⟨b,o,Y⟩=u.frozen? ⟨b,o,Y⟩:=by simp only[World.frozen?,h]
def jVt{N:Nat}(l:List (ZB×T N)):Jx:=⟨λv B W=>fM B W N l v/\Bd B W,λ⟨d,c⟩ a=>⟨d.keep (λb e=>a.below.block b (c b e)) a.on,a.lt c⟩⟩
def nZ(k:V6)(p:Int)(R:ZN)(n:Bool):Jx:=⟨λv B W=>∃a c d e g f h j i,v=(if n then Zu #[Uy a c d e g f h j i,I U p] else Uy a c d e g f h j i)/\cT (λb=>B b/\R b) W 6 k (I U a) (I U c) (Zt d) (A e g f) (A h j i)/\Bd B W,
 λ⟨a,c,d,e,g,f,h,j,i,q,r,o⟩ m=>⟨a,c,d,e,g,f,h,j,i,q,r.keep (λb l=>m.below.block b (o b l.1)) λb l=>⟨m.on b l.1,l.2⟩,m.lt o⟩⟩
def R9{n m:Nat}(l:List (ZB×T n))(t:T m)(k:V6)(a:Int)(C X:Nat):List Jx:=[.any,jVt l,.any,I8 t,nZ k a (λb=>C<=b) true,nZ k a (λb=>C<=b) true,nZ k a (λb=>C<=b) false,.is (I U a),.box X d8]
def Df {l:List (ZB × T n)} {t:T m} {a0:Zv} (hv:oq S w n l v) (ht:cT S w m t a0 a1 a2 a3 a4) (hB:Bd S w) (bP:gH w.heap.size w) :
  WU WV 3 #[v,Za #[a0,a1,a2,a3,a4]] w λe q7=>e=Zr (Zb true)/\Bw w q7:=by
 obtain⟨x0,x1,x2,xa,xl,xc,ya,yl,yc,rfl,rfl,rfl,rfl,rfl⟩:=ht.shape;obtain⟨va,vl,vc,rfl⟩:∃a n c,v=A a n c:=by obtain⟨a,c,h,-⟩:=id hv;exact⟨a,_,c,h⟩
 have⟨k,hk⟩:=fk (leT (ny m t l));obtain⟨d,br⟩:∃c,c=leC (ny m t l):=⟨_,D⟩;have cx:(d != d)=false:=dS;have bM:G (gY m t<=1048576->J l<=1048576->∀(W:Zw)(v' c0 c1 c2 c3 c4:Zv),fM (λb=>b<W.heap.size) W n l v'->b8 (λb=>b<W.heap.size) W m t c0 c1 c2 c3 c4->WU WV 6 #[v',Za #[c0,c1,c2,c3,c4]] W (wI k d W)):=λh1 h2 W v' c0 c1 c2 c3 c4 q1 q2=>by rw[hk,br];exact (A3 q2 q1 zI h1 h2).mono λe q7 h=>Mi h
 have bI:G (gY m t<=1048576->J l<=1048576->∀(W:Zw)(v' c0 c1 c2 c3 c4:Zv),Bw w W->fM (λb=>b<W.heap.size) W n l v'->b8 (λb=>b<W.heap.size) W m t c0 c1 c2 c3 c4->WU WV 9 #[v',Za #[c0,c1,c2,c3,c4]] W (CF k d W)):=λh1 h2 W v' c0 c1 c2 c3 c4 hW q1 q2=>by rw[hk,br];exact (AE q2 q1 zI h1 h2 (bP.up hW)).mono λe q7 h=>KS NR h
 clear hk br bP;have⟨W0,aS⟩:=fk (w.alloc (Zc (Uz x0 x1 x2 xa xl xc ya yl yc) 26));have ab:Bw w W0:=by rw[aS];exact eC _ _
 have a0:mF S l t (A va vl vc) (I U x0) (I U x1) (Zt x2) (A xa xl xc) (A ya yl yc) w W0:=⟨ab,by rw[aS];exact Qh _ _,hv.keep (b6 ab hB) zI,ht.keep (b6 ab hB) zI,hB⟩;have bx:G (mF S l t (A va vl vc) (I U x0) (I U x1) (Zt x2) (A xa xl xc) (A ya yl yc) w W0):=a0;have bA:G (WU WV 4 #[A va vl vc,I U 1048576] W0 _):=Ik 1048576 a0.vars a0.ltu E E;have bU:J l<=cG (λk=>ou k+1) l:=oZ (ou (n:=n)) l;clear hv ht hB ab a0;go_in;go_wp2_with fail;rw[<- aS];clear aS;refine H bA ?_;rintro e w1 ⟨rfl,bQ⟩;have an:G (mF S l t (A va vl vc) (I U x0) (I U x1) (Zt x2) (A xa xl xc) (A ya yl yc) w w1):=bx.keep bQ;clear bA bx bQ;have⟨i0,i1,i2,i3,i4⟩:=c5 an.box;by_cases bX:cG (λk=>ou k+1) l<=1048576;case neg=>
  have bW:dQ (cG (λk=>ou k+1) l) 1048576<0:=by unfold dQ;rw[Qd E];omega
  go_wp2;go_ret;exact⟨D,an.below⟩
 have aj:dQ (cG (λk=>ou k+1) l) 1048576=1048576-cG (λk=>ou k+1) l:=by unfold dQ;rw[Qm E]
 rw[aj];clear aj;generalize cb:(1048576:Int)-cG (λk=>ou k+1) l=lf;have bV:0<=lf:=E;have bd:lf<=1048576:=E;clear cb;have bB:G (WU WV 5 #[Uy x0 x1 x2 xa xl xc ya yl yc,I U lf] w1 _):=yQ SV m S t _ _ _ _ _ lf w1 an.arg an.ltu E bd;go_wp2_with fail;refine H bB ?_;rintro e j ⟨rfl,aH⟩;have HA:G (mF S l t (A va vl vc) (I U x0) (I U x1) (Zt x2) (A xa xl xc) (A ya yl yc) w j):=an.keep aH;clear bB an aH i0 i1 i2 i3 i4;by_cases am:gY m t<=1048576/\(gY m t:Int)<=lf;case neg=>
  have bW:dQ (gY m t) lf<0:=by unfold dQ;rw[Qd E];omega
  go_wp2;go_ret;exact⟨D,HA.below⟩
 have aj:¬dQ (gY m t) lf<0:=by unfold dQ;rw[Qm E];omega
 have vR:G (cG (λk=>ou k+1) l<=1048576/\gY m t<=1048576):=⟨bX,am.1⟩;have aY:=QJ (bM am.1 E);have ay:=QJ (bI am.1 E);clear bX am bV bd bM bI bU;have HS:G (∀W,Bw j W->a7 W w.heap.size 0=Z (I U x0)/\a7 W w.heap.size 1=Z (I U x1)/\a7 W w.heap.size 2=Z (Zt x2)/\a7 W w.heap.size 3=Z (A xa xl xc)/\a7 W w.heap.size 4=Z (A ya yl yc)):=λW hW=>c5 (HA.keep hW).box;have vL:G (∀W,Bw j W->WU WV 7 #[A va vl vc] W λe y=>∃a c,e=Zr (A a (J l) c)/\Bw W y/\fM (λb=>W.heap.size<=b/\b<y.heap.size) y n l (A a (J l) c)):=λW hW=>by exact TU
 have vA:G (∀W,Bw j W->WU WV 8 #[Uy x0 x1 x2 xa xl xc ya yl yc] W λe y=>∃c0 c1 c2 c3 c4,e=Zr (Za #[c0,c1,c2,c3,c4])/\Bw W y/\b8 (λb=>W.heap.size<=b/\b<y.heap.size) y m t c0 c1 c2 c3 c4):=λW hW=>by exact TD
 have ve:G (∀(W:Zw)(V c0 c1 c2 c3 c4:Zv),Bw j W->fM (λb=>b<W.heap.size) W n l V->b8 (λb=>b<W.heap.size) W m t c0 c1 c2 c3 c4->WU WV 6 #[V,Za #[c0,c1,c2,c3,c4]] W (wI k d W)):=λW V c0 c1 c2 c3 c4 _ q1 q2=>aY W V c0 c1 c2 c3 c4 q1 q2;have⟨i0,i1,i2,i3,i4⟩:=HS.out j (Qg _ _);have xJ:Bw j j.drew:=(Qg _ _).drew;go_upto_region 8 with fail;go_cut [6,7] from 17 to 119 (λpk pc M=>∃q d0 d1 d2 da dl dc ea el ec,pk=Zp (b5 q 0)/\pc=I U d/\mE k j.heap.size M.heap.size q (I U d0) (I U d1) (Zt d2) (A da dl dc) (A ea el ec) M/\Bw j M);case first=>
  refine Qz (S:=λq7=>a7 q7 w.heap.size 0=Z (I U x0)/\a7 q7 w.heap.size 1=Z (I U x1)/\a7 q7 w.heap.size 2=Z (Zt x2)/\a7 q7 w.heap.size 3=Z (A xa xl xc)/\a7 q7 w.heap.size 4=Z (A ya yl yc)) zK ⟨i0,i1,i2,i3,i4⟩ (λhHeld=>?_);refine t2 0 2 ?_;have sd:j.heap.size<=j.drew.heap.size:=QD _;generalize j.drew=V0 at *;have HW:G (∀W,Bw V0 W->Bw j W):=λW h=>xJ.trans (h.mono E);refine Bx 9 2 7 [1,3,4,5,6,7,8] (λi=>((R9 l t k d j.heap.size V0.heap.size).getD i .any).p) (λi=>[28,29,30,31,32,27,33,34,6].getD i 0) (BF (Ezq:=2) zK zK) (EZ zK) zK 119 zK zK (λi v B bZ W W' h hm=>((R9 l t k d j.heap.size V0.heap.size).getD i .any).on h hm) (λW h=>HS W (HW W h)) zK zK zK zC zK zK zK zK ?step (by intro o ho;cases ho;exact λ_ _ _ _ h=>h) ?finL ?finA;case step=>
   refine QL.2 ⟨?_,QL.2 ⟨?_,QL.2 ⟨?_,QL.2 ⟨?_,QL.2 ⟨?_,QL.2 ⟨?_,QL.2 ⟨?_,λ_ h=>eI⟩⟩⟩⟩⟩⟩⟩;all_goals (intro o ho;cases ho;intro a B W hm X;have jz:=HW.out W hm.below;have bw:=hm.below.size)
   .have g0:a.tmps.getD 28 Ui=A va vl vc:=(hm.fr 28 zC).trans zK;exact Yw
   .have g0:a.tmps.getD 30 Ui=Uy x0 x1 x2 xa xl xc ya yl yc:=(hm.fr 30 zC).trans zK;exact Yt
   .obtain⟨hv,-⟩:(jVt l).p (a.tmps.getD 29 Ui) B W:=X { on:=1,ground:=.data } zS D zC;obtain⟨c0,c1,c2,c3,c4,r,bu,-⟩:(I8 t).p (a.tmps.getD 31 Ui) B W:=X { on:=3,ground:=.data } zS D zC;obtain⟨V,g0⟩:∃x,a.tmps.getD 29 Ui=x:=⟨_,D⟩;rw[g0]at hv;refine wv (Jzq:=nZ k d (λb=>j.heap.size<=b) true) D (args:=#[V,Za #[c0,c1,c2,c3,c4]]) (by simp[Act.eval,g0,r]) (Tryz.call6 _ _) ((ve W V c0 c1 c2 c3 c4 jz (hv.keep ik hm.lt) (bu.keep ik hm.lt)).mono ?_);exact Yu
   .exact Jm (Jzq:=nZ k d (λb=>j.heap.size<=b) true) D D (X { on:=4,ground:=.data } zS D zC)
   .obtain⟨d0,d1,d2,da,dl,dc,ea,el,ec,g0,h2,h3⟩:(nZ k d (λb=>j.heap.size<=b) true).p (a.tmps.getD 27 Ui) B W:=X { on:=5,ground:=.data } zS D zC;exact n9 (Jzq:=nZ k d (λb=>j.heap.size<=b) false) D g0 (λW=>zK) ⟨d0,d1,d2,da,dl,dc,ea,el,ec,D,h2,h3⟩
   .obtain⟨d0,d1,d2,da,dl,dc,ea,el,ec,g0,h2,h3⟩:(nZ k d (λb=>j.heap.size<=b) true).p (a.tmps.getD 27 Ui) B W:=X { on:=5,ground:=.data } zS D zC;exact n9 (Jzq:=.is (I U d)) D g0 (λW=>zK) D
   .exact EP (λW=>zK) bw hm.lt
  case finL=>
   intro o ho a B W hm hj;cases ho
   obtain⟨d0,d1,d2,da,dl,dc,ea,el,ec,g0,-⟩:(nZ k d (λb=>j.heap.size<=b) true).p (a.tmps.getD 27 Ui) B W:=hj 5 zC zC;exact⟨I U d,GE D g0 (λW=>zK),D⟩
  case finA=>intro f a B W hm hj;have jz:=HW.out W hm.below;have hz:a.tmps.size=119:=hm.size.trans zK;obtain⟨d0,d1,d2,da,dl,dc,ea,el,ec,g5,-,qf⟩:(nZ k d (λb=>j.heap.size<=b) true).p (a.tmps.getD 27 Ui) B W:=hj 5 zC;obtain⟨e0,e1,e2,aD,aF,aE,aG,aM,aJ,g6,xL,-⟩:(nZ k d (λb=>j.heap.size<=b) false).p (a.tmps.getD 33 Ui) B W:=hj 6 zC;have g7:a.tmps.getD 34 Ui=I U d:=hj 7 zC;obtain⟨nk,g8,qB,qM,zV⟩:(Jx.box V0.heap.size d8).p (a.tmps.getD 6 Ui) B W:=hj 8 zC;obtain⟨y1,r⟩:∃x,a.tmps.getD 29 Ui=x:=⟨_,D⟩;obtain⟨y3,g3⟩:∃x,a.tmps.getD 31 Ui=x:=⟨_,D⟩;obtain⟨y4,g4⟩:∃x,a.tmps.getD 32 Ui=x:=⟨_,D⟩;have ha:=DY hm [(29,y1),(31,y3),(32,y4),(27,Zu #[Uy d0 d1 d2 da dl dc ea el ec,I U d]),(33,Uy e0 e1 e2 aD aF aE aG aM aJ),(34,I U d),(6,Zp (b5 nk 0))] D hz zC (QL.2 ⟨r,QL.2 ⟨g3,QL.2 ⟨g4,QL.2 ⟨g5,QL.2 ⟨g6,QL.2 ⟨g7,QL.2 ⟨g8,zS⟩⟩⟩⟩⟩⟩⟩);clear hz r g3 g4 g5 g6 g7 g8;have HG:=QJ (IQ xL qM E zV qf);have⟨⟨r0,r1,r2,r3,r4⟩,q0,q1,q2,q3,q4⟩:=cI qM;have qU:=QJ (dk (o:=0) (g0:=I U e0) (g1:=I U e1) (g2:=Zt e2) (g3:=A aD aF aE) (g4:=A aG aM aJ) jz (show j.heap.size<=nk by omega));exact Tm
 case rest=>
  obtain⟨q,s0,s1,s2,sa,sl,sc,ra,rl,rc,rfl,rfl,X,bp⟩:=hcut;obtain⟨O,rfl⟩:∃x,x=wc:=⟨_,D⟩;clear vL vA ve HS aY i0 i1 i2 i3 i4 aj xJ;have aA:G (mE k j.heap.size O.heap.size q (I U s0) (I U s1) (Zt s2) (A sa sl sc) (A ra rl rc) O):=X;have j0:G (mF S l t (A va vl vc) (I U x0) (I U x1) (Zt x2) (A xa xl xc) (A ya yl yc) w O):=HA.keep bp;have cl:=bp.size;have cz:=HA.size;have bN:G (WU WV 7 #[A va vl vc] O _):=rO j0.vars j0.ltu vR.1;clear X bp HA;go_wp2_with fail;refine H bN ?_;rintro e M ⟨oa,oc,rfl,j4,R,aN⟩;have bY:=R.size;have q8:G (mF S l t (A va vl vc) (I U x0) (I U x1) (Zt x2) (A xa xl xc) (A ya yl yc) w M):=j0.keep R;have aB:G (mE k j.heap.size O.heap.size q (I U s0) (I U s1) (Zt s2) (A sa sl sc) (A ra rl rc) M):=aA.keep R;have H5:G (fM (λb=>O.heap.size<=b/\b<M.heap.size) M n l (A oa (J l) oc)/\ki O.heap.size M):=⟨j4,aN⟩;have bO:G (WU WV 8 #[Uy x0 x1 x2 xa xl xc ya yl yc] M _):=mT DE m S t _ _ _ _ _ M q8.arg q8.ltu vR.2;have⟨i0,i1,i2,i3,i4⟩:=c5 q8.box;clear bN j0 aA j4 R aN;go_wp2_with fail;refine H bO ?_;rintro e L ⟨_,_,_,_,_,rfl,j4,R,aN⟩;obtain⟨z0,z1,z2,qa,ql,qc,ua,ul,uc,rfl,rfl,rfl,rfl,rfl⟩:=j4.shape;have ce:=R.size;have⟨j3,ap⟩:=fk (L.alloc (UB z0 z1 z2 qa ql qc ua ul uc));have Q:Bw L j3:=by rw[ap];exact eC _ _
  have cB:j3.heap.size=L.heap.size+1:=by rw[ap];simp
  have ae:Bw M j3:=b9 R R.size Q;have be:ki O.heap.size L:=H5.2.step R aN bY;have aK:Gf l t O.heap.size M.heap.size L.heap.size (A oa (J l) oc) (I U z0) (I U z1) (Zt z2) (A qa ql qc) (A ua ul uc) j3:=⟨H5.1.keep (λb hb=>ae.block b hb.2) zI,j4.keep (λb hb=>Q.block b hb.2) zI,by rw[ap];exact Qh _ _,λb o h1 h2=>(Q.frozen (p:=⟨b,o,Y⟩) h2).trans (be b o h1 h2),bY,ce⟩;have z:G (Gf l t O.heap.size M.heap.size L.heap.size (A oa (J l) oc) (I U z0) (I U z1) (Zt z2) (A qa ql qc) (A ua ul uc) j3):=aK;have bf:G (mF S l t (A va vl vc) (I U x0) (I U x1) (Zt x2) (A xa xl xc) (A ya yl yc) w j3):=q8.keep ae;have aC:G (mE k j.heap.size O.heap.size q (I U s0) (I U s1) (Zt s2) (A sa sl sc) (A ra rl rc) j3):=aB.keep ae;have HI:G (WU WV 9 #[A oa (J l) oc,Uy z0 z1 z2 qa ql qc ua ul uc] j3 _):=ay.out j3 _ _ _ _ _ _ bf.below (aK.vars.keep ik q9) (aK.node.keep ik q9);clear i0 i1 i2 i3 i4;have⟨i0,i1,i2,i3,i4⟩:=c5 aK.box;rw[ap]at i0 i1 i2 i3 i4;clear j4 R aN Q be ae aK q8 aB bO H5;go_wp2_with fail;rw[<- ap];clear ap;refine H HI ?_;rintro e w8 ⟨aT,g0,r,q6,ga,gl,gc,ha,hl,hc,L3,L4,rfl,hG,hN,hR,hO,hL⟩;have cC:=aT.size;have⟨P,aq⟩:=fk (w8.alloc (UA g0 r q6 ga gl gc ha hl hc));have Q:Bw w8 P:=by rw[aq];exact eC _ _
  have cD:P.heap.size=w8.heap.size+1:=by rw[aq];simp
  have af:Bw j3 P:=b9 aT aT.size Q;have aU:mE k j3.heap.size P.heap.size w8.heap.size (I U g0) (I U r) (Zt q6) (A ga gl gc) (A ha hl hc) P:=⟨by rw[aq];exact Qh _ _,hG.keep (λb hb=>Q.block b hb.2) E,E,E,E⟩;have C:G (mF S l t (A va vl vc) (I U x0) (I U x1) (Zt x2) (A xa xl xc) (A ya yl yc) w P):=bf.keep af;have aa:G (mE k j.heap.size O.heap.size q (I U s0) (I U s1) (Zt s2) (A sa sl sc) (A ra rl rc) P):=aC.keep af;have aw:G (Gf l t O.heap.size M.heap.size L.heap.size (A oa (J l) oc) (I U z0) (I U z1) (Zt z2) (A qa ql qc) (A ua ul uc) P):=z.keep af;have bG:G (mE k j3.heap.size P.heap.size w8.heap.size (I U g0) (I U r) (Zt q6) (A ga gl gc) (A ha hl hc) P):=aU;have bK:G (DU j3.heap.size w8.heap.size L3 L4 (A ga gl gc) (A ha hl hc) P):=⟨hN.below Q,hR.below Q,hO,hL⟩;have cA:=C.size;have ax:G (WU WV 10 #[Uy g0 r q6 ga gl gc ha hl hc,Uy s0 s1 s2 sa sl sc ra rl rc] P _):=lr wB 6 _ _ k _ _ _ _ _ _ _ _ _ _ P aU.kind aa.kind q9 q9;clear i0 i1 i2 i3 i4;have⟨m0,m1,m2,m3,m4⟩:=c5 aa.box;have⟨b0,b1,b2,b3,b4⟩:=c5 aU.box;rw[aq]at m0 m1 m2 m3 m4 b0 b1 b2 b3 b4;clear aT hG hN hR hO hL Q af aU bf aC z HI;go_wp2_with fail;rw[<- aq];clear aq;refine H ax ?_;rintro e u0 ⟨rfl,ab⟩;clear ax m0 m1 m2 m3 m4 b0 b1 b2 b3 b4;have au:G (Bw P u0):=ab;clear ab;have HT:G (WU WV 7 #[A va vl vc] u0 _):=rO (C.keep au).vars (C.keep au).ltu vR.1;go_wp2_with fail;refine H HT ?_;rintro e u2 ⟨cf,cg,rfl,bb,aH,-⟩;have ah:=b9 au au.size aH;have cn:=ah.size;have bF:G (WU WV 11 #[A oa (J l) oc,A cf (J l) cg] u2 _):=Eg (aw.keep ah).vars.bnd bb.bnd q9 E;have qU:=a8 ah;clear HT au bb aH ah;go_wp2_with fail;refine H bF ?_;rintro e u3 ⟨rfl,aI⟩;have aZ:=b9 qU qU.size aI;clear bF qU aI;have aL:Bw P u3.drew:=aZ.drew;have HT:G (WU WV 8 #[Uy x0 x1 x2 xa xl xc ya yl yc] u3.drew _):=mT DE m S t _ _ _ _ _ u3.drew (C.keep aL).arg (C.keep aL).ltu vR.2;have aR:G (∀W,Bw P W->(a7 W L.heap.size 0=Z (I U z0)/\a7 W L.heap.size 1=Z (I U z1)/\a7 W L.heap.size 2=Z (Zt z2)/\a7 W L.heap.size 3=Z (A qa ql qc)/\a7 W L.heap.size 4=Z (A ua ul uc))/\a7 W w.heap.size 0=Z (I U x0)/\a7 W w.heap.size 1=Z (I U x1)/\a7 W w.heap.size 2=Z (Zt x2)/\a7 W w.heap.size 3=Z (A xa xl xc)/\a7 W w.heap.size 4=Z (A ya yl yc)):=λW hW=>⟨c5 (aw.keep hW).box,c5 (C.keep hW).box⟩;have bC:G (∀(W:Zw)(c0 c1 c2 c3 c4:Zv),Bw P W->b8 (λb=>b<W.heap.size) W m t c0 c1 c2 c3 c4->WU WV 12 #[Uy z0 z1 z2 qa ql qc ua ul uc,Za #[c0,c1,c2,c3,c4]] W λe q7=>e=Zr (Zb true)/\Bw W q7):=λW c0 c1 c2 c3 c4 hW hn=>lr SR m _ _ t _ _ _ _ _ _ _ _ _ _ W (aw.keep hW).node.tree hn.tree (λb hb=>by have:=hW.size;omega) zI;have j2:=aR.out _ aL;have bl:=a8 aL;clear aZ aL;go_upto_region 16 with fail;refine Qz (S:=λW=>(a7 W L.heap.size 0=Z (I U z0)/\a7 W L.heap.size 1=Z (I U z1)/\a7 W L.heap.size 2=Z (Zt z2)/\a7 W L.heap.size 3=Z (A qa ql qc)/\a7 W L.heap.size 4=Z (A ua ul uc))/\a7 W w.heap.size 0=Z (I U x0)/\a7 W w.heap.size 1=Z (I U x1)/\a7 W w.heap.size 2=Z (Zt x2)/\a7 W w.heap.size 3=Z (A xa xl xc)/\a7 W w.heap.size 4=Z (A ya yl yc)) zK j2 (λhHeld=>?_);generalize u3.drew=V3 at *;refine t2 0 1 ?_;refine ic 2 λK hK=>?_;go_simp;go_at_call 8;refine H HT ?_;rintro e u5 ⟨y0,y1,y2,y3,y4,rfl,j4,bS,-⟩;have ag:=b9 bl bl.size bS;have bD:=QJ (bC u5 y0 y1 y2 y3 y4 ag (j4.keep ik E));have bh:=a8 ag;refine hK.out _ _ (aR _ ag) (λhHeld=>?_);clear hK K HT bC j4 bS ag bl j2;refine ic 3 λK hK=>?_;go_simp;go_at_call 12;refine H bD ?_;rintro e u6 ⟨rfl,bT⟩;have F:=b9 bh bh.size bT;refine hK.out _ _ (aR _ F) (λhHeld=>?_);clear hK K bD bh bT aR;refine tk 4 ?_;refine Xi zK ?_ _;go_simp;clear hHeld;have z:G (Gf l t O.heap.size M.heap.size L.heap.size (A oa (J l) oc) (I U z0) (I U z1) (Zt z2) (A qa ql qc) (A ua ul uc) u6):=aw.keep F;have aO:=a8 F;have cE:=F.size;have c0:=z.cd;have c1:=z.dx;have c3:=wS z.box;clear F;have⟨M1,r1,r2,r3⟩:=Gq z.vars.bnd (λb o hb=>z.thaw b o hb.1 E);have bv:=vR.out;have ao:G (WU WV 13 #[A oa (J l) oc,I U 1] u6 _):=Do 1 r1 E E;have ad:=a8 r2;generalize qB:(1:Int)+J M1=k1 at ao;have ci:1<=k1:=E;have cj:k1<=4194305:=E;clear r1 r2 r3 qB bv;go_wp2_with fail;refine H ao ?_;rintro e V ⟨rfl,g⟩;have co:=g.size;have ak:∀b:Nat,M.heap.size<=b->b<=L.heap.size->V.heap[b]?=u6.heap[b]?:=λb h1 h2=>g.other E (λs hs e=>by have:=ad.out s hs;omega);have av:G (Bw w V):=dA.below_of (C.keep aO).below (by have:=(C.keep aO).size;omega) g (λs hs=>by have:=ad.out s hs;have:=aa.lt;omega);have bL:G (∀b:Nat,b<u6.heap.size->¬(O.heap.size<=b/\b<L.heap.size)->V.heap[b]?=u6.heap[b]?):=λb hb hn=>g.other hb (λs hs e=>hn (by have:=ad.out s hs;omega));have bc:b8 (λb=>M.heap.size<=b/\b<L.heap.size) V m t (I U z0) (I U z1) (Zt z2) (A qa ql qc) (A ua ul uc):=z.node.keep (λb hb=>ak b E E) zI;have⟨M3,M4,r1,r2,r3,r4⟩:=yV m t bc.tree (λb o hb=>(AB (ak b E E) o).trans (z.thaw b o E E));rw[Qi]at r4;have bv:=vR.2;have bn:G (WU WV 14 #[Uy z0 z1 z2 qa ql qc ua ul uc,I U k1] V _):=sF SS z0 z1 z2 k1 r1 r2 E E;have az:=a8 r3;have⟨i0,i1,i2,i3,i4⟩:=c5 ((ak L.heap.size E E).trans z.box);generalize qM:k1+J M3+J M4=k2 at bn;have ck:¬k2<0:=E;clear r1 r2 r3 r4 qM bv bc ao ad g;go_wp2_with fail;refine H bn ?_;rintro e v2 ⟨rfl,g⟩;have cp:=g.size;have aW:G (Bw w v2):=dA.below_of av av.size g (λs hs=>by have:=az.out s hs;have:=aa.lt;have:=C.size;omega);have j2:∀b:Nat,b<P.heap.size->¬(O.heap.size<=b/\b<L.heap.size)->v2.heap[b]?=P.heap[b]?:=λb hb hn=>((g.other E (λs hs e=>hn (by have:=az.out s hs;omega))).trans (bL b E hn)).trans (aO.block b hb);have cv:=aa.lt;have bz:G (mF S l t (A va vl vc) (I U x0) (I U x1) (Zt x2) (A xa xl xc) (A ya yl yc) w v2):=C.step aW (λb hb=>j2 b E E);have aQ:G (mE k j.heap.size O.heap.size q (I U s0) (I U s1) (Zt s2) (A sa sl sc) (A ra rl rc) v2):=aa.same E (λb h1 h2=>j2 b E E);have aP:G (mE k j3.heap.size P.heap.size w8.heap.size (I U g0) (I U r) (Zt q6) (A ga gl gc) (A ha hl hc) v2):=bG.same E (λb h1 h2=>j2 b E E);have bJ:G (DU j3.heap.size w8.heap.size L3 L4 (A ga gl gc) (A ha hl hc) v2):=bK.same (λb h1 h2=>j2 b E E);clear bn az g i0 i1 i2 i3 i4 ak bL aW j2 C aa bG bK aw z aO av;have ax:G (WU WV 10 #[Uy g0 r q6 ga gl gc ha hl hc,Uy s0 s1 s2 sa sl sc ra rl rc] v2 _):=lr wB 6 _ _ k _ _ _ _ _ _ _ _ _ _ v2 aP.kind aQ.kind q9 q9;have⟨m0,m1,m2,m3,m4⟩:=c5 aQ.box;have⟨b0,b1,b2,b3,b4⟩:=c5 aP.box;go_wp2_with fail;refine H ax ?_;rintro e v3 ⟨rfl,ar⟩;clear ax m0 m1 m2 m3 m4 b0 b1 b2 b3 b4;have cq:=ar.size;have j0:G (mF S l t (A va vl vc) (I U x0) (I U x1) (Zt x2) (A xa xl xc) (A ya yl yc) w v3):=bz.keep ar;have aA:G (mE k j.heap.size O.heap.size q (I U s0) (I U s1) (Zt s2) (A sa sl sc) (A ra rl rc) v3):=aQ.keep ar;have bm:G (mE k j3.heap.size P.heap.size w8.heap.size (I U g0) (I U r) (Zt q6) (A ga gl gc) (A ha hl hc) v3):=aP.keep ar;have N:G (DU j3.heap.size w8.heap.size L3 L4 (A ga gl gc) (A ha hl hc) v3):=bJ.same (λb h1 h2=>ar.block b E);clear ar bz aQ aP bJ;have cy:=N.len;have ao:G (WU WV 15 #[Uy g0 r q6 ga gl gc ha hl hc,I U 1] v3 _):=sF JK g0 r q6 1 N.spn N.spk E E;have⟨b0,b1,b2,b3,b4⟩:=c5 bm.box;go_wp2_with fail;refine H ao ?_;rintro e v5 ⟨rfl,g⟩;have cr:=g.size;have aV:∀b:Nat,b<v3.heap.size->¬(j3.heap.size<=b/\b<w8.heap.size)->v5.heap[b]?=v3.heap[b]?:=λb hb hn=>g.other hb (λs hs e=>hn (by rw[<- e];exact N.own.1 s hs));have aX:G (Bw w v5):=dA.below_of j0.below j0.below.size g (λs hs=>by have:=N.own.1 s hs;omega);have q8:G (mF S l t (A va vl vc) (I U x0) (I U x1) (Zt x2) (A xa xl xc) (A ya yl yc) w v5):=j0.step aX (λb hb=>aV b E E);have aB:G (mE k j.heap.size O.heap.size q (I U s0) (I U s1) (Zt s2) (A sa sl sc) (A ra rl rc) v5):=aA.same E (λb h1 h2=>aV b E E);have ac:=(aV w8.heap.size E E).trans bm.box;have ai:=N.ok;have bt:=g.holds ai N.own.2;have al:=g.sim ai;have H5:G ((lE v5 (A ga gl gc) L3/\lI v5 5 (A ha hl hc) L4)/\Holds v5 (L3++L4) 1/\(∀s,s∈L3++L4->s.ok v5)/\v5.heap[w8.heap.size]?=Z (Zc (Uz g0 r q6 ga gl gc ha hl hc) 31 (0,0))):=⟨⟨N.spn.sim al,N.spk.sim al⟩,bt,λs hs=>cZ.ok_sim (ai s hs) al,ac⟩;have vN:G (WU WV 16 #[Uy g0 r q6 ga gl gc ha hl hc,I U 1] v5 _):=ss g0 r q6 H5.1.1 H5.1.2 bt E E;clear b0 b1 b2 b3 b4 ao g aV aX j0 aA bm N ai bt al;have⟨b0,b1,b2,b3,b4⟩:=c5 ac;have cu:¬(1:Int)+(J L3:Int)+(J L4:Int)<0:=E;have ct:((1:Int)+(J L3:Int)+(J L4:Int) != 1+(J L3:Int)+(J L4:Int))=false:=zS;go_wp2_with fail;refine H vN ?_;rintro e u ⟨rfl,q5⟩;have cs:=q5.size;have HA:G (mF S l t (A va vl vc) (I U x0) (I U x1) (Zt x2) (A xa xl xc) (A ya yl yc) w u):=q8.keep q5;have aC:G (mE k j.heap.size O.heap.size q (I U s0) (I U s1) (Zt s2) (A sa sl sc) (A ra rl rc) u):=aB.keep q5;have bi:=a8 q5;clear vN b0 b1 b2 b3 b4 q8 aB q5 ac;have HS:G (∀W,Bw u W->a7 W w.heap.size 0=Z (I U x0)/\a7 W w.heap.size 1=Z (I U x1)/\a7 W w.heap.size 2=Z (Zt x2)/\a7 W w.heap.size 3=Z (A xa xl xc)/\a7 W w.heap.size 4=Z (A ya yl yc)):=λW hW=>c5 (HA.keep hW).box;have vL:G (∀W,Bw u W->WU WV 7 #[A va vl vc] W λe y=>∃a c,e=Zr (A a (J l) c)/\Bw W y/\fM (λb=>W.heap.size<=b/\b<y.heap.size) y n l (A a (J l) c)):=λW hW=>by exact TU
  have vA:G (∀W,Bw u W->WU WV 8 #[Uy x0 x1 x2 xa xl xc ya yl yc] W λe y=>∃c0 c1 c2 c3 c4,e=Zr (Za #[c0,c1,c2,c3,c4])/\Bw W y/\b8 (λb=>W.heap.size<=b/\b<y.heap.size) y m t c0 c1 c2 c3 c4):=λW hW=>by exact TD
  have ve:G (∀(W:Zw)(V c0 c1 c2 c3 c4:Zv),Bw u W->fM (λb=>b<W.heap.size) W n l V->b8 (λb=>b<W.heap.size) W m t c0 c1 c2 c3 c4->WU WV 9 #[V,Za #[c0,c1,c2,c3,c4]] W (wI k d W)):=λW V c0 c1 c2 c3 c4 hW q1 q2=>(ay W V c0 c1 c2 c3 c4 (HA.keep hW).below q1 q2).mono λe q7 h=>h.sl;have⟨i0,i1,i2,i3,i4⟩:=HS.out u (Qg _ _);have xJ:Bw u u.drew:=(Qg _ _).drew;go_upto_region 31 with fail;go_cut [15,16] from 17 to 119 (λpk pc M=>∃q d0 d1 d2 da dl dc ea el ec,pk=Zp (b5 q 0)/\pc=I U d/\mE k u.heap.size M.heap.size q (I U d0) (I U d1) (Zt d2) (A da dl dc) (A ea el ec) M/\Bw u M);case first=>
   refine Qz (S:=λq7=>a7 q7 w.heap.size 0=Z (I U x0)/\a7 q7 w.heap.size 1=Z (I U x1)/\a7 q7 w.heap.size 2=Z (Zt x2)/\a7 q7 w.heap.size 3=Z (A xa xl xc)/\a7 q7 w.heap.size 4=Z (A ya yl yc)) zK ⟨i0,i1,i2,i3,i4⟩ (λhHeld=>?_);refine t2 0 2 ?_;have sd:u.heap.size<=u.drew.heap.size:=QD _;generalize u.drew=V0 at *;have HW:G (∀W,Bw V0 W->Bw u W):=λW h=>xJ.trans (h.mono E);refine Bx 9 2 7 [1,3,4,5,6,7,8] (λi=>((R9 l t k d u.heap.size V0.heap.size).getD i .any).p) (λi=>[95,96,97,98,99,94,100,101,15].getD i 0) (BF (Ezq:=2) zK zK) (EZ zK) zK 119 zK zK (λi v B bZ W W' h hm=>((R9 l t k d u.heap.size V0.heap.size).getD i .any).on h hm) (λW h=>HS W (HW W h)) zK zK zK zC zK zK zK zK ?step (by intro o ho;cases ho;exact λ_ _ _ _ h=>h) ?finL ?finA;case step=>
    refine QL.2 ⟨?_,QL.2 ⟨?_,QL.2 ⟨?_,QL.2 ⟨?_,QL.2 ⟨?_,QL.2 ⟨?_,QL.2 ⟨?_,λ_ h=>eI⟩⟩⟩⟩⟩⟩⟩;all_goals (intro o ho;cases ho;intro a B W hm X;have jz:=HW.out W hm.below;have bw:=hm.below.size)
    .have g0:a.tmps.getD 95 Ui=A va vl vc:=(hm.fr 95 zC).trans zK;exact Yw
    .have g0:a.tmps.getD 97 Ui=Uy x0 x1 x2 xa xl xc ya yl yc:=(hm.fr 97 zC).trans zK;exact Yt
    .obtain⟨hv,-⟩:(jVt l).p (a.tmps.getD 96 Ui) B W:=X { on:=1,ground:=.data } zS D zC;obtain⟨c0,c1,c2,c3,c4,r,bu,-⟩:(I8 t).p (a.tmps.getD 98 Ui) B W:=X { on:=3,ground:=.data } zS D zC;obtain⟨V,g0⟩:∃x,a.tmps.getD 96 Ui=x:=⟨_,D⟩;rw[g0]at hv;refine wv (Jzq:=nZ k d (λb=>u.heap.size<=b) true) D (args:=#[V,Za #[c0,c1,c2,c3,c4]]) (by simp[Act.eval,g0,r]) (Tryz.call9 _ _) ((ve W V c0 c1 c2 c3 c4 jz (hv.keep ik hm.lt) (bu.keep ik hm.lt)).mono ?_);exact Yu
    .exact Jm (Jzq:=nZ k d (λb=>u.heap.size<=b) true) D D (X { on:=4,ground:=.data } zS D zC)
    .obtain⟨d0,d1,d2,da,dl,dc,ea,el,ec,g0,h2,h3⟩:(nZ k d (λb=>u.heap.size<=b) true).p (a.tmps.getD 94 Ui) B W:=X { on:=5,ground:=.data } zS D zC;exact n9 (Jzq:=nZ k d (λb=>u.heap.size<=b) false) D g0 (λW=>zK) ⟨d0,d1,d2,da,dl,dc,ea,el,ec,D,h2,h3⟩
    .obtain⟨d0,d1,d2,da,dl,dc,ea,el,ec,g0,h2,h3⟩:(nZ k d (λb=>u.heap.size<=b) true).p (a.tmps.getD 94 Ui) B W:=X { on:=5,ground:=.data } (Array.mem_of_getElem? (i:=0) D) D zC;exact n9 (Jzq:=.is (I U d)) D g0 (λW=>zK) D
    .exact EP (λW=>zK) bw hm.lt
   case finL=>
    intro o ho a B W hm hj;cases ho
    obtain⟨d0,d1,d2,da,dl,dc,ea,el,ec,g0,-⟩:(nZ k d (λb=>u.heap.size<=b) true).p (a.tmps.getD 94 Ui) B W:=hj 5 zC zC;exact⟨I U d,GE D g0 (λW=>zK),D⟩
   case finA=>intro f a B W hm hj;have jz:=HW.out W hm.below;have hz:a.tmps.size=119:=hm.size.trans zK;obtain⟨d0,d1,d2,da,dl,dc,ea,el,ec,g5,-,qf⟩:(nZ k d (λb=>u.heap.size<=b) true).p (a.tmps.getD 94 Ui) B W:=hj 5 zC;obtain⟨e0,e1,e2,aD,aF,aE,aG,aM,aJ,g6,xL,-⟩:(nZ k d (λb=>u.heap.size<=b) false).p (a.tmps.getD 100 Ui) B W:=hj 6 zC;have g7:a.tmps.getD 101 Ui=I U d:=hj 7 zC;obtain⟨nk,g8,qB,qM,zV⟩:(Jx.box V0.heap.size d8).p (a.tmps.getD 15 Ui) B W:=hj 8 zC;obtain⟨y1,r⟩:∃x,a.tmps.getD 96 Ui=x:=⟨_,D⟩;obtain⟨y3,g3⟩:∃x,a.tmps.getD 98 Ui=x:=⟨_,D⟩;obtain⟨y4,g4⟩:∃x,a.tmps.getD 99 Ui=x:=⟨_,D⟩;have ha:=DY hm [(96,y1),(98,y3),(99,y4),(94,Zu #[Uy d0 d1 d2 da dl dc ea el ec,I U d]),(100,Uy e0 e1 e2 aD aF aE aG aM aJ),(101,I U d),(15,Zp (b5 nk 0))] D hz zC (QL.2 ⟨r,QL.2 ⟨g3,QL.2 ⟨g4,QL.2 ⟨g5,QL.2 ⟨g6,QL.2 ⟨g7,QL.2 ⟨g8,zS⟩⟩⟩⟩⟩⟩⟩);clear hz r g3 g4 g5 g6 g7 g8;have HG:=QJ (IQ xL qM E zV qf);have⟨⟨r0,r1,r2,r3,r4⟩,q0,q1,q2,q3,q4⟩:=cI qM;have qU:=QJ (dk (o:=0) (g0:=I U e0) (g1:=I U e1) (g2:=Zt e2) (g3:=A aD aF aE) (g4:=A aG aM aJ) jz (show u.heap.size<=nk by omega));exact Tm
  case rest=>obtain⟨A2,d0,d1,d2,da,dl,dc,ea,el,ec,rfl,rfl,X,qq⟩:=hcut;obtain⟨V8,rfl⟩:∃x,x=wc:=⟨_,D⟩;clear vL vA ve HS ay i0 i1 i2 i3 i4 xJ;have bo:G (mE k j.heap.size O.heap.size q (I U s0) (I U s1) (Zt s2) (A sa sl sc) (A ra rl rc) V8):=aC.keep qq;have ca:=a8 X;have cm:=qq.size;have cw:=X.lt;have bE:G (WU WV 10 #[Uy d0 d1 d2 da dl dc ea el ec,Uy s0 s1 s2 sa sl sc ra rl rc] V8 _):=lr wB 6 _ _ k _ _ _ _ _ _ _ _ _ _ V8 X.kind bo.kind q9 E;have⟨m0,m1,m2,m3,m4⟩:=c5 bo.box;have⟨b0,b1,b2,b3,b4⟩:=c5 X.box;have bj:G (Bw v5 V8):=b9 bi bi.size qq;have bg:G (Bw w V8):=(HA.keep qq).below;clear X qq aC bi HA;go_wp2_with fail;refine H bE ?_;rintro e y1 ⟨rfl,bq⟩;clear bE m0 m1 m2 m3 m4 b0 b1 b2 b3 b4;have j5:=b9 bj bj.size bq;have ba:=b9 bg bg.size bq;clear bo ca;have cc:=wS H5.2.2.2;have bH:G (WU WV 16 #[Uy g0 r q6 ga gl gc ha hl hc,I U 1] y1 _):=ss g0 r q6 (H5.1.1.below j5) (H5.1.2.below j5) (H5.2.1.below H5.2.2.1 j5) E E;have⟨b0,b1,b2,b3,b4⟩:=c5 ((j5.block _ cc).trans H5.2.2.2);have bk:=a8 ba;clear bq j5 ba bj bg H5;go_wp2_with fail;refine H bH ?_;rintro e y3 ⟨rfl,aI⟩;have HF:=QJ (b9 bk bk.size aI);clear bH aI bk b0 b1 b2 b3 b4;go_wp2;go_ret;exact⟨D,HF⟩
open Go.ChangeShapes Go.WideShapes Go.ChangeAt Go.RowKit Go.Deep
def Ji{p:Nat->α->Prop}:∀n,(∀i,i<n->∃x,p i x)->∃l:List α,J l=n/\∀i (h:i<J l),p i l[i]:=by
 intro n;induction n with
 | zero=>intro _;exact⟨[],D,λi h=>absurd h (XJ _)⟩
 | succ n d=>
  intro h;have⟨l,b,hp⟩:=d (λi hi=>h i E);have⟨x,c⟩:=h n E;refine⟨l++[x],by simp[b],λi hi=>?_⟩;by_cases a:i<J l;·rw[QS a];exact hp i a
  .have:i=J l:=FR;subst this;simp;rw[b];exact c
def CP(h:a7 w b o=Z v):b<w.heap.size:=
 Qx λa=>by
  have:w.heap[b]?=Y:=Array.getElem?_eq_none E
  simp[World.cell?,this]at h
def Hw {enc:W9 × Zv->Hzq} {t e:W9} {x:DataW Hzq × List MemPlace}
  (y:P.underlying t=Z (.slice e)) (r:P.underlying e=Z .string) (q:P.cellsOf e=1) (h:DataW.trod enc P w 0 spare held fuel t [v]=Z x) :
  ∃l:List ZB,cR (λb=>b<w.heap.size) w l v:=by
 rcases open_strs y r q h with ⟨g,-⟩|⟨a,len,cap,m,p,g,-,z,B,j,-,o⟩;·simp at g;subst g;exact⟨[],Y,0,D,gO,λs n=>absurd n zS,λh=>absurd D h⟩
 .simp at g;subst g;have u:len<=m:=by rw[j];split<;>omega
  refine⟨(Ua len).map p,Z a,cap,zS,by simp;unfold WX at *;omega,?_,λk=>?_⟩;·intro s n;obtain⟨i,hi,rfl⟩:=Xo.1 n;exact (o i FR).2
  .have f:0<len:=by
    rcases Xa len with f|f;·subst f;simp at k
    .exact f
   obtain⟨b,off,spot⟩:=a;have d:spot=Y:=by simpa [Addr.add] using World.cell?_spot (o 0 E).1
   subst d;have c:∀i,i<len->a7 w b (off+i)=Z (Zt (p i)):=λi hi=>by have:=(o i E).1;rwa [add_plain]at this
   exact⟨b,off,D,CP (c 0 f),λi hi=>by simp at hi;rw[c i hi];simp⟩
structure wK(P:Program)(tt ks:W9)(fs:Array Field)(ti ts tn:W9):Prop where
 tree:P.underlying tt=Z (.struct fs)
 cells:P.cellsOf tt=5
 o:P.underlying ks=Z (.slice tt)
 int:P.underlying ti=Z (.int U)
 str:P.underlying ts=Z .string
 q:P.underlying tn=Z (.slice ts)
 ci:P.cellsOf ti=1
 cs:P.cellsOf ts=1
 cn:P.cellsOf tn=1
 ck:P.cellsOf ks=1
 f0:∃f,fs[0]?=Z f/\f.type=ti/\f.offset=0
 f1:∃f,fs[1]?=Z f/\f.type=ti/\f.offset=1
 f2:∃f,fs[2]?=Z f/\f.type=ts/\f.offset=2
 f3:∃f,fs[3]?=Z f/\f.type=tn/\f.offset=3
 f4:∃f,fs[4]?=Z f/\f.type=ks/\f.offset=4
 nf:fs.size=5
def BZ {enc:W9 × Zv->Hzq} {tt ks ti ts tn:W9} {fs:Array Field} (c:wK P tt ks fs ti ts tn) :
  ∀d N,d<=N->∀(cs:List Zv)(x:DataW Hzq×List MemPlace),DataW.trod enc P w 0 spare held d tt cs=Z x ->
   ∃(t:T N)(c0 c1 c2 c3 c4:Zv),cs=[c0,c1,c2,c3,c4]/\cT (λb=>b<w.heap.size) w N t c0 c1 c2 c3 c4:=by
 intro d;induction d using Nat.strongRecOn with
 | ind d ih=>
  intro N hN cs x h;obtain⟨xs,n,rfl,-,r,q7,C⟩:=DataW.trod_struct c.tree h;rw[c.cells]at r;match cs,r with
  | [c0,c1,c2,c3,c4],_=>
   have⟨f0,e0,t0,o0⟩:=c.f0;have⟨f1,e1,t1,o1⟩:=c.f1;have⟨f2,e2,t2,o2⟩:=c.f2;have⟨f3,e3,t3,o3⟩:=c.f3;have⟨f4,e4,t4,o4⟩:=c.f4;have get:∀i,i<5->∃y,xs[i]?=Z y:=λi K=>⟨xs[i]'(by rw[q7,c.nf];exact K),Qp _⟩;have r0:=C 0 f0 e0;have r1:=C 1 f1 e1;have r2:=C 2 f2 e2;have r3:=C 3 f3 e3;have r4:=C 4 f4 e4;have⟨y0,g0⟩:=get 0 E;have⟨y1,g1⟩:=get 1 E;have⟨y2,g2⟩:=get 2 E;have⟨y3,g3⟩:=get 3 E;have⟨y4,g4⟩:=get 4 E;rw[t0,o0,c.ci,g0]at r0;rw[t1,o1,c.ci,g1]at r1;rw[t2,o2,c.cs,g2]at r2;rw[t3,o3,c.cn,g3]at r3;rw[t4,o4,c.ck,g4]at r4;simp only[Xn,Xv,X3,WB]at r0 r1 r2 r3 r4;obtain⟨s,q8,-,ws⟩:=DataW.trod_int c.int r0;obtain⟨m,qc,-,wm⟩:=DataW.trod_int c.int r1;obtain⟨xx,ql,-,wx⟩:=DataW.trod_string c.str r2;simp at q8 qc ql;subst q8 qc ql;have⟨l,qq⟩:=Hw c.q c.str c.cs r3;obtain⟨N,rfl⟩:∃M,N=M+1:=⟨N-1,E⟩;rcases DataW.trod_slice c.o r4 with ⟨L,-⟩|⟨a,len,cap,Q,rest,n',rfl,L,-,-,V,R,aa,f,-⟩;·simp at L;subst L;refine⟨(⟨s,m,xx,l,[]⟩:F (T N)),_,_,_,_,_,D,D,D,D,wx,ws,wm,qq,Y,0,D,gO,λh=>absurd D h⟩
   .simp at L;subst L;rw[c.cells]at f;have⟨j0,v,S⟩:=Ji (p:=λi (t:T N)=>∃ g j k o q,w.cell? (a.add (i*5))=Z g/\w.cell? ((a.add (i*5)).add 1)=Z j/\w.cell? ((a.add (i*5)).add 2)=Z k/\w.cell? ((a.add (i*5)).add 3)=Z o /\
      w.cell? ((a.add (i*5)).add 4)=Z q/\cT (λb=>b<w.heap.size) w N t g j k o q) len (λi K=>by
     have qa:=f i K
     rw[Qp E]at qa
     have⟨O,h1,h2⟩:=Option.bind_eq_some_iff.1 qa
     obtain⟨t,g,j,k,o,q,rfl,X⟩:=ih n' E N E O _ h2
     obtain⟨-,-,e⟩:=World.cells?_some h1
     refine⟨t,g,j,k,o,q,?_,?_,?_,?_,?_,X⟩
     .have u:=e 0 E
      rw[show (a.add (i*5)).add 0=a.add (i*5) from by rw[add_add];rfl]at u
      exact u
     .exact e 1 E
     .exact e 2 E
     .exact e 3 E
     .exact e 4 E)
    refine⟨(⟨s,m,xx,l,j0⟩:F (T N)),_,_,_,_,_,D,D,D,D,wx,ws,wm,qq,Z a,cap,by show _=Uc _ (J j0) _;rw[v],by show J j0<=_;rw[v];exact Q1 V R,λW=>?_⟩;have u:0<len:=by
     rcases Xa len with u|u;·exact absurd (Qj (by rw[v,u])) W
     .exact u
    obtain⟨b,off,spot⟩:=a;have z:spot=Y:=by obtain⟨g,j,k,o,q,B,-⟩:=S 0 E;simpa [Addr.add] using World.cell?_spot B
    subst z;refine⟨b,off,D,?_,λi K=>?_⟩;·obtain⟨g,j,k,o,q,B,-⟩:=S 0 E;rw[add_plain]at B;exact CP B
    .have⟨g,j,k,o,q,B,q9,q5,q6,j2,X⟩:=S i K;rw[add_plain]at B q9 q5 q6 j2;rw[add_plain]at q9 q5 q6 j2;exact⟨g,j,k,o,q,B,q9,q5,q6,j2,X⟩
open Go.ChangeShapes Go.WideShapes Go.ChangeAt Go.RowKit
def Tryz.own:ownKnob prog.godebug=Y:=gZ
def Tryz.laidOut:laidOutB WV=true:=gZ
def Tryz.cells_node:prog.cellsOf 26=5:=gZ
def Tryz.cells_nodes:prog.cellsOf 24=1:=gZ
def Tryz.cells_names:prog.cellsOf 23=1:=gZ
def Tryz.cells_int:prog.cellsOf 3=1:=gZ
def Tryz.cells_str:prog.cellsOf 9=1:=gZ
def Tryz.nodeType:∃a,wK WV 26 24 a 3 9 23:=
 ⟨_,underlying26,Tryz.cells_node,underlying24,underlying3,underlying9,underlying23,Tryz.cells_int,Tryz.cells_str,Tryz.cells_names,Tryz.cells_nodes,
  ⟨_,D,D,D⟩,⟨_,D,D,D⟩,⟨_,D,D,D⟩,⟨_,D,D,D⟩,⟨_,D,D,D⟩,D⟩
