import Derived.Test.YtkcollkaldkccaaGreatDoorB3
set_option linter.all false
open List renaming length -> J,length->Uh,range->Ua
open Go.Calls renaming mono -> H
open Go.Value renaming slice->A,int->I,string->Zt,pointer->Zp,agg->Za,ownBlock->Uj,string->Ul,slice->Uc
open Go.IntKind renaming i64->U
open Go.Ending renaming returned->Zr
open Go.Obj renaming cells->Zc
open Option renaming none->Y,some->Z
open Go renaming World->Zw,Value->Zv,maxLen->WX,TypeId->W9,Calls->WU
open ByteArray renaming empty->WT
open Go.Lib renaming decDigits->WZ,itoa->W6
open Go.World renaming frozen?->W7,cell?->WY
open Go.Op renaming bytesLess->Uf
open Go.Lit renaming int->Ud
open Go.Proofs.Tryz renaming prog->WV
open Go.RowKit renaming Hid->G
namespace Go.Proofs.YtkcollkaldkccaaGreatDoor
open Go.RowKit Go.Proofs.Tryz
variable {S S':ZN} {w w' W W1 Wa W2 wr V Wb w2 w3:Zw} {n X M g cap R c m i base Ezq size k i' B:Nat} {v kv c0 c1 c2 nv c3 c4:Zv} {o one:Obj} {xs:List Zv} {a:Act} {b bad:Bool} {so num:Int} {ns names:List ZB} {x s text:ZB} {t e:W9} {l post:List UInt8} {P:Program} {ao:ZA} {ops:Array Oper} {Q:Exit->Act->Zw->Prop} {α β:Type} {env:gk}
def Gi(S:ZN)(w:Zw)(n:Nat)(l:List (ZB×K n))(v:Zv):Prop:=
 ∃(a:ZA)(cap:Nat),v=A a (J l) cap/\J l<=WX /\
  (l≠[]->∃b off,a=b5 b off/\S b/\∀i (h:i<J l),∃c0 c1 c2,a7 w b (off+i*4)=Z (Zt l[i].1)/\a7 w b (off+i*4+1)=Z c0 /\
   a7 w b (off+i*4+2)=Z c1/\a7 w b (off+i*4+3)=Z c2/\l[i].1.size<=WX/\cW S w n l[i].2 c0 c1 c2)
def Gi.keep{l:List (ZB×K n)}(h:Gi S w n l v)(d:gw S w w')(f:∀b,S b->S' b):Gi S' w' n l v:=by
 obtain⟨g,cap,y,u,s⟩:=h;refine⟨g,cap,y,u,λe=>?_⟩;have⟨b,off,r,c,a⟩:=s e;refine⟨b,off,r,f b c,λi t=>?_⟩;have⟨c0,c1,c2,j,k,m,o,q,x⟩:=a i t;exact⟨c0,c1,c2,(d.cell (p:=⟨b,off+i*4,Y⟩) c).trans j,(d.cell (p:=⟨b,off+i*4+1,Y⟩) c).trans k,(d.cell (p:=⟨b,off+i*4+2,Y⟩) c).trans m,
  (d.cell (p:=⟨b,off+i*4+3,Y⟩) c).trans o,q,x.keep d f⟩
def Ov(S:ZN)(X:Nat)(o:Option Nat)(w:Zw)(b:Nat):Prop:=S b∨(X<=b/\b<w.heap.size/\o≠Z b)
def Ov.lt{o:Option Nat}(a:∀b,S b->b<X)(c:X<=w.heap.size):∀b,Ov S X o w b->b<w.heap.size:=by
 intro b h;rcases h with h|h;·have:=a b h;omega
 .exact h.2.1
structure DP(S:ZN)(X M:Nat)(w:Zw)(kv:Zv)(ks:List (K (M+1)))(xs:List Zv):Prop where
 own:w.ownsRow X 177 3 kv (J ks) xs
 at_:∀j (h:j<J ks),∃c0 c1 c2,(xs[j*3]?=Z c0/\xs[j*3+1]?=Z c1/\xs[j*3+2]?=Z c2)/\cW (Ov S X kv.ownBlock w) w (M+1) ks[j] c0 c1 c2
def DP.keep{d:List (K (M+1))}(h:DP S X M w kv d xs)(e:∀b,S b->b<X)(f:X<=w.heap.size)(c:Bw w W):DP S X M W kv d xs:=by
 refine⟨eT h.own λg k=>c.block g (dT h.own g k).2,λj l=>?_⟩;have⟨c0,c1,c2,i,m⟩:=h.at_ j l;refine⟨c0,c1,c2,i,m.keep (λb a=>c.block b (Ov.lt e f b a)) λb a=>?_⟩;rcases a with a|a;·exact .inl a
 .exact .inr ⟨a.1,Qn a.2.1 c.size,a.2.2⟩
def DP.more {d:List (K (M+1))} {k:K (M+1)} (h:DP S X M W1 kv d xs) (R:∀ b,S b->b<X) (_hX:X<=W1.heap.size)
  (qa:cW (Ov S X kv.ownBlock W1) W1 (M+1) k c0 c1 c2) (t:Wa.heap=W1.heap.push one)
  (s:W2.ownsRow X 177 3 (A (b5 g 0) (J d+1) cap) (J d+1) (xs++[c0,c1,c2])) (i:Wa.grownBy W2 kv.ownBlock) (u:kv.ownBlock=Z g∨g=W1.heap.size+1) :
  DP S X M W2 (A (b5 g 0) (J d+1) cap) (d++[k]) (xs++[c0,c1,c2]):=by
 have F:W2.heap.size ≥ W1.heap.size+1:=by have:=i.size;rw[t]at this;simp at this;omega
 have y:=dT h.own;have L:∀b,b<W1.heap.size->kv.ownBlock≠Z b->W2.heap[b]?=W1.heap[b]?:=λb a z=>by rw[i.block b (by rw[t];simp;omega) (λe=>z e.symm),t,Array.getElem?_push_lt a,ZT a]
 have B:=h.own.1;have q:∀b,kv.ownBlock≠Z b->b<W1.heap.size->(Uc (b5 g 0) (J d+1) cap).ownBlock≠Z b:=by
  intro b Q qc e;have e:g=b:=by simpa [Uj] using e
  rcases u with C|C;·exact Q (by rw[C,e])
  .omega
 have l:∀ {x:K (M+1)} {m n p:Zv},cW (Ov S X kv.ownBlock W1) W1 (M+1) x m n p->cW (Ov S X (Uc (b5 g 0) (J d+1) cap).ownBlock W2) W2 (M+1) x m n p:=by
  intro x m n p ql;refine ql.keep (λb a=>?_) λb a=>?_
  .rcases a with a|a;·have:=R b a;exact L b E λe=>by have:=y b e;omega
   .exact L b a.2.1 a.2.2
  .rcases a with a|a;·exact .inl a
   .exact .inr ⟨a.1,by have:=a.2.1;omega,q b a.2.2 E⟩
 refine⟨by rw[Qi,QM];exact s,λj V=>?_⟩;by_cases r:j<J d
 .have⟨m,n,p,⟨N,O,P⟩,T⟩:=h.at_ j r;have c:∀o v,o<3->xs[j*3+o]?=Z v->(xs++[c0,c1,c2])[j*3+o]?=Z v:=λo v W h=>by rw[QA E];exact h
  refine⟨m,n,p,⟨c 0 _ E N,c 1 _ E O,c 2 _ E P⟩,?_⟩;rw[QS r];exact l T
 .have w:j=J d:=by simp at V;omega
  subst w;have f:∀o v,o<3->[c0,c1,c2][o]?=Z v->(xs++[c0,c1,c2])[J d*3+o]?=Z v:=λo v W h=>by rw[Qu E,B,XR];exact h
  refine⟨c0,c1,c2,⟨f 0 _ E D,f 1 _ E D,f 2 _ E D⟩,?_⟩;have:(d++[k])[J d]=k:=zS;rw[this];exact l qa
def DP.row {j:List (K (M+1))} (h:DP S X M w kv j xs) (l:J j<=WX) :
  kM (Ov S X Y w) w (cW (Ov S X Y w) w (M+1)) j kv:=by
 have u:=dT h.own;rcases h.own.2 with ⟨c,k⟩|⟨g,cap,d,c,a,s,z,y,C,x⟩;·exact⟨Y,0,by rw[c,k],l,λf=>absurd (Zg.1 k) f⟩
 .refine⟨Z ⟨g,0,Y⟩,cap,c,l,λ_=>⟨g,0,D,.inr ⟨a,(u g (by rw[c];rfl)).2,zS⟩,λi t=>?_⟩⟩;have⟨c0,c1,c2,⟨n,p,q⟩,r⟩:=h.at_ i t;have e:∀o v,o<3->xs[i*3+o]?=Z v->w.cell? ⟨g,0+i*3+o,Y⟩=Z v:=λo v B m=>by rw[cell_of_row w g (0+i*3+o) d _ _ s];rw[<- x,Xz E]at m;simpa using m
  refine⟨c0,c1,c2,e 0 _ E n,e 1 _ E p,e 2 _ E q,r.keep ik λb a=>?_⟩;rcases a with a|a;·exact .inl a
  .exact .inr ⟨a.1,a.2.1,zS⟩
structure pS(R X:Nat)(w w':Zw):Prop where
 os:w'.os=w.os
 tape:w'.tape=w.tape
 output:w'.output=w.output
 size:w.heap.size<=w'.heap.size
 block:∀k,k<w.heap.size->k≠R->k≠X->w'.heap[k]?=w.heap[k]?
def pS.refl(R X:Nat)(w:Zw):pS R X w w:=⟨D,D,D,E,zS⟩
def pS.near{a b c:Zw}(h:pS R X a b)(k:cH R b c):pS R X a c:=
 ⟨k.os.trans h.os,k.tape.trans h.tape,k.output.trans h.output,Q1 h.size k.size,λi e d f=>(k.block i (Qn e h.size) d).trans (h.block i e d f)⟩
structure m8(R X n:Nat)(w wr:Zw)(so:Int)(ns:List ZB)(ks:List (K n))(nv kv:Zv):Prop where
 near:pS R X w wr
 box:wr.heap[X]?=Z (Zc #[I U so,nv,kv] 177 (0,0))
 q:wr.ownsRow w.heap.size 9 1 nv (J ns) (ns.map Zt)
 short:∀s,s∈ns->s.size<=10000
 o:∃xs,wr.ownsRow w.heap.size 177 3 kv (J ks) xs/\∀j (h:j<J ks),∃c0 c1 c2,(xs[j*3]?=Z c0/\xs[j*3+1]?=Z c1/\xs[j*3+2]?=Z c2)/\cW (Fr w.heap.size nv kv wr.heap.size) wr n ks[j] c0 c1 c2
 apart:∀b,nv.ownBlock=Z b->kv.ownBlock≠Z b
def m8.lt{a:List (K n)}(h:m8 R X n w wr so ns a nv kv):X<wr.heap.size:=(Qe.1 h.box).1
def m8.keep{f:List (K n)}(h:m8 R X n w wr so ns f nv kv)(a:R≠X)(l:R<w.heap.size)(hn:cH R wr W):m8 R X n w W so ns f nv kv:=by
 have m:=h.lt;have hs:∀b,b≠R->b<wr.heap.size->W.heap[b]?=wr.heap[b]?:=λb i k=>hn.block b k i;have⟨o,d,hk⟩:=h.o;refine⟨h.near.near hn,by rw[hs X (λe=>a e.symm) m];exact h.box,cV h.q λg c=>?_,h.short,⟨o,cV d λg c=>?_,λj hj=>?_⟩,h.apart⟩;·have:=cO h.q g c;exact hs g E E
 .have:=cO d g c;exact hs g E E
 .exact YG
def m8.name {f:List (K n)} (h:m8 R X n w W so ns f nv kv) (k:X<w.heap.size)
  (ha:Wa.heap=W.heap.push one) (ho:Wa.os=W.os/\Wa.tape=W.tape/\Wa.output=W.output) (hx:x.size<=10000)
  (qd:W2.ownsRow w.heap.size 9 1 (A (b5 g 0) (J ns+1) cap) (J ns+1) (ns.map Zt++[Zt x])) (qg:Wa.grownBy W2 nv.ownBlock) (qy:nv.ownBlock=Z g∨g=W.heap.size+1) :
  m8 R X n w (W2.setCell ⟨X,1,Y⟩ (A (b5 g 0) (J ns+1) cap)) so (ns++[x]) f (A (b5 g 0) (J ns+1) cap) kv:=by
 have i:=h.lt;have o:W2.heap.size ≥ W.heap.size+1:=pP;have qS:=cO h.q;have l:=cO qd g D;have q:∀b,b<W.heap.size->nv.ownBlock≠Z b->W2.heap[b]?=W.heap[b]?:=λb hb qh=>by exact Gc
 have qs:∀b,b≠X->(W2.setCell ⟨X,1,Y⟩ (A (b5 g 0) (J ns+1) cap)).heap[b]?=W2.heap[b]?:=λb hb=>Qr _ _ _ _ hb;have qo:(W2.setCell ⟨X,1,Y⟩ (A (b5 g 0) (J ns+1) cap)).heap.size=W2.heap.size:=zS;have d:nv.ownBlock≠Z X:=λe=>Co;have qF:=(q X i d).trans h.box;have⟨m,c,hk⟩:=h.o;have qn:=cO c;refine⟨⟨?_,?_,?_,JR,λb hb qh a=>?_⟩,?_,?_,?_,⟨m,cV c λg' qC=>?_,λj hj=>?_⟩,λb hb=>?_⟩;·exact F0
 .exact FX
 .exact FY
 .have hs:=h.near.size;rw[qs b a,q b E (λe=>tP)];exact h.near.block b hb qh a
 .exact ox
 .rw[Qi,QM,Q8,XV];exact F1
 .exact FQ
 .exact MP
 .exact Yr
 .exact FC
def m8.kid {ks:List (K n)} {t:K n} (h0:m8 R X n w W so ns ks nv kv) (i:R≠X) (m:X<w.heap.size) (k:R<w.heap.size)
  (hn:cH R W W1) (ht:cW (λb=>W.heap.size<=b/\b<W1.heap.size) W1 n t c0 c1 c2)
  (ha:Wa.heap=W1.heap.push one) (ho:Wa.os=W1.os/\Wa.tape=W1.tape/\Wa.output=W1.output) 
  (c:W.ownsRow w.heap.size 177 3 kv (J ks) xs) (hk:∀j (h:j<J ks),∃c0 c1 c2,(xs[j*3]?=Z c0/\xs[j*3+1]?=Z c1/\xs[j*3+2]?=Z c2)/\cW (Fr w.heap.size nv kv W.heap.size) W n ks[j] c0 c1 c2)
  (qd:W2.ownsRow w.heap.size 177 3 (A (b5 g 0) (J ks+1) cap) (J ks+1) (xs++[c0,c1,c2])) (qg:Wa.grownBy W2 kv.ownBlock) (qy:kv.ownBlock=Z g∨g=W1.heap.size+1) :
  m8 R X n w (W2.setCell ⟨X,2,Y⟩ (A (b5 g 0) (J ks+1) cap)) so ns (ks++[t]) nv (A (b5 g 0) (J ks+1) cap):=by
 have l:=h0.lt;have r:=h0.near.size;have s:=hn.size;have x:W2.heap.size ≥ W1.heap.size+1:=pP;have qS:=cO h0.q;have qn:=cO c;have p:=cO qd g D;have q1:∀b,b<W1.heap.size->kv.ownBlock≠Z b->W2.heap[b]?=W1.heap[b]?:=λb hb qh=>by exact Gc
 have q:∀b,b<W.heap.size->b≠R->kv.ownBlock≠Z b->W2.heap[b]?=W.heap[b]?:=λb hb f qh=>by rw[q1 b E qh,hn.block b hb f]
 have qs:∀b,b≠X->(W2.setCell ⟨X,2,Y⟩ (A (b5 g 0) (J ks+1) cap)).heap[b]?=W2.heap[b]?:=λb hb=>Qr _ _ _ _ hb;have qo:(W2.setCell ⟨X,2,Y⟩ (A (b5 g 0) (J ks+1) cap)).heap.size=W2.heap.size:=zS;have d:kv.ownBlock≠Z X:=λe=>FM;have qF:=(q X l E d).trans h0.box;have qI:J xs=J ks*3:=c.1;refine⟨⟨?_,?_,?_,PW,λb hb qh a=>?_⟩,?_,cV h0.q λg' qC=>?_,h0.short,⟨xs++[c0,c1,c2],?_,λj hj=>?_⟩,λb hb=>?_⟩;·show W2.os=w.os;exact FA
 .show W2.tape=w.tape;exact Fw
 .show W2.output=w.output;exact Fy
 .have u:=h0.near.size;rw[qs b a,q b E qh nN];exact h0.near.block b hb qh a
 .exact ox
 .have:=qS g' qC;rw[qs g' E,q g' this.2 E (h0.apart g' qC)]
 .rw[Qi,QM];exact F1
 .have ji:∀ b,kv.ownBlock≠Z b->b<W1.heap.size->(Uc (b5 g 0) (J ks+1) cap).ownBlock≠Z b:=by exact P2
  exact qcM
 .exact FV
def m8.start(h:w.heap[X]?=Z (Zc (UE so Y 0 0 Y 0 0) 177 (0,0))):m8 R X m w w so [] [] (A Y 0 0) (A Y 0 0):=
 ⟨pS.refl _ _ _,h,QV _ _ _ _,zS,⟨[],QV _ _ _ _,zS⟩,zC⟩
def mH(h:Bw w V)(o:Obj):Bw w (V.alloc o):=h.alloc h.size o
def CO(h:Bw w V.drew)(o:Obj):Bw w (V.alloc o).drew:=by have a:Bw w V:=⟨h.os,h.tape,h.output,h.size,h.block⟩;exact (mH a o).drew
def iM{x:Array Zv}{N:Nat}(h:w.heap[N]?=Z (Zc x t (0,0)))(i:Nat)(a:x[i]?=Z v):a7 w N i=Z v:=by simp[WY,h,a]
def l4(h:Bw W V.drew):Bw W (V.alloc o).drew:=CO h o
def I9{l:List ZB}(h:ee l=true)(a:i<J l):l[i].size<=8:=by have:=Qo.1 h i (Q7.2 a);simp only[gn,Qc,c8,Qk]at this;have b:=this.1.1.1.2;rwa [Qw,Qp a,Xm]at b
def rE(a:w.heap[Ezq]?=Z (Zc #[] e (0,0)))(b:base<=Ezq):w.ownsRow base e size (A (b5 Ezq 0) 0 0) 0 []:=
 ⟨zS,.inr ⟨Ezq,0,#[],D,b,a,QD _,Q9 _,zS,zS⟩⟩
def Fc (C:W9) {i:TypeInfo} {z:Zv} {a:Nat} (B:P.underlying t=Z (.slice e)) (v:P.info? e=Z i) (S:i.zero=Z z)
  (f:i.size=size) (o:i.bytes=a) (q:z.cells.size=size) (p:0<size)
  (l:w.heap[Ezq]?=Z (Zc #[] e (0,0))) (s:base<=Ezq) (c:Nat) {news:List Zv} (hl:J news=m*size) (d:0<m->∃ad,ao=Z ad/\∀j u,news[j]?=Z u->w.cell? (ad.add j)=Z u) (K:∀u∈news,u.oneCell'=true)
  (O:m<=WX) (b:m*a<=140737488355328) :
  ∃g cap k,(Builtin.append_ #[t,t] C #[A (b5 Ezq 0) 0 0,A ao m c]).run P w=.ok (A (b5 g 0) m cap) k /\
   k.ownsRow base e size (A (b5 g 0) m cap) m news/\w.grownBy k (Z Ezq)/\(g=Ezq∨g=w.heap.size)/\g<k.heap.size:=by
 have n:Ezq<w.heap.size:=(Qe.1 l).1;rcases Xa m with rfl|x;·have R:news=[]:=Qj pd;subst R;refine⟨Ezq,0,w,?_,rE l s,⟨D,D,D,QD _,λ_ _ _=>D⟩,.inl D,n⟩;cases ao<;>simp[Builtin.append_,run_underlying B,sizeOf,typeInfo,v,Builtin.lenOf,Builtin.firstCells,loadCells,loadCellsFrom,storeCells]
 .obtain⟨ad,rfl,Q⟩:=d x;have⟨g,cap,k,y,r,L,M,N⟩:=run_append_lies (P:=P) w t C base e i z size a B v S f o q p (A (b5 Ezq 0) 0 0) 0 [] (rE l s) ad m c news hl Q K x E (by simpa using b) E w.heap.size D;rw[ZS]at y r;refine⟨g,cap,k,y,r,L,M.imp (λh=>?_) id,N⟩;simpa [Uj] using h.symm
def pg (w:Zw) {rest:List Oper} {o:Oper} (r:o.guard=Y) (s x:Operand) (t:W9)
  (X:o.op=.call { callee:=.builtin .append,args:=#[s,x],argTypes:=#[t,t] })
  (base:Nat) (e:W9) (i:TypeInfo) (z:Zv) (size b:Nat) (qa:P.underlying t=Z (.slice e)) (V:P.info? e=Z i) (E:i.zero=Z z)
  (k:i.size=size) (q:i.bytes=b) (y:z.cells.size=size) (v:0<size)
  (Ezq:Nat) (qc:a.eval s=A (b5 Ezq 0) 0 0) (R:w.heap[Ezq]?=Z (Zc #[] e (0,0))) (T:base<=Ezq) (B:ZA) (m c:Nat) (news:List Zv) (D:a.eval x=A B m c) (W:J news=m*size) (f:0<m->∃ad,B=Z ad/\∀j u,news[j]?=Z u->w.cell? (ad.add j)=Z u) (C:∀u∈news,u.oneCell'=true)
  (p:m<=WX) (d:m*b<=140737488355328) (n:Nat) (S:w.heap.size=n)
  (h:∀g cap l,l.ownsRow base e size (A (b5 g 0) m cap) m news->w.grownBy l (Z Ezq)->(g=Ezq∨g=n)->g<l.heap.size->wpList P ops Q rest (a.put o.dst (A (b5 g 0) m cap)) l):wpList P ops Q (o :: rest) a w:=by have⟨g,cap,l,F,L,M,N,O⟩:=Fc (P:=P) o.type qa V E k q y v R T c W f C p d;refine wpList_plain r λK hK=>?_;unfold Oper.wp execOp;simp only[X,resolve,invoke,builtin,Sem.run_bind,Sem.run_pure,WI,WN,Xx,Z8,qc,D,F];exact hK _ _ (h g cap l L M (by rw[<- S];exact N) O)
def Ca {l:List ZB} (t:J l=n) (h:cR S w l (A ao n c)) (y:gw S w w') :
  J (l.map Ul)=n*1/\(∀u∈l.map Ul,u.oneCell'=true)/\(0<n->∃ad,ao=Z ad/\∀j u,(l.map Ul)[j]?=Z u->w'.cell? (ad.add j)=Z u):=by
 subst t;obtain⟨i,m,he,-,-,r⟩:=h;refine⟨zS,λu f=>?_,λhp=>?_⟩;·obtain⟨x,-,rfl⟩:=Xo.1 f;rfl
 .have⟨b,off,q,o,d⟩:=r (λe=>by rw[e]at hp;simp at hp);have k:ao=i:=S3;refine⟨⟨b,off,Y⟩,k.trans q,λj u f=>?_⟩;obtain⟨g,rfl⟩:∃g:j<J l,Ul l[j]=u:=by
   rw[Xg]at f;rcases hlj:l[j]? with _|s;·rw[hlj]at f;cases f
   .rw[hlj]at f;have⟨g,e⟩:=QN.1 hlj;exact⟨g,by rw[e];simpa using f⟩
  rw[XC];exact (y.cell (p:=⟨b,off+j,Y⟩) o).trans (d j g)
def kX (w:Zw) {o:Oper} {K:Act->Zw->Prop} {p:Prop} (v:o.guard=Y) (s x:Operand) (t:W9)
  (qc:o.op=.call { callee:=.builtin .append,args:=#[s,x],argTypes:=#[t,t] })
  (base:Nat) (e:W9) (i:TypeInfo) (z:Zv) (size b:Nat) (F:P.underlying t=Z (.slice e)) (W:P.info? e=Z i) (D:i.zero=Z z)
  (f:i.size=size) (r:i.bytes=b) (B:z.cells.size=size) (y:0<size)
  (Ezq:Nat) (ql:a.eval s=A (b5 Ezq 0) 0 0) (S:w.heap[Ezq]?=Z (Zc #[] e (0,0))) (V:base<=Ezq) (C:ZA) (m c:Nat) (news:List Zv) (q5:a.eval x=A C m c) (X:J news=m*size) (d:0<m->∃ad,C=Z ad/\∀j u,news[j]?=Z u->w.cell? (ad.add j)=Z u) (L:∀u∈news,u.oneCell'=true)
  (q:m<=WX) (n:m*b<=140737488355328) (l:Nat) (T:w.heap.size=l)
  (h:∀g cap k,k.ownsRow base e size (A (b5 g 0) m cap) m news->w.grownBy k (Z Ezq)->(g=Ezq∨g=l)->g<k.heap.size->K (a.put o.dst (A (b5 g 0) m cap)) k) :
  if Region.wanted o (yielded ops a.tmps)=true then Oper.wp P o a w K Q else p:=by
 have qa:Region.wanted o (yielded ops a.tmps)=true:=by simp[Region.wanted,v]
 rw[Qm qa];have⟨g,cap,k,qq,M,N,O,R⟩:=Fc (P:=P) o.type F W D f r B y S V c X d L q E;unfold Oper.wp execOp;simp only[qc,resolve,invoke,builtin,Sem.run_bind,Sem.run_pure,WI,WN,Xx,Z8,ql,q5,qq];exact h g cap k M N (by rw[<- T];exact O) R
set_option maxRecDepth 100000
set_option maxHeartbeats 16000000
def fM(S:ZN)(w:Zw)(n:Nat)(l:List (ZB×T n))(v:Zv):Prop:=
 ∃(a:ZA)(cap:Nat),v=A a (J l) cap/\J l<=WX /\
  (l≠[]->∃b off,a=b5 b off/\S b/\∀i (h:i<J l),∃c0 c1 c2 c3 c4,a7 w b (off+i*6)=Z (Zt l[i].1)/\a7 w b (off+i*6+1)=Z c0 /\
   a7 w b (off+i*6+2)=Z c1/\a7 w b (off+i*6+3)=Z c2/\a7 w b (off+i*6+4)=Z c3/\a7 w b (off+i*6+5)=Z c4/\l[i].1.size<=WX/\b8 S w n l[i].2 c0 c1 c2 c3 c4)
def fM.keep{l:List (ZB×T n)}(h:fM S w n l v)(c:gw S w w')(f:∀b,S b->S' b):fM S' w' n l v:=by
 obtain⟨g,cap,B,y,u⟩:=h;refine⟨g,cap,B,y,λe=>?_⟩;have⟨b,off,t,a,d⟩:=u e;refine⟨b,off,t,f b a,λi x=>?_⟩;have⟨c0,c1,c2,c3,c4,j,k,m,o,r,s,q,z⟩:=d i x;exact⟨c0,c1,c2,c3,c4,(c.cell (p:=⟨b,off+i*6,Y⟩) a).trans j,(c.cell (p:=⟨b,off+i*6+1,Y⟩) a).trans k,(c.cell (p:=⟨b,off+i*6+2,Y⟩) a).trans m,
  (c.cell (p:=⟨b,off+i*6+3,Y⟩) a).trans o,(c.cell (p:=⟨b,off+i*6+4,Y⟩) a).trans r,(c.cell (p:=⟨b,off+i*6+5,Y⟩) a).trans s,q,z.keep c f⟩
def Tryz.info_bnd:(prog.info? 59).map (λi=>(i.zero,i.size,i.bytes))=Z (Z (Za #[Zt ⟨#[]⟩,I U 0,I U 0,Zt ⟨#[]⟩,A Y 0 0,A Y 0 0]),6,96):=gZ
def SY {l:List (ZB × T m)} (Q:J l=n) (h:fM S w m l (A ao n c)) :
  ∃f:List Zv,J f=n*6/\(∀u∈f,u.oneCell'=true)/\(∀C,gw S w C->0<n->∃ad,ao=Z ad/\∀j u,f[j]?=Z u->C.cell? (ad.add j)=Z u) /\
   ∀j (h:j<J l),∃c0 c1 c2 c3 c4,(f[j*6]?=Z (Zt l[j].1)/\f[j*6+1]?=Z c0/\f[j*6+2]?=Z c1/\f[j*6+3]?=Z c2/\f[j*6+4]?=Z c3/\f[j*6+5]?=Z c4)/\l[j].1.size<=WX/\b8 S w m l[j].2 c0 c1 c2 c3 c4:=by
 subst Q;obtain⟨q,K,he,-,P⟩:=h;by_cases qh:l=[];·exact Ya
 have⟨b,off,O,N,d⟩:=P qh;have z:ao=q:=S3;have g:∀j,j<J l*6->∃u,a7 w b (off+j)=Z u/\u.oneCell'=true:=λj hj=>by
  obtain⟨c0,c1,c2,c3,c4,e,r,s,t,x,y,-,B⟩:=d (j / 6) E;obtain⟨_,_,_,_,_,_,_,_,_,rfl,rfl,rfl,rfl,rfl⟩:=B.shape;have i:j % 6=0∨j % 6=1∨j % 6=2∨j % 6=3∨j % 6=4∨j % 6=5:=E;rcases i with i|i|i|i|i|i;·rw[show off+j=off+j / 6*6 by omega];exact⟨_,e,D⟩
  .rw[show off+j=off+j / 6*6+1 by omega];exact⟨_,r,D⟩
  .rw[show off+j=off+j / 6*6+2 by omega];exact⟨_,s,D⟩
  .rw[show off+j=off+j / 6*6+3 by omega];exact⟨_,t,D⟩
  .rw[show off+j=off+j / 6*6+4 by omega];exact⟨_,x,D⟩
  .rw[show off+j=off+j / 6*6+5 by omega];exact⟨_,y,D⟩
 have M:∀j u,((Ua (J l*6)).map λj=>(a7 w b (off+j)).getD (A Y 0 0))[j]?=Z u->j<J l*6/\a7 w b (off+j)=Z u:=λj u hu=>by
  rw[Xg]at hu;by_cases hj:j<J l*6;·rw[ZG hj]at hu;obtain⟨v,o,-⟩:=g j hj;refine⟨hj,?_⟩;simp only[ZZ,o,Xm]at hu;rw[o,<- hu]
  .rw[Xs (by simpa using hj)]at hu;cases hu
 have k:∀j u,j<J l*6->a7 w b (off+j)=Z u->((Ua (J l*6)).map λj=>(a7 w b (off+j)).getD (A Y 0 0))[j]?=Z u:=λj u hj hu=>by rw[Xg,ZG hj];simp[hu]
 refine⟨(Ua (J l*6)).map λj=>(a7 w b (off+j)).getD (A Y 0 0),zS,λu hu=>?_,λC V _=>⟨⟨b,off,Y⟩,z.trans O,λj u hu=>?_⟩,λj hj=>?_⟩
 .have⟨j,hj,e⟩:=QT hu;have L:=M j u (by rw[Qp hj,e]);have⟨v,o,R⟩:=g j L.1;have:=L.2;rw[o]at this;cases this
  exact R
 .have⟨hj,hu⟩:=M j u hu;rw[XC];exact (V.cell (p:=⟨b,off+j,Y⟩) N).trans hu
 .have⟨c0,c1,c2,c3,c4,e,r,s,t,x,y,W,B⟩:=d j hj;exact⟨c0,c1,c2,c3,c4,⟨k _ _ E e,k _ _ E r,k _ _ E s,k _ _ E t,k _ _ E x,k _ _ E y⟩,W,B⟩
def qaX {l:List (ZB × T m)} {k:T m} {q r s u y:Zv} (qa:Bd S w) (F:Bw w V) (W:J l=n) (hn:n<=3000000) (hx:x.size<=WX) (q7:b8 S w m k q r s u y)
  (p:V.ownsRow w.heap.size 59 6 (A (Z ⟨g,0,Y⟩) (n+1) cap) (n+1) (xs++[Zt x,q,r,s,u,y])) (X:J xs=n*6)
  (Q:∀j (h:j<J l),∃c0 c1 c2 c3 c4,(xs[j*6]?=Z (Zt l[j].1)/\xs[j*6+1]?=Z c0/\xs[j*6+2]?=Z c1/\xs[j*6+3]?=Z c2/\xs[j*6+4]?=Z c3/\xs[j*6+5]?=Z c4)/\l[j].1.size<=WX/\b8 S w m l[j].2 c0 c1 c2 c3 c4) :
  fM (Ov S w.heap.size Y V) V m (l++[(x,k)]) (A (Z ⟨g,0,Y⟩) (n+1) cap):=by
 have O:=dT p g D;have f:∀ {t:T m} {c0 c1 c2 c3 c4:Zv},b8 S w m t c0 c1 c2 c3 c4->b8 (Ov S w.heap.size Y V) V m t c0 c1 c2 c3 c4:=λh=>h.keep (b6 F qa) λb K=>.inl K;rcases p.2 with ⟨z,h0⟩|⟨j0,R,C,z,K,qc,ql,hm,hz,ht⟩;·cases z
 .have L:g=j0:=by simpa using Xc (λv=>match v with|Uc (Z a) _ _=>a.block|_=>0) z
  subst L;have d:∀j v,(xs++[Zt x,q,r,s,u,y])[j]?=Z v->j<(n+1)*6->V.cell? ⟨g,0+j,Y⟩=Z v:=λj v z hj=>by rw[cell_of_row V g (0+j) C _ _ qc];rw[<- ht,Xz E]at z;simpa using z
  refine⟨_,_,by rw[Qi,W];rfl,by rw[Qi,W];show n+1<=_;unfold WX;omega,λ_=>⟨g,0,D,.inr ⟨K,O.2,zS⟩,λi hi=>?_⟩⟩;by_cases B:i<J l
  .have⟨c0,c1,c2,c3,c4,⟨e,q6,q9,q8,qq,q5⟩,P,N⟩:=Q i B;rw[QS B];have c:∀o v,o<6->xs[i*6+o]?=Z v->(xs++[Zt x,q,r,s,u,y])[i*6+o]?=Z v:=λo v ho h=>by rw[QA E];exact h
   exact⟨c0,c1,c2,c3,c4,d _ _ (c 0 _ E e) E,d _ _ (c 1 _ E q6) E,d _ _ (c 2 _ E q9) E,d _ _ (c 3 _ E q8) E,d _ _ (c 4 _ E qq) E,d _ _ (c 5 _ E q5) E,P,f N⟩
  .have M:i=J l:=FR;subst M;have e:(l++[(x,k)])[J l]'hi=(x,k):=zS;rw[e];have c:∀o v,o<6->[Ul x,q,r,s,u,y][o]?=Z v->(xs++[Zt x,q,r,s,u,y])[J l*6+o]?=Z v:=λo v ho h=>by rw[Qu E,show J l*6+o-J xs=o by omega];exact h
   exact⟨q,r,s,u,y,d _ _ (c 0 _ E D) E,d _ _ (c 1 _ E D) E,d _ _ (c 2 _ E D) E,d _ _ (c 3 _ E D) E,d _ _ (c 4 _ E D) E,d _ _ (c 5 _ E D) E,hx,f q7⟩
def Nq(S:ZN)(m:Nat)(l:List (ZB×T m))(w:Zw)(e:Ending)(w':Zw):Prop:=
 Bw w w' /\ ∃v,e=Zr v/\fM (Ov S w.heap.size Y w') w' m l v
def mM {l:List (ZB × T m)} {k:T m} (hv:fM S w m l v) (hk:b8 S w m k c0 c1 c2 c3 c4) (hB:Bd S w) (hn:J l<=3000000) (hx:x.size<=WX) :
  WU WV 79 #[v,Zt x,Za #[c0,c1,c2,c3,c4]] w (Nq S m (l++[(x,k)]) w):=by
 obtain⟨i,o,p,q,s,r,t,z,y,rfl,rfl,rfl,rfl,rfl⟩:=hk.shape;obtain⟨ao,N,rfl,-,-⟩:=id hv;obtain⟨n,P⟩:∃n,J l=n:=⟨_,D⟩;rw[P]at hv hn ⊢;have⟨R,F,ac,ae,af⟩:=SY P hv;have⟨W,hW⟩:=fk (w.alloc (UA i o p q s r t z y));have qq:Bw w W:=Ag;have Q:=nT.new w (I U i) (I U o) (Zt p) (A q s r) (A t z y) 31;rw[<- hW]at Q;have aj:w.heap.size+1<=W.heap.size:=pR;have⟨z0,z1,z2,z3,z4⟩:=id Q;have⟨M,ql,ag,ah,ai⟩:=QY Tryz.info_bnd;have e:G (_/\_/\_/\_):=⟨ql,ag,ah,ai⟩;have q9:G (∀V,Bw W V->(0<n->∃ad,ao=Z ad/\∀j u,R[j]?=Z u->V.cell? (ad.add j)=Z u)):=λV qc=>ae V (b6 (qq.trans (qc.mono E)) hB);have X:=a8 ac;have q6:=a8 F;have jQ:G (∀(V:Zw)(g cap:Nat),Bw W V->V.ownsRow w.heap.size 59 6 (A (b5 g 0) (n+1) cap) (n+1) (R++[Zt x,I U i,I U o,Zt p,A q s r,A t z y])->Nq S m (l++[(x,k)]) w (Zr (A (b5 g 0) (n+1) cap)) V):=λV g cap qc d=>by have h2:=qq.trans (qc.mono E);exact⟨h2,_,D,qaX hB h2 P hn hx hk d F af⟩
 have HC:G (∀V,Bw W V->N5 V w.heap.size i o p q s r t z y):=λV qc=>by have:=Q.keep qc;exact⟨this.c0,this.c1,this.c2,this.c3,this.c4⟩
 have qa:Bw W W.drew:=(Qg _ _).drew;clear ql ag ah ai hv hk hB ae af F ac qq Q P hx;go_in;go_wp2_with fail;rw[<- hW];clear hW;refine Qz (S:=(λw'=>N5 w' w.heap.size i o p q s r t z y)) zK (by exact⟨z0,z1,z2,z3,z4⟩) (λhHeld=>?_);refine t4 1 3 4 5 ?_;refine XG (rs:=[0,6]) zK zS ?_;refine QO D (λK hK=>?_) (QO D (λK hK=>?_) Xy)
 .go_simp;refine hK.out _ _ (HC _ (l4 qa)) (λhHeld=>?_);clear hK K;obtain⟨h,f⟩:∃V,V=(W.alloc (Zc #[] 59)).drew:=⟨_,D⟩;rw[<- f];have q5:Bw W h:=by rw[f];exact l4 qa
  have eA:h.heap[W.heap.size]?=Z (Zc #[] 59 (0,0)):=by rw[f];exact Qh W _
  have sA:W.heap.size+1<=h.heap.size:=by rw[f];show _<=(W.alloc _).heap.size;simp
  clear f;refine XG (rs:=[2,6]) zK zS ?_;refine QO D (λK hK=>?_) (QO D (λK hK=>?_) Xy)
  .refine kX h cU (.tmp 7) (.tmp 8) 34 cU w.heap.size 59 M _ 6 96 underlying34 e.1 e.2.1 e.2.2.1 e.2.2.2 D zC (W.heap.size) cU eA E ao n N R cU q6 (q9 _ q5) X zL E h.heap.size D ?_;intro g cap L d a O aa;have C:Bw W L:=q5.grown a E zS;have ab:W.heap.size+1<=L.heap.size:=by have:=a.size;omega
   have q7:W.heap.size<=g:=E;refine hK.out _ _ (HC _ C) (λhHeld=>?_);clear hK K a O;refine ic 6 λK hK=>?_;go_simp;have c:=mH C (Zc #[Zt x,I U i,I U o,Zt p,A q s r,A t z y] 59);refine hK.out _ _ (HC _ c) (λhHeld=>?_);clear hK K;obtain⟨B,b⟩:∃V,V=L.alloc (Zc #[Zt x,I U i,I U o,Zt p,A q s r,A t z y] 59):=⟨_,D⟩;rw[<- b];rw[<- b]at c;have eB:B.heap[L.heap.size]?=Z (Zc #[Zt x,I U i,I U o,Zt p,A q s r,A t z y] 59 (0,0)):=by rw[b];exact Qh L _
   have oB:B.ownsRow w.heap.size 59 6 (A (b5 g 0) n cap) n R:=by rw[b];exact d.alloc _
   have sB:L.heap.size<=B.heap.size:=by rw[b];simp
   clear b d;refine ic 7 λK hK=>?_;refine Xd B cU (.tmp 9) (.tmp 13) 34 cU w.heap.size 59 M _ 6 96 underlying34 e.1 e.2.1 e.2.2.1 e.2.2.2 D zC (A (b5 g 0) n cap) n R cU oB ⟨L.heap.size,0,Y⟩ 1 1 [Zt x,I U i,I U o,Zt p,A q s r,A t z y] cU D (QB eB) iz zC fA E E B.heap.size D ?_;intro g2 ja w6 qG qD jw jj;have js:Bw W w6:=c.grown qD E PI;exact qaZ
  .go_simp;have c:=mH q5 (Zc #[Zt x,I U i,I U o,Zt p,A q s r,A t z y] 59);refine hK.out _ _ (HC _ c) (λhHeld=>?_);clear hK K;obtain⟨B,b⟩:∃V,V=h.alloc (Zc #[Zt x,I U i,I U o,Zt p,A q s r,A t z y] 59):=⟨_,D⟩;rw[<- b];rw[<- b]at c;have eO:B.heap[h.heap.size]?=Z (Zc #[Zt x,I U i,I U o,Zt p,A q s r,A t z y] 59 (0,0)):=by rw[b];exact Qh h _
   have eE:B.heap[W.heap.size]?=Z (Zc #[] 59 (0,0)):=by rw[b,Qf _ _ _ E];exact eA
   have sB:h.heap.size+1<=B.heap.size:=by rw[b];simp
   clear b;refine ic 2 λK hK=>?_;refine kX B cU (.tmp 7) (.tmp 8) 34 cU w.heap.size 59 M _ 6 96 underlying34 e.1 e.2.1 e.2.2.1 e.2.2.2 D zC (W.heap.size) cU eE E ao n N R cU q6 (q9 _ c) X zL E B.heap.size D ?_;intro g cap L d a O aa;have C:Bw W L:=c.grown a E zS;have ab:W.heap.size+1<=L.heap.size:=by have:=a.size;omega
   have q7:W.heap.size<=g:=E;have q8:=(a.block h.heap.size E zE).trans eO;refine hK.out _ _ (HC _ C) (λhHeld=>?_);clear hK K a O;refine ic 7 λK hK=>?_;refine Xd L cU (.tmp 9) (.tmp 13) 34 cU w.heap.size 59 M _ 6 96 underlying34 e.1 e.2.1 e.2.2.1 e.2.2.2 D zC (A (b5 g 0) n cap) n R cU d ⟨h.heap.size,0,Y⟩ 1 1 [Zt x,I U i,I U o,Zt p,A q s r,A t z y] cU D (QB q8) iz zC fA E E L.heap.size D ?_;intro g2 ja w6 qG qD jw jj;have js:Bw W w6:=C.grown qD E PI;exact qaZ
 .go_simp;have j0:Bw W (W.alloc (Zc #[Zt x,I U i,I U o,Zt p,A q s r,A t z y] 59)).drew:=l4 qa;refine hK.out _ _ (HC _ j0) (λhHeld=>?_);clear hK K;obtain⟨h,f⟩:∃V,V=(W.alloc (Zc #[Zt x,I U i,I U o,Zt p,A q s r,A t z y] 59)).drew:=⟨_,D⟩;rw[<- f];rw[<- f]at j0;have eA:h.heap[W.heap.size]?=Z (Zc #[Zt x,I U i,I U o,Zt p,A q s r,A t z y] 59 (0,0)):=by rw[f];exact Qh W _
  have sA:W.heap.size+1<=h.heap.size:=by rw[f];show _<=(W.alloc _).heap.size;simp
  clear f;refine ic 0 λK hK=>?_;go_simp;have c:=mH j0 (Zc #[] 59);refine hK.out _ _ (HC _ c) (λhHeld=>?_);clear hK K;obtain⟨B,b⟩:∃V,V=h.alloc (Zc #[] 59):=⟨_,D⟩;rw[<- b];rw[<- b]at c;have eE:B.heap[h.heap.size]?=Z (Zc #[] 59 (0,0)):=by rw[b];exact Qh h _
  have eO:B.heap[W.heap.size]?=Z (Zc #[Zt x,I U i,I U o,Zt p,A q s r,A t z y] 59 (0,0)):=by rw[b,Qf _ _ _ E];exact eA
  have sB:h.heap.size+1<=B.heap.size:=by rw[b];simp
  clear b;refine ic 2 λK hK=>?_;refine kX B cU (.tmp 7) (.tmp 8) 34 cU w.heap.size 59 M _ 6 96 underlying34 e.1 e.2.1 e.2.2.1 e.2.2.2 D zC (h.heap.size) cU eE E ao n N R cU q6 (q9 _ c) X zL E B.heap.size D ?_;intro g cap L d a O aa;have C:Bw W L:=c.grown a E zE;have ab:W.heap.size+1<=L.heap.size:=by have:=a.size;omega
  have q7:W.heap.size<=g:=E;have q8:=(a.block W.heap.size E zE).trans eO;refine hK.out _ _ (HC _ C) (λhHeld=>?_);clear hK K a O;refine ic 7 λK hK=>?_;refine Xd L cU (.tmp 9) (.tmp 13) 34 cU w.heap.size 59 M _ 6 96 underlying34 e.1 e.2.1 e.2.2.1 e.2.2.2 D zC (A (b5 g 0) n cap) n R cU d ⟨W.heap.size,0,Y⟩ 1 1 [Zt x,I U i,I U o,Zt p,A q s r,A t z y] cU D (QB q8) iz zC fA E E L.heap.size D ?_;intro g2 ja w6 qG qD jw jj;have js:Bw W w6:=C.grown qD E PI;exact qaZ
def iX(x:Int)(c : -999999999<=x)(d:x<=999999999):(Ud U x).wf=true:=by simp only[Lit.wf,Qc,Qk];have a:IntKind.i64.min = -9223372036854775808:=cU;have b:IntKind.i64.max=9223372036854775807:=cU;rw[a,b];omega
def E0 {t:T (n+1)} (w:Zw) (o:Obj) (b:(Ud U (F.k t)).wf=true) (a:(Ud U (F.n t)).wf=true) (c:(F.a t).size<=10000) (hN:F.q t=[]) (hK:F.o t=[]) :
  gJ (n+1) t w (Zr (Uy (F.k t) (F.n t) (F.a t) Y 0 0 Y 0 0)) (w.alloc o):=by
 refine⟨(Qg _ _).alloc E _,_,_,_,_,_,[],[],D,⟨D,D,D,fA,b,a,?_,?_⟩,lE.no _,lI.no _ _,Own.nil _,?_⟩;·rw[hN];exact⟨Y,0,D,gO,λs h=>eI,λh=>absurd D h⟩
 .rw[hK];exact⟨Y,0,D,gO,zS⟩
 .simp only[B7,hN,hK];simp[cG]
def wy {t:T (n+1)} {L3 L4:List cZ} (f:Below w.heap.size w W) (j:(Ud U (F.k t)).wf=true) (i:(Ud U (F.n t)).wf=true) (m:(F.a t).size<=10000)
  (d:cR (λb=>w.heap.size+1<=b/\b<W.heap.size) W (F.q t) c3) (e:dn (λb=>w.heap.size+1<=b/\b<W.heap.size) W (cT (λb=>w.heap.size+1<=b/\b<W.heap.size) W n) (F.o t) c4)
  (k:lE W c3 L3) (l:lI W n c4 L4) (c:Own (λb=>w.heap.size+1<=b/\b<W.heap.size) (L3++L4)) (g:J (L3++L4)=B7 (n+1) t) :
  gJ (n+1) t w (Zr (Za #[I U (F.k t),I U (F.n t),Zt (F.a t),c3,c4])) (eF W w.heap.size 0 (I U (F.k t)) (I U (F.n t)) (Zt (F.a t)) c3 c4):=by have q:∀b,w.heap.size+1<=b->(eF W w.heap.size 0 (I U (F.k t)) (I U (F.n t)) (Zt (F.a t)) c3 c4).heap[b]?=W.heap[b]?:=λb h=>dt E;have a:∀b,(w.heap.size+1<=b/\b<W.heap.size)->w.heap.size<=b/\b<(eF W w.heap.size 0 (I U (F.k t)) (I U (F.n t)) (Zt (F.a t)) c3 c4).heap.size:=λb h=>Ab;refine⟨dk f E,_,_,_,_,_,L3,L4,D,⟨D,D,D,fA,j,i,d.keep (λb h=>q b h.1) a,e.keepT (λb h=>q b h.1) a⟩,k.same (λs h=>q _ (c.1 s (XH _ h)).1),l.same (λs h=>q _ (c.1 s (Xt _ h)).1),c.mono a,g⟩
def cI {a:W9} (h:W.heap[R]?=Z (Zc #[c0,c1,c2,c3,c4] a (0,0))) :
  (a7 W R 0=Z c0/\a7 W R 1=Z c1/\a7 W R 2=Z c2/\a7 W R 3=Z c3/\a7 W R 4=Z c4) /\
  (W.frozen? ⟨R,0,Y⟩=false/\W.frozen? ⟨R,1,Y⟩=false/\W.frozen? ⟨R,2,Y⟩=false/\W.frozen? ⟨R,3,Y⟩=false/\W.frozen? ⟨R,4,Y⟩=false):=by refine⟨⟨?_,?_,?_,?_,?_⟩,?_,?_,?_,?_,?_⟩<;>simp[WY,W7,h]
def L8{t:T (n+1)}(w:Zw)(hs:F.k t=1)(e:kj (n+1) t):WU WV 36 #[.iface 120 (I U (F.n t))] w (gJ (n+1) t w):=by
 obtain⟨c1,-,-,-,-,-,f,g,t0,-⟩:=e;have⟨a,b,c⟩:=c1 hs;have d:=Tryz.yes_num;have HP:G (∀o,gJ (n+1) t w (Zr (Za #[I U 1,I U (F.n t),Zt ⟨#[]⟩,A Y 0 0,A Y 0 0])) (w.alloc o)):=λo=>by have:=E0 (t:=t) w o Cv (iX _ f g) t0 b c;rw[hs,a]at this;exact this
 clear c1 a b c t0;generalize F.n t=x at *;go_enter func36,ntmps36;go_wp2_with fail;refine bR (v:=Za #[I U 1,I U x,Zt ⟨#[]⟩,A Y 0 0,A Y 0 0]) ?_;exact HP _
def Hx{t:T (n+1)}(w:Zw)(hs:F.k t=3)(i:kj (n+1) t):WU WV 36 #[.iface 123 (.bool (F.n t==1))] w (gJ (n+1) t w):=by
 obtain⟨-,-,c1,-,-,-,j,k,t0,-⟩:=i;have⟨b,c,d,a⟩:=c1 hs;have f:=Tryz.no_num_flag;have g:=Tryz.no_text_flag;have h:=Tryz.yes_flag;have HP:G (∀o,gJ (n+1) t w (Zr (Za #[I U 3,I U (F.n t),Zt ⟨#[]⟩,A Y 0 0,A Y 0 0])) (w.alloc o)):=λo=>by have:=E0 (t:=t) w o Cv (iX _ j k) t0 c d;rw[hs,b]at this;exact this
 clear c1 b c d t0;rcases a with a|a;·rw[a]at HP ⊢;have e:((0:Int)==1)=false:=D;rw[e];go_enter func36,ntmps36;go_wp2_with fail;refine bR (v:=Za #[I U 3,I U 0,Zt ⟨#[]⟩,A Y 0 0,A Y 0 0]) ?_;exact HP _
 .rw[a]at HP ⊢;have e:((1:Int)==1)=true:=D;rw[e];go_enter func36,ntmps36;go_wp2_with fail;refine bR (v:=Za #[I U 3,I U 1,Zt ⟨#[]⟩,A Y 0 0,A Y 0 0]) ?_;exact HP _
def H3{t:T (n+1)}(w:Zw)(hs:F.k t=2)(m:kj (n+1) t):WU WV 36 #[.iface 121 (Zt (F.a t))] w (gJ (n+1) t w):=by
 obtain⟨-,c1,-,-,-,-,o,p,t0,-⟩:=m;have⟨h,d,f⟩:=c1 hs;have i:=Tryz.no_num_text;have j:=Tryz.yes_text;have HP:G (∀W,Below w.heap.size w W->gJ (n+1) t w (Zr (Uy 2 0 (F.a t) Y 0 0 Y 0 0)) (eF W w.heap.size 0 (I U 2) (I U 0) (Zt (F.a t)) (A Y 0 0) (A Y 0 0))):=λW l=>by have:=wy (t:=t) (L3:=[]) (L4:=[]) (c3:=A Y 0 0) (c4:=A Y 0 0) l Cv (iX _ o p) t0 (by rw[d];exact⟨Y,0,D,gO,zS,zS⟩) (by rw[f];exact⟨Y,0,D,gO,zS⟩) (lE.no _) (lI.no _ _) (Own.nil _) (by simp only[B7,d,f];simp[cG]);rw[hs,h]at this;exact this
 have g:G (∀W,WU WV 68 #[Zt (F.a t)] W λe q=>e=Zr (Zt (F.a t))/\Below W.heap.size W q):=λW=>nK _ W t0;have b:=(Qg w.heap.size w).alloc E d8;have k:=Qh w d8;clear c1 h d f t0;generalize F.a t=x at *;go_enter func36,ntmps36;go_wp2_with fail;refine H (g _) ?_;rintro e w1 ⟨rfl,a⟩;have⟨⟨r0,r1,r2,r3,r4⟩,f0,f1,f2,f3,f4⟩:=cI ((a.block w.heap.size zS).trans k);have c:=b9 b zS a;have HQ:G _:=HP.out _ c;clear g HP b a k c;exact nX
def Hz (q:nV n) {t:T (n+1)} (hs:F.k t=4) (hr:fB S w (dL S w n) (F.o t) kv) (a:∀ b,S b->b<w.heap.size) (p:kj (n+1) t) :
  WU WV 36 #[.iface 125 kv] w (gJ (n+1) t w):=by
 obtain⟨-,-,-,c1,-,-,s,u,t0,-,-,d,c⟩:=p;have⟨e1,e2,e3⟩:=c1 hs;have f:=Tryz.no_num_list;have g:=Tryz.no_text_list;have h:=Tryz.no_flag_list;have i:=Tryz.yes_list;have qp:=(Qg w.heap.size w).alloc E d8;have hz:=Qh w d8;have HC:G (WU WV 69 _ _ _):=mo q (hr.keep (b6 qp a) zI (λ_ _ _ r=>r.keep (b6 qp a) zI)) (fP a) d c;have HP:G (∀ W v' L,Below w.heap.size w W->dn (λb=>w.heap.size+1<=b/\b<W.heap.size) W (cT (λb=>w.heap.size+1<=b/\b<W.heap.size) W n) (F.o t) v'->lI W n v' L->Own (λb=>w.heap.size+1<=b/\b<W.heap.size) L->J L=cG (λx=>3+B7 n x) (F.o t) ->
   gJ (n+1) t w (Zr (Za #[I U 4,I U 0,Zt ⟨#[]⟩,A Y 0 0,v'])) (eF W w.heap.size 0 (I U 4) (I U 0) (Zt ⟨#[]⟩) (A Y 0 0) v')):=λW v' L o j k l m=>by
  have:=wy (t:=t) (L3:=[]) (L4:=L) (c3:=A Y 0 0) (c4:=v') o Cv (iX _ s u) t0 (by rw[e3];exact⟨Y,0,D,gO,zS,zS⟩) j (lE.no _) k l (by simp only[B7,e3];simp[m])
  rw[hs,e1,e2]at this;exact this
 exact qdB
def YW:∀x y:List UInt8,Uf x y=false->Uf y x=false->x=y:=by
 intro x;induction x with
 | nil=>
  intro y c d;cases y with
  | nil=>rfl
  | cons b r=>simp[Uf]at c
 | cons a r h=>
  intro y c d;cases y with
  | nil=>simp[Uf]at d
  | cons b q=>
   simp only[Uf,Bool.or_eq_false_iff,Bool.and_eq_false_iff,XD]at c d;have e:=UInt8.le_antisymm (UInt8.not_lt.1 d.1) (UInt8.not_lt.1 c.1);subst e;have f:Uf r q=false:=by simpa using c.2
   have g:Uf q r=false:=by simpa using d.2
   rw[h q f g]
def Se{t:ZB}(b:¬ij s t=true)(c:¬ij t s=true):s=t:=by
 have h:=YW s.toList t.toList (by simpa [ij] using b) (by simpa [ij] using c);have a:s.data.toList=t.data.toList:=by rw[QI,QI]at h;exact h
 cases s;cases t
 simp only[ByteArray.mk.injEq];exact Array.toList_inj.1 a
theorem yC(f:α->β)(s:ZB)(x:α):∀(b:List ZB)(a:List α),eH s (f x) b (a.map f)=((eH s x b a).1,(eH s x b a).2.map f)
 | [],_=>by simp[eH]
 | _ :: _,[]=>by simp[eH]
 | n :: b,k :: a=>by
  rw[Xx,eH,eH,yC f s x b a]
  split
  .exact cU
  .split<;>rfl
theorem E8(s:ZB)(x:α):∀(b:List ZB)(c:List α),(∀z,z∈(eH s x b c).2->z=x∨z∈c)/\(∀z,z∈(eH s x b c).1->z=s∨z∈b)/\J (eH s x b c).1<=J b+1/\J (eH s x b c).1=J (eH s x b c).2∨J b≠J c
 | [],[]=>.inl (by simp[eH])
 | [],_ :: _=>zS
 | _ :: _,[]=>zS
 | n :: b,k :: c=>by
  rcases E8 s x b c with ⟨d,e,f,g⟩|h
  .by_cases i:J b=J c
   .refine .inl ?_
    rw[eH]
    split
    .refine⟨λz a=>?_,λz a=>?_,zE,zE⟩
     .rcases QW.1 a with rfl|a
      .exact zS
      .exact (d z a).imp id λh=>Qt _ h
     .rcases QW.1 a with rfl|a
      .exact zS
      .exact (e z a).imp id λh=>Qt _ h
    .split
     .refine⟨λz a=>(QW.1 a).imp id λh=>Qt _ h,λz a=>(QW.1 a).imp id λh=>Qt _ h,zS,zE⟩
     .exact zE
   .exact zE
  .exact zE
def JC{l:List ZB}(d:∀a,a∈l->c8 a=true)(e:DM l):ee l=true:=by
 unfold ee fK;rw[Qo];intro i b;have b:=Q7.1 b;unfold gn;rw[lW b,d _ (QE b),X6,Wp];by_cases c:i=0;·left;simpa using c
 .right;rw[lW E];exact X1.1 e (i-1) i E b E
def yF{l:List ZB}(h:ee l=true):∀a,a∈l->c8 a=true:=by intro a c;have⟨i,b,e⟩:=QT c;unfold ee fK at h;rw[Qo]at h;have:=h i (Q7.2 b);unfold gn at this;rw[lW b,e,Qc]at this;exact this.1
def SI(s:ZB)(x:α):∀(c:List ZB)(d:List α),J c=J d->J (eH s x c d).1=J (eH s x c d).2/\(∀a,a∈(eH s x c d).1->a∈c∨a=s)/\(∀y,y∈(eH s x c d).2->y∈d∨y=x)/\(DM c->DM (eH s x c d).1):=by
 intro c;induction c with
 | nil=>
  intro d h;cases d with
  | nil=>exact⟨D,λa h=>.inr (QR.1 h),λy h=>.inr (QR.1 h),λ_=>List.pairwise_singleton _ _⟩
  | cons k r=>cases h
 | cons n c u=>
  intro d h;cases d with
  | nil=>cases h
  | cons k r=>
   have hl:J c=J r:=mZ;have⟨p,l,q,t⟩:=u r hl;unfold eH;split
   .next hlt=>
    refine⟨by simp[p],λa e=>?_,λy g=>?_,λj=>?_⟩
    .rcases QW.1 e with rfl|e;·exact zS
     .exact (l a e).imp (Qt _) id
    .rcases QW.1 g with rfl|g;·exact zS
     .exact (q y g).imp (Qt _) id
    .have⟨m,o⟩:=XB.1 j;refine XB.2 ⟨λb f=>?_,t o⟩;rcases l b f with f|rfl;·exact m b f
     .exact hlt
   .next hlt=>
    split
    .next he=>
     subst he;exact⟨pd,λa e=>.inl e,λy g=>(QW.1 g).elim .inr λh=>.inl (Qt _ h),zS⟩
    .next hne=>
     refine⟨pd,λa e=>(QW.1 e).elim .inr .inl,λy g=>(QW.1 g).elim .inr .inl,λj=>?_⟩;have i:ij s n=true:=by
      cases hs:ij s n with
      | true=>rfl
      | false=>exact absurd (Se hlt (by rw[hs];simp)) hne
     refine XB.2 ⟨λb f=>?_,j⟩;rcases QW.1 f with rfl|f;·exact i
     .exact Ow i ((XB.1 j).1 b f)
def RJ(s:ZB):∀(c:List ZB)(d:List α),J c=J d->J (ft s c d).1=J (ft s c d).2/\(∀a,a∈(ft s c d).1->a∈c)/\(∀y,y∈(ft s c d).2->y∈d)/\(DM c->DM (ft s c d).1):=by
 intro c;induction c with
 | nil=>
  intro d h;cases d with
  | nil=>exact⟨D,λa h=>h,λy h=>h,λh=>h⟩
  | cons k r=>cases h
 | cons n c u=>
  intro d h;cases d with
  | nil=>cases h
  | cons k r=>
   have t:J c=J r:=mZ;have⟨j,i,l,m⟩:=u r t;unfold ft;split;·exact⟨j,λa e=>Qt _ (i a e),λy f=>Qt _ (l y f),λg=>m (XB.1 g).2⟩
   .refine⟨by simp[j],λa e=>?_,λy f=>?_,λg=>?_⟩
    .rcases QW.1 e with rfl|e;·exact zS
     .exact Qt _ (i a e)
    .rcases QW.1 f with rfl|f;·exact zS
     .exact Qt _ (l y f)
    .have⟨o,p⟩:=XB.1 g;exact XB.2 ⟨λb q=>o b (i b q),m p⟩
def BT{a:ZB}(h:c8 a=true):a.size<=8:=by unfold c8 at h;simp only[Qc,Qk]at h;exact E
def KM{a:ZB}(h:eM a=true):a.size<=8:=by unfold eM at h;simp only[Qc]at h;exact BT h.1.1.1.1
def SA{n:F α}(h:dM n [88]=true):∃a,n.q=[a]/\a.size<=8:=by
 simp only[dM,Qc]at h;have b:=h.2;split at b;·next a e=>exact⟨a,e,KM b⟩
 .cases b
def Sy{n:F α}(h:dM n [78]=true):∃a,n.q=[a]/\a.size<=8/\c8 a=true:=by
 simp only[dM,Qc]at h;have b:=h.2;split at b;·next a e=>exact⟨a,e,BT b,b⟩
 .cases b
def SB{n:F α}(h:dM n [88,88]=true):∃a b,n.q=[a,b]:=by
 simp only[dM,Qc]at h;have c:=h.2;split at c;·next a b e=>exact⟨a,b,e⟩
 .cases c
def OX{n:F α}(h:dM n [75]=true):lu n.a=true:=by simp only[dM,Qc]at h;exact h.1.2
def Od:∀k,k<36->∀v,v∈mD k->v=86:=zC
structure IP{m:Nat}(t:T (m+1)):Prop where
 lo:1<=F.k t
 free:F.k t=4∨F.k t=20∨F.k t=32∨F.k t=33∨F.k t=34->∃a,F.q t=[a]/\a.size<=8
 fld:F.k t=21∨F.k t=22∨F.k t=23->∃a,F.q t=[a]/\a.size<=8/\c8 a=true
 two:F.k t=35->∃a b,F.q t=[a,b]
 kind:F.k t=5∨F.k t=6->lu (F.a t)=true
 frm:F.k t=24->J (F.q t)=J (F.o t)/\(∀i,i<J (F.q t)->kr (F.q t) i=true)
 cnt:F.k t≠24->J (F.o t)=J (mD (F.k t).toNat)
 kid:∀j (h:j<J (F.o t)),iQ m (F.o t)[j]=86
def iW{t:T (m+1)}(a:eQ (iQ m) (show F (T m) from t)=true)(l:F.k t<=35):IP t:=by
 have b:1<=F.k t:=by have h:=a;unfold eQ at h;simp only[Qc,Qk]at h;exact h.1.1
 by_cases c:F.k t=24;·rw[l5 (iQ m) c]at a;simp only[Qc]at a;have d:=a.1;unfold fD fI at d;simp only[Qc,QP,Qo,Q7]at d;have n:=d.1;refine⟨b,E,E,E,E,λ_=>⟨n,λi h=>(d.2 i h).1⟩,E,λj h=>?_⟩;have:=(d.2 j (by show j<J (F.q t);omega)).2;rw[Qw,Xg,Qp h]at this;exact iG
 .rw[mL (iQ m) b (by show F.k t<=43;omega) c]at a;simp only[Qc,Qk]at a;obtain⟨hp,e⟩:=a;have hp:=hp;have e:=e;have g:J (F.o t)=J (mD (F.k t).toNat):=by simpa using Xc Uh e
  refine⟨b,λh=>?_,λh=>?_,λh=>?_,λh=>?_,E,E,λj h=>?_⟩;·rcases h with h|h|h|h|h<;>(rw[h]at hp;exact SA hp)
  .rcases h with h|h|h<;>(rw[h]at hp;exact Sy hp)
  .rw[h]at hp;exact SB hp
  .rcases h with h|h<;>(rw[h]at hp;exact OX hp)
  .have f:((F.o t).map (iQ m))[j]?=Z (iQ m (F.o t)[j]):=by rw[Xg,Qp h];rfl
   rw[e,Xg,Qp E]at f;have k:=Od (F.k t).toNat E _ (QE (show j<J (mD (F.k t).toNat) by omega));rw[k]at f;simpa using f.symm
def kT{t:T m}(h:iQ m t=86):1<=p8 m t/\p8 m t<=35:=by
 unfold iQ vu at h;split at h;·exact eI
 .split at h;·omega
  .exact eI
def lc{t:V6}(h:dB 6 t=true): -999999999<=F.n t/\F.n t<=999999999:=by
 have f:=EY h;by_cases a:F.k t=1;·have:=Ds h a;omega
 by_cases b:F.k t=2;·have:=(ld h b).1;omega
 by_cases c:F.k t=3;·have:=(mO h c).1;omega
 by_cases d:F.k t=4;·have:=(iP h d).1;omega
 by_cases e:F.k t=5;·have:=(pH h e).1;omega
 .have:=(nF h E).1;omega
def I3{u:Nat}(h:u<=999999999):J (WZ u)<=9:=by
 rw[ZP];have a:∀(k u:Nat),u<10 ^ (k+1)->Lib.nDigits u<=k+1:=by
  intro k;induction k with
  | zero=>intro u h;rw[Wg mZ];omega
  | succ k c=>
   intro u h;by_cases b:u<10;·rw[Wg b];omega
   .rw[Lib.nDigits_big b];have:=c (u / 10) (by rw[WP]at h;omega);omega
 exact a 8 u E
def BL{n:Int}(d : -999999999<=n)(e:n<=999999999):eW (bs (W6 n))=true:=by
 have b:∀u c,c∈WZ u->kR c=true:=λu c a=>by have:=fE u c a;unfold fw at this;unfold kR;simp only[Qk]at this ⊢;omega
 unfold eW bs;simp only[Qc,Qk,Qo];unfold W6;split
 .refine⟨?_,λc a=>?_⟩;·show (45 :: WZ n.natAbs).toArray.size<=60;have:=I3 (u:=n.natAbs) E;exact gE
  .rcases QW.1 (by simpa using a) with rfl|a;·exact mz
   .exact b _ c a
 .refine⟨?_,λc a=>?_⟩;·show (WZ n.toNat).toArray.size<=60;have:=I3 (u:=n.toNat) E;exact gE
  .exact b _ c (by simpa using a)
def CW(h:eW x=true)(a b:Nat):eW (x.extract a b)=true:=by
 unfold eW at h ⊢;simp only[Qc,Qk,Qo]at h ⊢;refine⟨?_,λc d=>h.2 c ?_⟩;·rw[ByteArray.size_extract];omega
 .rw[Z7,Array.toList_extract]at d;exact (List.drop_sublist _ _).subset ((List.take_sublist _ _).subset (by simpa [List.extract] using d))
def Rf{t:V6}(h:dB 6 t=true)(i:F.k t=2∨F.k t=4)(a b:Int):lR (mV t a b):=by
 unfold mV;by_cases e:a<0∨b<a∨(if F.k t=2 then ((F.a t).size:Int) else (J (F.o t):Int))<b;·rw[Qm e];exact⟨zC,zC⟩
 .rw[Qd e];split
  .next h2=>
   refine kF ?_;have:=CW (ld h h2).2.1 a.toNat b.toNat;simp[cM,this]
  .next h2=>
   have d:F.k t=4:=E;have⟨f,g,j,k⟩:=iP h d;have c:(((F.o t).drop a.toNat).take (b.toNat-a.toNat)).Sublist (F.o t):=(List.take_sublist _ _).trans (List.drop_sublist _ _);have:=Jw (l:=[]) h c (by rw[d,f,g];have:=c.length_le;simp[cM];omega);rw[d,f,g]at this;exact this
theorem wY(s:ZB):∀(b:List ZB)(a:List α),(ft s b a).2.Sublist a
 | [],_=>by simp[ft]
 | _ :: _,[]=>by simp[ft]
 | n :: b,k :: a=>by
  rw[ft]
  split
  .exact (wY s b a).cons _
  .exact (wY s b a).cons_cons _
def Ta{t:V6}(h:dB 6 t=true)(b:F.k t=5)(s:ZB):dB 6 (Bl t s)=true:=by have⟨c,d,i,e⟩:=pH h b;have⟨c1,c2,c3,c4⟩:=RJ s (F.q t) (F.o t) i;have g:=JC (λa f=>yF e a (c2 a f)) (c4 (CM e));have:=Jw (l:=(ft s (F.q t) (F.o t)).1) h (wY s (F.q t) (F.o t)) (by rw[b,c,d];simp[cM,c1,g]);rw[b,c,d]at this;exact this
def Kn:∀(l:List ZB)(b:List α)(x:ZB)(k:α),fU l b x=Z k->k∈b:=by
 intro l;induction l with
 | nil=>intro b x k h;simp[fU]at h
 | cons a r c=>
  intro b x k h;cases b with
  | nil=>simp[fU]at h
  | cons y d=>
   rw[fU]at h;split at h;·cases h;exact zS
   .exact Qt _ (c d x k h)
def EW{v:Int}(h:fy l=Z v): -999999999<=v/\v<=999999999:=by
 unfold fy at h;split at h;·next h1=>cases h;exact h1.1
 .exact eI
def RR{l:List V6}(h:∀t,t∈l->dB 6 t=true)(i:Nat):dB 6 (l.getD i dU)=true∨l.getD i dU=dU:=by
 by_cases a:i<J l;·left;rw[lW a];exact h _ zS
 .right;rw[Qw,Xs E];rfl
def MS {op:Int} {P:List V6} {a b c:V6} (q:1<=op/\op<=3->cM op num text [] 0=true) (t:dB 6 a=true∨a=dU)
  (o:op=28->dB 6 a=true/\(F.k a=2∨F.k a=4)):lR (rR op num text names P a b c):=by
 have p:∀x,x∈cL a->dB 6 x=true:=by
  rcases t with h|h;·exact kE h
  .intro x d;rw[h]at d;cases d
 have r : -999999999<=F.n a/\F.n a<=999999999:=by
  rcases t with h|h;·exact lc h
  .rw[h];exact⟨zC,zC⟩
 unfold rR;by_cases c1:1<=op/\op<=3;·rw[Qm c1];exact kF (q c1)
 rw[Qd c1];by_cases c2:op=5;·rw[Qm c2];exact kF (by simp[cM])
 rw[Qd c2];by_cases c3:op=6;·rw[Qm c3];exact kF (by simp[cM])
 rw[Qd c3];by_cases c4:op=7;·rw[Qm c4];exact nR _
 rw[Qd c4];by_cases c5:op=8;·rw[Qm c5];exact nR _
 rw[Qd c5];by_cases y:op=24;·rw[Qm y];exact nR _
 rw[Qd y];by_cases z:9<=op/\op<=13;·rw[Qm z];exact Rg _ _ _
 rw[Qd z];by_cases B:op=14;·rw[Qm B];exact An _
 rw[Qd B];by_cases C:op=15;·rw[Qm C];exact An _
 rw[Qd C];by_cases f:op=18;·rw[Qm f];exact An _
 rw[Qd f];by_cases g:op=26;·rw[Qm g];exact s5 _
 rw[Qd g];by_cases i:op=29;·rw[Qm i];refine kF ?_;have:=BL r.1 r.2;simp[cM,this]
 rw[Qd i];by_cases j:op=30
 .rw[Qm j];split
  .next v hv=>
   have⟨Q,R⟩:=EW hv;refine tJ (iL zC (by show cM 6 0 WT [] 1=true;simp[cM]) λx d=>?_) ?_;·have d:x∈[(⟨1,v,WT,[],[]⟩:F (T 4))]:=d;rw[QR.1 d];refine iL zC ?_ zS;show cM 1 v WT [] 0=true;simp[cM,Q,R]
   .show 1+cG (λk=>cJ 5 k) [(⟨1,v,WT,[],[]⟩:F (T 4))]<=120;simp[cG,cJ]
  .exact kF (by simp[cM])
 rw[Qd j];by_cases e:op=28;·rw[Qm e];exact Rf (o e).1 (o e).2 _ _
 rw[Qd e];by_cases l:op=25
 .rw[Qm l];split
  .next h=>
   have u:(F.n b).toNat<J (cL a):=by unfold cL;rw[Qv];omega
   show dB 6 _=true;rw[lW u];exact p _ zS
  .exact⟨zC,zC⟩
 rw[Qd l];by_cases m:op=27;·rw[Qm m];exact nR _
 rw[Qd m];by_cases n:op=22;·rw[Qm n];exact nR _
 rw[Qd n];split;·exact⟨zC,zC⟩
 .next x d=>
  have w:=Kn _ _ _ _ d;split;·exact p x w
  .rcases t with h|h
   .refine Ta h ?_ _;have S:=EY h;by_cases O:F.k a=5;·exact O
    .exfalso;have s:F.q a=[]:=by
      by_cases K:F.k a=1;·exact (Ds h K).2.2.2.1
      by_cases L:F.k a=2;·exact (ld h L).2.2.1
      by_cases M:F.k a=3;·exact (mO h M).2.2.1
      by_cases N:F.k a=4;·exact (iP h N).2.2.1
      .exact (nF h E).2.2.1
     rw[s]at d;simp[fU]at d
   .rw[h]at d;cases d
def MT {op:Int} {b:List V6} (a:1<=op/\op<=3->cM op num text [] 0=true) (d:∀ t,t∈b->dB 6 t=true)
  (c:op=28->dB 6 (b.getD 0 dU)=true/\(F.k (b.getD 0 dU)=2∨F.k (b.getD 0 dU)=4)):lR (e8 op num text names b):=MS a (RR d 0) c
def sZ{op:Int}{b:Int}{r:Except Int V6}(h:lR r):lR (dD op i b r):=by
 unfold dD;split;·exact h
 .split;·exact h
  .exact⟨zC,zC⟩
def Ak{op:Int}{b:Int}{r:Except Int V6}{t:V6}(h:dD op i b r=.ok t):r=.ok t/\dV op i (F.k t) b=true:=by
 unfold dD at h;split at h;·exact eI
 .split at h;·next hw=>cases h;exact⟨D,hw⟩
  .exact eI
def Kf{ev:α->gk->Except Int V6}{kids:List α}(h:∀k,k∈kids->lR (ev k env))(i:Nat):lR (gi ev kids i env):=by
 unfold gi;split;·next k hk=>exact h k (List.mem_of_getElem? hk)
 .exact⟨zC,zC⟩
def Kb{ev:α->gk->Except Int V6}{op:Int}:∀ {kids:List α} {acc:List V6},(∀k,k∈kids->lR (ev k env))->(∀t,t∈acc->dB 6 t=true)->qbR (iJ ev op env kids acc):=by
 intro kids;induction kids with
 | nil=>intro acc _ h;exact h
 | cons k r g=>
  intro acc e f;have d:=sZ (op:=op) (i:=J acc) (b:=F.k (acc.headD dU)) (e k zS);rw[iJ];cases hr:dD op (J acc) (F.k (acc.headD dU)) (ev k env) with
  | error c=>rw[hr]at d;exact d
  | ok t=>
   rw[hr]at d;refine g (λk h=>e k (Qt _ h)) λx a=>?_;rcases QF.1 a with a|a;·exact f x a
   .rw[QR.1 a];exact d
def P8{ev:α->gk->Except Int V6}{op:Int}:∀ {kids:List α} {acc l:List V6},iJ ev op env kids acc=.ok l->J l=J acc+J kids/\∃q,l=acc++q:=by
 intro kids;induction kids with
 | nil=>intro acc l h;rw[iJ]at h;cases h;exact⟨D,[],dS⟩
 | cons k r d=>
  intro acc l h;rw[iJ]at h;cases hr:dD op (J acc) (F.k (acc.headD dU)) (ev k env) with
  | error c=>rw[hr]at h;cases h
  | ok t=>rw[hr]at h;have⟨a,q,b⟩:=d h;refine⟨by simp at a;simp;omega,t :: q,by simp[b]⟩
def IH{ev:α->gk->Except Int V6}{op:Int}{k:α}{kids:List α}{l:List V6}(h:iJ ev op env (k :: kids) []=.ok l):∃t q,l=t :: q/\ev k env=.ok t/\dV op 0 (F.k t) 0=true:=by
 rw[iJ]at h;cases hr:dD op (J ([]:List V6)) (F.k (([]:List V6).headD dU)) (ev k env) with
 | error c=>rw[hr]at h;cases h
 | ok t=>rw[hr]at h;obtain⟨-,q,d⟩:=P8 h;have⟨a,b⟩:=Ak hr;exact⟨t,q,d,a,b⟩
def Rb{g:V6->V6->Except Int V6}:∀ {l:List V6} {a:V6},(∀a x,dB 6 a=true->x∈l->lR (g a x))->dB 6 a=true->lR (lD g l a):=by
 intro l;induction l with
 | nil=>intro a _ h;exact h
 | cons x r i=>
  intro a d e;have b:=d a x e zS;rw[lD];cases hr:g a x with
  | error c=>rw[hr]at b;exact b
  | ok t=>rw[hr]at b;exact i (λa y h f=>d a y h (Qt _ f)) b
def F7{op:Int}{g:V6->Except Int V6}:∀ {l acc:List V6},(∀x,x∈l->lR (g x))->(∀x,x∈l->dB 6 x=true)->(∀x,x∈acc->dB 6 x=true)->qbR (e9 op g l acc):=by
 intro l;induction l with
 | nil=>intro acc _ _ h;exact h
 | cons x r j=>
  intro acc e f d;have b:=e x zS;rw[e9];cases hr:g x with
  | error c=>rw[hr]at b;exact b
  | ok t=>
   rw[hr]at b;simp only;split;·exact⟨zC,zC⟩
   .refine j (λy a=>e y (Qt _ a)) (λy a=>f y (Qt _ a)) λy a=>?_;have app:∀z,dB 6 z=true->y∈acc++[z]->dB 6 y=true:=λz i a=>by
     rcases QF.1 a with a|a;·exact d y a
     .rw[QR.1 a];exact i
    split at a;·exact app t b a
    .split at a;·exact app x (f x zS) a
     .exact d y a
def Re {ev:α->gk->Except Int V6} {op:Int} {kids:List α} {f:V6} (q:dB 6 f=true) (d:∀ p,p∈env->dB 6 p.2=true)
  (u:∀k env,k∈kids->(∀p,p∈env->dB 6 p.2=true)->lR (ev k env)):lR (eo ev op names kids env f):=by
 have o:∀(s:ZB)(x:V6)(e:gk),dB 6 x=true->(∀p,p∈e->dB 6 p.2=true)->∀p,p∈(s,x) :: e->dB 6 p.2=true:=λs x e m d p hp=>by
  rcases QW.1 hp with rfl|hp;·exact m
  .exact d p hp
 have b:∀(e:gk)(i:Nat),(∀p,p∈e->dB 6 p.2=true)->lR (gi ev kids i e):=λe i d=>Kf (λk h=>u k e h d) i;have m:=kE q;unfold eo kZ;split
 .split;·exact q
  .exact sZ (b _ _ d)
 split;·split<;>exact b _ _ d
 split
 .split;·next x r e=>exact m x (by rw[e];exact zS)
  .exact b _ _ d
 split
 .split;·next x r e=>exact b _ _ (o _ _ _ (m x (by rw[e];exact zS)) d)
  .exact b _ _ d
 split;·exact b _ _ (o _ _ _ q d)
 split
 .have j:=b env 1 d;cases hr:gi ev kids 1 env with
  | error c=>rw[hr]at j;exact j
  | ok a=>rw[hr]at j;exact Rb (λa x t n=>b _ _ (o _ _ _ (m x n) (o _ _ _ t d))) j
 .have j:=F7 (op:=op) (g:=λx=>gi ev kids 1 ((names.headD WT,x) :: env)) (l:=cL f) (acc:=[]) (λx n=>b _ _ (o _ _ _ (m x n) d)) m zS;cases hr:e9 op (λx=>gi ev kids 1 ((names.headD WT,x) :: env)) (cL f) [] with
  | error c=>rw[hr]at j;exact j
  | ok l=>exact nR _
def qbH{t:V6}(h:∀p,p∈env->dB 6 p.2=true)(a:DK env s=Z t):dB 6 t=true:=by
 induction env with
 | nil=>cases a
 | cons p r b=>
  obtain⟨x,k⟩:=p;rw[DK]at a;split at a;·cases a;exact h (x,_) zS
  .exact b Bh a
def ed{t:T (m+1)}{d:Int}(h:c7 (m+1) t d=true):eQ (iQ m) (show F (T m) from t)=true/\∀x,x∈F.o t->c7 m x (d+1)=true:=by simp only[c7,Qc,Qo]at h;exact⟨h.1.2,h.2⟩
def Ot{t:T (m+1)}(b:eQ (iQ m) (show F (T m) from t)=true)(h:1<=F.k t/\F.k t<=3):cM (F.k t) (F.n t) (F.a t) [] 0=true:=by refine (sw (F.k t).toNat (by show F.k t=_;omega) b).2.1 ?_;have a:(F.k t).toNat=1∨(F.k t).toNat=2∨(F.k t).toNat=3:=E;rcases a with h|h|h<;>rw[h]<;>decide
def lC:∀(m:Nat)(t:T m)(d:Int)(env:gk),c7 m t d=true->1<=p8 m t->p8 m t<=35->(∀p,p∈env->dB 6 p.2=true)->lR (b7 m t env):=by
 intro m;induction m with
 | zero=>intro t;exact Empty.elim (show Empty from t)
 | succ m B=>
  intro t d env w a j l;have j:=j;have⟨s,z⟩:=ed w;have u:=iW s j;have e:∀k env,k∈F.o t->(∀p,p∈env->dB 6 p.2=true)->lR (b7 m k env):=λk env o l=>by obtain⟨i,y,rfl⟩:=QT o;have hp:=kT (u.kid i y);exact B _ (d+1) env (z _ o) hp.1 hp.2 l
  show lR (gF (b7 m) (show F (T m) from t) env);unfold gF;split
  .split;·next x hx=>exact qbH l hx
   .exact⟨zC,zC⟩
  .split
   .have a:=sZ (op:=F.k t) (i:=0) (b:=0) (Kf (ev:=b7 m) (env:=env) (λk h=>e k env h l) 0);cases hr:dD (F.k t) 0 0 (gi (b7 m) (F.o t) 0 env) with
    | error c=>rw[hr]at a;exact a
    | ok f=>rw[hr]at a;exact Re a l e
   .have a:=Kb (op:=F.k t) (acc:=[]) (ev:=b7 m) (env:=env) (λk h=>e k env h l) zS;cases hr:iJ (b7 m) (F.k t) env (F.o t) [] with
    | error c=>rw[hr]at a;exact a
    | ok C=>
     rw[hr]at a;refine MT (Ot s) a λg=>?_;have g:F.k t=28:=g;have n:=u.cnt E;rw[g]at n;have n:=n;cases hkk:F.o t with
     | nil=>rw[hkk]at n;cases n
     | cons k r=>rw[hkk]at hr;obtain⟨f,q,rfl,-,v⟩:=IH hr;refine⟨a f zS,?_⟩;rw[g]at v;simp[dV]at v;show F.k f=2∨F.k f=4;omega
def Ny(c:UInt8):Bool:=fw c || c==45 || c==34 || c==121 || c==110 || c==91 || c==123 || c==126 || c==63
def oM(u:Nat):∃c r,WZ u=c :: r/\fw c=true:=by
 cases h:WZ u with
 | nil=>exact absurd h (lU u)
 | cons c r=>exact⟨c,r,D,fE u c (by rw[h];exact zS)⟩
def tD(m:Int):∃c r,W6 m=c :: r/\(fw c=true∨c=45):=by
 unfold W6;split;·exact⟨45,_,D,zS⟩
 .have⟨c,r,a,b⟩:=oM m.toNat;exact⟨c,r,a,.inl b⟩
def Mx(t:T (n+1)):∃c r,cK (n+1) t=c :: r/\Ny c=true:=by
 simp only[cK];split
 .have⟨c,r,b,a⟩:=tD (F.n t);refine⟨c,r,b,?_⟩;rcases a with a|a;·simp[Ny,a]
  .subst a;decide
 split;·exact⟨34,_,D,zC⟩
 split
 .split;·exact⟨121,_,D,zC⟩
  .exact⟨110,_,D,zC⟩
 split
 .cases F.o t with
  | nil=>exact⟨126,_,D,zC⟩
  | cons k r=>exact⟨63,_,D,zC⟩
 split;·exact⟨123,_,D,zC⟩
 .exact⟨91,_,D,zC⟩
def tC(n:Nat)(t:T n)(d:Int)(h:cS n t d=true):∃c r,cK n t=c :: r/\Ny c=true:=by
 cases n with
 | zero=>simp[cS]at h
 | succ n=>exact Mx t
def Nz{c:UInt8}(h:Ny c=true):c≠93/\c≠125/\c≠44:=by refine⟨?_,?_,?_⟩<;>(rintro rfl;exact absurd h zC)
def o6(h:eW s=true):∀c,c∈s.data.toList->c≠34:=by simp only[eW,Qc]at h;intro c a;have:=Qo.1 h.2 c a;rintro rfl;exact absurd this zC
def oH(h:x.toList.isEmpty=true):x=WT:=
 (toList_nil_iff_emptyBytes x).1 mZ
def Eb(l:List UInt8)(c:UInt8):fa (l++[c])=fa l*10+(c.toNat-48):=by unfold fa;rw[List.foldl_append];rfl
def mg{c:UInt8}(h:fw c=true):48<=c.toNat/\c.toNat<=57:=by simp only[fw,Qk]at h;omega
def GB(h:∀c,c∈l->fw c=true)(a:Nat):l.foldl (λa c=>a*10+(c.toNat-48)) a<(a+1)*10 ^ J l:=by
 induction l generalizing a with
 | nil=>simp
 | cons c l e=>
  have b:=e Bh (a*10+(c.toNat-48));have f:=mg (h c zS);rw[Wr,Qs,WP];refine Qn b ?_;have d:a*10+(c.toNat-48)+1<=(a+1)*10:=E;calc (a*10+(c.toNat-48)+1)*10 ^ J l<=((a+1)*10)*10 ^ J l:=Nat.mul_le_mul_right _ d
   _=(a+1)*(10 ^ J l*10):=by rw[Nat.mul_assoc,Nat.mul_comm 10 (10 ^ J l)]
def KA(h:∀c,c∈l->fw c=true):fa l<10 ^ J l:=by have:=GB h 0;unfold fa;omega
def oL(h:∀c,c∈l->fw c=true)(a:J l<=10):fa l<10000000000:=by have b:=KA h;have d:10 ^ J l<=10 ^ 10:=Wo zC a;omega
def tU(s:ZB)(j:Nat):fw (cF s j)=true->j<s.size:=by intro h;exact Qx λa=>by rw[ir s j E]at h;exact absurd h zC
def CH(w:Zw)(R:Nat)(s:ZB)(b:Bool)(neg:Bool)(a:Nat)(e:Ending)(w':Zw):Prop:=
 cH R w w' /\ ∃k,k<=10/\a+k<=s.size/\(∀c,c∈(s.data.toList.drop a).take k->fw c=true)/\(k=10∨fw (cF s (a+k))=false) /\
  e=Zr (I U (if neg=true then -(fa ((s.data.toList.drop a).take k):Int) else (fa ((s.data.toList.drop a).take k):Int)))/\d9 w' R s ((a+k:Nat):Int) (b || k==0)
def Fq(s:ZB)(a k:Nat)(h:a+k<s.size):fa ((s.data.toList.drop a).take (k+1))=fa ((s.data.toList.drop a).take k)*10+(s[a+k].toNat-48):=by have b:k<J (s.data.toList.drop a):=gE;rw[Qq b,Eb];simp[QX]
def So (h:d9 w R s i bad) (F:s.size<=10000) (A:i<s.size) (f:cF s i=45) :
  WU WV 224 #[Zp (b5 R 0)] w (CH w R s bad true (i+1)):=by
 have n:G (WU WV 218 #[Zp (b5 R 0)] w λe w'=>e=Zr (I .u8 ((cF s i).toNat:Int))/\∃l,w'=w.drewN l):=kA h;rw[f]at n;have L:IntKind.i64.wrap ((i:Int)+1)=(i:Int)+1:=kG;have c0:=h.cell0;have c1:=h.cell1;have c2:=h.cell2;have f1:=h.free 1;have r:=λm=>(h.drewN m).set1 ((i:Int)+1);have u:∀m,cH R w ((w.drewN m).setCell ⟨R,1,Y⟩ (I U ((i:Int)+1))):=λm=>((cH.refl R w).drewN m).trans (cH.set R 1 _ _);go_enter func224,ntmps224;go_wp2_with (go_at_call 218;refine H n ?_;rintro e w' ⟨rfl,nq,rfl⟩);go_loopw [5] (λv wr=>∃k:Nat,k<=10/\(i+1)+k<=s.size/\v=I U (fa ((s.data.toList.drop (i+1)).take k):Int)/\d9 wr R s (((i+1)+k:Nat):Int) bad/\cH R w wr/\∀x,x∈(s.data.toList.drop (i+1)).take k->fw x=true) (λ_ wr=>s.size-atOf wr R);case atStart=>exact⟨0,E,E,D,by simpa using (r _),u _,dS⟩
 case round=>
  obtain⟨k,vm,hk,rfl,a,g,qr⟩:=hrel;have b:J ((s.data.toList.drop (i+1)).take k)<=10:=gE;have t:=oL qr b;have S:=a.cell0;have T:=a.cell1;have W:=a.cell2;have X:=a.free 1;have y:=a.free 2;have HR:G (d9 wr R s (((i+1)+k:Nat):Int) bad/\cH R w wr):=⟨a,g⟩;clear a g c0 c1 c2 f1 h n r u;generalize hV:fa ((s.data.toList.drop (i+1)).take k)=V at *;generalize hj:(i+1)+k=j at *;have HM:G (∀m,WU WV 218 #[Zp (b5 R 0)] (wr.drewN m) λe w'=>e=Zr (I .u8 ((cF s j).toNat:Int))/\∃l,w'=wr.drewN l):=λm=>(kA (HR.1.drewN m)).mono λe w' ⟨C,k,hk⟩=>⟨C,m+k,by rw[hk,We]⟩;have vO:G (WU WV 218 #[Zp (b5 R 0)] wr λe w'=>e=Zr (I .u8 ((cF s j).toNat:Int))/\∃l,w'=wr.drewN l):=HM.out 0;have z:(0:Int)<=((cF s j).toNat:Int):=E;have B:((cF s j).toNat:Int)<=255:=FK;by_cases vZ:fw (cF s j)=true/\k<10
  .obtain⟨vX,K⟩:=vZ;have d:=tU s j vX;have HA:G (∀x,x∈(s.data.toList.drop (i+1)).take (k+1)->fw x=true):=rM E qr (by rw[ky d]at vX;simpa only[hj] using vX);have HV:G (fa ((s.data.toList.drop (i+1)).take (k+1))=V*10+((cF s j).toNat-48)):=by show _=_;rw[Fq s (i+1) k E,hV,ky d];simp only[hj]
   have q:=mg vX;have L:IntKind.i64.wrap ((j:Int)+1)=(j:Int)+1:=kG;clear qr vX;generalize (cF s j).toNat=c at *;have q1:(48:Int)<=(c:Int):=E;have q2:(c:Int)<=57:=E;have q3:(j:Int)<((i:Int)+1)+10:=E;have o:IntKind.i64.wrap (((i:Int)+1)+10)=((i:Int)+1)+10:=kG;have N:IntKind.i64.wrap ((V:Int)*10)=(V:Int)*10:=kG;have O:IntKind.u8.wrap ((c:Int)-48)=(c:Int)-48:=by rw[ZY];omega
   have P:IntKind.i64.wrap ((c:Int)-48)=(c:Int)-48:=kG;have Q:IntKind.i64.wrap ((V:Int)*10+((c:Int)-48))=(V:Int)*10+((c:Int)-48):=kG;go_wp2_with (go_at_call 218;(first|refine H vO ?_|refine H (HM _) ?_);rintro e w' ⟨rfl,nq,rfl⟩);have p:=λnq=>((HR.1.drewN nq).set1 ((j:Int)+1));go_roundw;case rel=>exact⟨k+1,E,E,by rw[HV.out];congr 1;omega,by rw[show (((i+1)+(k+1):Nat):Int)=(j:Int)+1 by omega];exact p _,(HR.2.drewN _).trans (cH.set R 1 _ _),HA⟩
   case measure=>rw[(p _).atOf,HR.1.atOf];omega
  .have HX:G (k=10∨fw (cF s j)=false):=by exact TQ
   have HA:=a8 qr;have jL:((cF s j).toNat:Int)<48∨57<((cF s j).toNat:Int)∨(48<=((cF s j).toNat:Int)/\((cF s j).toNat:Int)<=57/\k=10):=by
    rcases HX.out with h|h;·omega
    .simp only[fw,XD]at h;omega
   have HV:=a8 hV;have HJ:G ((i+1)+k=j):=hj;have M:IntKind.i64.wrap (-(V:Int)) = -(V:Int):=kG;have o:IntKind.i64.wrap (((i:Int)+1)+10)=((i:Int)+1)+10:=kG;have HZ:G (k=0∨¬k=0):=Classical.em _;have e0:k=0->(((j:Nat):Int)==((i:Int)+1))=true:=zE;have e1:¬k=0->(((j:Nat):Int)==((i:Int)+1))=false:=zE;have e2:k=10->¬((j:Nat):Int)<((i:Int)+1)+10:=E;exact wd4
def Sp (h:d9 w R s i bad) (Y:s.size<=10000) (A:i<=s.size) (f:¬ cF s i=45) :
  WU WV 224 #[Zp (b5 R 0)] w (CH w R s bad false i):=by
 have o:G (WU WV 218 #[Zp (b5 R 0)] w λe w'=>e=Zr (I .u8 ((cF s i).toNat:Int))/\∃l,w'=w.drewN l):=kA h;have L:(((cF s i).toNat:Int)==45)=false:=by rw[Q6];intro e;apply f;apply X8.1;have y:(45:UInt8).toNat=45:=D;omega
 have c0:=h.cell0;have c1:=h.cell1;have c2:=h.cell2;have f1:=h.free 1;have p:=λm=>h.drewN m;have t:∀m,cH R w (w.drewN m):=λm=>(cH.refl R w).drewN m;go_enter func224,ntmps224;go_wp2_with (go_at_call 218;refine H o ?_;rintro e w' ⟨rfl,nq,rfl⟩);go_loopw [5] (λv wr=>∃k:Nat,k<=10/\i+k<=s.size/\v=I U (fa ((s.data.toList.drop i).take k):Int)/\d9 wr R s ((i+k:Nat):Int) bad/\cH R w wr/\∀x,x∈(s.data.toList.drop i).take k->fw x=true) (λ_ wr=>s.size-atOf wr R);case atStart=>exact⟨0,E,E,D,by simpa using (p _),t _,dS⟩
 case round=>
  obtain⟨k,vm,hk,rfl,a,g,qr⟩:=hrel;have b:J ((s.data.toList.drop i).take k)<=10:=gE;have r:=oL qr b;have S:=a.cell0;have T:=a.cell1;have W:=a.cell2;have X:=a.free 1;have u:=a.free 2;have HR:G (d9 wr R s ((i+k:Nat):Int) bad/\cH R w wr):=⟨a,g⟩;clear a g c0 c1 c2 f1 h o p t;generalize hV:fa ((s.data.toList.drop i).take k)=V at *;generalize hj:i+k=j at *;have HM:G (∀m,WU WV 218 #[Zp (b5 R 0)] (wr.drewN m) λe w'=>e=Zr (I .u8 ((cF s j).toNat:Int))/\∃l,w'=wr.drewN l):=λm=>(kA (HR.1.drewN m)).mono λe w' ⟨C,k,hk⟩=>⟨C,m+k,by rw[hk,We]⟩;have vO:G (WU WV 218 #[Zp (b5 R 0)] wr λe w'=>e=Zr (I .u8 ((cF s j).toNat:Int))/\∃l,w'=wr.drewN l):=HM.out 0;have z:(0:Int)<=((cF s j).toNat:Int):=E;have B:((cF s j).toNat:Int)<=255:=FK;by_cases vZ:fw (cF s j)=true/\k<10
  .obtain⟨vX,K⟩:=vZ;have d:=tU s j vX;have HA:G (∀x,x∈(s.data.toList.drop i).take (k+1)->fw x=true):=rM E qr (by rw[ky d]at vX;simpa only[hj] using vX);have HV:G (fa ((s.data.toList.drop i).take (k+1))=V*10+((cF s j).toNat-48)):=by show _=_;rw[Fq s i k E,hV,ky d];simp only[hj]
   have q:=mg vX;have F:IntKind.i64.wrap ((j:Int)+1)=(j:Int)+1:=kG;clear qr vX;generalize (cF s j).toNat=c at *;have q1:(48:Int)<=(c:Int):=E;have q2:(c:Int)<=57:=E;have q3:(j:Int)<(i:Int)+10:=E;have n:IntKind.i64.wrap ((i:Int)+10)=(i:Int)+10:=kG;have N:IntKind.i64.wrap ((V:Int)*10)=(V:Int)*10:=kG;have O:IntKind.u8.wrap ((c:Int)-48)=(c:Int)-48:=by rw[ZY];omega
   have P:IntKind.i64.wrap ((c:Int)-48)=(c:Int)-48:=kG;have Q:IntKind.i64.wrap ((V:Int)*10+((c:Int)-48))=(V:Int)*10+((c:Int)-48):=kG;go_wp2_with (go_at_call 218;(first|refine H vO ?_|refine H (HM _) ?_);rintro e w' ⟨rfl,nq,rfl⟩);have HS:=λnq=>((HR.1.drewN nq).set1 ((j:Int)+1));go_roundw;case rel=>exact⟨k+1,E,E,by rw[HV.out];congr 1;omega,Yi,(HR.2.drewN _).trans (cH.set R 1 _ _),HA⟩
   case measure=>rw[(HS _).atOf,HR.1.atOf];omega
  .have HX:G (k=10∨fw (cF s j)=false):=by exact TQ
   have HA:=a8 qr;have jL:((cF s j).toNat:Int)<48∨57<((cF s j).toNat:Int)∨(48<=((cF s j).toNat:Int)/\((cF s j).toNat:Int)<=57/\k=10):=by
    rcases HX.out with h|h;·omega
    .simp only[fw,XD]at h;omega
   have HV:=a8 hV;have HJ:G (i+k=j):=hj;have M:IntKind.i64.wrap (-(V:Int)) = -(V:Int):=kG;have n:IntKind.i64.wrap ((i:Int)+10)=(i:Int)+10:=kG;have HZ:G (k=0∨¬k=0):=Classical.em _;have e0:k=0->(((j:Nat):Int)==(i:Int))=true:=zE;have e1:¬k=0->(((j:Nat):Int)==(i:Int))=false:=zE;have e2:k=10->¬((j:Nat):Int)<(i:Int)+10:=E;exact wd4
def dn.map {R:α->Zv->Zv->Zv->Zv->Zv->Prop} {R':β->Zv->Zv->Zv->Zv->Zv->Prop} {l:List α} (f:α->β) (h:dn S w R l v)
  (hR:∀x c0 c1 c2 c3 c4,x∈l->R x c0 c1 c2 c3 c4->R' (f x) c0 c1 c2 c3 c4):dn S w R' (l.map f) v:=by obtain⟨ao,cap,hv,hl,hc⟩:=h;exact Yo
theorem rA:∀(k u:Nat),u<10 ^ (k+1)->Lib.nDigits u<=k+1
 | 0,u,h=>by rw[Wg mZ];omega
 | k+1,u,h=>by
  by_cases a:u<10
  .rw[Wg a];omega
  .rw[Lib.nDigits_big a]
   have:=rA k (u / 10) (by rw[WP]at h;omega)
   omega
def Ec {Dzq:List UInt8} (g:l=Dzq++post) (e:∀ c,c∈Dzq->fw c=true) (m:J Dzq<=9) (hp:lw post=true) (a:∀ c,c∈l.take k->fw c=true) (i:k<=J l)
  (b:k=10∨fw ((l.drop k).headD 0)=false):k=J Dzq:=by
 subst g;by_cases d:k<J Dzq
 .exfalso;rcases b with h|h;·omega
  .rw[List.drop_append_of_le_length E,Qy d]at h;simp only[QH,XA]at h;rw[e _ (QE d)]at h;exact eI
 .by_cases j:J Dzq<k
  .exfalso;cases post with
   | nil=>simp at i;omega
   | cons c r=>
    have f:fw c=false:=by simpa [lw] using hp
    have:fw c=true:=by apply a;rw[List.take_append];apply Xt;have:k-J Dzq=(k-J Dzq-1)+1:=E;rw[this,X3];exact zS
    rw[f]at this;cases this
  .omega
def L0 {a:Nat} {neg:Bool} {m:Int} (B : -999999999<=m/\m<=999999999) (j:s.data.toList.drop i=W6 m++post) (hp:lw post=true)
  (d:neg=decide (cF s i=45)) (f:a=if neg=true then i+1 else i) (z:a+k<=s.size)
  (h:∀c,c∈(s.data.toList.drop a).take k->fw c=true) (l:k=10∨fw (cF s (a+k))=false) :
  (if neg=true then -(fa ((s.data.toList.drop a).take k):Int) else (fa ((s.data.toList.drop a).take k):Int))=m/\a+k=i+J (W6 m)/\¬k=0:=by
 have q:∀(u:Nat),u<=999999999->s.data.toList.drop a=WZ u++post->fa ((s.data.toList.drop a).take k)=u/\k=J (WZ u)/\¬k=0:=by
  intro u C g;have o:J (WZ u)<=9:=by rw[ZP];exact rA 8 u E
  have v:=Ec g (fE u) o hp h zE (by rw[Xk];exact l);refine⟨?_,v,?_⟩;·rw[g,v,List.take_left,k9]
  .have t:=lU u;intro e;rw[e]at v;exact t (Qj E)
 have b:cF s i=(W6 m++post).headD 0:=by unfold cF;rw[j]
 by_cases t:m<0
 .have n:W6 m=45 :: WZ m.natAbs:=by unfold W6;rw[Qm t]
  rw[n]at j b;have p:neg=true:=by rw[d,b];rfl
  rw[Qm p]at f;have g:s.data.toList.drop a=WZ m.natAbs++post:=by rw[f,<- Xk,j];rfl
  have⟨w,x,k3⟩:=q m.natAbs E g;refine⟨by rw[Qm p,w];omega,?_,k3⟩;rw[n,f,Qs,x];omega
 .have n:W6 m=WZ m.toNat:=by unfold W6;rw[Qd t]
  rw[n]at j b;have p:neg=false:=by rw[d,b];have⟨c,r,e,y⟩:=oM m.toNat;rw[e];simp only[QH,XA];refine QU ?_;rintro rfl;rw[CU]at y;cases y
  rw[p]at f;simp only[Xu,Zf]at f;have g:s.data.toList.drop a=WZ m.toNat++post:=by rw[f,j]
  have⟨w,x,k3⟩:=q m.toNat E g;refine⟨by rw[p];simp only[Xu,Zf];rw[w];omega,?_,k3⟩;rw[n,f,x]
def ER {p:List (T n)} (h:im R (w.heap.size+1) n Wb wr so ns p nv kv) (K:R<w.heap.size) (c:cH R w Wb)
  (u:Wb.heap.size=w.heap.size+1) (z:d9 wr R s i' b) (o:(Ud U so).wf=true) (m:J ns<=20000) (l:J p<=20000) :
  cH R w (eF (wr.setCell ⟨R,1,Y⟩ (I U ((i':Int)+1))) w.heap.size 0 (I U so) (I U 0) (Zt WT) nv kv) /\
  d9 (eF (wr.setCell ⟨R,1,Y⟩ (I U ((i':Int)+1))) w.heap.size 0 (I U so) (I U 0) (Zt WT) nv kv) R s ((i'+1:Nat):Int) b /\
  cT (λb=>w.heap.size<=b/\b<(eF (wr.setCell ⟨R,1,Y⟩ (I U ((i':Int)+1))) w.heap.size 0 (I U so) (I U 0) (Zt WT) nv kv).heap.size)
   (eF (wr.setCell ⟨R,1,Y⟩ (I U ((i':Int)+1))) w.heap.size 0 (I U so) (I U 0) (Zt WT) nv kv) (n+1) (⟨so,0,WT,ns,p⟩:F (T n)) (I U so) (I U 0) (Zt WT) nv kv:=by
 have L:=h.lt;have M:=h.near.size;generalize a:eF (wr.setCell ⟨R,1,Y⟩ (I U ((i':Int)+1))) w.heap.size 0 (I U so) (I U 0) (Zt WT) nv kv=Wf;have B:Wf.heap.size=wr.heap.size:=by rw[<- a,eJ];simp
 have q:∀b,b≠R->b≠w.heap.size->Wf.heap[b]?=wr.heap[b]?:=λb r t=>by rw[<- a,dt t,Qr _ _ _ _ r]
 have d:Below 0 wr Wf:=by rw[<- a];exact dk ((Qg 0 wr).setCell E _) E
 have⟨N,i,y⟩:=h.o;refine⟨⟨?_,?_,?_,E,λb k f=>?_⟩,?_,?_⟩;·rw[d.os];exact h.near.os.trans c.os
 .rw[d.tape];exact h.near.tape.trans c.tape
 .rw[d.output];exact h.near.output.trans c.output
 .rw[q b f E];exact (h.near.block b E f).trans (c.block b k f)
 .have:=z.set1 ((i':Int)+1);unfold d9 at this ⊢;rw[<- a,dt E];exact this
 .refine⟨D,D,D,gO,o,(by rfl:(Ud U 0).wf=true),?_,?_⟩
  .refine sP (eT h.q λg e=>?_) m h.short λg e=>?_;·have:=dT h.q g e;exact q g E E
   .have:=dT h.q g e;exact⟨E,E⟩
  .refine us (eT i λg e=>?_) l (λg e=>?_) λj x=>?_;·have:=dT i g e;exact q g E E
   .have:=dT i g e;exact⟨E,E⟩
   .have⟨c0,c1,c2,c3,c4,v,C⟩:=y j x;refine⟨c0,c1,c2,c3,c4,v,C.keep (λb k=>?_) (λb k=>?_)⟩;·have:=k.1;exact q b E E
    .have:=k.1;have:=k.2.1;exact⟨E,E⟩
def dW(m n:Nat)(w:Zw)(R:Nat)(s:ZB)(i:Nat)(c:Bool)(e:Ending)(w':Zw):Prop:=
 cH R w w' /\ ∃(t:T m)(c0 c1 c2 c3 c4:Zv)(f:Nat)(a:Bool),e=Zr (Za #[c0,c1,c2,c3,c4])/\cT (λb=>w.heap.size<=b/\b<w'.heap.size) w' m t c0 c1 c2 c3 c4/\d9 w' R s f a /\
  i<=f/\(a=false->c=false/\i<f/\f<=s.size)/\(c=false->f<=s.size+n)/\(c=true->f=i) /\
  (∀(t0:T m) d,c=false->s.data.toList.drop i=cK m t0++d->cS m t0 (7-(n:Int))=true->lw d=true->t=t0/\a=false/\f=i+J (cK m t0))
def kg(n:Nat):Prop:=∀(m R:Nat)(s:ZB)(i:Nat)(a:Bool)(w:Zw),n+1<=m->d9 w R s i a->s.size<=10000->(a=false->i<=s.size)->i<=20000 ->
 WU WV 186 #[Zp (b5 R 0),I U (7-(n:Int))] w (dW m n w R s i a)
def Dh(w:Zw)(R:Nat)(a:Nat):Nat:=match a7 w R 2 with|Z (.bool true)=>0|_=>a+1-atOf w R
def d9.left(h:d9 w R s i b)(a:Nat):Dh w R a=if b=true then 0 else a+1-i:=by unfold Dh;rw[h.cell2,h.atOf];cases b<;>simp
def wi(m n:Nat)(s:ZB)(i:Nat)(e:List (T m))(d:Nat)(a:Bool):Prop:=
 i<d/\(a=false->d<=s.size)/\d<=s.size+n/\J e<=d+(if a=true then 1 else 0) /\
  ∀(b:List (T m)) c,s.data.toList.drop (i+1)=cX (b.map (cK m))++93 :: c->(∀k,k∈b->cS m k (7-(n:Int))=true) ->
   ∃k,k<=J b/\e=b.take k/\a=false/\s.data.toList.drop d=dH (decide (k=0)) ((b.drop k).map (cK m))++93 :: c
def Tryz.info_treeR:(prog.info? 31).map (λi=>(i.zero,i.size,i.bytes))=Z (Z (Za #[I U 0,I U 0,Zt ⟨#[]⟩,A Y 0 0,A Y 0 0]),5,80):=gZ
def wz{z:Nat}(h:W.ownsRow (X+1) e z v k xs)(c:R<X)(a:cH R W w2)(o:Obj):(w2.alloc o).ownsRow (X+1) e z v k xs:=
 eT h λg d=>by
  have b:=dT h g d
  have f:=a.size
  rw[Qf _ _ _ E]
  exact a.block g b.2 E
def sM {z:Nat} {u:Zv} {j:Int} {q:Nat} (a:d9 w2 R s j b) (h:W.ownsRow (X+1) e z v k xs) (c:R<X) (d:(w2.alloc o).grownBy w3 v.ownBlock) :
  d9 (w3.setCell ⟨X,q,Y⟩ u) R s j b:=by have f:=a.lt;unfold d9 at a ⊢;rw[Qr _ _ _ _ (by show R≠X;omega),d.block R zE (λe=>by have:=dT h R e.symm;omega),Qf _ _ _ f];exact a
def pz{z:Nat}(h:W.ownsRow (X+1) e z v k xs)(c:X<W.heap.size)(b:R<X)(a:cH R W w2)(d:(w2.alloc o).grownBy w3 v.ownBlock):w3.heap[X]?=W.heap[X]?:=by have f:=a.size;rw[d.block X zE (λe=>by have:=dT h X e.symm;omega),Qf _ _ _ E];exact a.block X c E
def im.kidD {a:List (T n)} {t:T n} (m:Nat) (s:im R X n w wr so ns a nv kv) (d:R<X) (B:w.heap.size<=X)
  (y:cH R (wr.drewN m) W1) (z:cT (λb=>(wr.drewN m).heap.size<=b/\b<W1.heap.size) W1 n t c0 c1 c2 c3 c4) 
  (k:wr.ownsRow (X+1) 31 5 kv (J a) xs) (x:∀j (h:j<J a),∃c0 c1 c2 c3 c4,(xs[j*5]?=Z c0/\xs[j*5+1]?=Z c1/\xs[j*5+2]?=Z c2/\xs[j*5+3]?=Z c3/\xs[j*5+4]?=Z c4)/\cT (YN (X+1) nv kv wr.heap.size) wr n a[j] c0 c1 c2 c3 c4)
  (e:W2.ownsRow (X+1) 31 5 (A (b5 g 0) (J a+1) cap) (J a+1) (xs++[c0,c1,c2,c3,c4])) (c:(W1.alloc one).grownBy W2 kv.ownBlock) (f:kv.ownBlock=Z g∨g=W1.heap.size+1) :
  im R X n w (W2.setCell ⟨X,4,Y⟩ (A (b5 g 0) (J a+1) cap)) so ns (a++[t]) nv (A (b5 g 0) (J a+1) cap):=
 im.kid (W:=wr.drewN m) (Wa:=W1.alloc one) (one:=one) (s.keep d ((cH.refl R wr).drewN m)) d B y z D ⟨D,D,D⟩ k
  (λj v=>by have⟨l,o,p,q,r,u,i⟩:=x j v;exact⟨l,o,p,q,r,u,cT.keep (S:=YN (X+1) nv kv wr.heap.size) (w:=wr) (w':=wr.drewN m) ik zI i⟩) e c f
def La {w1:Zw} {c:List (T n)} (a:wr.ownsRow (X+1) 31 5 kv k xs)
  (t:∀j (h:j<J c),∃c0 c1 c2 c3 c4,(xs[j*5]?=Z c0/\xs[j*5+1]?=Z c1/\xs[j*5+2]?=Z c2/\xs[j*5+3]?=Z c3/\xs[j*5+4]?=Z c4)/\cT (YN (X+1) nv kv wr.heap.size) wr n c[j] c0 c1 c2 c3 c4)
  (p:R<X) (hn:cH R wr w1):w1.ownsRow (X+1) 31 5 kv k xs /\
   ∀j (h:j<J c),∃c0 c1 c2 c3 c4,(xs[j*5]?=Z c0/\xs[j*5+1]?=Z c1/\xs[j*5+2]?=Z c2/\xs[j*5+3]?=Z c3/\xs[j*5+4]?=Z c4)/\cT (YN (X+1) nv kv w1.heap.size) w1 n c[j] c0 c1 c2 c3 c4:=by
 refine⟨eT a λg r=>?_,λj s=>?_⟩;·have o:=dT a g r;exact hn.block g o.2 E
 .have⟨e,f,i,l,m,q,d⟩:=t j s;refine⟨e,f,i,l,m,q,d.keep (λb hb=>hn.block b hb.2.1 pe) P3⟩
def wD(s:ZB)(L b c:Nat)(a:Bool):Prop:=
 (L=0/\c=b/\a=false)∨(¬L=0/\((dq [44] (s.data.toList.drop b)=Z (s.data.toList.drop (b+1))/\b+1<=s.size/\c=b+1/\a=false)∨(dq [44] (s.data.toList.drop b)=Y/\c=b/\a=true)))
def Lq {l:List (T m)} {e f:Nat} {a jJ:Bool} {t2:T m} (x:wi m n s i l i' false) (q:¬ cF s i'=93) (hc:wD s (J l) i' e a)
  (hp:e<=f/\(jJ=false->a=false/\e<f/\f<=s.size)/\(a=false->f<=s.size+n)/\(a=true->f=e) /\
   (∀(t0:T m) b,a=false->s.data.toList.drop e=cK m t0++b->cS m t0 (7-(n:Int))=true->lw b=true->t2=t0/\jJ=false/\f=e+J (cK m t0))) :
  wi m n s i (l++[t2]) f jJ/\(if jJ=true then 0 else s.size+1-f)<s.size+1-i':=by
 obtain⟨R,t,S,u,w⟩:=x;obtain⟨W,p2,L,M,N⟩:=hp;have t:=t D;have u:J l<=i':=by simpa using u
 have C:i'<=e:=by exact PF
 refine⟨⟨E,λh=>(p2 h).2.2,?_,?_,λc b z v=>?_⟩,?_⟩
 .cases a with
  | false=>exact L D
  | true=>
   have:=M D;rcases hc with ⟨-,-,h⟩|⟨-,⟨-,-,-,h⟩|⟨-,h,-⟩⟩;·exact eI
   .exact eI
   .omega
 .rw[Qi,QM];exact Pw
 .obtain⟨k,V,g,-,hd⟩:=w c b z v;have K:J l=k:=by rw[g,Xj];omega
  have j:k<J c:=by refine Qx λB=>q ?_;have:c.drop k=[]:=zE;rw[this]at hd;unfold cF;rw[hd];rfl
  have o:=Qy j;rw[o,Xx,dH,QZ]at hd;have d:a=false/\s.data.toList.drop e=cK m c[k]++(dH false ((c.drop (k+1)).map (cK m))++93 :: b):=by
   by_cases qE:k=0;·simp only[qE,XU,XX]at hd;exact Yf
   .simp only[qE,Zq,Xu,Zf,QH]at hd;exact TT
  have p:lw (dH false ((c.drop (k+1)).map (cK m))++93 :: b)=true:=by
   cases c.drop (k+1) with
   | nil=>rfl
   | cons y r=>rw[Xx,gD];rfl
  have⟨O,P,Q⟩:=N c[k] _ d.1 d.2 (v _ zS) p;refine⟨k+1,E,?_,P,?_⟩;·rw[Qq j,<- g,O]
  .rw[Q,<- Xk,d.2,ZQ];exact dS
 .exact Py
def oD(m n:Nat)(w:Zw)(R:Nat)(s:ZB)(i:Nat)(e:Ending)(w':Zw):Prop:=
 cH R w w' /\ ∃(g:List (T m))(j h:Zv)(d:Nat)(a:Bool),e=Zr (Za #[I U 4,I U 0,Zt WT,j,h]) /\
  cT (λb=>w.heap.size<=b/\b<w'.heap.size) w' (m+1) (⟨4,0,WT,[],g⟩:F (T m)) (I U 4) (I U 0) (Zt WT) j h/\d9 w' R s d a /\
  i<d/\(a=false->d<=s.size)/\d<=s.size+n+1 /\
  (∀(c:List (T m)) f,s.data.toList.drop (i+1)=cX (c.map (cK m))++93 :: f->(∀k,k∈c->cS m k (7-(n:Int))=true) ->
   g=c/\a=false/\d=i+J (cX (c.map (cK m)))+2)
def EM {a:Bool} {o:List (T m)} (h:im R (w.heap.size+1) m Wb wr 4 [] o nv kv) (M:R<w.heap.size) (t:cH R w Wb)
  (p:Wb.heap.size=w.heap.size+1) (S:d9 wr R s i' a) (L:wi m n s i o i' a) (F:s.size<=10000) (P:n<=5) (jd:a=false->cF s i'=93) :
  oD m n w R s i (Zr (Za #[I U 4,I U 0,Zt WT,nv,kv])) (eF (wr.setCell ⟨R,1,Y⟩ (I U ((i':Int)+1))) w.heap.size 0 (I U 4) (I U 0) (Zt WT) nv kv):=by
 obtain⟨qa,v,ql,C,K⟩:=L;have N:J o<=20000:=by cases a<;>simp at C<;>omega
 have⟨V,W,X⟩:=ER h M t p S cU (Q9 _) N;refine⟨V,o,nv,kv,i'+1,a,D,X,W,E,λhb=>?_,E,λb l y z=>?_⟩;·have:=v hb;exact PY
 .have⟨k,qc,q,hb,x⟩:=K b l y z;have zP:=jd hb;have g:k=J b:=by
   refine Qx λQ=>?_;have j:k<J b:=E;unfold cF at zP;rw[x,Qy j,Xx,dH]at zP;have⟨c,r,e,f⟩:=tC m b[k] (7-(n:Int)) (z _ zS);by_cases d:k=0;·simp only[d,XU,XX]at zP;simp only[d]at e;rw[e]at zP;simp only[QH,XA]at zP;exact (Nz f).1 zP
   .simp only[d,Zq,Xu,Zf,QH,XA]at zP;exact absurd zP zC
  refine⟨by rw[q,g,QG],hb,?_⟩;have O:=v hb;have u:=Xc Uh x;have B:=Xc Uh y;rw[g,Zz]at u;simp[dH]at u B;have j:i'<s.size:=by refine Qx λje=>?_;rw[ir s i' E]at zP;exact E
  omega
def Lz (hn:kg n) (ab:n<=5) (hm:n+1<=m) (h:d9 w R s i false) (hs:s.size<=10000) (hi:i<s.size) :
  WU WV 223 #[Zp (b5 R 0),I U 4,I .u8 93,I U (6-n)] w (oD m n w R s i):=by
 have c1:=h.cell1;have c2:=h.cell2;have f1:=h.free 1;have hR:=h.lt;have aH:IntKind.i64.wrap ((i:Int)+1)=(i:Int)+1:=kG;have ag:cH R w ((w.setCell ⟨R,1,Y⟩ (I U ((i:Int)+1))).alloc d8):=(cH.set R 1 w _).trans (cH.alloc _ _ _);have av:d9 ((w.setCell ⟨R,1,Y⟩ (I U ((i:Int)+1))).alloc d8) R s ((i+1:Nat):Int) false:=
  (Qf _ _ _ (by simpa using hR)).trans (h.set1 ((i:Int)+1))
 have N:((w.setCell ⟨R,1,Y⟩ (I U ((i:Int)+1))).alloc d8).heap[w.heap.size]?=Z d8:=by have:=Qh (w.setCell ⟨R,1,Y⟩ (I U ((i:Int)+1))) d8;exact iG
 have q6:((w.setCell ⟨R,1,Y⟩ (I U ((i:Int)+1))).alloc d8).heap.size=w.heap.size+1:=dS;go_enter func223,ntmps223;go_wp2_with fail;generalize ((w.setCell ⟨R,1,Y⟩ (I U ((i:Int)+1))).alloc d8)=Wb at *;go_loopw [23] (λ_ wr=>∃(ks:List (T m))(nv kv:Zv)(a:Nat)(k:Bool),im R (w.heap.size+1) m Wb wr 4 [] ks nv kv/\d9 wr R s a k/\wi m n s i ks a k) (λ_ wr=>Dh wr R s.size);case atStart=>
  refine⟨[],A Y 0 0,A Y 0 0,i+1,false,⟨cH.alloc _ _ _,?_,⟨D,.inl ⟨D,D⟩⟩,dS,⟨[],⟨D,.inl ⟨D,D⟩⟩,λj hj=>absurd hj (XJ _)⟩,λb hb=>by cases hb⟩,?_,?_⟩;·rw[<- q6];exact Qh _ _
  .exact (Qf _ _ _ E).trans av
  .refine⟨E,E,E,dS,λaJ aA he hg=>⟨0,E,dS,D,?_⟩⟩;rw[he];simp[gN]
 case round=>
  obtain⟨ks,nv,kv,a,k,hM,hr,hI⟩:=hrel;obtain⟨na,nc,rfl⟩:=rF hM.q;have⟨xs,j0,z⟩:=hM.o;obtain⟨t,x,rfl⟩:=rF j0;have hX:=hM.lt;have x3:a7 wr (w.heap.size+1) 3=Z (A na 0 nc):=q8;have x4:a7 wr (w.heap.size+1) 4=Z (A t (J ks) x):=q8;have xf:wr.frozen? ⟨w.heap.size+1,4,Y⟩=false:=by simp[W7,hM.box]
  have d1:=hr.cell1;have d2:=hr.cell2;have df:=hr.free 1;have aq:=hI;obtain⟨aD,q7,aE,ql,-⟩:=aq;have HM:=a8 hM;have HR:G (d9 wr R s a k):=hr;have HI:=a8 hI;have qq:=a8 j0;have HK:=a8 z;clear hM hr hI j0 z c1 c2 f1 h;cases k with
  | true=>
   have aw:IntKind.i64.wrap ((a:Int)+1)=(a:Int)+1:=kG;have gb:wr.heap[w.heap.size]?=_:=(HM.near.block w.heap.size E E).trans N;have g0:a7 wr w.heap.size 0=Z (I U 0):=my;have g1:a7 wr w.heap.size 1=Z (I U 0):=my;have g2:a7 wr w.heap.size 2=Z (Zt ⟨#[]⟩):=my;have g3:a7 wr w.heap.size 3=Z (A Y 0 0):=my;have g4:a7 wr w.heap.size 4=Z (A Y 0 0):=my;have p:∀o,wr.frozen? ⟨w.heap.size,o,Y⟩=false:=λo=>by simp[W7,gb]
   have al:=p 0;have am:=p 1;have an:=p 2;have ao:=p 3;have ap:=p 4;have y0:a7 wr (w.heap.size+1) 0=Z (I U 4):=Cr;have y1:a7 wr (w.heap.size+1) 1=Z (I U 0):=Cr;have y2:a7 wr (w.heap.size+1) 2=Z (Zt WT):=Cr;clear gb p;have HZ:G (oD m n w R s i _ _):=EM HM hR ag q6 HR HI hs ab zS;go_wp2_with fail;exact XQ J1 D HZ
  | false=>
   have ar:a<=s.size:=q7 D;have ay:J ks<=a:=by simpa using ql
   clear q7 ql;have q5:G (WU WV 218 #[Zp (b5 R 0)] wr λe w'=>e=Zr (I .u8 ((cF s a).toNat:Int))/\∃m',w'=wr.drewN m'):=kA HR;have aC:((cF s a).toNat:Int)<=255:=by have:=(cF s a).toNat_lt;omega
   by_cases l:cF s a=93
   .have aw:IntKind.i64.wrap ((a:Int)+1)=(a:Int)+1:=kG;have gb:wr.heap[w.heap.size]?=_:=(HM.near.block w.heap.size E E).trans N;have g0:a7 wr w.heap.size 0=Z (I U 0):=my;have g1:a7 wr w.heap.size 1=Z (I U 0):=my;have g2:a7 wr w.heap.size 2=Z (Zt ⟨#[]⟩):=my;have g3:a7 wr w.heap.size 3=Z (A Y 0 0):=my;have g4:a7 wr w.heap.size 4=Z (A Y 0 0):=my;have p:∀o,wr.frozen? ⟨w.heap.size,o,Y⟩=false:=λo=>by simp[W7,gb]
    have al:=p 0;have am:=p 1;have an:=p 2;have ao:=p 3;have ap:=p 4;have y0:a7 wr (w.heap.size+1) 0=Z (I U 4):=Cr;have y1:a7 wr (w.heap.size+1) 1=Z (I U 0):=Cr;have y2:a7 wr (w.heap.size+1) 2=Z (Zt WT):=Cr;clear gb p;have O:(cF s a).toNat=93:=by rw[l];rfl
    have HZ:G (∀q,oD m n w R s i _ _):=λq=>EM (HM.keep E ((cH.refl R wr).drewN q)) hR ag q6 (HR.drewN q) HI hs ab zE;rw[O]at q5;clear O l;go_wp2_with (go_at_call 218;refine H q5 ?_;rintro e w' ⟨rfl,nq,rfl⟩);refine XQ (v:=Uy 4 0 WT na 0 nc t (J ks) x) J1 D ?_;exact HZ nq
   .have aG:(((cF s a).toNat:Int)==93)=false:=by rw[Q6];intro e;apply l;apply X8.1;have aB:(93:UInt8).toNat=93:=D;omega
    have HE:G (¬cF s a=93):=l;clear l;generalize (cF s a).toNat=c at *;have HW:G (∃r:Bool,r=decide ((0:Int)<(J ks:Int))):=⟨_,D⟩;have⟨i0,qc,ah,ai,aj⟩:=QY Tryz.info_treeR;have f:G (_/\_/\_/\_):=⟨qc,ah,ai,aj⟩;have aI:IntKind.i64.wrap (6-(n:Int)+1)=7-(n:Int):=kG;clear qc ah ai aj;cases r:decide ((0:Int)<(J ks:Int)) with
    | false=>
     have aF:((J ks:Nat):Int)<=0:=by simpa using r
     clear r;have HC:G (∀q,WU WV 186 #[Zp (b5 R 0),I U (7-(n:Int))] (wr.drewN q) (dW m n (wr.drewN q) R s a false)):=λq=>hn m R s a false _ hm (HR.drewN m) hs E E;have xM:G (wD s (J ks) a a false):=.inl ⟨E,D,D⟩;go_wp2_with (go_at_call 218;refine H q5 ?_;rintro e w' ⟨rfl,nq,rfl⟩);have P:G (WU WV 186 #[Zp (b5 R 0),I U (7-(n:Int))] (wr.drewN nq).drew (dW m n (wr.drewN nq).drew R s a false)):=HC.out (nq+1);go_region_law (first
      | (refine Xd _ cU (.tmp 49) (.tmp 54) 29 cU (w.heap.size+1+1) 31 i0 _ 5 80 underlying29 f.1 f.2.1 f.2.2.1 f.2.2.2 D mz (A t (J ks) x) (J ks) xs cU (zh _) ⟨y.heap.size,0,Y⟩ 1 1 [I U B,I U C,Zt K,A ya yl yc,A za zl zc] cU D (QB (Qh y _)) iz mz fA (by omega) gE (y.heap.size+1) dS ?_;intro g cap w3 qd qg qy au;have qt:=(pz (W:=(wr.drewN nq).drew) qq.out hX (by omega) qQ qg).trans HM.box;have zJ:a7 w3 (w.heap.size+1) 4=Z (A t (J ks) x):=rf;have jy:w3.frozen? ⟨w.heap.size+1,4,Y⟩=false:=rg)
      | (go_simp;go_at_call 186;refine H P ?_;rintro e y ⟨qQ,t2,y0,y1,y2,y3,y4,i2,jJ,rfl,zG,jv,xm⟩;obtain⟨B,C,K,ya,yl,yc,za,zl,zc,rfl,rfl,rfl,rfl,rfl⟩:=zG.shape;have af:wr.heap.size<=y.heap.size:=qQ.size;have zh:=λo=>wz (R:=R) (X:=w.heap.size+1) (W:=(wr.drewN nq).drew) qq E qQ o;have vt:a7 y (w.heap.size+1) 4=Z (A t (J ks) x):=(Ql (qQ.block (w.heap.size+1) (by simpa using hX) E)).trans x4;have vw:a7 (y.alloc (UA B C K ya yl yc za zl zc)) (w.heap.size+1) 4=Z (A t (J ks) x):=(Ql (Qf _ _ _ FD)).trans vt))
     all_goals
      have HF:G (im R (w.heap.size+1) m Wb (w3.setCell ⟨w.heap.size+1,4,Y⟩ (A (b5 g 0) (J ks+1) cap)) 4 [] (ks++[t2]) (A na 0 nc) (A (b5 g 0) (J ks+1) cap)):=
       im.kidD (nq+1) HM E E qQ zG qq HK qd qg qy
      have HG:=sM (X:=w.heap.size+1) (q:=4) (u:=A (b5 g 0) (J ks+1) cap) (W:=(wr.drewN nq).drew) jv qq E qg
      exact Ti
    | true=>
     have az:(0:Int)<((J ks:Nat):Int):=by simpa using r
     have j2:G (¬(J ks)=0):=by show ¬_;omega
     clear r;go_wp2_with (go_at_call 218;refine H q5 ?_;rintro e w' ⟨rfl,nq,rfl⟩);refine H (fC ⟨#[44]⟩ (HR.drewN nq) hs zC ar) ?_;rintro e w1 ⟨rfl,aa,ad⟩;obtain⟨q9,d,ae,F,ac,Q⟩:∃(q9:Nat)(d:Bool),d9 w1 R s q9 d/\wD s (J ks) a q9 d/\(d=false->q9<=s.size)/\q9<=20000:=by
      rcases ad with ⟨he,hz,h⟩|⟨he,h⟩;·exact⟨a+1,false,h,.inr ⟨j2,.inl ⟨he,hz,D,D⟩⟩,λ_=>hz,E⟩
      .exact⟨a,true,h,.inr ⟨j2,zE⟩,E,E⟩
     have V:cH R wr w1:=((cH.refl R wr).drewN nq).trans aa;have L:G (im R (w.heap.size+1) m Wb w1 4 [] ks (A na 0 nc) (A t (J ks) x)):=HM.keep E V;have S:=La qq HK E V;have M:G (w1.ownsRow (w.heap.size+1+1) 31 5 (A t (J ks) x) (J ks) xs):=S.1;have ak:G (∀j (h:j<J ks),_):=S.2;have xM:=a8 F;have qa:=L.lt;have ax:a7 w1 (w.heap.size+1) 4=Z (A t (J ks) x):=by simp[WY,L.box]
     have P:G (WU WV 186 #[Zp (b5 R 0),I U (7-(n:Int))] w1.drew (dW m n w1.drew R s q9 d)):=hn m R s q9 d _ hm (ae.drewN 1) hs ac Q;clear S F ad ae aa V x3 x4 xf d1 d2 df q5 qq HK HM;go_wp2_with fail;go_region_law (first
      | (refine Xd _ cU (.tmp 49) (.tmp 54) 29 cU (w.heap.size+1+1) 31 i0 _ 5 80 underlying29 f.1 f.2.1 f.2.2.1 f.2.2.2 D mz (A t (J ks) x) (J ks) xs cU (zh _) ⟨y.heap.size,0,Y⟩ 1 1 [I U B,I U C,Zt K,A ya yl yc,A za zl zc] cU D (QB (Qh y _)) iz mz fA (by omega) gE (y.heap.size+1) dS ?_;intro g cap w3 qd qg qy au;have qt:=(pz (W:=w1.drew) M.out qa (by omega) qQ qg).trans L.box;have zJ:a7 w3 (w.heap.size+1) 4=Z (A t (J ks) x):=rf;have jy:w3.frozen? ⟨w.heap.size+1,4,Y⟩=false:=rg)
      | (go_simp;go_at_call 186;refine H P ?_;rintro e y ⟨qQ,t2,y0,y1,y2,y3,y4,i2,jJ,rfl,zG,jv,xm⟩;obtain⟨B,C,K,ya,yl,yc,za,zl,zc,rfl,rfl,rfl,rfl,rfl⟩:=zG.shape;have af:w1.heap.size<=y.heap.size:=qQ.size;have zh:=λo=>wz (R:=R) (X:=w.heap.size+1) (W:=w1.drew) M E qQ o;have vt:a7 y (w.heap.size+1) 4=Z (A t (J ks) x):=(Ql (qQ.block (w.heap.size+1) (by simpa using qa) E)).trans ax;have vw:a7 (y.alloc (UA B C K ya yl yc za zl zc)) (w.heap.size+1) 4=Z (A t (J ks) x):=(Ql (Qf _ _ _ FD)).trans vt))
     all_goals
      have HF:G (im R (w.heap.size+1) m Wb (w3.setCell ⟨w.heap.size+1,4,Y⟩ (A (b5 g 0) (J ks+1) cap)) 4 [] (ks++[t2]) (A na 0 nc) (A (b5 g 0) (J ks+1) cap)):=
       im.kidD 1 L E E qQ zG M ak qd qg qy
      have HG:=sM (X:=w.heap.size+1) (q:=4) (u:=A (b5 g 0) (J ks+1) cap) (W:=w1.drew) jv M E qg
      exact Ti
structure nh(R n:Nat)(w wr:Zw)(ns:List ZB)(ks:List (T n))(nv kv:Zv):Prop where
 near:cH R w wr
 q:wr.ownsRow w.heap.size 9 1 nv (J ns) (ns.map Zt)
 short:∀s,s∈ns->s.size<=10000
 o:∃xs,wr.ownsRow w.heap.size 71 1 kv (J ks) xs/\∀j (h:j<J ks),∃c,xs[j]?=Z c/\dL (Fr w.heap.size nv kv wr.heap.size) wr n ks[j] c
 apart:∀b,nv.ownBlock=Z b->kv.ownBlock≠Z b
def nh.start(R n:Nat)(w wr:Zw)(h:cH R w wr):nh R n w wr [] [] (A Y 0 0) (A Y 0 0):=
 ⟨h,QV _ _ _ _,λ_ h=>eI,⟨[],QV _ _ _ _,λj h=>absurd h (XJ _)⟩,λb a=>by cases a⟩
def nh.keep{i:List (T n)}(h:nh R n w wr ns i nv kv)(s:R<w.heap.size)(hn:cH R wr W):nh R n w W ns i nv kv:=by
 have d:∀b,w.heap.size<=b->b<wr.heap.size->W.heap[b]?=wr.heap[b]?:=λb r k=>hn.block b k E;have⟨q,f,o⟩:=h.o;refine⟨h.near.trans hn,cV h.q λg a=>?_,h.short,⟨q,cV f λg a=>?_,λj m=>?_⟩,h.apart⟩;·have:=cO h.q g a;exact d g this.1 this.2
 .have:=cO f g a;exact d g this.1 this.2
 .have⟨c,l,p⟩:=o j m;exact⟨c,l,p.keep (λb e=>d b e.1 e.2.1) P3⟩
def nh.name {l:List (T n)} (h:nh R n w W ns l nv kv)
  (ha:Wa.heap=W.heap.push one) (k:Wa.os=W.os/\Wa.tape=W.tape/\Wa.output=W.output) (hx:x.size<=10000)
  (a:W2.ownsRow w.heap.size 9 1 (A (b5 g 0) (J ns+1) cap) (J ns+1) (ns.map Zt++[Zt x])) (qg:Wa.grownBy W2 nv.ownBlock) (qy:nv.ownBlock=Z g∨g=W.heap.size+1) :
  nh R n w W2 (ns++[x]) l (A (b5 g 0) (J ns+1) cap) kv/\(∀b,b<w.heap.size->W2.heap[b]?=W.heap[b]?)/\W.heap.size<=W2.heap.size:=by
 have y:W2.heap.size ≥ W.heap.size+1:=pP;have qS:=cO h.q;have o:=cO a g D;have u:=h.near.size;have q:∀b,b<W.heap.size->nv.ownBlock≠Z b->W2.heap[b]?=W.heap[b]?:=λb hb qh=>by exact Gc
 have⟨v,f,r⟩:=h.o;have qn:=cO f;refine⟨⟨⟨?_,?_,?_,E,λb hb qh=>?_⟩,?_,?_,⟨v,cV f λi d=>?_,λj p=>?_⟩,λb hb=>?_⟩,λb hb=>q b E (λe=>tP),E⟩;·rw[qg.os,k.1];exact h.near.os
 .rw[qg.tape,k.2.1];exact h.near.tape
 .rw[qg.output,k.2.2];exact h.near.output
 .rw[q b E (λe=>tP)];exact h.near.block b hb qh
 .rw[Qi,QM,Q8,XV];exact a
 .exact FQ
 .have:=qn i d;exact q i this.2 (λe=>h.apart i e d)
 .have⟨c,m,t⟩:=r j p;refine⟨c,m,t.keep (λb hb=>?_) (λb hb=>?_)⟩;·exact q b hb.2.1 hb.2.2.1
  .refine⟨hb.1,Ad,?_,hb.2.2.2⟩;exact S1
 .exact FC
def nh.kid {a:List (T n)} {t:T n} {c:Zv} (h0:nh R n w W ns a nv kv) (s:R<w.heap.size)
  (hn:cH R W W1) (y:dL (λb=>W.heap.size<=b/\b<W1.heap.size) W1 n t c)
  (ha:Wa.heap=W1.heap.push one) (ho:Wa.os=W1.os/\Wa.tape=W1.tape/\Wa.output=W1.output) 
  (l:W.ownsRow w.heap.size 71 1 kv (J a) xs) (x:∀j (h:j<J a),∃c,xs[j]?=Z c/\dL (Fr w.heap.size nv kv W.heap.size) W n a[j] c)
  (f:W2.ownsRow w.heap.size 71 1 (A (b5 g 0) (J a+1) cap) (J a+1) (xs++[c])) (qg:Wa.grownBy W2 kv.ownBlock) (qy:kv.ownBlock=Z g∨g=W1.heap.size+1) :
  nh R n w W2 ns (a++[t]) nv (A (b5 g 0) (J a+1) cap)/\(∀b,b<w.heap.size->W2.heap[b]?=W1.heap[b]?)/\W1.heap.size<=W2.heap.size:=by
 have B:=hn.size;have z:=h0.near.size;have C:W2.heap.size ≥ W1.heap.size+1:=pP;have qS:=cO h0.q;have qn:=cO l;have v:=cO f g D;have r:∀b,b<W1.heap.size->kv.ownBlock≠Z b->W2.heap[b]?=W1.heap[b]?:=λb hb qh=>by exact Gc
 have q:∀b,b<W.heap.size->b≠R->kv.ownBlock≠Z b->W2.heap[b]?=W.heap[b]?:=λb hb s qh=>by rw[r b E qh,hn.block b hb s]
 have p:J xs=J a*1:=l.1;refine⟨⟨⟨?_,?_,?_,E,λb hb qh=>?_⟩,cV h0.q λm i=>?_,h0.short,⟨xs++[c],?_,λj hj=>?_⟩,λb hb=>?_⟩,λb hb=>r b E nN,E⟩;·exact FA
 .exact Fw
 .exact Fy
 .rw[q b E qh nN];exact h0.near.block b hb qh
 .have:=qS m i;exact q m this.2 E (h0.apart m i)
 .rw[Qi,QM];exact f
 .have ji:∀ b,kv.ownBlock≠Z b->b<W1.heap.size->(Uc (b5 g 0) (J a+1) cap).ownBlock≠Z b:=by exact P2
  by_cases k:j<J a;·have⟨d,u,hd⟩:=x j k;refine⟨d,by rw[QA E];exact u,?_⟩;rw[QS k];exact Yy
  .have o:j=J a:=Bi;subst o;refine⟨c,by rw[Qu E];simp[p],?_⟩;have:(a++[t])[J a]=t:=dS;rw[this];refine y.keep (λb hb=>?_) (λb hb=>⟨E,E,λe=>tP,ji b nN hb.2⟩);exact r b hb.2 nN
 .exact FV
def nh.rows {i:List (T n)} (h:nh R n w wr ns i nv kv) (m:J ns<=20000) (q:J i<=20000) :
  cR (λb=>w.heap.size<=b/\b<wr.heap.size) wr ns nv/\fB (λb=>w.heap.size<=b/\b<wr.heap.size) wr (dL (λb=>w.heap.size<=b/\b<wr.heap.size) wr n) i kv:=by
 have⟨p,a,f⟩:=h.o;refine⟨go h.q m h.short λg e=>cO h.q g e,gM a zL (λg e=>cO a g e) λj l o=>?_⟩;have⟨c,k,d⟩:=f j l;have:p[j]=c:=by rw[Qp o]at k;exact XK k
 rw[this];exact d.keep ik PV
def gH(B:Nat)(w:Zw):Prop:=
 Lib.TabBelow WV B w "internal/strconv.uint64pow10" .u64 Lib.pow10Tab/\(∃ b p,∀ a,Below B w a->a.var? WV "strconv.ErrSyntax" = Z #[.iface b p]) /\
  (∃ b p,∀ a,Below B w a->a.var? WV "strconv.ErrRange" = Z #[.iface b p])
def gH.step(h:gH B w)(b:Below B w w'):gH B w':=by obtain⟨c,⟨i,f,d⟩,t2,g,e⟩:=h;exact⟨λa k=>c a (b.trans k),⟨i,f,λa k=>d a (b.trans k)⟩,t2,g,λa k=>e a (b.trans k)⟩
def gH.near(h:gH B w)(b:cH R w w')(a:B<=R)(c:R<w.heap.size):gH B w':=h.step (b.below a E)
