import Derived.Test.YtcfojmaccikgeaaGreatDoorB16
import Derived.Test.YtcfojmaccikgeaaGreatDoorB2
import Derived.Test.YtcfojmaccikgeaaGreatDoorB11
open Go.Value renaming slice→Zs,int→Zi,string→Zt
open Option renaming none→Zn,some→Zo
open Nat renaming lt_of_lt_of_le→Zd
open List renaming length_append→Zx,eq_nil_of_length_eq_zero→Zz
open Array renaming getElem?_eq_some_iff→ZF
namespace Go.Proofs.YtcfojmaccikgeaaGreatDoor
open Go.RowKit
variable {R n g cap M X m k z:Nat} {w wr W Wa W2 W1 w2:World} {ns:List ByteArray} {nv kv c0 c1 c2 v:Value} {x:ByteArray} {one:Obj} {xs:List Value} {S:Nat->Prop} {e:TypeId} {so:Int}
def Fr(M:Nat)(a c:Value)(H b:Nat):Prop:=M<=b/\b<H/\a.ownBlock≠Zo b/\c.ownBlock≠Zo b
structure jM(R n:Nat)(w wr:World)(ns:List ByteArray)(ks:List (K n))(nv kv:Value):Prop where
 near:b7 R w wr
 names:wr.ownsRow w.heap.size 9 1 nv ns.length (ns.map Zt)
 short:∀s,s∈ns->s.size<=10000
 kids:∃xs,wr.ownsRow w.heap.size 31 3 kv ks.length xs/\∀j (h:j<ks.length),∃c0 c1 c2,(xs[j*3]?=Zo c0/\xs[j*3+1]?=Zo c1/\xs[j*3+2]?=Zo c2)/\a8 (Fr w.heap.size nv kv wr.heap.size) wr n ks[j] c0 c1 c2
 apart:∀b,nv.ownBlock=Zo b->kv.ownBlock≠Zo b
theorem jM.start(R n:Nat)(w wr:World)(h:b7 R w wr):jM R n w wr [] [] (Zs Zn 0 0) (Zs Zn 0 0):=
 ⟨h,World.ownsRow_nil _ _ _ _,fun _ h=>(by cases h),⟨[],World.ownsRow_nil _ _ _ _,fun j h=>absurd h (Nat.not_lt_zero _)⟩,fun b a=>by cases a⟩
theorem jM.keep{f:List (K n)}(h:jM R n w wr ns f nv kv)(s:R<w.heap.size)(e:b7 R wr W):jM R n w W ns f nv kv:=by
 have d:∀b,w.heap.size<=b->b<wr.heap.size->W.heap[b]?=wr.heap[b]?:=fun b r k=>e.block b k om;obtain⟨q,i,m⟩:=h.kids;refine⟨h.near.trans e,gg h.names fun g c=>?_,h.short,⟨q,gg i fun g c=>?_,fun j p=>?_⟩,h.apart⟩;·have:=fR h.names g c;exact d g this.1 this.2
 ·have:=fR i g c;exact d g this.1 this.2
 ·obtain⟨c0,c1,c2,l,o⟩:=m j p;exact⟨c0,c1,c2,l,o.keep (fun b a=>d b a.1 a.2.1) (fun b a=>⟨a.1,Zd a.2.1 e.size,a.2.2⟩)⟩
theorem jM.name {y:List (K n)} (h:jM R n w W ns y nv kv)
  (u:Wa.heap=W.heap.push one) (v:Wa.os=W.os/\Wa.tape=W.tape/\Wa.output=W.output) (C:x.size<=10000)
  (d:W2.ownsRow w.heap.size 9 1 (Zs (Zo ⟨g,0,Zn⟩) (ns.length+1) cap) (ns.length+1) (ns.map Zt++[Zt x])) (a:Wa.grownBy W2 nv.ownBlock) (k:nv.ownBlock=Zo g∨g=W.heap.size+1) :
  jM R n w W2 (ns++[x]) y (Zs (Zo ⟨g,0,Zn⟩) (ns.length+1) cap) kv/\(∀b,b<w.heap.size->W2.heap[b]?=W.heap[b]?)/\W.heap.size<=W2.heap.size:=by
 have H:W2.heap.size ≥ W.heap.size+1:=by have:=a.size;rw[u]at this;simp at this;omega
 have r:=fR h.names;have A:=fR d g rfl;have G:=h.near.size;have q:∀b,b<W.heap.size->nv.ownBlock≠Zo b->W2.heap[b]?=W.heap[b]?:=fun b c f=>by rw[a.block b (by rw[u];simp;omega) (fun e=>f e.symm),u,Array.getElem?_push_lt c,Array.getElem?_eq_getElem c]
 obtain⟨E,p,F⟩:=h.kids;have l:=fR p;refine⟨⟨⟨?_,?_,?_,om,fun b c f=>?_⟩,?_,?_,⟨E,gg p fun t m=>?_,fun j D=>?_⟩,fun b c=>?_⟩,fun b c=>q b om (fun e=>by have:=r b e;omega),om⟩;·rw[a.os,v.1];exact h.near.os
 ·rw[a.tape,v.2.1];exact h.near.tape
 ·rw[a.output,v.2.2];exact h.near.output
 ·rw[q b om (fun e=>by have:=r b e;omega)];exact h.near.block b c f
 ·rw[Zx,List.length_singleton,List.map_append,List.map_singleton];exact d
 ·intro s i;rcases List.mem_append.1 i with i|i;·exact h.short s i
  ·rw[List.mem_singleton]at i;subst i;exact C
 ·have:=l t m;exact q t this.2 (fun e=>h.apart t e m)
 ·obtain⟨c0,c1,c2,z,B⟩:=F j D;refine⟨c0,c1,c2,z,B.keep (fun b c=>?_) (fun b c=>?_)⟩;·exact q b c.2.1 c.2.2.1
  ·refine⟨c.1,by have:=c.2.1;omega,?_,c.2.2.2⟩;intro e;have e:g=b:=by simpa [Value.ownBlock] using e
   rcases k with o|o;·exact c.2.2.1 (by rw[o,e])
   ·have:=c.2.1;omega
 ·have c:g=b:=by simpa [Value.ownBlock] using c
  subst c;rcases k with o|o;·exact h.apart g o
  ·intro e;have:=l g e;omega
theorem jM.kid {f:List (K n)} {t:K n} (l:jM R n w W ns f nv kv) (I:R<w.heap.size)
  (B:b7 R W W1) (P:a8 (fun b=>W.heap.size<=b/\b<W1.heap.size) W1 n t c0 c1 c2)
  (E:Wa.heap=W1.heap.push one) (A:Wa.os=W1.os/\Wa.tape=W1.tape/\Wa.output=W1.output) 
  (y:W.ownsRow w.heap.size 31 3 kv f.length xs) (V:∀j (h:j<f.length),∃c0 c1 c2,(xs[j*3]?=Zo c0/\xs[j*3+1]?=Zo c1/\xs[j*3+2]?=Zo c2)/\a8 (Fr w.heap.size nv kv W.heap.size) W n f[j] c0 c1 c2)
  (p:W2.ownsRow w.heap.size 31 3 (Zs (Zo ⟨g,0,Zn⟩) (f.length+1) cap) (f.length+1) (xs++[c0,c1,c2])) (c:Wa.grownBy W2 kv.ownBlock) (u:kv.ownBlock=Zo g∨g=W1.heap.size+1) :
  jM R n w W2 ns (f++[t]) nv (Zs (Zo ⟨g,0,Zn⟩) (f.length+1) cap)/\(∀b,b<w.heap.size->W2.heap[b]?=W1.heap[b]?)/\W1.heap.size<=W2.heap.size:=by
 have M:=B.size;have Z:=l.near.size;have hz:W2.heap.size ≥ W1.heap.size+1:=by have:=c.size;rw[E]at this;simp at this;omega
 have s:=fR l.names;have m:=fR y;have N:=fR p g rfl;have H:∀b,b<W1.heap.size->kv.ownBlock≠Zo b->W2.heap[b]?=W1.heap[b]?:=fun b a i=>by rw[c.block b (by rw[E];simp;omega) (fun e=>i e.symm),E,Array.getElem?_push_lt a,Array.getElem?_eq_getElem a]
 have q:∀b,b<W.heap.size->b≠R->kv.ownBlock≠Zo b->W2.heap[b]?=W.heap[b]?:=fun b a I i=>by rw[H b om i,B.block b a I]
 have F:xs.length=f.length*3:=y.1;refine⟨⟨⟨?_,?_,?_,om,fun b a i=>?_⟩,gg l.names fun D x=>?_,l.short,⟨xs++[c0,c1,c2],?_,fun j S=>?_⟩,fun b a=>?_⟩,fun b a=>H b om (fun e=>by have:=m b e;omega),om⟩;·rw[c.os,A.1];exact B.os.trans l.near.os
 ·rw[c.tape,A.2.1];exact B.tape.trans l.near.tape
 ·rw[c.output,A.2.2];exact B.output.trans l.near.output
 ·rw[q b om i (fun e=>by have:=m b e;omega)];exact l.near.block b a i
 ·have:=s D x;exact q D this.2 om (l.apart D x)
 ·rw[Zx,List.length_singleton];exact p
 ·have r:∀ b,kv.ownBlock≠Zo b->b<W1.heap.size->(Value.slice (Zo ⟨g,0,Zn⟩) (f.length+1) cap).ownBlock≠Zo b:=by
   intro b C h2 e;have e:g=b:=by simpa [Value.ownBlock] using e
   rcases u with J|J;·exact C (by rw[J,e])
   ·omega
  by_cases z:j<f.length
  ·obtain⟨U,O,L,⟨Q,X,T⟩,Y⟩:=V j z;have d:∀o v,o<3->xs[j*3+o]?=Zo v->(xs++[c0,c1,c2])[j*3+o]?=Zo v:=fun o v A h=>by rw[List.getElem?_append_left om];exact h
   refine⟨U,O,L,⟨d 0 _ om Q,d 1 _ om X,d 2 _ om T⟩,?_⟩;rw[List.getElem_append_left z];refine Y.keep (fun b a=>?_) (fun b a=>⟨a.1,by have:=a.2.1;omega,a.2.2.1,r b a.2.2.2 (by have:=a.2.1;omega)⟩);exact q b a.2.1 (by have:=a.1;omega) a.2.2.2
  ·have G:j=f.length:=by simp at S;omega
   subst G;have k:∀o v,o<3->[c0,c1,c2][o]?=Zo v->(xs++[c0,c1,c2])[f.length*3+o]?=Zo v:=fun o v A h=>by rw[List.getElem?_append_right om,F,Nat.add_sub_cancel_left];exact h
   refine⟨c0,c1,c2,⟨k 0 _ om rfl,k 1 _ om rfl,k 2 _ om rfl⟩,?_⟩;have:(f++[t])[f.length]=t:=zS;rw[this];refine P.keep (fun b a=>?_) (fun b a=>⟨om,om,fun e=>by have:=s b e;omega,r b (fun e=>by have:=m b e;omega) a.2⟩);exact H b a.2 (fun e=>by have:=m b e;omega)
 ·intro e;have e:g=b:=by simpa [Value.ownBlock] using e
  subst e;rcases u with C|C;·exact l.apart g a C
  ·have:=s g a;omega
theorem jt{l:List ByteArray}(h:w.ownsRow M e 1 v l.length (l.map Zt))(t:l.length<=20000)(o:∀s,s∈l->s.size<=10000)(j:∀g,v.ownBlock=Zo g->S g):fL S w l v:=by
 have d:∀s,s∈l->s.size<=maxLen:=fun s h=>by have:=o s h;unfold maxLen;omega
 have a:l.length<=maxLen:=by unfold maxLen;omega
 rcases id h.2 with ⟨rfl,f⟩|⟨g,cap,p,rfl,q,r,n,m,k,c⟩;·exact⟨Zn,0,by rw[f],a,d,fun b=>absurd (Zz f) b⟩
 ·refine⟨_,_,rfl,a,d,fun _=>⟨g,0,rfl,j g rfl,fun i hi=>?_⟩⟩;have:=h.cells (g:=g) rfl i (Zt l[i]) (by simp[hi]);rw[Addr.add_lit]at this;simpa using this
theorem kt {l:List (K n)} (h:w.ownsRow M e 3 v l.length xs) (C:l.length<=20000) (p:∀ g,v.ownBlock=Zo g->S g)
  (o:∀j (h:j<l.length),∃c0 c1 c2,(xs[j*3]?=Zo c0/\xs[j*3+1]?=Zo c1/\xs[j*3+2]?=Zo c2)/\a8 S w n l[j] c0 c1 c2):gU S w (a8 S w n) l v:=by
 have a:l.length<=maxLen:=by unfold maxLen;omega
 rcases id h.2 with ⟨rfl,f⟩|⟨g,cap,y,rfl,A,B,t,r,q,d⟩;·exact⟨Zn,0,by rw[f],a,fun b=>absurd (Zz f) b⟩
 ·refine⟨_,_,rfl,a,fun _=>⟨g,0,rfl,p g rfl,fun i hi=>?_⟩⟩;obtain⟨c0,c1,c2,⟨x,z,m⟩,s⟩:=o i hi;have c:∀j u,xs[j]?=Zo u->w.cell? ⟨g,0+j,Zn⟩=Zo u:=fun j u k=>by have:=h.cells (g:=g) rfl j u k;rwa [Addr.add_lit]at this
  exact⟨c0,c1,c2,c _ _ x,c _ _ z,c _ _ m,s⟩
theorem jM.rows {f:List (K n)} (h:jM R n w wr ns f nv kv) (l:ns.length<=20000) (k:f.length<=20000) :
  fL (fun b=>w.heap.size<=b/\b<wr.heap.size) wr ns nv/\gU (fun b=>w.heap.size<=b/\b<wr.heap.size) wr (a8 (fun b=>w.heap.size<=b/\b<wr.heap.size) wr n) f kv:=by obtain⟨p,a,c⟩:=h.kids;refine⟨jt h.names l h.short fun g e=>fR h.names g e,kt a k (fun g e=>fR a g e) fun j m=>?_⟩;obtain⟨c0,c1,c2,o,d⟩:=c j m;exact⟨c0,c1,c2,o,d.keep (fun _ _=>rfl) (fun b i=>⟨i.1,i.2.1⟩)⟩
structure jl(R X n:Nat)(w wr:World)(so:Int)(ns:List ByteArray)(ks:List (K n))(nv kv:Value):Prop where
 near:b7 R w wr
 box:wr.heap[X]?=Zo (.cells #[Zi .i64 so,nv,kv] 31 (0,0))
 names:wr.ownsRow (X+1) 9 1 nv ns.length (ns.map Zt)
 short:∀s,s∈ns->s.size<=10000
 kids:∃xs,wr.ownsRow (X+1) 31 3 kv ks.length xs/\∀j (h:j<ks.length),∃c0 c1 c2,(xs[j*3]?=Zo c0/\xs[j*3+1]?=Zo c1/\xs[j*3+2]?=Zo c2)/\a8 (Fr (X+1) nv kv wr.heap.size) wr n ks[j] c0 c1 c2
 apart:∀b,nv.ownBlock=Zo b->kv.ownBlock≠Zo b
theorem jl.lt{a:List (K n)}(h:jl R X n w wr so ns a nv kv):X<wr.heap.size:=(ZF.1 h.box).1
theorem jl.keep{i:List (K n)}(h:jl R X n w wr so ns i nv kv)(r:R<X)(e:b7 R wr W):jl R X n w W so ns i nv kv:=by
 have q:=h.lt;have c:∀b,X<=b->b<wr.heap.size->W.heap[b]?=wr.heap[b]?:=fun b t k=>e.block b k om;obtain⟨s,f,o⟩:=h.kids;refine⟨h.near.trans e,by rw[c X (Nat.le_refl _) q];exact h.box,gg h.names fun g d=>?_,h.short,⟨s,gg f fun g d=>?_,fun j l=>?_⟩,h.apart⟩;·have:=fR h.names g d;exact c g om this.2
 ·have:=fR f g d;exact c g om this.2
 ·obtain⟨c0,c1,c2,m,p⟩:=o j l;refine⟨c0,c1,c2,m,p.keep (fun b a=>c b ?_ a.2.1) (fun b a=>⟨a.1,Zd a.2.1 e.size,a.2.2⟩)⟩;have:=a.1;omega
theorem jl.name {C:List (K n)} (h:jl R X n w W so ns C nv kv) (N:w.heap.size<=X)
  (z:Wa.heap=W.heap.push one) (B:Wa.os=W.os/\Wa.tape=W.tape/\Wa.output=W.output) (G:x.size<=10000)
  (d:W2.ownsRow (X+1) 9 1 (Zs (Zo ⟨g,0,Zn⟩) (ns.length+1) cap) (ns.length+1) (ns.map Zt++[Zt x])) (a:Wa.grownBy W2 nv.ownBlock) (o:nv.ownBlock=Zo g∨g=W.heap.size+1) :
  jl R X n w (W2.setCell ⟨X,1,Zn⟩ (Zs (Zo ⟨g,0,Zn⟩) (ns.length+1) cap)) so (ns++[x]) C (Zs (Zo ⟨g,0,Zn⟩) (ns.length+1) cap) kv:=by
 have I:=h.lt;have M:W2.heap.size ≥ W.heap.size+1:=by have:=a.size;rw[z]at this;simp at this;omega
 have v:=fR h.names;have E:=fR d g rfl;have q:∀b,b<W.heap.size->nv.ownBlock≠Zo b->W2.heap[b]?=W.heap[b]?:=fun b c k=>by rw[a.block b (by rw[z];simp;omega) (fun e=>k e.symm),z,Array.getElem?_push_lt c,Array.getElem?_eq_getElem c]
 have y:∀b,b≠X->(W2.setCell ⟨X,1,Zn⟩ (Zs (Zo ⟨g,0,Zn⟩) (ns.length+1) cap)).heap[b]?=W2.heap[b]?:=fun b c=>Below.heap_setCell _ _ _ _ c;have p:(W2.setCell ⟨X,1,Zn⟩ (Zs (Zo ⟨g,0,Zn⟩) (ns.length+1) cap)).heap.size=W2.heap.size:=zS;have A:nv.ownBlock≠Zo X:=fun e=>by have:=v X e;omega
 have l:=(q X I A).trans h.box;obtain⟨J,u,L⟩:=h.kids;have r:=fR u;refine⟨⟨?_,?_,?_,by rw[p];have:=h.near.size;omega,fun b c k=>?_⟩,?_,?_,?_,⟨J,gg u fun i f=>?_,fun j H=>?_⟩,fun b c=>?_⟩;·show W2.os=w.os;rw[a.os,B.1];exact h.near.os
 ·show W2.tape=w.tape;rw[a.tape,B.2.1];exact h.near.tape
 ·show W2.output=w.output;rw[a.output,B.2.2];exact h.near.output
 ·have m:=h.near.size;rw[y b om,q b om (fun e=>by have:=v b e;omega)];exact h.near.block b c k
 ·simp[World.setCell,Array.getElem?_modify,l]
 ·rw[Zx,List.length_singleton,List.map_append,List.map_singleton];exact gg d fun i f=>y i (by have:=fR d i f;omega)
 ·intro s m;rcases List.mem_append.1 m with m|m;·exact h.short s m
  ·rw[List.mem_singleton]at m;subst m;exact G
 ·have:=r i f;rw[y i om,q i this.2 (fun e=>h.apart i e f)]
 ·obtain⟨c0,c1,c2,D,F⟩:=L j H;refine⟨c0,c1,c2,D,F.keep (fun b c=>?_) (fun b c=>?_)⟩;·rw[y b (by have:=c.1;omega),q b c.2.1 c.2.2.1]
  ·refine⟨c.1,by rw[p];have:=c.2.1;omega,?_,c.2.2.2⟩;intro e;have e:g=b:=by simpa [Value.ownBlock] using e
   rcases o with t|t;·exact c.2.2.1 (by rw[t,e])
   ·have:=c.2.1;omega
 ·have c:g=b:=by simpa [Value.ownBlock] using c
  subst c;rcases o with t|t;·exact h.apart g t
  ·intro e;have:=r g e;omega
theorem jl.kid {d:List (K n)} {t:K n} (k:jl R X n w W so ns d nv kv) (aa:R<X) (hw:w.heap.size<=X)
  (F:b7 R W W1) (T:a8 (fun b=>W.heap.size<=b/\b<W1.heap.size) W1 n t c0 c1 c2)
  (H:Wa.heap=W1.heap.push one) (E:Wa.os=W1.os/\Wa.tape=W1.tape/\Wa.output=W1.output) 
  (C:W.ownsRow (X+1) 31 3 kv d.length xs) (hk:∀j (h:j<d.length),∃c0 c1 c2,(xs[j*3]?=Zo c0/\xs[j*3+1]?=Zo c1/\xs[j*3+2]?=Zo c2)/\a8 (Fr (X+1) nv kv W.heap.size) W n d[j] c0 c1 c2)
  (l:W2.ownsRow (X+1) 31 3 (Zs (Zo ⟨g,0,Zn⟩) (d.length+1) cap) (d.length+1) (xs++[c0,c1,c2])) (c:Wa.grownBy W2 kv.ownBlock) (A:kv.ownBlock=Zo g∨g=W1.heap.size+1) :
  jl R X n w (W2.setCell ⟨X,2,Zn⟩ (Zs (Zo ⟨g,0,Zn⟩) (d.length+1) cap)) so ns (d++[t]) nv (Zs (Zo ⟨g,0,Zn⟩) (d.length+1) cap):=by
 have Y:=k.lt;have P:=F.size;have hz:W2.heap.size ≥ W1.heap.size+1:=by have:=c.size;rw[H]at this;simp at this;omega
 have y:=fR k.names;have p:=fR C;have Q:=fR l g rfl;have M:∀b,b<W1.heap.size->kv.ownBlock≠Zo b->W2.heap[b]?=W1.heap[b]?:=fun b a i=>by rw[c.block b (by rw[H];simp;omega) (fun e=>i e.symm),H,Array.getElem?_push_lt a,Array.getElem?_eq_getElem a]
 have q:∀b,b<W.heap.size->b≠R->kv.ownBlock≠Zo b->W2.heap[b]?=W.heap[b]?:=fun b a Z i=>by rw[M b om i,F.block b a Z]
 have B:∀b,b≠X->(W2.setCell ⟨X,2,Zn⟩ (Zs (Zo ⟨g,0,Zn⟩) (d.length+1) cap)).heap[b]?=W2.heap[b]?:=fun b a=>Below.heap_setCell _ _ _ _ a;have x:(W2.setCell ⟨X,2,Zn⟩ (Zs (Zo ⟨g,0,Zn⟩) (d.length+1) cap)).heap.size=W2.heap.size:=zS;have L:kv.ownBlock≠Zo X:=fun e=>by have:=p X e;omega
 have z:=(q X Y om L).trans k.box;have I:xs.length=d.length*3:=C.1;refine⟨⟨?_,?_,?_,by rw[x];have:=k.near.size;omega,fun b a i=>?_⟩,?_,gg k.names fun u r=>?_,k.short,⟨xs++[c0,c1,c2],?_,fun j V=>?_⟩,fun b a=>?_⟩;·show W2.os=w.os;rw[c.os,E.1];exact F.os.trans k.near.os
 ·show W2.tape=w.tape;rw[c.tape,E.2.1];exact F.tape.trans k.near.tape
 ·show W2.output=w.output;rw[c.output,E.2.2];exact F.output.trans k.near.output
 ·have hs:=k.near.size;rw[B b om,q b om i (fun e=>by have:=p b e;omega)];exact k.near.block b a i
 ·simp[World.setCell,Array.getElem?_modify,z]
 ·have:=y u r;rw[B u om,q u this.2 om (k.apart u r)]
 ·rw[Zx,List.length_singleton];exact gg l fun u r=>B u (by have:=fR l u r;omega)
 ·have s:∀ b,kv.ownBlock≠Zo b->b<W1.heap.size->(Value.slice (Zo ⟨g,0,Zn⟩) (d.length+1) cap).ownBlock≠Zo b:=by
   intro b G h2 e;have e:g=b:=by simpa [Value.ownBlock] using e
   rcases A with N|N;·exact G (by rw[N,e])
   ·omega
  by_cases D:j<d.length
  ·obtain⟨d0,S,O,⟨U,e1,e2⟩,hd⟩:=hk j D;have f:∀o v,o<3->xs[j*3+o]?=Zo v->(xs++[c0,c1,c2])[j*3+o]?=Zo v:=fun o v E h=>by rw[List.getElem?_append_left om];exact h
   refine⟨d0,S,O,⟨f 0 _ om U,f 1 _ om e1,f 2 _ om e2⟩,?_⟩;rw[List.getElem_append_left D];refine hd.keep (fun b a=>?_) (fun b a=>⟨a.1,by rw[x];have:=a.2.1;omega,a.2.2.1,s b a.2.2.2 (by have:=a.2.1;omega)⟩);rw[B b (by have:=a.1;omega),q b a.2.1 (by have:=a.1;omega) a.2.2.2]
  ·have J:j=d.length:=by simp at V;omega
   subst J;have m:∀o v,o<3->[c0,c1,c2][o]?=Zo v->(xs++[c0,c1,c2])[d.length*3+o]?=Zo v:=fun o v E h=>by rw[List.getElem?_append_right om,I,Nat.add_sub_cancel_left];exact h
   refine⟨c0,c1,c2,⟨m 0 _ om rfl,m 1 _ om rfl,m 2 _ om rfl⟩,?_⟩;have:(d++[t])[d.length]=t:=zS;rw[this];refine T.keep (fun b a=>?_) (fun b a=>⟨om,by rw[x];omega,fun e=>by have:=y b e;omega,s b (fun e=>by have:=p b e;omega) a.2⟩);rw[B b om,M b a.2 (fun e=>by have:=p b e;omega)]
 ·intro e;have e:g=b:=by simpa [Value.ownBlock] using e
  subst e;rcases A with G|G;·exact k.apart g a G
  ·have:=y g a;omega
structure nQ(R X:Nat)(w w':World):Prop where
 os:w'.os=w.os
 tape:w'.tape=w.tape
 output:w'.output=w.output
 size:w.heap.size<=w'.heap.size
 block:∀k,k<w.heap.size->k≠R->k≠X->w'.heap[k]?=w.heap[k]?
theorem nQ.refl(R X:Nat)(w:World):nQ R X w w:=⟨rfl,rfl,rfl,Nat.le_refl _,fun _ _ _ _=>rfl⟩
theorem nQ.near{a b c:World}(h:nQ R X a b)(k:b7 R b c):nQ R X a c:=
 ⟨k.os.trans h.os,k.tape.trans h.tape,k.output.trans h.output,Nat.le_trans h.size k.size,fun i hi d e=>(k.block i (Zd hi h.size) d).trans (h.block i hi d e)⟩
structure sP(R X n:Nat)(w wr:World)(so:Int)(ns:List ByteArray)(ks:List (K n))(nv kv:Value):Prop where
 near:nQ R X w wr
 box:wr.heap[X]?=Zo (.cells #[Zi .i64 so,nv,kv] 31 (0,0))
 names:wr.ownsRow w.heap.size 9 1 nv ns.length (ns.map Zt)
 short:∀s,s∈ns->s.size<=10000
 kids:∃xs,wr.ownsRow w.heap.size 31 3 kv ks.length xs/\∀j (h:j<ks.length),∃c0 c1 c2,(xs[j*3]?=Zo c0/\xs[j*3+1]?=Zo c1/\xs[j*3+2]?=Zo c2)/\a8 (Fr w.heap.size nv kv wr.heap.size) wr n ks[j] c0 c1 c2
 apart:∀b,nv.ownBlock=Zo b->kv.ownBlock≠Zo b
theorem sP.lt{a:List (K n)}(h:sP R X n w wr so ns a nv kv):X<wr.heap.size:=(ZF.1 h.box).1
theorem sP.keep{l:List (K n)}(h:sP R X n w wr so ns l nv kv)(i:R≠X)(t:R<w.heap.size)(f:b7 R wr W):sP R X n w W so ns l nv kv:=by
 have u:=h.lt;have c:∀b,b≠R->b<wr.heap.size->W.heap[b]?=wr.heap[b]?:=fun b o m=>f.block b m o;obtain⟨v,k,r⟩:=h.kids;refine⟨h.near.near f,by rw[c X (fun e=>i e.symm) u];exact h.box,gg h.names fun g d=>?_,h.short,⟨v,gg k fun g d=>?_,fun j p=>?_⟩,h.apart⟩;·have:=fR h.names g d;exact c g om this.2
 ·have:=fR k g d;exact c g om this.2
 ·obtain⟨c0,c1,c2,q,s⟩:=r j p;refine⟨c0,c1,c2,q,s.keep (fun b a=>c b ?_ a.2.1) (fun b a=>⟨a.1,Zd a.2.1 f.size,a.2.2⟩)⟩;have:=a.1;omega
theorem sP.start(h:w.heap[X]?=Zo (.cells #[Zi .i64 so,Zs Zn 0 0,Zs Zn 0 0] 31 (0,0))):sP R X m w w so [] [] (Zs Zn 0 0) (Zs Zn 0 0):=
 ⟨nQ.refl _ _ _,h,World.ownsRow_nil _ _ _ _,fun _ h=>(by cases h),⟨[],World.ownsRow_nil _ _ _ _,fun j h=>absurd h (Nat.not_lt_zero _)⟩,fun b a=>by cases a⟩
theorem EQ(h:W.ownsRow M e z v k xs)(b:R<M)(a:b7 R W w2)(o:Obj):(w2.alloc o).ownsRow M e z v k xs:=
 gg h fun g d=>by
  have c:=fR h g d
  have f:=a.size
  rw[Below.heap_alloc _ _ _ om]
  exact a.block g c.2 om
theorem Ba{b:Nat}{a:World}{o:Obj}(h:W.ownsRow M e z v k xs)(f:b<w2.heap.size)(c:b<M)(d:(w2.alloc o).grownBy a v.ownBlock):a.heap[b]?=w2.heap[b]?:=by rw[d.block b zE (fun e=>by have:=fR h b e.symm;omega),Below.heap_alloc _ _ _ f]
def JF(M:Nat)(a:Value)(H b:Nat):Prop:=M<=b/\b<H/\a.ownBlock≠Zo b
structure lz(R X n:Nat)(w wr:World)(so:Int)(nv:Value)(ks:List (K n))(kv:Value):Prop where
 near:nQ R X w wr
 box:wr.heap[X]?=Zo (.cells #[Zi .i64 so,nv,kv] 31 (0,0))
 kids:∃xs,wr.ownsRow w.heap.size 31 3 kv ks.length xs/\∀j (h:j<ks.length),∃c0 c1 c2,(xs[j*3]?=Zo c0/\xs[j*3+1]?=Zo c1/\xs[j*3+2]?=Zo c2)/\a8 (JF w.heap.size kv wr.heap.size) wr n ks[j] c0 c1 c2
theorem lz.lt{a:List (K n)}(h:lz R X n w wr so nv a kv):X<wr.heap.size:=(ZF.1 h.box).1
theorem lz.kid {d:List (K n)} {t:K n} (p:lz R X n w W so nv d kv) (ab:R≠X) (aa:X<w.heap.size) (U:R<w.heap.size)
  (B:b7 R W W1) (S:a8 (fun b=>W.heap.size<=b/\b<W1.heap.size) W1 n t c0 c1 c2)
  (E:Wa.heap=W1.heap.push one) (A:Wa.os=W1.os/\Wa.tape=W1.tape/\Wa.output=W1.output) 
  (y:W.ownsRow w.heap.size 31 3 kv d.length xs) (hk:∀j (h:j<d.length),∃c0 c1 c2,(xs[j*3]?=Zo c0/\xs[j*3+1]?=Zo c1/\xs[j*3+2]?=Zo c2)/\a8 (JF w.heap.size kv W.heap.size) W n d[j] c0 c1 c2)
  (k:W2.ownsRow w.heap.size 31 3 (Zs (Zo ⟨g,0,Zn⟩) (d.length+1) cap) (d.length+1) (xs++[c0,c1,c2])) (a:Wa.grownBy W2 kv.ownBlock) (D:kv.ownBlock=Zo g∨g=W1.heap.size+1) :
  lz R X n w (W2.setCell ⟨X,2,Zn⟩ (Zs (Zo ⟨g,0,Zn⟩) (d.length+1) cap)) so nv (d++[t]) (Zs (Zo ⟨g,0,Zn⟩) (d.length+1) cap):=by
 have V:=p.lt;have ac:=p.near.size;have O:=B.size;have hz:W2.heap.size ≥ W1.heap.size+1:=by have:=a.size;rw[E]at this;simp at this;omega
 have m:=fR y;have P:=fR k g rfl;have L:∀b,b<W1.heap.size->kv.ownBlock≠Zo b->W2.heap[b]?=W1.heap[b]?:=fun b c i=>by rw[a.block b (by rw[E];simp;omega) (fun e=>i e.symm),E,Array.getElem?_push_lt c,Array.getElem?_eq_getElem c]
 have q:∀b,b<W.heap.size->b≠R->kv.ownBlock≠Zo b->W2.heap[b]?=W.heap[b]?:=fun b c Z i=>by rw[L b om i,B.block b c Z]
 have C:∀b,b≠X->(W2.setCell ⟨X,2,Zn⟩ (Zs (Zo ⟨g,0,Zn⟩) (d.length+1) cap)).heap[b]?=W2.heap[b]?:=fun b c=>Below.heap_setCell _ _ _ _ c;have u:(W2.setCell ⟨X,2,Zn⟩ (Zs (Zo ⟨g,0,Zn⟩) (d.length+1) cap)).heap.size=W2.heap.size:=zS;have I:kv.ownBlock≠Zo X:=fun e=>by have:=m X e;omega
 have x:=(q X V om I).trans p.box;have F:xs.length=d.length*3:=y.1;refine⟨⟨?_,?_,?_,by rw[u];have:=p.near.size;omega,fun b c i s=>?_⟩,?_,⟨xs++[c0,c1,c2],?_,fun j Y=>?_⟩⟩;·show W2.os=w.os;rw[a.os,A.1];exact B.os.trans p.near.os
 ·show W2.tape=w.tape;rw[a.tape,A.2.1];exact B.tape.trans p.near.tape
 ·show W2.output=w.output;rw[a.output,A.2.2];exact B.output.trans p.near.output
 ·have hs:=p.near.size;rw[C b s,q b om i (fun e=>by have:=m b e;omega)];exact p.near.block b c i s
 ·simp[World.setCell,Array.getElem?_modify,x]
 ·rw[Zx,List.length_singleton];exact gg k fun J G=>C J (by have:=fR k J G;omega)
 ·have r:∀ b,kv.ownBlock≠Zo b->b<W1.heap.size->(Value.slice (Zo ⟨g,0,Zn⟩) (d.length+1) cap).ownBlock≠Zo b:=by
   intro b h1 h2 e;have e:g=b:=by simpa [Value.ownBlock] using e
   rcases D with M|M;·exact h1 (by rw[M,e])
   ·omega
  by_cases z:j<d.length
  ·obtain⟨d0,Q,N,⟨T,e1,e2⟩,hd⟩:=hk j z;have f:∀o v,o<3->xs[j*3+o]?=Zo v->(xs++[c0,c1,c2])[j*3+o]?=Zo v:=fun o v A h=>by rw[List.getElem?_append_left om];exact h
   refine⟨d0,Q,N,⟨f 0 _ om T,f 1 _ om e1,f 2 _ om e2⟩,?_⟩;rw[List.getElem_append_left z];refine hd.keep (fun b c=>?_) (fun b c=>⟨c.1,by rw[u];have:=c.2.1;omega,r b c.2.2 (by have:=c.2.1;omega)⟩);rw[C b (by have:=c.1;omega),q b c.2.1 (by have:=c.1;omega) c.2.2]
  ·have H:j=d.length:=by simp at Y;omega
   subst H;have l:∀o v,o<3->[c0,c1,c2][o]?=Zo v->(xs++[c0,c1,c2])[d.length*3+o]?=Zo v:=fun o v A h=>by rw[List.getElem?_append_right om,F,Nat.add_sub_cancel_left];exact h
   refine⟨c0,c1,c2,⟨l 0 _ om rfl,l 1 _ om rfl,l 2 _ om rfl⟩,?_⟩;have:(d++[t])[d.length]=t:=zS;rw[this];refine S.keep (fun b c=>?_) (fun b c=>⟨om,by rw[u];omega,r b (fun e=>by have:=m b e;omega) c.2⟩);rw[C b om,L b c.2 (fun e=>by have:=m b e;omega)]
theorem lz.keep{l:List (K n)}(h:lz R X n w wr so nv l kv)(i:R≠X)(t:R<w.heap.size)(f:b7 R wr W):lz R X n w W so nv l kv:=by
 have u:=h.lt;have d:∀b,b≠R->b<wr.heap.size->W.heap[b]?=wr.heap[b]?:=fun b o m=>f.block b m o;obtain⟨v,k,r⟩:=h.kids;refine⟨h.near.near f,by rw[d X (fun e=>i e.symm) u];exact h.box,⟨v,gg k fun g q=>?_,fun j p=>?_⟩⟩;·have:=fR k g q;exact d g om this.2
 ·obtain⟨c0,c1,c2,s,c⟩:=r j p;have x:=f.size;exact⟨c0,c1,c2,s,c.keep (fun b a=>d b (by have:=a.1;omega) a.2.1) (fun b a=>⟨a.1,by have:=a.2.1;omega,a.2.2⟩)⟩
theorem lz.start(h:w.heap[X]?=Zo (.cells #[Zi .i64 so,nv,Zs Zn 0 0] 31 (0,0))):lz R X m w w so nv [] (Zs Zn 0 0):=
 ⟨nQ.refl _ _ _,h,⟨[],World.ownsRow_nil _ _ _ _,fun _ h=>absurd h (Nat.not_lt_zero _)⟩⟩
theorem lz.kind {B:Nat} {l:List (K m)} (h:lz R X m w wr so nv l kv) (k:(Lit.int .i64 so).wf=true) (n:∀ b,w.heap.size<=b->W.heap[b]?=wr.heap[b]?) (u:wr.heap.size<=W.heap.size) (p:fL (fun b=>B<=b/\b<W.heap.size) W ns nv) (o:l.length<=20000) (v:B<=w.heap.size) :
  a8 (fun b=>B<=b/\b<W.heap.size) W (m+1) (⟨so,ns,l⟩:Kd (K m)) (Zi .i64 so) nv kv:=by
 obtain⟨x,a,e⟩:=h.kids;have c:=fR a;refine⟨rfl,k,p,?_⟩;refine kt (gg a fun g i=>n g (by have:=c g i;omega)) o (fun g i=>?_) fun j q=>?_;·have:=c g i;exact⟨om,om⟩
 ·obtain⟨c0,c1,c2,r,f⟩:=e j q;refine⟨c0,c1,c2,r,f.keep (fun b d=>n b d.1) (fun b d=>?_)⟩;have t:=d.1;have s:=d.2.1;exact⟨om,om⟩
end Go.Proofs.YtcfojmaccikgeaaGreatDoor
