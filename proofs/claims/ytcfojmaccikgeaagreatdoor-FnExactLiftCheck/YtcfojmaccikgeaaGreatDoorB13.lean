import Derived.Test.YtcfojmaccikgeaaGreatDoorB12
import Derived.Test.YtcfojmaccikgeaaGreatDoorB10
open Go.Value renaming slice→Zs,string→Zt
open Option renaming none→Zn,some→Zo
open Nat renaming lt_of_lt_of_le→Zd
open List renaming length_append→Zx,eq_nil_of_length_eq_zero→Zz
open Array renaming getElem?_eq_some_iff→ZF
namespace Go.Proofs.YtcfojmaccikgeaaGreatDoor
open Go.RowKit
variable {R n g cap M X m:Nat} {w wr W Wa W2 W1:World} {ns:List ZN} {nv kv c0 c1 c2 v:Value} {x:ZN} {one:Obj} {xs:List Value} {S:ZP} {e:TypeId} {so:Int}
def Fr(M:Nat)(c a:Value)(H b:Nat):Prop:=M<=b/\b<H/\c.ownBlock≠Zo b/\a.ownBlock≠Zo b
structure jT(R n:Nat)(w wr:World)(ns:List ZN)(ks:List (K n))(nv kv:Value):Prop where
 near:b8 R w wr
 names:wr.ownsRow w.heap.size 9 1 nv ns.length (ns.map Zt)
 short:∀s,s∈ns->s.size<=10000
 kids:∃xs,wr.ownsRow w.heap.size 31 3 kv ks.length xs/\∀j (h:j<ks.length),∃c0 c1 c2,(xs[j*3]?=Zo c0/\xs[j*3+1]?=Zo c1/\xs[j*3+2]?=Zo c2)/\a8 (Fr w.heap.size nv kv wr.heap.size) wr n ks[j] c0 c1 c2
 apart:∀b,nv.ownBlock=Zo b->kv.ownBlock≠Zo b
theorem jT.start(R n:Nat)(w wr:World)(h:b8 R w wr):jT R n w wr [] [] (Zs Zn 0 0) (Zs Zn 0 0):=
 ⟨h,World.ownsRow_nil _ _ _ _,fun _ h=>(by cases h),⟨[],World.ownsRow_nil _ _ _ _,fun j h=>absurd h (Nat.not_lt_zero _)⟩,fun b a=>by cases a⟩
theorem jT.keep{i:List (K n)}(h:jT R n w wr ns i nv kv)(s:R<w.heap.size)(d:b8 R wr W):jT R n w W ns i nv kv:=by
 have e:∀b,w.heap.size<=b->b<wr.heap.size->W.heap[b]?=wr.heap[b]?:=fun b r k=>d.block b k om;obtain⟨q,f,o⟩:=h.kids;refine⟨h.near.trans d,gh h.names fun g c=>?_,h.short,⟨q,gh f fun g c=>?_,fun j m=>?_⟩,h.apart⟩;·have:=fU h.names g c;exact e g this.1 this.2
 ·have:=fU f g c;exact e g this.1 this.2
 ·obtain⟨c0,c1,c2,l,p⟩:=o j m;exact⟨c0,c1,c2,l,p.keep (fun b a=>e b a.1 a.2.1) (fun b a=>⟨a.1,Zd a.2.1 d.size,a.2.2⟩)⟩
theorem jT.name {y:List (K n)} (h:jT R n w W ns y nv kv)
  (u:Wa.heap=W.heap.push one) (v:Wa.os=W.os/\Wa.tape=W.tape/\Wa.output=W.output) (F:x.size<=10000)
  (d:W2.ownsRow w.heap.size 9 1 (Zs (Zo ⟨g,0,Zn⟩) (ns.length+1) cap) (ns.length+1) (ns.map Zt++[Zt x])) (a:Wa.grownBy W2 nv.ownBlock) (l:nv.ownBlock=Zo g∨g=W.heap.size+1) :
  jT R n w W2 (ns++[x]) y (Zs (Zo ⟨g,0,Zn⟩) (ns.length+1) cap) kv/\(∀b,b<w.heap.size->W2.heap[b]?=W.heap[b]?)/\W.heap.size<=W2.heap.size:=by
 have H:W2.heap.size ≥ W.heap.size+1:=by have:=a.size;rw[u]at this;simp at this;omega
 have p:=fU h.names;have A:=fU d g rfl;have E:=h.near.size;have q:∀b,b<W.heap.size->nv.ownBlock≠Zo b->W2.heap[b]?=W.heap[b]?:=fun b c f=>by rw[a.block b (by rw[u];simp;omega) (fun e=>f e.symm),u,Array.getElem?_push_lt c,Array.getElem?_eq_getElem c]
 obtain⟨G,r,C⟩:=h.kids;have o:=fU r;refine⟨⟨⟨?_,?_,?_,om,fun b c f=>?_⟩,?_,?_,⟨G,gh r fun t m=>?_,fun j B=>?_⟩,fun b c=>?_⟩,fun b c=>q b om (fun e=>by have:=p b e;omega),om⟩;·rw[a.os,v.1];exact h.near.os
 ·rw[a.tape,v.2.1];exact h.near.tape
 ·rw[a.output,v.2.2];exact h.near.output
 ·rw[q b om (fun e=>by have:=p b e;omega)];exact h.near.block b c f
 ·rw[Zx,List.length_singleton,List.map_append,List.map_singleton];exact d
 ·intro s i;rcases List.mem_append.1 i with i|i;·exact h.short s i
  ·rw[List.mem_singleton]at i;subst i;exact F
 ·have:=o t m;exact q t this.2 (fun e=>h.apart t e m)
 ·obtain⟨c0,c1,c2,z,D⟩:=C j B;refine⟨c0,c1,c2,z,D.keep (fun b c=>?_) (fun b c=>?_)⟩;·exact q b c.2.1 c.2.2.1
  ·refine⟨c.1,by have:=c.2.1;omega,?_,c.2.2.2⟩;intro e;have e:g=b:=by simpa [Value.ownBlock] using e
   rcases l with k|k;·exact c.2.2.1 (by rw[k,e])
   ·have:=c.2.1;omega
 ·have c:g=b:=by simpa [Value.ownBlock] using c
  subst c;rcases l with k|k;·exact h.apart g k
  ·intro e;have:=o g e;omega
theorem jT.kid {f:List (K n)} {t:K n} (l:jT R n w W ns f nv kv) (J:R<w.heap.size)
  (z:b8 R W W1) (X:a8 (fun b=>W.heap.size<=b/\b<W1.heap.size) W1 n t c0 c1 c2)
  (E:Wa.heap=W1.heap.push one) (A:Wa.os=W1.os/\Wa.tape=W1.tape/\Wa.output=W1.output) 
  (B:W.ownsRow w.heap.size 31 3 kv f.length xs) (V:∀j (h:j<f.length),∃c0 c1 c2,(xs[j*3]?=Zo c0/\xs[j*3+1]?=Zo c1/\xs[j*3+2]?=Zo c2)/\a8 (Fr w.heap.size nv kv W.heap.size) W n f[j] c0 c1 c2)
  (r:W2.ownsRow w.heap.size 31 3 (Zs (Zo ⟨g,0,Zn⟩) (f.length+1) cap) (f.length+1) (xs++[c0,c1,c2])) (c:Wa.grownBy W2 kv.ownBlock) (u:kv.ownBlock=Zo g∨g=W1.heap.size+1) :
  jT R n w W2 ns (f++[t]) nv (Zs (Zo ⟨g,0,Zn⟩) (f.length+1) cap)/\(∀b,b<w.heap.size->W2.heap[b]?=W1.heap[b]?)/\W1.heap.size<=W2.heap.size:=by
 have Z:=z.size;have Y:=l.near.size;have hz:W2.heap.size ≥ W1.heap.size+1:=by have:=c.size;rw[E]at this;simp at this;omega
 have s:=fU l.names;have m:=fU B;have T:=fU r g rfl;have H:∀b,b<W1.heap.size->kv.ownBlock≠Zo b->W2.heap[b]?=W1.heap[b]?:=fun b a i=>by rw[c.block b (by rw[E];simp;omega) (fun e=>i e.symm),E,Array.getElem?_push_lt a,Array.getElem?_eq_getElem a]
 have q:∀b,b<W.heap.size->b≠R->kv.ownBlock≠Zo b->W2.heap[b]?=W.heap[b]?:=fun b a J i=>by rw[H b om i,z.block b a J]
 have G:xs.length=f.length*3:=B.1;refine⟨⟨⟨?_,?_,?_,om,fun b a i=>?_⟩,gh l.names fun D x=>?_,l.short,⟨xs++[c0,c1,c2],?_,fun j U=>?_⟩,fun b a=>?_⟩,fun b a=>H b om (fun e=>by have:=m b e;omega),om⟩;·rw[c.os,A.1];exact z.os.trans l.near.os
 ·rw[c.tape,A.2.1];exact z.tape.trans l.near.tape
 ·rw[c.output,A.2.2];exact z.output.trans l.near.output
 ·rw[q b om i (fun e=>by have:=m b e;omega)];exact l.near.block b a i
 ·have:=s D x;exact q D this.2 om (l.apart D x)
 ·rw[Zx,List.length_singleton];exact r
 ·have p:∀ b,kv.ownBlock≠Zo b->b<W1.heap.size->(Value.slice (Zo ⟨g,0,Zn⟩) (f.length+1) cap).ownBlock≠Zo b:=by
   intro b C h2 e;have e:g=b:=by simpa [Value.ownBlock] using e
   rcases u with I|I;·exact C (by rw[I,e])
   ·omega
  by_cases y:j<f.length
  ·obtain⟨L,M,N,⟨O,P,Q⟩,S⟩:=V j y;have d:∀o v,o<3->xs[j*3+o]?=Zo v->(xs++[c0,c1,c2])[j*3+o]?=Zo v:=fun o v A h=>by rw[List.getElem?_append_left om];exact h
   refine⟨L,M,N,⟨d 0 _ om O,d 1 _ om P,d 2 _ om Q⟩,?_⟩;rw[List.getElem_append_left y];refine S.keep (fun b a=>?_) (fun b a=>⟨a.1,by have:=a.2.1;omega,a.2.2.1,p b a.2.2.2 (by have:=a.2.1;omega)⟩);exact q b a.2.1 (by have:=a.1;omega) a.2.2.2
  ·have F:j=f.length:=by simp at U;omega
   subst F;have k:∀o v,o<3->[c0,c1,c2][o]?=Zo v->(xs++[c0,c1,c2])[f.length*3+o]?=Zo v:=fun o v A h=>by rw[List.getElem?_append_right om,G,Nat.add_sub_cancel_left];exact h
   refine⟨c0,c1,c2,⟨k 0 _ om rfl,k 1 _ om rfl,k 2 _ om rfl⟩,?_⟩;have:(f++[t])[f.length]=t:=zS;rw[this];refine X.keep (fun b a=>?_) (fun b a=>⟨om,om,fun e=>by have:=s b e;omega,p b (fun e=>by have:=m b e;omega) a.2⟩);exact H b a.2 (fun e=>by have:=m b e;omega)
 ·intro e;have e:g=b:=by simpa [Value.ownBlock] using e
  subst e;rcases u with C|C;·exact l.apart g a C
  ·have:=s g a;omega
theorem kg{l:List ZN}(h:w.ownsRow M e 1 v l.length (l.map Zt))(t:l.length<=20000)(q:∀s,s∈l->s.size<=10000)(k:∀g,v.ownBlock=Zo g->S g):fL S w l v:=by
 have f:∀s,s∈l->s.size<=maxLen:=fun s h=>by have:=q s h;unfold maxLen;omega
 have a:l.length<=maxLen:=by unfold maxLen;omega
 rcases id h.2 with ⟨rfl,d⟩|⟨g,cap,j,rfl,m,r,p,n,o,c⟩;·exact⟨Zn,0,by rw[d],a,f,fun b=>absurd (Zz d) b⟩
 ·refine⟨_,_,rfl,a,f,fun _=>⟨g,0,rfl,k g rfl,fun i hi=>?_⟩⟩;have:=h.cells (g:=g) rfl i (Zt l[i]) (by simp[hi]);rw[Addr.add_lit]at this;simpa using this
theorem lM {l:List (K n)} (h:w.ownsRow M e 3 v l.length xs) (C:l.length<=20000) (q:∀ g,v.ownBlock=Zo g->S g)
  (x:∀j (h:j<l.length),∃c0 c1 c2,(xs[j*3]?=Zo c0/\xs[j*3+1]?=Zo c1/\xs[j*3+2]?=Zo c2)/\a8 S w n l[j] c0 c1 c2):gO S w (a8 S w n) l v:=by
 have a:l.length<=maxLen:=by unfold maxLen;omega
 rcases id h.2 with ⟨rfl,f⟩|⟨g,cap,k,rfl,r,B,y,s,t,d⟩;·exact⟨Zn,0,by rw[f],a,fun c=>absurd (Zz f) c⟩
 ·refine⟨_,_,rfl,a,fun _=>⟨g,0,rfl,q g rfl,fun i hi=>?_⟩⟩;obtain⟨c0,c1,c2,⟨m,o,p⟩,z⟩:=x i hi;have b:∀j u,xs[j]?=Zo u->w.cell? ⟨g,0+j,Zn⟩=Zo u:=fun j u A=>by have:=h.cells (g:=g) rfl j u A;rwa [Addr.add_lit]at this
  exact⟨c0,c1,c2,b _ _ m,b _ _ o,b _ _ p,z⟩
theorem jT.rows {f:List (K n)} (h:jT R n w wr ns f nv kv) (o:ns.length<=20000) (m:f.length<=20000) :
  fL (fun b=>w.heap.size<=b/\b<wr.heap.size) wr ns nv/\gO (fun b=>w.heap.size<=b/\b<wr.heap.size) wr (a8 (fun b=>w.heap.size<=b/\b<wr.heap.size) wr n) f kv:=by obtain⟨p,a,e⟩:=h.kids;refine⟨kg h.names o h.short fun g d=>fU h.names g d,lM a m (fun g d=>fU a g d) fun j l=>?_⟩;obtain⟨c0,c1,c2,k,c⟩:=e j l;exact⟨c0,c1,c2,k,c.keep (fun _ _=>rfl) (fun b i=>⟨i.1,i.2.1⟩)⟩
structure jo(R X n:Nat)(w wr:World)(so:Int)(ns:List ZN)(ks:List (K n))(nv kv:Value):Prop where
 near:b8 R w wr
 box:wr.heap[X]?=Zo (.cells #[.int .i64 so,nv,kv] 31 (0,0))
 names:wr.ownsRow (X+1) 9 1 nv ns.length (ns.map Zt)
 short:∀s,s∈ns->s.size<=10000
 kids:∃xs,wr.ownsRow (X+1) 31 3 kv ks.length xs/\∀j (h:j<ks.length),∃c0 c1 c2,(xs[j*3]?=Zo c0/\xs[j*3+1]?=Zo c1/\xs[j*3+2]?=Zo c2)/\a8 (Fr (X+1) nv kv wr.heap.size) wr n ks[j] c0 c1 c2
 apart:∀b,nv.ownBlock=Zo b->kv.ownBlock≠Zo b
theorem jo.lt{a:List (K n)}(h:jo R X n w wr so ns a nv kv):X<wr.heap.size:=(ZF.1 h.box).1
theorem jo.keep{i:List (K n)}(h:jo R X n w wr so ns i nv kv)(l:R<X)(e:b8 R wr W):jo R X n w W so ns i nv kv:=by
 have m:=h.lt;have c:∀b,X<=b->b<wr.heap.size->W.heap[b]?=wr.heap[b]?:=fun b t k=>e.block b k om;obtain⟨s,f,q⟩:=h.kids;refine⟨h.near.trans e,by rw[c X (Nat.le_refl _) m];exact h.box,gh h.names fun g d=>?_,h.short,⟨s,gh f fun g d=>?_,fun j p=>?_⟩,h.apart⟩;·have:=fU h.names g d;exact c g om this.2
 ·have:=fU f g d;exact c g om this.2
 ·obtain⟨c0,c1,c2,o,r⟩:=q j p;refine⟨c0,c1,c2,o,r.keep (fun b a=>c b ?_ a.2.1) (fun b a=>⟨a.1,Zd a.2.1 e.size,a.2.2⟩)⟩;have:=a.1;omega
theorem jo.name {C:List (K n)} (h:jo R X n w W so ns C nv kv) (M:w.heap.size<=X)
  (A:Wa.heap=W.heap.push one) (B:Wa.os=W.os/\Wa.tape=W.tape/\Wa.output=W.output) (J:x.size<=10000)
  (d:W2.ownsRow (X+1) 9 1 (Zs (Zo ⟨g,0,Zn⟩) (ns.length+1) cap) (ns.length+1) (ns.map Zt++[Zt x])) (a:Wa.grownBy W2 nv.ownBlock) (p:nv.ownBlock=Zo g∨g=W.heap.size+1) :
  jo R X n w (W2.setCell ⟨X,1,Zn⟩ (Zs (Zo ⟨g,0,Zn⟩) (ns.length+1) cap)) so (ns++[x]) C (Zs (Zo ⟨g,0,Zn⟩) (ns.length+1) cap) kv:=by
 have D:=h.lt;have N:W2.heap.size ≥ W.heap.size+1:=by have:=a.size;rw[A]at this;simp at this;omega
 have t:=fU h.names;have F:=fU d g rfl;have q:∀b,b<W.heap.size->nv.ownBlock≠Zo b->W2.heap[b]?=W.heap[b]?:=fun b c l=>by rw[a.block b (by rw[A];simp;omega) (fun e=>l e.symm),A,Array.getElem?_push_lt c,Array.getElem?_eq_getElem c]
 have y:∀b,b≠X->(W2.setCell ⟨X,1,Zn⟩ (Zs (Zo ⟨g,0,Zn⟩) (ns.length+1) cap)).heap[b]?=W2.heap[b]?:=fun b c=>Below.heap_setCell _ _ _ _ c;have u:(W2.setCell ⟨X,1,Zn⟩ (Zs (Zo ⟨g,0,Zn⟩) (ns.length+1) cap)).heap.size=W2.heap.size:=zS;have z:nv.ownBlock≠Zo X:=fun e=>by have:=t X e;omega
 have k:=(q X D z).trans h.box;obtain⟨L,v,H⟩:=h.kids;have r:=fU v;refine⟨⟨?_,?_,?_,by rw[u];have:=h.near.size;omega,fun b c l=>?_⟩,?_,?_,?_,⟨L,gh v fun i f=>?_,fun j G=>?_⟩,fun b c=>?_⟩;·show W2.os=w.os;rw[a.os,B.1];exact h.near.os
 ·show W2.tape=w.tape;rw[a.tape,B.2.1];exact h.near.tape
 ·show W2.output=w.output;rw[a.output,B.2.2];exact h.near.output
 ·have m:=h.near.size;rw[y b om,q b om (fun e=>by have:=t b e;omega)];exact h.near.block b c l
 ·simp[World.setCell,Array.getElem?_modify,k]
 ·rw[Zx,List.length_singleton,List.map_append,List.map_singleton];exact gh d fun i f=>y i (by have:=fU d i f;omega)
 ·intro s m;rcases List.mem_append.1 m with m|m;·exact h.short s m
  ·rw[List.mem_singleton]at m;subst m;exact J
 ·have:=r i f;rw[y i om,q i this.2 (fun e=>h.apart i e f)]
 ·obtain⟨c0,c1,c2,E,I⟩:=H j G;refine⟨c0,c1,c2,E,I.keep (fun b c=>?_) (fun b c=>?_)⟩;·rw[y b (by have:=c.1;omega),q b c.2.1 c.2.2.1]
  ·refine⟨c.1,by rw[u];have:=c.2.1;omega,?_,c.2.2.2⟩;intro e;have e:g=b:=by simpa [Value.ownBlock] using e
   rcases p with o|o;·exact c.2.2.1 (by rw[o,e])
   ·have:=c.2.1;omega
 ·have c:g=b:=by simpa [Value.ownBlock] using c
  subst c;rcases p with o|o;·exact h.apart g o
  ·intro e;have:=r g e;omega
theorem jo.kid {d:List (K n)} {t:K n} (i:jo R X n w W so ns d nv kv) (Y:R<X) (hw:w.heap.size<=X)
  (C:b8 R W W1) (ht:a8 (fun b=>W.heap.size<=b/\b<W1.heap.size) W1 n t c0 c1 c2)
  (I:Wa.heap=W1.heap.push one) (D:Wa.os=W1.os/\Wa.tape=W1.tape/\Wa.output=W1.output) 
  (E:W.ownsRow (X+1) 31 3 kv d.length xs) (hk:∀j (h:j<d.length),∃c0 c1 c2,(xs[j*3]?=Zo c0/\xs[j*3+1]?=Zo c1/\xs[j*3+2]?=Zo c2)/\a8 (Fr (X+1) nv kv W.heap.size) W n d[j] c0 c1 c2)
  (m:W2.ownsRow (X+1) 31 3 (Zs (Zo ⟨g,0,Zn⟩) (d.length+1) cap) (d.length+1) (xs++[c0,c1,c2])) (c:Wa.grownBy W2 kv.ownBlock) (A:kv.ownBlock=Zo g∨g=W1.heap.size+1) :
  jo R X n w (W2.setCell ⟨X,2,Zn⟩ (Zs (Zo ⟨g,0,Zn⟩) (d.length+1) cap)) so ns (d++[t]) nv (Zs (Zo ⟨g,0,Zn⟩) (d.length+1) cap):=by
 have Z:=i.lt;have ab:=C.size;have hz:W2.heap.size ≥ W1.heap.size+1:=by have:=c.size;rw[I]at this;simp at this;omega
 have y:=fU i.names;have r:=fU E;have aa:=fU m g rfl;have N:∀b,b<W1.heap.size->kv.ownBlock≠Zo b->W2.heap[b]?=W1.heap[b]?:=fun b a k=>by rw[c.block b (by rw[I];simp;omega) (fun e=>k e.symm),I,Array.getElem?_push_lt a,Array.getElem?_eq_getElem a]
 have q:∀b,b<W.heap.size->b≠R->kv.ownBlock≠Zo b->W2.heap[b]?=W.heap[b]?:=fun b a V k=>by rw[N b om k,C.block b a V]
 have F:∀b,b≠X->(W2.setCell ⟨X,2,Zn⟩ (Zs (Zo ⟨g,0,Zn⟩) (d.length+1) cap)).heap[b]?=W2.heap[b]?:=fun b a=>Below.heap_setCell _ _ _ _ a;have z:(W2.setCell ⟨X,2,Zn⟩ (Zs (Zo ⟨g,0,Zn⟩) (d.length+1) cap)).heap.size=W2.heap.size:=zS;have H:kv.ownBlock≠Zo X:=fun e=>by have:=r X e;omega
 have x:=(q X Z om H).trans i.box;have L:xs.length=d.length*3:=E.1;refine⟨⟨?_,?_,?_,by rw[z];have:=i.near.size;omega,fun b a k=>?_⟩,?_,gh i.names fun u p=>?_,i.short,⟨xs++[c0,c1,c2],?_,fun j hj=>?_⟩,fun b a=>?_⟩;·show W2.os=w.os;rw[c.os,D.1];exact C.os.trans i.near.os
 ·show W2.tape=w.tape;rw[c.tape,D.2.1];exact C.tape.trans i.near.tape
 ·show W2.output=w.output;rw[c.output,D.2.2];exact C.output.trans i.near.output
 ·have hs:=i.near.size;rw[F b om,q b om k (fun e=>by have:=r b e;omega)];exact i.near.block b a k
 ·simp[World.setCell,Array.getElem?_modify,x]
 ·have:=y u p;rw[F u om,q u this.2 om (i.apart u p)]
 ·rw[Zx,List.length_singleton];exact gh m fun u p=>F u (by have:=fU m u p;omega)
 ·have s:∀ b,kv.ownBlock≠Zo b->b<W1.heap.size->(Value.slice (Zo ⟨g,0,Zn⟩) (d.length+1) cap).ownBlock≠Zo b:=by
   intro b G h2 e;have e:g=b:=by simpa [Value.ownBlock] using e
   rcases A with M|M;·exact G (by rw[M,e])
   ·omega
  by_cases B:j<d.length
  ·obtain⟨O,P,Q,⟨S,T,U⟩,hd⟩:=hk j B;have f:∀o v,o<3->xs[j*3+o]?=Zo v->(xs++[c0,c1,c2])[j*3+o]?=Zo v:=fun o v D h=>by rw[List.getElem?_append_left om];exact h
   refine⟨O,P,Q,⟨f 0 _ om S,f 1 _ om T,f 2 _ om U⟩,?_⟩;rw[List.getElem_append_left B];refine hd.keep (fun b a=>?_) (fun b a=>⟨a.1,by rw[z];have:=a.2.1;omega,a.2.2.1,s b a.2.2.2 (by have:=a.2.1;omega)⟩);rw[F b (by have:=a.1;omega),q b a.2.1 (by have:=a.1;omega) a.2.2.2]
  ·have J:j=d.length:=by simp at hj;omega
   subst J;have l:∀o v,o<3->[c0,c1,c2][o]?=Zo v->(xs++[c0,c1,c2])[d.length*3+o]?=Zo v:=fun o v D h=>by rw[List.getElem?_append_right om,L,Nat.add_sub_cancel_left];exact h
   refine⟨c0,c1,c2,⟨l 0 _ om rfl,l 1 _ om rfl,l 2 _ om rfl⟩,?_⟩;have:(d++[t])[d.length]=t:=zS;rw[this];refine ht.keep (fun b a=>?_) (fun b a=>⟨om,by rw[z];omega,fun e=>by have:=y b e;omega,s b (fun e=>by have:=r b e;omega) a.2⟩);rw[F b om,N b a.2 (fun e=>by have:=r b e;omega)]
 ·intro e;have e:g=b:=by simpa [Value.ownBlock] using e
  subst e;rcases A with G|G;·exact i.apart g a G
  ·have:=y g a;omega
structure nL(R X:Nat)(w w':World):Prop where
 os:w'.os=w.os
 tape:w'.tape=w.tape
 output:w'.output=w.output
 size:w.heap.size<=w'.heap.size
 block:∀k,k<w.heap.size->k≠R->k≠X->w'.heap[k]?=w.heap[k]?
theorem nL.refl(R X:Nat)(w:World):nL R X w w:=⟨rfl,rfl,rfl,Nat.le_refl _,fun _ _ _ _=>rfl⟩
theorem nL.near{a b c:World}(h:nL R X a b)(k:b8 R b c):nL R X a c:=
 ⟨k.os.trans h.os,k.tape.trans h.tape,k.output.trans h.output,Nat.le_trans h.size k.size,fun i hi d e=>(k.block i (Zd hi h.size) d).trans (h.block i hi d e)⟩
structure sF(R X n:Nat)(w wr:World)(so:Int)(ns:List ZN)(ks:List (K n))(nv kv:Value):Prop where
 near:nL R X w wr
 box:wr.heap[X]?=Zo (.cells #[.int .i64 so,nv,kv] 31 (0,0))
 names:wr.ownsRow w.heap.size 9 1 nv ns.length (ns.map Zt)
 short:∀s,s∈ns->s.size<=10000
 kids:∃xs,wr.ownsRow w.heap.size 31 3 kv ks.length xs/\∀j (h:j<ks.length),∃c0 c1 c2,(xs[j*3]?=Zo c0/\xs[j*3+1]?=Zo c1/\xs[j*3+2]?=Zo c2)/\a8 (Fr w.heap.size nv kv wr.heap.size) wr n ks[j] c0 c1 c2
 apart:∀b,nv.ownBlock=Zo b->kv.ownBlock≠Zo b
theorem sF.lt{a:List (K n)}(h:sF R X n w wr so ns a nv kv):X<wr.heap.size:=(ZF.1 h.box).1
theorem sF.keep{l:List (K n)}(h:sF R X n w wr so ns l nv kv)(d:R≠X)(p:R<w.heap.size)(i:b8 R wr W):sF R X n w W so ns l nv kv:=by
 have q:=h.lt;have c:∀b,b≠R->b<wr.heap.size->W.heap[b]?=wr.heap[b]?:=fun b m o=>i.block b o m;obtain⟨v,k,t⟩:=h.kids;refine⟨h.near.near i,by rw[c X (fun e=>d e.symm) q];exact h.box,gh h.names fun g f=>?_,h.short,⟨v,gh k fun g f=>?_,fun j s=>?_⟩,h.apart⟩;·have:=fU h.names g f;exact c g om this.2
 ·have:=fU k g f;exact c g om this.2
 ·obtain⟨c0,c1,c2,r,u⟩:=t j s;refine⟨c0,c1,c2,r,u.keep (fun b a=>c b ?_ a.2.1) (fun b a=>⟨a.1,Zd a.2.1 i.size,a.2.2⟩)⟩;have:=a.1;omega
theorem sF.start(h:w.heap[X]?=Zo (.cells #[.int .i64 so,Zs Zn 0 0,Zs Zn 0 0] 31 (0,0))):sF R X m w w so [] [] (Zs Zn 0 0) (Zs Zn 0 0):=
 ⟨nL.refl _ _ _,h,World.ownsRow_nil _ _ _ _,fun _ h=>(by cases h),⟨[],World.ownsRow_nil _ _ _ _,fun j h=>absurd h (Nat.not_lt_zero _)⟩,fun b a=>by cases a⟩
def Ko(M:Nat)(a:Value)(H b:Nat):Prop:=M<=b/\b<H/\a.ownBlock≠Zo b
structure sE(R X n:Nat)(w wr:World)(so:Int)(nv:Value)(ks:List (K n))(kv:Value):Prop where
 near:nL R X w wr
 box:wr.heap[X]?=Zo (.cells #[.int .i64 so,nv,kv] 31 (0,0))
 kids:∃xs,wr.ownsRow w.heap.size 31 3 kv ks.length xs/\∀j (h:j<ks.length),∃c0 c1 c2,(xs[j*3]?=Zo c0/\xs[j*3+1]?=Zo c1/\xs[j*3+2]?=Zo c2)/\a8 (Ko w.heap.size kv wr.heap.size) wr n ks[j] c0 c1 c2
theorem sE.lt{a:List (K n)}(h:sE R X n w wr so nv a kv):X<wr.heap.size:=(ZF.1 h.box).1
theorem sE.keep{l:List (K n)}(h:sE R X n w wr so nv l kv)(c:R≠X)(p:R<w.heap.size)(f:b8 R wr W):sE R X n w W so nv l kv:=by
 have q:=h.lt;have i:∀b,b≠R->b<wr.heap.size->W.heap[b]?=wr.heap[b]?:=fun b m o=>f.block b o m;obtain⟨v,k,u⟩:=h.kids;refine⟨h.near.near f,by rw[i X (fun e=>c e.symm) q];exact h.box,⟨v,gh k fun g s=>?_,fun j t=>?_⟩⟩;·have:=fU k g s;exact i g om this.2
 ·obtain⟨c0,c1,c2,r,d⟩:=u j t;have x:=f.size;exact⟨c0,c1,c2,r,d.keep (fun b a=>i b (by have:=a.1;omega) a.2.1) (fun b a=>⟨a.1,by have:=a.2.1;omega,a.2.2⟩)⟩
theorem sE.start(h:w.heap[X]?=Zo (.cells #[.int .i64 so,nv,Zs Zn 0 0] 31 (0,0))):sE R X m w w so nv [] (Zs Zn 0 0):=
 ⟨nL.refl _ _ _,h,⟨[],World.ownsRow_nil _ _ _ _,fun _ h=>absurd h (Nat.not_lt_zero _)⟩⟩
end Go.Proofs.YtcfojmaccikgeaaGreatDoor
