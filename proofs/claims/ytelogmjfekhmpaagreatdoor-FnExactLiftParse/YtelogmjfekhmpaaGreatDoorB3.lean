import Derived.Test.YtelogmjfekhmpaaGreatDoorB1
import Derived.Deep.AppendLies
namespace Go.Proofs.YtelogmjfekhmpaaGreatDoor
open Go.RowKit
def Far(M:Nat)(nv kv:Value)(H b:Nat):Prop:=M<=b/\b<H/\nv.ownBlock≠some b/\kv.ownBlock≠some b
structure Many(R X n:Nat)(w wr:World)(so:Int)(ns:List ByteArray)(ks:List (T n))(nv kv:Value):Prop where
 near:Near R w wr
 box:wr.heap[X]?=some (.cells #[.int .i64 so,.int .i64 0,.string ByteArray.empty,nv,kv] 67 (0,0))
 names:wr.ownsRow (X+1) 9 1 nv ns.length (ns.map .string)
 short:∀s,s∈ns->s.size<=10000
 kids:∃xs,wr.ownsRow (X+1) 67 5 kv ks.length xs/\∀j (h:j<ks.length),∃c0 c1 c2 c3 c4,(xs[j*5]?=some c0/\xs[j*5+1]?=some c1/\xs[j*5+2]?=some c2/\xs[j*5+3]?=some c3/\xs[j*5+4]?=some c4)/\TreeIn (Far (X+1) nv kv wr.heap.size) wr n ks[j] c0 c1 c2 c3 c4
 apart:∀b,nv.ownBlock=some b->kv.ownBlock≠some b
theorem qaF{w:World}{M:Nat}{e:TypeId}{z:Nat}{v:Value}{k:Nat}{xs:List Value}(h:w.ownsRow M e z v k xs)(b:Nat)(hb:v.ownBlock=some b):M<=b/\b<w.heap.size:=by
 rcases h.2 with ⟨rfl,m⟩|⟨g,cap,d,rfl,a,f,i,j,l,c⟩
 ·cases hb
 ·have:g=b:=by simpa [Value.ownBlock] using hb
  subst this
  exact⟨a,(Array.getElem?_eq_some_iff.1 f).1⟩
theorem qeU{w:World}{M:Nat}{e:TypeId}{z:Nat}{v:Value}{k:Nat}{xs:List Value}(h:w.ownsRow M e z v k xs):∃a c,v=.slice a k c:=by
 rcases h.2 with ⟨rfl,d⟩|⟨g,cap,f,rfl,i,n,j,l,m,b⟩
 ·exact⟨_,_,by rw[d]⟩
 ·exact⟨_,_,rfl⟩
theorem qaK{w w':World}{M:Nat}{e:TypeId}{z:Nat}{v:Value}{k:Nat}{xs:List Value}(h:w.ownsRow M e z v k xs)(hs:∀g,v.ownBlock=some g->w'.heap[g]?=w.heap[g]?):w'.ownsRow M e z v k xs:=by
 obtain⟨c,a⟩:=h
 refine⟨c,?_⟩
 rcases a with a|⟨g,cap,b,rfl,d,f,r⟩
 ·exact .inl a
 ·exact .inr ⟨g,cap,b,rfl,d,by rw[hs g rfl];exact f,r⟩
theorem Many.lt{R X n:Nat}{w wr:World}{so:Int}{ns:List ByteArray}{ks:List (T n)}{nv kv:Value}(h:Many R X n w wr so ns ks nv kv):X<wr.heap.size:=(Array.getElem?_eq_some_iff.1 h.box).1
theorem Many.keep{R X n:Nat}{w wr W:World}{so:Int}{ns:List ByteArray}{ks:List (T n)}{nv kv:Value}(h:Many R X n w wr so ns ks nv kv)(hRX:R<X)(hn:Near R wr W):Many R X n w W so ns ks nv kv:=by
 have d:=h.lt
 have a:∀b,X<=b->b<wr.heap.size->W.heap[b]?=wr.heap[b]?:=fun b h1 h2=>hn.block b h2 (by omega)
 obtain⟨xs,c,e⟩:=h.kids
 refine⟨h.near.trans hn,by rw[a X (Nat.le_refl _) d];exact h.box,qaK h.names fun g hg=>?_,h.short,⟨xs,qaK c fun g hg=>?_,fun j hj=>?_⟩,h.apart⟩
 ·have:=qaF h.names g hg
  exact a g (by omega) this.2
 ·have:=qaF c g hg
  exact a g (by omega) this.2
 ·obtain⟨c0,c1,c2,c3,c4,f,i⟩:=e j hj
  refine⟨c0,c1,c2,c3,c4,f,i.keep (fun b hb=>a b ?_ hb.2.1) (fun b hb=>⟨hb.1,Nat.lt_of_lt_of_le hb.2.1 hn.size,hb.2.2⟩)⟩
  have:=hb.1
  omega
theorem Many.name {R X n:Nat} {w W Wa W2:World} {so:Int} {ns:List ByteArray} {ks:List (T n)} {nv kv:Value} {x:ByteArray} {one:Obj} {g cap:Nat} (h:Many R X n w W so ns ks nv kv) (hw:w.heap.size<=X)
  (ha:Wa.heap=W.heap.push one) (ho:Wa.os=W.os/\Wa.tape=W.tape/\Wa.output=W.output) (hx:x.size<=10000)
  (hown:W2.ownsRow (X+1) 9 1 (.slice (some ⟨g,0,none⟩) (ns.length+1) cap) (ns.length+1) (ns.map .string++[.string x])) (hgrow:Wa.grownBy W2 nv.ownBlock) (hat:nv.ownBlock=some g∨g=W.heap.size+1) :
  Many R X n w (W2.setCell ⟨X,3,none⟩ (.slice (some ⟨g,0,none⟩) (ns.length+1) cap)) so (ns++[x]) ks (.slice (some ⟨g,0,none⟩) (ns.length+1) cap) kv:=by
 have r:=h.lt
 have z:W2.heap.size ≥ W.heap.size+1:=by have:=hgrow.size;rw[ha]at this;simp at this;omega
 have f:=qaF h.names
 have t:=qaF hown g rfl
 have q:∀b,b<W.heap.size->nv.ownBlock≠some b->W2.heap[b]?=W.heap[b]?:=fun b a hne=>by
  rw[hgrow.block b (by rw[ha];simp;omega) (fun e=>hne e.symm),ha,Array.getElem?_push_lt a,Array.getElem?_eq_getElem a]
 have o:∀b,b≠X->(W2.setCell ⟨X,3,none⟩ (.slice (some ⟨g,0,none⟩) (ns.length+1) cap)).heap[b]?=W2.heap[b]?:=fun b a=>Below.heap_setCell _ _ _ _ a
 have i:(W2.setCell ⟨X,3,none⟩ (.slice (some ⟨g,0,none⟩) (ns.length+1) cap)).heap.size=W2.heap.size:=by simp
 have p:nv.ownBlock≠some X:=fun e=>by have:=f X e;omega
 have c:=(q X r p).trans h.box
 obtain⟨xs,l,u⟩:=h.kids
 have k:=qaF l
 refine⟨⟨?_,?_,?_,by rw[i];have:=h.near.size;omega,fun b a hne=>?_⟩,?_,?_,?_,⟨xs,qaK l fun g' hg'=>?_,fun j hj=>?_⟩,fun b a=>?_⟩
 ·show W2.os=w.os
  rw[hgrow.os,ho.1];exact h.near.os
 ·show W2.tape=w.tape
  rw[hgrow.tape,ho.2.1];exact h.near.tape
 ·show W2.output=w.output
  rw[hgrow.output,ho.2.2];exact h.near.output
 ·have d:=h.near.size
  rw[o b (by omega),q b (by omega) (fun e=>by have:=f b e;omega)]
  exact h.near.block b a hne
 ·simp[World.setCell,Array.getElem?_modify,c]
 ·rw[List.length_append,List.length_singleton,List.map_append,List.map_singleton]
  exact qaK hown fun g' hg'=>o g' (by have:=qaF hown g' hg';omega)
 ·intro s d
  rcases List.mem_append.1 d with d|d
  ·exact h.short s d
  ·rw[List.mem_singleton]at d;subst d;exact hx
 ·have:=k g' hg'
  rw[o g' (by omega),q g' this.2 (fun e=>h.apart g' e hg')]
 ·obtain⟨c0,c1,c2,c3,c4,v,y⟩:=u j hj
  refine⟨c0,c1,c2,c3,c4,v,y.keep (fun b a=>?_) (fun b a=>?_)⟩
  ·rw[o b (by have:=a.1;omega),q b a.2.1 a.2.2.1]
  ·refine⟨a.1,by rw[i];have:=a.2.1;omega,?_,a.2.2.2⟩
   intro e
   have e:g=b:=by simpa [Value.ownBlock] using e
   rcases hat with m|m
   ·exact a.2.2.1 (by rw[m,e])
   ·have:=a.2.1;omega
 ·have a:g=b:=by simpa [Value.ownBlock] using a
  subst a
  rcases hat with m|m
  ·exact h.apart g m
  ·intro e;have:=k g e;omega
theorem Many.kid {R X n:Nat} {w W W1 Wa W2:World} {so:Int} {ns:List ByteArray} {ks:List (T n)} {nv kv:Value} {t:T n} {c0 c1 c2 c3 c4:Value} {one:Obj} {g cap:Nat} (h0:Many R X n w W so ns ks nv kv) (hRX:R<X) (hw:w.heap.size<=X)
  (hn:Near R W W1) (ht:TreeIn (fun b=>W.heap.size<=b/\b<W1.heap.size) W1 n t c0 c1 c2 c3 c4)
  (ha:Wa.heap=W1.heap.push one) (ho:Wa.os=W1.os/\Wa.tape=W1.tape/\Wa.output=W1.output) {xs:List Value}
  (hxs:W.ownsRow (X+1) 67 5 kv ks.length xs) (hk:∀j (h:j<ks.length),∃c0 c1 c2 c3 c4,(xs[j*5]?=some c0/\xs[j*5+1]?=some c1/\xs[j*5+2]?=some c2/\xs[j*5+3]?=some c3/\xs[j*5+4]?=some c4)/\TreeIn (Far (X+1) nv kv W.heap.size) W n ks[j] c0 c1 c2 c3 c4)
  (hown:W2.ownsRow (X+1) 67 5 (.slice (some ⟨g,0,none⟩) (ks.length+1) cap) (ks.length+1) (xs++[c0,c1,c2,c3,c4])) (hgrow:Wa.grownBy W2 kv.ownBlock) (hat:kv.ownBlock=some g∨g=W1.heap.size+1) :
  Many R X n w (W2.setCell ⟨X,4,none⟩ (.slice (some ⟨g,0,none⟩) (ks.length+1) cap)) so ns (ks++[t]) nv (.slice (some ⟨g,0,none⟩) (ks.length+1) cap):=by
 have z:=h0.lt
 have A:=hn.size
 have N:W2.heap.size ≥ W1.heap.size+1:=by have:=hgrow.size;rw[ha]at this;simp at this;omega
 have i:=qaF h0.names
 have d:=qaF hxs
 have B:=qaF hown g rfl
 have x:∀b,b<W1.heap.size->kv.ownBlock≠some b->W2.heap[b]?=W1.heap[b]?:=fun b hb hne=>by
  rw[hgrow.block b (by rw[ha];simp;omega) (fun e=>hne e.symm),ha,Array.getElem?_push_lt hb,Array.getElem?_eq_getElem hb]
 have q:∀b,b<W.heap.size->b≠R->kv.ownBlock≠some b->W2.heap[b]?=W.heap[b]?:=fun b hb hR hne=>by
  rw[x b (by omega) hne,hn.block b hb hR]
 have m:∀b,b≠X->(W2.setCell ⟨X,4,none⟩ (.slice (some ⟨g,0,none⟩) (ks.length+1) cap)).heap[b]?=W2.heap[b]?:=fun b hb=>Below.heap_setCell _ _ _ _ hb
 have k:(W2.setCell ⟨X,4,none⟩ (.slice (some ⟨g,0,none⟩) (ks.length+1) cap)).heap.size=W2.heap.size:=by simp
 have r:kv.ownBlock≠some X:=fun e=>by have:=d X e;omega
 have l:=(q X z (by omega) r).trans h0.box
 have s:xs.length=ks.length*5:=hxs.1
 refine⟨⟨?_,?_,?_,by rw[k];have:=h0.near.size;omega,fun b hb hne=>?_⟩,?_,qaK h0.names fun g' hg'=>?_,h0.short,⟨xs++[c0,c1,c2,c3,c4],?_,fun j hj=>?_⟩,fun b hb=>?_⟩
 ·show W2.os=w.os
  rw[hgrow.os,ho.1];exact hn.os.trans h0.near.os
 ·show W2.tape=w.tape
  rw[hgrow.tape,ho.2.1];exact hn.tape.trans h0.near.tape
 ·show W2.output=w.output
  rw[hgrow.output,ho.2.2];exact hn.output.trans h0.near.output
 ·have O:=h0.near.size
  rw[m b (by omega),q b (by omega) hne (fun e=>by have:=d b e;omega)]
  exact h0.near.block b hb hne
 ·simp[World.setCell,Array.getElem?_modify,l]
 ·have:=i g' hg'
  rw[m g' (by omega),q g' this.2 (by omega) (h0.apart g' hg')]
 ·rw[List.length_append,List.length_singleton]
  exact qaK hown fun g' hg'=>m g' (by have:=qaF hown g' hg';omega)
 ·have f:∀ b,kv.ownBlock≠some b->b<W1.heap.size->(Value.slice (some ⟨g,0,none⟩) (ks.length+1) cap).ownBlock≠some b:=by
   intro b p P e
   have e:g=b:=by simpa [Value.ownBlock] using e
   rcases hat with y|y
   ·exact p (by rw[y,e])
   ·omega
  by_cases hjk:j<ks.length
  ·obtain⟨C,D,E,F,G,⟨H,I,J,K,L⟩,M⟩:=hk j hjk
   have a:∀o v,o<5->xs[j*5+o]?=some v->(xs++[c0,c1,c2,c3,c4])[j*5+o]?=some v:=fun o v ho h=>by
    rw[List.getElem?_append_left (by omega)];exact h
   refine⟨C,D,E,F,G,⟨a 0 _ (by omega) H,a 1 _ (by omega) I,a 2 _ (by omega) J,a 3 _ (by omega) K,a 4 _ (by omega) L⟩,?_⟩
   rw[List.getElem_append_left hjk]
   refine M.keep (fun b hb=>?_) (fun b hb=>⟨hb.1,by rw[k];have:=hb.2.1;omega,hb.2.2.1,f b hb.2.2.2 (by have:=hb.2.1;omega)⟩)
   rw[m b (by have:=hb.1;omega),q b hb.2.1 (by have:=hb.1;omega) hb.2.2.2]
  ·have u:j=ks.length:=by simp at hj;omega
   subst u
   have c:∀o v,o<5->[c0,c1,c2,c3,c4][o]?=some v->(xs++[c0,c1,c2,c3,c4])[ks.length*5+o]?=some v:=fun o v ho h=>by
    rw[List.getElem?_append_right (by omega),s,Nat.add_sub_cancel_left];exact h
   refine⟨c0,c1,c2,c3,c4,⟨c 0 _ (by omega) rfl,c 1 _ (by omega) rfl,c 2 _ (by omega) rfl,c 3 _ (by omega) rfl,c 4 _ (by omega) rfl⟩,?_⟩
   have:(ks++[t])[ks.length]=t:=by simp
   rw[this]
   refine ht.keep (fun b hb=>?_) (fun b hb=>⟨by omega,by rw[k];omega,fun e=>by have:=i b e;omega,f b (fun e=>by have:=d b e;omega) hb.2⟩)
   rw[m b (by omega),x b hb.2 (fun e=>by have:=d b e;omega)]
 ·intro e
  have e:g=b:=by simpa [Value.ownBlock] using e
  subst e
  rcases hat with p|p
  ·exact h0.apart g hb p
  ·have:=i g hb;omega
theorem qcQ{S:Nat->Prop}{w:World}{M:Nat}{e:TypeId}{v:Value}{l:List ByteArray}(h:w.ownsRow M e 1 v l.length (l.map .string))(hl:l.length<=20000)(hs:∀s,s∈l->s.size<=10000)(hS:∀g,v.ownBlock=some g->S g):StrsIn S w l v:=by
 have c:∀s,s∈l->s.size<=maxLen:=fun s h=>by have:=hs s h;unfold maxLen;omega
 have a:l.length<=maxLen:=by unfold maxLen;omega
 rcases id h.2 with ⟨rfl,d⟩|⟨g,cap,f,rfl,j,o,k,m,n,b⟩
 ·exact⟨none,0,by rw[d],a,c,fun hne=>absurd (List.eq_nil_of_length_eq_zero d) hne⟩
 ·refine⟨_,_,rfl,a,c,fun _=>⟨g,0,rfl,hS g rfl,fun i hi=>?_⟩⟩
  have:=h.cells (g:=g) rfl i (.string l[i]) (by simp[hi])
  rw[Addr.add_lit]at this
  simpa using this
theorem qlR {S:Nat->Prop} {n:Nat} {w:World} {M:Nat} {e:TypeId} {v:Value} {l:List (T n)} {xs:List Value} (h:w.ownsRow M e 5 v l.length xs) (hl:l.length<=20000) (hS:∀ g,v.ownBlock=some g->S g)
  (hk:∀j (h:j<l.length),∃c0 c1 c2 c3 c4,(xs[j*5]?=some c0/\xs[j*5+1]?=some c1/\xs[j*5+2]?=some c2/\xs[j*5+3]?=some c3/\xs[j*5+4]?=some c4)/\TreeIn S w n l[j] c0 c1 c2 c3 c4):RowIn S w (TreeIn S w n) l v:=by
 have a:l.length<=maxLen:=by unfold maxLen;omega
 rcases id h.2 with ⟨rfl,d⟩|⟨g,cap,f,rfl,k,z,m,o,p,c⟩
 ·exact⟨none,0,by rw[d],a,fun hne=>absurd (List.eq_nil_of_length_eq_zero d) hne⟩
 ·refine⟨_,_,rfl,a,fun _=>⟨g,0,rfl,hS g rfl,fun i hi=>?_⟩⟩
  obtain⟨c0,c1,c2,c3,c4,⟨q,r,s,t,x⟩,y⟩:=hk i hi
  have b:∀j u,xs[j]?=some u->w.cell? ⟨g,0+j,none⟩=some u:=fun j u hu=>by
   have:=h.cells (g:=g) rfl j u hu
   rwa [Addr.add_lit]at this
  exact⟨c0,c1,c2,c3,c4,b _ _ q,b _ _ r,b _ _ s,b _ _ t,b _ _ x,y⟩
def Row1{α:Type}(S:Nat->Prop)(w:World)(R:α->Value->Prop)(l:List α)(v:Value):Prop:=
 ∃(ao:Option Addr)(cap:Nat),v=.slice ao l.length cap/\l.length<=maxLen /\
  (l≠[]->∃b off,ao=some ⟨b,off,none⟩/\S b/\∀i (h:i<l.length),∃c,w.cell? ⟨b,off+i,none⟩=some c/\R l[i] c)
theorem Row1.keep {α:Type} {S S':Nat->Prop} {w w':World} {R R':α->Value->Prop} {l:List α} {v:Value} (h:Row1 S w R l v) (hb:Same S w w') (hS:∀ b,S b->S' b)
  (hR:∀x c,x∈l->R x c->R' x c):Row1 S' w' R' l v:=by
 obtain⟨f,cap,g,j,k⟩:=h
 refine⟨f,cap,g,j,fun hne=>?_⟩
 obtain⟨b,d,m,e,a⟩:=k hne
 refine⟨b,d,m,hS b e,fun i hi=>?_⟩
 obtain⟨c,n,o⟩:=a i hi
 exact⟨c,(hb.cell (p:=⟨b,d+i,none⟩) e).trans n,hR _ _ (List.getElem_mem hi) o⟩
theorem qgU {α:Type} {S:Nat->Prop} {w:World} {base:Nat} {e:TypeId} {v:Value} {l:List α} {xs:List Value} {R:α->Value->Prop} (h:w.ownsRow base e 1 v l.length xs) (hl:l.length<=maxLen)
  (hS:∀g,v.ownBlock=some g->S g) (hR:∀i (hi:i<l.length) (hx:i<xs.length),R l[i] xs[i]):Row1 S w R l v:=by
 have b:xs.length=l.length:=by simpa using h.1
 rcases h.2 with ⟨rfl,c⟩|⟨g,cap,d,rfl,f,n,j,k,m,a⟩
 ·exact⟨none,0,by rw[c],hl,fun hne=>absurd (List.eq_nil_of_length_eq_zero c) hne⟩
 ·refine⟨_,_,rfl,hl,fun _=>⟨g,0,rfl,hS g rfl,fun i hi=>⟨xs[i]'(by omega),?_,hR i hi (by omega)⟩⟩⟩
  have:=h.cells (g:=g) rfl i (xs[i]'(by omega)) (by simp)
  rw[Addr.add_lit]at this
  exact this
theorem r1_lt{w:World}{M:Nat}{e:TypeId}{z:Nat}{v:Value}{k:Nat}{xs:List Value}(h:w.ownsRow M e z v k xs)(b:Nat)(hb:v.ownBlock=some b):M<=b/\b<w.heap.size:=by
 rcases h.2 with ⟨rfl,m⟩|⟨g,cap,d,rfl,a,f,i,j,l,c⟩
 ·cases hb
 ·have:g=b:=by simpa [Value.ownBlock] using hb
  subst this
  exact⟨a,(Array.getElem?_eq_some_iff.1 f).1⟩
theorem qhK{w:World}{M:Nat}{e:TypeId}{z:Nat}{v:Value}{k:Nat}{xs:List Value}(h:w.ownsRow M e z v k xs):∃a c,v=.slice a k c:=by
 rcases h.2 with ⟨rfl,d⟩|⟨g,cap,f,rfl,i,n,j,l,m,b⟩
 ·exact⟨_,_,by rw[d]⟩
 ·exact⟨_,_,rfl⟩
theorem qbF{w w':World}{M:Nat}{e:TypeId}{z:Nat}{v:Value}{k:Nat}{xs:List Value}(h:w.ownsRow M e z v k xs)(hs:∀g,v.ownBlock=some g->w'.heap[g]?=w.heap[g]?):w'.ownsRow M e z v k xs:=by
 obtain⟨c,a⟩:=h
 refine⟨c,?_⟩
 rcases a with a|⟨g,cap,b,rfl,d,f,r⟩
 ·exact .inl a
 ·exact .inr ⟨g,cap,b,rfl,d,by rw[hs g rfl];exact f,r⟩
end Go.Proofs.YtelogmjfekhmpaaGreatDoor
