import Derived.Test.YtelogmjfekhmpaaGreatDoorNear
import Derived.Deep.AppendLies
namespace Go.Proofs.YtelogmjfekhmpaaGreatDoor
open Go.RowKit
def Far (M:Nat) (nv kv:Value) (H b:Nat):Prop:=M<=b/\b<H/\nv.ownBlock≠some b/\kv.ownBlock≠some b
structure Many (R X n:Nat) (w wr:World) (so:Int) (ns:List ByteArray) (ks:List (T n)) (nv kv:Value):Prop where
 near:Near R w wr
 box:wr.heap[X]?=some (.cells #[.int .i64 so,.int .i64 0,.string ByteArray.empty,nv,kv] 67 (0,0))
 names:wr.ownsRow (X+1) 9 1 nv ns.length (ns.map .string)
 short:∀ s,s∈ns->s.size<=10000
 kids:∃ xs,wr.ownsRow (X+1) 67 5 kv ks.length xs/\∀ j (h:j<ks.length),∃ c0 c1 c2 c3 c4,(xs[j*5]?=some c0/\xs[j*5+1]?=some c1/\xs[j*5+2]?=some c2/\xs[j*5+3]?=some c3/\xs[j*5+4]?=some c4)/\TreeIn (Far (X+1) nv kv wr.heap.size) wr n ks[j] c0 c1 c2 c3 c4
 apart:∀ b,nv.ownBlock=some b->kv.ownBlock≠some b
theorem qaF {w:World} {M:Nat} {e:TypeId} {z:Nat} {v:Value} {k:Nat} {xs:List Value} (h:w.ownsRow M e z v k xs) (b:Nat) (hb:v.ownBlock=some b):M<=b/\b<w.heap.size:=by
 rcases h.2 with ⟨rfl,h0⟩|⟨g,cap,cur,rfl,aB,hg,aC,aD,aE,aA⟩
 ·cases hb
 ·have:g=b:=by simpa [Value.ownBlock] using hb
  subst this
  exact⟨aB,(Array.getElem?_eq_some_iff.1 hg).1⟩
theorem qeW {w:World} {M:Nat} {e:TypeId} {z:Nat} {v:Value} {k:Nat} {xs:List Value} (h:w.ownsRow M e z v k xs):∃ a c,v=.slice a k c:=by
 rcases h.2 with ⟨rfl,h0⟩|⟨g,cap,cur,rfl,aB,hg,aC,aD,aE,aA⟩
 ·exact⟨_,_,by rw[h0]⟩
 ·exact⟨_,_,rfl⟩
theorem qaL {w w':World} {M:Nat} {e:TypeId} {z:Nat} {v:Value} {k:Nat} {xs:List Value} (h:w.ownsRow M e z v k xs) (hs:∀ g,v.ownBlock=some g->w'.heap[g]?=w.heap[g]?):w'.ownsRow M e z v k xs:=by
 obtain⟨h1,h2⟩:=h
 refine⟨h1,?_⟩
 rcases h2 with h2|⟨g,cap,cur,rfl,hg,hh,r⟩
 ·exact .inl h2
 ·exact .inr ⟨g,cap,cur,rfl,hg,by rw[hs g rfl];exact hh,r⟩
theorem Many.lt {R X n:Nat} {w wr:World} {so:Int} {ns:List ByteArray} {ks:List (T n)} {nv kv:Value} (h:Many R X n w wr so ns ks nv kv):X<wr.heap.size:=(Array.getElem?_eq_some_iff.1 h.box).1
theorem Many.keep {R X n:Nat} {w wr W:World} {so:Int} {ns:List ByteArray} {ks:List (T n)} {nv kv:Value} (h:Many R X n w wr so ns ks nv kv) (hRX:R<X) (hn:Near R wr W):Many R X n w W so ns ks nv kv:=by
 have hX:=h.lt
 have hs:∀ b,X<=b->b<wr.heap.size->W.heap[b]?=wr.heap[b]?:=fun b h1 h2=>hn.block b h2 (by omega)
 obtain⟨xs,hx,hk⟩:=h.kids
 refine⟨h.near.trans hn,by rw[hs X (Nat.le_refl _) hX];exact h.box,qaL h.names fun g hg=>?_,h.short,⟨xs,qaL hx fun g hg=>?_,fun j hj=>?_⟩,h.apart⟩
 ·have:=qaF h.names g hg
  exact hs g (by omega) this.2
 ·have:=qaF hx g hg
  exact hs g (by omega) this.2
 ·obtain⟨c0,c1,c2,c3,c4,hc,ht⟩:=hk j hj
  refine⟨c0,c1,c2,c3,c4,hc,ht.keep (fun b hb=>hs b ?_ hb.2.1) (fun b hb=>⟨hb.1,Nat.lt_of_lt_of_le hb.2.1 hn.size,hb.2.2⟩)⟩
  have:=hb.1
  omega
theorem Many.name {R X n:Nat} {w W Wa W2:World} {so:Int} {ns:List ByteArray} {ks:List (T n)} {nv kv:Value} {x:ByteArray} {one:Obj} {g cap:Nat} (h:Many R X n w W so ns ks nv kv) (hw:w.heap.size<=X)
  (ha:Wa.heap=W.heap.push one) (ho:Wa.os=W.os/\Wa.tape=W.tape/\Wa.output=W.output) (hx:x.size<=10000)
  (hown:W2.ownsRow (X+1) 9 1 (.slice (some ⟨g,0,none⟩) (ns.length+1) cap) (ns.length+1) (ns.map .string++[.string x])) (hgrow:Wa.grownBy W2 nv.ownBlock) (hat:nv.ownBlock=some g∨g=W.heap.size+1) :
  Many R X n w (W2.setCell ⟨X,3,none⟩ (.slice (some ⟨g,0,none⟩) (ns.length+1) cap)) so (ns++[x]) ks (.slice (some ⟨g,0,none⟩) (ns.length+1) cap) kv:=by
 have hX:=h.lt
 have hz:W2.heap.size ≥ W.heap.size+1:=by have:=hgrow.size;rw[ha]at this;simp at this;omega
 have aB:=qaF h.names
 have aG:=qaF hown g rfl
 have q:∀ b,b<W.heap.size->nv.ownBlock≠some b->W2.heap[b]?=W.heap[b]?:=fun b hb hne=>by
  rw[hgrow.block b (by rw[ha];simp;omega) (fun e=>hne e.symm),ha,Array.getElem?_push_lt hb,Array.getElem?_eq_getElem hb]
 have qs:∀ b,b≠X->(W2.setCell ⟨X,3,none⟩ (.slice (some ⟨g,0,none⟩) (ns.length+1) cap)).heap[b]?=W2.heap[b]?:=fun b hb=>Below.heap_setCell _ _ _ _ hb
 have aC:(W2.setCell ⟨X,3,none⟩ (.slice (some ⟨g,0,none⟩) (ns.length+1) cap)).heap.size=W2.heap.size:=by simp
 have aF:nv.ownBlock≠some X:=fun e=>by have:=aB X e;omega
 have aA:=(q X hX aF).trans h.box
 obtain⟨xs,aE,hk⟩:=h.kids
 have aD:=qaF aE
 refine⟨⟨?_,?_,?_,by rw[aC];have:=h.near.size;omega,fun b hb hne=>?_⟩,?_,?_,?_,⟨xs,qaL aE fun g' hg'=>?_,fun j hj=>?_⟩,fun b hb=>?_⟩
 ·show W2.os=w.os
  rw[hgrow.os,ho.1];exact h.near.os
 ·show W2.tape=w.tape
  rw[hgrow.tape,ho.2.1];exact h.near.tape
 ·show W2.output=w.output
  rw[hgrow.output,ho.2.2];exact h.near.output
 ·have hs:=h.near.size
  rw[qs b (by omega),q b (by omega) (fun e=>by have:=aB b e;omega)]
  exact h.near.block b hb hne
 ·simp[World.setCell,Array.getElem?_modify,aA]
 ·rw[List.length_append,List.length_singleton,List.map_append,List.map_singleton]
  exact qaL hown fun g' hg'=>qs g' (by have:=qaF hown g' hg';omega)
 ·intro s hs
  rcases List.mem_append.1 hs with hs|hs
  ·exact h.short s hs
  ·rw[List.mem_singleton]at hs;subst hs;exact hx
 ·have:=aD g' hg'
  rw[qs g' (by omega),q g' this.2 (fun e=>h.apart g' e hg')]
 ·obtain⟨c0,c1,c2,c3,c4,hc,ht⟩:=hk j hj
  refine⟨c0,c1,c2,c3,c4,hc,ht.keep (fun b hb=>?_) (fun b hb=>?_)⟩
  ·rw[qs b (by have:=hb.1;omega),q b hb.2.1 hb.2.2.1]
  ·refine⟨hb.1,by rw[aC];have:=hb.2.1;omega,?_,hb.2.2.2⟩
   intro e
   have e:g=b:=by simpa [Value.ownBlock] using e
   rcases hat with h1|h1
   ·exact hb.2.2.1 (by rw[h1,e])
   ·have:=hb.2.1;omega
 ·have hb:g=b:=by simpa [Value.ownBlock] using hb
  subst hb
  rcases hat with h1|h1
  ·exact h.apart g h1
  ·intro e;have:=aD g e;omega
theorem Many.kid {R X n:Nat} {w W W1 Wa W2:World} {so:Int} {ns:List ByteArray} {ks:List (T n)} {nv kv:Value} {t:T n} {c0 c1 c2 c3 c4:Value} {one:Obj} {g cap:Nat} (h0:Many R X n w W so ns ks nv kv) (hRX:R<X) (hw:w.heap.size<=X)
  (hn:Near R W W1) (ht:TreeIn (fun b=>W.heap.size<=b/\b<W1.heap.size) W1 n t c0 c1 c2 c3 c4)
  (ha:Wa.heap=W1.heap.push one) (ho:Wa.os=W1.os/\Wa.tape=W1.tape/\Wa.output=W1.output) {xs:List Value}
  (hxs:W.ownsRow (X+1) 67 5 kv ks.length xs) (hk:∀ j (h:j<ks.length),∃ c0 c1 c2 c3 c4,(xs[j*5]?=some c0/\xs[j*5+1]?=some c1/\xs[j*5+2]?=some c2/\xs[j*5+3]?=some c3/\xs[j*5+4]?=some c4)/\TreeIn (Far (X+1) nv kv W.heap.size) W n ks[j] c0 c1 c2 c3 c4)
  (hown:W2.ownsRow (X+1) 67 5 (.slice (some ⟨g,0,none⟩) (ks.length+1) cap) (ks.length+1) (xs++[c0,c1,c2,c3,c4])) (hgrow:Wa.grownBy W2 kv.ownBlock) (hat:kv.ownBlock=some g∨g=W1.heap.size+1) :
  Many R X n w (W2.setCell ⟨X,4,none⟩ (.slice (some ⟨g,0,none⟩) (ks.length+1) cap)) so ns (ks++[t]) nv (.slice (some ⟨g,0,none⟩) (ks.length+1) cap):=by
 have hX:=h0.lt
 have aK:=hn.size
 have hz:W2.heap.size ≥ W1.heap.size+1:=by have:=hgrow.size;rw[ha]at this;simp at this;omega
 have aF:=qaF h0.names
 have aE:=qaF hxs
 have aL:=qaF hown g rfl
 have q1:∀ b,b<W1.heap.size->kv.ownBlock≠some b->W2.heap[b]?=W1.heap[b]?:=fun b hb hne=>by
  rw[hgrow.block b (by rw[ha];simp;omega) (fun e=>hne e.symm),ha,Array.getElem?_push_lt hb,Array.getElem?_eq_getElem hb]
 have q:∀ b,b<W.heap.size->b≠R->kv.ownBlock≠some b->W2.heap[b]?=W.heap[b]?:=fun b hb hR hne=>by
  rw[q1 b (by omega) hne,hn.block b hb hR]
 have qs:∀ b,b≠X->(W2.setCell ⟨X,4,none⟩ (.slice (some ⟨g,0,none⟩) (ks.length+1) cap)).heap[b]?=W2.heap[b]?:=fun b hb=>Below.heap_setCell _ _ _ _ hb
 have aG:(W2.setCell ⟨X,4,none⟩ (.slice (some ⟨g,0,none⟩) (ks.length+1) cap)).heap.size=W2.heap.size:=by simp
 have aH:kv.ownBlock≠some X:=fun e=>by have:=aE X e;omega
 have aC:=(q X hX (by omega) aH).trans h0.box
 have aI:xs.length=ks.length*5:=hxs.1
 refine⟨⟨?_,?_,?_,by rw[aG];have:=h0.near.size;omega,fun b hb hne=>?_⟩,?_,qaL h0.names fun g' hg'=>?_,h0.short,⟨xs++[c0,c1,c2,c3,c4],?_,fun j hj=>?_⟩,fun b hb=>?_⟩
 ·show W2.os=w.os
  rw[hgrow.os,ho.1];exact hn.os.trans h0.near.os
 ·show W2.tape=w.tape
  rw[hgrow.tape,ho.2.1];exact hn.tape.trans h0.near.tape
 ·show W2.output=w.output
  rw[hgrow.output,ho.2.2];exact hn.output.trans h0.near.output
 ·have hs:=h0.near.size
  rw[qs b (by omega),q b (by omega) hne (fun e=>by have:=aE b e;omega)]
  exact h0.near.block b hb hne
 ·simp[World.setCell,Array.getElem?_modify,aC]
 ·have:=aF g' hg'
  rw[qs g' (by omega),q g' this.2 (by omega) (h0.apart g' hg')]
 ·rw[List.length_append,List.length_singleton]
  exact qaL hown fun g' hg'=>qs g' (by have:=qaF hown g' hg';omega)
 ·have aD:∀ b,kv.ownBlock≠some b->b<W1.heap.size->(Value.slice (some ⟨g,0,none⟩) (ks.length+1) cap).ownBlock≠some b:=by
   intro b h1 h2 e
   have e:g=b:=by simpa [Value.ownBlock] using e
   rcases hat with h3|h3
   ·exact h1 (by rw[h3,e])
   ·omega
  by_cases hjk:j<ks.length
  ·obtain⟨d0,d1,d2,d3,d4,⟨e0,e1,e2,e3,e4⟩,hd⟩:=hk j hjk
   have aA:∀ o v,o<5->xs[j*5+o]?=some v->(xs++[c0,c1,c2,c3,c4])[j*5+o]?=some v:=fun o v ho h=>by
    rw[List.getElem?_append_left (by omega)];exact h
   refine⟨d0,d1,d2,d3,d4,⟨aA 0 _ (by omega) e0,aA 1 _ (by omega) e1,aA 2 _ (by omega) e2,aA 3 _ (by omega) e3,aA 4 _ (by omega) e4⟩,?_⟩
   rw[List.getElem_append_left hjk]
   refine hd.keep (fun b hb=>?_) (fun b hb=>⟨hb.1,by rw[aG];have:=hb.2.1;omega,hb.2.2.1,aD b hb.2.2.2 (by have:=hb.2.1;omega)⟩)
   rw[qs b (by have:=hb.1;omega),q b hb.2.1 (by have:=hb.1;omega) hb.2.2.2]
  ·have aJ:j=ks.length:=by simp at hj;omega
   subst aJ
   have aB:∀ o v,o<5->[c0,c1,c2,c3,c4][o]?=some v->(xs++[c0,c1,c2,c3,c4])[ks.length*5+o]?=some v:=fun o v ho h=>by
    rw[List.getElem?_append_right (by omega),aI,Nat.add_sub_cancel_left];exact h
   refine⟨c0,c1,c2,c3,c4,⟨aB 0 _ (by omega) rfl,aB 1 _ (by omega) rfl,aB 2 _ (by omega) rfl,aB 3 _ (by omega) rfl,aB 4 _ (by omega) rfl⟩,?_⟩
   have:(ks++[t])[ks.length]=t:=by simp
   rw[this]
   refine ht.keep (fun b hb=>?_) (fun b hb=>⟨by omega,by rw[aG];omega,fun e=>by have:=aF b e;omega,aD b (fun e=>by have:=aE b e;omega) hb.2⟩)
   rw[qs b (by omega),q1 b hb.2 (fun e=>by have:=aE b e;omega)]
 ·intro e
  have e:g=b:=by simpa [Value.ownBlock] using e
  subst e
  rcases hat with h1|h1
  ·exact h0.apart g hb h1
  ·have:=aF g hb;omega
end Go.Proofs.YtelogmjfekhmpaaGreatDoor
