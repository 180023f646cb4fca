import Derived.Test.YtelogmjfekhmpaaGreatDoorUp
import Derived.Test.YtelogmjfekhmpaaGreatDoorMany0
import Derived.Test.YtelogmjfekhmpaaGreatDoorManyS
import Derived.Test.YtelogmjfekhmpaaGreatDoorNRep
namespace Go.Proofs.YtelogmjfekhmpaaGreatDoor
open Go.RowKit
structure ManyN (R X Y n:Nat) (w wr:World) (so nm:Int) (tx:ByteArray) (ns:List ByteArray) (ks:List (T n)) (nv kv:Value):Prop where
 near:Near R w wr
 box:wr.heap[X]?=some (.cells #[.int .i64 so,.int .i64 nm,.string tx,nv,kv] 25 (0,0))
 names:wr.ownsRow (Y+1) 9 1 nv ns.length (ns.map .string)
 short:∀ s,s∈ns->s.size<=10000
 kids:∃ xs,wr.ownsRow (Y+1) 25 5 kv ks.length xs/\∀ j (h:j<ks.length),∃ c0 c1 c2 c3 c4,(xs[j*5]?=some c0/\xs[j*5+1]?=some c1/\xs[j*5+2]?=some c2/\xs[j*5+3]?=some c3/\xs[j*5+4]?=some c4)/\NodeIn (Far (Y+1) nv kv wr.heap.size) wr n ks[j] c0 c1 c2 c3 c4
 apart:∀ b,nv.ownBlock=some b->kv.ownBlock≠some b
 xy:X<=Y/\Y<wr.heap.size
theorem ManyN.lt {R X Y n:Nat} {w wr:World} {so nm:Int} {tx:ByteArray} {ns:List ByteArray} {ks:List (T n)} {nv kv:Value} (h:ManyN R X Y n w wr so nm tx ns ks nv kv):X<wr.heap.size:=(Array.getElem?_eq_some_iff.1 h.box).1
theorem ManyN.keep {R X Y n:Nat} {w wr W:World} {so nm:Int} {tx:ByteArray} {ns:List ByteArray} {ks:List (T n)} {nv kv:Value} (h:ManyN R X Y n w wr so nm tx ns ks nv kv) (hRX:R<X) (hn:Near R wr W):ManyN R X Y n w W so nm tx ns ks nv kv:=by
 have hX:=h.lt
 have aA:=h.xy
 have hs:∀ b,X<=b->b<wr.heap.size->W.heap[b]?=wr.heap[b]?:=fun b h1 h2=>hn.block b h2 (by omega)
 obtain⟨xs,hx,hk⟩:=h.kids
 refine⟨h.near.trans hn,by rw[hs X (Nat.le_refl _) hX];exact h.box,qaL h.names fun g hg=>?_,h.short,⟨xs,qaL hx fun g hg=>?_,fun j hj=>?_⟩,h.apart,⟨h.xy.1,by have hq:=h.xy.2;first|exact Nat.lt_of_lt_of_le hq hn.size|(rw[hsz];exact hq)⟩⟩
 ·have:=qaF h.names g hg
  exact hs g (by omega) this.2
 ·have:=qaF hx g hg
  exact hs g (by omega) this.2
 ·obtain⟨c0,c1,c2,c3,c4,hc,ht⟩:=hk j hj
  refine⟨c0,c1,c2,c3,c4,hc,ht.keep (fun b hb=>hs b ?_ hb.2.1) (fun b hb=>⟨hb.1,Nat.lt_of_lt_of_le hb.2.1 hn.size,hb.2.2⟩)⟩
  have:=hb.1
  omega
theorem ManyN.name {R X Y n:Nat} {w W Wa W2:World} {so nm:Int} {tx:ByteArray} {ns:List ByteArray} {ks:List (T n)} {nv kv:Value} {x:ByteArray} {one:Obj} {g cap:Nat} (h:ManyN R X Y n w W so nm tx ns ks nv kv) (hw:w.heap.size<=X)
  (ha:Wa.heap=W.heap.push one) (ho:Wa.os=W.os/\Wa.tape=W.tape/\Wa.output=W.output) (hx:x.size<=10000)
  (hown:W2.ownsRow (Y+1) 9 1 (.slice (some ⟨g,0,none⟩) (ns.length+1) cap) (ns.length+1) (ns.map .string++[.string x])) (hgrow:Wa.grownBy W2 nv.ownBlock) (hat:nv.ownBlock=some g∨g=W.heap.size+1) :
  ManyN R X Y n w (W2.setCell ⟨X,3,none⟩ (.slice (some ⟨g,0,none⟩) (ns.length+1) cap)) so nm tx (ns++[x]) ks (.slice (some ⟨g,0,none⟩) (ns.length+1) cap) kv:=by
 have hX:=h.lt
 have aF:=h.xy
 have hz:W2.heap.size ≥ W.heap.size+1:=by have:=hgrow.size;rw[ha]at this;simp at this;omega
 have aC:=qaF h.names
 have aH:=qaF hown g rfl
 have q:∀ b,b<W.heap.size->nv.ownBlock≠some b->W2.heap[b]?=W.heap[b]?:=fun b hb hne=>by
  rw[hgrow.block b (by rw[ha];simp;omega) (fun e=>hne e.symm),ha,Array.getElem?_push_lt hb,Array.getElem?_eq_getElem hb]
 have qs:∀ b,b≠X->(W2.setCell ⟨X,3,none⟩ (.slice (some ⟨g,0,none⟩) (ns.length+1) cap)).heap[b]?=W2.heap[b]?:=fun b hb=>Below.heap_setCell _ _ _ _ hb
 have aB:(W2.setCell ⟨X,3,none⟩ (.slice (some ⟨g,0,none⟩) (ns.length+1) cap)).heap.size=W2.heap.size:=by simp
 have aG:nv.ownBlock≠some X:=fun e=>by have:=aC X e;omega
 have aA:=(q X hX aG).trans h.box
 obtain⟨xs,aE,hk⟩:=h.kids
 have aD:=qaF aE
 refine⟨⟨?_,?_,?_,by rw[aB];have:=h.near.size;omega,fun b hb hne=>?_⟩,?_,?_,?_,⟨xs,qaL aE fun g' hg'=>?_,fun j hj=>?_⟩,fun b hb=>?_,⟨aF.1,by first|(rw[aB,p5s];omega)|(rw[aB];omega)⟩⟩
 ·show W2.os=w.os
  rw[hgrow.os,ho.1];exact h.near.os
 ·show W2.tape=w.tape
  rw[hgrow.tape,ho.2.1];exact h.near.tape
 ·show W2.output=w.output
  rw[hgrow.output,ho.2.2];exact h.near.output
 ·have hs:=h.near.size
  rw[qs b (by omega),q b (by omega) (fun e=>by have:=aC b e;omega)]
  exact h.near.block b hb hne
 ·simp[World.setCell,Array.getElem?_modify,aA]
 ·rw[List.length_append,List.length_singleton,List.map_append,List.map_singleton]
  exact qaL hown fun g' hg'=>qs g' (by have:=qaF hown g' hg';omega)
 ·intro s hs
  rcases List.mem_append.1 hs with hs|hs
  ·exact h.short s hs
  ·rw[List.mem_singleton]at hs;subst hs;exact hx
 ·have:=aD g' hg'
  rw[qs g' (by omega),q g' this.2 (fun e=>h.apart g' e hg')]
 ·obtain⟨c0,c1,c2,c3,c4,hc,ht⟩:=hk j hj
  refine⟨c0,c1,c2,c3,c4,hc,ht.keep (fun b hb=>?_) (fun b hb=>?_)⟩
  ·rw[qs b (by have:=hb.1;omega),q b hb.2.1 hb.2.2.1]
  ·refine⟨hb.1,by rw[aB];have:=hb.2.1;omega,?_,hb.2.2.2⟩
   intro e
   have e:g=b:=by simpa [Value.ownBlock] using e
   rcases hat with h1|h1
   ·exact hb.2.2.1 (by rw[h1,e])
   ·have:=hb.2.1;omega
 ·have hb:g=b:=by simpa [Value.ownBlock] using hb
  subst hb
  rcases hat with h1|h1
  ·exact h.apart g h1
  ·intro e;have:=aD g e;omega
theorem ManyN.put {R X Y n o:Nat} {w wr:World} {so nm nm':Int} {tx tx':ByteArray} {ns:List ByteArray} {ks:List (T n)} {nv kv v:Value} (h:ManyN R X Y n w wr so nm tx ns ks nv kv) (hw:w.heap.size<=X)
  (ho:(o=1/\v=.int .i64 nm' /\ tx'=tx)∨(o=2/\v=.string tx' /\ nm'=nm)):ManyN R X Y n w (wr.setCell ⟨X,o,none⟩ v) so nm' tx' ns ks nv kv:=by
 have hX:=h.lt
 have aB:=h.xy
 have qs:∀ b,b≠X->(wr.setCell ⟨X,o,none⟩ v).heap[b]?=wr.heap[b]?:=fun b hb=>Below.heap_setCell _ _ _ _ hb
 have aA:(wr.setCell ⟨X,o,none⟩ v).heap.size=wr.heap.size:=by simp
 obtain⟨xs,hx,hk⟩:=h.kids
 refine⟨⟨h.near.os,h.near.tape,h.near.output,by rw[aA];exact h.near.size,fun b hb hne=>by rw[qs b (by omega)];exact h.near.block b hb hne⟩,?_,qaL h.names fun g hg=>qs g (by have:=qaF h.names g hg;omega),h.short,⟨xs,qaL hx fun g hg=>qs g (by have:=qaF hx g hg;omega),fun j hj=>?_⟩,h.apart,⟨h.xy.1,by have hq:=h.xy.2;first|exact Nat.lt_of_lt_of_le hq hn.size|(rw[aA];exact hq)⟩⟩
 ·rcases ho with ⟨rfl,rfl,rfl⟩|⟨rfl,rfl,rfl⟩ <;> simp[World.setCell,Array.getElem?_modify,h.box]
 ·obtain⟨c0,c1,c2,c3,c4,hc,ht⟩:=hk j hj
  exact⟨c0,c1,c2,c3,c4,hc,ht.keep (fun b hb=>qs b (by have:=hb.1;omega)) (fun b hb=>⟨hb.1,by rw[aA];exact hb.2.1,hb.2.2⟩)⟩
end Go.Proofs.YtelogmjfekhmpaaGreatDoor
