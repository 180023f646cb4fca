import Derived.Test.YtelogmjfekhmpaaGreatDoorScan2
import Derived.Test.YtelogmjfekhmpaaGreatDoorKParse
import Derived.Test.YtelogmjfekhmpaaGreatDoorKRep
import Derived.Test.YtelogmjfekhmpaaGreatDoorRow1
namespace Go.Proofs.YtelogmjfekhmpaaGreatDoor
open Go.RowKit
def Fr (M:Nat) (nv kv:Value) (H b:Nat):Prop:=M<=b/\b<H/\nv.ownBlock≠some b/\kv.ownBlock≠some b
structure RForm (R n:Nat) (w wr:World) (ns:List ByteArray) (ks:List (K n)) (nv kv:Value):Prop where
 near:Near R w wr
 names:wr.ownsRow w.heap.size 9 1 nv ns.length (ns.map .string)
 short:∀ s,s∈ns->s.size<=10000
 kids:∃ xs,wr.ownsRow w.heap.size 55 3 kv ks.length xs/\∀ j (h:j<ks.length),∃ c0 c1 c2,(xs[j*3]?=some c0/\xs[j*3+1]?=some c1/\xs[j*3+2]?=some c2)/\KindIn (Fr w.heap.size nv kv wr.heap.size) wr n ks[j] c0 c1 c2
 apart:∀ b,nv.ownBlock=some b->kv.ownBlock≠some b
theorem RForm.start (R n:Nat) (w wr:World) (h:Near R w wr):RForm R n w wr [] [] (.slice none 0 0) (.slice none 0 0):=
 ⟨h,World.ownsRow_nil _ _ _ _,fun _ h=>(by cases h),⟨[],World.ownsRow_nil _ _ _ _,fun j h=>absurd h (Nat.not_lt_zero _)⟩,fun b hb=>by cases hb⟩
theorem RForm.keep {R n:Nat} {w wr W:World} {ns:List ByteArray} {ks:List (K n)} {nv kv:Value} (h:RForm R n w wr ns ks nv kv) (hR:R<w.heap.size) (hn:Near R wr W):RForm R n w W ns ks nv kv:=by
 have hs:∀ b,w.heap.size<=b->b<wr.heap.size->W.heap[b]?=wr.heap[b]?:=fun b h1 h2=>hn.block b h2 (by omega)
 obtain⟨xs,hx,hk⟩:=h.kids
 refine⟨h.near.trans hn,qbG h.names fun g hg=>?_,h.short,⟨xs,qbG hx fun g hg=>?_,fun j hj=>?_⟩,h.apart⟩
 ·have:=r1_lt h.names g hg
  exact hs g this.1 this.2
 ·have:=r1_lt hx g hg
  exact hs g this.1 this.2
 ·obtain⟨c0,c1,c2,hc,ht⟩:=hk j hj
  exact⟨c0,c1,c2,hc,ht.keep (fun b hb=>hs b hb.1 hb.2.1) (fun b hb=>⟨hb.1,Nat.lt_of_lt_of_le hb.2.1 hn.size,hb.2.2⟩)⟩
theorem RForm.name {R n:Nat} {w W Wa W2:World} {ns:List ByteArray} {ks:List (K n)} {nv kv:Value} {x:ByteArray} {one:Obj} {g cap:Nat} (h:RForm R n w W ns ks nv kv)
  (ha:Wa.heap=W.heap.push one) (ho:Wa.os=W.os/\Wa.tape=W.tape/\Wa.output=W.output) (hx:x.size<=10000)
  (hown:W2.ownsRow w.heap.size 9 1 (.slice (some ⟨g,0,none⟩) (ns.length+1) cap) (ns.length+1) (ns.map .string++[.string x])) (hgrow:Wa.grownBy W2 nv.ownBlock) (hat:nv.ownBlock=some g∨g=W.heap.size+1) :
  RForm R n w W2 (ns++[x]) ks (.slice (some ⟨g,0,none⟩) (ns.length+1) cap) kv/\(∀ b,b<w.heap.size->W2.heap[b]?=W.heap[b]?)/\W.heap.size<=W2.heap.size:=by
 have hz:W2.heap.size ≥ W.heap.size+1:=by have:=hgrow.size;rw[ha]at this;simp at this;omega
 have aA:=r1_lt h.names
 have aD:=r1_lt hown g rfl
 have aE:=h.near.size
 have q:∀ b,b<W.heap.size->nv.ownBlock≠some b->W2.heap[b]?=W.heap[b]?:=fun b hb hne=>by
  rw[hgrow.block b (by rw[ha];simp;omega) (fun e=>hne e.symm),ha,Array.getElem?_push_lt hb,Array.getElem?_eq_getElem hb]
 obtain⟨xs,aC,hk⟩:=h.kids
 have aB:=r1_lt aC
 refine⟨⟨⟨?_,?_,?_,by omega,fun b hb hne=>?_⟩,?_,?_,⟨xs,qbG aC fun g' hg'=>?_,fun j hj=>?_⟩,fun b hb=>?_⟩,fun b hb=>q b (by omega) (fun e=>by have:=aA b e;omega),by omega⟩
 ·rw[hgrow.os,ho.1];exact h.near.os
 ·rw[hgrow.tape,ho.2.1];exact h.near.tape
 ·rw[hgrow.output,ho.2.2];exact h.near.output
 ·rw[q b (by omega) (fun e=>by have:=aA b e;omega)]
  exact h.near.block b hb hne
 ·rw[List.length_append,List.length_singleton,List.map_append,List.map_singleton]
  exact hown
 ·intro s hs
  rcases List.mem_append.1 hs with hs|hs
  ·exact h.short s hs
  ·rw[List.mem_singleton]at hs;subst hs;exact hx
 ·have:=aB g' hg'
  exact q g' this.2 (fun e=>h.apart g' e hg')
 ·obtain⟨c0,c1,c2,hc,ht⟩:=hk j hj
  refine⟨c0,c1,c2,hc,ht.keep (fun b hb=>?_) (fun b hb=>?_)⟩
  ·exact q b hb.2.1 hb.2.2.1
  ·refine⟨hb.1,by have:=hb.2.1;omega,?_,hb.2.2.2⟩
   intro e
   have e:g=b:=by simpa [Value.ownBlock] using e
   rcases hat with h1|h1
   ·exact hb.2.2.1 (by rw[h1,e])
   ·have:=hb.2.1;omega
 ·have hb:g=b:=by simpa [Value.ownBlock] using hb
  subst hb
  rcases hat with h1|h1
  ·exact h.apart g h1
  ·intro e;have:=aB g e;omega
theorem RForm.kid {R n:Nat} {w W W1 Wa W2:World} {ns:List ByteArray} {ks:List (K n)} {nv kv:Value} {t:K n} {c0 c1 c2:Value} {one:Obj} {g cap:Nat} (h0:RForm R n w W ns ks nv kv) (hR:R<w.heap.size)
  (hn:Near R W W1) (ht:KindIn (fun b=>W.heap.size<=b/\b<W1.heap.size) W1 n t c0 c1 c2)
  (ha:Wa.heap=W1.heap.push one) (ho:Wa.os=W1.os/\Wa.tape=W1.tape/\Wa.output=W1.output) {xs:List Value}
  (hxs:W.ownsRow w.heap.size 55 3 kv ks.length xs) (hk:∀ j (h:j<ks.length),∃ c0 c1 c2,(xs[j*3]?=some c0/\xs[j*3+1]?=some c1/\xs[j*3+2]?=some c2)/\KindIn (Fr w.heap.size nv kv W.heap.size) W n ks[j] c0 c1 c2)
  (hown:W2.ownsRow w.heap.size 55 3 (.slice (some ⟨g,0,none⟩) (ks.length+1) cap) (ks.length+1) (xs++[c0,c1,c2])) (hgrow:Wa.grownBy W2 kv.ownBlock) (hat:kv.ownBlock=some g∨g=W1.heap.size+1) :
  RForm R n w W2 ns (ks++[t]) nv (.slice (some ⟨g,0,none⟩) (ks.length+1) cap)/\(∀ b,b<w.heap.size->W2.heap[b]?=W1.heap[b]?)/\W1.heap.size<=W2.heap.size:=by
 have aH:=hn.size
 have aI:=h0.near.size
 have hz:W2.heap.size ≥ W1.heap.size+1:=by have:=hgrow.size;rw[ha]at this;simp at this;omega
 have aE:=r1_lt h0.names
 have aD:=r1_lt hxs
 have aJ:=r1_lt hown g rfl
 have q1:∀ b,b<W1.heap.size->kv.ownBlock≠some b->W2.heap[b]?=W1.heap[b]?:=fun b hb hne=>by
  rw[hgrow.block b (by rw[ha];simp;omega) (fun e=>hne e.symm),ha,Array.getElem?_push_lt hb,Array.getElem?_eq_getElem hb]
 have q:∀ b,b<W.heap.size->b≠R->kv.ownBlock≠some b->W2.heap[b]?=W.heap[b]?:=fun b hb hR hne=>by
  rw[q1 b (by omega) hne,hn.block b hb hR]
 have aF:xs.length=ks.length*3:=hxs.1
 refine⟨⟨⟨?_,?_,?_,by omega,fun b hb hne=>?_⟩,qbG h0.names fun g' hg'=>?_,h0.short,⟨xs++[c0,c1,c2],?_,fun j hj=>?_⟩,fun b hb=>?_⟩,fun b hb=>q1 b (by omega) (fun e=>by have:=aD b e;omega),by omega⟩
 ·rw[hgrow.os,ho.1];exact hn.os.trans h0.near.os
 ·rw[hgrow.tape,ho.2.1];exact hn.tape.trans h0.near.tape
 ·rw[hgrow.output,ho.2.2];exact hn.output.trans h0.near.output
 ·rw[q b (by omega) hne (fun e=>by have:=aD b e;omega)]
  exact h0.near.block b hb hne
 ·have:=aE g' hg'
  exact q g' this.2 (by omega) (h0.apart g' hg')
 ·rw[List.length_append,List.length_singleton]
  exact hown
 ·have aC:∀ b,kv.ownBlock≠some b->b<W1.heap.size->(Value.slice (some ⟨g,0,none⟩) (ks.length+1) cap).ownBlock≠some b:=by
   intro b h1 h2 e
   have e:g=b:=by simpa [Value.ownBlock] using e
   rcases hat with h3|h3
   ·exact h1 (by rw[h3,e])
   ·omega
  by_cases hjk:j<ks.length
  ·obtain⟨d0,d1,d2,⟨e0,e1,e2⟩,hd⟩:=hk j hjk
   have aA:∀ o v,o<3->xs[j*3+o]?=some v->(xs++[c0,c1,c2])[j*3+o]?=some v:=fun o v ho h=>by
    rw[List.getElem?_append_left (by omega)];exact h
   refine⟨d0,d1,d2,⟨aA 0 _ (by omega) e0,aA 1 _ (by omega) e1,aA 2 _ (by omega) e2⟩,?_⟩
   rw[List.getElem_append_left hjk]
   refine hd.keep (fun b hb=>?_) (fun b hb=>⟨hb.1,by have:=hb.2.1;omega,hb.2.2.1,aC b hb.2.2.2 (by have:=hb.2.1;omega)⟩)
   exact q b hb.2.1 (by have:=hb.1;omega) hb.2.2.2
  ·have aG:j=ks.length:=by simp at hj;omega
   subst aG
   have aB:∀ o v,o<3->[c0,c1,c2][o]?=some v->(xs++[c0,c1,c2])[ks.length*3+o]?=some v:=fun o v ho h=>by
    rw[List.getElem?_append_right (by omega),aF,Nat.add_sub_cancel_left];exact h
   refine⟨c0,c1,c2,⟨aB 0 _ (by omega) rfl,aB 1 _ (by omega) rfl,aB 2 _ (by omega) rfl⟩,?_⟩
   have:(ks++[t])[ks.length]=t:=by simp
   rw[this]
   refine ht.keep (fun b hb=>?_) (fun b hb=>⟨by omega,by omega,fun e=>by have:=aE b e;omega,aC b (fun e=>by have:=aD b e;omega) hb.2⟩)
   exact q1 b hb.2 (fun e=>by have:=aD b e;omega)
 ·intro e
  have e:g=b:=by simpa [Value.ownBlock] using e
  subst e
  rcases hat with h1|h1
  ·exact h0.apart g hb h1
  ·have:=aE g hb;omega
theorem qdZ {S:Nat->Prop} {w:World} {M:Nat} {e:TypeId} {v:Value} {l:List ByteArray} (h:w.ownsRow M e 1 v l.length (l.map .string)) (hl:l.length<=20000) (hs:∀ s,s∈l->s.size<=10000) (hS:∀ g,v.ownBlock=some g->S g):StrsIn S w l v:=by
 have hm:∀ s,s∈l->s.size<=maxLen:=fun s h=>by have:=hs s h;unfold maxLen;omega
 have aA:l.length<=maxLen:=by unfold maxLen;omega
 rcases id h.2 with ⟨rfl,h0⟩|⟨g,cap,cur,rfl,aC,hg,aD,aE,aF,aB⟩
 ·exact⟨none,0,by rw[h0],aA,hm,fun hne=>absurd (List.eq_nil_of_length_eq_zero h0) hne⟩
 ·refine⟨_,_,rfl,aA,hm,fun _=>⟨g,0,rfl,hS g rfl,fun i hi=>?_⟩⟩
  have:=h.cells (g:=g) rfl i (.string l[i]) (by simp[hi])
  rw[Addr.add_lit]at this
  simpa using this
theorem qgX {S:Nat->Prop} {n:Nat} {w:World} {M:Nat} {e:TypeId} {v:Value} {l:List (K n)} {xs:List Value} (h:w.ownsRow M e 3 v l.length xs) (hl:l.length<=20000) (hS:∀ g,v.ownBlock=some g->S g)
  (hk:∀ j (h:j<l.length),∃ c0 c1 c2,(xs[j*3]?=some c0/\xs[j*3+1]?=some c1/\xs[j*3+2]?=some c2)/\KindIn S w n l[j] c0 c1 c2):RowIn3 S w (KindIn S w n) l v:=by
 have aA:l.length<=maxLen:=by unfold maxLen;omega
 rcases id h.2 with ⟨rfl,h0⟩|⟨g,cap,cur,rfl,aC,hg,aD,aE,aF,aB⟩
 ·exact⟨none,0,by rw[h0],aA,fun hne=>absurd (List.eq_nil_of_length_eq_zero h0) hne⟩
 ·refine⟨_,_,rfl,aA,fun _=>⟨g,0,rfl,hS g rfl,fun i hi=>?_⟩⟩
  obtain⟨c0,c1,c2,⟨e0,e1,e2⟩,ht⟩:=hk i hi
  have hc:∀ j u,xs[j]?=some u->w.cell? ⟨g,0+j,none⟩=some u:=fun j u hu=>by
   have:=h.cells (g:=g) rfl j u hu
   rwa [Addr.add_lit]at this
  exact⟨c0,c1,c2,hc _ _ e0,hc _ _ e1,hc _ _ e2,ht⟩
theorem RForm.rows {R n:Nat} {w wr:World} {ns:List ByteArray} {ks:List (K n)} {nv kv:Value} (h:RForm R n w wr ns ks nv kv) (hl:ns.length<=20000) (hk:ks.length<=20000) :
  StrsIn (fun b=>w.heap.size<=b/\b<wr.heap.size) wr ns nv/\RowIn3 (fun b=>w.heap.size<=b/\b<wr.heap.size) wr (KindIn (fun b=>w.heap.size<=b/\b<wr.heap.size) wr n) ks kv:=by
 obtain⟨xs,aA,aB⟩:=h.kids
 refine⟨qdZ h.names hl h.short fun g hg=>r1_lt h.names g hg,qgX aA hk (fun g hg=>r1_lt aA g hg) fun j hj=>?_⟩
 obtain⟨c0,c1,c2,hd,aC⟩:=aB j hj
 exact⟨c0,c1,c2,hd,aC.keep (fun _ _=>rfl) (fun b hb=>⟨hb.1,hb.2.1⟩)⟩
end Go.Proofs.YtelogmjfekhmpaaGreatDoor
