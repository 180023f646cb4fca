import Derived.Test.YtelogmjfekhmpaaGreatDoorMN0
import Derived.Test.YtelogmjfekhmpaaGreatDoorTRdL
namespace Go.Proofs.YtelogmjfekhmpaaGreatDoor
open Go.RowKit
theorem qsV {S:Nat->Prop} {n:Nat} {w:World} {M:Nat} {e:TypeId} {v:Value} {l:List (T n)} {xs:List Value} (h:w.ownsRow M e 5 v l.length xs) (hl:l.length<=20000) (hS:∀ g,v.ownBlock=some g->S g)
  (hk:∀ j (h:j<l.length),∃ c0 c1 c2 c3 c4,(xs[j*5]?=some c0/\xs[j*5+1]?=some c1/\xs[j*5+2]?=some c2/\xs[j*5+3]?=some c3/\xs[j*5+4]?=some c4)/\NodeIn S w n l[j] c0 c1 c2 c3 c4):RowIn S w (NodeIn S w n) l v:=by
 have aA:l.length<=maxLen:=by unfold maxLen;omega
 rcases id h.2 with ⟨rfl,h0⟩|⟨g,cap,cur,rfl,aC,hg,aD,aE,aF,aB⟩
 ·exact⟨none,0,by rw[h0],aA,fun hne=>absurd (List.eq_nil_of_length_eq_zero h0) hne⟩
 ·refine⟨_,_,rfl,aA,fun _=>⟨g,0,rfl,hS g rfl,fun i hi=>?_⟩⟩
  obtain⟨c0,c1,c2,c3,c4,⟨e0,e1,e2,e3,e4⟩,ht⟩:=hk i hi
  have hc:∀ j u,xs[j]?=some u->w.cell? ⟨g,0+j,none⟩=some u:=fun j u hu=>by
   have:=h.cells (g:=g) rfl j u hu
   rwa [Addr.add_lit]at this
  exact⟨c0,c1,c2,c3,c4,hc _ _ e0,hc _ _ e1,hc _ _ e2,hc _ _ e3,hc _ _ e4,ht⟩
theorem qsW {w:World} {M:Nat} {e:TypeId} {z:Nat} {ao:Option Addr} {k c:Nat} {xs:List Value} (h:w.ownsRow M e z (.slice ao k c) k xs):k<=c:=by
 rcases h.2 with ⟨hv,h0⟩|⟨g,cap,cur,hv,aC,hg,aB,aD,aE,aA⟩
 ·omega
 ·cases hv;exact aB
theorem ManyN.kid {R X Y n:Nat} {w W W1 Wa W2:World} {so nm:Int} {tx:ByteArray} {ns:List ByteArray} {ks:List (T n)} {nv kv:Value} {t:T n} {c0 c1 c2 c3 c4:Value} {one:Obj} {g cap:Nat} (h0:ManyN R X Y n w W so nm tx ns ks nv kv) (hRX:R<X) (hw:w.heap.size<=X)
  (hn:Near R W W1) (ht:NodeIn (fun b=>W.heap.size<=b/\b<W1.heap.size) W1 n t c0 c1 c2 c3 c4)
  (ha:Wa.heap=W1.heap.push one) (ho:Wa.os=W1.os/\Wa.tape=W1.tape/\Wa.output=W1.output) {xs:List Value}
  (hxs:W.ownsRow (Y+1) 25 5 kv ks.length xs) (hk:∀ j (h:j<ks.length),∃ c0 c1 c2 c3 c4,(xs[j*5]?=some c0/\xs[j*5+1]?=some c1/\xs[j*5+2]?=some c2/\xs[j*5+3]?=some c3/\xs[j*5+4]?=some c4)/\NodeIn (Far (Y+1) nv kv W.heap.size) W n ks[j] c0 c1 c2 c3 c4)
  (hown:W2.ownsRow (Y+1) 25 5 (.slice (some ⟨g,0,none⟩) (ks.length+1) cap) (ks.length+1) (xs++[c0,c1,c2,c3,c4])) (hgrow:Wa.grownBy W2 kv.ownBlock) (hat:kv.ownBlock=some g∨g=W1.heap.size+1) :
  ManyN R X Y n w (W2.setCell ⟨X,4,none⟩ (.slice (some ⟨g,0,none⟩) (ks.length+1) cap)) so nm tx ns (ks++[t]) nv (.slice (some ⟨g,0,none⟩) (ks.length+1) cap):=by
 have hX:=h0.lt
 have aH:=h0.xy
 have aL:=hn.size
 have hz:W2.heap.size ≥ W1.heap.size+1:=by have:=hgrow.size;rw[ha]at this;simp at this;omega
 have aG:=qaF h0.names
 have aF:=qaF hxs
 have aM:=qaF hown g rfl
 have q1:∀ b,b<W1.heap.size->kv.ownBlock≠some b->W2.heap[b]?=W1.heap[b]?:=fun b hb hne=>by
  rw[hgrow.block b (by rw[ha];simp;omega) (fun e=>hne e.symm),ha,Array.getElem?_push_lt hb,Array.getElem?_eq_getElem hb]
 have q:∀ b,b<W.heap.size->b≠R->kv.ownBlock≠some b->W2.heap[b]?=W.heap[b]?:=fun b hb hR hne=>by
  rw[q1 b (by omega) hne,hn.block b hb hR]
 have qs:∀ b,b≠X->(W2.setCell ⟨X,4,none⟩ (.slice (some ⟨g,0,none⟩) (ks.length+1) cap)).heap[b]?=W2.heap[b]?:=fun b hb=>Below.heap_setCell _ _ _ _ hb
 have aC:(W2.setCell ⟨X,4,none⟩ (.slice (some ⟨g,0,none⟩) (ks.length+1) cap)).heap.size=W2.heap.size:=by simp
 have aI:kv.ownBlock≠some X:=fun e=>by have:=aF X e;omega
 have aD:=(q X hX (by omega) aI).trans h0.box
 have aJ:xs.length=ks.length*5:=hxs.1
 refine⟨⟨?_,?_,?_,by rw[aC];have:=h0.near.size;omega,fun b hb hne=>?_⟩,?_,qaL h0.names fun g' hg'=>?_,h0.short,⟨xs++[c0,c1,c2,c3,c4],?_,fun j hj=>?_⟩,fun b hb=>?_,⟨aH.1,by first|(rw[aC,p5s];omega)|(rw[aC];omega)⟩⟩
 ·show W2.os=w.os
  rw[hgrow.os,ho.1];exact hn.os.trans h0.near.os
 ·show W2.tape=w.tape
  rw[hgrow.tape,ho.2.1];exact hn.tape.trans h0.near.tape
 ·show W2.output=w.output
  rw[hgrow.output,ho.2.2];exact hn.output.trans h0.near.output
 ·have hs:=h0.near.size
  rw[qs b (by omega),q b (by omega) hne (fun e=>by have:=aF b e;omega)]
  exact h0.near.block b hb hne
 ·simp[World.setCell,Array.getElem?_modify,aD]
 ·have:=aG g' hg'
  rw[qs g' (by omega),q g' this.2 (by omega) (h0.apart g' hg')]
 ·rw[List.length_append,List.length_singleton]
  exact qaL hown fun g' hg'=>qs g' (by have:=qaF hown g' hg';omega)
 ·have aE:∀ b,kv.ownBlock≠some b->b<W1.heap.size->(Value.slice (some ⟨g,0,none⟩) (ks.length+1) cap).ownBlock≠some b:=by
   intro b h1 h2 e
   have e:g=b:=by simpa [Value.ownBlock] using e
   rcases hat with h3|h3
   ·exact h1 (by rw[h3,e])
   ·omega
  by_cases hjk:j<ks.length
  ·obtain⟨d0,d1,d2,d3,d4,⟨e0,e1,e2,e3,e4⟩,hd⟩:=hk j hjk
   have aA:∀ o v,o<5->xs[j*5+o]?=some v->(xs++[c0,c1,c2,c3,c4])[j*5+o]?=some v:=fun o v ho h=>by
    rw[List.getElem?_append_left (by omega)];exact h
   refine⟨d0,d1,d2,d3,d4,⟨aA 0 _ (by omega) e0,aA 1 _ (by omega) e1,aA 2 _ (by omega) e2,aA 3 _ (by omega) e3,aA 4 _ (by omega) e4⟩,?_⟩
   rw[List.getElem_append_left hjk]
   refine hd.keep (fun b hb=>?_) (fun b hb=>⟨hb.1,by rw[aC];have:=hb.2.1;omega,hb.2.2.1,aE b hb.2.2.2 (by have:=hb.2.1;omega)⟩)
   rw[qs b (by have:=hb.1;omega),q b hb.2.1 (by have:=hb.1;omega) hb.2.2.2]
  ·have aK:j=ks.length:=by simp at hj;omega
   subst aK
   have aB:∀ o v,o<5->[c0,c1,c2,c3,c4][o]?=some v->(xs++[c0,c1,c2,c3,c4])[ks.length*5+o]?=some v:=fun o v ho h=>by
    rw[List.getElem?_append_right (by omega),aJ,Nat.add_sub_cancel_left];exact h
   refine⟨c0,c1,c2,c3,c4,⟨aB 0 _ (by omega) rfl,aB 1 _ (by omega) rfl,aB 2 _ (by omega) rfl,aB 3 _ (by omega) rfl,aB 4 _ (by omega) rfl⟩,?_⟩
   have:(ks++[t])[ks.length]=t:=by simp
   rw[this]
   refine ht.keep (fun b hb=>?_) (fun b hb=>⟨by omega,by rw[aC];omega,fun e=>by have:=aG b e;omega,aE b (fun e=>by have:=aF b e;omega) hb.2⟩)
   rw[qs b (by omega),q1 b hb.2 (fun e=>by have:=aF b e;omega)]
 ·intro e
  have e:g=b:=by simpa [Value.ownBlock] using e
  subst e
  rcases hat with h1|h1
  ·exact h0.apart g hb h1
  ·have:=aG g hb;omega
theorem ManyN.kidD {R X Y n:Nat} {w wr W1 W2:World} {so nm:Int} {tx:ByteArray} {ns:List ByteArray} {ks:List (T n)} {nv kv:Value} {t:T n} {c0 c1 c2 c3 c4:Value} {one:Obj} {g cap:Nat} (m:Nat) (h0:ManyN R X Y n w wr so nm tx ns ks nv kv) (hRX:R<X) (hw:w.heap.size<=X)
  (hn:Near R (wr.drewN m) W1) (ht:NodeIn (fun b=>(wr.drewN m).heap.size<=b/\b<W1.heap.size) W1 n t c0 c1 c2 c3 c4) {xs:List Value}
  (hxs:wr.ownsRow (Y+1) 25 5 kv ks.length xs) (hk:∀ j (h:j<ks.length),∃ c0 c1 c2 c3 c4,(xs[j*5]?=some c0/\xs[j*5+1]?=some c1/\xs[j*5+2]?=some c2/\xs[j*5+3]?=some c3/\xs[j*5+4]?=some c4)/\NodeIn (Far (Y+1) nv kv wr.heap.size) wr n ks[j] c0 c1 c2 c3 c4)
  (hown:W2.ownsRow (Y+1) 25 5 (.slice (some ⟨g,0,none⟩) (ks.length+1) cap) (ks.length+1) (xs++[c0,c1,c2,c3,c4])) (hgrow:(W1.alloc one).grownBy W2 kv.ownBlock) (hat:kv.ownBlock=some g∨g=W1.heap.size+1) :
  ManyN R X Y n w (W2.setCell ⟨X,4,none⟩ (.slice (some ⟨g,0,none⟩) (ks.length+1) cap)) so nm tx ns (ks++[t]) nv (.slice (some ⟨g,0,none⟩) (ks.length+1) cap):=
 ManyN.kid (W:=wr.drewN m) (Wa:=W1.alloc one) (one:=one) (h0.keep hRX ((Near.refl R wr).drewN m)) hRX hw hn ht rfl ⟨rfl,rfl,rfl⟩ hxs
  (fun j hj=>by obtain⟨d0,d1,d2,d3,d4,hd,hdt⟩:=hk j hj;exact⟨d0,d1,d2,d3,d4,hd,NodeIn.keep (S:=Far (Y+1) nv kv wr.heap.size) (w:=wr) (w':=wr.drewN m) (fun _ _=>rfl) (fun _ h=>h) hdt⟩) hown hgrow hat
theorem qwU {R X Y n:Nat} {w wr:World} {so nm:Int} {tx:ByteArray} {ns:List ByteArray} {ks:List (T n)} {nv kv:Value} (h:ManyN R X Y n w wr so nm tx ns ks nv kv) (h0:(Lit.int .i64 so).wf=true) (h1:(Lit.int .i64 nm).wf=true) (h2:tx.size<=10000) (hns:ns.length<=20000) (hks:ks.length<=20000) :
  NodeIn (fun b=>Y+1<=b/\b<wr.heap.size) wr (n+1) (⟨so,nm,tx,ns,ks⟩:Nd (T n)) (.int .i64 so) (.int .i64 nm) (.string tx) nv kv:=by
 obtain⟨xs,aA,hk⟩:=h.kids
 obtain⟨na,nc,rfl⟩:=qeW h.names
 obtain⟨ka,kc,rfl⟩:=qeW aA
 refine⟨rfl,rfl,rfl,by show tx.size<=maxLen;unfold maxLen;omega,h0,h1,?_,?_,⟨_,_,_,rfl,qsW h.names⟩,⟨_,_,_,rfl,qsW aA⟩⟩
 ·exact qcR h.names hns h.short fun g hg=>qaF h.names g hg
 ·refine qsV aA hks (fun g hg=>qaF aA g hg) fun j hj=>?_
  obtain⟨e0,e1,e2,e3,e4,hc,ht⟩:=hk j hj
  exact⟨e0,e1,e2,e3,e4,hc,ht.keep (fun _ _=>rfl) (fun b hb=>⟨hb.1,hb.2.1⟩)⟩
theorem xdX {P n:Nat} {w W:World} (so nm:Int) (tx:ByteArray) (hW:W=w.alloc (.cells #[.int .i64 so,.int .i64 nm,.string tx,.slice none 0 0,.slice none 0 0] 25)):ManyN P w.heap.size w.heap.size n w W so nm tx [] [] (.slice none 0 0) (.slice none 0 0):=by
 have hb:Below w.heap.size w W:=by rw[hW];exact (Below.refl _ _).alloc (Nat.le_refl _) _
 exact⟨Near.of_below hb,by rw[hW];exact heap_alloc_new _ _,⟨rfl,.inl ⟨rfl,rfl⟩⟩,by simp,⟨[],⟨rfl,.inl ⟨rfl,rfl⟩⟩,fun j hj=>absurd hj (Nat.not_lt_zero _)⟩,fun b hb=>(by cases hb),⟨Nat.le_refl _,by rw[hW];simp⟩⟩
end Go.Proofs.YtelogmjfekhmpaaGreatDoor
