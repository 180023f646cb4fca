import Derived.Test.YtelogmjfekhmpaaGreatDoorMN1
namespace Go.Proofs.YtelogmjfekhmpaaGreatDoor
open Go.RowKit
theorem qdF {w:World} {base z:Nat} {e:TypeId} {v:Value} {n:Nat} {xs:List Value} (h:w.ownsRow base e z v n xs) (g j:Nat) (hv:v.ownBlock=some g) (x:Value):(w.setCell ⟨g,j,none⟩ x).ownsRow base e z v n (xs.set j x):=by
 obtain⟨h1,h2⟩:=h
 refine⟨by rw[List.length_set];exact h1,?_⟩
 rcases h2 with ⟨rfl,h0⟩|⟨g',cap,cur,rfl,aB,hg,aC,aD,aE,aA⟩
 ·cases hv
 ·have e:g'=g:=by simpa [Value.ownBlock] using hv
  subst e
  refine .inr ⟨g',cap,cur.setIfInBounds j x,rfl,aB,?_,aC,aD,by rw[Array.size_setIfInBounds];exact aE,?_⟩
  ·simp[World.setCell,Array.getElem?_modify,hg]
  ·rw[Array.toList_setIfInBounds,List.take_set,aA]
theorem qsS {xs:List Value} {q:Nat} (hq:xs.length=q) (a b c d e a' b' c' d' e':Value):(((((xs++[a,b,c,d,e]).set q a').set (q+1) b').set (q+2) c').set (q+3) d').set (q+4) e'=xs++[a',b',c',d',e']:=by
 subst hq
 rw[List.set_append_right _ _ (Nat.le_refl _),List.set_append_right _ _ (by omega),List.set_append_right _ _ (by omega),List.set_append_right _ _ (by omega),List.set_append_right _ _ (by omega)]
 congr 1
 rw[show xs.length - xs.length=0 by omega,show xs.length+1 - xs.length=1 by omega,show xs.length+2 - xs.length=2 by omega,show xs.length+3 - xs.length=3 by omega,show xs.length+4 - xs.length=4 by omega]
 rfl
theorem qhA (w:World) (X o g p:Nat) (u v:Value) (h:X≠g):(w.setCell ⟨X,o,none⟩ u).setCell ⟨g,p,none⟩ v=(w.setCell ⟨g,p,none⟩ v).setCell ⟨X,o,none⟩ u:=by
 unfold World.setCell
 congr 1
 apply Array.ext_getElem?
 intro i
 simp only[Array.getElem?_modify]
 by_cases h1:X=i
 ·have h2:¬ g=i:=by omega
  simp[h1,h2]
 ·by_cases h2:g=i
  ·simp[h1,h2]
  ·simp[h1,h2]
theorem xdV (w:World) (X o g p:Nat) (u a b c d e:Value) (h:X≠g):put5 (w.setCell ⟨X,o,none⟩ u) g p a b c d e=(put5 w g p a b c d e).setCell ⟨X,o,none⟩ u:=by
 unfold put5
 rw[qhA _ _ _ _ _ _ _ h,qhA _ _ _ _ _ _ _ h,qhA _ _ _ _ _ _ _ h,qhA _ _ _ _ _ _ _ h,qhA _ _ _ _ _ _ _ h]
theorem qgJ {W:World} {Y g j cap:Nat} {xs:List Value} {a b c d e:Value} (h:W.ownsRow (Y+1) 25 5 (.slice (some ⟨g,0,none⟩) (j+1) cap) (j+1) (xs++[a,b,c,d,e])) (hx:xs.length=j*5) :
  (W.cell? ⟨g,j*5,none⟩=some a/\W.cell? ⟨g,j*5+1,none⟩=some b/\W.cell? ⟨g,j*5+2,none⟩=some c/\W.cell? ⟨g,j*5+3,none⟩=some d/\W.cell? ⟨g,j*5+4,none⟩=some e)/\∀ o,W.frozen? ⟨g,o,none⟩=false:=by
 have q:∀ k v,(xs++[a,b,c,d,e])[k]?=some v->W.cell? ⟨g,k,none⟩=some v:=fun k v hv=>by
  have:=h.cells (g:=g) rfl k v hv
  rw[Addr.add_lit,Nat.zero_add]at this
  exact this
 refine⟨⟨q _ _ ?_,q _ _ ?_,q _ _ ?_,q _ _ ?_,q _ _ ?_⟩,fun o=>?_⟩
 ·rw[List.getElem?_append_right (by omega),show j*5 - xs.length=0 by omega];rfl
 ·rw[List.getElem?_append_right (by omega),show j*5+1 - xs.length=1 by omega];rfl
 ·rw[List.getElem?_append_right (by omega),show j*5+2 - xs.length=2 by omega];rfl
 ·rw[List.getElem?_append_right (by omega),show j*5+3 - xs.length=3 by omega];rfl
 ·rw[List.getElem?_append_right (by omega),show j*5+4 - xs.length=4 by omega];rfl
 ·rcases h.2 with ⟨h0,h1⟩|⟨g',cap',cur,hv,aB,hg,aC,aD,aE,aA⟩
  ·omega
  ·have e:g=g':=by simpa [Value.ownBlock] using congrArg (fun v=>v.ownBlock) hv
   subst e
   simp[World.frozen?,hg]
theorem ManyN.kidZ {R X Y n:Nat} {w W Wp W2:World} {so nm:Int} {tx:ByteArray} {ns:List ByteArray} {ks:List (T n)} {nv kv:Value} {t:T n} {c0 c1 c2 c3 c4 z0 z1 z2 z3 z4:Value} {g cap:Nat} (h0:ManyN R X Y n w W so nm tx ns ks nv kv) (hRX:R<X) (hw:w.heap.size<=X)
  (hn:Near R W Wp) (ht:NodeIn (fun b=>W.heap.size<=b/\b<Wp.heap.size) Wp n t c0 c1 c2 c3 c4) {xs:List Value}
  (hxs:W.ownsRow (Y+1) 25 5 kv ks.length xs) (hk:∀ j (h:j<ks.length),∃ c0 c1 c2 c3 c4,(xs[j*5]?=some c0/\xs[j*5+1]?=some c1/\xs[j*5+2]?=some c2/\xs[j*5+3]?=some c3/\xs[j*5+4]?=some c4)/\NodeIn (Far (Y+1) nv kv W.heap.size) W n ks[j] c0 c1 c2 c3 c4)
  (hown:W2.ownsRow (Y+1) 25 5 (.slice (some ⟨g,0,none⟩) (ks.length+1) cap) (ks.length+1) (xs++[z0,z1,z2,z3,z4])) (hgrow:Wp.grownBy W2 kv.ownBlock) (hat:kv.ownBlock=some g∨g=Wp.heap.size) :
  ManyN R X Y n w ((put5 W2 g (ks.length*5) c0 c1 c2 c3 c4).setCell ⟨X,4,none⟩ (.slice (some ⟨g,0,none⟩) (ks.length+1) cap)) so nm tx ns (ks++[t]) nv (.slice (some ⟨g,0,none⟩) (ks.length+1) cap):=by
 have hX:=h0.lt
 have aJ:=h0.xy
 have aO:=hn.size
 have hz:W2.heap.size ≥ Wp.heap.size:=hgrow.size
 have aH:=qaF h0.names
 have aG:=qaF hxs
 have aP:=qaF hown g rfl
 have aK:xs.length=ks.length*5:=hxs.1
 have q1:∀ b,b<Wp.heap.size->kv.ownBlock≠some b->W2.heap[b]?=Wp.heap[b]?:=fun b hb hne=>hgrow.block b hb (fun e=>hne e.symm)
 have aL:g≠X:=by omega
 have aB:(put5 W2 g (ks.length*5) c0 c1 c2 c3 c4).ownsRow (Y+1) 25 5 (.slice (some ⟨g,0,none⟩) (ks.length+1) cap) (ks.length+1) (xs++[c0,c1,c2,c3,c4]):=by
  unfold put5
  rw[<- qsS aK z0 z1 z2 z3 z4 c0 c1 c2 c3 c4]
  exact qdF (qdF (qdF (qdF (qdF hown g _ rfl c0) g _ rfl c1) g _ rfl c2) g _ rfl c3) g _ rfl c4
 have p5:∀ b,b≠g->(put5 W2 g (ks.length*5) c0 c1 c2 c3 c4).heap[b]?=W2.heap[b]?:=fun b hb=>qaS hb
 have p5s:(put5 W2 g (ks.length*5) c0 c1 c2 c3 c4).heap.size=W2.heap.size:=qbQ
 have aC:Below 0 W2 (put5 W2 g (ks.length*5) c0 c1 c2 c3 c4):=qaZ (Below.refl 0 W2) (Nat.zero_le _)
 generalize put5 W2 g (ks.length*5) c0 c1 c2 c3 c4=W3 at *
 have qs:∀ b,b≠X->(W3.setCell ⟨X,4,none⟩ (.slice (some ⟨g,0,none⟩) (ks.length+1) cap)).heap[b]?=W3.heap[b]?:=fun b hb=>Below.heap_setCell _ _ _ _ hb
 have aE:(W3.setCell ⟨X,4,none⟩ (.slice (some ⟨g,0,none⟩) (ks.length+1) cap)).heap.size=W3.heap.size:=by simp
 have aM:kv.ownBlock≠some X:=fun e=>by have:=aG X e;omega
 have aI:∀ b,b<Wp.heap.size->kv.ownBlock≠some b->b≠g:=fun b hb hne e=>by
  subst e
  rcases hat with h|h
  ·exact hne h
  ·omega
 have qa:∀ b,b<Wp.heap.size->b≠X->kv.ownBlock≠some b->(W3.setCell ⟨X,4,none⟩ (.slice (some ⟨g,0,none⟩) (ks.length+1) cap)).heap[b]?=Wp.heap[b]?:=fun b hb hbX hne=>by
  rw[qs b hbX,p5 b (aI b hb hne),q1 b hb hne]
 have qw:∀ b,b<W.heap.size->b≠R->b≠X->kv.ownBlock≠some b->(W3.setCell ⟨X,4,none⟩ (.slice (some ⟨g,0,none⟩) (ks.length+1) cap)).heap[b]?=W.heap[b]?:=fun b hb hR hbX hne=>by
  rw[qa b (by omega) hbX hne,hn.block b hb hR]
 have aF:W3.heap[X]?=_:=(p5 X (fun e=>aL e.symm)).trans ((q1 X (by omega) aM).trans ((hn.block X hX (by omega)).trans h0.box))
 have aD:∀ b,kv.ownBlock≠some b->b<Wp.heap.size->(Value.slice (some ⟨g,0,none⟩) (ks.length+1) cap).ownBlock≠some b:=by
  intro b h1 h2 e
  have e:g=b:=by simpa [Value.ownBlock] using e
  exact aI b h2 h1 e.symm
 refine⟨⟨?_,?_,?_,by rw[aE,p5s];have:=h0.near.size;omega,fun b hb hne=>?_⟩,?_,qaL h0.names fun g' hg'=>?_,h0.short,⟨xs++[c0,c1,c2,c3,c4],?_,fun j hj=>?_⟩,fun b hb=>?_,⟨aJ.1,by first|(rw[aE,p5s];omega)|(rw[aE];omega)⟩⟩
 ·show W3.os=w.os
  rw[aC.os,hgrow.os];exact hn.os.trans h0.near.os
 ·show W3.tape=w.tape
  rw[aC.tape,hgrow.tape];exact hn.tape.trans h0.near.tape
 ·show W3.output=w.output
  rw[aC.output,hgrow.output];exact hn.output.trans h0.near.output
 ·have hs:=h0.near.size
  rw[qw b (by omega) hne (by omega) (fun e=>by have:=aG b e;omega)]
  exact h0.near.block b hb hne
 ·simp[World.setCell,Array.getElem?_modify,aF]
 ·have:=aH g' hg'
  exact qw g' this.2 (by omega) (by omega) (h0.apart g' hg')
 ·rw[List.length_append,List.length_singleton]
  exact qaL aB fun g' hg'=>qs g' (by have:=qaF aB g' hg';omega)
 ·by_cases hjk:j<ks.length
  ·obtain⟨d0,d1,d2,d3,d4,⟨e0,e1,e2,e3,e4⟩,hd⟩:=hk j hjk
   have aA:∀ o v,o<5->xs[j*5+o]?=some v->(xs++[c0,c1,c2,c3,c4])[j*5+o]?=some v:=fun o v ho h=>by
    rw[List.getElem?_append_left (by omega)];exact h
   refine⟨d0,d1,d2,d3,d4,⟨aA 0 _ (by omega) e0,aA 1 _ (by omega) e1,aA 2 _ (by omega) e2,aA 3 _ (by omega) e3,aA 4 _ (by omega) e4⟩,?_⟩
   rw[List.getElem_append_left hjk]
   refine hd.keep (fun b hb=>?_) (fun b hb=>⟨hb.1,by rw[aE,p5s];have:=hb.2.1;omega,hb.2.2.1,aD b hb.2.2.2 (by have:=hb.2.1;omega)⟩)
   have h1:=hb.1
   exact qw b hb.2.1 (by omega) (by omega) hb.2.2.2
  ·have aN:j=ks.length:=by
    rw[List.length_append,List.length_singleton]at hj;omega
   subst aN
   refine⟨c0,c1,c2,c3,c4,⟨?_,?_,?_,?_,?_⟩,?_⟩
   ·rw[List.getElem?_append_right (by omega),show ks.length*5 - xs.length=0 by omega];rfl
   ·rw[List.getElem?_append_right (by omega),show ks.length*5+1 - xs.length=1 by omega];rfl
   ·rw[List.getElem?_append_right (by omega),show ks.length*5+2 - xs.length=2 by omega];rfl
   ·rw[List.getElem?_append_right (by omega),show ks.length*5+3 - xs.length=3 by omega];rfl
   ·rw[List.getElem?_append_right (by omega),show ks.length*5+4 - xs.length=4 by omega];rfl
   ·rw[List.getElem_append_right (Nat.le_refl _)]
    simp only[Nat.sub_self,List.getElem_cons_zero]
    refine ht.keep (fun b hb=>?_) (fun b hb=>⟨by omega,by rw[aE,p5s];omega,fun e=>by have:=aH b e;omega,aD b (fun e=>by have:=aG b e;omega) hb.2⟩)
    exact qa b hb.2 (by omega) (fun e=>by have:=aG b e;omega)
 ·have:=aH b hb
  exact aD b (h0.apart b hb) (by omega)
theorem xdW {R X Y n g q:Nat} {W Wp W2:World} {kv u c0 c1 c2 c3 c4:Value} {xs:List Value} {c:Obj} (hRX:R<X) (hXY:X<=Y) (hxs:W.ownsRow (Y+1) 25 5 kv n xs) (hgrow:Wp.grownBy W2 kv.ownBlock) (hgX:X<g) (hRl:R<Wp.heap.size) (hc:Wp.heap[R]?=some c):((put5 W2 g q c0 c1 c2 c3 c4).setCell ⟨X,4,none⟩ u).heap[R]?=some c:=by
 rw[Below.heap_setCell _ _ _ _ (by show R≠X;omega),qaS (by omega),hgrow.block R hRl (fun e=>by have:=qaF hxs R e.symm;omega)]
 exact hc
abbrev zeroN:Obj:=.cells #[.int .i64 0,.int .i64 0,.string ⟨#[]⟩,.slice none 0 0,.slice none 0 0] 25
theorem qgK {R X Y k z:Nat} {e:TypeId} {v:Value} {xs:List Value} {W Wp W2:World} {c:Obj} (hb:W.heap[X]?=some c) (hx:W.ownsRow (Y+1) e z v k xs) (hRX:R<X) (hXY:X<=Y) (hn:Near R W Wp) (hg:Wp.grownBy W2 v.ownBlock):W2.heap[X]?=some c:=by
 have hX:X<W.heap.size:=(Array.getElem?_eq_some_iff.1 hb).1
 have:=hn.size
 rw[hg.block X (by omega) (fun e=>by have:=qaF hx X e.symm;omega),hn.block X hX (by omega)]
 exact hb
theorem qoS {R:Nat} {wc v2:World} (hn:Near R (wc.drew.alloc zeroN) v2) (hR:R<wc.heap.size):v2.heap[wc.heap.size]?=some (.cells #[.int .i64 0,.int .i64 0,.string ⟨#[]⟩,.slice none 0 0,.slice none 0 0] 25 (0,0)):=by
 rw[hn.block wc.heap.size (by show _<(wc.heap.push _).size;simp) (by omega)]
 exact heap_alloc_new wc.drew zeroN
theorem qhO {R Y k z:Nat} {e:TypeId} {v:Value} {xs:List Value} {W w2:World} (h:W.ownsRow (Y+1) e z v k xs) (hRX:R<Y) (hn:Near R W w2):w2.ownsRow (Y+1) e z v k xs:=
 qaL h fun g hg=>hn.block g (qaF h g hg).2 (by have:=(qaF h g hg).1;omega)
theorem ManyNP.kidZ {R X Y n:Nat} {w W Wp W2:World} {so nm:Int} {tx:ByteArray} {ns:List ByteArray} {ks:List (T n)} {nv kv:Value} {t:T n} {c0 c1 c2 c3 c4 z0 z1 z2 z3 z4:Value} {g cap:Nat} (h0:ManyN R X Y n w W so nm tx ns ks nv kv) (hRX:R<X) (hw:w.heap.size<=X)
  (hn:Near R W Wp) (ht:NodeIn (fun b=>W.heap.size<=b/\b<Wp.heap.size) Wp n t c0 c1 c2 c3 c4) (hot:OwnN (fun b=>W.heap.size<=b/\b<Wp.heap.size) Wp n t c3 c4) {xs:List Value} {Ps:List (List Spot)}
  (hxs:W.ownsRow (Y+1) 25 5 kv ks.length xs) (hpl:Ps.length=ks.length) (hko:KidsOwnN (Far (Y+1) nv kv W.heap.size) W n ks xs Ps) (hln:Ps.flatten.length+3*ks.length=sumL (fun x=>3+spL n x) ks)
  (hown:W2.ownsRow (Y+1) 25 5 (.slice (some ⟨g,0,none⟩) (ks.length+1) cap) (ks.length+1) (xs++[z0,z1,z2,z3,z4])) (hgrow:Wp.grownBy W2 kv.ownBlock) (hat:kv.ownBlock=some g∨g=Wp.heap.size) :
  ManyNP R X Y n w ((put5 W2 g (ks.length*5) c0 c1 c2 c3 c4).setCell ⟨X,4,none⟩ (.slice (some ⟨g,0,none⟩) (ks.length+1) cap)) so nm tx ns (ks++[t]) nv (.slice (some ⟨g,0,none⟩) (ks.length+1) cap):=by
 have hM:=ManyN.kidZ h0 hRX hw hn ht hxs (fun j hj=>by
  obtain⟨d0,d1,d2,d3,d4,K3,K4,hx,-,aJ,-⟩:=hko.2 j hj (by omega)
  exact⟨d0,d1,d2,d3,d4,hx,aJ⟩) hown hgrow hat
 have hX:=h0.lt
 have aK:=h0.xy
 have aL:=hn.size
 have hz:W2.heap.size ≥ Wp.heap.size:=hgrow.size
 have aC:=qaF hxs
 have aM:=qaF hown g rfl
 have aD:xs.length=ks.length*5:=hxs.1
 have q1:∀ b,b<Wp.heap.size->kv.ownBlock≠some b->W2.heap[b]?=Wp.heap[b]?:=fun b hb hne=>hgrow.block b hb (fun e=>hne e.symm)
 have aA:(put5 W2 g (ks.length*5) c0 c1 c2 c3 c4).ownsRow (Y+1) 25 5 (.slice (some ⟨g,0,none⟩) (ks.length+1) cap) (ks.length+1) (xs++[c0,c1,c2,c3,c4]):=by
  unfold put5
  rw[<- qsS aD z0 z1 z2 z3 z4 c0 c1 c2 c3 c4]
  exact qdF (qdF (qdF (qdF (qdF hown g _ rfl c0) g _ rfl c1) g _ rfl c2) g _ rfl c3) g _ rfl c4
 have p5:∀ b,b≠g->(put5 W2 g (ks.length*5) c0 c1 c2 c3 c4).heap[b]?=W2.heap[b]?:=fun b hb=>qaS hb
 have p5s:(put5 W2 g (ks.length*5) c0 c1 c2 c3 c4).heap.size=W2.heap.size:=qbQ
 generalize put5 W2 g (ks.length*5) c0 c1 c2 c3 c4=W3 at *
 have qs:∀ b,b≠X->(W3.setCell ⟨X,4,none⟩ (.slice (some ⟨g,0,none⟩) (ks.length+1) cap)).heap[b]?=W3.heap[b]?:=fun b hb=>Below.heap_setCell _ _ _ _ hb
 have aE:(W3.setCell ⟨X,4,none⟩ (.slice (some ⟨g,0,none⟩) (ks.length+1) cap)).heap.size=W3.heap.size:=by simp
 have aF:∀ b,b<Wp.heap.size->kv.ownBlock≠some b->b≠g:=fun b hb hne e=>by
  subst e
  rcases hat with h|h
  ·exact hne h
  ·omega
 have qa:∀ b,b<Wp.heap.size->b≠X->kv.ownBlock≠some b->(W3.setCell ⟨X,4,none⟩ (.slice (some ⟨g,0,none⟩) (ks.length+1) cap)).heap[b]?=Wp.heap[b]?:=fun b hb hbX hne=>by
  rw[qs b hbX,p5 b (aF b hb hne),q1 b hb hne]
 have aB:∀ b,kv.ownBlock≠some b->b<Wp.heap.size->(Value.slice (some ⟨g,0,none⟩) (ks.length+1) cap).ownBlock≠some b:=by
  intro b h1 h2 e
  have e:g=b:=by simpa [Value.ownBlock] using e
  exact aF b h2 h1 e.symm
 have aG:=qaF h0.names
 obtain⟨L3,L4,s3,s4,so4,sl⟩:=hot.keep (w':=W3.setCell ⟨X,4,none⟩ (.slice (some ⟨g,0,none⟩) (ks.length+1) cap)) (fun b hb=>qa b hb.2 (by omega) (fun e=>by have:=aC b e;omega)) (fun _ h=>h)
 have aH:=ht.keep (w':=W3.setCell ⟨X,4,none⟩ (.slice (some ⟨g,0,none⟩) (ks.length+1) cap)) (fun b hb=>qa b hb.2 (by omega) (fun e=>by have:=aC b e;omega)) (fun _ h=>h)
 have aI:=hko.keep (w':=W3.setCell ⟨X,4,none⟩ (.slice (some ⟨g,0,none⟩) (ks.length+1) cap)) (fun b hb=>by
  have h1:=hb.1
  have h2:=hb.2.1
  rw[qa b (by omega) (by omega) hb.2.2.2,hn.block b h2 (by omega)]) (fun _ h=>h)
 have hS:=aI.snoc hpl aD aH s3 s4 so4 (fun b h1 h2=>by have:=h1.2.1;omega)
 refine⟨hM,xs++[c0,c1,c2,c3,c4],Ps++[L3++L4],?_,by simp[hpl],hS.keep (fun _ _=>rfl) (fun b hb=>?_),?_⟩
 ·rw[List.length_append,List.length_singleton]
  exact qaL aA fun g' hg'=>qs g' (by have:=qaF aA g' hg';omega)
 ·rcases hb with hb|hb
  ·exact⟨hb.1,by rw[aE,p5s];have:=hb.2.1;omega,hb.2.2.1,aB b hb.2.2.2 (by have:=hb.2.1;omega)⟩
  ·exact⟨by omega,by rw[aE,p5s];omega,fun e=>by have:=aG b e;omega,aB b (fun e=>by have:=aC b e;omega) hb.2⟩
 ·rw[qyX,<- hln,List.flatten_append,List.flatten_singleton,List.length_append,sl,List.length_append,List.length_singleton];omega
end Go.Proofs.YtelogmjfekhmpaaGreatDoor
