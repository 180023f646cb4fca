import Derived.Test.YtelogmjfekhmpaaGreatDoorScan2
import Derived.Test.YtelogmjfekhmpaaGreatDoorTParse
import Derived.Test.YtelogmjfekhmpaaGreatDoorTMade
import Derived.Test.YtelogmjfekhmpaaGreatDoorKForm0
import Derived.Test.YtelogmjfekhmpaaGreatDoorRow1
import Derived.Lib.AppendIntMem
namespace Go.Proofs.YtelogmjfekhmpaaGreatDoor
open Go.RowKit
structure RTree (R n:Nat) (w wr:World) (ns:List ByteArray) (ks:List (T n)) (nv kv:Value):Prop where
 near:Near R w wr
 names:wr.ownsRow w.heap.size 9 1 nv ns.length (ns.map .string)
 short:∀ s,s∈ns->s.size<=10000
 kids:∃ xs,wr.ownsRow w.heap.size 133 1 kv ks.length xs/\∀ j (h:j<ks.length),∃ c,xs[j]?=some c/\InnerT (Fr w.heap.size nv kv wr.heap.size) wr n ks[j] c
 apart:∀ b,nv.ownBlock=some b->kv.ownBlock≠some b
theorem RTree.start (R n:Nat) (w wr:World) (h:Near R w wr):RTree R n w wr [] [] (.slice none 0 0) (.slice none 0 0):=
 ⟨h,World.ownsRow_nil _ _ _ _,fun _ h=>(by cases h),⟨[],World.ownsRow_nil _ _ _ _,fun j h=>absurd h (Nat.not_lt_zero _)⟩,fun b hb=>by cases hb⟩
theorem RTree.keep {R n:Nat} {w wr W:World} {ns:List ByteArray} {ks:List (T n)} {nv kv:Value} (h:RTree R n w wr ns ks nv kv) (hR:R<w.heap.size) (hn:Near R wr W):RTree R n w W ns ks nv kv:=by
 have hs:∀ b,w.heap.size<=b->b<wr.heap.size->W.heap[b]?=wr.heap[b]?:=fun b h1 h2=>hn.block b h2 (by omega)
 obtain⟨xs,hx,hk⟩:=h.kids
 refine⟨h.near.trans hn,qbG h.names fun g hg=>?_,h.short,⟨xs,qbG hx fun g hg=>?_,fun j hj=>?_⟩,h.apart⟩
 ·have:=r1_lt h.names g hg
  exact hs g this.1 this.2
 ·have:=r1_lt hx g hg
  exact hs g this.1 this.2
 ·obtain⟨c,hc,ht⟩:=hk j hj
  exact⟨c,hc,ht.keep (fun b hb=>hs b hb.1 hb.2.1) (fun b hb=>⟨hb.1,Nat.lt_of_lt_of_le hb.2.1 hn.size,hb.2.2⟩)⟩
theorem RTree.name {R n:Nat} {w W Wa W2:World} {ns:List ByteArray} {ks:List (T n)} {nv kv:Value} {x:ByteArray} {one:Obj} {g cap:Nat} (h:RTree R n w W ns ks nv kv)
  (ha:Wa.heap=W.heap.push one) (ho:Wa.os=W.os/\Wa.tape=W.tape/\Wa.output=W.output) (hx:x.size<=10000)
  (hown:W2.ownsRow w.heap.size 9 1 (.slice (some ⟨g,0,none⟩) (ns.length+1) cap) (ns.length+1) (ns.map .string++[.string x])) (hgrow:Wa.grownBy W2 nv.ownBlock) (hat:nv.ownBlock=some g∨g=W.heap.size+1) :
  RTree R n w W2 (ns++[x]) ks (.slice (some ⟨g,0,none⟩) (ns.length+1) cap) kv/\(∀ b,b<w.heap.size->W2.heap[b]?=W.heap[b]?)/\W.heap.size<=W2.heap.size:=by
 have hz:W2.heap.size ≥ W.heap.size+1:=by have:=hgrow.size;rw[ha]at this;simp at this;omega
 have aA:=r1_lt h.names
 have aD:=r1_lt hown g rfl
 have aE:=h.near.size
 have q:∀ b,b<W.heap.size->nv.ownBlock≠some b->W2.heap[b]?=W.heap[b]?:=fun b hb hne=>by
  rw[hgrow.block b (by rw[ha];simp;omega) (fun e=>hne e.symm),ha,Array.getElem?_push_lt hb,Array.getElem?_eq_getElem hb]
 obtain⟨xs,aC,hk⟩:=h.kids
 have aB:=r1_lt aC
 refine⟨⟨⟨?_,?_,?_,by omega,fun b hb hne=>?_⟩,?_,?_,⟨xs,qbG aC fun g' hg'=>?_,fun j hj=>?_⟩,fun b hb=>?_⟩,fun b hb=>q b (by omega) (fun e=>by have:=aA b e;omega),by omega⟩
 ·rw[hgrow.os,ho.1];exact h.near.os
 ·rw[hgrow.tape,ho.2.1];exact h.near.tape
 ·rw[hgrow.output,ho.2.2];exact h.near.output
 ·rw[q b (by omega) (fun e=>by have:=aA b e;omega)]
  exact h.near.block b hb hne
 ·rw[List.length_append,List.length_singleton,List.map_append,List.map_singleton]
  exact hown
 ·intro s hs
  rcases List.mem_append.1 hs with hs|hs
  ·exact h.short s hs
  ·rw[List.mem_singleton]at hs;subst hs;exact hx
 ·have:=aB g' hg'
  exact q g' this.2 (fun e=>h.apart g' e hg')
 ·obtain⟨c,hc,ht⟩:=hk j hj
  refine⟨c,hc,ht.keep (fun b hb=>?_) (fun b hb=>?_)⟩
  ·exact q b hb.2.1 hb.2.2.1
  ·refine⟨hb.1,by have:=hb.2.1;omega,?_,hb.2.2.2⟩
   intro e
   have e:g=b:=by simpa [Value.ownBlock] using e
   rcases hat with h1|h1
   ·exact hb.2.2.1 (by rw[h1,e])
   ·have:=hb.2.1;omega
 ·have hb:g=b:=by simpa [Value.ownBlock] using hb
  subst hb
  rcases hat with h1|h1
  ·exact h.apart g h1
  ·intro e;have:=aB g e;omega
theorem RTree.kid {R n:Nat} {w W W1 Wa W2:World} {ns:List ByteArray} {ks:List (T n)} {nv kv:Value} {t:T n} {c:Value} {one:Obj} {g cap:Nat} (h0:RTree R n w W ns ks nv kv) (hR:R<w.heap.size)
  (hn:Near R W W1) (ht:InnerT (fun b=>W.heap.size<=b/\b<W1.heap.size) W1 n t c)
  (ha:Wa.heap=W1.heap.push one) (ho:Wa.os=W1.os/\Wa.tape=W1.tape/\Wa.output=W1.output) {xs:List Value}
  (hxs:W.ownsRow w.heap.size 133 1 kv ks.length xs) (hk:∀ j (h:j<ks.length),∃ c,xs[j]?=some c/\InnerT (Fr w.heap.size nv kv W.heap.size) W n ks[j] c)
  (hown:W2.ownsRow w.heap.size 133 1 (.slice (some ⟨g,0,none⟩) (ks.length+1) cap) (ks.length+1) (xs++[c])) (hgrow:Wa.grownBy W2 kv.ownBlock) (hat:kv.ownBlock=some g∨g=W1.heap.size+1) :
  RTree R n w W2 ns (ks++[t]) nv (.slice (some ⟨g,0,none⟩) (ks.length+1) cap)/\(∀ b,b<w.heap.size->W2.heap[b]?=W1.heap[b]?)/\W1.heap.size<=W2.heap.size:=by
 have aF:=hn.size
 have aG:=h0.near.size
 have hz:W2.heap.size ≥ W1.heap.size+1:=by have:=hgrow.size;rw[ha]at this;simp at this;omega
 have aC:=r1_lt h0.names
 have aB:=r1_lt hxs
 have aH:=r1_lt hown g rfl
 have q1:∀ b,b<W1.heap.size->kv.ownBlock≠some b->W2.heap[b]?=W1.heap[b]?:=fun b hb hne=>by
  rw[hgrow.block b (by rw[ha];simp;omega) (fun e=>hne e.symm),ha,Array.getElem?_push_lt hb,Array.getElem?_eq_getElem hb]
 have q:∀ b,b<W.heap.size->b≠R->kv.ownBlock≠some b->W2.heap[b]?=W.heap[b]?:=fun b hb hR hne=>by
  rw[q1 b (by omega) hne,hn.block b hb hR]
 have aD:xs.length=ks.length*1:=hxs.1
 refine⟨⟨⟨?_,?_,?_,by omega,fun b hb hne=>?_⟩,qbG h0.names fun g' hg'=>?_,h0.short,⟨xs++[c],?_,fun j hj=>?_⟩,fun b hb=>?_⟩,fun b hb=>q1 b (by omega) (fun e=>by have:=aB b e;omega),by omega⟩
 ·rw[hgrow.os,ho.1];exact hn.os.trans h0.near.os
 ·rw[hgrow.tape,ho.2.1];exact hn.tape.trans h0.near.tape
 ·rw[hgrow.output,ho.2.2];exact hn.output.trans h0.near.output
 ·rw[q b (by omega) hne (fun e=>by have:=aB b e;omega)]
  exact h0.near.block b hb hne
 ·have:=aC g' hg'
  exact q g' this.2 (by omega) (h0.apart g' hg')
 ·rw[List.length_append,List.length_singleton]
  exact hown
 ·have aA:∀ b,kv.ownBlock≠some b->b<W1.heap.size->(Value.slice (some ⟨g,0,none⟩) (ks.length+1) cap).ownBlock≠some b:=by
   intro b h1 h2 e
   have e:g=b:=by simpa [Value.ownBlock] using e
   rcases hat with h3|h3
   ·exact h1 (by rw[h3,e])
   ·omega
  by_cases hjk:j<ks.length
  ·obtain⟨d,e0,hd⟩:=hk j hjk
   refine⟨d,by rw[List.getElem?_append_left (by omega)];exact e0,?_⟩
   rw[List.getElem_append_left hjk]
   refine hd.keep (fun b hb=>?_) (fun b hb=>⟨hb.1,by have:=hb.2.1;omega,hb.2.2.1,aA b hb.2.2.2 (by have:=hb.2.1;omega)⟩)
   exact q b hb.2.1 (by have:=hb.1;omega) hb.2.2.2
  ·have aE:j=ks.length:=by simp at hj;omega
   subst aE
   refine⟨c,by rw[List.getElem?_append_right (by omega)];simp[aD],?_⟩
   have:(ks++[t])[ks.length]=t:=by simp
   rw[this]
   refine ht.keep (fun b hb=>?_) (fun b hb=>⟨by omega,by omega,fun e=>by have:=aC b e;omega,aA b (fun e=>by have:=aB b e;omega) hb.2⟩)
   exact q1 b hb.2 (fun e=>by have:=aB b e;omega)
 ·intro e
  have e:g=b:=by simpa [Value.ownBlock] using e
  subst e
  rcases hat with h1|h1
  ·exact h0.apart g hb h1
  ·have:=aC g hb;omega
theorem RTree.rows {R n:Nat} {w wr:World} {ns:List ByteArray} {ks:List (T n)} {nv kv:Value} (h:RTree R n w wr ns ks nv kv) (hl:ns.length<=20000) (hk:ks.length<=20000) :
  StrsIn (fun b=>w.heap.size<=b/\b<wr.heap.size) wr ns nv/\Row1 (fun b=>w.heap.size<=b/\b<wr.heap.size) wr (InnerT (fun b=>w.heap.size<=b/\b<wr.heap.size) wr n) ks kv:=by
 obtain⟨xs,aA,aB⟩:=h.kids
 refine⟨qdZ h.names hl h.short fun g hg=>r1_lt h.names g hg,qgW aA (by unfold maxLen;omega) (fun g hg=>r1_lt aA g hg) fun j hj hx=>?_⟩
 obtain⟨c,hd,aC⟩:=aB j hj
 have:xs[j]=c:=by rw[List.getElem?_eq_getElem hx]at hd;exact Option.some.inj hd
 rw[this]
 exact aC.keep (fun _ _=>rfl) (fun b hb=>⟨hb.1,hb.2.1⟩)
def LaidU (B:Nat) (w:World):Prop:=
 Lib.TabBelow Tryz.prog B w "internal/strconv.uint64pow10" .u64 Lib.pow10Tab/\(∃ tp p,∀ w',Below B w w'->w'.var? Tryz.prog "strconv.ErrSyntax" = some #[.iface tp p]) /\
  (∃ tp p,∀ w',Below B w w'->w'.var? Tryz.prog "strconv.ErrRange" = some #[.iface tp p])
theorem LaidU.step {B:Nat} {w w':World} (h:LaidU B w) (hb:Below B w w'):LaidU B w':=by
 obtain⟨h1,⟨t1,p1,h2⟩,t2,p2,h3⟩:=h
 exact⟨fun w2 k=>h1 w2 (hb.trans k),⟨t1,p1,fun w2 k=>h2 w2 (hb.trans k)⟩,t2,p2,fun w2 k=>h3 w2 (hb.trans k)⟩
theorem LaidU.near {B R:Nat} {w w':World} (h:LaidU B w) (hn:Near R w w') (hB:B<=R) (hR:R<w.heap.size):LaidU B w':=h.step (hn.below hB (by omega))
def methV (R:Nat) (c:UInt8):Value:=
 if digC c=true∨c=45 then .func (.func 127) #[.pointer (some ⟨R,0,none⟩)] #[]
 else if c=34 then .func (.func 130) #[.pointer (some ⟨R,0,none⟩)] #[]
 else if c=121∨c=110 then .func (.func 128) #[.pointer (some ⟨R,0,none⟩)] #[]
 else if c=91 then .func (.func 131) #[.pointer (some ⟨R,0,none⟩)] #[]
 else if c=123 then .func (.func 132) #[.pointer (some ⟨R,0,none⟩)] #[]
 else if c=126∨c=63 then .func (.func 129) #[.pointer (some ⟨R,0,none⟩)] #[]
 else .nilFunc
def Meth (w:World) (R:Nat):Prop:=∀ c:UInt8,w.cell? ⟨R,2+c.toNat,none⟩=some (methV R c)
theorem Meth.scan {w w':World} {R q:Nat} (h:Meth w R) (hs:Scan R w w' q):Meth w' R:=fun c=>(hs.cells (2+c.toNat) (by omega)).trans (h c)
def TRPost (R:Nat) (s:ByteArray) (i m:Nat) (w:World) (e:Ending) (w':World):Prop:=
 (∃ (t:T m) (q:Nat) (v:Value),qaH m (s.data.toList.drop i)=some (t,s.data.toList.drop q)/\i<q/\q<=s.size/\e=.returned v/\InnerT (fun b=>w.heap.size<=b/\b<w'.heap.size) w' m t v/\Scan R w w' q) ∨
  (qaH m (s.data.toList.drop i)=none/\e=.panicked refusal/\Near R w w')
def qgY (m:Nat):Prop:=∀ (B R:Nat) (s:ByteArray) (i:Nat) (w:World),LaidU B w->B<=R->Sc w R s i->Meth w R->i<=s.size->s.size<=10000->s.size - i<m ->
 Calls Tryz.prog 133 #[.pointer (some ⟨R,0,none⟩)] w (TRPost R s i m w)
end Go.Proofs.YtelogmjfekhmpaaGreatDoor
