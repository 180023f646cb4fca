import Derived.Test.YtelogmjfekhmpaaGreatDoorB8
import Derived.Test.YtelogmjfekhmpaaGreatDoorB1
import Derived.Test.YtelogmjfekhmpaaGreatDoorB3
import Derived.Lib.Hide
import Derived.WalkSmall
import Derived.LoopTactic
namespace Go.Proofs.YtelogmjfekhmpaaGreatDoor
open Go.RowKit Go.Proofs.Tryz
def Fr(M:Nat)(nv kv:Value)(H b:Nat):Prop:=M<=b/\b<H/\nv.ownBlock≠some b/\kv.ownBlock≠some b
structure RForm(R n:Nat)(w wr:World)(ns:List ByteArray)(ks:List (K n))(nv kv:Value):Prop where
 near:Near R w wr
 names:wr.ownsRow w.heap.size 9 1 nv ns.length (ns.map .string)
 short:∀s,s∈ns->s.size<=10000
 kids:∃xs,wr.ownsRow w.heap.size 55 3 kv ks.length xs/\∀j (h:j<ks.length),∃c0 c1 c2,(xs[j*3]?=some c0/\xs[j*3+1]?=some c1/\xs[j*3+2]?=some c2)/\KindIn (Fr w.heap.size nv kv wr.heap.size) wr n ks[j] c0 c1 c2
 apart:∀b,nv.ownBlock=some b->kv.ownBlock≠some b
theorem RForm.start(R n:Nat)(w wr:World)(h:Near R w wr):RForm R n w wr [] [] (.slice none 0 0) (.slice none 0 0):=
 ⟨h,World.ownsRow_nil _ _ _ _,fun _ h=>(by cases h),⟨[],World.ownsRow_nil _ _ _ _,fun j h=>absurd h (Nat.not_lt_zero _)⟩,fun b hb=>by cases hb⟩
theorem RForm.keep{R n:Nat}{w wr W:World}{ns:List ByteArray}{ks:List (K n)}{nv kv:Value}(h:RForm R n w wr ns ks nv kv)(hR:R<w.heap.size)(hn:Near R wr W):RForm R n w W ns ks nv kv:=by
 have a:∀b,w.heap.size<=b->b<wr.heap.size->W.heap[b]?=wr.heap[b]?:=fun b h1 h2=>hn.block b h2 (by omega)
 obtain⟨xs,c,d⟩:=h.kids
 refine⟨h.near.trans hn,qbF h.names fun g hg=>?_,h.short,⟨xs,qbF c fun g hg=>?_,fun j hj=>?_⟩,h.apart⟩
 ·have:=r1_lt h.names g hg
  exact a g this.1 this.2
 ·have:=r1_lt c g hg
  exact a g this.1 this.2
 ·obtain⟨c0,c1,c2,e,f⟩:=d j hj
  exact⟨c0,c1,c2,e,f.keep (fun b hb=>a b hb.1 hb.2.1) (fun b hb=>⟨hb.1,Nat.lt_of_lt_of_le hb.2.1 hn.size,hb.2.2⟩)⟩
theorem RForm.name {R n:Nat} {w W Wa W2:World} {ns:List ByteArray} {ks:List (K n)} {nv kv:Value} {x:ByteArray} {one:Obj} {g cap:Nat} (h:RForm R n w W ns ks nv kv)
  (ha:Wa.heap=W.heap.push one) (ho:Wa.os=W.os/\Wa.tape=W.tape/\Wa.output=W.output) (hx:x.size<=10000)
  (hown:W2.ownsRow w.heap.size 9 1 (.slice (some ⟨g,0,none⟩) (ns.length+1) cap) (ns.length+1) (ns.map .string++[.string x])) (hgrow:Wa.grownBy W2 nv.ownBlock) (hat:nv.ownBlock=some g∨g=W.heap.size+1) :
  RForm R n w W2 (ns++[x]) ks (.slice (some ⟨g,0,none⟩) (ns.length+1) cap) kv/\(∀b,b<w.heap.size->W2.heap[b]?=W.heap[b]?)/\W.heap.size<=W2.heap.size:=by
 have t:W2.heap.size ≥ W.heap.size+1:=by have:=hgrow.size;rw[ha]at this;simp at this;omega
 have d:=r1_lt h.names
 have l:=r1_lt hown g rfl
 have m:=h.near.size
 have q:∀b,b<W.heap.size->nv.ownBlock≠some b->W2.heap[b]?=W.heap[b]?:=fun b a hne=>by
  rw[hgrow.block b (by rw[ha];simp;omega) (fun e=>hne e.symm),ha,Array.getElem?_push_lt a,Array.getElem?_eq_getElem a]
 obtain⟨xs,i,o⟩:=h.kids
 have f:=r1_lt i
 refine⟨⟨⟨?_,?_,?_,by omega,fun b a hne=>?_⟩,?_,?_,⟨xs,qbF i fun g' hg'=>?_,fun j hj=>?_⟩,fun b a=>?_⟩,fun b a=>q b (by omega) (fun e=>by have:=d b e;omega),by omega⟩
 ·rw[hgrow.os,ho.1];exact h.near.os
 ·rw[hgrow.tape,ho.2.1];exact h.near.tape
 ·rw[hgrow.output,ho.2.2];exact h.near.output
 ·rw[q b (by omega) (fun e=>by have:=d b e;omega)]
  exact h.near.block b a hne
 ·rw[List.length_append,List.length_singleton,List.map_append,List.map_singleton]
  exact hown
 ·intro s c
  rcases List.mem_append.1 c with c|c
  ·exact h.short s c
  ·rw[List.mem_singleton]at c;subst c;exact hx
 ·have:=f g' hg'
  exact q g' this.2 (fun e=>h.apart g' e hg')
 ·obtain⟨c0,c1,c2,p,r⟩:=o j hj
  refine⟨c0,c1,c2,p,r.keep (fun b a=>?_) (fun b a=>?_)⟩
  ·exact q b a.2.1 a.2.2.1
  ·refine⟨a.1,by have:=a.2.1;omega,?_,a.2.2.2⟩
   intro e
   have e:g=b:=by simpa [Value.ownBlock] using e
   rcases hat with k|k
   ·exact a.2.2.1 (by rw[k,e])
   ·have:=a.2.1;omega
 ·have a:g=b:=by simpa [Value.ownBlock] using a
  subst a
  rcases hat with k|k
  ·exact h.apart g k
  ·intro e;have:=f g e;omega
theorem RForm.kid {R n:Nat} {w W W1 Wa W2:World} {ns:List ByteArray} {ks:List (K n)} {nv kv:Value} {t:K n} {c0 c1 c2:Value} {one:Obj} {g cap:Nat} (h0:RForm R n w W ns ks nv kv) (hR:R<w.heap.size)
  (hn:Near R W W1) (ht:KindIn (fun b=>W.heap.size<=b/\b<W1.heap.size) W1 n t c0 c1 c2)
  (ha:Wa.heap=W1.heap.push one) (ho:Wa.os=W1.os/\Wa.tape=W1.tape/\Wa.output=W1.output) {xs:List Value}
  (hxs:W.ownsRow w.heap.size 55 3 kv ks.length xs) (hk:∀j (h:j<ks.length),∃c0 c1 c2,(xs[j*3]?=some c0/\xs[j*3+1]?=some c1/\xs[j*3+2]?=some c2)/\KindIn (Fr w.heap.size nv kv W.heap.size) W n ks[j] c0 c1 c2)
  (hown:W2.ownsRow w.heap.size 55 3 (.slice (some ⟨g,0,none⟩) (ks.length+1) cap) (ks.length+1) (xs++[c0,c1,c2])) (hgrow:Wa.grownBy W2 kv.ownBlock) (hat:kv.ownBlock=some g∨g=W1.heap.size+1) :
  RForm R n w W2 ns (ks++[t]) nv (.slice (some ⟨g,0,none⟩) (ks.length+1) cap)/\(∀b,b<w.heap.size->W2.heap[b]?=W1.heap[b]?)/\W1.heap.size<=W2.heap.size:=by
 have s:=hn.size
 have u:=h0.near.size
 have F:W2.heap.size ≥ W1.heap.size+1:=by have:=hgrow.size;rw[ha]at this;simp at this;omega
 have i:=r1_lt h0.names
 have d:=r1_lt hxs
 have x:=r1_lt hown g rfl
 have l:∀b,b<W1.heap.size->kv.ownBlock≠some b->W2.heap[b]?=W1.heap[b]?:=fun b hb hne=>by
  rw[hgrow.block b (by rw[ha];simp;omega) (fun e=>hne e.symm),ha,Array.getElem?_push_lt hb,Array.getElem?_eq_getElem hb]
 have q:∀b,b<W.heap.size->b≠R->kv.ownBlock≠some b->W2.heap[b]?=W.heap[b]?:=fun b hb hR hne=>by
  rw[l b (by omega) hne,hn.block b hb hR]
 have m:xs.length=ks.length*3:=hxs.1
 refine⟨⟨⟨?_,?_,?_,by omega,fun b hb hne=>?_⟩,qbF h0.names fun g' hg'=>?_,h0.short,⟨xs++[c0,c1,c2],?_,fun j hj=>?_⟩,fun b hb=>?_⟩,fun b hb=>l b (by omega) (fun e=>by have:=d b e;omega),by omega⟩
 ·rw[hgrow.os,ho.1];exact hn.os.trans h0.near.os
 ·rw[hgrow.tape,ho.2.1];exact hn.tape.trans h0.near.tape
 ·rw[hgrow.output,ho.2.2];exact hn.output.trans h0.near.output
 ·rw[q b (by omega) hne (fun e=>by have:=d b e;omega)]
  exact h0.near.block b hb hne
 ·have:=i g' hg'
  exact q g' this.2 (by omega) (h0.apart g' hg')
 ·rw[List.length_append,List.length_singleton]
  exact hown
 ·have f:∀ b,kv.ownBlock≠some b->b<W1.heap.size->(Value.slice (some ⟨g,0,none⟩) (ks.length+1) cap).ownBlock≠some b:=by
   intro b k G e
   have e:g=b:=by simpa [Value.ownBlock] using e
   rcases hat with r|r
   ·exact k (by rw[r,e])
   ·omega
  by_cases hjk:j<ks.length
  ·obtain⟨y,z,A,⟨B,C,D⟩,E⟩:=hk j hjk
   have a:∀o v,o<3->xs[j*3+o]?=some v->(xs++[c0,c1,c2])[j*3+o]?=some v:=fun o v ho h=>by
    rw[List.getElem?_append_left (by omega)];exact h
   refine⟨y,z,A,⟨a 0 _ (by omega) B,a 1 _ (by omega) C,a 2 _ (by omega) D⟩,?_⟩
   rw[List.getElem_append_left hjk]
   refine E.keep (fun b hb=>?_) (fun b hb=>⟨hb.1,by have:=hb.2.1;omega,hb.2.2.1,f b hb.2.2.2 (by have:=hb.2.1;omega)⟩)
   exact q b hb.2.1 (by have:=hb.1;omega) hb.2.2.2
  ·have p:j=ks.length:=by simp at hj;omega
   subst p
   have c:∀o v,o<3->[c0,c1,c2][o]?=some v->(xs++[c0,c1,c2])[ks.length*3+o]?=some v:=fun o v ho h=>by
    rw[List.getElem?_append_right (by omega),m,Nat.add_sub_cancel_left];exact h
   refine⟨c0,c1,c2,⟨c 0 _ (by omega) rfl,c 1 _ (by omega) rfl,c 2 _ (by omega) rfl⟩,?_⟩
   have:(ks++[t])[ks.length]=t:=by simp
   rw[this]
   refine ht.keep (fun b hb=>?_) (fun b hb=>⟨by omega,by omega,fun e=>by have:=i b e;omega,f b (fun e=>by have:=d b e;omega) hb.2⟩)
   exact l b hb.2 (fun e=>by have:=d b e;omega)
 ·intro e
  have e:g=b:=by simpa [Value.ownBlock] using e
  subst e
  rcases hat with k|k
  ·exact h0.apart g hb k
  ·have:=i g hb;omega
theorem qdW{S:Nat->Prop}{w:World}{M:Nat}{e:TypeId}{v:Value}{l:List ByteArray}(h:w.ownsRow M e 1 v l.length (l.map .string))(hl:l.length<=20000)(hs:∀s,s∈l->s.size<=10000)(hS:∀g,v.ownBlock=some g->S g):StrsIn S w l v:=by
 have c:∀s,s∈l->s.size<=maxLen:=fun s h=>by have:=hs s h;unfold maxLen;omega
 have a:l.length<=maxLen:=by unfold maxLen;omega
 rcases id h.2 with ⟨rfl,d⟩|⟨g,cap,f,rfl,j,o,k,m,n,b⟩
 ·exact⟨none,0,by rw[d],a,c,fun hne=>absurd (List.eq_nil_of_length_eq_zero d) hne⟩
 ·refine⟨_,_,rfl,a,c,fun _=>⟨g,0,rfl,hS g rfl,fun i hi=>?_⟩⟩
  have:=h.cells (g:=g) rfl i (.string l[i]) (by simp[hi])
  rw[Addr.add_lit]at this
  simpa using this
theorem qgV {S:Nat->Prop} {n:Nat} {w:World} {M:Nat} {e:TypeId} {v:Value} {l:List (K n)} {xs:List Value} (h:w.ownsRow M e 3 v l.length xs) (hl:l.length<=20000) (hS:∀ g,v.ownBlock=some g->S g)
  (hk:∀j (h:j<l.length),∃c0 c1 c2,(xs[j*3]?=some c0/\xs[j*3+1]?=some c1/\xs[j*3+2]?=some c2)/\KindIn S w n l[j] c0 c1 c2):RowIn3 S w (KindIn S w n) l v:=by
 have a:l.length<=maxLen:=by unfold maxLen;omega
 rcases id h.2 with ⟨rfl,d⟩|⟨g,cap,f,rfl,k,x,m,o,p,c⟩
 ·exact⟨none,0,by rw[d],a,fun hne=>absurd (List.eq_nil_of_length_eq_zero d) hne⟩
 ·refine⟨_,_,rfl,a,fun _=>⟨g,0,rfl,hS g rfl,fun i hi=>?_⟩⟩
  obtain⟨c0,c1,c2,⟨q,r,s⟩,t⟩:=hk i hi
  have b:∀j u,xs[j]?=some u->w.cell? ⟨g,0+j,none⟩=some u:=fun j u hu=>by
   have:=h.cells (g:=g) rfl j u hu
   rwa [Addr.add_lit]at this
  exact⟨c0,c1,c2,b _ _ q,b _ _ r,b _ _ s,t⟩
theorem RForm.rows {R n:Nat} {w wr:World} {ns:List ByteArray} {ks:List (K n)} {nv kv:Value} (h:RForm R n w wr ns ks nv kv) (hl:ns.length<=20000) (hk:ks.length<=20000) :
  StrsIn (fun b=>w.heap.size<=b/\b<wr.heap.size) wr ns nv/\RowIn3 (fun b=>w.heap.size<=b/\b<wr.heap.size) wr (KindIn (fun b=>w.heap.size<=b/\b<wr.heap.size) wr n) ks kv:=by
 obtain⟨xs,a,c⟩:=h.kids
 refine⟨qdW h.names hl h.short fun g hg=>r1_lt h.names g hg,qgV a hk (fun g hg=>r1_lt a g hg) fun j hj=>?_⟩
 obtain⟨c0,c1,c2,e,d⟩:=c j hj
 exact⟨c0,c1,c2,e,d.keep (fun _ _=>rfl) (fun b hb=>⟨hb.1,hb.2.1⟩)⟩
set_option maxRecDepth 100000
set_option maxHeartbeats 16000000
def formR{α:Type}(f:List UInt8->Option (α×List UInt8))(k:Nat)(ns:List ByteArray)(acc:List α)(s1:List UInt8):Option (List ByteArray×List α×List UInt8):=
 match qbQ 58 s1 with
 | none=>none
 | some (w,s2)=>
  match f (s2.drop 1) with
  | none=>none
  | some (t,r)=>formQ f k (ns++[bs w]) (acc++[t]) r
theorem qsI{α:Type}{f:List UInt8->Option (α×List UInt8)}{k:Nat}{ns:List ByteArray}{acc:List α}{s r:List UInt8}(h:eatP [125] s=some r):formQ f (k+1) ns acc s=some (ns,acc,r):=by
 rw[formQ,h]
theorem qmI{α:Type}{f:List UInt8->Option (α×List UInt8)}{k:Nat}{ns:List ByteArray}{acc:List α}{s:List UInt8}(h:eatP [125] s=none)(h0:ns.length=0):formQ f (k+1) ns acc s=formR f k ns acc s:=by
 rw[formQ,h];simp only[h0,if_true];rfl
theorem qoN{α:Type}{f:List UInt8->Option (α×List UInt8)}{k:Nat}{ns:List ByteArray}{acc:List α}{s s1:List UInt8}(h:eatP [125] s=none)(h0:¬ns.length=0)(h1:eatP [44] s=some s1):formQ f (k+1) ns acc s=formR f k ns acc s1:=by
 rw[formQ,h];simp only[if_neg h0,h1];rfl
theorem qoO{α:Type}{f:List UInt8->Option (α×List UInt8)}{k:Nat}{ns:List ByteArray}{acc:List α}{s:List UInt8}(h:eatP [125] s=none)(h0:¬ns.length=0)(h1:eatP [44] s=none):formQ f (k+1) ns acc s=none:=by
 rw[formQ,h];simp only[if_neg h0,h1]
theorem qwN{α:Type}{f:List UInt8->Option (α×List UInt8)}{k:Nat}{ns:List ByteArray}{acc:List α}{s:List UInt8}(h:qbQ 58 s=none):formR f k ns acc s=none:=by
 rw[formR,h]
theorem qsJ{α:Type}{f:List UInt8->Option (α×List UInt8)}{k:Nat}{ns:List ByteArray}{acc:List α}{s w s2:List UInt8}(h:qbQ 58 s=some (w,s2))(h1:f (s2.drop 1)=none):formR f k ns acc s=none:=by
 rw[formR,h];simp only[h1]
theorem qsK{α:Type}{f:List UInt8->Option (α×List UInt8)}{k:Nat}{ns:List ByteArray}{acc:List α}{s w s2 r:List UInt8}{t:α}(h:qbQ 58 s=some (w,s2))(h1:f (s2.drop 1)=some (t,r)):formR f k ns acc s=formQ f k (ns++[bs w]) (acc++[t]) r:=by
 rw[formR,h];simp only[h1]
def qgO(R:Nat)(s:ByteArray)(i m:Nat)(w:World)(e:Ending)(w':World):Prop:=
 (∃(k:K m)(q:Nat)(c0 c1 c2:Value),qaM m (s.data.toList.drop i)=some (k,s.data.toList.drop q)/\i<q/\q<=s.size/\e=.returned (.agg #[c0,c1,c2])/\KindIn (fun b=>w.heap.size<=b/\b<w'.heap.size) w' m k c0 c1 c2/\Scan R w w' q) ∨
  (qaM m (s.data.toList.drop i)=none/\e=.panicked refusal/\Near R w w')
def qoP(m:Nat):Prop:=∀(R:Nat)(s:ByteArray)(i:Nat)(w:World),Sc w R s i->i<=s.size->s.size<=10000->s.size-i<m ->
 Calls prog 143 #[.pointer (some ⟨R,0,none⟩)] w (qgO R s i m w)
def qkP(m:Nat)(s:ByteArray)(i:Nat):Option (List ByteArray×List (K m)×List UInt8):=formQ (qaM m) ((s.data.toList.drop (i+1)).length+1) [] [] (s.data.toList.drop (i+1))
def qwO(R:Nat)(s:ByteArray)(i m:Nat)(w:World)(e:Ending)(w':World):Prop:=
 (∃(ns:List ByteArray)(ks:List (K m))(q:Nat)(na:Option Addr)(nc:Nat)(ka:Option Addr)(kc ln:Nat),eatP [123] (s.data.toList.drop i)=some (s.data.toList.drop (i+1))/\qkP m s i=some (ns,ks,s.data.toList.drop q)/\i<q/\q<=s.size/\ln<=10000 /\
  e=.returned (.tuple #[.slice na ln nc,.slice ka ln kc])/\StrsIn (fun b=>w.heap.size<=b/\b<w'.heap.size) w' ns (.slice na ln nc) /\
  RowIn3 (fun b=>w.heap.size<=b/\b<w'.heap.size) w' (KindIn (fun b=>w.heap.size<=b/\b<w'.heap.size) w' m) ks (.slice ka ln kc)/\Scan R w w' q) ∨
  ((eatP [123] (s.data.toList.drop i)=none∨(eatP [123] (s.data.toList.drop i)=some (s.data.toList.drop (i+1))/\qkP m s i=none))/\e=.panicked refusal/\Near R w w')
theorem Scan.same{R:Nat}{a b c:World}{q:Nat}(h:Scan R a b q)(hn:Near R a c)(hb:c.heap[R]?=b.heap[R]?):Scan R a c q:=
 ⟨hn,fun o ho=>(World.cell?_of_block (w:=b) (w':=c) (a:=⟨R,o,none⟩) hb).trans (h.cells o ho),(World.cell?_of_block (w:=b) (w':=c) (a:=⟨R,1,none⟩) hb).trans h.at1,fun o=>by
  have:=h.fz o
  simp only[World.frozen?,hb]at this ⊢
  exact this⟩
def atS(w:World)(R:Nat):Nat:=match w.cell? ⟨R,1,none⟩ with|some (.int _ n)=>n.toNat|_=>0
theorem Scan.atS{R:Nat}{a b:World}{q:Nat}(h:Scan R a b q):atS b R=q:=by
 unfold Go.Proofs.YtelogmjfekhmpaaGreatDoor.atS;rw[h.at1];simp
theorem Tryz.info_strQ:(prog.info? 9).map (fun i=>(i.zero,i.size,i.bytes))=some (some (.string ⟨#[]⟩),1,16):=by kernel_rfl
theorem Tryz.info_kindQ:(prog.info? 55).map (fun i=>(i.zero,i.size,i.bytes))=some (some (.agg #[.int .i64 0,.slice none 0 0,.slice none 0 0]),3,56):=by kernel_rfl
theorem qsL (m:Nat) (hm:qoP m) (R:Nat) (s:ByteArray) (i:Nat) (w:World) (h:Sc w R s i) (hi:i<=s.size) (hs:s.size<=10000) (hlt:s.size - i<=m) :
  Calls prog 169 #[.pointer (some ⟨R,0,none⟩),.func (.func 143) #[.pointer (some ⟨R,0,none⟩)] #[]] w (qwO R s i m w):=by
 have HW:Hid (Calls prog 157 #[.pointer (some ⟨R,0,none⟩),.string ⟨#[123]⟩] w _):=qcW w R s ⟨#[123]⟩ i h hs (by decide) hi
 have hR:=h.lt
 have HM:Hid (qoP m):=hm
 have n:Hid (Sc w R s i):=h
 clear h hm
 go_enter func169,ntmps169
 go_wp2_with fail
 refine HW.out.mono ?_
 rintro e k (⟨h1,rfl,O,h3⟩|⟨h1,rfl,O⟩)
 case inr=>exact⟨rfl,.inr ⟨.inl h1,rfl,O⟩⟩
 have HE:Hid (eatP [123] (s.data.toList.drop i)=some (s.data.toList.drop (i+1))):=h1
 have O:Scan R w k (i+1):=O
 have h3:i+1<=s.size:=h3
 clear h1 HW
 go_wp2_with fail
 go_loopw [4,5] (fun nv kv wr=>∃ (f:List ByteArray) (l:List (K m)) (j c a:Nat) (na:Option Addr) (C:Nat) (r:Option Addr) (u:Nat),f.length=a/\l.length=a/\a<=j/\nv=.slice na a C/\kv=.slice r a u/\RForm R m w wr f l (.slice na a C) (.slice r a u)/\Scan R w wr j/\i<j/\j<=s.size /\
   formQ (qaM m) (c+1) f l (s.data.toList.drop j)=qkP m s i/\s.size-j<=c) (fun _ _ wr=>s.size-atS wr R)
 case atStart=>exact⟨[],[],i+1,(s.data.toList.drop (i+1)).length,0,none,0,none,0,rfl,rfl,by omega,rfl,rfl,RForm.start R m w k O.near,O,by omega,h3,rfl,by simp⟩
 case round=>
  obtain⟨f,l,j,c,a,na,C,r,u,aP,aQ,bI,rfl,rfl,hF,hS,bJ,hj,hG,bK⟩:=hrel
  have p:Hid (f.length=a/\l.length=a):=⟨aP,aQ⟩
  have HF:Hid (RForm R m w wr f l (.slice na a C) (.slice r a u)):=hF
  have HS:Hid (Scan R w wr j):=hS
  have HG:Hid (formQ (qaM m) (c+1) f l (s.data.toList.drop j)=qkP m s i):=hG
  have HA:Hid (atS wr R=j):=hS.atS
  have HC:Hid (Calls prog 155 #[.pointer (some ⟨R,0,none⟩),.string ⟨#[125]⟩] wr _):=qdG wr R s ⟨#[125]⟩ j (hS.sc n.out) hs (by decide) hj
  clear aP aQ hF hS hG O h3
  go_wp2_with fail
  refine HC.out.mono ?_
  rintro e k (⟨M,rfl,P,p3⟩|⟨M,rfl,P⟩)
  ·have HP:Hid (qwO R s i m w (.returned (.tuple #[.slice na a C,.slice r a u])) k):=by
    have P:Scan R wr k (j+1):=P
    have p3:j+1<=s.size:=p3
    have aW:=HF.out.keep hR P.near
    obtain⟨r1,r2⟩:=aW.rows (by rw[p.out.1];omega) (by rw[p.out.2];omega)
    exact .inl ⟨f,l,j+1,na,C,r,u,a,HE.out,by rw[<- HG.out];exact qsI M,by omega,p3,by omega,rfl,r1,r2,HS.out.trans P⟩
   clear M P p3 HC HF HS HG
   go_wp2_with fail
   go_ret2
   exact HP.out
  ·have M:eatP [125] (s.data.toList.drop j)=none:=M
   have A:Hid (RForm R m w k f l (.slice na a C) (.slice r a u)):=HF.out.keep hR P.near
   have z:Hid (Scan R w k j):=HS.out.trans P
   clear HF HS HC P
   have aE:Hid (∀W,qkP m s i=none->Near R w W->qwO R s i m w (.panicked refusal) W):=fun W h1 O=>.inr ⟨.inr ⟨HE.out,h1⟩,rfl,O⟩
   rcases Nat.eq_zero_or_pos a with h0|h0
   case' inl=>
    obtain⟨d,o⟩:∃d,d=j:=⟨_,rfl⟩
    have HQ:Hid (formR (qaM m) c f l (s.data.toList.drop d)=qkP m s i):=by
     show _=_
     rw[o,<- HG.out];exact (qmI M (by rw[p.out.1];exact h0)).symm
    have B:Hid (Scan R w k d):=by rw[o];exact z
    have aB:d<=s.size:=by omega
    have aX:j<=d:=by omega
    have hd:(0<a)=False:=eq_false (by omega)
    clear h0 z HG o M
    go_wp2_with fail
    clear hd
   case' inr=>
    have HC:Hid (Calls prog 157 #[.pointer (some ⟨R,0,none⟩),.string ⟨#[44]⟩] k _):=qcW k R s ⟨#[44]⟩ j (z.out.sc n.out) hs (by decide) hj
    have hd:0<a:=h0
    go_wp2_with fail
    refine HC.out.mono ?_
    rintro e k (⟨q1,rfl,q2,q3⟩|⟨q1,rfl,q2⟩)
    case inr=>
     refine⟨rfl,aE.out k ?_ (z.out.near.trans q2)⟩
     rw[<- HG.out];exact qoO M (by rw[p.out.1];omega) q1
    obtain⟨d,o⟩:∃d,d=j+1:=⟨_,rfl⟩
    have q2:Scan R _ k (j+1):=q2
    have q3:j+1<=s.size:=q3
    have HQ:Hid (formR (qaM m) c f l (s.data.toList.drop d)=qkP m s i):=by
     show _=_
     rw[o,<- HG.out];exact (qoN M (by rw[p.out.1];omega) q1).symm
    have B:Hid (Scan R w k d):=by rw[o];exact z.out.trans q2
    have aB:d<=s.size:=by omega
    have aX:j<=d:=by omega
    have aI:=A.out.keep hR q2.near
    clear A
    have A:Hid (RForm R m w k f l (.slice na a C) (.slice r a u)):=aI
    clear aI z HG o M q1 q2 q3 h0 HC
    go_wp2_with fail
    clear hd
   all_goals
    have HU:Hid (Calls prog 158 #[.pointer (some ⟨R,0,none⟩),.int .u8 58] k (qiX 58 k R s d)):=qmF 58 k R s d (B.out.sc n.out) hs aB
    refine HU.out.mono ?_
    rintro e w2 (⟨x,u1,rfl,u2,u3⟩|⟨u1,rfl,u2⟩)
    case inr=>exact⟨rfl,aE.out w2 (by rw[<- HQ.out];exact qwN u1) (B.out.near.trans u2)⟩
    have u2:Scan R k w2 (d+x.length):=u2
    have aY:(bs x).size<=10000:=by rw[qaL];omega
    have Q:Hid (RForm R m w w2 f l (.slice na a C) (.slice r a u)):=A.out.keep hR u2.near
    have aJ:Hid (Scan R w w2 (d+x.length)):=B.out.trans u2
    have S:Hid (qbQ 58 (s.data.toList.drop d)=some (x,s.data.toList.drop (d+x.length))):=u1
    have HO:Hid (w2.ownsRow w.heap.size 9 1 (.slice na a C) a (f.map .string)):=by
     have:=Q.out.names
     rw[p.out.1]at this;exact this
    have bF:=Q.out.near.size
    obtain⟨bB,D,E,F,G⟩:=info_parts Tryz.info_strQ
    have T:Hid (_/\_/\_/\_):=⟨D,E,F,G⟩
    clear D E F G u1 u2 A B HU
    go_wp2_with (at_builtin;refine wpList_append_lies _ rfl (.tmp 16) (.tmp 19) 22 rfl w.heap.size 9 bB _ 1 16 underlying22 T.out.1 T.out.2.1 T.out.2.2.1 T.out.2.2.2 rfl (by decide) (.slice na a C) a (f.map .string) rfl (HO.out.alloc _) ⟨w2.heap.size,0,none⟩ 1 1 [.string (bs x)] rfl rfl (World.news_of_block (heap_alloc_new w2 _)) (by simp[Value.oneCell']) (by decide) (by unfold maxLen;omega) (by omega) (by simp;omega) (w2.heap.size+1) (by simp) ?_;intro g cap w3 H v aC aR;refine Hid.out ?_)
    refine Lib.hid ?_
    obtain⟨Y,aS,bC⟩:=Q.out.name (Wa:=w2.alloc (.cells #[.string (bs x)] 9)) (one:=.cells #[.string (bs x)] 9) (x:=bs x) (g:=g) (cap:=cap) rfl ⟨rfl,rfl,rfl⟩ aY (by rw[p.out.1];exact H) v aC
    rw[p.out.1]at Y
    have aK:Hid (RForm R m w w3 (f++[bs x]) l (.slice (some ⟨g,0,none⟩) (a+1) cap) (.slice r a u)):=Y
    have aF:Hid (Scan R w w3 (d+x.length)):=aJ.out.same Y.near (aS R hR)
    have aL:Hid (Calls prog 157 #[.pointer (some ⟨R,0,none⟩),.string ⟨#[58]⟩] w3 _):=qcW w3 R s ⟨#[58]⟩ (d+x.length) (aF.out.sc n.out) hs (by decide) (by omega)
    clear Y aS bC H v aC aR HO Q aJ
    go_wp2_with fail
    refine aL.out.mono ?_
    rintro e Z (⟨v1,rfl,v2,v3⟩|⟨v1,rfl,v2⟩)
    case inr=>
     have v1:eatP [58] (s.data.toList.drop (d+x.length))=none:=v1
     obtain⟨r',e1,-⟩:=qdJ S.out
     rw[e1,qaE]at v1
     cases v1
    have v2:Scan R w3 Z (d+x.length+1):=v2
    have v3:d+x.length+1<=s.size:=v3
    have aG:=aK.out.keep hR v2.near
    have aH:Hid (RForm R m w Z (f++[bs x]) l (.slice (some ⟨g,0,none⟩) (a+1) cap) (.slice r a u)):=aG
    have U:Hid (Scan R w Z (d+x.length+1)):=aF.out.trans v2
    have HK:Hid (Calls prog 143 #[.pointer (some ⟨R,0,none⟩)] Z (qgO R s (d+x.length+1) m Z)):=HM.out R s _ Z (U.out.sc n.out) v3 hs (by omega)
    obtain⟨xs,I,aT⟩:=aG.kids
    have aM:Hid (∀q (h:q<l.length),_):=aT
    have V:Hid (Z.ownsRow w.heap.size 55 3 (.slice r a u) a xs):=by
     rw[p.out.2]at I;exact I
    clear v1 v2 aG I aT aK aF aL
    go_wp2_with fail
    refine HK.out.mono ?_
    rintro e N (⟨t,q,c0,c1,c2,y1,y2,y3,rfl,y4,y5⟩|⟨y1,rfl,y2⟩)
    case inr=>
     refine⟨rfl,aE.out N ?_ (U.out.near.trans y2)⟩
     rw[<- HQ.out]
     refine qsJ S.out ?_
     rw[List.drop_drop];exact y1
    obtain⟨z0,za,zl,zc,ua,ul,uc,rfl,rfl,rfl⟩:=y4.shape
    have bG:=y5.near.size
    have bH:=aH.out.near.size
    have aN:Hid (N.ownsRow w.heap.size 55 3 (.slice r a u) a xs):=qbF V.out (fun g' hg'=>by
     have:=r1_lt V.out g' hg'
     exact y5.near.block g' this.2 (by omega))
    have HY:Hid (KindIn (fun b=>Z.heap.size<=b/\b<N.heap.size) N m t (.int .i64 z0) (.slice za zl zc) (.slice ua ul uc)/\Scan R Z N q):=⟨y4,y5⟩
    have aZ:Hid (formQ (qaM m) c (f++[bs x]) (l++[t]) (s.data.toList.drop q)=qkP m s i):=by
     show _=_
     rw[<- HQ.out]
     refine (qsK S.out ?_).symm
     rw[List.drop_drop];exact y1
    obtain⟨bD,D,E,F,G⟩:=info_parts Tryz.info_kindQ
    have X:Hid (_/\_/\_/\_):=⟨D,E,F,G⟩
    clear D E F G y1 y4 y5 HK HQ S
    go_wp2_with (at_builtin;refine wpList_append_lies _ rfl (.tmp 23) (.tmp 26) 53 rfl w.heap.size 55 bD _ 3 56 underlying53 X.out.1 X.out.2.1 X.out.2.2.1 X.out.2.2.2 rfl (by decide) (.slice r a u) a xs rfl (aN.out.alloc _) ⟨N.heap.size,0,none⟩ 1 1 [.int .i64 z0,.slice za zl zc,.slice ua ul uc] rfl rfl (World.news_of_block (heap_alloc_new N _)) (by simp[Value.oneCell']) (by decide) (by unfold maxLen;omega) (by omega) (by simp;omega) (N.heap.size+1) (by simp) ?_;intro g2 J w6 L y aD aU;refine Hid.out ?_)
    refine Lib.hid ?_
    obtain⟨aA,aV,bE⟩:=aH.out.kid (W1:=N) (Wa:=N.alloc (.cells #[.int .i64 z0,.slice za zl zc,.slice ua ul uc] 55)) (one:=.cells #[.int .i64 z0,.slice za zl zc,.slice ua ul uc] 55) (g:=g2) (cap:=J) hR HY.out.2.near HY.out.1 rfl ⟨rfl,rfl,rfl⟩ (by rw[p.out.2];exact V.out) aM.out (by rw[p.out.2];exact L) y aD
    rw[p.out.2]at aA
    have bA:Hid (RForm R m w w6 (f++[bs x]) (l++[t]) (.slice (some ⟨g,0,none⟩) (a+1) cap) (.slice (some ⟨g2,0,none⟩) (a+1) J)):=aA
    have aO:Hid (Scan R w w6 q):=(U.out.trans HY.out.2).same aA.near (aV R hR)
    obtain⟨f',rfl⟩:∃f',c=f'+1:=⟨c-1,by omega⟩
    clear aA aV bE L y aD aU aN V aM aH U HY
    go_wp2_with fail
    go_roundw
    case rel=>exact⟨f++[bs x],l++[t],q,f',a+1,some ⟨g,0,none⟩,cap,some ⟨g2,0,none⟩,J,by simp[p.out.1],by simp[p.out.2],by omega,rfl,rfl,bA.out,aO.out,by omega,y3,aZ.out,by omega⟩
    case measure=>rw[aO.out.atS,HA.out];omega
theorem qdX {w:World} {N:Nat} (h:w.heap[N]?=some (.cells #[.int .i64 0,.slice none 0 0,.slice none 0 0] 55 (0,0))) :
  (w.cell? ⟨N,0,none⟩=some (.int .i64 0)/\w.cell? ⟨N,1,none⟩=some (.slice none 0 0)/\w.cell? ⟨N,2,none⟩=some (.slice none 0 0)) /\
   w.frozen? ⟨N,0,none⟩=false/\w.frozen? ⟨N,1,none⟩=false/\w.frozen? ⟨N,2,none⟩=false:=by
 refine⟨⟨?_,?_,?_⟩,?_,?_,?_⟩<;>simp[World.cell?,World.frozen?,h]
theorem Scan.alloc{R:Nat}{w w1:World}{q:Nat}{o:Obj}(h:Scan R (w.alloc o) w1 q)(hR:R<w.heap.size):Scan R w w1 q:=
 ⟨(Near.alloc R w o).trans h.near,fun p hp=>(h.cells p hp).trans (World.cell?_of_block (w:=w) (w':=w.alloc o) (a:=⟨R,p,none⟩) (Below.heap_alloc _ _ _ hR)),h.at1,fun p=>(h.fz p).trans (by
  have:(w.alloc o).heap[R]?=w.heap[R]?:=Below.heap_alloc _ _ _ hR
  simp only[World.frozen?,this])⟩
theorem qjY {R i m q:Nat} {s:ByteArray} {w W:World} {k:K (m+1)} {g0 g1 g2:Value} (hS:Scan R w W q) (hR:R<w.heap.size) (hp:qaM (m+1) (s.data.toList.drop i)=some (k,s.data.toList.drop q)) (hiq:i<q) (hq:q<=s.size)
  (hk:KindIn (fun b=>w.heap.size+1<=b/\b<W.heap.size) W (m+1) k g0 g1 g2):qgO R s i (m+1) w (.returned (.agg #[g0,g1,g2])) (put3 W w.heap.size 0 g0 g1 g2):=by
 have q:∀b,b≠w.heap.size->(put3 W w.heap.size 0 g0 g1 g2).heap[b]?=W.heap[b]?:=fun b h=>qcV h
 have a:(put3 W w.heap.size 0 g0 g1 g2).heap.size=W.heap.size:=qfG
 have c:Near R w (put3 W w.heap.size 0 g0 g1 g2):=⟨hS.near.os,hS.near.tape,hS.near.output,by rw[a];exact hS.near.size,fun b hb hne=>(q b (by omega)).trans (hS.near.block b hb hne)⟩
 refine .inl ⟨k,_,g0,g1,g2,hp,hiq,hq,rfl,hk.keep (fun b hb=>q b (by omega)) (fun b hb=>⟨by omega,by rw[a];exact hb.2⟩),hS.same c (q R (by omega))⟩
theorem quR(S:Nat->Prop)(w:World)(m:Nat)(x:Int)(hx:(Lit.int .i64 x).wf=true):KindIn S w (m+1) (⟨x,[],[]⟩:Kd (K m)) (.int .i64 x) (.slice none 0 0) (.slice none 0 0):=
 ⟨rfl,hx,⟨none,0,rfl,by simp[maxLen],fun s h=>(by cases h),fun h=>absurd rfl h⟩,⟨none,0,rfl,by simp[maxLen],fun h=>absurd rfl h⟩⟩
theorem xiA {S:Nat->Prop} {w:World} {m:Nat} {x:Int} {t:K m} {b c:Nat} {c0 c1 c2:Value} (hx:(Lit.int .i64 x).wf=true) (hb:S b) (h0:w.cell? ⟨b,0,none⟩=some c0) (h1:w.cell? ⟨b,1,none⟩=some c1) (h2:w.cell? ⟨b,2,none⟩=some c2) (ht:KindIn S w m t c0 c1 c2) :
  KindIn S w (m+1) (⟨x,[],[t]⟩:Kd (K m)) (.int .i64 x) (.slice none 0 0) (.slice (some ⟨b,0,none⟩) 1 c):=by
 refine⟨rfl,hx,⟨none,0,rfl,by simp[maxLen],fun s h=>(by cases h),fun h=>absurd rfl h⟩,⟨some ⟨b,0,none⟩,c,rfl,by simp[maxLen],fun _=>⟨b,0,rfl,hb,fun i hi=>?_⟩⟩⟩
 have:i=0:=by simpa using hi
 subst this
 exact⟨c0,c1,c2,by simpa using h0,by simpa using h1,by simpa using h2,ht⟩
theorem xiW {m:Nat} {l r:List UInt8} (h1:eatP [110,117,109] l=none) (h2:eatP [116,101,120,116] l=none) (h3:eatP [102,108,97,103] l=none) (h4:eatP [91] l=some r) :
  (oneQ (qaM m) [93] r=none->qaM (m+1) l=none)/\(∀k r',oneQ (qaM m) [93] r=some (k,r')->qaM (m+1) l=some ((⟨4,[],[k]⟩:Kd (K m)),r')):=by
 refine⟨fun h=>?_,fun k r' h=>?_⟩
 ·simp only[qaM,h1,h2,h3,h4,h]
 ·simp only[qaM,h1,h2,h3,h4,h];rfl
theorem xgQ {m:Nat} {l r:List UInt8} (h1:eatP [110,117,109] l=none) (h2:eatP [116,101,120,116] l=none) (h3:eatP [102,108,97,103] l=none) (h4:eatP [91] l=none) (h5:eatP [63] l=some r) :
  (qaM m r=none->qaM (m+1) l=none)/\(∀k r',qaM m r=some (k,r')->qaM (m+1) l=some ((⟨6,[],[k]⟩:Kd (K m)),r')):=by
 refine⟨fun h=>?_,fun k r' h=>?_⟩
 ·simp only[qaM,oneQ,h1,h2,h3,h4,h5,h]
 ·simp only[qaM,oneQ,xfJ,h1,h2,h3,h4,h5,h];rfl
theorem xiX {m:Nat} {l:List UInt8} (h1:eatP [110,117,109] l=none) (h2:eatP [116,101,120,116] l=none) (h3:eatP [102,108,97,103] l=none) (h4:eatP [91] l=none) (h5:eatP [63] l=none) :
  (eatP [123] l=none->qaM (m+1) l=none)/\(∀r,eatP [123] l=some r->(formQ (qaM m) (r.length+1) [] [] r=none->qaM (m+1) l=none)/\(∀ns ks r',formQ (qaM m) (r.length+1) [] [] r=some (ns,ks,r')->qaM (m+1) l=some ((⟨5,ns,ks⟩:Kd (K m)),r'))):=by
 refine⟨fun h=>?_,fun r h=>⟨fun h'=>?_,fun ns ks r' h'=>?_⟩⟩
 ·simp only[qaM,h1,h2,h3,h4,h5,h]
 ·simp only[qaM,h1,h2,h3,h4,h5,h,h']
 ·simp only[qaM,h1,h2,h3,h4,h5,h,h'];rfl
theorem xcX{α:Type}{f:List UInt8->Option (α×List UInt8)}{c s:List UInt8}(h:f s=none):oneQ f c s=none:=by simp only[oneQ,h]
theorem xcY{α:Type}{f:List UInt8->Option (α×List UInt8)}{c s r:List UInt8}{k:α}(h:f s=some (k,r))(h2:eatP c r=none):oneQ f c s=none:=by simp only[oneQ,h,h2]
theorem xgR{α:Type}{f:List UInt8->Option (α×List UInt8)}{c s r r':List UInt8}{k:α}(h:f s=some (k,r))(h2:eatP c r=some r'):oneQ f c s=some (k,r'):=by simp only[oneQ,h,h2]
theorem xcZ(m:Nat)(hm:qoP m):qoP (m+1):=by
 intro R s i w h hi T aO
 have Z:=h.lt
 obtain⟨W,hW⟩:∃W,W=w.alloc (.cells #[.int .i64 0,.slice none 0 0,.slice none 0 0] 55):=⟨_,rfl⟩
 have aL:W.heap.size=w.heap.size+1:=by rw[hW];simp
 have aK:Below w.heap.size w W:=by rw[hW];exact (Below.refl _ _).alloc (Nat.le_refl _) _
 have HZ:Hid (W.heap[w.heap.size]?=some (.cells #[.int .i64 0,.slice none 0 0,.slice none 0 0] 55 (0,0))):=by rw[hW];exact heap_alloc_new _ _
 have d:Hid (Scan R w W i):=(Scan.refl h).below aK Z
 have x:Hid (Sc w R s i):=h
 have HM:Hid (qoP m):=hm
 have H:Hid (∀W1 q,Scan R W W1 q->W1.heap[w.heap.size]?=some (.cells #[.int .i64 0,.slice none 0 0,.slice none 0 0] 55 (0,0))):=fun W1 q hq=>(hq.near.block w.heap.size (by omega) (by omega)).trans HZ.out
 have aA:Hid (Calls prog 155 #[.pointer (some ⟨R,0,none⟩),.string ⟨#[110,117,109]⟩] W _):=qdG W R s ⟨#[110,117,109]⟩ i (d.out.sc h) T (by decide) hi
 clear h hm
 go_enter func143,ntmps143
 go_wp2_with fail
 rw[<- hW]
 clear hW
 refine aA.out.mono ?_
 rintro e w1 (⟨f,rfl,c,z⟩|⟨f,rfl,c⟩)
 ·have f:eatP [110,117,109] (s.data.toList.drop i)=some (s.data.toList.drop (i+3)):=f
  have c:Scan R W w1 (i+3):=c
  have J:Hid (qgO R s i (m+1) w (.returned (.agg #[.int .i64 1,.slice none 0 0,.slice none 0 0])) (put3 w1 w.heap.size 0 (.int .i64 1) (.slice none 0 0) (.slice none 0 0))):=
   qjY (d.out.trans c) Z (by simp only[qaM,f]) (by omega) z (quR _ _ m 1 rfl)
  obtain⟨⟨r0,M,N⟩,f0,f1,f2⟩:=qdX (H.out w1 _ c)
  clear f c z aA
  go_wp2_with fail
  refine bodyPost_ret (v:=.agg #[.int .i64 1,.slice none 0 0,.slice none 0 0]) (by simp[results,results143,go_sem,r0,M,N]) rfl ?_
  exact J.out
 have y:Hid (eatP [110,117,109] (s.data.toList.drop i)=none):=f
 have aB:Hid (Scan R W w1 i):=c
 have aC:Hid (Calls prog 155 #[.pointer (some ⟨R,0,none⟩),.string ⟨#[116,101,120,116]⟩] w1 _):=qdG w1 R s ⟨#[116,101,120,116]⟩ i ((d.out.trans c).sc x.out) T (by decide) hi
 clear f c aA
 go_wp2_with fail
 refine aC.out.mono ?_
 rintro e w2 (⟨f,rfl,c,z⟩|⟨f,rfl,c⟩)
 ·have f:eatP [116,101,120,116] (s.data.toList.drop i)=some (s.data.toList.drop (i+4)):=f
  have c:Scan R W w2 (i+4):=aB.out.trans c
  have J:Hid (qgO R s i (m+1) w (.returned (.agg #[.int .i64 2,.slice none 0 0,.slice none 0 0])) (put3 w2 w.heap.size 0 (.int .i64 2) (.slice none 0 0) (.slice none 0 0))):=
   qjY (d.out.trans c) Z (by simp only[qaM,y.out,f]) (by omega) z (quR _ _ m 2 rfl)
  obtain⟨⟨r0,M,N⟩,f0,f1,f2⟩:=qdX (H.out w2 _ c)
  clear f c z aC
  go_wp2_with fail
  refine bodyPost_ret (v:=.agg #[.int .i64 2,.slice none 0 0,.slice none 0 0]) (by simp[results,results143,go_sem,r0,M,N]) rfl ?_
  exact J.out
 have A:Hid (eatP [116,101,120,116] (s.data.toList.drop i)=none):=f
 have P:Hid (Scan R W w2 i):=aB.out.trans c
 have aD:Hid (Calls prog 155 #[.pointer (some ⟨R,0,none⟩),.string ⟨#[102,108,97,103]⟩] w2 _):=qdG w2 R s ⟨#[102,108,97,103]⟩ i ((d.out.trans P.out).sc x.out) T (by decide) hi
 clear f c aC aB
 go_wp2_with fail
 refine aD.out.mono ?_
 rintro e w3 (⟨f,rfl,c,z⟩|⟨f,rfl,c⟩)
 ·have f:eatP [102,108,97,103] (s.data.toList.drop i)=some (s.data.toList.drop (i+4)):=f
  have c:Scan R W w3 (i+4):=P.out.trans c
  have J:Hid (qgO R s i (m+1) w (.returned (.agg #[.int .i64 3,.slice none 0 0,.slice none 0 0])) (put3 w3 w.heap.size 0 (.int .i64 3) (.slice none 0 0) (.slice none 0 0))):=
   qjY (d.out.trans c) Z (by simp only[qaM,y.out,A.out,f]) (by omega) z (quR _ _ m 3 rfl)
  obtain⟨⟨r0,M,N⟩,f0,f1,f2⟩:=qdX (H.out w3 _ c)
  clear f c z aD
  go_wp2_with fail
  refine bodyPost_ret (v:=.agg #[.int .i64 3,.slice none 0 0,.slice none 0 0]) (by simp[results,results143,go_sem,r0,M,N]) rfl ?_
  exact J.out
 have I:Hid (eatP [102,108,97,103] (s.data.toList.drop i)=none):=f
 have K:Hid (Scan R W w3 i):=P.out.trans c
 have aE:Hid (Calls prog 155 #[.pointer (some ⟨R,0,none⟩),.string ⟨#[91]⟩] w3 _):=qdG w3 R s ⟨#[91]⟩ i ((d.out.trans K.out).sc x.out) T (by decide) hi
 clear f c aD P
 go_wp2_with fail
 refine aE.out.mono ?_
 rintro e U (⟨f,rfl,c,z⟩|⟨f,rfl,c⟩)
 ·have f:eatP [91] (s.data.toList.drop i)=some (s.data.toList.drop (i+1)):=f
  have c:Scan R W U (i+1):=K.out.trans c
  have z:i+1<=s.size:=z
  have n:Hid (_/\_):=xiW (m:=m) y.out A.out I.out f
  have p:Hid (Scan R W U (i+1)):=c
  have X:Hid (Calls prog 143 #[.pointer (some ⟨R,0,none⟩)] U (qgO R s (i+1) m U)):=HM.out R s _ U ((d.out.trans c).sc x.out) z T (by omega)
  clear f c aE K y A I
  go_wp2_with fail
  refine X.out.mono ?_
  rintro e l (⟨t,q,c0,c1,c2,u,V,y3,rfl,Y,O⟩|⟨u,rfl,V⟩)
  case inr=>
   refine⟨rfl,.inr ⟨?_,rfl,(d.out.trans p.out).near.trans V⟩⟩
   exact n.out.1 (xcX u)
  obtain⟨z0,B,C,D,E,F,G,rfl,rfl,rfl⟩:=Y.shape
  have aH:=O.near.size
  have aM:=p.out.near.size
  have HY:Hid (KindIn (fun b=>U.heap.size<=b/\b<l.heap.size) l m t (.int .i64 z0) (.slice B C D) (.slice E F G)):=Y
  have aI:Below l.heap.size l (l.alloc (.cells #[.int .i64 z0,.slice B C D,.slice E F G] 55)):=(Below.refl _ _).alloc (Nat.le_refl _) _
  have g:Hid (Scan R W (l.alloc (.cells #[.int .i64 z0,.slice B C D,.slice E F G] 55)) q):=(p.out.trans O).below aI (by omega)
  have Q:=Box3.new l (.int .i64 z0) (.slice B C D) (.slice E F G) 55
  have HW:Hid (Calls prog 157 #[.pointer (some ⟨R,0,none⟩),.string ⟨#[93]⟩] (l.alloc (.cells #[.int .i64 z0,.slice B C D,.slice E F G] 55)) _):=qcW _ R s ⟨#[93]⟩ q ((d.out.trans g.out).sc x.out) T (by decide) y3
  have aF:Hid (qaM m (s.data.toList.drop (i+1))=some (t,s.data.toList.drop q)):=u
  clear X Y O u
  go_wp2_with fail
  refine HW.out.mono ?_
  rintro e j (⟨v1,rfl,v2,v3⟩|⟨v1,rfl,v2⟩)
  case inr=>exact⟨rfl,.inr ⟨n.out.1 (xcY aF.out v1),rfl,(d.out.trans g.out).near.trans v2⟩⟩
  have v2:Scan R _ j (q+1):=v2
  have aJ:=v2.near.size
  simp only[World.size_alloc]at aJ
  have kk:∀o,j.cell? ⟨l.heap.size,o,none⟩=(l.alloc (.cells #[.int .i64 z0,.slice B C D,.slice E F G] 55)).cell? ⟨l.heap.size,o,none⟩:=fun o=>World.cell?_of_block (a:=⟨l.heap.size,o,none⟩) (v2.near.block l.heap.size (by simp) (by omega))
  have k0:=(kk 0).trans Q.c0
  have k1:=(kk 1).trans Q.c1
  have k2:=(kk 2).trans Q.c2
  have L:Below j.heap.size j (j.alloc (.cells #[.int .i64 z0,.slice B C D,.slice E F G] 55)):=(Below.refl _ _).alloc (Nat.le_refl _) _
  have k:Hid (Scan R W (j.alloc (.cells #[.int .i64 z0,.slice B C D,.slice E F G] 55)) (q+1)):=(g.out.trans v2).below L (by omega)
  have r:=Box3.new j (.int .i64 z0) (.slice B C D) (.slice E F G) 55
  have J:Hid (qgO R s i (m+1) w (.returned (.agg #[.int .i64 4,.slice none 0 0,.slice (some ⟨j.heap.size,0,none⟩) 1 1])) (put3 (j.alloc (.cells #[.int .i64 z0,.slice B C D,.slice E F G] 55)) w.heap.size 0 (.int .i64 4) (.slice none 0 0) (.slice (some ⟨j.heap.size,0,none⟩) 1 1))):=by
   refine qjY (d.out.trans k.out) Z (n.out.2 _ _ (xgR aF.out v1)) (by show i<q+1;omega) v3 (xiA rfl ⟨by omega,by simp⟩ r.c0 r.c1 r.c2 ?_)
   refine HY.out.keep (fun b hb=>?_) (fun b hb=>⟨by omega,by simp;omega⟩)
   rw[Below.heap_alloc _ _ _ (by omega),v2.near.block b (by simp;omega) (by omega),Below.heap_alloc _ _ _ hb.2]
  obtain⟨⟨r0,M,N⟩,f0,f1,f2⟩:=qdX (H.out _ _ k.out)
  clear v1 v2 v3 HW HY aF g k Q r aI L kk
  go_wp2_with fail
  refine bodyPost_ret (v:=.agg #[.int .i64 4,.slice none 0 0,.slice (some ⟨j.heap.size,0,none⟩) 1 1]) (by simp[results,results143,go_sem,r0,M,N]) rfl ?_
  exact J.out
 have S:Hid (eatP [91] (s.data.toList.drop i)=none):=f
 have p:Hid (Scan R W U i):=K.out.trans c
 have aG:Hid (Calls prog 155 #[.pointer (some ⟨R,0,none⟩),.string ⟨#[63]⟩] U _):=qdG U R s ⟨#[63]⟩ i ((d.out.trans p.out).sc x.out) T (by decide) hi
 clear f c aE K
 go_wp2_with fail
 refine aG.out.mono ?_
 rintro e l (⟨f,rfl,c,z⟩|⟨f,rfl,c⟩)
 ·have f:eatP [63] (s.data.toList.drop i)=some (s.data.toList.drop (i+1)):=f
  have c:Scan R W l (i+1):=p.out.trans c
  have z:i+1<=s.size:=z
  have n:Hid (_/\_):=xgQ (m:=m) y.out A.out I.out S.out f
  have g:Hid (Scan R W l (i+1)):=c
  have X:Hid (Calls prog 143 #[.pointer (some ⟨R,0,none⟩)] l (qgO R s (i+1) m l)):=HM.out R s _ l ((d.out.trans c).sc x.out) z T (by omega)
  clear f c aG p y A I S
  go_wp2_with fail
  refine X.out.mono ?_
  rintro e j (⟨t,q,c0,c1,c2,u,V,y3,rfl,Y,O⟩|⟨u,rfl,V⟩)
  case inr=>exact⟨rfl,.inr ⟨n.out.1 u,rfl,(d.out.trans g.out).near.trans V⟩⟩
  obtain⟨z0,B,C,D,E,F,G,rfl,rfl,rfl⟩:=Y.shape
  have aH:=g.out.near.size
  have aJ:=O.near.size
  have L:Below j.heap.size j (j.alloc (.cells #[.int .i64 z0,.slice B C D,.slice E F G] 55)):=(Below.refl _ _).alloc (Nat.le_refl _) _
  have k:Hid (Scan R W (j.alloc (.cells #[.int .i64 z0,.slice B C D,.slice E F G] 55)) q):=(g.out.trans O).below L (by omega)
  have r:=Box3.new j (.int .i64 z0) (.slice B C D) (.slice E F G) 55
  have J:Hid (qgO R s i (m+1) w (.returned (.agg #[.int .i64 6,.slice none 0 0,.slice (some ⟨j.heap.size,0,none⟩) 1 1])) (put3 (j.alloc (.cells #[.int .i64 z0,.slice B C D,.slice E F G] 55)) w.heap.size 0 (.int .i64 6) (.slice none 0 0) (.slice (some ⟨j.heap.size,0,none⟩) 1 1))):=by
   refine qjY (d.out.trans k.out) Z (n.out.2 _ _ u) (by omega) y3 (xiA rfl ⟨by omega,by simp⟩ r.c0 r.c1 r.c2 ?_)
   refine Y.keep (fun b hb=>?_) (fun b hb=>⟨by omega,by simp;omega⟩)
   rw[Below.heap_alloc _ _ _ hb.2]
  obtain⟨⟨r0,M,N⟩,f0,f1,f2⟩:=qdX (H.out _ _ k.out)
  clear X u Y O g k r L
  go_wp2_with fail
  refine bodyPost_ret (v:=.agg #[.int .i64 6,.slice none 0 0,.slice (some ⟨j.heap.size,0,none⟩) 1 1]) (by simp[results,results143,go_sem,r0,M,N]) rfl ?_
  exact J.out
 have n:Hid (_/\_):=xiX (m:=m) y.out A.out I.out S.out f
 have g:Hid (Scan R W l i):=p.out.trans c
 have aH:=g.out.near.size
 have X:Hid (Calls prog 169 #[.pointer (some ⟨R,0,none⟩),.func (.func 143) #[.pointer (some ⟨R,0,none⟩)] #[]] l (qwO R s i m l)):=qsL m HM.out R s i l ((d.out.trans g.out).sc x.out) hi T (by omega)
 have aN:∀(fn:Fn)(first cap:Array Value)(w:World),(Instr.makeFunc fn first cap).run prog w=.ok (.func fn first cap) w:=fun _ _ _ _=>rfl
 clear f c aG p y A I S
 go_wp2_with fail
 refine X.out.mono ?_
 rintro e j (⟨ns,ks,q,na,nc,ka,kc,ln,y0,u,V,y3,Y,rfl,O,y6,y7⟩|⟨u,rfl,V⟩)
 case inr=>
  refine⟨rfl,.inr ⟨?_,rfl,(d.out.trans g.out).near.trans V⟩⟩
  rcases u with u|⟨y0,u⟩
  ·exact n.out.1 u
  ·exact (n.out.2 _ y0).1 u
 have k:Hid (Scan R W j q):=g.out.trans y7
 have J:Hid (qgO R s i (m+1) w (.returned (.agg #[.int .i64 5,.slice na ln nc,.slice ka ln kc])) (put3 j w.heap.size 0 (.int .i64 5) (.slice na ln nc) (.slice ka ln kc))):=by
  refine qjY (d.out.trans k.out) Z ((n.out.2 _ y0).2 _ _ _ u) V y3 ⟨rfl,rfl,?_,?_⟩
  ·exact O.keep (fun _ _=>rfl) (fun b hb=>⟨by omega,hb.2⟩)
  ·exact y6.keepK (fun _ _=>rfl) (fun b hb=>⟨by omega,hb.2⟩)
 obtain⟨⟨r0,M,N⟩,f0,f1,f2⟩:=qdX (H.out _ _ k.out)
 clear X y0 u O y6 y7 g k
 go_wp2_with fail
 refine bodyPost_ret (v:=.agg #[.int .i64 5,.slice na ln nc,.slice ka ln kc]) (by simp[results,results143,go_sem,r0,M,N]) rfl ?_
 exact J.out
theorem xgS:∀m,qoP m:=by
 intro m
 induction m with
 | zero=>intro R s i w _ _ _ h;exact absurd h (Nat.not_lt_zero _)
 | succ m ih=>exact xcZ m ih
structure ManyK(R X n:Nat)(w wr:World)(so:Int)(ns:List ByteArray)(ks:List (K n))(nv kv:Value):Prop where
 near:Near R w wr
 box:wr.heap[X]?=some (.cells #[.int .i64 so,nv,kv] 55 (0,0))
 names:wr.ownsRow (X+1) 9 1 nv ns.length (ns.map .string)
 short:∀s,s∈ns->s.size<=10000
 kids:∃xs,wr.ownsRow (X+1) 55 3 kv ks.length xs/\∀j (h:j<ks.length),∃c0 c1 c2,(xs[j*3]?=some c0/\xs[j*3+1]?=some c1/\xs[j*3+2]?=some c2)/\KindIn (Fr (X+1) nv kv wr.heap.size) wr n ks[j] c0 c1 c2
 apart:∀b,nv.ownBlock=some b->kv.ownBlock≠some b
theorem ManyK.lt{R X n:Nat}{w wr:World}{so:Int}{ns:List ByteArray}{ks:List (K n)}{nv kv:Value}(h:ManyK R X n w wr so ns ks nv kv):X<wr.heap.size:=(Array.getElem?_eq_some_iff.1 h.box).1
theorem ManyK.keep{R X n:Nat}{w wr W:World}{so:Int}{ns:List ByteArray}{ks:List (K n)}{nv kv:Value}(h:ManyK R X n w wr so ns ks nv kv)(hRX:R<X)(hn:Near R wr W):ManyK R X n w W so ns ks nv kv:=by
 have d:=h.lt
 have a:∀b,X<=b->b<wr.heap.size->W.heap[b]?=wr.heap[b]?:=fun b h1 h2=>hn.block b h2 (by omega)
 obtain⟨xs,c,e⟩:=h.kids
 refine⟨h.near.trans hn,by rw[a X (Nat.le_refl _) d];exact h.box,qbF h.names fun g hg=>?_,h.short,⟨xs,qbF c fun g hg=>?_,fun j hj=>?_⟩,h.apart⟩
 ·have:=r1_lt h.names g hg
  exact a g (by omega) this.2
 ·have:=r1_lt c g hg
  exact a g (by omega) this.2
 ·obtain⟨c0,c1,c2,f,i⟩:=e j hj
  refine⟨c0,c1,c2,f,i.keep (fun b hb=>a b ?_ hb.2.1) (fun b hb=>⟨hb.1,Nat.lt_of_lt_of_le hb.2.1 hn.size,hb.2.2⟩)⟩
  have:=hb.1
  omega
theorem ManyK.name {R X n:Nat} {w W Wa W2:World} {so:Int} {ns:List ByteArray} {ks:List (K n)} {nv kv:Value} {x:ByteArray} {one:Obj} {g cap:Nat} (h:ManyK R X n w W so ns ks nv kv) (hw:w.heap.size<=X)
  (ha:Wa.heap=W.heap.push one) (ho:Wa.os=W.os/\Wa.tape=W.tape/\Wa.output=W.output) (hx:x.size<=10000)
  (hown:W2.ownsRow (X+1) 9 1 (.slice (some ⟨g,0,none⟩) (ns.length+1) cap) (ns.length+1) (ns.map .string++[.string x])) (hgrow:Wa.grownBy W2 nv.ownBlock) (hat:nv.ownBlock=some g∨g=W.heap.size+1) :
  ManyK R X n w (W2.setCell ⟨X,1,none⟩ (.slice (some ⟨g,0,none⟩) (ns.length+1) cap)) so (ns++[x]) ks (.slice (some ⟨g,0,none⟩) (ns.length+1) cap) kv:=by
 have r:=h.lt
 have z:W2.heap.size ≥ W.heap.size+1:=by have:=hgrow.size;rw[ha]at this;simp at this;omega
 have f:=r1_lt h.names
 have t:=r1_lt hown g rfl
 have q:∀b,b<W.heap.size->nv.ownBlock≠some b->W2.heap[b]?=W.heap[b]?:=fun b a hne=>by
  rw[hgrow.block b (by rw[ha];simp;omega) (fun e=>hne e.symm),ha,Array.getElem?_push_lt a,Array.getElem?_eq_getElem a]
 have o:∀b,b≠X->(W2.setCell ⟨X,1,none⟩ (.slice (some ⟨g,0,none⟩) (ns.length+1) cap)).heap[b]?=W2.heap[b]?:=fun b a=>Below.heap_setCell _ _ _ _ a
 have i:(W2.setCell ⟨X,1,none⟩ (.slice (some ⟨g,0,none⟩) (ns.length+1) cap)).heap.size=W2.heap.size:=by simp
 have p:nv.ownBlock≠some X:=fun e=>by have:=f X e;omega
 have c:=(q X r p).trans h.box
 obtain⟨xs,l,u⟩:=h.kids
 have k:=r1_lt l
 refine⟨⟨?_,?_,?_,by rw[i];have:=h.near.size;omega,fun b a hne=>?_⟩,?_,?_,?_,⟨xs,qbF l fun g' hg'=>?_,fun j hj=>?_⟩,fun b a=>?_⟩
 ·show W2.os=w.os
  rw[hgrow.os,ho.1];exact h.near.os
 ·show W2.tape=w.tape
  rw[hgrow.tape,ho.2.1];exact h.near.tape
 ·show W2.output=w.output
  rw[hgrow.output,ho.2.2];exact h.near.output
 ·have d:=h.near.size
  rw[o b (by omega),q b (by omega) (fun e=>by have:=f b e;omega)]
  exact h.near.block b a hne
 ·simp[World.setCell,Array.getElem?_modify,c]
 ·rw[List.length_append,List.length_singleton,List.map_append,List.map_singleton]
  exact qbF hown fun g' hg'=>o g' (by have:=r1_lt hown g' hg';omega)
 ·intro s d
  rcases List.mem_append.1 d with d|d
  ·exact h.short s d
  ·rw[List.mem_singleton]at d;subst d;exact hx
 ·have:=k g' hg'
  rw[o g' (by omega),q g' this.2 (fun e=>h.apart g' e hg')]
 ·obtain⟨c0,c1,c2,v,y⟩:=u j hj
  refine⟨c0,c1,c2,v,y.keep (fun b a=>?_) (fun b a=>?_)⟩
  ·rw[o b (by have:=a.1;omega),q b a.2.1 a.2.2.1]
  ·refine⟨a.1,by rw[i];have:=a.2.1;omega,?_,a.2.2.2⟩
   intro e
   have e:g=b:=by simpa [Value.ownBlock] using e
   rcases hat with m|m
   ·exact a.2.2.1 (by rw[m,e])
   ·have:=a.2.1;omega
 ·have a:g=b:=by simpa [Value.ownBlock] using a
  subst a
  rcases hat with m|m
  ·exact h.apart g m
  ·intro e;have:=k g e;omega
theorem ManyK.kid {R X n:Nat} {w W W1 Wa W2:World} {so:Int} {ns:List ByteArray} {ks:List (K n)} {nv kv:Value} {t:K n} {c0 c1 c2:Value} {one:Obj} {g cap:Nat} (h0:ManyK R X n w W so ns ks nv kv) (hRX:R<X) (hw:w.heap.size<=X)
  (hn:Near R W W1) (ht:KindIn (fun b=>W.heap.size<=b/\b<W1.heap.size) W1 n t c0 c1 c2)
  (ha:Wa.heap=W1.heap.push one) (ho:Wa.os=W1.os/\Wa.tape=W1.tape/\Wa.output=W1.output) {xs:List Value}
  (hxs:W.ownsRow (X+1) 55 3 kv ks.length xs) (hk:∀j (h:j<ks.length),∃c0 c1 c2,(xs[j*3]?=some c0/\xs[j*3+1]?=some c1/\xs[j*3+2]?=some c2)/\KindIn (Fr (X+1) nv kv W.heap.size) W n ks[j] c0 c1 c2)
  (hown:W2.ownsRow (X+1) 55 3 (.slice (some ⟨g,0,none⟩) (ks.length+1) cap) (ks.length+1) (xs++[c0,c1,c2])) (hgrow:Wa.grownBy W2 kv.ownBlock) (hat:kv.ownBlock=some g∨g=W1.heap.size+1) :
  ManyK R X n w (W2.setCell ⟨X,2,none⟩ (.slice (some ⟨g,0,none⟩) (ks.length+1) cap)) so ns (ks++[t]) nv (.slice (some ⟨g,0,none⟩) (ks.length+1) cap):=by
 have z:=h0.lt
 have A:=hn.size
 have J:W2.heap.size ≥ W1.heap.size+1:=by have:=hgrow.size;rw[ha]at this;simp at this;omega
 have i:=r1_lt h0.names
 have d:=r1_lt hxs
 have B:=r1_lt hown g rfl
 have x:∀b,b<W1.heap.size->kv.ownBlock≠some b->W2.heap[b]?=W1.heap[b]?:=fun b hb hne=>by
  rw[hgrow.block b (by rw[ha];simp;omega) (fun e=>hne e.symm),ha,Array.getElem?_push_lt hb,Array.getElem?_eq_getElem hb]
 have q:∀b,b<W.heap.size->b≠R->kv.ownBlock≠some b->W2.heap[b]?=W.heap[b]?:=fun b hb hR hne=>by
  rw[x b (by omega) hne,hn.block b hb hR]
 have m:∀b,b≠X->(W2.setCell ⟨X,2,none⟩ (.slice (some ⟨g,0,none⟩) (ks.length+1) cap)).heap[b]?=W2.heap[b]?:=fun b hb=>Below.heap_setCell _ _ _ _ hb
 have k:(W2.setCell ⟨X,2,none⟩ (.slice (some ⟨g,0,none⟩) (ks.length+1) cap)).heap.size=W2.heap.size:=by simp
 have r:kv.ownBlock≠some X:=fun e=>by have:=d X e;omega
 have l:=(q X z (by omega) r).trans h0.box
 have s:xs.length=ks.length*3:=hxs.1
 refine⟨⟨?_,?_,?_,by rw[k];have:=h0.near.size;omega,fun b hb hne=>?_⟩,?_,qbF h0.names fun g' hg'=>?_,h0.short,⟨xs++[c0,c1,c2],?_,fun j hj=>?_⟩,fun b hb=>?_⟩
 ·show W2.os=w.os
  rw[hgrow.os,ho.1];exact hn.os.trans h0.near.os
 ·show W2.tape=w.tape
  rw[hgrow.tape,ho.2.1];exact hn.tape.trans h0.near.tape
 ·show W2.output=w.output
  rw[hgrow.output,ho.2.2];exact hn.output.trans h0.near.output
 ·have L:=h0.near.size
  rw[m b (by omega),q b (by omega) hne (fun e=>by have:=d b e;omega)]
  exact h0.near.block b hb hne
 ·simp[World.setCell,Array.getElem?_modify,l]
 ·have:=i g' hg'
  rw[m g' (by omega),q g' this.2 (by omega) (h0.apart g' hg')]
 ·rw[List.length_append,List.length_singleton]
  exact qbF hown fun g' hg'=>m g' (by have:=r1_lt hown g' hg';omega)
 ·have f:∀ b,kv.ownBlock≠some b->b<W1.heap.size->(Value.slice (some ⟨g,0,none⟩) (ks.length+1) cap).ownBlock≠some b:=by
   intro b p M e
   have e:g=b:=by simpa [Value.ownBlock] using e
   rcases hat with y|y
   ·exact p (by rw[y,e])
   ·omega
  by_cases hjk:j<ks.length
  ·obtain⟨C,D,E,⟨F,G,H⟩,I⟩:=hk j hjk
   have a:∀o v,o<3->xs[j*3+o]?=some v->(xs++[c0,c1,c2])[j*3+o]?=some v:=fun o v ho h=>by
    rw[List.getElem?_append_left (by omega)];exact h
   refine⟨C,D,E,⟨a 0 _ (by omega) F,a 1 _ (by omega) G,a 2 _ (by omega) H⟩,?_⟩
   rw[List.getElem_append_left hjk]
   refine I.keep (fun b hb=>?_) (fun b hb=>⟨hb.1,by rw[k];have:=hb.2.1;omega,hb.2.2.1,f b hb.2.2.2 (by have:=hb.2.1;omega)⟩)
   rw[m b (by have:=hb.1;omega),q b hb.2.1 (by have:=hb.1;omega) hb.2.2.2]
  ·have u:j=ks.length:=by simp at hj;omega
   subst u
   have c:∀o v,o<3->[c0,c1,c2][o]?=some v->(xs++[c0,c1,c2])[ks.length*3+o]?=some v:=fun o v ho h=>by
    rw[List.getElem?_append_right (by omega),s,Nat.add_sub_cancel_left];exact h
   refine⟨c0,c1,c2,⟨c 0 _ (by omega) rfl,c 1 _ (by omega) rfl,c 2 _ (by omega) rfl⟩,?_⟩
   have:(ks++[t])[ks.length]=t:=by simp
   rw[this]
   refine ht.keep (fun b hb=>?_) (fun b hb=>⟨by omega,by rw[k];omega,fun e=>by have:=i b e;omega,f b (fun e=>by have:=d b e;omega) hb.2⟩)
   rw[m b (by omega),x b hb.2 (fun e=>by have:=d b e;omega)]
 ·intro e
  have e:g=b:=by simpa [Value.ownBlock] using e
  subst e
  rcases hat with p|p
  ·exact h0.apart g hb p
  ·have:=i g hb;omega
end Go.Proofs.YtelogmjfekhmpaaGreatDoor
