import Derived.Test.YtelogmjfekhmpaaGreatDoorB8
import Derived.Test.YtelogmjfekhmpaaGreatDoorB12
import Derived.Test.YtelogmjfekhmpaaGreatDoorB5
import Derived.Test.YtelogmjfekhmpaaGreatDoorB17
import Derived.Test.YtelogmjfekhmpaaGreatDoorB3
import Derived.Lib.AppendIntMem
import Derived.Lib.Hide
import Derived.WalkSmall
import Derived.LoopTactic
namespace Go.Proofs.YtelogmjfekhmpaaGreatDoor
open Go.RowKit Go.Proofs.Tryz
structure RTree(R n:Nat)(w wr:World)(ns:List ByteArray)(ks:List (T n))(nv kv:Value):Prop where
 near:Near R w wr
 names:wr.ownsRow w.heap.size 9 1 nv ns.length (ns.map .string)
 short:∀s,s∈ns->s.size<=10000
 kids:∃xs,wr.ownsRow w.heap.size 133 1 kv ks.length xs/\∀j (h:j<ks.length),∃c,xs[j]?=some c/\InnerT (Fr w.heap.size nv kv wr.heap.size) wr n ks[j] c
 apart:∀b,nv.ownBlock=some b->kv.ownBlock≠some b
theorem RTree.start(R n:Nat)(w wr:World)(h:Near R w wr):RTree R n w wr [] [] (.slice none 0 0) (.slice none 0 0):=
 ⟨h,World.ownsRow_nil _ _ _ _,fun _ h=>(by cases h),⟨[],World.ownsRow_nil _ _ _ _,fun j h=>absurd h (Nat.not_lt_zero _)⟩,fun b hb=>by cases hb⟩
theorem RTree.keep{R n:Nat}{w wr W:World}{ns:List ByteArray}{ks:List (T n)}{nv kv:Value}(h:RTree R n w wr ns ks nv kv)(hR:R<w.heap.size)(hn:Near R wr W):RTree R n w W ns ks nv kv:=by
 have a:∀b,w.heap.size<=b->b<wr.heap.size->W.heap[b]?=wr.heap[b]?:=fun b h1 h2=>hn.block b h2 (by omega)
 obtain⟨xs,d,e⟩:=h.kids
 refine⟨h.near.trans hn,qbF h.names fun g hg=>?_,h.short,⟨xs,qbF d fun g hg=>?_,fun j hj=>?_⟩,h.apart⟩
 ·have:=r1_lt h.names g hg
  exact a g this.1 this.2
 ·have:=r1_lt d g hg
  exact a g this.1 this.2
 ·obtain⟨c,f,i⟩:=e j hj
  exact⟨c,f,i.keep (fun b hb=>a b hb.1 hb.2.1) (fun b hb=>⟨hb.1,Nat.lt_of_lt_of_le hb.2.1 hn.size,hb.2.2⟩)⟩
theorem RTree.name {R n:Nat} {w W Wa W2:World} {ns:List ByteArray} {ks:List (T n)} {nv kv:Value} {x:ByteArray} {one:Obj} {g cap:Nat} (h:RTree R n w W ns ks nv kv)
  (ha:Wa.heap=W.heap.push one) (ho:Wa.os=W.os/\Wa.tape=W.tape/\Wa.output=W.output) (hx:x.size<=10000)
  (hown:W2.ownsRow w.heap.size 9 1 (.slice (some ⟨g,0,none⟩) (ns.length+1) cap) (ns.length+1) (ns.map .string++[.string x])) (hgrow:Wa.grownBy W2 nv.ownBlock) (hat:nv.ownBlock=some g∨g=W.heap.size+1) :
  RTree R n w W2 (ns++[x]) ks (.slice (some ⟨g,0,none⟩) (ns.length+1) cap) kv/\(∀b,b<w.heap.size->W2.heap[b]?=W.heap[b]?)/\W.heap.size<=W2.heap.size:=by
 have u:W2.heap.size ≥ W.heap.size+1:=by have:=hgrow.size;rw[ha]at this;simp at this;omega
 have f:=r1_lt h.names
 have m:=r1_lt hown g rfl
 have o:=h.near.size
 have q:∀b,b<W.heap.size->nv.ownBlock≠some b->W2.heap[b]?=W.heap[b]?:=fun b a hne=>by
  rw[hgrow.block b (by rw[ha];simp;omega) (fun e=>hne e.symm),ha,Array.getElem?_push_lt a,Array.getElem?_eq_getElem a]
 obtain⟨xs,k,p⟩:=h.kids
 have i:=r1_lt k
 refine⟨⟨⟨?_,?_,?_,by omega,fun b a hne=>?_⟩,?_,?_,⟨xs,qbF k fun g' hg'=>?_,fun j hj=>?_⟩,fun b a=>?_⟩,fun b a=>q b (by omega) (fun e=>by have:=f b e;omega),by omega⟩
 ·rw[hgrow.os,ho.1];exact h.near.os
 ·rw[hgrow.tape,ho.2.1];exact h.near.tape
 ·rw[hgrow.output,ho.2.2];exact h.near.output
 ·rw[q b (by omega) (fun e=>by have:=f b e;omega)]
  exact h.near.block b a hne
 ·rw[List.length_append,List.length_singleton,List.map_append,List.map_singleton]
  exact hown
 ·intro s d
  rcases List.mem_append.1 d with d|d
  ·exact h.short s d
  ·rw[List.mem_singleton]at d;subst d;exact hx
 ·have:=i g' hg'
  exact q g' this.2 (fun e=>h.apart g' e hg')
 ·obtain⟨c,r,t⟩:=p j hj
  refine⟨c,r,t.keep (fun b a=>?_) (fun b a=>?_)⟩
  ·exact q b a.2.1 a.2.2.1
  ·refine⟨a.1,by have:=a.2.1;omega,?_,a.2.2.2⟩
   intro e
   have e:g=b:=by simpa [Value.ownBlock] using e
   rcases hat with l|l
   ·exact a.2.2.1 (by rw[l,e])
   ·have:=a.2.1;omega
 ·have a:g=b:=by simpa [Value.ownBlock] using a
  subst a
  rcases hat with l|l
  ·exact h.apart g l
  ·intro e;have:=i g e;omega
theorem RTree.kid {R n:Nat} {w W W1 Wa W2:World} {ns:List ByteArray} {ks:List (T n)} {nv kv:Value} {t:T n} {c:Value} {one:Obj} {g cap:Nat} (h0:RTree R n w W ns ks nv kv) (hR:R<w.heap.size)
  (hn:Near R W W1) (ht:InnerT (fun b=>W.heap.size<=b/\b<W1.heap.size) W1 n t c)
  (ha:Wa.heap=W1.heap.push one) (ho:Wa.os=W1.os/\Wa.tape=W1.tape/\Wa.output=W1.output) {xs:List Value}
  (hxs:W.ownsRow w.heap.size 133 1 kv ks.length xs) (hk:∀j (h:j<ks.length),∃c,xs[j]?=some c/\InnerT (Fr w.heap.size nv kv W.heap.size) W n ks[j] c)
  (hown:W2.ownsRow w.heap.size 133 1 (.slice (some ⟨g,0,none⟩) (ks.length+1) cap) (ks.length+1) (xs++[c])) (hgrow:Wa.grownBy W2 kv.ownBlock) (hat:kv.ownBlock=some g∨g=W1.heap.size+1) :
  RTree R n w W2 ns (ks++[t]) nv (.slice (some ⟨g,0,none⟩) (ks.length+1) cap)/\(∀b,b<w.heap.size->W2.heap[b]?=W1.heap[b]?)/\W1.heap.size<=W2.heap.size:=by
 have r:=hn.size
 have s:=h0.near.size
 have y:W2.heap.size ≥ W1.heap.size+1:=by have:=hgrow.size;rw[ha]at this;simp at this;omega
 have i:=r1_lt h0.names
 have a:=r1_lt hxs
 have u:=r1_lt hown g rfl
 have l:∀b,b<W1.heap.size->kv.ownBlock≠some b->W2.heap[b]?=W1.heap[b]?:=fun b hb hne=>by
  rw[hgrow.block b (by rw[ha];simp;omega) (fun e=>hne e.symm),ha,Array.getElem?_push_lt hb,Array.getElem?_eq_getElem hb]
 have q:∀b,b<W.heap.size->b≠R->kv.ownBlock≠some b->W2.heap[b]?=W.heap[b]?:=fun b hb hR hne=>by
  rw[l b (by omega) hne,hn.block b hb hR]
 have m:xs.length=ks.length*1:=hxs.1
 refine⟨⟨⟨?_,?_,?_,by omega,fun b hb hne=>?_⟩,qbF h0.names fun g' hg'=>?_,h0.short,⟨xs++[c],?_,fun j hj=>?_⟩,fun b hb=>?_⟩,fun b hb=>l b (by omega) (fun e=>by have:=a b e;omega),by omega⟩
 ·rw[hgrow.os,ho.1];exact hn.os.trans h0.near.os
 ·rw[hgrow.tape,ho.2.1];exact hn.tape.trans h0.near.tape
 ·rw[hgrow.output,ho.2.2];exact hn.output.trans h0.near.output
 ·rw[q b (by omega) hne (fun e=>by have:=a b e;omega)]
  exact h0.near.block b hb hne
 ·have:=i g' hg'
  exact q g' this.2 (by omega) (h0.apart g' hg')
 ·rw[List.length_append,List.length_singleton]
  exact hown
 ·have f:∀ b,kv.ownBlock≠some b->b<W1.heap.size->(Value.slice (some ⟨g,0,none⟩) (ks.length+1) cap).ownBlock≠some b:=by
   intro b k z e
   have e:g=b:=by simpa [Value.ownBlock] using e
   rcases hat with p|p
   ·exact k (by rw[p,e])
   ·omega
  by_cases hjk:j<ks.length
  ·obtain⟨d,v,x⟩:=hk j hjk
   refine⟨d,by rw[List.getElem?_append_left (by omega)];exact v,?_⟩
   rw[List.getElem_append_left hjk]
   refine x.keep (fun b hb=>?_) (fun b hb=>⟨hb.1,by have:=hb.2.1;omega,hb.2.2.1,f b hb.2.2.2 (by have:=hb.2.1;omega)⟩)
   exact q b hb.2.1 (by have:=hb.1;omega) hb.2.2.2
  ·have o:j=ks.length:=by simp at hj;omega
   subst o
   refine⟨c,by rw[List.getElem?_append_right (by omega)];simp[m],?_⟩
   have:(ks++[t])[ks.length]=t:=by simp
   rw[this]
   refine ht.keep (fun b hb=>?_) (fun b hb=>⟨by omega,by omega,fun e=>by have:=i b e;omega,f b (fun e=>by have:=a b e;omega) hb.2⟩)
   exact l b hb.2 (fun e=>by have:=a b e;omega)
 ·intro e
  have e:g=b:=by simpa [Value.ownBlock] using e
  subst e
  rcases hat with k|k
  ·exact h0.apart g hb k
  ·have:=i g hb;omega
theorem RTree.rows {R n:Nat} {w wr:World} {ns:List ByteArray} {ks:List (T n)} {nv kv:Value} (h:RTree R n w wr ns ks nv kv) (hl:ns.length<=20000) (hk:ks.length<=20000) :
  StrsIn (fun b=>w.heap.size<=b/\b<wr.heap.size) wr ns nv/\Row1 (fun b=>w.heap.size<=b/\b<wr.heap.size) wr (InnerT (fun b=>w.heap.size<=b/\b<wr.heap.size) wr n) ks kv:=by
 obtain⟨xs,a,d⟩:=h.kids
 refine⟨qdW h.names hl h.short fun g hg=>r1_lt h.names g hg,qgU a (by unfold maxLen;omega) (fun g hg=>r1_lt a g hg) fun j hj hx=>?_⟩
 obtain⟨c,f,e⟩:=d j hj
 have:xs[j]=c:=by rw[List.getElem?_eq_getElem hx]at f;exact Option.some.inj f
 rw[this]
 exact e.keep (fun _ _=>rfl) (fun b hb=>⟨hb.1,hb.2.1⟩)
def LaidU(B:Nat)(w:World):Prop:=
 Lib.TabBelow prog B w "internal/strconv.uint64pow10" .u64 Lib.pow10Tab/\(∃ tp p,∀ w',Below B w w'->w'.var? prog "strconv.ErrSyntax" = some #[.iface tp p]) /\
  (∃ tp p,∀ w',Below B w w'->w'.var? prog "strconv.ErrRange" = some #[.iface tp p])
theorem LaidU.step{B:Nat}{w w':World}(h:LaidU B w)(hb:Below B w w'):LaidU B w':=by
 obtain⟨a,⟨b,c,d⟩,t2,e,f⟩:=h
 exact⟨fun w2 k=>a w2 (hb.trans k),⟨b,c,fun w2 k=>d w2 (hb.trans k)⟩,t2,e,fun w2 k=>f w2 (hb.trans k)⟩
theorem LaidU.near{B R:Nat}{w w':World}(h:LaidU B w)(hn:Near R w w')(hB:B<=R)(hR:R<w.heap.size):LaidU B w':=h.step (hn.below hB (by omega))
def methV(R:Nat)(c:UInt8):Value:=
 if digC c=true∨c=45 then .func (.func 127) #[.pointer (some ⟨R,0,none⟩)] #[]
 else if c=34 then .func (.func 130) #[.pointer (some ⟨R,0,none⟩)] #[]
 else if c=121∨c=110 then .func (.func 128) #[.pointer (some ⟨R,0,none⟩)] #[]
 else if c=91 then .func (.func 131) #[.pointer (some ⟨R,0,none⟩)] #[]
 else if c=123 then .func (.func 132) #[.pointer (some ⟨R,0,none⟩)] #[]
 else if c=126∨c=63 then .func (.func 129) #[.pointer (some ⟨R,0,none⟩)] #[]
 else .nilFunc
def Meth(w:World)(R:Nat):Prop:=∀c:UInt8,w.cell? ⟨R,2+c.toNat,none⟩=some (methV R c)
theorem Meth.scan{w w':World}{R q:Nat}(h:Meth w R)(hs:Scan R w w' q):Meth w' R:=fun c=>(hs.cells (2+c.toNat) (by omega)).trans (h c)
def TRPost(R:Nat)(s:ByteArray)(i m:Nat)(w:World)(e:Ending)(w':World):Prop:=
 (∃(t:T m)(q:Nat)(v:Value),qaH m (s.data.toList.drop i)=some (t,s.data.toList.drop q)/\i<q/\q<=s.size/\e=.returned v/\InnerT (fun b=>w.heap.size<=b/\b<w'.heap.size) w' m t v/\Scan R w w' q) ∨
  (qaH m (s.data.toList.drop i)=none/\e=.panicked refusal/\Near R w w')
def qgW(m:Nat):Prop:=∀(B R:Nat)(s:ByteArray)(i:Nat)(w:World),LaidU B w->B<=R->Sc w R s i->Meth w R->i<=s.size->s.size<=10000->s.size-i<m ->
 Calls prog 133 #[.pointer (some ⟨R,0,none⟩)] w (TRPost R s i m w)
set_option maxRecDepth 100000
set_option maxHeartbeats 16000000
theorem pu_num{m:Nat}{l:List UInt8}(h:digC (l.headD 0)=true∨l.headD 0=45):(numOf (numW l)=none->qaH (m+1) l=none)/\(∀v,numOf (numW l)=some v->qaH (m+1) l=some ((⟨1,v,ByteArray.empty,[],[]⟩:Nd (T m)),l.drop (numW l).length)):=by
 refine⟨fun h1=>?_,fun v h1=>?_⟩<;>rw[qaH,if_pos h,h1]<;>rfl
theorem xdF{m:Nat}{l:List UInt8}(h:l.headD 0=34):(qbQ 34 (l.drop 1)=none->qaH (m+1) l=none)/\(∀x r,qbQ 34 (l.drop 1)=some (x,r)->qaH (m+1) l=some ((⟨2,0,bs x,[],[]⟩:Nd (T m)),r.drop 1)):=by
 refine⟨fun h1=>?_,fun x r h1=>?_⟩<;>rw[qaH,if_neg (by rw[h];decide),if_pos h,h1]<;>rfl
theorem pu_yes{m:Nat}{l r:List UInt8}(h:l.headD 0=121∨l.headD 0=110)(h1:eatP [121,101,115] l=some r):qaH (m+1) l=some ((⟨3,1,ByteArray.empty,[],[]⟩:Nd (T m)),r):=by
 rw[qaH,if_neg (by rcases h with h|h<;>rw[h]<;>decide),if_neg (by rcases h with h|h<;>rw[h]<;>decide),if_pos h,h1];rfl
theorem pu_no{m:Nat}{l:List UInt8}(h:l.headD 0=121∨l.headD 0=110)(h1:eatP [121,101,115] l=none):(eatP [110,111] l=none->qaH (m+1) l=none)/\(∀r,eatP [110,111] l=some r->qaH (m+1) l=some ((⟨3,0,ByteArray.empty,[],[]⟩:Nd (T m)),r)):=by
 refine⟨fun h2=>?_,fun r h2=>?_⟩<;>rw[qaH,if_neg (by rcases h with h|h<;>rw[h]<;>decide),if_neg (by rcases h with h|h<;>rw[h]<;>decide),if_pos h,h1]<;>simp only[h2]<;>rfl
theorem xjB{m:Nat}{l:List UInt8}(h:l.headD 0=91):(listQ (qaH m) ((l.drop 1).length+1) [] (l.drop 1)=none->qaH (m+1) l=none)/\(∀ks r,listQ (qaH m) ((l.drop 1).length+1) [] (l.drop 1)=some (ks,r)->qaH (m+1) l=some ((⟨4,0,ByteArray.empty,[],ks⟩:Nd (T m)),r)):=by
 refine⟨fun h1=>?_,fun ks r h1=>?_⟩<;>rw[qaH,if_neg (by rw[h];decide),if_neg (by rw[h];decide),if_neg (by rw[h];decide),if_pos h,h1]<;>rfl
theorem xjC{m:Nat}{l:List UInt8}(h:l.headD 0=123):(formQ (qaH m) ((l.drop 1).length+1) [] [] (l.drop 1)=none->qaH (m+1) l=none)/\(∀ns ks r,formQ (qaH m) ((l.drop 1).length+1) [] [] (l.drop 1)=some (ns,ks,r)->qaH (m+1) l=some ((⟨5,0,ByteArray.empty,ns,ks⟩:Nd (T m)),r)):=by
 refine⟨fun h1=>?_,fun ns ks r h1=>?_⟩<;>rw[qaH,if_neg (by rw[h];decide),if_neg (by rw[h];decide),if_neg (by rw[h];decide),if_neg (by rw[h];decide),if_pos h,h1]<;>rfl
theorem xjD{m:Nat}{l:List UInt8}(h:l.headD 0=126):qaH (m+1) l=some ((⟨6,0,ByteArray.empty,[],[]⟩:Nd (T m)),l.drop 1):=by
 rw[qaH,if_neg (by rw[h];decide),if_neg (by rw[h];decide),if_neg (by rw[h];decide),if_neg (by rw[h];decide),if_neg (by rw[h];decide),if_pos h];rfl
theorem xjE{m:Nat}{l:List UInt8}(h:l.headD 0=63):(qaH m (l.drop 1)=none->qaH (m+1) l=none)/\(∀t r,qaH m (l.drop 1)=some (t,r)->qaH (m+1) l=some ((⟨6,0,ByteArray.empty,[],[t]⟩:Nd (T m)),r)):=by
 refine⟨fun h1=>?_,fun t r h1=>?_⟩<;>rw[qaH,if_neg (by rw[h];decide),if_neg (by rw[h];decide),if_neg (by rw[h];decide),if_neg (by rw[h];decide),if_neg (by rw[h];decide),if_neg (by rw[h];decide),if_pos h,h1]<;>rfl
theorem xdG{m:Nat}{l:List UInt8}(h1:¬(digC (l.headD 0)=true∨l.headD 0=45))(h2:¬l.headD 0=34)(h3:¬(l.headD 0=121∨l.headD 0=110))(h4:¬l.headD 0=91)(h5:¬l.headD 0=123)(h6:¬(l.headD 0=126∨l.headD 0=63)):qaH (m+1) l=none:=by
 rw[qaH,if_neg h1,if_neg h2,if_neg h3,if_neg h4,if_neg h5,if_neg (fun e=>h6 (.inl e)),if_neg (fun e=>h6 (.inr e))]
theorem qjD{l:List UInt8}{c:UInt8}(h:l.headD 0=c)(hc:c≠0):eatP [c] l=some (l.drop 1):=by
 conv=>lhs;rw[qhI h hc]
 exact qaE _ _
theorem quS (m R:Nat) (s:ByteArray) (i:Nat) (w:World) (h:Sc w R s i) (hi:i<=s.size) (hs:s.size<=10000) (hc:(s.data.toList.drop i).headD 0=34) :
  Calls prog 130 #[.pointer (some ⟨R,0,none⟩)] w (TRPost R s i (m+1) w):=by
 have q:Hid (_/\_):=xdF (m:=m) hc
 have u:Hid (eatP [34] (s.data.toList.drop i)=some ((s.data.toList.drop i).drop 1)):=qjD hc (by decide)
 have r:Hid (Calls prog 157 #[.pointer (some ⟨R,0,none⟩),.string ⟨#[34]⟩] w _):=qcW w R s ⟨#[34]⟩ i h hs (by decide) hi
 have j:Hid (Sc w R s i):=h
 clear h hc
 go_enter func130,ntmps130
 go_wp2_with fail
 refine r.out.mono ?_
 rintro e l (⟨d,rfl,f,p⟩|⟨d,rfl,f⟩)
 case inr=>
  have d:eatP [34] (s.data.toList.drop i)=none:=d
  rw[u.out]at d;cases d
 have f:Scan R w l (i+1):=f
 have p:i+1<=s.size:=p
 have a:Hid (Scan R w l (i+1)):=f
 have t:Hid (Calls prog 158 #[.pointer (some ⟨R,0,none⟩),.int .u8 34] l (qiX 34 l R s (i+1))):=qmF 34 l R s (i+1) (f.sc j.out) hs p
 clear d f r
 go_wp2_with fail
 refine t.out.mono ?_
 rintro e w2 (⟨x,n,rfl,o,z⟩|⟨n,rfl,o⟩)
 case inr=>exact⟨rfl,.inr ⟨q.out.1 (by rw[List.drop_drop];exact n),rfl,a.out.near.trans o⟩⟩
 have b:Hid (Scan R w w2 (i+1+x.length)):=a.out.trans o
 have k:Hid (Calls prog 157 #[.pointer (some ⟨R,0,none⟩),.string ⟨#[34]⟩] w2 _):=qcW w2 R s ⟨#[34]⟩ (i+1+x.length) (b.out.sc j.out) hs (by decide) (by omega)
 have c:Hid (qbQ 34 (s.data.toList.drop (i+1))=some (x,s.data.toList.drop (i+1+x.length))):=n
 clear n o t a
 go_wp2_with fail
 refine k.out.mono ?_
 rintro e w3 (⟨g,rfl,v2,v3⟩|⟨g,rfl,v2⟩)
 case inr=>
  have g:eatP [34] (s.data.toList.drop (i+1+x.length))=none:=g
  obtain⟨A,y,-⟩:=qdJ c.out
  rw[y,qaE]at g
  cases g
 have v2:Scan R w2 w3 (i+1+x.length+1):=v2
 have v3:i+1+x.length+1<=s.size:=v3
 have v:Hid (TRPost R s i (m+1) w (.returned (.iface 167 (.string (bs x)))) w3):=by
  refine .inl ⟨(⟨2,0,bs x,[],[]⟩:Nd (T m)),i+1+x.length+1,_,?_,by omega,v3,rfl,.inr (.inl ⟨rfl,rfl⟩),b.out.trans v2⟩
  have:=q.out.2 x (s.data.toList.drop (i+1+x.length)) (by rw[List.drop_drop];exact c.out)
  rw[this,List.drop_drop];rfl
 clear g v2 v3 k c b
 go_wp2_with fail
 go_ret
 exact v.out
theorem xdH (m R:Nat) (s:ByteArray) (i:Nat) (w:World) (h:Sc w R s i) (hi:i<=s.size) (hs:s.size<=10000) (hc:(s.data.toList.drop i).headD 0=121∨(s.data.toList.drop i).headD 0=110) :
  Calls prog 128 #[.pointer (some ⟨R,0,none⟩)] w (TRPost R s i (m+1) w):=by
 have f:Hid ((s.data.toList.drop i).headD 0=121∨(s.data.toList.drop i).headD 0=110):=hc
 have l:Hid (Calls prog 155 #[.pointer (some ⟨R,0,none⟩),.string ⟨#[121,101,115]⟩] w _):=qdG w R s ⟨#[121,101,115]⟩ i h hs (by decide) hi
 have n:Hid (Sc w R s i):=h
 clear h hc
 go_enter func128,ntmps128
 go_wp2_with fail
 refine l.out.mono ?_
 rintro e d (⟨a,rfl,b,j⟩|⟨a,rfl,b⟩)
 ·have a:eatP [121,101,115] (s.data.toList.drop i)=some (s.data.toList.drop (i+3)):=a
  have b:Scan R w d (i+3):=b
  have j:i+3<=s.size:=j
  have o:Hid (TRPost R s i (m+1) w (.returned (.iface 168 (.bool true))) d):=
   .inl ⟨_,i+3,_,pu_yes f.out a,by omega,j,rfl,.inr (.inr (.inl ⟨rfl,rfl⟩)),b⟩
  clear a b j l
  go_wp2_with fail
  go_ret
  exact o.out
 ·have a:eatP [121,101,115] (s.data.toList.drop i)=none:=a
  have p:Hid (_/\_):=pu_no (m:=m) f.out a
  have c:Hid (Scan R w d i):=b
  have g:Hid (Calls prog 157 #[.pointer (some ⟨R,0,none⟩),.string ⟨#[110,111]⟩] d _):=qcW d R s ⟨#[110,111]⟩ i (b.sc n.out) hs (by decide) hi
  clear a b l
  go_wp2_with fail
  refine g.out.mono ?_
  rintro e w2 (⟨k,rfl,v2,v3⟩|⟨k,rfl,v2⟩)
  case inr=>exact⟨rfl,.inr ⟨p.out.1 k,rfl,c.out.near.trans v2⟩⟩
  have v2:Scan R d w2 (i+2):=v2
  have v3:i+2<=s.size:=v3
  have o:Hid (TRPost R s i (m+1) w (.returned (.iface 168 (.bool false))) w2):=
   .inl ⟨_,i+2,_,p.out.2 _ k,by omega,v3,rfl,.inr (.inr (.inl ⟨rfl,rfl⟩)),c.out.trans v2⟩
  clear k v2 v3 g c
  go_wp2_with fail
  go_ret
  exact o.out
theorem qyL (m:Nat) (hm:qgW m) (B R:Nat) (s:ByteArray) (i:Nat) (w:World) (hL:LaidU B w) (hBR:B<=R) (h:Sc w R s i) (hM:Meth w R) (hi:i<=s.size) (hs:s.size<=10000) (hlt:s.size - i<=m) (hc:(s.data.toList.drop i).headD 0=126∨(s.data.toList.drop i).headD 0=63) :
  Calls prog 129 #[.pointer (some ⟨R,0,none⟩)] w (TRPost R s i (m+1) w):=by
 have L:=h.lt
 have A:Hid (Calls prog 155 #[.pointer (some ⟨R,0,none⟩),.string ⟨#[126]⟩] w _):=qdG w R s ⟨#[126]⟩ i h hs (by decide) hi
 have n:Hid (Sc w R s i):=h
 have g:Hid (LaidU B w/\Meth w R/\qgW m):=⟨hL,hM,hm⟩
 have C:Hid ((s.data.toList.drop i).headD 0=126∨(s.data.toList.drop i).headD 0=63):=hc
 clear h hL hM hm hc
 go_enter func129,ntmps129
 go_wp2_with fail
 refine A.out.mono ?_
 rintro e l (⟨c,rfl,f,y⟩|⟨c,rfl,f⟩)
 ·have c:eatP [126] (s.data.toList.drop i)=some (s.data.toList.drop (i+1)):=c
  have f:Scan R w l (i+1):=f
  have y:i+1<=s.size:=y
  have D:Hid (TRPost R s i (m+1) w (.returned (.iface 175 (.slice none 0 0))) l):=by
   have o:(s.data.toList.drop i).headD 0=126:=by rw[qbP c];rfl
   refine .inl ⟨(⟨6,0,ByteArray.empty,[],[]⟩:Nd (T m)),i+1,_,?_,by omega,y,rfl,.inr (.inr (.inr (.inr (.inr ⟨rfl,_,rfl,none,0,rfl,by simp[maxLen],fun h=>absurd rfl h⟩)))),f⟩
   rw[xjD o,List.drop_drop];rfl
  clear c f y A
  go_wp2_with fail
  go_ret
  exact D.out
 ·have c:eatP [126] (s.data.toList.drop i)=none:=c
  have o:(s.data.toList.drop i).headD 0=63:=by
   rcases C.out with h|h
   ·rw[qjD h (by decide)]at c;cases c
   ·exact h
  have H:Hid (_/\_):=xjE (m:=m) o
  have I:Hid (eatP [63] (s.data.toList.drop i)=some ((s.data.toList.drop i).drop 1)):=qjD o (by decide)
  have p:Hid (Scan R w l i):=f
  have r:Hid (Calls prog 157 #[.pointer (some ⟨R,0,none⟩),.string ⟨#[63]⟩] l _):=qcW l R s ⟨#[63]⟩ i (f.sc n.out) hs (by decide) hi
  clear c f A o
  go_wp2_with fail
  refine r.out.mono ?_
  rintro e w2 (⟨k,rfl,v2,v3⟩|⟨k,rfl,v2⟩)
  case inr=>
   have k:eatP [63] (s.data.toList.drop i)=none:=k
   rw[I.out]at k;cases k
  have v2:Scan R l w2 (i+1):=v2
  have v3:i+1<=s.size:=v3
  have a:=p.out.trans v2
  have d:Hid (Scan R w w2 (i+1)):=a
  have J:Hid (Calls prog 133 #[.pointer (some ⟨R,0,none⟩)] w2 (TRPost R s (i+1) m w2)):=g.out.2.2 B R s (i+1) w2 (g.out.1.near a.near hBR L) hBR (a.sc n.out) (g.out.2.1.scan a) v3 hs (by omega)
  clear k v2 r p a I
  go_wp2_with fail
  refine J.out.mono ?_
  rintro e w3 (⟨t,q,v,z,K,O,rfl,F,G⟩|⟨z,rfl,K⟩)
  case inr=>exact⟨rfl,.inr ⟨H.out.1 (by rw[List.drop_drop];exact z),rfl,d.out.near.trans K⟩⟩
  obtain⟨u,x,rfl⟩:=id F.iface
  have M:=d.out.near.size
  have N:=G.near.size
  have D:Hid (TRPost R s i (m+1) w (.returned (.iface 175 (.slice (some ⟨w3.heap.size,0,none⟩) 1 1))) (w3.alloc (.cells #[.iface u x] 133))):=by
   have E:Below w3.heap.size w3 (w3.alloc (.cells #[.iface u x] 133)):=(Below.refl _ _).alloc (Nat.le_refl _) _
   refine .inl ⟨_,q,_,H.out.2 t _ (by rw[List.drop_drop];exact z),by omega,O,rfl,.inr (.inr (.inr (.inr (.inr ⟨rfl,_,rfl,some ⟨w3.heap.size,0,none⟩,1,rfl,by simp[maxLen],fun _=>⟨w3.heap.size,0,rfl,⟨by omega,by simp⟩,fun j hj=>?_⟩⟩)))),(d.out.trans G).below E (by omega)⟩
   have:j=0:=by simpa using hj
   subst this
   exact⟨.iface u x,by simp[go_sem],F.keep (fun b hb=>Below.heap_alloc _ _ _ hb.2) (fun b hb=>⟨by omega,by simp;omega⟩)⟩
  clear z F G J d
  go_wp2_with fail
  go_ret
  exact D.out
theorem Tryz.info_anyQ:(prog.info? 133).map (fun i=>(i.zero,i.size,i.bytes))=some (some .nilIface,1,16):=by kernel_rfl
def listR{α:Type}(f:List UInt8->Option (α×List UInt8))(k:Nat)(acc:List α)(s1:List UInt8):Option (List α×List UInt8):=
 match f s1 with
 | none=>none
 | some (t,r)=>listQ f k (acc++[t]) r
theorem xdI{α:Type}{f:List UInt8->Option (α×List UInt8)}{k:Nat}{acc:List α}{s r:List UInt8}(h:eatP [93] s=some r):listQ f (k+1) acc s=some (acc,r):=by
 rw[listQ,h]
theorem quT{α:Type}{f:List UInt8->Option (α×List UInt8)}{k:Nat}{acc:List α}{s:List UInt8}(h:eatP [93] s=none)(h0:acc.length=0):listQ f (k+1) acc s=listR f k acc s:=by
 rw[listQ,h];simp only[h0,if_true];rfl
theorem qyM{α:Type}{f:List UInt8->Option (α×List UInt8)}{k:Nat}{acc:List α}{s s1:List UInt8}(h:eatP [93] s=none)(h0:¬acc.length=0)(h1:eatP [44] s=some s1):listQ f (k+1) acc s=listR f k acc s1:=by
 rw[listQ,h];simp only[if_neg h0,h1];rfl
theorem qyN{α:Type}{f:List UInt8->Option (α×List UInt8)}{k:Nat}{acc:List α}{s:List UInt8}(h:eatP [93] s=none)(h0:¬acc.length=0)(h1:eatP [44] s=none):listQ f (k+1) acc s=none:=by
 rw[listQ,h];simp only[if_neg h0,h1]
theorem xdJ{α:Type}{f:List UInt8->Option (α×List UInt8)}{k:Nat}{acc:List α}{s:List UInt8}(h1:f s=none):listR f k acc s=none:=by
 rw[listR,h1]
theorem xdK{α:Type}{f:List UInt8->Option (α×List UInt8)}{k:Nat}{acc:List α}{s r:List UInt8}{t:α}(h1:f s=some (t,r)):listR f k acc s=listQ f k (acc++[t]) r:=by
 rw[listR,h1]
def qgX(m:Nat)(s:ByteArray)(i:Nat):Option (List (T m)×List UInt8):=listQ (qaH m) ((s.data.toList.drop (i+1)).length+1) [] (s.data.toList.drop (i+1))
theorem xdL (m:Nat) (hm:qgW m) (B R:Nat) (s:ByteArray) (i:Nat) (w:World) (hL:LaidU B w) (hBR:B<=R) (h:Sc w R s i) (hMe:Meth w R) (hi:i<=s.size) (hs:s.size<=10000) (hlt:s.size - i<=m) (hc:(s.data.toList.drop i).headD 0=91) :
  Calls prog 131 #[.pointer (some ⟨R,0,none⟩)] w (TRPost R s i (m+1) w):=by
 have HW:Hid (Calls prog 157 #[.pointer (some ⟨R,0,none⟩),.string ⟨#[91]⟩] w _):=qcW w R s ⟨#[91]⟩ i h hs (by decide) hi
 have S:=h.lt
 have HM:Hid (qgW m/\LaidU B w/\Meth w R):=⟨hm,hL,hMe⟩
 have x:Hid (Sc w R s i):=h
 have V:Hid ((qgX m s i=none->qaH (m+1) (s.data.toList.drop i)=none)/\(∀k r,qgX m s i=some (k,r)->qaH (m+1) (s.data.toList.drop i)=some ((⟨4,0,ByteArray.empty,[],k⟩:Nd (T m)),r))):=by
  have:=xjB (m:=m) hc
  rw[List.drop_drop]at this
  exact this
 have HE:Hid (eatP [91] (s.data.toList.drop i)=some ((s.data.toList.drop i).drop 1)):=qjD hc (by decide)
 clear h hm hL hMe hc
 go_enter func131,ntmps131
 go_wp2_with fail
 refine HW.out.mono ?_
 rintro e d (⟨L,rfl,M,h3⟩|⟨L,rfl,M⟩)
 case inr=>
  have L:eatP [91] (s.data.toList.drop i)=none:=L
  rw[HE.out]at L;cases L
 have M:Scan R w d (i+1):=M
 have h3:i+1<=s.size:=h3
 clear L HW
 go_wp2_with fail
 go_loopw [3] (fun kv wr=>∃ (k:List (T m)) (j a f:Nat) (D:Option Addr) (E:Nat),k.length=f/\f<=j/\kv=.slice D f E/\RTree R m w wr [] k (.slice none 0 0) (.slice D f E)/\Scan R w wr j/\i<j/\j<=s.size /\
   listQ (qaH m) (a+1) k (s.data.toList.drop j)=qgX m s i/\s.size-j<=a) (fun _ wr=>s.size-atS wr R)
 case atStart=>exact⟨[],i+1,(s.data.toList.drop (i+1)).length,0,none,0,rfl,by omega,rfl,RTree.start R m w d M.near,M,by omega,h3,rfl,by simp⟩
 case round=>
  obtain⟨k,j,a,f,D,E,aC,aS,rfl,hF,hS,aT,hj,hG,aU⟩:=hrel
  have G:Hid (k.length=f):=aC
  have HF:Hid (RTree R m w wr [] k (.slice none 0 0) (.slice D f E)):=hF
  have HS:Hid (Scan R w wr j):=hS
  have P:Hid (listQ (qaH m) (a+1) k (s.data.toList.drop j)=qgX m s i):=hG
  have HA:Hid (atS wr R=j):=hS.atS
  have U:Hid (Calls prog 155 #[.pointer (some ⟨R,0,none⟩),.string ⟨#[93]⟩] wr _):=qdG wr R s ⟨#[93]⟩ j (hS.sc x.out) hs (by decide) hj
  clear aC hF hS hG M h3
  go_wp2_with fail
  refine U.out.mono ?_
  rintro e d (⟨C,rfl,H,p3⟩|⟨C,rfl,H⟩)
  ·have HP:Hid (TRPost R s i (m+1) w (.returned (.iface 170 (.slice D f E))) d):=by
    have H:Scan R wr d (j+1):=H
    have p3:j+1<=s.size:=p3
    have aK:=HF.out.keep S H.near
    obtain⟨-,r2⟩:=aK.rows (by simp) (by rw[G.out];omega)
    exact .inl ⟨_,j+1,_,V.out.2 k _ (by rw[<- P.out];exact xdI C),by omega,p3,rfl,.inr (.inr (.inr (.inl ⟨rfl,_,rfl,r2⟩))),HS.out.trans H⟩
   clear C H p3 U HF HS P
   go_wp2_with fail
   go_ret
   exact HP.out
  ·have C:eatP [93] (s.data.toList.drop j)=none:=C
   have l:Hid (RTree R m w d [] k (.slice none 0 0) (.slice D f E)):=HF.out.keep S H.near
   have v:Hid (Scan R w d j):=HS.out.trans H
   clear HF HS U H
   have X:Hid (∀W,qgX m s i=none->Near R w W->TRPost R s i (m+1) w (.panicked refusal) W):=fun W L M=>.inr ⟨V.out.1 L,rfl,M⟩
   rcases Nat.eq_zero_or_pos f with h0|h0
   case' inl=>
    obtain⟨p,o⟩:∃p,p=j:=⟨_,rfl⟩
    have HQ:Hid (listR (qaH m) a k (s.data.toList.drop p)=qgX m s i):=by
     show _=_
     rw[o,<- P.out];exact (quT C (by rw[G.out];exact h0)).symm
    have n:Hid (Scan R w d p):=by rw[o];exact v
    have N:p<=s.size:=by omega
    have aL:j<=p:=by omega
    have hd:(0<f)=False:=eq_false (by omega)
    clear h0 v P o C
    go_wp2_with fail
    clear hd
   case' inr=>
    have U:Hid (Calls prog 157 #[.pointer (some ⟨R,0,none⟩),.string ⟨#[44]⟩] d _):=qcW d R s ⟨#[44]⟩ j (v.out.sc x.out) hs (by decide) hj
    have hd:0<f:=h0
    go_wp2_with fail
    refine U.out.mono ?_
    rintro e d (⟨q1,rfl,Q,q3⟩|⟨q1,rfl,Q⟩)
    case inr=>
     refine⟨rfl,X.out d ?_ (v.out.near.trans Q)⟩
     rw[<- P.out];exact qyN C (by rw[G.out];omega) q1
    obtain⟨p,o⟩:∃p,p=j+1:=⟨_,rfl⟩
    have Q:Scan R _ d (j+1):=Q
    have q3:j+1<=s.size:=q3
    have HQ:Hid (listR (qaH m) a k (s.data.toList.drop p)=qgX m s i):=by
     show _=_
     rw[o,<- P.out];exact (qyM C (by rw[G.out];omega) q1).symm
    have n:Hid (Scan R w d p):=by rw[o];exact v.out.trans Q
    have N:p<=s.size:=by omega
    have aL:j<=p:=by omega
    have Y:=l.out.keep S Q.near
    clear l
    have l:Hid (RTree R m w d [] k (.slice none 0 0) (.slice D f E)):=Y
    clear Y v P o C q1 Q q3 h0 U
    go_wp2_with fail
    clear hd
   all_goals
    have HK:Hid (Calls prog 133 #[.pointer (some ⟨R,0,none⟩)] d (TRPost R s p m d)):=HM.out.1 B R s _ d (HM.out.2.1.near n.out.near hBR S) hBR (n.out.sc x.out) (HM.out.2.2.scan n.out) N hs (by omega)
    obtain⟨xs,y,aD⟩:=l.out.kids
    have Z:Hid (∀q (h:q<k.length),_):=aD
    have I:Hid (d.ownsRow w.heap.size 133 1 (.slice D f E) f xs):=by
     rw[G.out]at y;exact y
    clear y aD
    refine HK.out.mono ?_
    rintro e F (⟨t,q,c,y1,y2,y3,rfl,y4,y5⟩|⟨y1,rfl,y2⟩)
    case inr=>exact⟨rfl,X.out F (by rw[<- HQ.out];exact xdJ y1) (n.out.near.trans y2)⟩
    obtain⟨zt,zx,rfl⟩:=id y4.iface
    have aQ:=y5.near.size
    have aR:=l.out.near.size
    have aA:Hid (F.ownsRow w.heap.size 133 1 (.slice D f E) f xs):=qbF I.out (fun g' hg'=>by
     have:=r1_lt I.out g' hg'
     exact y5.near.block g' this.2 (by omega))
    have HY:Hid (InnerT (fun b=>d.heap.size<=b/\b<F.heap.size) F m t (.iface zt zx)/\Scan R d F q):=⟨y4,y5⟩
    have aM:Hid (listQ (qaH m) a (k++[t]) (s.data.toList.drop q)=qgX m s i):=by
     show _=_
     rw[<- HQ.out]
     exact (xdK y1).symm
    obtain⟨aO,aE,aF,aG,aH⟩:=info_parts Tryz.info_anyQ
    have J:Hid (_/\_/\_/\_):=⟨aE,aF,aG,aH⟩
    clear aE aF aG aH y1 y4 y5 HK HQ
    go_wp2_with (at_builtin;refine wpList_append_lies _ rfl (.tmp 20) (.tmp 23) 170 rfl w.heap.size 133 aO _ 1 16 underlying170 J.out.1 J.out.2.1 J.out.2.2.1 J.out.2.2.2 rfl (by decide) (.slice D f E) f xs rfl (aA.out.alloc _) ⟨F.heap.size,0,none⟩ 1 1 [.iface zt zx] rfl rfl (World.news_of_block (heap_alloc_new F _)) (by simp[Value.oneCell']) (by decide) (by unfold maxLen;omega) (by omega) (by simp;omega) (F.heap.size+1) (by simp) ?_;intro g2 z w6 A u O aI;refine Hid.out ?_)
    refine Lib.hid ?_
    obtain⟨K,aJ,aP⟩:=l.out.kid (W1:=F) (Wa:=F.alloc (.cells #[.iface zt zx] 133)) (one:=.cells #[.iface zt zx] 133) (g:=g2) (cap:=z) S HY.out.2.near HY.out.1 rfl ⟨rfl,rfl,rfl⟩ (by rw[G.out];exact I.out) Z.out (by rw[G.out];exact A) u O
    rw[G.out]at K
    have aN:Hid (RTree R m w w6 [] (k++[t]) (.slice none 0 0) (.slice (some ⟨g2,0,none⟩) (f+1) z)):=K
    have aB:Hid (Scan R w w6 q):=(n.out.trans HY.out.2).same K.near (aJ R S)
    obtain⟨f',rfl⟩:∃f',a=f'+1:=⟨a-1,by omega⟩
    clear K aJ aP A u O aI aA I Z l n HY
    go_wp2_with fail
    go_roundw
    case rel=>exact⟨k++[t],q,f',f+1,some ⟨g2,0,none⟩,z,by simp[G.out],by omega,rfl,aN.out,aB.out,by omega,y3,aM.out,by omega⟩
    case measure=>rw[aB.out.atS,HA.out];omega
def qfV(m:Nat)(s:ByteArray)(i:Nat):Option (List ByteArray×List (T m)×List UInt8):=formQ (qaH m) ((s.data.toList.drop (i+1)).length+1) [] [] (s.data.toList.drop (i+1))
def xdM(R:Nat)(s:ByteArray)(i m:Nat)(w:World)(e:Ending)(w':World):Prop:=
 (∃(ns:List ByteArray)(ks:List (T m))(q:Nat)(na:Option Addr)(nc:Nat)(ka:Option Addr)(kc ln:Nat),eatP [123] (s.data.toList.drop i)=some (s.data.toList.drop (i+1))/\qfV m s i=some (ns,ks,s.data.toList.drop q)/\i<q/\q<=s.size/\ln<=10000 /\
  e=.returned (.tuple #[.slice na ln nc,.slice ka ln kc])/\StrsIn (fun b=>w.heap.size<=b/\b<w'.heap.size) w' ns (.slice na ln nc) /\
  Row1 (fun b=>w.heap.size<=b/\b<w'.heap.size) w' (InnerT (fun b=>w.heap.size<=b/\b<w'.heap.size) w' m) ks (.slice ka ln kc)/\Scan R w w' q) ∨
  ((eatP [123] (s.data.toList.drop i)=none∨(eatP [123] (s.data.toList.drop i)=some (s.data.toList.drop (i+1))/\qfV m s i=none))/\e=.panicked refusal/\Near R w w')
theorem qqD (m:Nat) (hm:qgW m) (B R:Nat) (s:ByteArray) (i:Nat) (w:World) (hL:LaidU B w) (hBR:B<=R) (h:Sc w R s i) (hMe:Meth w R) (hi:i<=s.size) (hs:s.size<=10000) (hlt:s.size - i<=m) :
  Calls prog 159 #[.pointer (some ⟨R,0,none⟩),.func (.func 133) #[.pointer (some ⟨R,0,none⟩)] #[]] w (xdM R s i m w):=by
 have HW:Hid (Calls prog 157 #[.pointer (some ⟨R,0,none⟩),.string ⟨#[123]⟩] w _):=qcW w R s ⟨#[123]⟩ i h hs (by decide) hi
 have Q:=h.lt
 have HM:Hid (qgW m/\LaidU B w/\Meth w R):=⟨hm,hL,hMe⟩
 have o:Hid (Sc w R s i):=h
 clear h hm hL hMe
 go_enter func159,ntmps159
 go_wp2_with fail
 refine HW.out.mono ?_
 rintro e l (⟨h1,rfl,S,h3⟩|⟨h1,rfl,S⟩)
 case inr=>exact⟨rfl,.inr ⟨.inl h1,rfl,S⟩⟩
 have HE:Hid (eatP [123] (s.data.toList.drop i)=some (s.data.toList.drop (i+1))):=h1
 have S:Scan R w l (i+1):=S
 have h3:i+1<=s.size:=h3
 clear h1 HW
 go_wp2_with fail
 go_loopw [4,5] (fun nv kv wr=>∃ (k:List ByteArray) (n:List (T m)) (j d a:Nat) (na:Option Addr) (F:Nat) (u:Option Addr) (v:Nat),k.length=a/\n.length=a/\a<=j/\nv=.slice na a F/\kv=.slice u a v/\RTree R m w wr k n (.slice na a F) (.slice u a v)/\Scan R w wr j/\i<j/\j<=s.size /\
   formQ (qaH m) (d+1) k n (s.data.toList.drop j)=qfV m s i/\s.size-j<=d) (fun _ _ wr=>s.size-atS wr R)
 case atStart=>exact⟨[],[],i+1,(s.data.toList.drop (i+1)).length,0,none,0,none,0,rfl,rfl,by omega,rfl,rfl,RTree.start R m w l S.near,S,by omega,h3,rfl,by simp⟩
 case round=>
  obtain⟨k,n,j,d,a,na,F,u,v,aR,aS,bK,rfl,rfl,hF,hS,bL,hj,hG,bM⟩:=hrel
  have r:Hid (k.length=a/\n.length=a):=⟨aR,aS⟩
  have HF:Hid (RTree R m w wr k n (.slice na a F) (.slice u a v)):=hF
  have HS:Hid (Scan R w wr j):=hS
  have HG:Hid (formQ (qaH m) (d+1) k n (s.data.toList.drop j)=qfV m s i):=hG
  have HA:Hid (atS wr R=j):=hS.atS
  have HC:Hid (Calls prog 155 #[.pointer (some ⟨R,0,none⟩),.string ⟨#[125]⟩] wr _):=qdG wr R s ⟨#[125]⟩ j (hS.sc o.out) hs (by decide) hj
  clear aR aS hF hS hG S h3
  go_wp2_with fail
  refine HC.out.mono ?_
  rintro e l (⟨O,rfl,U,p3⟩|⟨O,rfl,U⟩)
  ·have HP:Hid (xdM R s i m w (.returned (.tuple #[.slice na a F,.slice u a v])) l):=by
    have U:Scan R wr l (j+1):=U
    have p3:j+1<=s.size:=p3
    have aY:=HF.out.keep Q U.near
    obtain⟨r1,r2⟩:=aY.rows (by rw[r.out.1];omega) (by rw[r.out.2];omega)
    exact .inl ⟨k,n,j+1,na,F,u,v,a,HE.out,by rw[<- HG.out];exact qsI O,by omega,p3,by omega,rfl,r1,r2,HS.out.trans U⟩
   clear O U p3 HC HF HS HG
   go_wp2_with fail
   go_ret2
   exact HP.out
  ·have O:eatP [125] (s.data.toList.drop j)=none:=O
   have D:Hid (RTree R m w l k n (.slice na a F) (.slice u a v)):=HF.out.keep Q U.near
   have A:Hid (Scan R w l j):=HS.out.trans U
   clear HF HS HC U
   have aG:Hid (∀W,qfV m s i=none->Near R w W->xdM R s i m w (.panicked refusal) W):=fun W h1 S=>.inr ⟨.inr ⟨HE.out,h1⟩,rfl,S⟩
   rcases Nat.eq_zero_or_pos a with h0|h0
   case' inl=>
    obtain⟨f,p⟩:∃f,f=j:=⟨_,rfl⟩
    have HQ:Hid (formR (qaH m) d k n (s.data.toList.drop f)=qfV m s i):=by
     show _=_
     rw[p,<- HG.out];exact (qmI O (by rw[r.out.1];exact h0)).symm
    have E:Hid (Scan R w l f):=by rw[p];exact A
    have aD:f<=s.size:=by omega
    have aZ:j<=f:=by omega
    have hd:(0<a)=False:=eq_false (by omega)
    clear h0 A HG p O
    go_wp2_with fail
    clear hd
   case' inr=>
    have HC:Hid (Calls prog 157 #[.pointer (some ⟨R,0,none⟩),.string ⟨#[44]⟩] l _):=qcW l R s ⟨#[44]⟩ j (A.out.sc o.out) hs (by decide) hj
    have hd:0<a:=h0
    go_wp2_with fail
    refine HC.out.mono ?_
    rintro e l (⟨q1,rfl,q2,q3⟩|⟨q1,rfl,q2⟩)
    case inr=>
     refine⟨rfl,aG.out l ?_ (A.out.near.trans q2)⟩
     rw[<- HG.out];exact qoO O (by rw[r.out.1];omega) q1
    obtain⟨f,p⟩:∃f,f=j+1:=⟨_,rfl⟩
    have q2:Scan R _ l (j+1):=q2
    have q3:j+1<=s.size:=q3
    have HQ:Hid (formR (qaH m) d k n (s.data.toList.drop f)=qfV m s i):=by
     show _=_
     rw[p,<- HG.out];exact (qoN O (by rw[r.out.1];omega) q1).symm
    have E:Hid (Scan R w l f):=by rw[p];exact A.out.trans q2
    have aD:f<=s.size:=by omega
    have aZ:j<=f:=by omega
    have aK:=D.out.keep Q q2.near
    clear D
    have D:Hid (RTree R m w l k n (.slice na a F) (.slice u a v)):=aK
    clear aK A HG p O q1 q2 q3 h0 HC
    go_wp2_with fail
    clear hd
   all_goals
    have HU:Hid (Calls prog 158 #[.pointer (some ⟨R,0,none⟩),.int .u8 58] l (qiX 58 l R s f)):=qmF 58 l R s f (E.out.sc o.out) hs aD
    refine HU.out.mono ?_
    rintro e w2 (⟨x,u1,rfl,u2,u3⟩|⟨u1,rfl,u2⟩)
    case inr=>exact⟨rfl,aG.out w2 (by rw[<- HQ.out];exact qwN u1) (E.out.near.trans u2)⟩
    have u2:Scan R l w2 (f+x.length):=u2
    have bA:(bs x).size<=10000:=by rw[qaL];omega
    have V:Hid (RTree R m w w2 k n (.slice na a F) (.slice u a v)):=D.out.keep Q u2.near
    have aL:Hid (Scan R w w2 (f+x.length)):=E.out.trans u2
    have X:Hid (qbQ 58 (s.data.toList.drop f)=some (x,s.data.toList.drop (f+x.length))):=u1
    have HO:Hid (w2.ownsRow w.heap.size 9 1 (.slice na a F) a (k.map .string)):=by
     have:=V.out.names
     rw[r.out.1]at this;exact this
    have bH:=V.out.near.size
    obtain⟨bD,G,H,I,J⟩:=info_parts Tryz.info_strQ
    have Y:Hid (_/\_/\_/\_):=⟨G,H,I,J⟩
    clear G H I J u1 u2 D E HU
    go_wp2_with (at_builtin;refine wpList_append_lies _ rfl (.tmp 16) (.tmp 19) 22 rfl w.heap.size 9 bD _ 1 16 underlying22 Y.out.1 Y.out.2.1 Y.out.2.2.1 Y.out.2.2.2 rfl (by decide) (.slice na a F) a (k.map .string) rfl (HO.out.alloc _) ⟨w2.heap.size,0,none⟩ 1 1 [.string (bs x)] rfl rfl (World.news_of_block (heap_alloc_new w2 _)) (by simp[Value.oneCell']) (by decide) (by unfold maxLen;omega) (by omega) (by simp;omega) (w2.heap.size+1) (by simp) ?_;intro g cap w3 K y aE aT;refine Hid.out ?_)
    refine Lib.hid ?_
    obtain⟨aB,aU,bE⟩:=V.out.name (Wa:=w2.alloc (.cells #[.string (bs x)] 9)) (one:=.cells #[.string (bs x)] 9) (x:=bs x) (g:=g) (cap:=cap) rfl ⟨rfl,rfl,rfl⟩ bA (by rw[r.out.1];exact K) y aE
    rw[r.out.1]at aB
    have aM:Hid (RTree R m w w3 (k++[bs x]) n (.slice (some ⟨g,0,none⟩) (a+1) cap) (.slice u a v)):=aB
    have aH:Hid (Scan R w w3 (f+x.length)):=aL.out.same aB.near (aU R Q)
    have aN:Hid (Calls prog 157 #[.pointer (some ⟨R,0,none⟩),.string ⟨#[58]⟩] w3 _):=qcW w3 R s ⟨#[58]⟩ (f+x.length) (aH.out.sc o.out) hs (by decide) (by omega)
    clear aB aU bE K y aE aT HO V aL
    go_wp2_with fail
    refine aN.out.mono ?_
    rintro e w4 (⟨v1,rfl,v2,v3⟩|⟨v1,rfl,v2⟩)
    case inr=>
     have v1:eatP [58] (s.data.toList.drop (f+x.length))=none:=v1
     obtain⟨r',e1,-⟩:=qdJ X.out
     rw[e1,qaE]at v1
     cases v1
    have v2:Scan R w3 w4 (f+x.length+1):=v2
    have v3:f+x.length+1<=s.size:=v3
    have aI:=aM.out.keep Q v2.near
    have aJ:Hid (RTree R m w w4 (k++[bs x]) n (.slice (some ⟨g,0,none⟩) (a+1) cap) (.slice u a v)):=aI
    have C:Hid (Scan R w w4 (f+x.length+1)):=aH.out.trans v2
    have HK:Hid (Calls prog 133 #[.pointer (some ⟨R,0,none⟩)] w4 (TRPost R s (f+x.length+1) m w4)):=HM.out.1 B R s _ w4 (HM.out.2.1.near C.out.near hBR Q) hBR (C.out.sc o.out) (HM.out.2.2.scan C.out) v3 hs (by omega)
    obtain⟨xs,L,aV⟩:=aI.kids
    have aO:Hid (∀q (h:q<n.length),_):=aV
    have Z:Hid (w4.ownsRow w.heap.size 133 1 (.slice u a v) a xs):=by
     rw[r.out.2]at L;exact L
    clear v1 v2 aI L aV aM aH aN
    go_wp2_with fail
    refine HK.out.mono ?_
    rintro e P (⟨t,q,c,y1,y2,y3,rfl,y4,y5⟩|⟨y1,rfl,y2⟩)
    case inr=>
     refine⟨rfl,aG.out P ?_ (C.out.near.trans y2)⟩
     rw[<- HQ.out]
     refine qsJ X.out ?_
     rw[List.drop_drop];exact y1
    obtain⟨zt,zx,rfl⟩:=id y4.iface
    have bI:=y5.near.size
    have bJ:=aJ.out.near.size
    have aP:Hid (P.ownsRow w.heap.size 133 1 (.slice u a v) a xs):=qbF Z.out (fun g' hg'=>by
     have:=r1_lt Z.out g' hg'
     exact y5.near.block g' this.2 (by omega))
    have HY:Hid (InnerT (fun b=>w4.heap.size<=b/\b<P.heap.size) P m t (.iface zt zx)/\Scan R w4 P q):=⟨y4,y5⟩
    have bB:Hid (formQ (qaH m) d (k++[bs x]) (n++[t]) (s.data.toList.drop q)=qfV m s i):=by
     show _=_
     rw[<- HQ.out]
     refine (qsK X.out ?_).symm
     rw[List.drop_drop];exact y1
    obtain⟨bF,G,H,I,J⟩:=info_parts Tryz.info_anyQ
    have aA:Hid (_/\_/\_/\_):=⟨G,H,I,J⟩
    clear G H I J y1 y4 y5 HK HQ X
    go_wp2_with (at_builtin;refine wpList_append_lies _ rfl (.tmp 23) (.tmp 26) 169 rfl w.heap.size 133 bF _ 1 16 underlying169 aA.out.1 aA.out.2.1 aA.out.2.2.1 aA.out.2.2.2 rfl (by decide) (.slice u a v) a xs rfl (aP.out.alloc _) ⟨P.heap.size,0,none⟩ 1 1 [.iface zt zx] rfl rfl (World.news_of_block (heap_alloc_new P _)) (by simp[Value.oneCell']) (by decide) (by unfold maxLen;omega) (by omega) (by simp;omega) (P.heap.size+1) (by simp) ?_;intro g2 M w6 N z aF aW;refine Hid.out ?_)
    refine Lib.hid ?_
    obtain⟨aC,aX,bG⟩:=aJ.out.kid (W1:=P) (Wa:=P.alloc (.cells #[.iface zt zx] 133)) (one:=.cells #[.iface zt zx] 133) (g:=g2) (cap:=M) Q HY.out.2.near HY.out.1 rfl ⟨rfl,rfl,rfl⟩ (by rw[r.out.2];exact Z.out) aO.out (by rw[r.out.2];exact N) z aF
    rw[r.out.2]at aC
    have bC:Hid (RTree R m w w6 (k++[bs x]) (n++[t]) (.slice (some ⟨g,0,none⟩) (a+1) cap) (.slice (some ⟨g2,0,none⟩) (a+1) M)):=aC
    have aQ:Hid (Scan R w w6 q):=(C.out.trans HY.out.2).same aC.near (aX R Q)
    obtain⟨f',rfl⟩:∃f',d=f'+1:=⟨d-1,by omega⟩
    clear aC aX bG N z aF aW aP Z aO aJ C HY
    go_wp2_with fail
    go_roundw
    case rel=>exact⟨k++[bs x],n++[t],q,f',a+1,some ⟨g,0,none⟩,cap,some ⟨g2,0,none⟩,M,by simp[r.out.1],by simp[r.out.2],by omega,rfl,rfl,bC.out,aQ.out,by omega,y3,bB.out,by omega⟩
    case measure=>rw[aQ.out.atS,HA.out];omega
theorem xdN (m:Nat) (hm:qgW m) (B R:Nat) (s:ByteArray) (i:Nat) (w:World) (hL:LaidU B w) (hBR:B<=R) (h:Sc w R s i) (hMe:Meth w R) (hi:i<=s.size) (hs:s.size<=10000) (hlt:s.size - i<=m) (hc:(s.data.toList.drop i).headD 0=123) :
  Calls prog 132 #[.pointer (some ⟨R,0,none⟩)] w (TRPost R s i (m+1) w):=by
 have b:Hid ((qfV m s i=none->qaH (m+1) (s.data.toList.drop i)=none)/\(∀c d r,qfV m s i=some (c,d,r)->qaH (m+1) (s.data.toList.drop i)=some ((⟨5,0,ByteArray.empty,c,d⟩:Nd (T m)),r))):=by
  have:=xjC (m:=m) hc
  rw[List.drop_drop]at this
  exact this
 have o:Hid (eatP [123] (s.data.toList.drop i)=some ((s.data.toList.drop i).drop 1)):=qjD hc (by decide)
 have g:Hid (Calls prog 159 _ _ _):=qqD m hm B R s i w hL hBR h hMe hi hs hlt
 have p:∀(fn:Fn)(first cap:Array Value)(w:World),(Instr.makeFunc fn first cap).run prog w=.ok (.func fn first cap) w:=fun _ _ _ _=>rfl
 clear h hm hL hMe hc
 go_enter func132,ntmps132
 go_wp2_with fail
 refine g.out.mono ?_
 rintro e u (⟨c,d,q,na,v,x,y,j,-,a,f,z,-,rfl,k,l,n⟩|⟨a,rfl,f⟩)
 case inr=>
  refine⟨rfl,.inr ⟨?_,rfl,f⟩⟩
  rcases a with a|⟨-,a⟩
  ·rw[o.out]at a;cases a
  ·exact b.out.1 a
 have t:Hid (TRPost R s i (m+1) w (.returned (.iface 173 (.agg #[.slice na j v,.slice x j y]))) u):=
  .inl ⟨_,q,_,b.out.2 c d _ a,f,z,rfl,.inr (.inr (.inr (.inr (.inl ⟨rfl,_,_,rfl,k,l⟩)))),n⟩
 clear a k l n g
 go_wp2_with fail
 go_ret
 exact t.out
end Go.Proofs.YtelogmjfekhmpaaGreatDoor
