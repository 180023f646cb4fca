import Derived.Test.YtelogmjfekhmpaaGreatDoorB16
import Derived.Test.YtelogmjfekhmpaaGreatDoorB1
import Derived.Test.YtelogmjfekhmpaaGreatDoorB22
import Derived.BigQuiet
import Derived.Test.YtelogmjfekhmpaaGreatDoorB4
import Derived.Test.YtelogmjfekhmpaaGreatDoorB17
namespace Go.Proofs.YtelogmjfekhmpaaGreatDoor
open Go.RowKit Go.Proofs.Tryz
theorem Book.lt{w:World}{b:Nat}(h:Book w b):b<w.heap.size:=by
 have:=(h 0 (by omega)).1
 exact Classical.byContradiction fun hge=>by
  have a:w.heap[b]?=none:=Array.getElem?_eq_none (by omega)
  simp[World.cell?,a]at this
theorem qwQ(S:Nat->Prop)(w:World)(x v:Int)(tx:ByteArray)(hx:(Lit.int .i64 x).wf=true)(hv:(Lit.int .i64 v).wf=true)(ht:tx.size<=maxLen):TreeIn S w 1 (leafT x v tx) (.int .i64 x) (.int .i64 v) (.string tx) (.slice none 0 0) (.slice none 0 0):=
 ⟨rfl,rfl,rfl,ht,hx,hv,⟨none,0,rfl,by simp[maxLen,leafT],fun s hs=>by simp[leafT]at hs,fun h=>absurd rfl h⟩,⟨none,0,rfl,by simp[maxLen,leafT],fun h=>absurd rfl h⟩⟩
theorem xiZ(x v:Int)(tx:ByteArray):okT 1 (leafT x v tx)=qaO x v tx [] 0:=by
 have a:goodT 1 (leafT x v tx) 1=qaO x v tx [] 0:=by
  show (decide ((1:Int)<=6) && qaO x v tx [] 0 && List.all ([]:List (T 0)) _)=_
  simp
 have b:cntT 1 (leafT x v tx)=1:=rfl
 unfold okT
 rw[a,b];simp
set_option maxRecDepth 100000
set_option maxHeartbeats 16000000
def qbC(m n:Nat)(w:World)(R:Nat)(s:ByteArray)(i:Nat)(bad:Bool)(e:Ending)(w':World):Prop:=
 Near R w w' /\ ∃(t:K m)(c0 c1 c2:Value)(i':Nat)(bad':Bool),e=.returned (.agg #[c0,c1,c2])/\KindIn (fun b=>w.heap.size<=b/\b<w'.heap.size) w' m t c0 c1 c2/\RdS w' R s i' bad' /\ GotK m n s i bad t i' bad'
def qfK(n:Nat):Prop:=∀(m R:Nat)(s:ByteArray)(i:Nat)(bad:Bool)(w:World),n+1<=m->RdS w R s i bad->s.size<=10000->(bad=false->i<=s.size)->i<=20000 ->
 Calls prog 41 #[.pointer (some ⟨R,0,none⟩),.int .i64 (7-(n:Int))] w (qbC m n w R s i bad)
theorem qgI {m n R i i':Nat} {s:ByteArray} {bad bad':Bool} {w W:World} {t:K m} {g0 g1 g2:Value} (hn:Near R w W) (hR:R<w.heap.size) (hr:RdS W R s i' bad') (hk:KindIn (fun b=>w.heap.size+1<=b/\b<W.heap.size) W m t g0 g1 g2) (hg:GotK m n s i bad t i' bad') :
  qbC m n w R s i bad (.returned (.agg #[g0,g1,g2])) (put3 W w.heap.size 0 g0 g1 g2):=by
 have q:∀b,b≠w.heap.size->(put3 W w.heap.size 0 g0 g1 g2).heap[b]?=W.heap[b]?:=fun b h=>qcV h
 have a:(put3 W w.heap.size 0 g0 g1 g2).heap.size=W.heap.size:=qfG
 exact⟨⟨hn.os,hn.tape,hn.output,by rw[a];exact hn.size,fun b hb hne=>(q b (by omega)).trans (hn.block b hb hne)⟩,t,_,_,_,i',bad',rfl,hk.keep (fun b hb=>q b (by omega)) (fun b hb=>⟨by omega,by rw[a];exact hb.2⟩),(q R (by omega)).trans hr,hg⟩
def leftRK(w:World)(R:Nat)(H:Nat):Nat:=match w.cell? ⟨R,2,none⟩ with|some (.bool true)=>0|_=>H+1-atOf w R
theorem RdS.leftRK{w:World}{R:Nat}{s:ByteArray}{i:Nat}{b:Bool}(h:RdS w R s i b)(H:Nat):leftRK w R H=if b=true then 0 else H+1-i:=by
 unfold Go.Proofs.YtelogmjfekhmpaaGreatDoor.leftRK
 rw[h.cell2,h.atOf]
 cases b<;>simp
theorem qwZ{s:ByteArray}{i:Nat}{c:UInt8}(h:lookB s i=c)(hc:c≠0):eatP [c] (s.data.toList.drop i)=some (s.data.toList.drop (i+1))/\i<s.size:=by
 have a:i<s.size:=Classical.byContradiction fun hge=>hc (by rw[<- h];exact qbU s i (by omega))
 have b:i<s.data.toList.length:=by simpa using a
 refine⟨?_,a⟩
 have e:s.data.toList.drop i=c :: s.data.toList.drop (i+1):=by
  rw[List.drop_eq_getElem_cons b]
  congr 1
  rw[<- h,qeR s i a];simp[ByteArray.getElem_eq_getElem_data]
 rw[e,qaE]
theorem xjK (w:World) (R:Nat) (s x:ByteArray) (i:Nat) (bad:Bool) (h:RdS w R s i bad) (hx:x.size<=100) (hi:s.size<i+x.size) (hi2:i<=20000) :
  Calls prog 57 #[.pointer (some ⟨R,0,none⟩),.string x] w fun e w'=>e=.returned (.tuple #[])/\Near R w w' /\ RdS w' R s i true:=by
 have c0:=h.cell0
 have c1:=h.cell1
 have c2:=h.cell2
 have d:=h.free 2
 have a:∀m,RdS ((w.drewN m).setCell ⟨R,2,none⟩ (.bool true)) R s i true:=fun m=>(h.drewN m).set2 true
 have b:∀m,Near R w ((w.drewN m).setCell ⟨R,2,none⟩ (.bool true)):=fun m=>((Near.refl R w).drewN m).trans (Near.set R 2 _ _)
 have c:Hid ((∀m,RdS _ _ _ _ _)/\(∀m,Near _ _ _)):=⟨a,b⟩
 clear h a b
 have f:IntKind.i64.wrap ((i:Int)+(x.size:Int))=(i:Int)+(x.size:Int):=by rw[IntKind.wrap_i64];omega
 have g:decide ((s.size:Int)<(i:Int)+(x.size:Int))=true:=by simp;omega
 go_enter func57,ntmps57
 go_wp2
 go_quiet (fail)
 go_wp2
 refine bodyPost_ret (results_none rfl _ _ _) rfl ?_
 exact⟨rfl,c.out.2 _,c.out.1 _⟩
theorem qzB {R X m B:Nat} {w wr W:World} {ns:List ByteArray} {ks:List (K m)} {nv kv:Value} (h:ManyK R X m w wr 5 ns ks nv kv) (hW:∀ b,X<b->W.heap[b]?=wr.heap[b]?) (hz:wr.heap.size<=W.heap.size) (hl:ns.length<=20000) (hk:ks.length<=20000) (hB:B<=X) :
  KindIn (fun b=>B<=b/\b<W.heap.size) W (m+1) (⟨5,ns,ks⟩:Kd (K m)) (.int .i64 5) nv kv:=by
 obtain⟨xs,e,f⟩:=h.kids
 have c:=r1_lt h.names
 have d:=r1_lt e
 refine⟨rfl,rfl,?_,?_⟩
 ·refine qdW (qbF h.names fun g hg=>hW g (by have:=c g hg;omega)) hl h.short fun g hg=>?_
  have:=c g hg
  exact⟨by omega,by omega⟩
 ·refine qgV (qbF e fun g hg=>hW g (by have:=d g hg;omega)) hk (fun g hg=>?_) fun j hj=>?_
  ·have:=d g hg
   exact⟨by omega,by omega⟩
  ·obtain⟨c0,c1,c2,k,i⟩:=f j hj
   refine⟨c0,c1,c2,k,i.keep (fun b hb=>hW b (by have:=hb.1;omega)) (fun b hb=>?_)⟩
   have l:=hb.1
   have n:=hb.2.1
   exact⟨by omega,by omega⟩
theorem ManyK.start{R m:Nat}{w:World}:ManyK R w.heap.size m w (w.alloc (.cells #[.int .i64 5,.slice none 0 0,.slice none 0 0] 55)) 5 [] [] (.slice none 0 0) (.slice none 0 0):=
 ⟨Near.alloc _ _ _,heap_alloc_new _ _,World.ownsRow_nil _ _ _ _,fun _ h=>(by cases h),⟨[],World.ownsRow_nil _ _ _ _,fun j h=>absurd h (Nat.not_lt_zero _)⟩,fun b hb=>by cases hb⟩
theorem qxA{R X k z:Nat}{e:TypeId}{v:Value}{xs:List Value}{W w2:World}(h:W.ownsRow (X+1) e z v k xs)(hRX:R<X)(hn:Near R W w2)(o:Obj):(w2.alloc o).ownsRow (X+1) e z v k xs:=
 qbF h fun g hg=>by
  have h1:=r1_lt h g hg
  have h2:=hn.size
  rw[Below.heap_alloc _ _ _ (by omega)]
  exact hn.block g h1.2 (by omega)
theorem qsZ {R X k z:Nat} {e:TypeId} {v u:Value} {xs:List Value} {W w2 w3:World} {o:Obj} {s:ByteArray} {j:Int} {b:Bool} {q:Nat} (hr:RdS w2 R s j b) (h:W.ownsRow (X+1) e z v k xs) (hRX:R<X) (hg:(w2.alloc o).grownBy w3 v.ownBlock) :
  RdS (w3.setCell ⟨X,q,none⟩ u) R s j b:=by
 have a:=hr.lt
 unfold RdS at hr ⊢
 rw[Below.heap_setCell _ _ _ _ (by show R≠X;omega),hg.block R (by simp;omega) (fun e=>by have:=r1_lt h R e.symm;omega),Below.heap_alloc _ _ _ a]
 exact hr
theorem qoX{R X k z:Nat}{e:TypeId}{v:Value}{xs:List Value}{W w2 w3:World}{o:Obj}(h:W.ownsRow (X+1) e z v k xs)(hX:X<W.heap.size)(hRX:R<X)(hn:Near R W w2)(hg:(w2.alloc o).grownBy w3 v.ownBlock):w3.heap[X]?=W.heap[X]?:=by
 have a:=hn.size
 rw[hg.block X (by simp;omega) (fun e=>by have:=r1_lt h X e.symm;omega),Below.heap_alloc _ _ _ (by omega)]
 exact hn.block X hX (by omega)
end Go.Proofs.YtelogmjfekhmpaaGreatDoor
