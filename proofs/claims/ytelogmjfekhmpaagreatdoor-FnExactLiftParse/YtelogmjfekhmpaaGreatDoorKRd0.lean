import Derived.Test.YtelogmjfekhmpaaGreatDoorKRdP
import Derived.Test.YtelogmjfekhmpaaGreatDoorKMany0
namespace Go.Proofs.YtelogmjfekhmpaaGreatDoor
set_option maxRecDepth 100000
set_option maxHeartbeats 16000000
open Go.RowKit
def qbD (m n:Nat) (w:World) (R:Nat) (s:ByteArray) (i:Nat) (bad:Bool) (e:Ending) (w':World):Prop:=
 Near R w w' /\ ∃ (t:K m) (c0 c1 c2:Value) (i':Nat) (bad':Bool),e=.returned (.agg #[c0,c1,c2])/\KindIn (fun b=>w.heap.size<=b/\b<w'.heap.size) w' m t c0 c1 c2/\RdS w' R s i' bad' /\ GotK m n s i bad t i' bad'
def qfM (n:Nat):Prop:=∀ (m R:Nat) (s:ByteArray) (i:Nat) (bad:Bool) (w:World),n+1<=m->RdS w R s i bad->s.size<=10000->(bad=false->i<=s.size)->i<=20000 ->
 Calls Tryz.prog 41 #[.pointer (some ⟨R,0,none⟩),.int .i64 (7 - (n:Int))] w (qbD m n w R s i bad)
theorem qgL {m n R i i':Nat} {s:ByteArray} {bad bad':Bool} {w W:World} {t:K m} {g0 g1 g2:Value} (hn:Near R w W) (hR:R<w.heap.size) (hr:RdS W R s i' bad') (hk:KindIn (fun b=>w.heap.size+1<=b/\b<W.heap.size) W m t g0 g1 g2) (hg:GotK m n s i bad t i' bad') :
  qbD m n w R s i bad (.returned (.agg #[g0,g1,g2])) (put3 W w.heap.size 0 g0 g1 g2):=by
 have q:∀ b,b≠w.heap.size->(put3 W w.heap.size 0 g0 g1 g2).heap[b]?=W.heap[b]?:=fun b h=>qcX h
 have hz:(put3 W w.heap.size 0 g0 g1 g2).heap.size=W.heap.size:=qfI
 exact⟨⟨hn.os,hn.tape,hn.output,by rw[hz];exact hn.size,fun b hb hne=>(q b (by omega)).trans (hn.block b hb hne)⟩,t,_,_,_,i',bad',rfl,hk.keep (fun b hb=>q b (by omega)) (fun b hb=>⟨by omega,by rw[hz];exact hb.2⟩),(q R (by omega)).trans hr,hg⟩
def leftRK (w:World) (R:Nat) (H:Nat):Nat:=match w.cell? ⟨R,2,none⟩ with|some (.bool true)=>0|_=>H+1 - atOf w R
theorem RdS.leftRK {w:World} {R:Nat} {s:ByteArray} {i:Nat} {b:Bool} (h:RdS w R s i b) (H:Nat):leftRK w R H=if b=true then 0 else H+1 - i:=by
 unfold Go.Proofs.YtelogmjfekhmpaaGreatDoor.leftRK
 rw[h.cell2,h.atOf]
 cases b <;> simp
theorem qwZ {s:ByteArray} {i:Nat} {c:UInt8} (h:lookB s i=c) (hc:c≠0):eatP [c] (s.data.toList.drop i)=some (s.data.toList.drop (i+1))/\i<s.size:=by
 have aA:i<s.size:=Classical.byContradiction fun hge=>hc (by rw[<- h];exact qbW s i (by omega))
 have hl:i<s.data.toList.length:=by simpa using aA
 refine⟨?_,aA⟩
 have e:s.data.toList.drop i=c :: s.data.toList.drop (i+1):=by
  rw[List.drop_eq_getElem_cons hl]
  congr 1
  rw[<- h,qeU s i aA];simp[ByteArray.getElem_eq_getElem_data]
 rw[e,qaE]
theorem xjJ (w:World) (R:Nat) (s x:ByteArray) (i:Nat) (bad:Bool) (h:RdS w R s i bad) (hx:x.size<=100) (hi:s.size<i+x.size) (hi2:i<=20000) :
  Calls Tryz.prog 57 #[.pointer (some ⟨R,0,none⟩),.string x] w fun e w'=>e=.returned (.tuple #[])/\Near R w w' /\ RdS w' R s i true:=by
 have c0:=h.cell0
 have c1:=h.cell1
 have c2:=h.cell2
 have f2:=h.free 2
 have g2:∀ m,RdS ((w.drewN m).setCell ⟨R,2,none⟩ (.bool true)) R s i true:=fun m=>(h.drewN m).set2 true
 have n2:∀ m,Near R w ((w.drewN m).setCell ⟨R,2,none⟩ (.bool true)):=fun m=>((Near.refl R w).drewN m).trans (Near.set R 2 _ _)
 have HG:Hid ((∀ m,RdS _ _ _ _ _)/\(∀ m,Near _ _ _)):=⟨g2,n2⟩
 clear h g2 n2
 have hw:IntKind.i64.wrap ((i:Int)+(x.size:Int))=(i:Int)+(x.size:Int):=by rw[IntKind.wrap_i64];omega
 have hd:decide ((s.size:Int)<(i:Int)+(x.size:Int))=true:=by simp;omega
 go_enter Tryz.func57,Tryz.ntmps57
 go_wp2
 go_quiet (fail)
 go_wp2
 refine bodyPost_ret (results_none rfl _ _ _) rfl ?_
 exact⟨rfl,HG.out.2 _,HG.out.1 _⟩
theorem qzB {R X m B:Nat} {w wr W:World} {ns:List ByteArray} {ks:List (K m)} {nv kv:Value} (h:ManyK R X m w wr 5 ns ks nv kv) (hW:∀ b,X<b->W.heap[b]?=wr.heap[b]?) (hz:wr.heap.size<=W.heap.size) (hl:ns.length<=20000) (hk:ks.length<=20000) (hB:B<=X) :
  KindIn (fun b=>B<=b/\b<W.heap.size) W (m+1) (⟨5,ns,ks⟩:Kd (K m)) (.int .i64 5) nv kv:=by
 obtain⟨xs,aC,aD⟩:=h.kids
 have aA:=r1_lt h.names
 have aB:=r1_lt aC
 refine⟨rfl,rfl,?_,?_⟩
 ·refine qdZ (qbG h.names fun g hg=>hW g (by have:=aA g hg;omega)) hl h.short fun g hg=>?_
  have:=aA g hg
  exact⟨by omega,by omega⟩
 ·refine qgX (qbG aC fun g hg=>hW g (by have:=aB g hg;omega)) hk (fun g hg=>?_) fun j hj=>?_
  ·have:=aB g hg
   exact⟨by omega,by omega⟩
  ·obtain⟨c0,c1,c2,hd,aE⟩:=aD j hj
   refine⟨c0,c1,c2,hd,aE.keep (fun b hb=>hW b (by have:=hb.1;omega)) (fun b hb=>?_)⟩
   have h1:=hb.1
   have h2:=hb.2.1
   exact⟨by omega,by omega⟩
theorem ManyK.start {R m:Nat} {w:World}:ManyK R w.heap.size m w (w.alloc (.cells #[.int .i64 5,.slice none 0 0,.slice none 0 0] 55)) 5 [] [] (.slice none 0 0) (.slice none 0 0):=
 ⟨Near.alloc _ _ _,heap_alloc_new _ _,World.ownsRow_nil _ _ _ _,fun _ h=>(by cases h),⟨[],World.ownsRow_nil _ _ _ _,fun j h=>absurd h (Nat.not_lt_zero _)⟩,fun b hb=>by cases hb⟩
theorem qxA {R X k z:Nat} {e:TypeId} {v:Value} {xs:List Value} {W w2:World} (h:W.ownsRow (X+1) e z v k xs) (hRX:R<X) (hn:Near R W w2) (o:Obj):(w2.alloc o).ownsRow (X+1) e z v k xs:=
 qbG h fun g hg=>by
  have h1:=r1_lt h g hg
  have h2:=hn.size
  rw[Below.heap_alloc _ _ _ (by omega)]
  exact hn.block g h1.2 (by omega)
theorem qsZ {R X k z:Nat} {e:TypeId} {v u:Value} {xs:List Value} {W w2 w3:World} {o:Obj} {s:ByteArray} {j:Int} {b:Bool} {q:Nat} (hr:RdS w2 R s j b) (h:W.ownsRow (X+1) e z v k xs) (hRX:R<X) (hg:(w2.alloc o).grownBy w3 v.ownBlock) :
  RdS (w3.setCell ⟨X,q,none⟩ u) R s j b:=by
 have hl:=hr.lt
 unfold RdS at hr ⊢
 rw[Below.heap_setCell _ _ _ _ (by show R≠X;omega),hg.block R (by simp;omega) (fun e=>by have:=r1_lt h R e.symm;omega),Below.heap_alloc _ _ _ hl]
 exact hr
theorem qoX {R X k z:Nat} {e:TypeId} {v:Value} {xs:List Value} {W w2 w3:World} {o:Obj} (h:W.ownsRow (X+1) e z v k xs) (hX:X<W.heap.size) (hRX:R<X) (hn:Near R W w2) (hg:(w2.alloc o).grownBy w3 v.ownBlock):w3.heap[X]?=W.heap[X]?:=by
 have hl:=hn.size
 rw[hg.block X (by simp;omega) (fun e=>by have:=r1_lt h X e.symm;omega),Below.heap_alloc _ _ _ (by omega)]
 exact hn.block X hX (by omega)
end Go.Proofs.YtelogmjfekhmpaaGreatDoor
