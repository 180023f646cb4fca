import Derived.Test.YtelogmjfekhmpaaGreatDoorUp
import Derived.Test.YtelogmjfekhmpaaGreatDoorMany0
import Derived.Test.YtelogmjfekhmpaaGreatDoorManyS
namespace Go.Proofs.YtelogmjfekhmpaaGreatDoor
open Go.RowKit
theorem qwC {R n:Nat} {w Wb wr:World} {so:Int} {ns:List ByteArray} {ks:List (T n)} {nv kv:Value} {s:ByteArray} {i':Nat} {b:Bool} (h:Many R (w.heap.size+1) n Wb wr so ns ks nv kv) (hR:R<w.heap.size) (hwb:Near R w Wb)
  (hbs:Wb.heap.size=w.heap.size+1) (hr:RdS wr R s i' b) (hso:(Lit.int .i64 so).wf=true) (hns:ns.length<=20000) (hks:ks.length<=20000) :
  Near R w (put5 (wr.setCell ⟨R,1,none⟩ (.int .i64 ((i':Int)+1))) w.heap.size 0 (.int .i64 so) (.int .i64 0) (.string ByteArray.empty) nv kv) /\
  RdS (put5 (wr.setCell ⟨R,1,none⟩ (.int .i64 ((i':Int)+1))) w.heap.size 0 (.int .i64 so) (.int .i64 0) (.string ByteArray.empty) nv kv) R s ((i'+1:Nat):Int) b /\
  TreeIn (fun b=>w.heap.size<=b/\b<(put5 (wr.setCell ⟨R,1,none⟩ (.int .i64 ((i':Int)+1))) w.heap.size 0 (.int .i64 so) (.int .i64 0) (.string ByteArray.empty) nv kv).heap.size)
   (put5 (wr.setCell ⟨R,1,none⟩ (.int .i64 ((i':Int)+1))) w.heap.size 0 (.int .i64 so) (.int .i64 0) (.string ByteArray.empty) nv kv) (n+1) (⟨so,0,ByteArray.empty,ns,ks⟩:Nd (T n)) (.int .i64 so) (.int .i64 0) (.string ByteArray.empty) nv kv:=by
 have hX:=h.lt
 have hz:=h.near.size
 generalize hWf:put5 (wr.setCell ⟨R,1,none⟩ (.int .i64 ((i':Int)+1))) w.heap.size 0 (.int .i64 so) (.int .i64 0) (.string ByteArray.empty) nv kv=Wf
 have aC:Wf.heap.size=wr.heap.size:=by rw[<- hWf,qbQ];simp
 have q:∀ b,b≠R->b≠w.heap.size->Wf.heap[b]?=wr.heap[b]?:=fun b h1 h2=>by rw[<- hWf,qaS h2,Below.heap_setCell _ _ _ _ h1]
 have aA:Below 0 wr Wf:=by
  rw[<- hWf]
  exact qaZ ((Below.refl 0 wr).setCell (Nat.zero_le _) _) (Nat.zero_le _)
 obtain⟨xs,aB,hk⟩:=h.kids
 refine⟨⟨?_,?_,?_,by omega,fun b hb hne=>?_⟩,?_,?_⟩
 ·rw[aA.os];exact h.near.os.trans hwb.os
 ·rw[aA.tape];exact h.near.tape.trans hwb.tape
 ·rw[aA.output];exact h.near.output.trans hwb.output
 ·rw[q b hne (by omega)]
  exact (h.near.block b (by omega) hne).trans (hwb.block b hb hne)
 ·have:=hr.set1 ((i':Int)+1)
  unfold RdS at this ⊢
  rw[<- hWf,qaS (by omega)]
  exact this
 ·refine⟨rfl,rfl,rfl,by simp[maxLen],hso,(by rfl:(Lit.int .i64 0).wf=true),?_,?_⟩
  ·refine qcR (qaL h.names fun g hg=>?_) hns h.short fun g hg=>?_
   ·have:=qaF h.names g hg
    exact q g (by omega) (by omega)
   ·have:=qaF h.names g hg
    exact⟨by omega,by omega⟩
  ·refine qlT (qaL aB fun g hg=>?_) hks (fun g hg=>?_) fun j hj=>?_
   ·have:=qaF aB g hg
    exact q g (by omega) (by omega)
   ·have:=qaF aB g hg
    exact⟨by omega,by omega⟩
   ·obtain⟨c0,c1,c2,c3,c4,hc,ht⟩:=hk j hj
    refine⟨c0,c1,c2,c3,c4,hc,ht.keep (fun b hb=>?_) (fun b hb=>?_)⟩
    ·have:=hb.1
     exact q b (by omega) (by omega)
    ·have:=hb.1
     have:=hb.2.1
     exact⟨by omega,by omega⟩
end Go.Proofs.YtelogmjfekhmpaaGreatDoor
