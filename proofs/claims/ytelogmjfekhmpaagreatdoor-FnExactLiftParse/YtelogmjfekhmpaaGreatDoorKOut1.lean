import Derived.Test.YtelogmjfekhmpaaGreatDoorKOut0
import Derived.Test.YtelogmjfekhmpaaGreatDoorKForm0
import Derived.Test.YtelogmjfekhmpaaGreatDoorCopyN
namespace Go.Proofs.YtelogmjfekhmpaaGreatDoor
open Go.RowKit
def spKL:(n:Nat)->K n->Nat
 | 0,_=>0
 | n+1,t=>(Kd.names t).length+sumL (fun k=>1+spKL n k) (Kd.kids t)
structure KOutLoop (X n:Nat) (ks:List (K n)) (s:Int) (nv:Value) (w1:World) (k:Nat) (v:Value) (wr:World):Prop where
 near:Near X w1 wr
 box:wr.heap[X]?=some (.cells #[.int .i64 s,nv,v] 55 (0,0))
 row:∃ xs Ps,wr.ownsRow w1.heap.size 55 3 v k xs/\Ps.length=k/\qlH (fun b=>w1.heap.size<=b/\b<wr.heap.size/\v.ownBlock≠some b) wr n ks xs Ps/\Ps.flatten.length+k=sumL (fun x=>1+spKL n x) (ks.take k)
theorem xcN {X n:Nat} {ks:List (K n)} {s:Int} {nv:Value} {w1 wr W w2 w3:World} {k g cap:Nat} {v:Value} {xs:List Value} {Ps:List (List Spot)} {one:Obj} {c0 c1 c2:Value} {L3 L4:List Spot} (h:Near X w1 wr) (hX:X<w1.heap.size)
  (hbox:wr.heap[X]?=some (.cells #[.int .i64 s,nv,v] 55 (0,0))) (hk:k<ks.length)
  (hown:wr.ownsRow w1.heap.size 55 3 v k xs) (hpl:Ps.length=k) (hko:qlH (fun b=>w1.heap.size<=b/\b<wr.heap.size/\v.ownBlock≠some b) wr n ks xs Ps) (hln:Ps.flatten.length+k=sumL (fun x=>1+spKL n x) (ks.take k))
  (hW:W.heap=wr.heap) (hWo:W.os=wr.os/\W.tape=wr.tape/\W.output=wr.output)
  (hb2:Below W.heap.size W w2) (hin:KindIn (fun b=>wr.heap.size<=b/\b<w2.heap.size) w2 n ks[k] c0 c1 c2) (h3:SpN w2 c1 L3) (h4:SpK w2 (n - 1) c2 L4) (ho:Own (fun b=>wr.heap.size<=b/\b<w2.heap.size) (L3++L4)) (hl:(L3++L4).length=spKL n ks[k])
  (hown':w3.ownsRow w1.heap.size 55 3 (.slice (some ⟨g,0,none⟩) (k+1) cap) (k+1) (xs++[c0,c1,c2])) (hgrow:(w2.alloc one).grownBy w3 v.ownBlock) (hat:v.ownBlock=some g∨g=w2.heap.size+1) :
  KOutLoop X n ks s nv w1 (k+1) (.slice (some ⟨g,0,none⟩) (k+1) cap) (w3.setCell ⟨X,2,none⟩ (.slice (some ⟨g,0,none⟩) (k+1) cap)):=by
 have aJ:=hb2.size
 have aK:=hgrow.size
 have aQ:=h.size
 simp at aK
 rw[hW]at aJ
 have aF:∀ b,v.ownBlock=some b->w1.heap.size<=b/\b<wr.heap.size:=r1_lt hown
 have aL:xs.length=k*3:=hown.1
 have q3:∀ b,b<w2.heap.size->v.ownBlock≠some b->w3.heap[b]?=w2.heap[b]?:=fun b hb hne=>by
  rw[hgrow.block b (by simp;omega) (fun e=>hne e.symm),Below.heap_alloc _ _ _ hb]
 have q2:∀ b,b<wr.heap.size->v.ownBlock≠some b->w3.heap[b]?=wr.heap[b]?:=fun b hb hno=>by
  rw[q3 b (by omega) hno,hb2.block b (by rw[hW];exact hb),hW]
 have qs:∀ b,b≠X->(w3.setCell ⟨X,2,none⟩ (.slice (some ⟨g,0,none⟩) (k+1) cap)).heap[b]?=w3.heap[b]?:=fun b hb=>Below.heap_setCell _ _ _ _ hb
 have aB:(w3.setCell ⟨X,2,none⟩ (.slice (some ⟨g,0,none⟩) (k+1) cap)).heap.size=w3.heap.size:=by simp
 have aM:v.ownBlock≠some X:=fun e=>by have:=aF X e;omega
 have aC:=(q2 X (by omega) aM).trans hbox
 have aA:∀ b,v.ownBlock≠some b->b<w2.heap.size->(Value.slice (some ⟨g,0,none⟩) (k+1) cap).ownBlock≠some b:=by
  intro b h1 h2 e
  have e:g=b:=by simpa [Value.ownBlock] using e
  rcases hat with h3|h3
  ·exact h1 (by rw[h3,e])
  ·omega
 have aE:∀ b,wr.heap.size<=b->v.ownBlock≠some b:=fun b h1 e=>by have:=aF b e;omega
 have aR:=r1_lt hown' g rfl
 refine⟨⟨?_,?_,?_,by rw[aB];omega,fun b hb hne=>?_⟩,?_,xs++[c0,c1,c2],Ps++[L3++L4],qbG hown' fun g' hg'=>qs g' (by have:=r1_lt hown' g' hg';omega),by simp[hpl],⟨?_,fun j hj hp=>?_⟩,?_⟩
 ·show w3.os=w1.os
  rw[hgrow.os];exact hb2.os.trans (hWo.1.trans h.os)
 ·show w3.tape=w1.tape
  rw[hgrow.tape];exact hb2.tape.trans (hWo.2.1.trans h.tape)
 ·show w3.output=w1.output
  rw[hgrow.output];exact hb2.output.trans (hWo.2.2.trans h.output)
 ·rw[qs b hne,q2 b (by omega) (fun e=>by have:=aF b e;omega)];exact h.block b hb hne
 ·simp[World.setCell,Array.getElem?_modify,aC]
 ·rw[List.flatten_append,List.flatten_singleton]
  refine hko.1.app ho (fun b hb=>⟨hb.1,by rw[aB];omega,aA b hb.2.2 (by omega)⟩) (fun b hb=>⟨by omega,by rw[aB];omega,aA b (aE b hb.1) hb.2⟩) (fun b h1 h2=>by omega)
 ·by_cases hjk:j<k
  ·have aG:j<Ps.length:=by omega
   obtain⟨d0,d1,d2,K3,K4,hd,aI,aN,aO,aP⟩:=hko.2 j hj aG
   have aD:∀ s,s∈K3++K4->(w3.setCell ⟨X,2,none⟩ (.slice (some ⟨g,0,none⟩) (k+1) cap)).heap[s.b]?=wr.heap[s.b]?:=fun s hs=>by
    have:=hko.1.1 s (List.mem_flatten.2 ⟨_,List.getElem_mem aG,by rw[aI];exact hs⟩)
    rw[qs s.b (by have:=this.1;omega)]
    exact q2 s.b this.2.1 this.2.2
   refine⟨d0,d1,d2,K3,K4,?_,by rw[List.getElem_append_left aG];exact aI,aN.keep (fun b hb=>by rw[qs b (by have:=hb.1;omega)];exact q2 b hb.2.1 hb.2.2) (fun b hb=>⟨hb.1,by rw[aB];have:=hb.2.1;omega,aA b hb.2.2 (by have:=hb.2.1;omega)⟩),
    aO.same (fun s hs=>aD s (List.mem_append_left _ hs)),aP.same (fun s hs=>aD s (List.mem_append_right _ hs))⟩
   rw[List.getElem?_append_left (by omega),List.getElem?_append_left (by omega),List.getElem?_append_left (by omega)]
   exact hd
  ·have aH:j=k:=by simp at hp;omega
   subst aH
   have aD:∀ s,s∈L3++L4->(w3.setCell ⟨X,2,none⟩ (.slice (some ⟨g,0,none⟩) (j+1) cap)).heap[s.b]?=w2.heap[s.b]?:=fun s hs=>by
    have:=ho.1 s hs
    rw[qs s.b (by omega)]
    exact q3 s.b this.2 (aE _ this.1)
   refine⟨c0,c1,c2,L3,L4,?_,by simp[<- hpl],hin.keep (fun b hb=>by rw[qs b (by omega)];exact q3 b hb.2 (aE b hb.1)) (fun b hb=>⟨by have:=hb.1;omega,by rw[aB];have:=hb.2;omega,aA b (aE b hb.1) hb.2⟩),
    h3.same (fun s hs=>aD s (List.mem_append_left _ hs)),h4.same (fun s hs=>aD s (List.mem_append_right _ hs))⟩
   rw[List.getElem?_append_right (by omega),List.getElem?_append_right (by omega),List.getElem?_append_right (by omega),aL,
    Nat.sub_self,show j*3+1 - j*3=1 by omega,show j*3+2 - j*3=2 by omega]
   exact⟨rfl,rfl,rfl⟩
 ·rw[List.take_succ_eq_append_getElem hk,qsE,<- hln,List.flatten_append,List.flatten_singleton,List.length_append,hl];omega
end Go.Proofs.YtelogmjfekhmpaaGreatDoor
