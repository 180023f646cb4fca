import Derived.Test.YtelogmjfekhmpaaGreatDoorMany0
namespace Go.Proofs.YtelogmjfekhmpaaGreatDoor
open Go.RowKit
theorem qcR {S:Nat->Prop} {w:World} {M:Nat} {e:TypeId} {v:Value} {l:List ByteArray} (h:w.ownsRow M e 1 v l.length (l.map .string)) (hl:l.length<=20000) (hs:∀ s,s∈l->s.size<=10000) (hS:∀ g,v.ownBlock=some g->S g):StrsIn S w l v:=by
 have hm:∀ s,s∈l->s.size<=maxLen:=fun s h=>by have:=hs s h;unfold maxLen;omega
 have aA:l.length<=maxLen:=by unfold maxLen;omega
 rcases id h.2 with ⟨rfl,h0⟩|⟨g,cap,cur,rfl,aC,hg,aD,aE,aF,aB⟩
 ·exact⟨none,0,by rw[h0],aA,hm,fun hne=>absurd (List.eq_nil_of_length_eq_zero h0) hne⟩
 ·refine⟨_,_,rfl,aA,hm,fun _=>⟨g,0,rfl,hS g rfl,fun i hi=>?_⟩⟩
  have:=h.cells (g:=g) rfl i (.string l[i]) (by simp[hi])
  rw[Addr.add_lit]at this
  simpa using this
theorem qlT {S:Nat->Prop} {n:Nat} {w:World} {M:Nat} {e:TypeId} {v:Value} {l:List (T n)} {xs:List Value} (h:w.ownsRow M e 5 v l.length xs) (hl:l.length<=20000) (hS:∀ g,v.ownBlock=some g->S g)
  (hk:∀ j (h:j<l.length),∃ c0 c1 c2 c3 c4,(xs[j*5]?=some c0/\xs[j*5+1]?=some c1/\xs[j*5+2]?=some c2/\xs[j*5+3]?=some c3/\xs[j*5+4]?=some c4)/\TreeIn S w n l[j] c0 c1 c2 c3 c4):RowIn S w (TreeIn S w n) l v:=by
 have aA:l.length<=maxLen:=by unfold maxLen;omega
 rcases id h.2 with ⟨rfl,h0⟩|⟨g,cap,cur,rfl,aC,hg,aD,aE,aF,aB⟩
 ·exact⟨none,0,by rw[h0],aA,fun hne=>absurd (List.eq_nil_of_length_eq_zero h0) hne⟩
 ·refine⟨_,_,rfl,aA,fun _=>⟨g,0,rfl,hS g rfl,fun i hi=>?_⟩⟩
  obtain⟨c0,c1,c2,c3,c4,⟨e0,e1,e2,e3,e4⟩,ht⟩:=hk i hi
  have hc:∀ j u,xs[j]?=some u->w.cell? ⟨g,0+j,none⟩=some u:=fun j u hu=>by
   have:=h.cells (g:=g) rfl j u hu
   rwa [Addr.add_lit]at this
  exact⟨c0,c1,c2,c3,c4,hc _ _ e0,hc _ _ e1,hc _ _ e2,hc _ _ e3,hc _ _ e4,ht⟩
end Go.Proofs.YtelogmjfekhmpaaGreatDoor
