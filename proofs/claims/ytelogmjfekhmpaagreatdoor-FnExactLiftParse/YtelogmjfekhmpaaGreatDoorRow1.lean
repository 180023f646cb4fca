import Derived.Test.YtelogmjfekhmpaaGreatDoorRep
import Derived.Deep.AppendLies
namespace Go.Proofs.YtelogmjfekhmpaaGreatDoor
open Go.RowKit
def Row1 {α:Type} (S:Nat->Prop) (w:World) (R:α->Value->Prop) (l:List α) (v:Value):Prop:=
 ∃ (ao:Option Addr) (cap:Nat),v=.slice ao l.length cap/\l.length<=maxLen /\
  (l≠[]->∃ b off,ao=some ⟨b,off,none⟩/\S b/\∀ i (h:i<l.length),∃ c,w.cell? ⟨b,off+i,none⟩=some c/\R l[i] c)
theorem Row1.keep {α:Type} {S S':Nat->Prop} {w w':World} {R R':α->Value->Prop} {l:List α} {v:Value} (h:Row1 S w R l v) (hb:Same S w w') (hS:∀ b,S b->S' b)
  (hR:∀ x c,x∈l->R x c->R' x c):Row1 S' w' R' l v:=by
 obtain⟨ao,cap,hv,hl,hc⟩:=h
 refine⟨ao,cap,hv,hl,fun hne=>?_⟩
 obtain⟨b,off,ha,hB,aA⟩:=hc hne
 refine⟨b,off,ha,hS b hB,fun i hi=>?_⟩
 obtain⟨c,h0,hr⟩:=aA i hi
 exact⟨c,(hb.cell (p:=⟨b,off+i,none⟩) hB).trans h0,hR _ _ (List.getElem_mem hi) hr⟩
theorem qgW {α:Type} {S:Nat->Prop} {w:World} {base:Nat} {e:TypeId} {v:Value} {l:List α} {xs:List Value} {R:α->Value->Prop} (h:w.ownsRow base e 1 v l.length xs) (hl:l.length<=maxLen)
  (hS:∀ g,v.ownBlock=some g->S g) (hR:∀ i (hi:i<l.length) (hx:i<xs.length),R l[i] xs[i]):Row1 S w R l v:=by
 have aB:xs.length=l.length:=by simpa using h.1
 rcases h.2 with ⟨rfl,h0⟩|⟨g,cap,cur,rfl,aC,hg,aD,aE,aF,aA⟩
 ·exact⟨none,0,by rw[h0],hl,fun hne=>absurd (List.eq_nil_of_length_eq_zero h0) hne⟩
 ·refine⟨_,_,rfl,hl,fun _=>⟨g,0,rfl,hS g rfl,fun i hi=>⟨xs[i]'(by omega),?_,hR i hi (by omega)⟩⟩⟩
  have:=h.cells (g:=g) rfl i (xs[i]'(by omega)) (by simp)
  rw[Addr.add_lit]at this
  exact this
theorem r1_lt {w:World} {M:Nat} {e:TypeId} {z:Nat} {v:Value} {k:Nat} {xs:List Value} (h:w.ownsRow M e z v k xs) (b:Nat) (hb:v.ownBlock=some b):M<=b/\b<w.heap.size:=by
 rcases h.2 with ⟨rfl,h0⟩|⟨g,cap,cur,rfl,aB,hg,aC,aD,aE,aA⟩
 ·cases hb
 ·have:g=b:=by simpa [Value.ownBlock] using hb
  subst this
  exact⟨aB,(Array.getElem?_eq_some_iff.1 hg).1⟩
theorem qhM {w:World} {M:Nat} {e:TypeId} {z:Nat} {v:Value} {k:Nat} {xs:List Value} (h:w.ownsRow M e z v k xs):∃ a c,v=.slice a k c:=by
 rcases h.2 with ⟨rfl,h0⟩|⟨g,cap,cur,rfl,aB,hg,aC,aD,aE,aA⟩
 ·exact⟨_,_,by rw[h0]⟩
 ·exact⟨_,_,rfl⟩
theorem qbG {w w':World} {M:Nat} {e:TypeId} {z:Nat} {v:Value} {k:Nat} {xs:List Value} (h:w.ownsRow M e z v k xs) (hs:∀ g,v.ownBlock=some g->w'.heap[g]?=w.heap[g]?):w'.ownsRow M e z v k xs:=by
 obtain⟨h1,h2⟩:=h
 refine⟨h1,?_⟩
 rcases h2 with h2|⟨g,cap,cur,rfl,hg,hh,r⟩
 ·exact .inl h2
 ·exact .inr ⟨g,cap,cur,rfl,hg,by rw[hs g rfl];exact hh,r⟩
end Go.Proofs.YtelogmjfekhmpaaGreatDoor
