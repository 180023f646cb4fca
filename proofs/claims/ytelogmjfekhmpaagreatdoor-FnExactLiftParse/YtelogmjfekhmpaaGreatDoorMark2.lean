import Derived.Test.YtelogmjfekhmpaaGreatDoorMarkS
namespace Go.Proofs.YtelogmjfekhmpaaGreatDoor
open Go.RowKit
def sp5 (b o:Nat):List Spot:=[⟨b,o,false⟩,⟨b,o+1,false⟩,⟨b,o+2,true⟩]
def SpR (w:World):Nat->Value->List Spot->Prop
 | 0,v,L=>∃ ao cap,v=.slice ao 0 cap/\L=[]
 | n + 1, v, L => ∃ (ao : Option Addr) (cap : Nat) (Ls : List (List Spot)), v = .slice ao Ls.length cap /\ Ls.length <= maxLen /\ L = Ls.flatten /\
   ∀ i (h:i<Ls.length),∃ b off c3 c4 L3 L4,ao=some ⟨b,off,none⟩/\Ls[i]=sp5 b (off+i*5)++(L3++L4)/\(∀ s,s∈sp5 b (off+i*5)->s.ok w) /\
    w.cell? ⟨b,off+i*5+3,none⟩=some c3/\w.cell? ⟨b,off+i*5+4,none⟩=some c4/\SpN w c3 L3/\SpR w n c4 L4
theorem SpR.slice {w:World}:∀ {n:Nat} {v:Value} {L:List Spot},SpR w n v L->∃ a l c,v=.slice a l c:=by
 intro n
 cases n with
 | zero=>rintro v L ⟨ao,cap,hv,-⟩;exact⟨_,_,_,hv⟩
 | succ n=>rintro v L ⟨ao,cap,Ls,hv,-⟩;exact⟨_,_,_,hv⟩
theorem SpR.sim {w w':World} (hs:Sim w w'):∀ {n:Nat} {v:Value} {L:List Spot},SpR w n v L->SpR w' n v L:=by
 intro n
 induction n with
 | zero=>intro v L h;exact h
 | succ n ih=>
  rintro v L ⟨ao,cap,Ls,hv,hl,hL,hi⟩
  refine⟨ao,cap,Ls,hv,hl,hL,fun i h=>?_⟩
  obtain⟨b,off,c3,c4,L3,L4,ha,aA,aB,h3,h4,hn,hr⟩:=hi i h
  refine⟨b,off,c3,c4,L3,L4,ha,aA,fun s hs'=>Spot.ok_sim (aB s hs') hs,?_,?_,hn.sim hs,ih hr⟩
  ·obtain⟨a,l,c,rfl⟩:=hn.slice;exact hs.sl _ _ _ _ _ h3
  ·obtain⟨a,l,c,rfl⟩:=hr.slice;exact hs.sl _ _ _ _ _ h4
theorem SpR.ok {w:World}:∀ {n:Nat} {v:Value} {L:List Spot},SpR w n v L->∀ s,s∈L->s.ok w:=by
 intro n
 induction n with
 | zero=>rintro v L ⟨ao,cap,hv,rfl⟩ s hs;cases hs
 | succ n ih=>
  rintro v L ⟨ao,cap,Ls,hv,hl,rfl,hi⟩ s hs
  obtain⟨Li,aB,aA⟩:=List.mem_flatten.1 hs
  obtain⟨i,h,rfl⟩:=List.getElem_of_mem aB
  obtain⟨b,off,c3,c4,L3,L4,ha,aB,aC,h3,h4,hn,hr⟩:=hi i h
  rw[aB]at aA
  rcases List.mem_append.1 aA with h1|h1
  ·exact aC s h1
  ·rcases List.mem_append.1 h1 with h2|h2
   ·exact hn.ok s h2
   ·exact ih hr s h2
theorem SpR.below {w w':World} {n:Nat} {v:Value} {L:List Spot} (h:SpR w n v L) (hb:Below w.heap.size w w'):SpR w' n v L:=h.sim ((Sim.refl w).below hb)
end Go.Proofs.YtelogmjfekhmpaaGreatDoor
