import Derived.Test.YtelogmjfekhmpaaGreatDoorMarkS
import Derived.Test.YtelogmjfekhmpaaGreatDoorKRep
namespace Go.Proofs.YtelogmjfekhmpaaGreatDoor
open Go.RowKit
def SpK (w:World):Nat->Value->List Spot->Prop
 | 0,v,L=>∃ ao cap,v=.slice ao 0 cap/\L=[]
 | n + 1, v, L => ∃ (ao : Option Addr) (cap : Nat) (Ls : List (List Spot)), v = .slice ao Ls.length cap /\ Ls.length <= maxLen /\ L = Ls.flatten /\
   ∀ i (h:i<Ls.length),∃ b off c3 c4 L3 L4,ao=some ⟨b,off,none⟩/\Ls[i]=[⟨b,off+i*3,false⟩]++(L3++L4)/\(⟨b,off+i*3,false⟩:Spot).ok w /\
    w.cell? ⟨b,off+i*3+1,none⟩=some c3/\w.cell? ⟨b,off+i*3+2,none⟩=some c4/\SpN w c3 L3/\SpK w n c4 L4
theorem SpK.slice {w:World}:∀ {n:Nat} {v:Value} {L:List Spot},SpK w n v L->∃ a l c,v=.slice a l c:=by
 intro n
 cases n with
 | zero=>rintro v L ⟨ao,cap,hv,-⟩;exact⟨_,_,_,hv⟩
 | succ n=>rintro v L ⟨ao,cap,Ls,hv,-⟩;exact⟨_,_,_,hv⟩
theorem SpK.sim {w w':World} (hs:Sim w w'):∀ {n:Nat} {v:Value} {L:List Spot},SpK w n v L->SpK w' n v L:=by
 intro n
 induction n with
 | zero=>intro v L h;exact h
 | succ n ih=>
  rintro v L ⟨ao,cap,Ls,hv,hl,hL,hi⟩
  refine⟨ao,cap,Ls,hv,hl,hL,fun i h=>?_⟩
  obtain⟨b,off,c3,c4,L3,L4,ha,aA,aB,h3,h4,hn,hr⟩:=hi i h
  refine⟨b,off,c3,c4,L3,L4,ha,aA,Spot.ok_sim aB hs,?_,?_,hn.sim hs,ih hr⟩
  ·obtain⟨a,l,c,rfl⟩:=hn.slice;exact hs.sl _ _ _ _ _ h3
  ·obtain⟨a,l,c,rfl⟩:=hr.slice;exact hs.sl _ _ _ _ _ h4
theorem SpK.below {w w':World} {n:Nat} {v:Value} {L:List Spot} (h:SpK w n v L) (hb:Below w.heap.size w w'):SpK w' n v L:=h.sim ((Sim.refl w).below hb)
end Go.Proofs.YtelogmjfekhmpaaGreatDoor
