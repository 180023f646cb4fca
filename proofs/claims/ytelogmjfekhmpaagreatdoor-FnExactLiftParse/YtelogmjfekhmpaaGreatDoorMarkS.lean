import Derived.Test.YtelogmjfekhmpaaGreatDoorMark1
import Derived.Handy
namespace Go.Proofs.YtelogmjfekhmpaaGreatDoor
open Go.RowKit
theorem SpN.slice {w:World} {v:Value} {L:List Spot} (h:SpN w v L):∃ a l c,v=.slice a l c:=by
 obtain⟨ao,cap,hv,-⟩:=h;exact⟨_,_,_,hv⟩
theorem qkT {α:Type} (Ls:List (List α)) (j:Nat) (h:j<Ls.length):(Ls.take (j+1)).flatten=(Ls.take j).flatten++Ls[j]:=by
 rw[List.take_succ_eq_append_getElem h,List.flatten_append,List.flatten_cons,List.flatten_nil,List.append_nil]
theorem qgP {α:Type} (Ls:List (List α)) (j:Nat):(Ls.take j).flatten.length<=Ls.flatten.length:=by
 have h:(Ls.take j++Ls.drop j).flatten.length=Ls.flatten.length:=by rw[List.take_append_drop]
 rw[List.flatten_append,List.length_append]at h
 omega
theorem Wrote.snocI {L:List Spot} {k kk:Int} {w w1:World} (h:Wrote L k w w1) (s:Spot) (hk:kk=k+L.length) (p:Addr) (v:Value) (hp:p=s.at) (hv:v=s.val kk):Wrote (L++[s]) k w (w1.setCell p v):=by
 subst hk hp hv;exact h.snoc s
theorem SpN.below {w w':World} {v:Value} {L:List Spot} (h:SpN w v L) (hb:Below w.heap.size w w'):SpN w' v L:=h.sim ((Sim.refl w).below hb)
theorem Holds.below {w w':World} {L:List Spot} {k:Int} (h:Holds w L k) (hL:∀ s,s∈L->s.ok w) (hb:Below w.heap.size w w'):Holds w' L k:=
 h.keep (fun s hs=>hb.cell (p:=s.at) (Spot.ok_lt (hL s hs)))
theorem qyE {w:World} {Ls:List (List Spot)} {k:Int} (h:Holds w Ls.flatten k) (j:Nat) (hj:j<Ls.length):Holds w Ls[j] (k+((Ls.take j).flatten.length:Int)):=by
 have e:Ls.flatten=(Ls.take j).flatten++(Ls[j]++(Ls.drop (j+1)).flatten):=by
  have:=List.take_append_drop j Ls
  rw[<- List.flatten_cons,<- List.flatten_append,<- List.drop_eq_getElem_cons hj,this]
 rw[e]at h
 exact (qgT (qgT h).2).1
end Go.Proofs.YtelogmjfekhmpaaGreatDoor
