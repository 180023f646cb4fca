import Derived.Test.YtelogmjfekhmpaaGreatDoorNB7
import Derived.Laws.RangeString
import Derived.Lib.OthersKept
import Derived.WalkSmall
namespace Go.Proofs.YtelogmjfekhmpaaGreatDoor
open Go.RowKit
def letP (p:UInt8):Prop:=p=84∨p=75∨p=70∨p=35∨p=78∨p=88∨p=86∨p=65
theorem quS:∀ k,k<44->∀ p,p∈prt k->p=84∨p=75∨p=70∨p=35∨p=78∨p=88∨p=86∨p=65:=by decide
theorem qcF {w:World} {b:Nat} {c0 c1 c2 c3 c4:Value} {t:TypeId} (h:w.heap[b]?=some (.cells #[c0,c1,c2,c3,c4] t (0,0))) :
  w.cell? ⟨b,0,none⟩=some c0/\w.cell? ⟨b,1,none⟩=some c1/\w.cell? ⟨b,2,none⟩=some c2/\w.cell? ⟨b,3,none⟩=some c3/\w.cell? ⟨b,4,none⟩=some c4:=by
 refine⟨?_,?_,?_,?_,?_⟩ <;> simp[World.cell?,h]
theorem qjF:∀ k,k<44->∀ p,p∈prt k->p.toNat<128:=by decide
theorem qhT (l:List UInt8) (i:Nat) (h:i<(bs l).size):(bs l)[i]'h=l[i]'(by rw[qaJ]at h;exact h):=by
 simp[bs,ByteArray.getElem_eq_getElem_data]
end Go.Proofs.YtelogmjfekhmpaaGreatDoor
