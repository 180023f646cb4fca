import Derived.Test.YtelogmjfekhmpaaGreatDoorParse2
import Derived.Test.YtelogmjfekhmpaaGreatDoorRd4
namespace Go.Proofs.YtelogmjfekhmpaaGreatDoor
open Go.RowKit
theorem qkA:∀ (k u:Nat),u<10 ^ (k+1)->Lib.nDigits u<=k+1
 | 0,u,h=>by rw[Lib.nDigits_small (by simpa using h)];omega
 | k+1,u,h=>by
  by_cases hu:u<10
  ·rw[Lib.nDigits_small hu];omega
  ·rw[Lib.nDigits_big hu]
   have:=qkA k (u / 10) (by rw[Nat.pow_succ]at h;omega)
   omega
theorem quE (l D post:List UInt8) (k:Nat) (he:l=D++post) (hD:∀ c,c∈D->digC c=true) (hl:D.length<=9) (hp:noDig post=true) (hall:∀ c,c∈l.take k->digC c=true) (hk:k<=l.length)
  (hend:k=10∨digC ((l.drop k).headD 0)=false):k=D.length:=by
 subst he
 by_cases h1:k<D.length
 ·exfalso
  rcases hend with h|h
  ·omega
  ·rw[List.drop_append_of_le_length (by omega),List.drop_eq_getElem_cons h1]at h
   simp only[List.cons_append,List.headD_cons]at h
   rw[hD _ (List.getElem_mem h1)]at h
   cases h
 ·by_cases h2:D.length<k
  ·exfalso
   cases post with
   | nil=>simp at hk;omega
   | cons c r=>
    have hc:digC c=false:=by simpa [noDig] using hp
    have:digC c=true:=by
     apply hall
     rw[List.take_append]
     apply List.mem_append_right
     have:k - D.length=(k - D.length - 1)+1:=by omega
     rw[this,List.take_succ_cons]
     exact List.mem_cons_self ..
    rw[hc]at this
    cases this
  ·omega
theorem xaR (s:ByteArray) (i k F:Nat) (neg:Bool) (m:Int) (post:List UInt8) (hm : -999999999<=m/\m<=999999999) (he:s.data.toList.drop i=Lib.itoa m++post) (hp:noDig post=true)
  (hneg:neg=decide (lookB s i=45)) (hF:F=if neg=true then i+1 else i) (hsz:F+k<=s.size)
  (hall:∀ c,c∈(s.data.toList.drop F).take k->digC c=true) (hend:k=10∨digC (lookB s (F+k))=false) :
  (if neg=true then -(qcE ((s.data.toList.drop F).take k):Int) else (qcE ((s.data.toList.drop F).take k):Int))=m/\F+k=i+(Lib.itoa m).length/\¬ k=0:=by
 have key:∀ (u:Nat),u<=999999999->s.data.toList.drop F=Lib.decDigits u++post->qcE ((s.data.toList.drop F).take k)=u/\k=(Lib.decDigits u).length/\¬ k=0:=by
  intro u hu hd
  have aB:(Lib.decDigits u).length<=9:=by rw[Lib.decDigits_length];exact qkA 8 u (by omega)
  have hk:=quE _ _ post k hd (qcJ u) aB hp hall (by simp;omega) (by rw[List.drop_drop];exact hend)
  refine⟨?_,hk,?_⟩
  ·rw[hd,hk,List.take_left,qeT]
  ·have h0:=qfR u
   intro e
   rw[e]at hk
   exact h0 (List.eq_nil_of_length_eq_zero hk.symm)
 have aA:lookB s i=(Lib.itoa m++post).headD 0:=by unfold lookB;rw[he]
 by_cases h0:m<0
 ·have hi:Lib.itoa m=45 :: Lib.decDigits m.natAbs:=by unfold Lib.itoa;rw[if_pos h0]
  rw[hi]at he aA
  have hn:neg=true:=by rw[hneg,aA];rfl
  rw[if_pos hn]at hF
  have hd:s.data.toList.drop F=Lib.decDigits m.natAbs++post:=by
   rw[hF,<- List.drop_drop,he];rfl
  obtain⟨k1,k2,k3⟩:=key m.natAbs (by omega) hd
  refine⟨by rw[if_pos hn,k1];omega,?_,k3⟩
  rw[hi,hF,List.length_cons,k2];omega
 ·have hi:Lib.itoa m=Lib.decDigits m.toNat:=by unfold Lib.itoa;rw[if_neg h0]
  rw[hi]at he aA
  have hn:neg=false:=by
   rw[hneg,aA]
   obtain⟨c,r,e,hc⟩:=qhX m.toNat
   rw[e]
   simp only[List.cons_append,List.headD_cons]
   refine decide_eq_false ?_
   rintro rfl
   rw[quA]at hc;cases hc
  rw[hn]at hF
  simp only[Bool.false_eq_true,if_false]at hF
  have hd:s.data.toList.drop F=Lib.decDigits m.toNat++post:=by rw[hF,he]
  obtain⟨k1,k2,k3⟩:=key m.toNat (by omega) hd
  refine⟨by rw[hn];simp only[Bool.false_eq_true,if_false];rw[k1];omega,?_,k3⟩
  rw[hi,hF,k2]
end Go.Proofs.YtelogmjfekhmpaaGreatDoor
