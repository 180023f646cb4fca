import Derived.Test.YtelogmjfekhmpaaGreatDoorTextN
import Derived.Lib.ItoaNum
import Derived.Lib.ItoaLen
namespace Go.Proofs.YtelogmjfekhmpaaGreatDoor
open Go.RowKit
def qfB {α:Type} (f:α->List UInt8):List α->List UInt8
 | []=>[126]
 | k :: _=>63 :: f k
def txtL:(n:Nat)->T n->List UInt8
 | 0,_=>[]
 | n+1,t=>
  if Nd.sort t=1 then Lib.itoa (Nd.num t)
  else if Nd.sort t=2 then 34 :: (Nd.text t).data.toList++[34]
  else if Nd.sort t=3 then (if Nd.num t=1 then [121,101,115] else [110,111])
  else if Nd.sort t=6 then qfB (txtL n) (Nd.kids t)
  else if Nd.sort t=5 then 123 :: joinL (zipL (Nd.names t) ((Nd.kids t).map (txtL n)))++[125]
  else 91 :: joinL ((Nd.kids t).map (txtL n))++[93]
theorem qhE:∀ (n:Nat) (t:T n) (d:Int),goodT n t d=true->(txtL n t).length+10<=82*cntT n t:=by
 intro n
 induction n with
 | zero=>intro t d h;simp[goodT]at h
 | succ n ih=>
  intro t d h
  simp only[goodT,Bool.and_eq_true]at h
  have ha:qaQ (Nd.sort t) (Nd.num t) (Nd.text t) (Nd.names t) (Nd.kids t).length=true:=h.1.2
  have hk:=List.all_eq_true.1 h.2
  have aA:lenL ((Nd.kids t).map (txtL n))<=82*sumL (fun x=>cntT n x) (Nd.kids t):=by
   unfold lenL
   rw[qvV,<- qlB]
   exact qpC _ _ _ fun x hx=>ih x (d+1) (hk x hx)
  have hc:cntT (n+1) t=1+sumL (fun x=>cntT n x) (Nd.kids t):=rfl
  rw[hc]
  have hj:=xaG ((Nd.kids t).map (txtL n))
  unfold qaQ at ha
  simp only[txtL]
  by_cases h1:Nd.sort t=1
  ·rw[if_pos h1]at ha ⊢
   simp only[Bool.and_eq_true,decide_eq_true_eq]at ha
   have:=Lib.itoa_length_le (Nd.num t) (by omega) (by omega)
   omega
  rw[if_neg h1]at ha ⊢
  by_cases h2:Nd.sort t=2
  ·rw[if_pos h2]at ha ⊢
   simp only[Bool.and_eq_true,textB,decide_eq_true_eq]at ha
   have:(Nd.text t).size<=60:=ha.1.1.2.1
   have hl:(Nd.text t).data.toList.length=(Nd.text t).size:=by simp
   simp only[List.length_append,List.length_cons,List.length_nil,hl]
   omega
  rw[if_neg h2]at ha ⊢
  by_cases h3:Nd.sort t=3
  ·rw[if_pos h3]
   split <;> simp <;> omega
  rw[if_neg h3]at ha ⊢
  by_cases h6:Nd.sort t=6
  ·rw[if_pos h6]
   cases hkk:Nd.kids t with
   | nil=>simp[qfB];omega
   | cons k r=>
    have h1:=ih k (d+1) (hk k (by rw[hkk];exact List.mem_cons_self ..))
    simp only[qfB,List.length_cons,sumL]
    omega
  rw[if_neg h6]
  by_cases h5:Nd.sort t=5
  ·have h4:¬ Nd.sort t=4:=by omega
   rw[if_neg h4,if_pos h5]at ha
   rw[if_pos h5]
   simp only[Bool.and_eq_true]at ha
   have:=qvU (Nd.names t) ((Nd.kids t).map (txtL n)) (qfA _ ha.2)
   simp only[List.length_append,List.length_cons,List.length_nil]
   omega
  rw[if_neg h5]
  simp only[List.length_append,List.length_cons,List.length_nil]
  omega
end Go.Proofs.YtelogmjfekhmpaaGreatDoor
