import Derived.Test.YtelogmjfekhmpaaGreatDoorTextN
import Derived.Test.YtelogmjfekhmpaaGreatDoorKPlain
namespace Go.Proofs.YtelogmjfekhmpaaGreatDoor
open Go.RowKit
def headL {α:Type} (f:α->List UInt8):List α->List UInt8
 | []=>[]
 | k :: _=>f k
def txtK:(n:Nat)->K n->List UInt8
 | 0,_=>[]
 | n+1,t=>
  if Kd.sort t=1 then [110,117,109]
  else if Kd.sort t=2 then [116,101,120,116]
  else if Kd.sort t=3 then [102,108,97,103]
  else if Kd.sort t=4 then 91 :: headL (txtK n) (Kd.kids t)++[93]
  else if Kd.sort t=6 then 63 :: headL (txtK n) (Kd.kids t)
  else 123 :: joinL (zipL (Kd.names t) ((Kd.kids t).map (txtK n)))++[125]
theorem qpE:∀ (n:Nat) (t:K n) (d:Int),goodK n t d=true->(txtK n t).length+10<=24*cntK n t:=by
 intro n
 induction n with
 | zero=>intro t d h;simp[goodK]at h
 | succ n ih=>
  intro t d h
  simp only[goodK,Bool.and_eq_true]at h
  have ha:qbK (Kd.sort t) (Kd.names t) (Kd.kids t).length=true:=h.1.2
  have hk:=List.all_eq_true.1 h.2
  have aA:lenL ((Kd.kids t).map (txtK n))<=24*sumL (fun x=>cntK n x) (Kd.kids t):=by
   unfold lenL
   rw[qvV,<- qlB]
   exact qpC _ _ _ fun x hx=>ih x (d+1) (hk x hx)
  have hc:cntK (n+1) t=1+sumL (fun x=>cntK n x) (Kd.kids t):=rfl
  rw[hc]
  have aB:(headL (txtK n) (Kd.kids t)).length<=24*sumL (fun x=>cntK n x) (Kd.kids t):=by
   cases hkk:Kd.kids t with
   | nil=>simp[headL]
   | cons k r=>
    have h1:=ih k (d+1) (hk k (by rw[hkk];exact List.mem_cons_self ..))
    simp only[headL,sumL]
    omega
  unfold qbK at ha
  simp only[txtK]
  by_cases h1:Kd.sort t=1
  ·rw[if_pos h1];simp;omega
  rw[if_neg h1]at ha ⊢
  by_cases h2:Kd.sort t=2
  ·rw[if_pos h2];simp;omega
  rw[if_neg h2]at ha ⊢
  by_cases h3:Kd.sort t=3
  ·rw[if_pos h3];simp;omega
  rw[if_neg h3]at ha ⊢
  by_cases h4:Kd.sort t=4
  ·rw[if_pos h4];simp only[List.length_append,List.length_cons,List.length_nil];omega
  rw[if_neg h4]at ha ⊢
  by_cases h6:Kd.sort t=6
  ·rw[if_pos h6];simp only[List.length_cons];omega
  rw[if_neg h6]
  by_cases h5:Kd.sort t=5
  ·rw[if_pos h5]at ha
   simp only[Bool.and_eq_true]at ha
   have:=qvU (Kd.names t) ((Kd.kids t).map (txtK n)) (qfA _ ha.2)
   simp only[List.length_append,List.length_cons,List.length_nil]
   omega
  ·rw[if_neg h5,if_neg h6]at ha;cases ha
theorem qpF {n:Nat} {t:K n} (h:okK n t=true):goodK n t 1=true/\cntK n t<=40:=by
 simpa only[okK,Bool.and_eq_true,decide_eq_true_eq] using h
theorem qpG {a b:ByteArray} (h:a=b):Ending.returned (.string a)=.returned (.string b):=by rw[h]
def qeP (parts:List (List UInt8)) (k:Nat):ByteArray:=bs (joinL (parts.take k))
theorem qtZ (parts:List (List UInt8)) (k:Nat) (h:k<parts.length) (hk:¬ k=0):qeP parts (k+1)=qeP parts k++bs [44]++bs parts[k]:=by
 unfold qeP;rw[qcD _ _ h,if_neg hk,qaU,qaU]
theorem qrK (parts:List (List UInt8)) (h:0<parts.length):qeP parts (0+1)=bs []++bs parts[0]:=by
 unfold qeP;rw[qcD _ _ h,if_pos rfl,qaU]
end Go.Proofs.YtelogmjfekhmpaaGreatDoor
