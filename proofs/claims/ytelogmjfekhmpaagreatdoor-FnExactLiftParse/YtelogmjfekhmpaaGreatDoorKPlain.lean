import Derived.Test.YtelogmjfekhmpaaGreatDoorPlain2
namespace Go.Proofs.YtelogmjfekhmpaaGreatDoor
open Go.RowKit
structure Kd (α:Type) where
 sort:Int
 names:List ByteArray
 kids:List α
def K:Nat->Type
 | 0=>Empty
 | n+1=>Kd (K n)
def szK:(n:Nat)->K n->Nat
 | 0,_=>0
 | n+1,t=>szN (Kd.names t)+sumL (fun k=>szK n k+1) (Kd.kids t)
def cntK:(n:Nat)->K n->Nat
 | 0,_=>0
 | n+1,t=>1+sumL (fun k=>cntK n k) (Kd.kids t)
def qbK (s:Int) (l:List ByteArray) (kl:Nat):Bool:=
 if s=1 then ((l.length:Int)==0) && ((kl:Int)==0)
 else if s=2 then ((l.length:Int)==0) && ((kl:Int)==0)
 else if s=3 then ((l.length:Int)==0) && ((kl:Int)==0)
 else if s=4 then ((l.length:Int)==0) && ((kl:Int)==1)
 else if s=5 then ((l.length:Int)==(kl:Int)) && riseB l
 else if s=6 then ((l.length:Int)==0) && ((kl:Int)==1)
 else false
def qrI {α:Type} (t:Kd α):Bool:=qbK t.sort t.names t.kids.length
def goodK:(n:Nat)->K n->Int->Bool
 | 0,_,_=>false
 | n+1,t,d=>decide (d<=6) && qrI (show Kd (K n) from t) && (Kd.kids t).all (fun k=>goodK n k (d+1))
def okK (n:Nat) (t:K n):Bool:=goodK n t 1 && decide (cntK n t<=40)
theorem qvW:∀ (n:Nat) (t:K n) (d:Int),goodK n t d=true->1<=cntK n t:=by
 intro n t d h
 cases n with
 | zero=>simp[goodK]at h
 | succ n=>simp only[cntK];omega
def qbE (n:Nat) (t:K n) (d:Int):Int:=if goodK n t d=true/\cntK n t<=40 then (cntK n t:Int) else -1
theorem qrJ (n:Nat) (t:K (n+1)) (d:Int) (h:(decide (d<=6) && qrI (show Kd (K n) from t))=false):qbE (n+1) t d = -1:=by
 unfold qbE;rw[if_neg];rintro ⟨h1,-⟩;simp only[goodK,h,Bool.false_and]at h1;cases h1
theorem qjY (n:Nat) (t:K (n+1)) (d:Int) (k:Nat) (hk:k<(Kd.kids t).length) (h:qbE n (Kd.kids t)[k] (d+1)<0):qbE (n+1) t d = -1:=by
 unfold qbE;rw[if_neg]
 rintro ⟨h1,h2⟩
 simp only[goodK,Bool.and_eq_true,List.all_eq_true]at h1
 have hg:=h1.2 _ (List.getElem_mem hk)
 have hc:=qcB (fun k=>cntK n k) (Kd.kids t) _ (List.getElem_mem hk)
 simp only[cntK]at h2
 unfold qbE at h
 rw[if_pos ⟨hg,by omega⟩]at h
 omega
theorem qhV (n:Nat) (t:K (n+1)) (d:Int) (k:Nat) (h:40<1+sumL (fun k=>cntK n k) ((Kd.kids t).take k)):qbE (n+1) t d = -1:=by
 unfold qbE;rw[if_neg]
 rintro ⟨-,h2⟩
 have:=qcQ (fun k=>cntK n k) ((Kd.kids t).take k) ((Kd.kids t).drop k)
 rw[List.take_append_drop]at this
 simp only[cntK]at h2
 omega
theorem qhF (n:Nat) (t:K (n+1)) (d:Int) (h:(decide (d<=6) && qrI (show Kd (K n) from t))=true) (hall:(Kd.kids t).all (fun k=>goodK n k (d+1))=true) (hs:1+sumL (fun k=>cntK n k) (Kd.kids t)<=40) :
  qbE (n+1) t d=1+(sumL (fun k=>cntK n k) (Kd.kids t):Int):=by
 unfold qbE;rw[if_pos]
 ·simp only[cntK];omega
 ·exact⟨by simp only[goodK,h,hall,Bool.and_self],by simp only[cntK];omega⟩
theorem qeV (n:Nat) (t:K n) (d:Int) (h:0<=qbE n t d):qbE n t d=cntK n t/\goodK n t d=true/\cntK n t<=40:=by
 unfold qbE at h ⊢
 by_cases hc:goodK n t d=true/\cntK n t<=40
 ·rw[if_pos hc];exact⟨rfl,hc⟩
 ·rw[if_neg hc]at h;omega
theorem qlO (n:Nat) (t:K n) (d:Int) : -1<=qbE n t d/\qbE n t d<=40:=by
 unfold qbE;split <;> omega
theorem okK_eq (n:Nat) (t:K n):decide (0<qbE n t 1)=okK n t:=by
 unfold qbE okK
 by_cases hc:goodK n t 1=true/\cntK n t<=40
 ·rw[if_pos hc,hc.1]
  have:=qvW n t 1 hc.1
  simp[hc.2];omega
 ·rw[if_neg hc]
  cases hg:goodK n t 1 with
  | false=>simp
  | true=>simp[hg]at hc;simp;omega
theorem qeS {α:Type} {p:α->Bool} {l:List α} (k:Nat) (h:k<l.length) (ht:(l.take k).all p=true) (hf:p l[k]=true):(l.take (k+1)).all p=true:=by
 rw[List.take_succ_eq_append_getElem h,List.all_append,ht];simpa using hf
end Go.Proofs.YtelogmjfekhmpaaGreatDoor
