import Derived.Test.YtelogmjfekhmpaaGreatDoorRep
namespace Go.Proofs.YtelogmjfekhmpaaGreatDoor
open Go.RowKit
def qgR (c:UInt8):Bool:=decide (32<=(c.toNat:Int)/\(c.toNat:Int)<=126/\¬ (c.toNat:Int)=34)
def textB (s:ByteArray):Bool:=decide (s.size<=60) && s.data.toList.all qgR
def qaV (c:UInt8):Bool:=decide ((97<=(c.toNat:Int)/\(c.toNat:Int)<=122)∨(48<=(c.toNat:Int)/\(c.toNat:Int)<=57))
def qlN (c:UInt8):Bool:=decide (97<=(c.toNat:Int)/\(c.toNat:Int)<=122)
def nameB (s:ByteArray):Bool:=decide (1<=s.size/\s.size<=8) && qlN (s.data.toList.headD 0) && s.data.toList.all qaV
def ltB (a b:ByteArray):Bool:=Op.bytesLess a.toList b.toList
def qdT (l:List ByteArray) (i:Nat):Bool:=nameB (l.getD i ByteArray.empty) && (i==0 || ltB (l.getD (i - 1) ByteArray.empty) (l.getD i ByteArray.empty))
def qdU (l:List ByteArray) (k:Nat):Bool:=(List.range k).all (qdT l)
def riseB (l:List ByteArray):Bool:=qdU l l.length
theorem qgH (l:List ByteArray) (k:Nat):qdU l (k+1)=(qdU l k && qdT l k):=by
 simp[qdU,List.range_succ]
theorem qfO (l:List ByteArray) (k:Nat) (h:k<l.length) (hf:qdT l k=false):riseB l=false:=by
 unfold riseB qdU
 rw[List.all_eq_false]
 exact⟨k,List.mem_range.2 h,by simp[hf]⟩
theorem qfP {s:ByteArray} {p:UInt8->Bool} (k:Nat) (h:k<s.size) (hf:p s[k]=false):s.data.toList.all p=false:=by
 rw[List.all_eq_false]
 exact⟨s[k],by simp[ByteArray.getElem_eq_getElem_data],by simp[hf]⟩
theorem qdV {s:ByteArray} {p:UInt8->Bool} (k:Nat) (h:k<s.size) (ht:(s.data.toList.take k).all p=true) (hf:p s[k]=true):(s.data.toList.take (k+1)).all p=true:=by
 rw[List.take_succ_eq_append_getElem (by simpa using h)]
 rw[List.all_append,ht]
 simpa [ByteArray.getElem_eq_getElem_data] using hf
theorem qfQ {s:ByteArray} {p:UInt8->Bool} (k:Nat) (h:s.size<=k) (ht:(s.data.toList.take k).all p=true):s.data.toList.all p=true:=by
 rw[List.take_of_length_le (by simpa using h)]at ht;exact ht
def qaQ (s m:Int) (x:ByteArray) (l:List ByteArray) (kl:Nat):Bool:=
 if s=1 then decide (-999999999<=m/\m<=999999999) && x.toList.isEmpty && ((l.length:Int)==0) && ((kl:Int)==0)
 else if s=2 then (m==0) && textB x && ((l.length:Int)==0) && ((kl:Int)==0)
 else if s=3 then decide (0<=m/\m<=1) && x.toList.isEmpty && ((l.length:Int)==0) && ((kl:Int)==0)
 else if s=4 then (m==0) && x.toList.isEmpty && ((l.length:Int)==0) && decide ((kl:Int)<=20)
 else if s=5 then (m==0) && x.toList.isEmpty && ((l.length:Int)==(kl:Int)) && riseB l
 else if s=6 then (m==0) && x.toList.isEmpty && ((l.length:Int)==0) && decide ((kl:Int)<=1)
 else false
def qiI {α:Type} (t:Nd α):Bool:=qaQ t.sort t.num t.text t.names t.kids.length
def goodT:(n:Nat)->T n->Int->Bool
 | 0,_,_=>false
 | n+1,t,d=>decide (d<=6) && qiI (show Nd (T n) from t) && (Nd.kids t).all (fun k=>goodT n k (d+1))
def okT (n:Nat) (t:T n):Bool:=goodT n t 1 && decide (cntT n t<=120)
theorem qvT:∀ (n:Nat) (t:T n) (d:Int),goodT n t d=true->1<=cntT n t:=by
 intro n t d h
 cases n with
 | zero=>simp[goodT]at h
 | succ n=>simp only[cntT];omega
end Go.Proofs.YtelogmjfekhmpaaGreatDoor
