import Derived.Test.YtelogmjfekhmpaaGreatDoorText
import Derived.Test.YtelogmjfekhmpaaGreatDoorEat
import Derived.Lib.ItoaMem
namespace Go.Proofs.YtelogmjfekhmpaaGreatDoor
open Go.RowKit
def digC (c:UInt8):Bool:=decide (48<=(c.toNat:Int)/\(c.toNat:Int)<=57)
def qcE (l:List UInt8):Nat:=l.foldl (fun a c=>a*10+(c.toNat - 48)) 0
theorem xaN (d:Nat) (h:d<10):(UInt8.ofNat (48+d)).toNat=48+d:=by
 rw[UInt8.toNat_ofNat'];omega
theorem qcJ (u:Nat):∀ c,c∈Lib.decDigits u->digC c=true:=by
 induction u using Nat.strongRecOn with
 | _ u ih=>
  intro c hc
  rw[Lib.decDigits]at hc
  split at hc
  ·next h=>
   rw[List.mem_singleton]at hc;subst hc
   have:=xaN u h
   simp only[digC,this,decide_eq_true_eq];omega
  ·next h=>
   rcases List.mem_append.1 hc with hc|hc
   ·exact ih (u / 10) (by omega) c hc
   ·rw[List.mem_singleton]at hc;subst hc
    have:=xaN (u % 10) (by omega)
    simp only[digC,this,decide_eq_true_eq];omega
theorem qfR (u:Nat):Lib.decDigits u≠[]:=by
 rw[Lib.decDigits];split <;> simp
theorem qeT (u:Nat):qcE (Lib.decDigits u)=u:=by
 induction u using Nat.strongRecOn with
 | _ u ih=>
  rw[Lib.decDigits]
  split
  ·next h=>simp[qcE];omega
  ·next h=>
   have h1:=ih (u / 10) (by omega)
   unfold qcE at h1 ⊢
   rw[List.foldl_append,h1]
   simp only[List.foldl_cons,List.foldl_nil,xaN (u % 10) (by omega)]
   omega
theorem quA:digC 45=false:=by decide
def noDig (s:List UInt8):Bool:=!(digC (s.headD 0))
def numW (s:List UInt8):List UInt8:=if s.head?=some 45 then 45 :: (s.drop 1).takeWhile digC else s.takeWhile digC
theorem qoG {s:List UInt8} (h:noDig s=true):∀ c r,s=c :: r->digC c=false:=by
 intro c r e;subst e;simpa [noDig] using h
theorem xaO (m:Int) (post:List UInt8) (h:noDig post=true):numW (Lib.itoa m++post)=Lib.itoa m:=by
 unfold Lib.itoa
 split
 ·unfold numW
  rw[if_pos (by simp)]
  simp only[List.cons_append,List.drop_succ_cons,List.drop_zero]
  rw[qcT _ _ (qcJ _) (qoG h)]
 ·unfold numW
  rw[if_neg,qcT _ _ (qcJ _) (qoG h)]
  intro e
  cases hd:Lib.decDigits m.toNat with
  | nil=>exact qfR _ hd
  | cons c r=>
   rw[hd]at e
   have hc:c=45:=by simpa using e
   have:=qcJ m.toNat c (by rw[hd];exact List.mem_cons_self ..)
   rw[hc,quA]at this;cases this
theorem qgB {p:UInt8->Bool} (s:List UInt8):s.takeWhile p++s.drop (s.takeWhile p).length=s:=by
 induction s with
 | nil=>rfl
 | cons c r ih=>
  rw[List.takeWhile_cons]
  split
  ·simpa using ih
  ·simp
theorem quB (s:List UInt8):numW s++s.drop (numW s).length=s:=by
 unfold numW
 split
 ·next h=>
  cases s with
  | nil=>simp at h
  | cons c r=>
   have:c=45:=by simpa using h
   subst this
   simpa using qgB (p:=digC) r
 ·exact qgB s
def valOf (w:List UInt8):Int:=if w.head?=some 45 then -(qcE (w.drop 1):Int) else (qcE w:Int)
theorem qxL (m:Int):valOf (Lib.itoa m)=m:=by
 unfold valOf Lib.itoa
 by_cases h:m<0
 ·rw[if_pos h]
  simp only[List.head?_cons,if_true,List.drop_succ_cons,List.drop_zero]
  rw[qeT];omega
 ·rw[if_neg h]
  have aA:¬ (Lib.decDigits m.toNat).head?=some 45:=by
   intro e
   cases hd:Lib.decDigits m.toNat with
   | nil=>rw[hd]at e;cases e
   | cons c r=>
    rw[hd]at e
    have hc:c=45:=by simpa using e
    have:=qcJ m.toNat c (by rw[hd];exact List.mem_cons_self ..)
    rw[hc,quA]at this
    cases this
  rw[if_neg aA,qeT];omega
def numOf (w:List UInt8):Option Int:=if (-999999999<=valOf w/\valOf w<=999999999)/\Lib.itoa (valOf w)=w then some (valOf w) else none
theorem qjZ (m:Int) (h : -999999999<=m/\m<=999999999):numOf (Lib.itoa m)=some m:=by
 unfold numOf
 rw[qxL,if_pos ⟨h,rfl⟩]
theorem qdP {w:List UInt8} {m:Int} (h:numOf w=some m):(-999999999<=m/\m<=999999999)/\Lib.itoa m=w:=by
 unfold numOf at h
 split at h
 ·next hex=>cases h;exact hex
 ·cases h
end Go.Proofs.YtelogmjfekhmpaaGreatDoor
