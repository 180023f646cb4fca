import Derived.Test.YtelogmjfekhmpaaGreatDoorPlain2
namespace Go.Proofs.YtelogmjfekhmpaaGreatDoor
open Go.RowKit
def bs (l:List UInt8):ByteArray:=⟨l.toArray⟩
theorem qaU (a b:List UInt8):bs a++bs b=bs (a++b):=by
 apply ByteArray.ext
 simp[bs]
theorem qaJ (l:List UInt8):(bs l).size=l.length:=by simp[bs,ByteArray.size]
theorem bs_of (s:ByteArray):bs s.data.toList=s:=by
 apply ByteArray.ext;simp[bs]
theorem qcC (l:List UInt8):(bs l).data.toList=l:=by simp[bs]
def joinL:List (List UInt8)->List UInt8
 | []=>[]
 | [x]=>x
 | x :: y :: r=>x++44 :: joinL (y :: r)
theorem qxK (l:List (List UInt8)) (x:List UInt8) (h:l≠[]):joinL (l++[x])=joinL l++44 :: x:=by
 induction l with
 | nil=>exact absurd rfl h
 | cons a r ih=>
  cases r with
  | nil=>simp[joinL]
  | cons b r=>simp only[List.cons_append,joinL]at ih ⊢;rw[ih (by simp)];simp
def zipL:List ByteArray->List (List UInt8)->List (List UInt8)
 | a :: r,x :: s=>(a.data.toList++58 :: x) :: zipL r s
 | _,_=>[]
def lenL (l:List (List UInt8)):Nat:=sumL (fun x=>x.length+10) l
theorem xaG (l:List (List UInt8)):(joinL l).length<=lenL l:=by
 induction l with
 | nil=>simp[joinL]
 | cons a r ih=>
  cases r with
  | nil=>simp[joinL,lenL,sumL]
  | cons b r=>simp only[joinL,lenL,sumL,List.length_append,List.length_cons]at ih ⊢;omega
theorem qvU (a:List ByteArray) (l:List (List UInt8)) (h:∀ s,s∈a->s.size<=8):(joinL (zipL a l)).length<=lenL l:=by
 have key:∀ (a:List ByteArray) (l:List (List UInt8)),(∀ s,s∈a->s.size<=8)->(joinL (zipL a l)).length+(if (zipL a l).isEmpty then 0 else 1)<=lenL l:=by
  intro a
  induction a with
  | nil=>intro l _;simp[zipL,joinL]
  | cons s r ih=>
   intro l h
   cases l with
   | nil=>simp[zipL,joinL]
   | cons x t=>
    have hs:s.size<=8:=h s (List.mem_cons_self ..)
    have aA:s.data.toList.length<=8:=by simpa using hs
    have:=ih t (fun u hu=>h u (List.mem_cons_of_mem _ hu))
    simp only[zipL,lenL,sumL]at this ⊢
    cases hz:zipL r t with
    | nil=>simp[joinL];rw[hz]at this;simp[joinL]at this;simp at aA;omega
    | cons y z=>
     rw[hz]at this
     simp only[joinL,List.length_append,List.length_cons]at this ⊢
     simp at this ⊢
     simp at aA
     omega
 have:=key a l h
 omega
theorem qpC {α:Type} (f g:α->Nat) (l:List α) (h:∀ x,x∈l->f x<=g x):sumL f l<=sumL g l:=by
 induction l with
 | nil=>simp[sumL]
 | cons a r ih=>
  have h1:=h a (List.mem_cons_self ..)
  have h2:=ih (fun x hx=>h x (List.mem_cons_of_mem _ hx))
  simp only[sumL];omega
theorem qvV {α β:Type} (f:β->Nat) (g:α->β) (l:List α):sumL f (l.map g)=sumL (fun x=>f (g x)) l:=by
 induction l with
 | nil=>rfl
 | cons a r ih=>simp only[List.map_cons,sumL,ih]
theorem qlB {α:Type} (c:Nat) (f:α->Nat) (l:List α):sumL (fun x=>c*f x) l=c*sumL f l:=by
 induction l with
 | nil=>simp[sumL]
 | cons a r ih=>simp only[sumL,ih,Nat.mul_add]
theorem qfA (l:List ByteArray) (h:riseB l=true):∀ s,s∈l->s.size<=8:=by
 intro s hs
 obtain⟨i,hi,rfl⟩:=List.getElem_of_mem hs
 unfold riseB qdU at h
 have:=List.all_eq_true.1 h i (List.mem_range.2 hi)
 simp only[qdT,Bool.and_eq_true,nameB,decide_eq_true_eq]at this
 have h2:=this.1.1.1.2
 simpa [List.getD,hi] using h2
theorem qdD (l:List (List UInt8)) (k:Nat):(joinL (l.take k)).length<=(joinL l).length:=by
 induction l generalizing k with
 | nil=>simp[joinL]
 | cons a r ih=>
  cases k with
  | zero=>simp[joinL]
  | succ k=>
   rw[List.take_succ_cons]
   cases r with
   | nil=>simp[joinL]
   | cons b r=>
    cases k with
    | zero=>simp[joinL]
    | succ k=>
     have:=ih (k+1)
     rw[List.take_succ_cons]at this ⊢
     simp only[joinL,List.length_append,List.length_cons]at this ⊢
     omega
theorem qcD (l:List (List UInt8)) (k:Nat) (h:k<l.length):joinL (l.take (k+1))=(if k=0 then [] else joinL (l.take k)++[44])++l[k]:=by
 rw[List.take_succ_eq_append_getElem h]
 by_cases hk:k=0
 ·subst hk;simp[joinL]
 ·rw[if_neg hk,qxK _ _ (by intro e;have:=congrArg List.length e;rw[List.length_take,List.length_nil]at this;omega)];simp
theorem qbP (a:List ByteArray) (l:List (List UInt8)) (h:a.length=l.length):(zipL a l).length=l.length:=by
 induction a generalizing l with
 | nil=>cases l with
  | nil=>rfl
  | cons x r=>simp at h
 | cons s r ih=>cases l with
  | nil=>simp at h
  | cons x t=>simp only[zipL,List.length_cons]at h ⊢;rw[ih t (by omega)]
theorem qiJ (a:List ByteArray) (l:List (List UInt8)) (k:Nat) (h1:k<a.length) (h2:k<l.length) (h3:k<(zipL a l).length):(zipL a l)[k]=a[k].data.toList++58 :: l[k]:=by
 induction a generalizing l k with
 | nil=>simp at h1
 | cons s r ih=>cases l with
  | nil=>simp at h2
  | cons x t=>cases k with
   | zero=>rfl
   | succ k=>
    simp only[zipL,List.getElem_cons_succ]
    exact ih t k (by simpa using h1) (by simpa using h2) (by simpa [zipL] using h3)
end Go.Proofs.YtelogmjfekhmpaaGreatDoor
