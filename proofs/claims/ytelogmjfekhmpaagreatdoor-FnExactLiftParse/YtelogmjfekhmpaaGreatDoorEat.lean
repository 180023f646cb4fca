import Derived.Test.YtelogmjfekhmpaaGreatDoorTextN
namespace Go.Proofs.YtelogmjfekhmpaaGreatDoor
open Go.RowKit
theorem qcT {p:UInt8->Bool} (a b:List UInt8) (h:∀ c,c∈a->p c=true) (hb:∀ c r,b=c :: r->p c=false):(a++b).takeWhile p=a:=by
 induction a with
 | nil=>cases b with
  | nil=>rfl
  | cons c r=>simp[hb c r rfl]
 | cons x r ih=>
  rw[List.cons_append,List.takeWhile_cons,h x (List.mem_cons_self ..)]
  simp only[if_true]
  rw[ih (fun c hc=>h c (List.mem_cons_of_mem _ hc))]
theorem qpD {p:UInt8->Bool} (a b:List UInt8) (h:∀ c,c∈a->p c=true) (hb:∀ c r,b=c :: r->p c=false):(a++b).dropWhile p=b:=by
 induction a with
 | nil=>cases b with
  | nil=>rfl
  | cons c r=>simp[hb c r rfl]
 | cons x r ih=>
  rw[List.cons_append,List.dropWhile_cons,h x (List.mem_cons_self ..)]
  simp only[if_true]
  exact ih (fun c hc=>h c (List.mem_cons_of_mem _ hc))
def qbS (c:UInt8) (s:List UInt8):Option (List UInt8 × List UInt8):=
 if s.contains c then some (s.takeWhile (· != c),s.dropWhile (· != c)) else none
def eatP (w s:List UInt8):Option (List UInt8):=if w.isPrefixOf s then some (s.drop w.length) else none
theorem qbR {w s r:List UInt8} (h:eatP w s=some r):s=w++r:=by
 unfold eatP at h
 split at h
 ·next hp=>
  cases h
  obtain⟨t,rfl⟩:=List.isPrefixOf_iff_prefix.1 hp
  simp
 ·cases h
theorem qdK (w r:List UInt8):eatP w (w++r)=some r:=by
 unfold eatP
 rw[if_pos (List.isPrefixOf_iff_prefix.2 ⟨r,rfl⟩)]
 simp
theorem qaE (c:UInt8) (r:List UInt8):eatP [c] (c :: r)=some r:=qdK [c] r
theorem qdL (c d:UInt8) (r:List UInt8) (h:d≠c):eatP [c] (d :: r)=none:=by
 unfold eatP
 rw[if_neg]
 simp only[List.isPrefixOf,Bool.and_true,beq_iff_eq]
 exact fun e=>h e.symm
theorem qdM {c:UInt8} {s w r:List UInt8} (h:qbS c s=some (w,r)):∃ r',r=c :: r' /\ s=w++c :: r' /\ ∀ x,x∈w->x≠c:=by
 unfold qbS at h
 split at h
 ·next hc=>
  cases h
  induction s with
  | nil=>simp at hc
  | cons x s ih=>
   by_cases hx:x=c
   ·subst hx;exact⟨s,by simp⟩
   ·have aA:s.contains c=true:=by
     have h1:c=x∨c∈s:=by simpa using hc
     rcases h1 with h1|h1
     ·exact absurd h1.symm hx
     ·simpa using h1
    obtain⟨r',h1,h2,h3⟩:=ih aA
    have hb:(x != c)=true:=by simpa using hx
    refine⟨r',?_,?_,?_⟩
    ·rw[List.dropWhile_cons,hb];simpa using h1
    ·rw[List.takeWhile_cons,hb];simpa using h2
    ·intro y hy
     rw[List.takeWhile_cons,hb]at hy
     simp only[if_true]at hy
     rcases List.mem_cons.1 hy with rfl|hy
     ·exact hx
     ·exact h3 y hy
 ·cases h
theorem qcU (c:UInt8) (w r:List UInt8) (h:∀ x,x∈w->x≠c):qbS c (w++c :: r)=some (w,c :: r):=by
 unfold qbS
 rw[if_pos (by simp)]
 have h1:∀ x,x∈w->(x != c)=true:=fun x hx=>by simpa using h x hx
 have h2:∀ x y,(c :: r)=x :: y->(x != c)=false:=by intro x y e;cases e;simp
 rw[qcT w (c :: r) h1 h2,qpD w (c :: r) h1 h2]
def tailL (first:Bool):List (List UInt8)->List UInt8
 | []=>[]
 | x :: r=>(if first=true then x else 44 :: x)++tailL false r
theorem qcM (x:List UInt8) (r:List (List UInt8)):tailL false (x :: r)=44 :: joinL (x :: r):=by
 induction r generalizing x with
 | nil=>simp[tailL,joinL]
 | cons y r ih=>rw[tailL,ih];simp[joinL]
theorem qcV (l:List (List UInt8)):tailL true l=joinL l:=by
 cases l with
 | nil=>rfl
 | cons x r=>
  cases r with
  | nil=>simp[tailL,joinL]
  | cons y r=>rw[tailL,qcM];simp[joinL]
theorem qeC {s:ByteArray} (h:nameB s=true):∀ c,c∈s.data.toList->qaV c=true:=by
 simp only[nameB,Bool.and_eq_true]at h
 exact List.all_eq_true.1 h.2
theorem nm_ne {c:UInt8} (h:qaV c=true):c≠58/\c≠125/\c≠44:=by
 refine⟨?_,?_,?_⟩ <;> (rintro rfl;exact absurd h (by decide))
theorem qjW {l:List ByteArray} (h:riseB l=true):∀ s,s∈l->nameB s=true:=by
 intro s hs
 obtain⟨i,hi,rfl⟩:=List.getElem_of_mem hs
 unfold riseB qdU at h
 have:=List.all_eq_true.1 h i (List.mem_range.2 hi)
 simp only[qdT,Bool.and_eq_true]at this
 have h2:=this.1
 rwa [List.getD_eq_getElem?_getD,List.getElem?_eq_getElem hi]at h2
theorem qrH (c:UInt8) (l:List UInt8) (k:Nat) (h:∀ x,x∈l.take k->x≠c) (he:l.drop k=c :: l.drop (k+1)):qbS c l=some (l.take k,l.drop k):=by
 have e:l=l.take k++c :: l.drop (k+1):=by rw[<- he];simp
 conv=>lhs;rw[e]
 rw[qcU c _ _ h,he]
theorem qkO (c:UInt8) (l:List UInt8) (h:∀ x,x∈l->x≠c):qbS c l=none:=by
 unfold qbS
 rw[if_neg]
 intro hc
 have:c∈l:=by simpa using hc
 exact h c this rfl
theorem qfV (s:ByteArray) (i k:Nat):(s.extract i (i+k)).toList=(s.data.toList.drop i).take k:=by
 rw[ByteArray.toList_eq]
 have:(s.extract i (i+k)).data.toList=(s.data.toList.drop i).take k:=by
  simp[ByteArray.data_extract,List.extract_eq_take_drop]
 exact this
theorem xfH (s:ByteArray) (i:Nat) (w:ByteArray) (he:(s.extract i (i+w.size)).toList=w.toList):eatP w.data.toList (s.data.toList.drop i)=some (s.data.toList.drop (i+w.size)):=by
 rw[qfV s i w.size,ByteArray.toList_eq]at he
 unfold eatP
 have hp:w.data.toList <+: s.data.toList.drop i:=by rw[<- he];exact List.take_prefix _ _
 rw[if_pos (List.isPrefixOf_iff_prefix.2 hp),List.drop_drop]
 simp
theorem xaH (s:ByteArray) (i:Nat) (w:ByteArray) (hi:i<=s.size) (h:¬ (i+w.size<=s.size/\(s.extract i (i+w.size)).toList=w.toList)):eatP w.data.toList (s.data.toList.drop i)=none:=by
 unfold eatP
 rw[if_neg]
 intro hp
 obtain⟨t,ht⟩:=List.isPrefixOf_iff_prefix.1 hp
 apply h
 have hl:=congrArg List.length ht
 simp at hl
 refine⟨by omega,?_⟩
 rw[qfV s i w.size,<- ht,ByteArray.toList_eq]
 have:w.size=w.data.toList.length:=by simp
 rw[this,List.take_left]
theorem qjX (s:ByteArray) (j:Nat) (h:j<s.size):s.data.toList.drop j=s[j] :: s.data.toList.drop (j+1):=by
 rw[List.drop_eq_getElem_cons (by simpa using h)]
 simp[ByteArray.getElem_eq_getElem_data]
theorem xaI (s:ByteArray) (i k:Nat) (c:UInt8) (h:i+k<s.size) (ha:∀ x,x∈(s.data.toList.drop i).take k->x≠c) (hc:s[i+k]≠c):∀ x,x∈(s.data.toList.drop i).take (k+1)->x≠c:=by
 intro x hx
 have hl:k<(s.data.toList.drop i).length:=by simp;omega
 rw[List.take_succ_eq_append_getElem hl]at hx
 rcases List.mem_append.1 hx with hx|hx
 ·exact ha x hx
 ·rw[List.mem_singleton]at hx
  subst hx
  simpa [ByteArray.getElem_eq_getElem_data] using hc
theorem qgA (s:ByteArray) (i k:Nat):s.extract i (i+k)=bs ((s.data.toList.drop i).take k):=by
 have:=qfV s i k
 rw[ByteArray.toList_eq]at this
 rw[<- this,bs_of]
end Go.Proofs.YtelogmjfekhmpaaGreatDoor
