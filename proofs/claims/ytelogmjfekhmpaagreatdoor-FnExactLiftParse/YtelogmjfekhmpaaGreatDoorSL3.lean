import Derived.Test.YtelogmjfekhmpaaGreatDoorSL0
namespace Go.Proofs.YtelogmjfekhmpaaGreatDoor
open Go.RowKit
def nmOk (bd:Bool) (l:List ByteArray) (i:Nat):Bool:=nameB (l.getD i ByteArray.empty) && (!bd || freeB (l.getD i ByteArray.empty)) && !(decide (0<i) && (l.getD i ByteArray.empty==l.getD 0 ByteArray.empty))
def nmTo (bd:Bool) (l:List ByteArray) (j:Nat):Bool:=(List.range j).all (nmOk bd l)
theorem xbE (bd:Bool) (l:List ByteArray) (k:Nat):nmTo bd l (k+1)=(nmTo bd l k && nmOk bd l k):=by
 simp[nmTo,List.range_succ]
theorem qxV (bd:Bool) (l:List ByteArray) (k j:Nat) (h:k<j) (hf:nmOk bd l k=false):nmTo bd l j=false:=by
 unfold nmTo
 rw[List.all_eq_false]
 exact⟨k,List.mem_range.2 h,by simp[hf]⟩
def tailP {α:Type} (n:Nd α) (pre:List UInt8):Bool:=
 match pre with
 | [84]=>qaQ n.sort n.num n.text [] 0
 | [75]=>(n.num==0) && kindB n.text
 | [35]=>decide (lst n.sort.toNat<=n.num/\n.num<=mst n.sort.toNat) && n.text.toList.isEmpty
 | [78,35]=>decide (lst n.sort.toNat<=n.num/\n.num<=mst n.sort.toNat) && n.text.toList.isEmpty
 | _=>(n.num==0) && n.text.toList.isEmpty
theorem qrS (a:ByteArray) (h:freeB a=true):nameB a=true:=by
 simp only[freeB,Bool.and_eq_true]at h;exact h.1.1.1.1
theorem xbF (bd:Bool) (a:ByteArray):nmTo bd [a] 1=(nameB a && (!bd || freeB a)):=by
 simp[nmTo,nmOk,List.range_succ]
theorem quJ (a:ByteArray):(nameB a && (!true || freeB a))=freeB a:=by
 cases h:freeB a with
 | false=>simp
 | true=>rw[qrS a h];rfl
theorem nm_two (a b:ByteArray):nmTo true [a,b] 2=(freeB a && freeB b && !(b==a)):=by
 have e:nmTo true [a,b] 2=((nameB a && (!true || freeB a)) && ((nameB b && (!true || freeB b)) && !(b==a))):=by
  simp[nmTo,nmOk,List.range_succ]
 rw[e,quJ,quJ,Bool.and_assoc]
theorem xbG {α:Type} (n:Nd α) (k:Nat) (hk:k<44) (h24:k≠24):preC n (preL k)=((n.names.length==nmS k) && nmTo (bdS k) n.names n.names.length && tailP n (preL k)):=by
 have hz:∀ bd,nmTo bd n.names 0=true:=fun _=>rfl
 unfold nmS bdS
 rcases (qeD k hk).resolve_left h24 with e|e|e|e|e|e|e|e
 all_goals rw[e]
 ·cases hn:n.names with
  | nil=>simp[preC,tailP,hn,nmTo]
  | cons a q=>simp[preC,hn];omega
 ·cases hn:n.names with
  | nil=>simp[preC,tailP,hn,nmTo]
  | cons a q=>simp[preC,hn];omega
 ·cases hn:n.names with
  | nil=>simp[preC,tailP,hn,nmTo]
  | cons a q=>simp[preC,hn];omega
 ·cases hn:n.names with
  | nil=>simp[preC,tailP,hn,nmTo]
  | cons a q=>simp[preC,hn];omega
 ·match hn:n.names with
  | []=>simp[preC,hn]
  | [a]=>
   have e1:nmTo (([88]:List UInt8).contains 88) [a] 1=freeB a:=by rw[xbF];exact quJ a
   simp only[preC,tailP,hn,List.length_singleton]
   rw[show (List.filter (fun p:UInt8=>p==78 || p==88) [88]).length=1 from rfl,e1]
   simp[Bool.and_comm]
  | a :: b :: q=>simp[preC,hn]
 ·match hn:n.names with
  | []=>simp[preC,hn]
  | [a]=>
   have e1:nmTo (([78]:List UInt8).contains 88) [a] 1=nameB a:=by rw[xbF];simp
   simp only[preC,tailP,hn,List.length_singleton]
   rw[show (List.filter (fun p:UInt8=>p==78 || p==88) [78]).length=1 from rfl,e1]
   simp[Bool.and_comm]
  | a :: b :: q=>simp[preC,hn]
 ·match hn:n.names with
  | []=>simp[preC,hn]
  | [a]=>simp[preC,hn]
  | [a,b]=>
   have e1:nmTo (([88,88]:List UInt8).contains 88) [a,b] 2=(freeB a && freeB b && !(b==a)):=nm_two a b
   simp only[preC,tailP,hn,List.length_cons,List.length_nil]
   rw[show (List.filter (fun p:UInt8=>p==78 || p==88) [88,88]).length=2 from rfl,e1]
   simp[Bool.and_comm]
  | a :: b :: c :: q=>simp[preC,hn]
 ·match hn:n.names with
  | []=>simp[preC,hn]
  | [a]=>
   have e1:nmTo (([78,35]:List UInt8).contains 88) [a] 1=nameB a:=by rw[xbF];simp
   simp only[preC,tailP,hn,List.length_singleton]
   rw[show (List.filter (fun p:UInt8=>p==78 || p==88) [78,35]).length=1 from rfl,e1]
   simp[Bool.and_comm]
  | a :: b :: q=>simp[preC,hn]
def qdB {α:Type} (n:Nd α) (act:Bool):Bool:=
 decide (1<=n.sort/\n.sort<=43) && (act==decide (36<=n.sort)) &&
  (if n.sort=24 then (n.num==0) && n.text.toList.isEmpty && riseB n.names && (n.names.length==n.kids.length) && !(n.names.any (fun y=>y==bs [101,110,100]))
   else (n.kids.length==(kdV n.sort.toNat).length) && preC n (preL n.sort.toNat))
def actAt (k i:Nat):Bool:=decide (k≠24) && ((kdT' k).getD i 0==97)
where kdT' (k:Nat):List UInt8:=kdS k
theorem xbH (op:Int) (h:1<=op/\op<=43):poF op=if 36<=op then 65 else 86:=by
 unfold poF
 rw[if_neg (by omega)]
 by_cases h2:op<36
 ·rw[if_pos h2,if_neg (by omega)]
 ·rw[if_neg h2,if_pos (by omega)]
theorem qxW {α:Type} (po:α->Int) (n:Nd α) (act:Bool) :
  (qdB n act && (n.kids.zipIdx.all fun x=>po x.1==(if actAt n.sort.toNat x.2=true then 65 else 86)))=(justB po n && (act==decide (36<=n.sort))):=by
 by_cases hr:1<=n.sort/\n.sort<=43
 case neg=>
  have h1:qdB n act=false:=by unfold qdB;rw[decide_eq_false hr];rfl
  have h2:justB po n=false:=by unfold justB;rw[decide_eq_false hr];rfl
  rw[h1,h2];rfl
 unfold qdB
 rw[decide_eq_true hr,Bool.true_and]
 cases ha:(act==decide (36<=n.sort)) with
 | false=>simp
 | true=>
  rw[Bool.and_true,Bool.true_and]
  by_cases h24:n.sort=24
  ·rw[if_pos h24,qdW po n h24,h24,show (24:Int).toNat=24 from rfl]
   have hk:(n.kids.zipIdx.all fun x=>po x.1==(if actAt 24 x.2=true then 65 else 86))=n.kids.all (fun x=>po x==86):=by
    have:∀ i,actAt 24 i=false:=fun i=>by simp[actAt]
    simp only[this]
    rw[Bool.eq_iff_iff,List.all_eq_true,List.all_eq_true]
    constructor
    ·intro h x hx
     obtain⟨i,hi,rfl⟩:=List.getElem_of_mem hx
     exact h (n.kids[i],i) (by rw[List.mem_zipIdx_iff_getElem?];simp[hi])
    ·intro h x hx
     have:=List.mem_zipIdx hx
     exact h x.1 (by rw[this.2.2];exact List.getElem_mem _)
   rw[hk]
   unfold qeN
   by_cases hl:n.names.length=n.kids.length
   ·have aB:(n.names.length==n.kids.length)=true:=by simp[hl]
    rw[aB]
    have hf:qdG po n n.names.length=(riseB n.names && !(n.names.any (fun y=>y==bs [101,110,100])) && n.kids.all (fun x=>po x==86)):=by
     rw[Bool.eq_iff_iff]
     simp only[qdG,riseB,qdU,Bool.and_eq_true,List.all_eq_true,List.mem_range,Bool.not_eq_true',List.any_eq_false,qcO]
     constructor
     ·intro h
      refine⟨⟨fun i hi=>(h i hi).1.1,fun y hy=>?_⟩,fun x hx=>?_⟩
      ·obtain⟨i,hi,rfl⟩:=List.getElem_of_mem hy
       have:=(h i hi).1.2
       simp only[List.getD_eq_getElem?_getD,List.getElem?_eq_getElem hi,Option.getD_some]at this
       rw[this];decide
      ·obtain⟨i,hi,rfl⟩:=List.getElem_of_mem hx
       have:=(h i (by omega)).2
       simpa [List.getD_eq_getElem?_getD,hi] using this
     ·rintro ⟨⟨h1,h2⟩,h3⟩ i hi
      have aD:i<n.kids.length:=by omega
      refine⟨⟨h1 i hi,?_⟩,?_⟩
      ·have:=h2 n.names[i] (List.getElem_mem hi)
       simp only[List.getD_eq_getElem?_getD,List.getElem?_eq_getElem hi,Option.getD_some]
       simpa using this
      ·have:=h3 n.kids[i] (List.getElem_mem aD)
       simpa [List.getD_eq_getElem?_getD,aD] using this
    rw[hf]
    cases (n.num==0) <;> cases n.text.toList.isEmpty <;> cases riseB n.names <;> cases (n.names.any (fun y=>y==bs [101,110,100])) <;> cases n.kids.all (fun x=>po x==86) <;> rfl
   ·have aB:(n.names.length==n.kids.length)=false:=by simp[hl]
    rw[aB];simp
  ·rw[if_neg h24,qfC po n hr.1 hr.2 h24]
   have aE:n.sort.toNat<44:=by omega
   have aC:n.sort.toNat≠24:=by omega
   generalize n.sort.toNat=k at *
   have aF:((n.kids.length==(kdV k).length) && (n.kids.zipIdx.all fun x=>po x.1==(if actAt k x.2=true then 65 else 86)))=decide (n.kids.map po=(kdV k).map (fun v=>(v.toNat:Int))):=by
    have aA:∀ i (h:i<(kdV k).length),(if actAt k i=true then (65:Int) else 86)=(((kdV k)[i]).toNat:Int):=by
     intro i hi
     have hv:=qiL k _ (List.getElem_mem hi)
     have hm:(kdS k).getD i 0=if (kdV k)[i]=65 then 97 else 118:=by
      unfold kdS;simp[List.getD_eq_getElem?_getD,hi]
     unfold actAt actAt.kdT'
     rw[hm,decide_eq_true aC]
     rcases hv with e|e <;> rw[e] <;> rfl
    rw[Bool.eq_iff_iff,decide_eq_true_eq,Bool.and_eq_true,List.all_eq_true,beq_iff_eq]
    constructor
    ·rintro ⟨hl,h⟩
     apply List.ext_getElem
     ·simpa using hl
     ·intro i h1 h2
      simp only[List.length_map]at h1 h2
      have:=h (n.kids[i],i) (by rw[List.mem_zipIdx_iff_getElem?];simp[h1])
      simp only[beq_iff_eq]at this
      rw[List.getElem_map,List.getElem_map,this,aA i h2]
    ·intro h
     have hl:n.kids.length=(kdV k).length:=by simpa using congrArg List.length h
     refine⟨hl,fun x hx=>?_⟩
     have hm:=List.mem_zipIdx hx
     have hi:x.2<n.kids.length:=by omega
     have e:(n.kids.map po)[x.2]?=((kdV k).map (fun v=>(v.toNat:Int)))[x.2]?:=by rw[h]
     simp only[List.getElem?_map,List.getElem?_eq_getElem hi,List.getElem?_eq_getElem (show x.2<(kdV k).length by omega),Option.map_some,Option.some.injEq]at e
     have aG:x.1=n.kids[x.2]:=by simpa using hm.2.2
     rw[aG,e,aA x.2 (by omega)];simp
   rw[<- aF]
   cases (n.kids.length==(kdV k).length) <;> cases preC n (preL k) <;> simp
end Go.Proofs.YtelogmjfekhmpaaGreatDoor
