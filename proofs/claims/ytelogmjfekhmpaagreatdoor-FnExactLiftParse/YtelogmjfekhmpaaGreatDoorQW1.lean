import Derived.Test.YtelogmjfekhmpaaGreatDoorQW0
import Derived.Lib.OthersKept
import Derived.WalkSmall
namespace Go.Proofs.YtelogmjfekhmpaaGreatDoor
open Go.RowKit
theorem qnA {c:Nat} (h:Utf8.valid (c:Int)=true):((c:Int)<55296∨(57343<(c:Int)/\(c:Int)<=1114111)):=by
 unfold Utf8.valid at h
 simp only[Bool.or_eq_true,Bool.and_eq_true,decide_eq_true_eq]at h
 omega
theorem qnB (s:ByteArray) (pos:Nat) (h:pos<s.size) (ha:128<=(s[pos]'h).toNat) :
  pos+(Utf8.decode s pos).2<=s.size/\(∀ j (hj:j<s.size),pos<=j->j<pos+(Utf8.decode s pos).2->128<=(s[j]'hj).toNat)/\(((Utf8.decode s pos).1:Int)=65533∨(Utf8.valid ((Utf8.decode s pos).1:Int)=true/\(((Utf8.decode s pos).1:Int)<55296∨(57343<((Utf8.decode s pos).1:Int)/\((Utf8.decode s pos).1:Int)<=1114111)))):=by
 suffices H:∃ r d,Utf8.decode s pos=(r,d)/\(pos+d<=s.size/\(∀ j (hj:j<s.size),pos<=j->j<pos+d->128<=(s[j]'hj).toNat)/\((r:Int)=65533∨(Utf8.valid (r:Int)=true/\((r:Int)<55296∨(57343<(r:Int)/\(r:Int)<=1114111))))) by
  obtain⟨r,d,e,hr⟩:=H
  rw[e];exact hr
 have one:pos+1<=s.size/\(∀ j (hj:j<s.size),pos<=j->j<pos+1->128<=(s[j]'hj).toNat)/\((Utf8.runeError:Int)=65533∨(Utf8.valid (Utf8.runeError:Int)=true/\((Utf8.runeError:Int)<55296∨(57343<(Utf8.runeError:Int)/\(Utf8.runeError:Int)<=1114111)))):=⟨h,fun j hj h1 h2=>by
  have:j=pos:=by omega
  subst this;exact ha,.inl rfl⟩
 have cont:∀ k,(decide (pos+k<s.size) && (s.get! (pos+k)).toNat / 64==2)=true->∃ hk:pos+k<s.size,128<=(s[pos+k]'hk).toNat:=fun k hk=>by
  simp only[Bool.and_eq_true,decide_eq_true_eq,beq_iff_eq]at hk
  refine⟨hk.1,?_⟩
  have:=hk.2
  have hg:=get_at s (pos+k) hk.1
  rw[Nat.add_zero]at hg
  rw[hg]at this
  omega
 have aA:(s.get! (pos+0)).toNat=(s[pos]'h).toNat:=by rw[get_at s pos h]
 unfold Utf8.decode
 simp only[aA]
 have aB:¬ (s[pos]'h).toNat<128:=by omega
 simp only[if_neg aB]
 split
 ·rename_i h1
  simp only[Bool.and_eq_true]at h1
  obtain⟨k1,c1⟩:=cont 1 (by simpa using h1.2)
  split
  ·refine⟨_,_,rfl,by omega,fun j hj j1 j2=>?_,.inr ⟨?_,.inl ?_⟩⟩
   ·have:j=pos∨j=pos+1:=by omega
    rcases this with rfl|rfl
    ·exact ha
    ·exact c1
   ·unfold Utf8.valid
    simp only[Bool.or_eq_true,Bool.and_eq_true,decide_eq_true_eq]
    left
    have h5:=h1.1
    simp only[beq_iff_eq]at h5
    omega
   ·have h5:=h1.1
    simp only[beq_iff_eq]at h5
    omega
  ·exact⟨_,_,rfl,one⟩
 split
 ·rename_i h1
  simp only[Bool.and_eq_true]at h1
  obtain⟨k1,c1⟩:=cont 1 (by simpa using h1.1.2)
  obtain⟨k2,c2⟩:=cont 2 (by simpa using h1.2)
  split
  ·rename_i hv
   simp only[Bool.and_eq_true]at hv
   refine⟨_,_,rfl,by omega,fun j hj j1 j2=>?_,.inr ⟨hv.2,qnA hv.2⟩⟩
   have:j=pos∨j=pos+1∨j=pos+2:=by omega
   rcases this with rfl|rfl|rfl
   ·exact ha
   ·exact c1
   ·exact c2
  ·exact⟨_,_,rfl,one⟩
 split
 ·rename_i h1
  simp only[Bool.and_eq_true]at h1
  obtain⟨k1,c1⟩:=cont 1 (by simpa using h1.1.1.2)
  obtain⟨k2,c2⟩:=cont 2 (by simpa using h1.1.2)
  obtain⟨k3,c3⟩:=cont 3 (by simpa using h1.2)
  split
  ·rename_i hv
   simp only[Bool.and_eq_true]at hv
   refine⟨_,_,rfl,by omega,fun j hj j1 j2=>?_,.inr ⟨hv.2,qnA hv.2⟩⟩
   have:j=pos∨j=pos+1∨j=pos+2∨j=pos+3:=by omega
   rcases this with rfl|rfl|rfl|rfl
   ·exact ha
   ·exact c1
   ·exact c2
   ·exact c3
  ·exact⟨_,_,rfl,one⟩
 ·exact⟨_,_,rfl,one⟩
theorem qjQ {l:List UInt8} {p:UInt8->Bool} {k:Nat} (hk:k<=l.length) (h1:∀ j (h:j<l.length),j<k->p l[j]=true) (h2:∀ h:k<l.length,p l[k]=false):(l.takeWhile p).length=k:=by
 induction l generalizing k with
 | nil=>simp at hk;simp[hk]
 | cons c r ih=>
  cases k with
  | zero=>
   have:=h2 (by simp)
   simp only[List.getElem_cons_zero]at this
   simp[this]
  | succ k=>
   have h0:=h1 0 (by simp) (by omega)
   simp only[List.getElem_cons_zero]at h0
   rw[List.takeWhile_cons,h0]
   simp only[if_true,List.length_cons,Nat.add_right_cancel_iff]
   refine ih (by simpa using hk) (fun j h hj=>?_) (fun h=>?_)
   ·have:=h1 (j+1) (by simpa using h) (by omega)
    simpa using this
   ·have:=h2 (by simpa using h)
    simpa using this
theorem qjR {s:ByteArray} {k:Nat} (h0:0<s.size) (hq:(s[0]'h0).toNat≠34) (hk1:1<=k) (hk:k<=s.size) (h1:∀ j (h:j<s.size),j<k->qaR (s[j]'h)=false) (h2:∀ h:k<s.size,qaR (s[k]'h)=true):qaW s.data.toList=k:=by
 have aA:s.data.toList.length=s.size:=by simp
 have aB:∀ j (h:j<s.size),s.data.toList[j]'(by rw[aA];exact h)=s[j]'h:=fun j h=>by simp[ByteArray.getElem_eq_getElem_data]
 cases hl:s.data.toList with
 | nil=>rw[hl]at aA;simp at aA;omega
 | cons c r=>
  have hc:c=s[0]'h0:=by have:=aB 0 h0;simpa [hl] using this
  have aC:¬ c=34:=fun e=>hq (by rw[<- hc,e];rfl)
  have hr:∀ j (h:j<r.length),r[j]=s[j+1]'(by rw[<- aA,hl];simpa using h):=fun j h=>by
   have:=aB (j+1) (by rw[<- aA,hl];simpa using h)
   simpa [hl] using this
  have aD:r.length+1=s.size:=by rw[<- aA,hl];rfl
  have:(r.takeWhile (fun x=>!qaR x)).length=k - 1:=by
   refine qjQ (by omega) (fun j h hj=>?_) (fun h=>?_)
   ·rw[hr j h,h1 (j+1) (by omega) (by omega)];rfl
   ·rw[hr (k - 1) h]
    have:=h2 (by omega)
    simp only[show k - 1+1=k by omega,this];rfl
  rw[qaW,if_neg aC,this]
  omega
theorem qhU {s:ByteArray} {k:Nat} (h0:0<s.size) (hq:(s[0]'h0).toNat=34) (hk1:1<=k) (hk:k<=s.size) (h1:∀ j (h:j<s.size),1<=j->j<k->(s[j]'h).toNat≠34) (h2:∀ h:k<s.size,(s[k]'h).toNat=34):qaW s.data.toList=if k<s.size then k+1 else k:=by
 have aA:s.data.toList.length=s.size:=by simp
 have aB:∀ j (h:j<s.size),s.data.toList[j]'(by rw[aA];exact h)=s[j]'h:=fun j h=>by simp[ByteArray.getElem_eq_getElem_data]
 have aC:∀ x:UInt8,x.toNat=34↔x=34:=fun x=>⟨fun h=>UInt8.toNat_inj.1 (by rw[h];rfl),fun h=>by rw[h];rfl⟩
 cases hl:s.data.toList with
 | nil=>rw[hl]at aA;simp at aA;omega
 | cons c r=>
  have hc:c=s[0]'h0:=by have:=aB 0 h0;simpa [hl] using this
  have aD:c=34:=by rw[hc];exact (aC _).1 hq
  have hr:∀ j (h:j<r.length),r[j]=s[j+1]'(by rw[<- aA,hl];simpa using h):=fun j h=>by
   have:=aB (j+1) (by rw[<- aA,hl];simpa using h)
   simpa [hl] using this
  have aE:r.length+1=s.size:=by rw[<- aA,hl];rfl
  have ht:(r.takeWhile (fun x=>!(x==34))).length=k - 1:=by
   refine qjQ (by omega) (fun j h hj=>?_) (fun h=>?_)
   ·rw[hr j h]
    have:=h1 (j+1) (by omega) (by omega) (by omega)
    simp only[Bool.not_eq_true',beq_eq_false_iff_ne]
    exact fun e=>this ((aC _).2 e)
   ·rw[hr (k - 1) h]
    have:=h2 (by omega)
    simp only[show k - 1+1=k by omega,(aC _).1 this];rfl
  rw[qaW,if_pos aD,ht]
  by_cases hks:k<s.size
  ·rw[if_pos (by omega),if_pos hks];omega
  ·rw[if_neg (by omega),if_neg hks];omega
end Go.Proofs.YtelogmjfekhmpaaGreatDoor
