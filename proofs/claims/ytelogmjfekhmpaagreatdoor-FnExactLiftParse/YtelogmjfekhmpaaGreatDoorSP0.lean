import Derived.Test.YtelogmjfekhmpaaGreatDoorNP1
import Derived.Test.YtelogmjfekhmpaaGreatDoorTRdP
import Derived.Test.YtelogmjfekhmpaaGreatDoorNB2
namespace Go.Proofs.YtelogmjfekhmpaaGreatDoor
open Go.RowKit
theorem ba_eq {a b:ByteArray} (h:(a==b)=true):a=b:=by
 rw[<- qcN]at h
 have h2:a.toList=b.toList:=by simpa using h
 apply ByteArray.ext
 apply Array.toList_inj.1
 rw[<- ByteArray.toList_eq,<- ByteArray.toList_eq]
 exact h2
theorem xiL (s:ByteArray):∀ (n k:Nat),opF s k n≠0->(wrd (opF s k n)==s)=true/\k<=opF s k n/\opF s k n<k+n:=by
 intro n
 induction n with
 | zero=>intro k h;exact absurd rfl h
 | succ n ih=>
  intro k h
  rw[opF]at h ⊢
  by_cases e:(wrd k==s)=true
  ·rw[if_pos e];exact⟨e,Nat.le_refl _,by omega⟩
  ·rw[if_neg e]at h ⊢
   obtain⟨h1,h2,h3⟩:=ih (k+1) h
   exact⟨h1,by omega,by omega⟩
theorem qpP {s:ByteArray} (h:opW s≠0):s=wrd (opW s)/\5<=opW s/\opW s<44:=by
 obtain⟨h1,h2,h3⟩:=xiL s 39 5 h
 exact⟨(ba_eq h1).symm,h2,h3⟩
theorem qwH (s:ByteArray):opW s<44:=by
 by_cases h:opW s=0
 ·omega
 ·exact (qpP h).2.2
theorem xfX:∀ k,k<44->5<=k->¬ (digC ((wrdL.getD k []).headD 0)=true∨(wrdL.getD k []).headD 0=45∨(wrdL.getD k []).headD 0=34∨wrdL.getD k []=[121,101,115]∨wrdL.getD k []=[110,111]∨wrdL.getD k []=[]):=by decide
theorem qwI {M:Nat} {s:ByteArray} {l:Int × Int × ByteArray} (h:leafW M s=some l):opW s=0:=by
 rcases Nat.eq_zero_or_pos (opW s) with h0|h0
 ·exact h0
 exfalso
 obtain⟨h1,h2,h3⟩:=qpP (s:=s) (by omega)
 have hw:=xfX (opW s) h3 h2
 have hs:s.data.toList=wrdL.getD (opW s) []:=by
  have h4:=congrArg (fun x:ByteArray=>x.data.toList) h1
  exact h4.trans (by simp[wrd,bs])
 rw[<- hs]at hw
 have hl:=qcW h
 unfold leafW at h
 cases hr:readT (M+1) s with
 | none=>rw[hr]at h;cases h
 | some t=>
  rw[hr]at h
  dsimp only at h
  split at h
  ·cases h
   dsimp only at hl
   have ht:=(qeX hr).2.2
   have hc:Nd.sort t=1∨Nd.sort t=2∨Nd.sort t=3:=by omega
   rw[txtL]at ht
   rcases hc with e|e|e
   ·rw[if_pos e]at ht
    have:=qdH (s:=s) (i:=0) (k:=Nd.num t) (post:=[]) (by simp[ht])
    have aA:lookB s 0=s.data.toList.headD 0:=by
     cases hq:s.data.toList with
     | nil=>exact absurd hq (fun e=>hw (by simp[e]))
     | cons c r=>exact lookT (s:=s) (i:=0) (r:=r) (by simp[hq])
    rw[aA]at this
    rcases this with q|q
    ·exact hw (.inl q)
    ·exact hw (.inr (.inl q))
   ·rw[if_neg (by omega),if_pos e]at ht
    exact hw (.inr (.inr (.inl (by rw[<- ht];rfl))))
   ·rw[if_neg (by omega),if_neg (by omega),if_pos e]at ht
    split at ht
    ·exact hw (.inr (.inr (.inr (.inl ht.symm))))
    ·exact hw (.inr (.inr (.inr (.inr (.inl ht.symm)))))
  ·cases h
theorem qxU (M:Nat):leafW M ⟨#[]⟩=none:=by
 cases h:leafW M ⟨#[]⟩ with
 | none=>rfl
 | some l=>
  exfalso
  have hl:=qcW h
  unfold leafW at h
  cases hr:readT (M+1) ⟨#[]⟩ with
  | none=>rw[hr]at h;cases h
  | some t=>
   rw[hr]at h
   dsimp only at h
   split at h
   ·cases h
    dsimp only at hl
    have ht:=(qeX hr).2.2
    have hc:Nd.sort t=1∨Nd.sort t=2∨Nd.sort t=3:=by omega
    rw[txtL]at ht
    rcases hc with e|e|e
    ·rw[if_pos e]at ht
     have:=qdH (s:=⟨#[]⟩) (i:=0) (k:=Nd.num t) (post:=[]) (by simp[ht])
     exact absurd this (by decide)
    ·rw[if_neg (by omega),if_pos e]at ht
     cases ht
    ·rw[if_neg (by omega),if_neg (by omega),if_pos e]at ht
     split at ht <;> cases ht
   ·cases h
theorem qiU:nameB ⟨#[]⟩=false:=by decide
theorem xbD:freeB ⟨#[]⟩=false:=by unfold freeB;rw[qiU];rfl
theorem qpQ:opW ⟨#[]⟩=0:=by decide
def wordD (ws:List ByteArray) (a:Nat):ByteArray:=ws.getD a ⟨#[]⟩
theorem qdI {ws:List ByteArray} {a:Nat} {s:ByteArray} (h:ws[a]?=some s):wordD ws a=s:=by
 unfold wordD;rw[List.getD_eq_getElem?_getD,h];rfl
theorem qbO {ws:List ByteArray} {a:Nat} (h:ws[a]?=none):wordD ws a=⟨#[]⟩:=by
 unfold wordD;rw[List.getD_eq_getElem?_getD,h];rfl
theorem qdQ {ws:List ByteArray} (h:∀ s,s∈ws->s.size<=3000) (a:Nat):(wordD ws a).size<=3000:=by
 cases e:ws[a]? with
 | none=>rw[qbO e];decide
 | some s=>rw[qdI e];exact h s (List.mem_of_getElem? e)
end Go.Proofs.YtelogmjfekhmpaaGreatDoor
