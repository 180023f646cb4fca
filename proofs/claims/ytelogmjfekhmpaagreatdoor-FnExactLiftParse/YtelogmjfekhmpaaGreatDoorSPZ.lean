import Derived.Test.YtelogmjfekhmpaaGreatDoorNW3
namespace Go.Proofs.YtelogmjfekhmpaaGreatDoor
open Go.RowKit
theorem qzN (s m:Int) (x:ByteArray) (h:qaQ s m x [] 0=true) (h3:s<=3) (h1:1<=s):x.size<=800:=by
 have hl:=qxE s m x h
 have hc:s=1∨s=2∨s=3:=by omega
 rcases hc with rfl|rfl|rfl
 ·simp only[qaQ,if_pos,Bool.and_eq_true]at h
  have:=qaG _ h.1.1.2
  omega
 ·have e:leafL 2 m x=34 :: x.data.toList++[34]:=by
   unfold leafL
   show (if (2:Int)=1 then _ else if (2:Int)=2 then _ else _)=_
   rw[if_neg (by decide),if_pos rfl];rfl
  rw[e]at hl
  simp at hl
  omega
 ·rw[qaQ,if_neg (by decide),if_neg (by decide),if_pos rfl]at h
  simp only[Bool.and_eq_true]at h
  have:=qaG _ h.1.1.2
  omega
theorem xjQ:∀ (m:Nat) (t:T m) (d:Int),goodN m t d=true->szT m t+100<=1000*cntT m t:=by
 intro m
 induction m with
 | zero=>intro t d h;simp[goodN]at h
 | succ m ih=>
  intro t d h
  simp only[goodN,Bool.and_eq_true,List.all_eq_true]at h
  obtain⟨⟨-,hj⟩,hk⟩:=h
  obtain⟨n,hn⟩:∃ n:Nd (T m),n=t:=⟨t,rfl⟩
  have hc:cntT (m+1) t=1+sumL (fun k=>cntT m k) n.kids:=by rw[hn];rfl
  have hl:szT (m+1) t=n.text.size+szN n.names+sumL (fun k=>szT m k+1) n.kids:=by rw[hn];rfl
  have aE:∀ x,x∈n.kids->goodN m x (d+1)=true:=by rw[hn];exact hk
  have aA:justB (poT m) n=true:=by rw[hn];exact hj
  rw[hc,hl]
  have aF:sumL (fun x=>szT m x+100) n.kids<=1000*sumL (fun x=>cntT m x) n.kids:=by
   rw[<- qlB]
   exact qpC _ _ _ (fun x hx=>ih x (d+1) (aE x hx))
  have aL:sumL (fun x=>szT m x+1) n.kids+9*n.kids.length<=sumL (fun x=>szT m x+100) n.kids:=by
   have:∀ l:List (T m),sumL (fun x=>szT m x+1) l+9*l.length<=sumL (fun x=>szT m x+100) l:=by
    intro l
    induction l with
    | nil=>simp[sumL]
    | cons a r ih2=>simp only[sumL,List.length_cons];omega
   exact this _
  obtain⟨k,aI⟩:∃ k:Nat,n.sort=(k:Int):=⟨n.sort.toNat,by
   have h:=aA
   unfold justB at h;simp only[Bool.and_eq_true,decide_eq_true_eq]at h;omega⟩
  have hr:1<=n.sort/\n.sort<=43:=by
   have h:=aA
   unfold justB at h;simp only[Bool.and_eq_true,decide_eq_true_eq]at h;exact h.1
  obtain⟨aB,aC,aJ,aK⟩:=qlL (poT m) n k aI aA
  have aG:n.sort.toNat=k:=by omega
  by_cases h24:n.sort=24
  ·rw[qdW (poT m) n h24]at aA
   simp only[Bool.and_eq_true]at aA
   have hx:=qaG _ aA.2.2
   have hf:=qoZ (poT m) n aA.1
   omega
  rw[qfC (poT m) n hr.1 hr.2 h24,aG]at aA
  simp only[Bool.and_eq_true]at aA
  by_cases h3:n.sort<=3
  ·have hx:=qzN _ _ _ (aC (by have:k=1∨k=2∨k=3:=by omega
                      rcases this with rfl|rfl|rfl <;> decide)) h3 hr.1
   have aH:preL k=[84]:=by
    have:k=1∨k=2∨k=3:=by omega
    rcases this with rfl|rfl|rfl <;> decide
   have hp:=aA.1
   rw[aH]at hp
   simp only[preC,Bool.and_eq_true,beq_iff_eq]at hp
   have aD:n.names=[]:=List.eq_nil_of_length_eq_zero (by omega)
   rw[aD]
   simp only[szN]
   omega
  by_cases h4:n.sort=4
  ·have hp:=aA.1
   rw[show k=4 by omega,pre_name.1]at hp
   simp only[preC,Bool.and_eq_true]at hp
   have hx:=qaG _ hp.1.2
   match aD:n.names,hp.2 with
   | [a],h2=>
    have:a.size<=8:=by
     simp only[freeB,nameB,Bool.and_eq_true,decide_eq_true_eq]at h2;exact h2.1.1.1.1.1.1.2
    simp only[szN];omega
  have hp:=qxD n k (by omega) aA.1 aB (by omega)
  have:n.text.size<=(if n.text.size=0 then 0 else n.text.size+1):=by split <;> omega
  omega
end Go.Proofs.YtelogmjfekhmpaaGreatDoor
