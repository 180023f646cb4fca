import Derived.Test.YtelogmjfekhmpaaGreatDoorSL3
namespace Go.Proofs.YtelogmjfekhmpaaGreatDoor
open Go.RowKit
def goodS:(m:Nat)->T m->Bool->Int->Bool
 | 0,_,_,_=>false
 | m+1,t,act,d=>decide (d<=24) && qdB (show Nd (T m) from t) act && ((Nd.kids t).zipIdx.all fun x=>goodS m x.1 (actAt (Nd.sort t).toNat x.2) (d+1))
theorem xhD:∀ (m:Nat) (t:T m) (act:Bool) (d:Int),goodS m t act d=(goodN m t d && (act==decide (36<=opT m t))):=by
 intro m
 induction m with
 | zero=>intro t act d;rfl
 | succ m ih=>
  intro t act d
  obtain⟨n,hn⟩:∃ n:Nd (T m),n=t:=⟨t,rfl⟩
  have e1:goodS (m+1) t act d=(decide (d<=24) && qdB n act && (n.kids.zipIdx.all fun x=>goodS m x.1 (actAt n.sort.toNat x.2) (d+1))):=by rw[hn];rfl
  have e2:goodN (m+1) t d=(decide (d<=24) && justB (poT m) n && n.kids.all (fun k=>goodN m k (d+1))):=by rw[hn];rfl
  have e3:opT (m+1) t=n.sort:=by rw[hn];rfl
  rw[e1,e2,e3]
  have hj:=qxW (poT m) n act
  have hk:(n.kids.zipIdx.all fun x=>goodS m x.1 (actAt n.sort.toNat x.2) (d+1))=(n.kids.all (fun k=>goodN m k (d+1)) && (n.kids.zipIdx.all fun x=>actAt n.sort.toNat x.2==decide (36<=opT m x.1))):=by
   rw[Bool.eq_iff_iff,Bool.and_eq_true,List.all_eq_true,List.all_eq_true,List.all_eq_true]
   constructor
   ·intro h
    refine⟨fun k hk=>?_,fun x hx=>?_⟩
    ·obtain⟨i,hi,rfl⟩:=List.getElem_of_mem hk
     have:=h (n.kids[i],i) (by rw[List.mem_zipIdx_iff_getElem?];simp[hi])
     rw[ih,Bool.and_eq_true]at this
     exact this.1
    ·have:=h x hx
     rw[ih,Bool.and_eq_true]at this
     exact this.2
   ·rintro ⟨h1,h2⟩ x hx
    rw[ih,Bool.and_eq_true]
    have:=List.mem_zipIdx hx
    exact⟨h1 x.1 (by rw[this.2.2];exact List.getElem_mem _),h2 x hx⟩
  have hp:(n.kids.all (fun k=>goodN m k (d+1)) && (n.kids.zipIdx.all fun x=>actAt n.sort.toNat x.2==decide (36<=opT m x.1)))=(n.kids.all (fun k=>goodN m k (d+1)) && (n.kids.zipIdx.all fun x=>poT m x.1==(if actAt n.sort.toNat x.2=true then 65 else 86))):=by
   cases hg:n.kids.all (fun k=>goodN m k (d+1)) with
   | false=>rfl
   | true=>
    rw[Bool.true_and,Bool.true_and,Bool.eq_iff_iff,List.all_eq_true,List.all_eq_true]
    rw[List.all_eq_true]at hg
    have key:∀ x,x∈n.kids.zipIdx->((actAt n.sort.toNat x.2==decide (36<=opT m x.1))=true↔(poT m x.1==(if actAt n.sort.toNat x.2=true then 65 else 86))=true):=by
     intro x hx
     have hm:=List.mem_zipIdx hx
     have aA:=hg x.1 (by rw[hm.2.2];exact List.getElem_mem _)
     have hr:1<=opT m x.1/\opT m x.1<=43:=by
      cases m with
      | zero=>simp[goodN]at aA
      | succ m=>
       simp only[goodN,Bool.and_eq_true]at aA
       have:=aA.1.2
       unfold justB at this
       simp only[Bool.and_eq_true,decide_eq_true_eq]at this
       exact this.1
     have aB:=xbH _ hr
     unfold poT
     rw[aB]
     cases actAt n.sort.toNat x.2 <;> by_cases h36:36<=opT m x.1 <;> simp[h36]
    exact⟨fun h x hx=>(key x hx).1 (h x hx),fun h x hx=>(key x hx).2 (h x hx)⟩
  rw[hk,hp]
  cases decide (d<=24) with
  | false=>rfl
  | true=>
   rw[Bool.true_and,Bool.true_and]
   rw[<- Bool.and_assoc,Bool.and_comm (qdB n act),Bool.and_assoc,hj]
   cases justB (poT m) n <;> cases n.kids.all (fun k=>goodN m k (d+1)) <;> cases (act==decide (36<=n.sort)) <;> rfl
end Go.Proofs.YtelogmjfekhmpaaGreatDoor
