import Derived.Test.YtelogmjfekhmpaaGreatDoorTOut0
import Derived.Test.YtelogmjfekhmpaaGreatDoorTRdP
namespace Go.Proofs.YtelogmjfekhmpaaGreatDoor
open Go.RowKit
theorem spL_le:∀ (n:Nat) (t:T n) (d:Int),goodT n t d=true->spL n t+4<=4*cntT n t:=by
 intro n
 induction n with
 | zero=>intro t d h;simp[goodT]at h
 | succ n ih=>
  intro t d h
  have key:∀ ks:List (T n),(∀ k,k∈ks->goodT n k (d+1)=true)->ks.length+sumL (fun k=>3+spL n k) ks<=4*sumL (fun k=>cntT n k) ks:=by
   intro ks
   induction ks with
   | nil=>intro _;simp[sumL]
   | cons k r ihk=>
    intro hk
    have h1:=ih k (d+1) (hk k (List.mem_cons_self ..))
    have h2:=ihk (fun x hx=>hk x (List.mem_cons_of_mem _ hx))
    simp only[sumL,List.length_cons]at h2 ⊢
    omega
  have hc:cntT (n+1) t=1+sumL (fun k=>cntT n k) (Nd.kids t):=rfl
  have hs:spL (n+1) t=(Nd.names t).length+sumL (fun k=>3+spL n k) (Nd.kids t):=rfl
  rw[hc,hs]
  have hk:=List.all_eq_true.1 (by simp only[goodT,Bool.and_eq_true]at h;exact h.2)
  have h0:=key (Nd.kids t) hk
  have hn:(Nd.names t).length<=(Nd.kids t).length:=by
   rcases qbT h with ⟨k,q0,q1,q2⟩|⟨y,q3,q1,q2⟩|⟨q1,q2⟩|⟨q1,q2⟩|⟨ks,q1,q3,q2⟩|⟨ns,ks,q1,q3,q4,q5,q2⟩|⟨q1,q2⟩|⟨y,q1,q3,q2⟩
   case inr.inr.inr.inr.inr.inl=>rw[q1];exact Nat.le_of_eq q3
   all_goals (rw[q1];exact Nat.zero_le _)
  omega
end Go.Proofs.YtelogmjfekhmpaaGreatDoor
