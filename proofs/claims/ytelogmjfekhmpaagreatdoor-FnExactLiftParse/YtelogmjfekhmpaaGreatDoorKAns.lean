import Derived.Test.YtelogmjfekhmpaaGreatDoorKParse
import Derived.Test.YtelogmjfekhmpaaGreatDoorKOut1
import Derived.Test.YtelogmjfekhmpaaGreatDoorKFirst
namespace Go.Proofs.YtelogmjfekhmpaaGreatDoor
open Go.RowKit
def ansR (m:Nat) (s:ByteArray):K (m+1):=(readK (m+1) s).getD (⟨0,[],[]⟩:Kd (K m))
def okR (m:Nat) (s:ByteArray):Bool:=(readK (m+1) s).isSome
theorem qsM {m:Nat} {s:ByteArray} {k:K (m+1)} (h:readK (m+1) s=some k):ansR m s=k/\okR m s=true:=by
 unfold ansR okR;rw[h];exact⟨rfl,rfl⟩
theorem qsN {m:Nat} {s:ByteArray} (h:readK (m+1) s=none):ansR m s=(⟨0,[],[]⟩:Kd (K m))/\okR m s=false:=by
 unfold ansR okR;rw[h];exact⟨rfl,rfl⟩
theorem qoQ {n:Nat} {s:ByteArray} (h:¬ s.size<=800):readK n s=none:=by unfold readK;rw[if_neg h]
theorem xgS {n:Nat} {s:ByteArray} (h:∀ k,qaM n s.data.toList≠some (k,[])):readK n s=none:=by
 unfold readK
 split
 ·split
  ·next k hp=>exact absurd hp (h k)
  ·rfl
 ·rfl
theorem xdC {n:Nat} {s:ByteArray} {k:K n} (h:qaM n s.data.toList=some (k,[])) (hok:okK n k=false):readK n s=none:=by
 unfold readK
 split
 ·rw[h];simp only[hok,Bool.false_eq_true,if_false]
 ·rfl
theorem xdD {n:Nat} {s:ByteArray} {k:K n} (h8:s.size<=800) (h:qaM n s.data.toList=some (k,[])) (hok:okK n k=true):readK n s=some k:=by
 unfold readK
 rw[if_pos h8,h];simp only[hok,if_true]
theorem qwP (S:Nat->Prop) (w:World) (m:Nat):KindIn S w (m+1) (⟨0,[],[]⟩:Kd (K m)) (.int .i64 0) (.slice none 0 0) (.slice none 0 0):=
 ⟨rfl,rfl,⟨none,0,rfl,by simp[maxLen],fun s h=>(by cases h),fun h=>absurd rfl h⟩,⟨none,0,rfl,by simp[maxLen],fun h=>absurd rfl h⟩⟩
theorem xiX:∀ (n:Nat) (t:K n) (d:Int),goodK n t d=true->spKL n t+2<=2*cntK n t:=by
 intro n
 induction n with
 | zero=>intro t d h;simp[goodK]at h
 | succ n ih=>
  intro t d hg
  have aB:=hg
  simp only[goodK,Bool.and_eq_true]at aB
  have aA:cntK (n+1) t=1+sumL (fun x=>cntK n x) (Kd.kids t):=by simp only[cntK]
  have aC:(Kd.names t).length<=(Kd.kids t).length:=by
   by_cases h5:Kd.sort t=5
   ·have:=(xcW hg h5).1;omega
   ·rw[qhS hg h5];simp
  have key:∀ l:List (K n),(∀ x,x∈l->goodK n x (d+1)=true)->l.length+sumL (fun x=>1+spKL n x) l<=2*sumL (fun x=>cntK n x) l:=by
   intro l
   induction l with
   | nil=>intro _;simp[sumL]
   | cons a r ihr=>
    intro h
    have h1:=ih a (d+1) (h a (List.mem_cons_self ..))
    have h2:=ihr (fun x hx=>h x (List.mem_cons_of_mem _ hx))
    simp only[sumL,List.length_cons]
    omega
  have:=key (Kd.kids t) (fun x hx=>List.all_eq_true.1 aB.2 _ hx)
  rw[aA]
  show (Kd.names t).length+sumL (fun x=>1+spKL n x) (Kd.kids t)+2<=_
  omega
end Go.Proofs.YtelogmjfekhmpaaGreatDoor
