import Derived.Test.YtelogmjfekhmpaaGreatDoorTParse
import Derived.Test.YtelogmjfekhmpaaGreatDoorTOut1
import Derived.Test.YtelogmjfekhmpaaGreatDoorSpLe
namespace Go.Proofs.YtelogmjfekhmpaaGreatDoor
open Go.RowKit
theorem qwR {x l r:List UInt8} (h:eatP x l=some r):l.length=x.length+r.length:=by
 have:=congrArg List.length (qbR h)
 simpa using this
theorem xdR {α:Type} (f:List UInt8->Option (α × List UInt8)) (P:α->Prop) (N:Nat) (hf:∀ s t r,s.length<=N->f s=some (t,r)->P t/\r.length<s.length) :
  ∀ (fuel:Nat) (acc:List α) (s:List UInt8) (l:List α) (r:List UInt8),s.length<=N->(∀ x,x∈acc->P x)->listQ f fuel acc s=some (l,r)->(∀ x,x∈l->P x)/\l.length<=acc.length+s.length:=by
 intro fuel
 induction fuel with
 | zero=>intro acc s l r _ _ h;simp[listQ]at h
 | succ k ih=>
  intro acc s l r hN aA h
  rw[listQ]at h
  cases h1:eatP [93] s with
  | some r1=>
   rw[h1]at h
   simp only[Option.some.injEq,Prod.mk.injEq]at h
   obtain⟨rfl,rfl⟩:=h
   exact⟨aA,by omega⟩
  | none=>
   rw[h1]at h
   simp only at h
   cases h2:(if acc.length=0 then some s else eatP [44] s) with
   | none=>rw[h2]at h;cases h
   | some s1=>
    rw[h2]at h
    simp only at h
    have aB:s1.length<=s.length:=by
     by_cases h0:acc.length=0
     ·rw[if_pos h0]at h2;cases h2;exact Nat.le_refl _
     ·rw[if_neg h0]at h2;have:=qwR h2;simp at this;omega
    cases h3:f s1 with
    | none=>rw[h3]at h;cases h
    | some x=>
     obtain⟨t,r2⟩:=x
     rw[h3]at h
     simp only at h
     obtain⟨p1,p2⟩:=hf s1 t r2 (by omega) h3
     obtain⟨q1,q2⟩:=ih (acc++[t]) r2 l r (by omega) (fun x hx=>by
      rcases List.mem_append.1 hx with hx|hx
      ·exact aA x hx
      ·rw[List.mem_singleton]at hx;subst hx;exact p1) h
     exact⟨q1,by rw[List.length_append,List.length_singleton]at q2;omega⟩
theorem xdS {α:Type} (f:List UInt8->Option (α × List UInt8)) (P:α->Prop) (N:Nat) (hf:∀ s t r,s.length<=N->f s=some (t,r)->P t/\r.length<s.length) :
  ∀ (fuel:Nat) (ns:List ByteArray) (acc:List α) (s:List UInt8) (nl:List ByteArray) (l:List α) (r:List UInt8),s.length<=N->(∀ x,x∈acc->P x)->(∀ x,x∈ns->x.size<=N)->formQ f fuel ns acc s=some (nl,l,r) ->
   (∀ x,x∈l->P x)/\(∀ x,x∈nl->x.size<=N)/\l.length<=acc.length+s.length/\nl.length<=ns.length+s.length:=by
 intro fuel
 induction fuel with
 | zero=>intro ns acc s nl l r _ _ _ h;simp[formQ]at h
 | succ k ih=>
  intro ns acc s nl l r hN aA aB h
  rw[formQ]at h
  cases h1:eatP [125] s with
  | some r1=>
   rw[h1]at h
   simp only[Option.some.injEq,Prod.mk.injEq]at h
   obtain⟨rfl,rfl,rfl⟩:=h
   exact⟨aA,aB,by omega,by omega⟩
  | none=>
   rw[h1]at h
   simp only at h
   cases h2:(if ns.length=0 then some s else eatP [44] s) with
   | none=>rw[h2]at h;cases h
   | some s1=>
    rw[h2]at h
    simp only at h
    have aC:s1.length<=s.length:=by
     by_cases h0:ns.length=0
     ·rw[if_pos h0]at h2;cases h2;exact Nat.le_refl _
     ·rw[if_neg h0]at h2;have:=qwR h2;simp at this;omega
    cases hu:qbS 58 s1 with
    | none=>rw[hu]at h;cases h
    | some x=>
    obtain⟨w,s2⟩:=x
    rw[hu]at h
    simp only at h
    obtain⟨s3,u1,u2,-⟩:=qdM hu
    subst u1
    have hl:=congrArg List.length u2
    rw[List.length_append,List.length_cons]at hl
    simp only[List.drop_succ_cons,List.drop_zero]at h
    cases h3:f s3 with
    | none=>rw[h3]at h;cases h
    | some x=>
     obtain⟨t,r2⟩:=x
     rw[h3]at h
     simp only at h
     obtain⟨p1,p2⟩:=hf s3 t r2 (by omega) h3
     obtain⟨q1,q2,q3,q4⟩:=ih (ns++[bs w]) (acc++[t]) r2 nl l r (by omega) (fun x hx=>by
      rcases List.mem_append.1 hx with hx|hx
      ·exact aA x hx
      ·rw[List.mem_singleton]at hx;subst hx;exact p1) (fun x hx=>by
      rcases List.mem_append.1 hx with hx|hx
      ·exact aB x hx
      ·rw[List.mem_singleton]at hx;subst hx;rw[qaJ];omega) h
     exact⟨q1,q2,by rw[List.length_append,List.length_singleton]at q3;omega,by rw[List.length_append,List.length_singleton]at q4;omega⟩
theorem qeK {n:Nat} {so nu:Int} {tx:ByteArray} {na:List ByteArray} {ki:List (T n)} (h1:so=1->tx=ByteArray.empty/\na=[]/\ki=[]) (h2:so=2->nu=0/\na=[]/\ki=[]) (h3:so=3->tx=ByteArray.empty/\na=[]/\ki=[]/\(nu=0∨nu=1))
  (h4:so=4->nu=0/\tx=ByteArray.empty/\na=[]) (h5:so=5->nu=0/\tx=ByteArray.empty) (h6:so=6->nu=0/\tx=ByteArray.empty/\na=[]) (h7 : -999999999<=nu) (h8:nu<=999999999) (h9:tx.size<=10000) (h10:na.length<=10000)
  (h11:∀ s,s∈na->s.size<=10000) (h12:ki.length<=10000) (h13:∀ k,k∈ki->qeR n k):qeR (n+1) (⟨so,nu,tx,na,ki⟩:Nd (T n)):=⟨h1,h2,h3,h4,h5,h6,h7,h8,h9,h10,h11,h12,h13⟩
theorem qsQ:∀ (n:Nat) (s:List UInt8) (t:T n) (r:List UInt8),s.length<=10000->qaH n s=some (t,r)->qeR n t:=by
 intro n
 induction n with
 | zero=>intro s t r _ h;simp[qaH]at h
 | succ n ih=>
  intro s t r hN h
  have aA:ByteArray.empty.size<=10000:=by decide
  have hf:∀ s t r,s.length<=10000->qaH n s=some (t,r)->qeR n t/\r.length<s.length:=fun s t r hs h=>⟨ih s t r hs h,qnJ n s t r h⟩
  have hd:(s.drop 1).length<=10000:=by simp;omega
  rw[qaH]at h
  split at h
  ·cases h1:numOf (numW s) with
   | none=>rw[h1]at h;cases h
   | some m=>
    rw[h1]at h;cases h
    have hb:=(qdP h1).1
    exact qeK (fun _=>⟨rfl,rfl,rfl⟩) (fun e=>by cases e) (fun e=>by cases e) (fun e=>by cases e) (fun e=>by cases e) (fun e=>by cases e) hb.1 hb.2 aA (by simp) (fun s h=>by cases h) (by simp) (fun k h=>by cases h)
  split at h
  ·cases h1:qbS 34 (s.drop 1) with
   | none=>rw[h1]at h;cases h
   | some x=>
    obtain⟨w,r1⟩:=x
    rw[h1]at h;cases h
    obtain⟨r',e1,e2,-⟩:=qdM h1
    have hl:=congrArg List.length e2
    rw[List.length_append]at hl
    exact qeK (fun e=>by cases e) (fun _=>⟨rfl,rfl,rfl⟩) (fun e=>by cases e) (fun e=>by cases e) (fun e=>by cases e) (fun e=>by cases e) (by omega) (by omega) (by rw[qaJ];omega) (by simp) (fun s h=>by cases h) (by simp) (fun k h=>by cases h)
  split at h
  ·cases h1:eatP [121,101,115] s with
   | some r1=>
    rw[h1]at h;cases h
    exact qeK (fun e=>by cases e) (fun e=>by cases e) (fun _=>⟨rfl,rfl,rfl,.inr rfl⟩) (fun e=>by cases e) (fun e=>by cases e) (fun e=>by cases e) (by omega) (by omega) aA (by simp) (fun s h=>by cases h) (by simp) (fun k h=>by cases h)
   | none=>
    rw[h1]at h
    simp only at h
    cases h2:eatP [110,111] s with
    | some r1=>
     rw[h2]at h;cases h
     exact qeK (fun e=>by cases e) (fun e=>by cases e) (fun _=>⟨rfl,rfl,rfl,.inl rfl⟩) (fun e=>by cases e) (fun e=>by cases e) (fun e=>by cases e) (by omega) (by omega) aA (by simp) (fun s h=>by cases h) (by simp) (fun k h=>by cases h)
    | none=>rw[h2]at h;cases h
  split at h
  ·cases h1:listQ (qaH n) ((s.drop 1).length+1) [] (s.drop 1) with
   | none=>rw[h1]at h;cases h
   | some x=>
    obtain⟨l,r1⟩:=x
    rw[h1]at h;cases h
    obtain⟨q1,q2⟩:=xdR (qaH n) (qeR n) 10000 hf _ _ _ _ _ hd (fun x hx=>by cases hx) h1
    exact qeK (fun e=>by cases e) (fun e=>by cases e) (fun e=>by cases e) (fun _=>⟨rfl,rfl,rfl⟩) (fun e=>by cases e) (fun e=>by cases e) (by omega) (by omega) aA (by simp) (fun s h=>by cases h) (by simp only[List.length_nil]at q2;omega) q1
  split at h
  ·cases h1:formQ (qaH n) ((s.drop 1).length+1) [] [] (s.drop 1) with
   | none=>rw[h1]at h;cases h
   | some x=>
    obtain⟨ns,l,r1⟩:=x
    rw[h1]at h;cases h
    obtain⟨q1,q2,q3,q4⟩:=xdS (qaH n) (qeR n) 10000 hf _ _ _ _ _ _ _ hd (fun x hx=>by cases hx) (fun x hx=>by cases hx) h1
    exact qeK (fun e=>by cases e) (fun e=>by cases e) (fun e=>by cases e) (fun e=>by cases e) (fun _=>⟨rfl,rfl⟩) (fun e=>by cases e) (by omega) (by omega) aA (by simp only[List.length_nil]at q4;omega) q2 (by simp only[List.length_nil]at q3;omega) q1
  split at h
  ·cases h
   exact qeK (fun e=>by cases e) (fun e=>by cases e) (fun e=>by cases e) (fun e=>by cases e) (fun e=>by cases e) (fun _=>⟨rfl,rfl,rfl⟩) (by omega) (by omega) aA (by simp) (fun s h=>by cases h) (by simp) (fun k h=>by cases h)
  split at h
  ·cases h1:qaH n (s.drop 1) with
   | none=>rw[h1]at h;cases h
   | some x=>
    obtain⟨t1,r1⟩:=x
    rw[h1]at h;cases h
    have:=ih _ _ _ hd h1
    exact qeK (fun e=>by cases e) (fun e=>by cases e) (fun e=>by cases e) (fun e=>by cases e) (fun e=>by cases e) (fun _=>⟨rfl,rfl,rfl⟩) (by omega) (by omega) aA (by simp) (fun s h=>by cases h) (by simp) (fun k h=>by rw[List.mem_singleton]at h;subst h;exact this)
  ·cases h
end Go.Proofs.YtelogmjfekhmpaaGreatDoor
