import Derived.Test.YtelogmjfekhmpaaGreatDoorNL2
import Derived.Test.YtelogmjfekhmpaaGreatDoorTParse
namespace Go.Proofs.YtelogmjfekhmpaaGreatDoor
open Go.RowKit
def qaR (c:UInt8):Bool:=c==32 || c==10
def qaW:List UInt8->Nat
 | []=>0
 | c :: r=>if c=34 then 1+(r.takeWhile (fun x=>!(x==34))).length+(if (r.takeWhile (fun x=>!(x==34))).length<r.length then 1 else 0)
  else 1+(r.takeWhile (fun x=>!qaR x)).length
def qbJ:Nat->List UInt8->List ByteArray
 | 0,_=>[]
 | f+1,s=>
  match s.dropWhile qaR with
  | []=>[]
  | c :: r=>bs ((c :: r).take (qaW (c :: r))) :: qbJ f ((c :: r).drop (qaW (c :: r)))
def leafW (M:Nat) (s:ByteArray):Option (Int × Int × ByteArray):=
 match readT (M+1) s with
 | some t=>if Nd.sort t<=3 then some (Nd.sort t,Nd.num t,Nd.text t) else none
 | none=>none
def opA (M:Nat) (s:ByteArray):Nat:=
 if opW s=0 then (match leafW M s with
  | some l=>l.1.toNat
  | none=>if freeB s=true then 4 else 0)
 else opW s
abbrev Er:=Int × Nat
abbrev Rd3 (α:Type):=Except Er (α × Nat × Nat)
def qaT {α:Type} (rk:Nat->Nat->Rd3 α) (ws:List ByteArray):Nat->Nd α->Nat->Nat->Rd3 (Nd α)
 | 0,_,a,_=>.error (2,a)
 | f+1,n,a,c=>
  match ws[a]? with
  | none=>.error (2,a)
  | some s=>
   if (s==bs [101,110,100])=true then .ok (n,a+1,c)
   else if qcO (n.names++[s]) n.names.length=true then
    match rk (a+1) c with
    | .error e=>.error e
    | .ok r=>qaT rk ws f ⟨n.sort,n.num,n.text,n.names++[s],n.kids++[r.1]⟩ r.2.1 r.2.2
   else .error (2,a)
def stepR {α:Type} (M:Nat) (rk:Bool->Nat->Nat->Rd3 α) (ws:List ByteArray) (p:UInt8) (n:Nd α) (a c:Nat):Rd3 (Nd α):=
 if p=86∨p=65 then
  match rk (p==65) a c with
  | .error e=>.error e
  | .ok r=>.ok (⟨n.sort,n.num,n.text,n.names,n.kids++[r.1]⟩,r.2.1,r.2.2)
 else if p=70 then qaT (rk false) ws (ws.length+1) n a c
 else
  match ws[a]? with
  | none=>.error (2,a)
  | some s=>
   if p=84 then
    match leafW M s with
    | some l=>.ok (⟨n.sort,l.2.1,l.2.2,n.names,n.kids⟩,a+1,c)
    | none=>.error (2,a)
   else if p=35 then
    match numOf s.data.toList with
    | some v=>if lst n.sort.toNat<=v/\v<=mst n.sort.toNat then .ok (⟨n.sort,v,n.text,n.names,n.kids⟩,a+1,c) else .error (2,a)
    | none=>.error (2,a)
   else if p=75 then (if kindB s=true then .ok (⟨n.sort,n.num,s,n.names,n.kids⟩,a+1,c) else .error (2,a))
   else if qbA p s n.names=true then .ok (⟨n.sort,n.num,n.text,n.names++[s],n.kids⟩,a+1,c) else .error (2,a)
def qcP {α:Type} (M:Nat) (rk:Bool->Nat->Nat->Rd3 α) (ws:List ByteArray):List UInt8->Nd α->Nat->Nat->Rd3 (Nd α)
 | [],n,a,c=>.ok (n,a,c)
 | p :: ps,n,a,c=>
  match stepR M rk ws p n a c with
  | .error e=>.error e
  | .ok r=>qcP M rk ws ps r.1 r.2.1 r.2.2
def bodyR {α:Type} (M:Nat) (rk:Bool->Nat->Nat->Rd3 α) (ws:List ByteArray) (act:Bool) (d:Int) (a c:Nat):Rd3 (Nd α):=
 if 24<d then .error (3,a)
 else if 200<=c then .error (4,a)
 else
  match ws[a]? with
  | none=>.error (2,a)
  | some s=>
   if poF (opA M s:Int)=(if act=true then 65 else 86) then
    qcP M rk ws (prt (opA M s)) ⟨(opA M s:Int),0,ByteArray.empty,[],[]⟩ (if opA M s<=4 then a else a+1) (c+1)
   else .error (2,a)
def qaI (M:Nat) (ws:List ByteArray):(m:Nat)->Bool->Int->Nat->Nat->Rd3 (T m)
 | 0,_,_,a,_=>.error (3,a)
 | m+1,act,d,a,c=>bodyR M (fun b=>qaI M ws m b (d+1)) ws act d a c
theorem qcW {M:Nat} {s:ByteArray} {l:Int × Int × ByteArray} (h:leafW M s=some l):1<=l.1/\l.1<=3/\qaQ l.1 l.2.1 l.2.2 [] 0=true:=by
 unfold leafW at h
 cases hr:readT (M+1) s with
 | none=>rw[hr]at h;cases h
 | some t=>
  rw[hr]at h
  dsimp only at h
  split at h
  ·rename_i h3
   cases h
   have ho:=(qiR (qeX hr).2.1).1
   simp only[goodT,Bool.and_eq_true]at ho
   have ha:qiI (show Nd (T M) from t)=true:=ho.1.2
   unfold qiI at ha
   change qaQ (Nd.sort t) (Nd.num t) (Nd.text t) (Nd.names t) (Nd.kids t).length=true at ha
   dsimp only
   have hs:1<=Nd.sort t:=by
    rcases Int.lt_or_le 0 (Nd.sort t) with h0|h0
    ·omega
    ·unfold qaQ at ha
     rw[if_neg (by omega),if_neg (by omega),if_neg (by omega),if_neg (by omega),if_neg (by omega),if_neg (by omega)]at ha
     cases ha
   refine⟨hs,h3,?_⟩
   have:Nd.sort t=1∨Nd.sort t=2∨Nd.sort t=3:=by omega
   rcases this with e|e|e
   ·rw[e]at ha ⊢;simp[qaQ]at ha ⊢;exact ha.1.1
   ·rw[e]at ha ⊢;simp[qaQ]at ha ⊢;exact ha.1.1
   ·rw[e]at ha ⊢;simp[qaQ]at ha ⊢;exact ha.1.1
  ·cases h
theorem xhX (M:Nat) (s:ByteArray):opA M s<44:=by
 have hw:∀ n k,k+n<=44->opF s k n<44:=by
  intro n
  induction n with
  | zero=>intro k _;simp[opF]
  | succ n ih => intro k hk; simp only [opF]; split
                 ·omega
                 ·exact ih (k+1) (by omega)
 have h:=hw 39 5 (by omega)
 unfold opA
 split
 ·split
  ·rename_i l hl;have:=qcW hl;omega
  ·split <;> omega
 ·exact h
end Go.Proofs.YtelogmjfekhmpaaGreatDoor
