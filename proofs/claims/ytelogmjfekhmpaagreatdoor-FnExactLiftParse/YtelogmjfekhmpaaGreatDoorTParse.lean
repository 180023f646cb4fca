import Derived.Test.YtelogmjfekhmpaaGreatDoorKParse
import Derived.Test.YtelogmjfekhmpaaGreatDoorTRdP
namespace Go.Proofs.YtelogmjfekhmpaaGreatDoor
open Go.RowKit
def listQ {α:Type} (f:List UInt8->Option (α × List UInt8)):Nat->List α->List UInt8->Option (List α × List UInt8)
 | 0,_,_=>none
 | k+1,acc,s=>
  match eatP [93] s with
  | some r=>some (acc,r)
  | none=>
   match (if acc.length=0 then some s else eatP [44] s) with
   | none=>none
   | some s1=>
    match f s1 with
    | none=>none
    | some (t,r)=>listQ f k (acc++[t]) r
def qaH:(n:Nat)->List UInt8->Option (T n × List UInt8)
 | 0,_=>none
 | n+1,s=>
  if digC (s.headD 0)=true∨s.headD 0=45 then
   match numOf (numW s) with
   | none=>none
   | some m=>some ((⟨1,m,ByteArray.empty,[],[]⟩:Nd (T n)),s.drop (numW s).length)
  else if s.headD 0=34 then
   match qbS 34 (s.drop 1) with
   | none=>none
   | some (w,r)=>some ((⟨2,0,bs w,[],[]⟩:Nd (T n)),r.drop 1)
  else if s.headD 0=121∨s.headD 0=110 then
   match eatP [121,101,115] s with
   | some r=>some ((⟨3,1,ByteArray.empty,[],[]⟩:Nd (T n)),r)
   | none=>
    match eatP [110,111] s with
    | some r=>some ((⟨3,0,ByteArray.empty,[],[]⟩:Nd (T n)),r)
    | none=>none
  else if s.headD 0=91 then
   match listQ (qaH n) ((s.drop 1).length+1) [] (s.drop 1) with
   | none=>none
   | some (l,r)=>some ((⟨4,0,ByteArray.empty,[],l⟩:Nd (T n)),r)
  else if s.headD 0=123 then
   match formQ (qaH n) ((s.drop 1).length+1) [] [] (s.drop 1) with
   | none=>none
   | some (ns,l,r)=>some ((⟨5,0,ByteArray.empty,ns,l⟩:Nd (T n)),r)
  else if s.headD 0=126 then some ((⟨6,0,ByteArray.empty,[],[]⟩:Nd (T n)),s.drop 1)
  else if s.headD 0=63 then
   match qaH n (s.drop 1) with
   | none=>none
   | some (t,r)=>some ((⟨6,0,ByteArray.empty,[],[t]⟩:Nd (T n)),r)
  else none
theorem quG {α:Type} (f:List UInt8->Option (α × List UInt8)) (txt:α->List UInt8) (hf:∀ s t r,f s=some (t,r)->s=txt t++r)
  (fuel:Nat) (acc:List α) (s:List UInt8) (l:List α) (r:List UInt8) (h:listQ f fuel acc s=some (l,r)) :
  ∃ ks,l=acc++ks/\s=tailL (decide (acc.length=0)) (ks.map txt)++93 :: r:=by
 induction fuel generalizing acc s with
 | zero=>simp[listQ]at h
 | succ k ih=>
  rw[listQ]at h
  cases h1:eatP [93] s with
  | some r1=>
   rw[h1]at h
   simp only[Option.some.injEq,Prod.mk.injEq]at h
   obtain⟨rfl,rfl⟩:=h
   exact⟨[],by simp,by simpa [tailL] using qbR h1⟩
  | none=>
   rw[h1]at h
   simp only at h
   cases h2:(if acc.length=0 then some s else eatP [44] s) with
   | none=>rw[h2]at h;cases h
   | some s1=>
    rw[h2]at h
    simp only at h
    cases h3:f s1 with
    | none=>rw[h3]at h;cases h
    | some x=>
     obtain⟨t,r2⟩:=x
     rw[h3]at h
     simp only at h
     have e1:=hf _ _ _ h3
     obtain⟨ks,k1,k2⟩:=ih _ _ h
     have aA:decide ((acc++[t]).length=0)=false:=by simp
     rw[aA]at k2
     refine⟨t :: ks,by simpa using k1,?_⟩
     simp only[List.map_cons,tailL,List.append_assoc]
     by_cases h0:acc.length=0
     ·rw[if_pos h0]at h2;cases h2
      simp only[h0,decide_true,if_true]
      rw[<- k2];exact e1
     ·rw[if_neg h0]at h2
      simp only[h0,decide_false,Bool.false_eq_true,if_false,List.cons_append]
      rw[<- k2,<- e1];exact qbR h2
theorem qhK {s:List UInt8} {c:UInt8} (h:s.headD 0=c) (hc:c≠0):s=c :: s.drop 1:=by
 cases s with
 | nil=>exact absurd h.symm hc
 | cons d r=>simp at h;subst h;rfl
theorem qkP:∀ (n:Nat) (s:List UInt8) (t:T n) (r:List UInt8),qaH n s=some (t,r)->s=txtL n t++r:=by
 intro n
 induction n with
 | zero=>intro s t r h;simp[qaH]at h
 | succ n ih=>
  intro s t r h
  rw[qaH]at h
  split at h
  ·cases h1:numOf (numW s) with
   | none=>rw[h1]at h;cases h
   | some m=>
    rw[h1]at h;cases h
    have:=(qdP h1).2
    simp only[txtL,if_true]
    rw[this];exact (quB s).symm
  split at h
  ·next hc=>
   cases h1:qbS 34 (s.drop 1) with
   | none=>rw[h1]at h;cases h
   | some x=>
    obtain⟨w,r1⟩:=x
    rw[h1]at h;cases h
    obtain⟨r',e1,e2,-⟩:=qdM h1
    rw[qhK hc (by decide),e2,e1]
    simp[txtL,qcC]
  split at h
  ·cases h1:eatP [121,101,115] s with
   | some r1=>rw[h1]at h;cases h;simpa [txtL] using qbR h1
   | none=>
    rw[h1]at h
    simp only at h
    cases h2:eatP [110,111] s with
    | some r1=>rw[h2]at h;cases h;simpa [txtL] using qbR h2
    | none=>rw[h2]at h;cases h
  split at h
  ·next hc=>
   cases h1:listQ (qaH n) ((s.drop 1).length+1) [] (s.drop 1) with
   | none=>rw[h1]at h;cases h
   | some x=>
    obtain⟨l,r1⟩:=x
    rw[h1]at h;cases h
    obtain⟨ks,k1,k2⟩:=quG _ (txtL n) (fun s t r h=>ih s t r h) _ _ _ _ _ h1
    simp only[List.nil_append]at k1
    subst k1
    simp only[List.length_nil,decide_true,qcV]at k2
    rw[qhK hc (by decide),k2];simp[txtL]
  split at h
  ·next hc=>
   cases h1:formQ (qaH n) ((s.drop 1).length+1) [] [] (s.drop 1) with
   | none=>rw[h1]at h;cases h
   | some x=>
    obtain⟨ns,l,r1⟩:=x
    rw[h1]at h;cases h
    obtain⟨ms,ks,m1,k1,ml,k2⟩:=qlP _ (txtL n) (fun s t r h=>ih s t r h) _ _ _ _ _ _ _ h1
    simp only[List.nil_append]at m1 k1
    subst m1 k1
    simp only[List.length_nil,decide_true,qcV]at k2
    rw[qhK hc (by decide),k2];simp[txtL]
  split at h
  ·next hc=>cases h;rw[qhK hc (by decide)];simp[txtL,qfB]
  split at h
  ·next hc=>
   cases h1:qaH n (s.drop 1) with
   | none=>rw[h1]at h;cases h
   | some x=>
    obtain⟨t1,r1⟩:=x
    rw[h1]at h;cases h
    have:=ih _ _ _ h1
    rw[qhK hc (by decide),this];simp[txtL,qfB]
  ·cases h
theorem xfU (n:Nat) (t:T (n+1)):1<=(txtL (n+1) t).length:=by
 obtain⟨c,r,e,-⟩:=qrN n t
 rw[e];simp
theorem qnJ (n:Nat) (s:List UInt8) (t:T n) (r:List UInt8) (h:qaH n s=some (t,r)):r.length<s.length:=by
 have:=qkP n s t r h
 cases n with
 | zero=>simp[qaH]at h
 | succ n=>
  have h2:=xfU n t
  rw[this,List.length_append];omega
theorem qnK {α:Type} (f:List UInt8->Option (α × List UInt8)) (txt:α->List UInt8) (ks:List α) (hf:∀ k,k∈ks->∀ post,noDig post=true->f (txt k++post)=some (k,post))
  (hh:∀ k,k∈ks->∃ c r,txt k=c :: r/\begB c=true) (fuel:Nat) (acc:List α) (post:List UInt8) (hfu:ks.length<fuel) :
  listQ f fuel acc (tailL (decide (acc.length=0)) (ks.map txt)++93 :: post)=some (acc++ks,post):=by
 induction ks generalizing fuel acc with
 | nil=>
  cases fuel with
  | zero=>simp at hfu
  | succ k=>simp[listQ,tailL,qaE]
 | cons x ks ih=>
  cases fuel with
  | zero=>omega
  | succ k=>
   have aB:noDig (tailL false (ks.map txt)++93 :: post)=true:=by
    cases ks with
    | nil=>rfl
    | cons y r=>rw[List.map_cons,qcM];rfl
   have step:=hf x (List.mem_cons_self ..) (tailL false (ks.map txt)++93 :: post) aB
   have rest:=ih (fun k hk=>hf k (List.mem_cons_of_mem _ hk)) (fun k hk=>hh k (List.mem_cons_of_mem _ hk)) k (acc++[x]) (by simp at hfu;omega)
   have aA:decide ((acc++[x]).length=0)=false:=by simp
   rw[aA]at rest
   obtain⟨c,r,e,hb⟩:=hh x (List.mem_cons_self ..)
   simp only[List.map_cons,tailL,List.append_assoc]
   by_cases h0:acc.length=0
   ·simp only[h0,decide_true,if_true]
    rw[listQ]
    have aC:eatP [93] (txt x++(tailL false (ks.map txt)++93 :: post))=none:=by rw[e,List.cons_append];exact qdL _ _ _ (xhV hb).1
    rw[aC]
    simp only[h0,if_true]
    rw[step]
    simp only
    rw[rest]
    simp
   ·simp only[h0,decide_false,if_false,Bool.false_eq_true,List.cons_append]
    rw[listQ,qdL _ _ _ (by decide)]
    simp only[h0,if_false,qaE]
    rw[step]
    simp only
    rw[rest]
    simp
theorem qlV {α:Type} (f:List UInt8->Option (α × List UInt8)) (txt:α->List UInt8) (ks:List α) (hf:∀ k,k∈ks->∀ post,noDig post=true->f (txt k++post)=some (k,post))
  (ms:List ByteArray) (hms:∀ s,s∈ms->nameB s=true) (hlen:ms.length=ks.length) (fuel:Nat) (ns:List ByteArray) (acc:List α) (post:List UInt8) (hfu:ks.length<fuel) :
  formQ f fuel ns acc (tailL (decide (ns.length=0)) (zipL ms (ks.map txt))++125 :: post)=some (ns++ms,acc++ks,post):=by
 induction ks generalizing fuel ns acc ms with
 | nil=>
  have:ms=[]:=List.eq_nil_of_length_eq_zero (by simpa using hlen)
  subst this
  cases fuel with
  | zero=>simp at hfu
  | succ k=>simp[formQ,tailL,zipL,qaE]
 | cons x ks ih=>
  cases ms with
  | nil=>simp at hlen
  | cons m ms=>
  cases fuel with
  | zero=>omega
  | succ k=>
   have hm:=hms m (List.mem_cons_self ..)
   have aC:=qeC hm
   have aD:noDig (tailL false (zipL ms (ks.map txt))++125 :: post)=true:=by
    cases zipL ms (ks.map txt) with
    | nil=>rfl
    | cons y r=>rw[qcM];rfl
   have step:=hf x (List.mem_cons_self ..) (tailL false (zipL ms (ks.map txt))++125 :: post) aD
   have rest:=ih (fun k hk=>hf k (List.mem_cons_of_mem _ hk)) ms (fun s hs=>hms s (List.mem_cons_of_mem _ hs)) (by simpa using hlen) k (ns++[m]) (acc++[x]) (by simp at hfu;omega)
   have aA:decide ((ns++[m]).length=0)=false:=by simp
   rw[aA]at rest
   have aB:=qcU 58 m.data.toList (txt x++(tailL false (zipL ms (ks.map txt))++125 :: post)) (fun c hc=>(nm_ne (aC c hc)).1)
   obtain⟨c,r,e,aG⟩:=qrQ hm
   have aE:=nm_ne aG
   simp only[List.map_cons,zipL,tailL,List.append_assoc]
   by_cases h0:ns.length=0
   ·simp only[h0,decide_true,if_true,List.append_assoc,List.cons_append]
    rw[formQ]
    have aF:eatP [125] (m.data.toList++58 :: (txt x++(tailL false (zipL ms (ks.map txt))++125 :: post)))=none:=by rw[e,List.cons_append];exact qdL _ _ _ aE.2.1
    rw[aF]
    simp only[h0,if_true]
    rw[aB]
    simp only[List.drop_succ_cons,List.drop_zero]
    rw[step]
    simp only[bs_of]
    rw[rest]
    simp
   ·simp only[h0,decide_false,if_false,Bool.false_eq_true,List.append_assoc,List.cons_append]
    rw[formQ,qdL _ _ _ (by decide)]
    simp only[h0,if_false,qaE]
    rw[aB]
    simp only[List.drop_succ_cons,List.drop_zero]
    rw[step]
    simp only[bs_of]
    rw[rest]
    simp
theorem qlW:∀ (n:Nat) (t:T n) (d:Int) (post:List UInt8),goodT n t d=true->noDig post=true->qaH n (txtL n t++post)=some (t,post):=by
 intro n
 induction n with
 | zero=>intro t d post h;simp[goodT]at h
 | succ n ih=>
  intro t d post h aD
  rcases qbT h with ⟨k,q0,q1,q2⟩|⟨y,q3,q1,q2⟩|⟨q1,q2⟩|⟨q1,q2⟩|⟨ks,q1,q3,q2⟩|⟨ns,ks,q1,q3,q4,q5,q2⟩|⟨q1,q2⟩|⟨y,q1,q3,q2⟩
  ·rw[q2,qaH]
   obtain⟨c,r,e,hc⟩:=qiM k
   have hh:(Lib.itoa k++post).headD 0=c:=by rw[e];rfl
   rw[hh,if_pos hc,xaO k post aD,qjZ k q0]
   simp[q1]
  ·have e:txtL (n+1) t++post=34 :: (y.data.toList++34 :: post):=by rw[q2];simp
   rw[e,qaH]
   simp only[List.headD_cons,List.drop_succ_cons,List.drop_zero,qcU 34 _ _ (qhY q3),bs_of,q1]
   simp[digC]
  ·rw[q2,qaH]
   simp only[List.cons_append,List.nil_append,List.headD_cons,q1]
   simp[digC,eatP,List.isPrefixOf]
  ·rw[q2,qaH]
   simp only[List.cons_append,List.nil_append,List.headD_cons,q1]
   simp[digC,eatP,List.isPrefixOf]
  ·have e:txtL (n+1) t++post=91 :: (tailL true (ks.map (txtL n))++93 :: post):=by rw[q2,qcV];simp
   have aC:ks.length<(tailL true (ks.map (txtL n))++93 :: post).length+1:=by
    have h1:=qhW (ks.map (txtL n)) (fun x hx=>by
     obtain⟨k,hk,rfl⟩:=List.mem_map.1 hx
     obtain⟨c,r,e,-⟩:=qlR n k (d+1) (q3 k hk)
     rw[e];simp) true
    rw[List.length_map]at h1
    simp only[List.length_append,List.length_cons];omega
   have aA:=qnK (qaH n) (txtL n) ks (fun k hk post hp=>ih k (d+1) post (q3 k hk) hp) (fun k hk=>qlR n k (d+1) (q3 k hk)) _ [] post aC
   simp only[List.length_nil,decide_true,List.nil_append]at aA
   rw[e,qaH]
   simp only[List.headD_cons,List.drop_succ_cons,List.drop_zero,aA,q1]
   simp[digC]
  ·have e:txtL (n+1) t++post=123 :: (tailL true (zipL ns (ks.map (txtL n)))++125 :: post):=by rw[q2,qcV];simp
   have aC:ks.length<(tailL true (zipL ns (ks.map (txtL n)))++125 :: post).length+1:=by
    have h1:=qhW (zipL ns (ks.map (txtL n))) (xaJ _ _) true
    rw[qbP _ _ (by simpa using q3),List.length_map]at h1
    simp only[List.length_append,List.length_cons];omega
   have aB:=qlV (qaH n) (txtL n) ks (fun k hk post hp=>ih k (d+1) post (q5 k hk) hp) ns q4 q3 _ [] [] post aC
   simp only[List.length_nil,decide_true,List.nil_append]at aB
   rw[e,qaH]
   simp only[List.headD_cons,List.drop_succ_cons,List.drop_zero,aB,q1]
   simp[digC]
  ·rw[q2,qaH]
   simp only[List.cons_append,List.nil_append,List.headD_cons,q1]
   simp[digC]
  ·rw[q2,qaH]
   simp only[List.cons_append,List.headD_cons,List.drop_succ_cons,List.drop_zero,ih y (d+1) post q3 aD,q1]
   simp[digC]
def readT (n:Nat) (s:ByteArray):Option (T n):=
 if s.size<=10000 then
  match qaH n s.data.toList with
  | some (t,[])=>if okT n t=true then some t else none
  | _=>none
 else none
theorem qiR {n:Nat} {t:T n} (h:okT n t=true):goodT n t 1=true/\cntT n t<=120:=by
 simpa only[okT,Bool.and_eq_true,decide_eq_true_eq] using h
theorem qeX {n:Nat} {s:ByteArray} {t:T n} (h:readT n s=some t):s.size<=10000/\okT n t=true/\txtL n t=s.data.toList:=by
 unfold readT at h
 split at h
 ·next h8=>
  split at h
  ·next t' hp=>
   split at h
   ·next hok=>
    cases h
    exact⟨h8,hok,by have:=qkP n _ _ _ hp;simpa using this.symm⟩
   ·cases h
  ·cases h
 ·cases h
theorem qwG {n:Nat} {s:ByteArray} {t:T n} (h8:s.size<=10000) (hok:okT n t=true) (ht:txtL n t=s.data.toList):readT n s=some t:=by
 unfold readT
 rw[if_pos h8,<- ht]
 have:=qlW n t 1 [] (qiR hok).1 rfl
 rw[List.append_nil]at this
 rw[this]
 simp only[hok,if_true]
def ansU (m:Nat) (s:ByteArray):T (m+1):=(readT (m+1) s).getD (⟨0,0,ByteArray.empty,[],[]⟩:Nd (T m))
def okU (m:Nat) (s:ByteArray):Bool:=(readT (m+1) s).isSome
theorem qiS {m:Nat} {s:ByteArray} {t:T (m+1)} (h:readT (m+1) s=some t):ansU m s=t/\okU m s=true:=by
 unfold ansU okU;rw[h];exact⟨rfl,rfl⟩
theorem qlX {m:Nat} {s:ByteArray} (h:readT (m+1) s=none):ansU m s=(⟨0,0,ByteArray.empty,[],[]⟩:Nd (T m))/\okU m s=false:=by
 unfold ansU okU;rw[h];exact⟨rfl,rfl⟩
theorem qoH {n:Nat} {s:ByteArray} (h:¬ s.size<=10000):readT n s=none:=by unfold readT;rw[if_neg h]
theorem xfV {n:Nat} {s:ByteArray} (h:∀ t,qaH n s.data.toList≠some (t,[])):readT n s=none:=by
 unfold readT
 split
 ·split
  ·next t hp=>exact absurd hp (h t)
  ·rfl
 ·rfl
theorem xaY {n:Nat} {s:ByteArray} {t:T n} (h:qaH n s.data.toList=some (t,[])) (hok:okT n t=false):readT n s=none:=by
 unfold readT
 split
 ·rw[h];simp only[hok,Bool.false_eq_true,if_false]
 ·rfl
theorem xaZ {n:Nat} {s:ByteArray} {t:T n} (h8:s.size<=10000) (h:qaH n s.data.toList=some (t,[])) (hok:okT n t=true):readT n s=some t:=by
 unfold readT
 rw[if_pos h8,h];simp only[hok,if_true]
end Go.Proofs.YtelogmjfekhmpaaGreatDoor
