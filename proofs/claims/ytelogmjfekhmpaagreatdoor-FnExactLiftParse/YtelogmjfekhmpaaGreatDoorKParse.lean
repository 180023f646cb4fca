import Derived.Test.YtelogmjfekhmpaaGreatDoorEat
import Derived.Test.YtelogmjfekhmpaaGreatDoorKText
namespace Go.Proofs.YtelogmjfekhmpaaGreatDoor
open Go.RowKit
def formQ {α:Type} (f:List UInt8->Option (α × List UInt8)):Nat->List ByteArray->List α->List UInt8->Option (List ByteArray × List α × List UInt8)
 | 0,_,_,_=>none
 | k+1,ns,acc,s=>
  match eatP [125] s with
  | some r=>some (ns,acc,r)
  | none=>
   match (if ns.length=0 then some s else eatP [44] s) with
   | none=>none
   | some s1=>
    match qbS 58 s1 with
    | none=>none
    | some (w,s2)=>
     match f (s2.drop 1) with
     | none=>none
     | some (t,r)=>formQ f k (ns++[bs w]) (acc++[t]) r
def oneQ {α:Type} (f:List UInt8->Option (α × List UInt8)) (close:List UInt8) (s:List UInt8):Option (α × List UInt8):=
 match f s with
 | none=>none
 | some (k,r)=>
  match eatP close r with
  | none=>none
  | some r'=>some (k,r')
def qaM:(n:Nat)->List UInt8->Option (K n × List UInt8)
 | 0,_=>none
 | n+1,s=>
  match eatP [110,117,109] s with
  | some r=>some ((⟨1,[],[]⟩:Kd (K n)),r)
  | none=>
  match eatP [116,101,120,116] s with
  | some r=>some ((⟨2,[],[]⟩:Kd (K n)),r)
  | none=>
  match eatP [102,108,97,103] s with
  | some r=>some ((⟨3,[],[]⟩:Kd (K n)),r)
  | none=>
  match eatP [91] s with
  | some r=>
   match oneQ (qaM n) [93] r with
   | none=>none
   | some (k,r')=>some ((⟨4,[],[k]⟩:Kd (K n)),r')
  | none=>
  match eatP [63] s with
  | some r=>
   match oneQ (qaM n) [] r with
   | none=>none
   | some (k,r')=>some ((⟨6,[],[k]⟩:Kd (K n)),r')
  | none=>
  match eatP [123] s with
  | some r=>
   match formQ (qaM n) (r.length+1) [] [] r with
   | none=>none
   | some (ns,ks,r')=>some ((⟨5,ns,ks⟩:Kd (K n)),r')
  | none=>none
theorem qeM (c:UInt8) (w:List UInt8) (d:UInt8) (r:List UInt8) (h:d≠c):eatP (c :: w) (d :: r)=none:=by
 unfold eatP
 rw[if_neg]
 simp only[List.isPrefixOf,Bool.and_eq_true,beq_iff_eq,not_and]
 exact fun e=>absurd e.symm h
theorem xfI (s:List UInt8):eatP [] s=some s:=by simp[eatP]
theorem qlP {α:Type} (f:List UInt8->Option (α × List UInt8)) (txt:α->List UInt8) (hf:∀ s t r,f s=some (t,r)->s=txt t++r)
  (fuel:Nat) (ns:List ByteArray) (acc:List α) (s:List UInt8) (nl:List ByteArray) (l:List α) (r:List UInt8) (h:formQ f fuel ns acc s=some (nl,l,r)) :
  ∃ ms ks,nl=ns++ms/\l=acc++ks/\ms.length=ks.length/\s=tailL (decide (ns.length=0)) (zipL ms (ks.map txt))++125 :: r:=by
 induction fuel generalizing ns acc s with
 | zero=>simp[formQ]at h
 | succ k ih=>
  rw[formQ]at h
  cases h1:eatP [125] s with
  | some r1=>
   rw[h1]at h
   simp only[Option.some.injEq,Prod.mk.injEq]at h
   obtain⟨rfl,rfl,rfl⟩:=h
   exact⟨[],[],by simp,by simp,rfl,by simpa [tailL,zipL] using qbR h1⟩
  | none=>
   rw[h1]at h
   simp only at h
   cases h2:(if ns.length=0 then some s else eatP [44] s) with
   | none=>rw[h2]at h;cases h
   | some s1=>
    rw[h2]at h
    simp only at h
    cases hu:qbS 58 s1 with
    | none=>rw[hu]at h;cases h
    | some x=>
    obtain⟨w,s2⟩:=x
    rw[hu]at h
    simp only at h
    obtain⟨s3,u1,u2,u3⟩:=qdM hu
    subst u1
    simp only[List.drop_succ_cons,List.drop_zero]at h
    cases h3:f s3 with
    | none=>rw[h3]at h;cases h
    | some x=>
     obtain⟨t,r2⟩:=x
     rw[h3]at h
     simp only at h
     have e1:=hf _ _ _ h3
     obtain⟨ms,ks,m1,k1,ml,k2⟩:=ih _ _ _ h
     have aA:decide ((ns++[bs w]).length=0)=false:=by simp
     rw[aA]at k2
     refine⟨bs w :: ms,t :: ks,by simpa using m1,by simpa using k1,by simp[ml],?_⟩
     simp only[List.map_cons,zipL,tailL,List.append_assoc,qcC]
     by_cases h0:ns.length=0
     ·rw[if_pos h0]at h2;cases h2
      simp only[h0,decide_true,if_true,List.append_assoc,List.cons_append]
      rw[<- k2,<- e1];exact u2
     ·rw[if_neg h0]at h2
      simp only[h0,decide_false,Bool.false_eq_true,if_false,List.cons_append,List.append_assoc]
      rw[<- k2,<- e1,<- u2];exact qbR h2
theorem qrL {α:Type} {f:List UInt8->Option (α × List UInt8)} {c s:List UInt8} {k:α} {r:List UInt8} (h:oneQ f c s=some (k,r)):∃ r1,f s=some (k,r1)/\r1=c++r:=by
 unfold oneQ at h
 cases h1:f s with
 | none=>rw[h1]at h;cases h
 | some x=>
  obtain⟨t,r1⟩:=x
  rw[h1]at h
  simp only at h
  cases h2:eatP c r1 with
  | none=>rw[h2]at h;cases h
  | some r2=>rw[h2]at h;cases h;exact⟨r1,rfl,qbR h2⟩
theorem qrM:∀ (n:Nat) (s:List UInt8) (k:K n) (r:List UInt8),qaM n s=some (k,r)->s=txtK n k++r:=by
 intro n
 induction n with
 | zero=>intro s k r h;simp[qaM]at h
 | succ n ih=>
  intro s k r h
  rw[qaM]at h
  split at h
  ·next r1 h1=>cases h;simpa [txtK] using qbR h1
  split at h
  ·next r1 h1=>cases h;simpa [txtK] using qbR h1
  split at h
  ·next r1 h1=>cases h;simpa [txtK] using qbR h1
  split at h
  ·next r1 h1=>
   cases h2:oneQ (qaM n) [93] r1 with
   | none=>rw[h2]at h;cases h
   | some x=>
    obtain⟨k1,r2⟩:=x
    rw[h2]at h;cases h
    obtain⟨r3,h3,e⟩:=qrL h2
    have:=ih _ _ _ h3
    rw[qbR h1,this,e];simp[txtK,headL]
  split at h
  ·next r1 h1=>
   cases h2:oneQ (qaM n) [] r1 with
   | none=>rw[h2]at h;cases h
   | some x=>
    obtain⟨k1,r2⟩:=x
    rw[h2]at h;cases h
    obtain⟨r3,h3,e⟩:=qrL h2
    have:=ih _ _ _ h3
    rw[qbR h1,this,e];simp[txtK,headL]
  split at h
  ·next r1 h1=>
   cases h2:formQ (qaM n) (r1.length+1) [] [] r1 with
   | none=>rw[h2]at h;cases h
   | some x=>
    obtain⟨ns,ks,r2⟩:=x
    rw[h2]at h;cases h
    obtain⟨ms,ks',m1,k1,ml,k2⟩:=qlP _ (txtK n) (fun s t r h=>ih s t r h) _ _ _ _ _ _ _ h2
    simp only[List.nil_append]at m1 k1
    subst m1 k1
    simp only[List.length_nil,decide_true,qcV]at k2
    rw[qbR h1,k2];simp[txtK]
  ·cases h
theorem qnI {α:Type} (f:List UInt8->Option (α × List UInt8)) (txt:α->List UInt8) (ks:List α) (hf:∀ k,k∈ks->∀ post,f (txt k++post)=some (k,post))
  (ms:List ByteArray) (hms:∀ s,s∈ms->nameB s=true) (hlen:ms.length=ks.length) (fuel:Nat) (ns:List ByteArray) (acc:List α) (post:List UInt8) (hfu:ks.length<fuel) :
  formQ f fuel ns acc (tailL (decide (ns.length=0)) (zipL ms (ks.map txt))++125 :: post)=some (ns++ms,acc++ks,post):=by
 induction ks generalizing fuel ns acc ms with
 | nil=>
  have:ms=[]:=List.eq_nil_of_length_eq_zero (by simpa using hlen)
  subst this
  cases fuel with
  | zero=>simp at hfu
  | succ k=>simp[formQ,tailL,zipL,qaE]
 | cons x ks ih=>
  cases ms with
  | nil=>simp at hlen
  | cons m ms=>
  cases fuel with
  | zero=>omega
  | succ k=>
   have hm:=hms m (List.mem_cons_self ..)
   have aC:=qeC hm
   have aG:1<=m.size:=by simp only[nameB,Bool.and_eq_true,decide_eq_true_eq]at hm;exact hm.1.1.1
   have step:=hf x (List.mem_cons_self ..) (tailL false (zipL ms (ks.map txt))++125 :: post)
   have rest:=ih (fun k hk=>hf k (List.mem_cons_of_mem _ hk)) ms (fun s hs=>hms s (List.mem_cons_of_mem _ hs)) (by simpa using hlen) k (ns++[m]) (acc++[x]) (by simp at hfu;omega)
   have aA:decide ((ns++[m]).length=0)=false:=by simp
   rw[aA]at rest
   have aD:=qcU 58 m.data.toList (txt x++(tailL false (zipL ms (ks.map txt))++125 :: post)) (fun c hc=>(nm_ne (aC c hc)).1)
   have aB:∃ c r,m.data.toList=c :: r:=by
    cases hd:m.data.toList with
    | nil=>
     have h1:m.data.toList.length=0:=by rw[hd];rfl
     have h2:m.data.toList.length=m.size:=by simp
     omega
    | cons c r=>exact⟨c,r,rfl⟩
   obtain⟨c,r,e⟩:=aB
   have aE:=nm_ne (aC c (by rw[e];exact List.mem_cons_self ..))
   simp only[List.map_cons,zipL,tailL,List.append_assoc]
   by_cases h0:ns.length=0
   ·simp only[h0,decide_true,if_true,List.append_assoc,List.cons_append]
    rw[formQ]
    have aF:eatP [125] (m.data.toList++58 :: (txt x++(tailL false (zipL ms (ks.map txt))++125 :: post)))=none:=by rw[e,List.cons_append];exact qdL _ _ _ aE.2.1
    rw[aF]
    simp only[h0,if_true]
    rw[aD]
    simp only[List.drop_succ_cons,List.drop_zero]
    rw[step]
    simp only[bs_of]
    rw[rest]
    simp
   ·simp only[h0,decide_false,if_false,Bool.false_eq_true,List.append_assoc,List.cons_append]
    rw[formQ,qdL _ _ _ (by decide)]
    simp only[h0,if_false,qaE]
    rw[aD]
    simp only[List.drop_succ_cons,List.drop_zero]
    rw[step]
    simp only[bs_of]
    rw[rest]
    simp
theorem qhW (l:List (List UInt8)) (h:∀ x,x∈l->x≠[]):∀ b,l.length<=(tailL b l).length:=by
 induction l with
 | nil=>intro b;simp
 | cons x r ih=>
  intro b
  have h1:=ih (fun y hy=>h y (List.mem_cons_of_mem _ hy)) false
  have h2:1<=x.length:=by
   cases x with
   | nil=>exact absurd rfl (h [] (List.mem_cons_self ..))
   | cons c y=>simp
  simp only[tailL,List.length_append,List.length_cons]
  split
  ·omega
  ·simp only[List.length_cons];omega
theorem xaJ (a:List ByteArray) (l:List (List UInt8)):∀ x,x∈zipL a l->x≠[]:=by
 induction a generalizing l with
 | nil=>intro x hx;simp[zipL]at hx
 | cons s r ih=>
  intro x hx
  cases l with
  | nil=>simp[zipL]at hx
  | cons y t=>
   simp only[zipL]at hx
   rcases List.mem_cons.1 hx with rfl|hx
   ·simp
   ·exact ih t x hx
theorem qlQ:∀ (n:Nat) (k:K n) (d:Int) (post:List UInt8),goodK n k d=true->qaM n (txtK n k++post)=some (k,post):=by
 intro n
 induction n with
 | zero=>intro k d post h;simp[goodK]at h
 | succ n ih=>
  intro k d post h
  simp only[goodK,Bool.and_eq_true]at h
  have ha:qbK (Kd.sort k) (Kd.names k) (Kd.kids k).length=true:=h.1.2
  have hk:=List.all_eq_true.1 h.2
  obtain⟨so,na,ki⟩:Kd (K n):=k
  simp only at ha hk
  unfold qbK at ha
  have one:∀ (close:List UInt8),(ki.length:Int)=1->∃ x,ki=[x]/\∀ post,oneQ (qaM n) close (txtK n x++(close++post))=some (x,post):=by
   intro close hl
   match ki,hl,hk with
   | [x],_,hk=>
    refine⟨x,rfl,fun post=>?_⟩
    unfold oneQ
    rw[ih x (d+1) (close++post) (hk x (List.mem_cons_self ..))]
    simp only[qdK]
  by_cases h1:so=1
  ·rw[if_pos h1]at ha
   simp only[Bool.and_eq_true,beq_iff_eq]at ha
   have e2:na=[]:=List.eq_nil_of_length_eq_zero (by have:=ha.1;omega)
   have e3:ki=[]:=List.eq_nil_of_length_eq_zero (by have:=ha.2;omega)
   subst e2 e3 h1
   have e:txtK (n+1) (⟨1,[],[]⟩:Kd (K n))=[110,117,109]:=by simp[txtK]
   rw[e,qaM,qdK]
  rw[if_neg h1]at ha
  by_cases h2:so=2
  ·rw[if_pos h2]at ha
   simp only[Bool.and_eq_true,beq_iff_eq]at ha
   have e2:na=[]:=List.eq_nil_of_length_eq_zero (by have:=ha.1;omega)
   have e3:ki=[]:=List.eq_nil_of_length_eq_zero (by have:=ha.2;omega)
   subst e2 e3 h2
   have e:txtK (n+1) (⟨2,[],[]⟩:Kd (K n))=[116,101,120,116]:=by simp[txtK]
   rw[e,qaM,qdK]
   simp[eatP,List.isPrefixOf]
  rw[if_neg h2]at ha
  by_cases h3:so=3
  ·rw[if_pos h3]at ha
   simp only[Bool.and_eq_true,beq_iff_eq]at ha
   have e2:na=[]:=List.eq_nil_of_length_eq_zero (by have:=ha.1;omega)
   have e3:ki=[]:=List.eq_nil_of_length_eq_zero (by have:=ha.2;omega)
   subst e2 e3 h3
   have e:txtK (n+1) (⟨3,[],[]⟩:Kd (K n))=[102,108,97,103]:=by simp[txtK]
   rw[e,qaM,qdK]
   simp[eatP,List.isPrefixOf]
  rw[if_neg h3]at ha
  by_cases h4:so=4
  ·rw[if_pos h4]at ha
   simp only[Bool.and_eq_true,beq_iff_eq]at ha
   have e2:na=[]:=List.eq_nil_of_length_eq_zero (by have:=ha.1;omega)
   obtain⟨x,e3,hx⟩:=one [93] ha.2
   subst e2 e3 h4
   have e:txtK (n+1) (⟨4,[],[x]⟩:Kd (K n))++post=91 :: (txtK n x++([93]++post)):=by simp[txtK,headL]
   rw[e,qaM,qeM 110 _ 91 _ (by decide),qeM 116 _ 91 _ (by decide),qeM 102 _ 91 _ (by decide),qaE]
   simp only[hx]
  rw[if_neg h4]at ha
  by_cases h5:so=5
  ·rw[if_pos h5]at ha
   simp only[Bool.and_eq_true,beq_iff_eq]at ha
   have hl:na.length=ki.length:=by have:=ha.1;omega
   subst h5
   have e:txtK (n+1) (⟨5,na,ki⟩:Kd (K n))++post=123 :: (tailL true (zipL na (ki.map (txtK n)))++125 :: post):=by simp[txtK,qcV]
   have aB:ki.length<(tailL true (zipL na (ki.map (txtK n)))++125 :: post).length+1:=by
    have h1:=qhW (zipL na (ki.map (txtK n))) (xaJ _ _) true
    rw[qbP _ _ (by simpa using hl),List.length_map]at h1
    simp only[List.length_append,List.length_cons];omega
   have aA:=qnI (qaM n) (txtK n) ki (fun k hk' post=>ih k (d+1) post (hk k hk')) na (qjW ha.2) hl _ [] [] post aB
   simp only[List.length_nil,decide_true,List.nil_append]at aA
   rw[e,qaM,qeM 110 _ 123 _ (by decide),qeM 116 _ 123 _ (by decide),qeM 102 _ 123 _ (by decide),qeM 91 _ 123 _ (by decide),qeM 63 _ 123 _ (by decide),qaE]
   simp only[aA]
  rw[if_neg h5]at ha
  by_cases h6:so=6
  ·rw[if_pos h6]at ha
   simp only[Bool.and_eq_true,beq_iff_eq]at ha
   have e2:na=[]:=List.eq_nil_of_length_eq_zero (by have:=ha.1;omega)
   obtain⟨x,e3,hx⟩:=one [] ha.2
   subst e2 e3 h6
   have e:txtK (n+1) (⟨6,[],[x]⟩:Kd (K n))++post=63 :: (txtK n x++([]++post)):=by simp[txtK,headL]
   rw[e,qaM,qeM 110 _ 63 _ (by decide),qeM 116 _ 63 _ (by decide),qeM 102 _ 63 _ (by decide),qeM 91 _ 63 _ (by decide),qaE]
   simp only[hx]
  ·rw[if_neg h6]at ha;cases ha
def readK (n:Nat) (s:ByteArray):Option (K n):=
 if s.size<=800 then
  match qaM n s.data.toList with
  | some (k,[])=>if okK n k=true then some k else none
  | _=>none
 else none
theorem qhG {n:Nat} {s:ByteArray} {k:K n} (h:readK n s=some k):s.size<=800/\okK n k=true/\txtK n k=s.data.toList:=by
 unfold readK at h
 split at h
 ·next h8=>
  split at h
  ·next k' hp=>
   split at h
   ·next hok=>
    cases h
    exact⟨h8,hok,by have:=qrM n _ _ _ hp;simpa using this.symm⟩
   ·cases h
  ·cases h
 ·cases h
theorem xfJ {n:Nat} {s:ByteArray} {k:K n} (h8:s.size<=800) (hok:okK n k=true) (ht:txtK n k=s.data.toList):readK n s=some k:=by
 unfold readK
 rw[if_pos h8,<- ht]
 have:=qlQ n k 1 [] (qpF hok).1
 rw[List.append_nil]at this
 rw[this]
 simp only[hok,if_true]
end Go.Proofs.YtelogmjfekhmpaaGreatDoor
