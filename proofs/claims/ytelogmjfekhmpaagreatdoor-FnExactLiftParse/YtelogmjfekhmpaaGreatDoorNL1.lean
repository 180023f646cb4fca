import Derived.Test.YtelogmjfekhmpaaGreatDoorNL0
namespace Go.Proofs.YtelogmjfekhmpaaGreatDoor
open Go.RowKit
def qbA (p:UInt8) (a:ByteArray) (ahead:List ByteArray):Bool:=if p=78 then nameB a else freeB a && !(ahead.contains a)
def qdG {α:Type} (po:α->Int) (n:Nd α) (k:Nat):Bool:=(List.range k).all (fun i=>qcO n.names i && ((n.kids.map po).getD i 0==86))
def qeN {α:Type} (po:α->Int) (n:Nd α):Bool:=(n.names.length==n.kids.length) && qdG po n n.names.length
theorem qpH {α:Type} (po:α->Int) (n:Nd α) (k:Nat):qdG po n (k+1)=(qdG po n k && (qcO n.names k && ((n.kids.map po).getD k 0==86))):=by
 simp[qdG,List.range_succ]
def stepP {α:Type} (po:α->Int) (n r:Nd α) (p:UInt8):Option (Nd α):=
 if p=84 then (if qaQ n.sort n.num n.text [] 0=true then some ⟨r.sort,0,ByteArray.empty,r.names,r.kids⟩ else none)
 else if p=35 then (if lst n.sort.toNat<=n.num/\n.num<=mst n.sort.toNat then some ⟨r.sort,0,r.text,r.names,r.kids⟩ else none)
 else if p=75 then (if kindB n.text=true then some ⟨r.sort,r.num,ByteArray.empty,r.names,r.kids⟩ else none)
 else if p=70 then (if qeN po n=true then some ⟨r.sort,r.num,r.text,[],[]⟩ else none)
 else if p=78∨p=88 then
  match r.names with
  | []=>none
  | a :: q=>if qbA p a (n.names.take (n.names.length - (q.length+1)))=true then some ⟨r.sort,r.num,r.text,q,r.kids⟩ else none
 else
  match r.kids with
  | []=>none
  | k :: q=>if po k=(p.toNat:Int) then some ⟨r.sort,r.num,r.text,r.names,q⟩ else none
def finB {α:Type} (r:Option (Nd α)):Bool:=
 match r with
 | some r=>(r.num==0) && r.text.toList.isEmpty && ((r.names.length:Int)==0) && ((r.kids.length:Int)==0)
 | none=>false
def foldP {α:Type} (po:α->Int) (n:Nd α):List UInt8->Nd α->Option (Nd α)
 | [],r=>some r
 | p :: ps,r=>
  match stepP po n r p with
  | none=>none
  | some r'=>foldP po n ps r'
theorem qeH {α:Type} {po:α->Int} {n r r':Nd α} {p:UInt8} (h:stepP po n r p=some r') (ps:List UInt8):foldP po n (p :: ps) r=foldP po n ps r':=by rw[foldP,h]
theorem qdN {α:Type} {po:α->Int} {n r:Nd α} {p:UInt8} (h:stepP po n r p=none) (ps:List UInt8):foldP po n (p :: ps) r=none:=by rw[foldP,h]
def justB {α:Type} (po:α->Int) (n:Nd α):Bool:=
 decide (1<=n.sort/\n.sort<=43) && finB (foldP po n (prt n.sort.toNat) n)
theorem st_T {α:Type} (po:α->Int) (n r:Nd α):stepP po n r 84=if qaQ n.sort n.num n.text [] 0=true then some ⟨r.sort,0,ByteArray.empty,r.names,r.kids⟩ else none:=by
 unfold stepP;rw[if_pos rfl]
theorem st_n {α:Type} (po:α->Int) (n r:Nd α):stepP po n r 35=if lst n.sort.toNat<=n.num/\n.num<=mst n.sort.toNat then some ⟨r.sort,0,r.text,r.names,r.kids⟩ else none:=by
 unfold stepP;rw[if_neg (by decide),if_pos rfl]
theorem st_K {α:Type} (po:α->Int) (n r:Nd α):stepP po n r 75=if kindB n.text=true then some ⟨r.sort,r.num,ByteArray.empty,r.names,r.kids⟩ else none:=by
 unfold stepP;rw[if_neg (by decide),if_neg (by decide),if_pos rfl]
theorem st_F {α:Type} (po:α->Int) (n r:Nd α):stepP po n r 70=if qeN po n=true then some ⟨r.sort,r.num,r.text,[],[]⟩ else none:=by
 unfold stepP;rw[if_neg (by decide),if_neg (by decide),if_neg (by decide),if_pos rfl]
theorem st_0 {α:Type} (po:α->Int) (n r:Nd α) {p:UInt8} (hp:p=78∨p=88) (h:r.names=[]):stepP po n r p=none:=by
 unfold stepP
 rw[if_neg (by rcases hp with rfl|rfl <;> decide),if_neg (by rcases hp with rfl|rfl <;> decide),if_neg (by rcases hp with rfl|rfl <;> decide),if_neg (by rcases hp with rfl|rfl <;> decide),if_pos hp,h]
theorem st_1 {α:Type} (po:α->Int) (n r:Nd α) {p:UInt8} (hp:p=78∨p=88) {a:ByteArray} {q:List ByteArray} (h:r.names=a :: q):stepP po n r p=if qbA p a (n.names.take (n.names.length - (q.length+1)))=true then some ⟨r.sort,r.num,r.text,q,r.kids⟩ else none:=by
 unfold stepP
 rw[if_neg (by rcases hp with rfl|rfl <;> decide),if_neg (by rcases hp with rfl|rfl <;> decide),if_neg (by rcases hp with rfl|rfl <;> decide),if_neg (by rcases hp with rfl|rfl <;> decide),if_pos hp,h]
theorem st_k0 {α:Type} (po:α->Int) (n r:Nd α) {v:UInt8} (hv:v=86∨v=65) (h:r.kids=[]):stepP po n r v=none:=by
 unfold stepP
 rw[if_neg (by rcases hv with rfl|rfl <;> decide),if_neg (by rcases hv with rfl|rfl <;> decide),if_neg (by rcases hv with rfl|rfl <;> decide),if_neg (by rcases hv with rfl|rfl <;> decide),if_neg (by rcases hv with rfl|rfl <;> decide),h]
theorem st_k1 {α:Type} (po:α->Int) (n r:Nd α) {v:UInt8} (hv:v=86∨v=65) {k:α} {q:List α} (h:r.kids=k :: q):stepP po n r v=if po k=(v.toNat:Int) then some ⟨r.sort,r.num,r.text,r.names,q⟩ else none:=by
 unfold stepP
 rw[if_neg (by rcases hv with rfl|rfl <;> decide),if_neg (by rcases hv with rfl|rfl <;> decide),if_neg (by rcases hv with rfl|rfl <;> decide),if_neg (by rcases hv with rfl|rfl <;> decide),if_neg (by rcases hv with rfl|rfl <;> decide),h]
theorem xaK {α:Type} (po:α->Int) (n:Nd α):∀ (vs:List UInt8),(∀ v,v∈vs->v=86∨v=65)->∀ r:Nd α,
  foldP po n vs r=if (r.kids.take vs.length).map po=vs.map (fun v=>(v.toNat:Int)) then some ⟨r.sort,r.num,r.text,r.names,r.kids.drop vs.length⟩ else none:=by
 intro vs
 induction vs with
 | nil=>intro _ r;simp[foldP]
 | cons v vs ih=>
  intro hv r
  have h1:=hv v (List.mem_cons_self ..)
  cases hk:r.kids with
  | nil=>
   rw[foldP,st_k0 po n r h1 hk];simp
  | cons k q=>
   by_cases hp:po k=(v.toNat:Int)
   ·rw[foldP,st_k1 po n r h1 hk,if_pos hp]
    show foldP po n vs _=_
    rw[ih (fun x hx=>hv x (List.mem_cons_of_mem _ hx))]
    simp[hp]
   ·rw[foldP,st_k1 po n r h1 hk,if_neg hp];simp[hp]
def preL (k:Nat):List UInt8:=(prt k).filter (fun p=>!(p==86 || p==65))
def kdV (k:Nat):List UInt8:=(prt k).filter (fun p=>p==86 || p==65)
theorem qiK:∀ k,k<44->prt k=preL k++kdV k:=by decide
theorem qiL (k:Nat):∀ v,v∈kdV k->v=86∨v=65:=by
 intro v hv
 have:=(List.mem_filter.1 hv).2
 simpa using this
def preC {α:Type} (n:Nd α) (pre:List UInt8):Bool:=
 match pre with
 | []=>(n.num==0) && n.text.toList.isEmpty && ((n.names.length:Int)==0)
 | [84]=>qaQ n.sort n.num n.text [] 0 && ((n.names.length:Int)==0)
 | [75]=>(n.num==0) && kindB n.text && ((n.names.length:Int)==0)
 | [35]=>decide (lst n.sort.toNat<=n.num/\n.num<=mst n.sort.toNat) && n.text.toList.isEmpty && ((n.names.length:Int)==0)
 | [88]=>(n.num==0) && n.text.toList.isEmpty && (match n.names with|[a]=>freeB a|_=>false)
 | [78]=>(n.num==0) && n.text.toList.isEmpty && (match n.names with|[a]=>nameB a|_=>false)
 | [88,88]=>(n.num==0) && n.text.toList.isEmpty && (match n.names with|[a,b]=>freeB a && freeB b && !(b==a)|_=>false)
 | [78,35]=>decide (lst n.sort.toNat<=n.num/\n.num<=mst n.sort.toNat) && n.text.toList.isEmpty && (match n.names with|[a]=>nameB a|_=>false)
 | _=>false
theorem qeD:∀ k,k<44->k=24∨preL k=[]∨preL k=[84]∨preL k=[75]∨preL k=[35]∨preL k=[88]∨preL k=[78]∨preL k=[88,88]∨preL k=[78,35]:=by decide
theorem xfK {α:Type} (po:α->Int) (n r:Nd α) (vs:List UInt8) (hv:∀ v,v∈vs->v=86∨v=65) :
  finB (foldP po n vs r)=((r.num==0) && r.text.toList.isEmpty && ((r.names.length:Int)==0) && decide (r.kids.map po=vs.map (fun v=>(v.toNat:Int)))):=by
 rw[xaK po n vs hv r]
 by_cases h:(r.kids.take vs.length).map po=vs.map (fun v=>(v.toNat:Int))
 ·rw[if_pos h]
  have hl:=congrArg List.length h
  simp only[List.length_map,List.length_take]at hl
  by_cases hd:r.kids.length=vs.length
  ·have e:r.kids.map po=vs.map (fun v=>(v.toNat:Int)):=by rw[<- h,List.take_of_length_le (by omega)]
   rw[decide_eq_true e]
   simp[finB,hd]
  ·have e:¬ r.kids.map po=vs.map (fun v=>(v.toNat:Int)):=fun e=>hd (by simpa using congrArg List.length e)
   rw[decide_eq_false e]
   have h3:¬ r.kids.length - vs.length=0:=by omega
   simp[finB,h3]
 ·rw[if_neg h]
  have e:¬ r.kids.map po=vs.map (fun v=>(v.toNat:Int)):=fun e=>h (by
   have hl:r.kids.length=vs.length:=by simpa using congrArg List.length e
   rw[List.take_of_length_le (by omega),e])
  rw[decide_eq_false e]
  simp[finB]
theorem emp_E:ByteArray.empty.toList.isEmpty=true:=by
 have e:ByteArray.empty.toList.length=ByteArray.empty.size:=by simp
 exact List.isEmpty_iff.2 (List.eq_nil_of_length_eq_zero e)
theorem asX {a:ByteArray} {l q:List ByteArray} (h:l.length - (q.length+1)=0):qbA 88 a (l.take (l.length - (q.length+1)))=freeB a:=by
 rw[h];simp[qbA]
theorem asN {a:ByteArray} {l q:List ByteArray}:qbA 78 a (l.take (l.length - (q.length+1)))=nameB a:=by
 simp[qbA]
theorem asXX {a b:ByteArray} {r:List ByteArray}:qbA 88 b ((a :: b :: r).take ((a :: b :: r).length - (r.length+1)))=(freeB b && !(b==a)):=by
 have e:(a :: b :: r).length - (r.length+1)=1:=by simp
 rw[e]
 simp[qbA]
theorem xfL {α:Type} (po:α->Int) (n:Nd α) (pre vs:List UInt8) (hv:∀ v,v∈vs->v=86∨v=65)
  (hp:pre=[]∨pre=[84]∨pre=[75]∨pre=[35]∨pre=[88]∨pre=[78]∨pre=[88,88]∨pre=[78,35]) :
  finB (foldP po n (pre++vs) n)=(preC n pre && decide (n.kids.map po=vs.map (fun v=>(v.toNat:Int)))):=by
 have hb:=fun r=>xfK po n r vs hv
 have hn:finB (none:Option (Nd α))=false:=rfl
 rcases hp with rfl|rfl|rfl|rfl|rfl|rfl|rfl|rfl
 ·exact hb _
 ·show finB (foldP po n (84 :: vs) n)=_
  by_cases h:qaQ n.sort n.num n.text [] 0=true
  ·rw[qeH ((st_T po n n).trans (if_pos h)),hb]
   simp only[preC,h,emp_E];rfl
  ·rw[qdN ((st_T po n n).trans (if_neg h)),hn]
   simp only[preC,Bool.eq_false_iff.2 h];rfl
 ·show finB (foldP po n (75 :: vs) n)=_
  by_cases h:kindB n.text=true
  ·rw[qeH ((st_K po n n).trans (if_pos h)),hb]
   simp only[preC,h,emp_E]
  ·rw[qdN ((st_K po n n).trans (if_neg h)),hn]
   simp only[preC,Bool.eq_false_iff.2 h,Bool.and_false,Bool.false_and]
 ·show finB (foldP po n (35 :: vs) n)=_
  by_cases h:lst n.sort.toNat<=n.num/\n.num<=mst n.sort.toNat
  ·rw[qeH ((st_n po n n).trans (if_pos h)),hb]
   simp only[preC,decide_eq_true h];rfl
  ·rw[qdN ((st_n po n n).trans (if_neg h)),hn]
   simp only[preC,decide_eq_false h,Bool.false_and]
 ·show finB (foldP po n (88 :: vs) n)=_
  cases hl:n.names with
  | nil=>rw[qdN (st_0 po n n (.inr rfl) hl),hn];simp[preC,hl]
  | cons a q=>
   have ha:=asX (a:=a) (l:=n.names) (q:=q) (by rw[hl];simp)
   by_cases h:freeB a=true
   ·rw[qeH ((st_1 po n n (.inr rfl) hl).trans (if_pos (ha.trans h))),hb]
    cases q with
    | nil=>simp[preC,hl,h]
    | cons b r=>simp[preC,hl];omega
   ·rw[qdN ((st_1 po n n (.inr rfl) hl).trans (if_neg (by rw[ha];exact h))),hn]
    cases q with
    | nil=>simp[preC,hl,h]
    | cons b r=>simp[preC,hl]
 ·show finB (foldP po n (78 :: vs) n)=_
  cases hl:n.names with
  | nil=>rw[qdN (st_0 po n n (.inl rfl) hl),hn];simp[preC,hl]
  | cons a q=>
   have ha:=asN (a:=a) (l:=n.names) (q:=q)
   by_cases h:nameB a=true
   ·rw[qeH ((st_1 po n n (.inl rfl) hl).trans (if_pos (ha.trans h))),hb]
    cases q with
    | nil=>simp[preC,hl,h]
    | cons b r=>simp[preC,hl];omega
   ·rw[qdN ((st_1 po n n (.inl rfl) hl).trans (if_neg (by rw[ha];exact h))),hn]
    cases q with
    | nil=>simp[preC,hl,h]
    | cons b r=>simp[preC,hl]
 ·show finB (foldP po n (88 :: 88 :: vs) n)=_
  cases hl:n.names with
  | nil=>rw[qdN (st_0 po n n (.inr rfl) hl),hn];simp[preC,hl]
  | cons a q=>
   have ha:=asX (a:=a) (l:=n.names) (q:=q) (by rw[hl];simp)
   by_cases h:freeB a=true
   ·rw[qeH ((st_1 po n n (.inr rfl) hl).trans (if_pos (ha.trans h)))]
    cases hq:q with
    | nil=>rw[qdN (st_0 po n _ (.inr rfl) rfl),hn];simp[preC,hl,hq]
    | cons b r=>
     subst hq
     have aA:=asXX (a:=a) (b:=b) (r:=r)
     rw[<- hl]at aA
     by_cases hb2:(freeB b && !(b==a))=true
     ·rw[qeH ((st_1 po n ⟨n.sort,n.num,n.text,b :: r,n.kids⟩ (.inr rfl) rfl).trans (if_pos (aA.trans hb2))),hb]
      cases r with
      | nil=>simp only[preC,hl,h];simp at hb2;simp[hb2]
      | cons c r=>simp[preC,hl];omega
     ·rw[qdN ((st_1 po n ⟨n.sort,n.num,n.text,b :: r,n.kids⟩ (.inr rfl) rfl).trans (if_neg (by rw[aA];exact hb2))),hn]
      cases r with
      | nil=>
       have e:(freeB a && freeB b && !(b==a))=false:=by rw[Bool.and_assoc,Bool.eq_false_iff.2 hb2];simp
       simp only[preC,hl,e,Bool.and_false,Bool.false_and]
      | cons c r=>simp[preC,hl]
   ·rw[qdN ((st_1 po n n (.inr rfl) hl).trans (if_neg (by rw[ha];exact h))),hn]
    match q with
    | []=>simp[preC,hl]
    | [b]=>simp[preC,hl,h]
    | b :: c :: r=>simp[preC,hl]
 ·show finB (foldP po n (78 :: 35 :: vs) n)=_
  cases hl:n.names with
  | nil=>rw[qdN (st_0 po n n (.inl rfl) hl),hn];simp[preC,hl]
  | cons a q=>
   have ha:=asN (a:=a) (l:=n.names) (q:=q)
   by_cases h:nameB a=true
   ·rw[qeH ((st_1 po n n (.inl rfl) hl).trans (if_pos (ha.trans h)))]
    by_cases h4:lst n.sort.toNat<=n.num/\n.num<=mst n.sort.toNat
    ·rw[qeH ((st_n po n _).trans (if_pos h4)),hb]
     cases q with
     | nil=>simp[preC,hl,h,h4]
     | cons b r=>simp[preC,hl];omega
    ·rw[qdN ((st_n po n _).trans (if_neg h4)),hn]
     simp only[preC,decide_eq_false h4,Bool.false_and]
   ·rw[qdN ((st_1 po n n (.inl rfl) hl).trans (if_neg (by rw[ha];exact h))),hn]
    cases q with
    | nil=>simp[preC,hl,h]
    | cons b r=>simp[preC,hl]
theorem qfC {α:Type} (po:α->Int) (n:Nd α) (h1:1<=n.sort) (h2:n.sort<=43) (h3:n.sort≠24) :
  justB po n=(preC n (preL n.sort.toNat) && decide (n.kids.map po=(kdV n.sort.toNat).map (fun v=>(v.toNat:Int)))):=by
 have hk:n.sort.toNat<44:=by omega
 have hw:=(qeD _ hk).resolve_left (by omega)
 unfold justB
 rw[qiK _ hk,xfL po n _ _ (qiL _) hw]
 simp[h1,h2]
theorem qdW {α:Type} (po:α->Int) (n:Nd α) (h:n.sort=24) :
  justB po n=(qeN po n && ((n.num==0) && n.text.toList.isEmpty)):=by
 have e:prt 24=[70]:=by decide
 unfold justB
 rw[h,show (24:Int).toNat=24 from rfl,e]
 by_cases hf:qeN po n=true
 ·rw[qeH ((st_F po n n).trans (if_pos hf))]
  simp[hf,finB,foldP]
 ·rw[qdN ((st_F po n n).trans (if_neg hf))]
  simp[hf,finB]
end Go.Proofs.YtelogmjfekhmpaaGreatDoor
