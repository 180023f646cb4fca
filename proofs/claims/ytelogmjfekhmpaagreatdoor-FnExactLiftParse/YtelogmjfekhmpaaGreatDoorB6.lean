import Derived.Test.YtelogmjfekhmpaaGreatDoorB1
import Derived.Lib.ItoaNum
import Derived.Lib.ItoaLen
namespace Go.Proofs.YtelogmjfekhmpaaGreatDoor
open Go.RowKit
def qeZ{α:Type}(f:α->List UInt8):List α->List UInt8
 | []=>[126]
 | k :: _=>63 :: f k
def txtL:(n:Nat)->T n->List UInt8
 | 0,_=>[]
 | n+1,t=>
  if Nd.sort t=1 then Lib.itoa (Nd.num t)
  else if Nd.sort t=2 then 34 :: (Nd.text t).data.toList++[34]
  else if Nd.sort t=3 then (if Nd.num t=1 then [121,101,115] else [110,111])
  else if Nd.sort t=6 then qeZ (txtL n) (Nd.kids t)
  else if Nd.sort t=5 then 123 :: joinL (zipL (Nd.names t) ((Nd.kids t).map (txtL n)))++[125]
  else 91 :: joinL ((Nd.kids t).map (txtL n))++[93]
theorem qhC:∀(n:Nat)(t:T n)(d:Int),goodT n t d=true->(txtL n t).length+10<=82*cntT n t:=by
 intro n
 induction n with
 | zero=>intro t d h;simp[goodT]at h
 | succ n ih=>
  intro t d h
  simp only[goodT,Bool.and_eq_true]at h
  have a:qaO (Nd.sort t) (Nd.num t) (Nd.text t) (Nd.names t) (Nd.kids t).length=true:=h.1.2
  have e:=List.all_eq_true.1 h.2
  have b:lenL ((Nd.kids t).map (txtL n))<=82*sumL (fun x=>cntT n x) (Nd.kids t):=by
   unfold lenL
   rw[qvV,<- qkY]
   exact qpC _ _ _ fun x hx=>ih x (d+1) (e x hx)
  have f:cntT (n+1) t=1+sumL (fun x=>cntT n x) (Nd.kids t):=rfl
  rw[f]
  have j:=xaG ((Nd.kids t).map (txtL n))
  unfold qaO at a
  simp only[txtL]
  by_cases c:Nd.sort t=1
  ·rw[if_pos c]at a ⊢
   simp only[Bool.and_eq_true,decide_eq_true_eq]at a
   have:=Lib.itoa_length_le (Nd.num t) (by omega) (by omega)
   omega
  rw[if_neg c]at a ⊢
  by_cases h2:Nd.sort t=2
  ·rw[if_pos h2]at a ⊢
   simp only[Bool.and_eq_true,textB,decide_eq_true_eq]at a
   have:(Nd.text t).size<=60:=a.1.1.2.1
   have g:(Nd.text t).data.toList.length=(Nd.text t).size:=by simp
   simp only[List.length_append,List.length_cons,List.length_nil,g]
   omega
  rw[if_neg h2]at a ⊢
  by_cases h3:Nd.sort t=3
  ·rw[if_pos h3]
   split<;>simp<;>omega
  rw[if_neg h3]at a ⊢
  by_cases h6:Nd.sort t=6
  ·rw[if_pos h6]
   cases hkk:Nd.kids t with
   | nil=>simp[qeZ];omega
   | cons k r=>
    have c:=ih k (d+1) (e k (by rw[hkk];exact List.mem_cons_self ..))
    simp only[qeZ,List.length_cons,sumL]
    omega
  rw[if_neg h6]
  by_cases h5:Nd.sort t=5
  ·have i:¬Nd.sort t=4:=by omega
   rw[if_neg i,if_pos h5]at a
   rw[if_pos h5]
   simp only[Bool.and_eq_true]at a
   have:=qvU (Nd.names t) ((Nd.kids t).map (txtL n)) (qeY _ a.2)
   simp only[List.length_append,List.length_cons,List.length_nil]
   omega
  rw[if_neg h5]
  simp only[List.length_append,List.length_cons,List.length_nil]
  omega
def wrdL:List (List UInt8):=[[],[],[],[],[],[110,111,110,101],[101,109,112,116,121],[115,111,109,101],[111,110,101],[97,100,100],[115,117,98],[109,117,108],[100,105,118],[114,101,109],[108,101,115,115],[115,97,109,101],[97,110,100],[111,114],[110,111,116],[105,102],[108,101,116],[103,101,116],[112,117,116],[99,117,116],[102,111,114,109],[97,116],[115,105,122,101],[106,111,105,110],[112,97,114,116],[115,104,111,119],[114,101,97,100],[101,108,115,101],[99,97,115,101],[109,97,112],[107,101,101,112],[102,111,108,100],[100,114,111,112],[102,97,105,108],[101,109,105,116],[115,101,110,100],[98,111,116,104],[99,104,111,111,115,101],[116,97,107,101],[101,97,99,104]]
def prtL:List (List UInt8):=[[],[84],[84],[84],[88],[75],[75],[86],[86],[86,86],[86,86],[86,86],[86,86],[86,86],[86,86],[86,86],[86,86],[86,86],[86],[86,86,86],[88,86,86],[78,86],[78,86,86],[78,86],[70],[86,86],[86],[86,86],[86,86,86],[86],[86],[86,86],[88,86,86,86],[88,86,86],[88,86,86],[88,88,86,86,86],[],[35],[86],[78,35,86],[65,65],[86,65,65],[88,86,65],[88,86,65]]
def wrd(k:Nat):ByteArray:=bs (wrdL.getD k [])
def prt(k:Nat):List UInt8:=prtL.getD k []
def lst(k:Nat):Int:=if k=39 then 1 else 0
def mst(k:Nat):Int:=if k=37 then 99 else if k=39 then 12 else 0
def opF(s:ByteArray)(k:Nat):Nat->Nat
 | 0=>0
 | n+1=>if wrd k==s then k else opF s (k+1) n
def opW(s:ByteArray):Nat:=opF s 5 39
def freeB(s:ByteArray):Bool:=nameB s && (opW s==0) && !(s==bs [121,101,115]) && !(s==bs [110,111]) && !(s==bs [101,110,100])
def poF(op:Int):Int:=if op<1∨43<op then 0 else if op<36 then 86 else 65
def qcM(l:List ByteArray)(i:Nat):Bool:=qdQ l i && !(l.getD i ByteArray.empty==bs [101,110,100])
def kindB(s:ByteArray):Bool:=(readK (s.size+8) s).isSome
def qaY(p:UInt8)(a:ByteArray)(ahead:List ByteArray):Bool:=if p=78 then nameB a else freeB a && !(ahead.contains a)
def qdD{α:Type}(po:α->Int)(n:Nd α)(k:Nat):Bool:=(List.range k).all (fun i=>qcM n.names i && ((n.kids.map po).getD i 0==86))
def qeK{α:Type}(po:α->Int)(n:Nd α):Bool:=(n.names.length==n.kids.length) && qdD po n n.names.length
theorem qpH{α:Type}(po:α->Int)(n:Nd α)(k:Nat):qdD po n (k+1)=(qdD po n k && (qcM n.names k && ((n.kids.map po).getD k 0==86))):=by
 simp[qdD,List.range_succ]
def stepP{α:Type}(po:α->Int)(n r:Nd α)(p:UInt8):Option (Nd α):=
 if p=84 then (if qaO n.sort n.num n.text [] 0=true then some ⟨r.sort,0,ByteArray.empty,r.names,r.kids⟩ else none)
 else if p=35 then (if lst n.sort.toNat<=n.num/\n.num<=mst n.sort.toNat then some ⟨r.sort,0,r.text,r.names,r.kids⟩ else none)
 else if p=75 then (if kindB n.text=true then some ⟨r.sort,r.num,ByteArray.empty,r.names,r.kids⟩ else none)
 else if p=70 then (if qeK po n=true then some ⟨r.sort,r.num,r.text,[],[]⟩ else none)
 else if p=78∨p=88 then
  match r.names with
  | []=>none
  | a :: q=>if qaY p a (n.names.take (n.names.length-(q.length+1)))=true then some ⟨r.sort,r.num,r.text,q,r.kids⟩ else none
 else
  match r.kids with
  | []=>none
  | k :: q=>if po k=(p.toNat:Int) then some ⟨r.sort,r.num,r.text,r.names,q⟩ else none
def finB{α:Type}(r:Option (Nd α)):Bool:=
 match r with
 | some r=>(r.num==0) && r.text.toList.isEmpty && ((r.names.length:Int)==0) && ((r.kids.length:Int)==0)
 | none=>false
def foldP{α:Type}(po:α->Int)(n:Nd α):List UInt8->Nd α->Option (Nd α)
 | [],r=>some r
 | p :: ps,r=>
  match stepP po n r p with
  | none=>none
  | some r'=>foldP po n ps r'
theorem qeE{α:Type}{po:α->Int}{n r r':Nd α}{p:UInt8}(h:stepP po n r p=some r')(ps:List UInt8):foldP po n (p :: ps) r=foldP po n ps r':=by rw[foldP,h]
theorem qdK{α:Type}{po:α->Int}{n r:Nd α}{p:UInt8}(h:stepP po n r p=none)(ps:List UInt8):foldP po n (p :: ps) r=none:=by rw[foldP,h]
def justB{α:Type}(po:α->Int)(n:Nd α):Bool:=
 decide (1<=n.sort/\n.sort<=43) && finB (foldP po n (prt n.sort.toNat) n)
theorem st_T{α:Type}(po:α->Int)(n r:Nd α):stepP po n r 84=if qaO n.sort n.num n.text [] 0=true then some ⟨r.sort,0,ByteArray.empty,r.names,r.kids⟩ else none:=by
 unfold stepP;rw[if_pos rfl]
theorem st_n{α:Type}(po:α->Int)(n r:Nd α):stepP po n r 35=if lst n.sort.toNat<=n.num/\n.num<=mst n.sort.toNat then some ⟨r.sort,0,r.text,r.names,r.kids⟩ else none:=by
 unfold stepP;rw[if_neg (by decide),if_pos rfl]
theorem st_K{α:Type}(po:α->Int)(n r:Nd α):stepP po n r 75=if kindB n.text=true then some ⟨r.sort,r.num,ByteArray.empty,r.names,r.kids⟩ else none:=by
 unfold stepP;rw[if_neg (by decide),if_neg (by decide),if_pos rfl]
theorem st_F{α:Type}(po:α->Int)(n r:Nd α):stepP po n r 70=if qeK po n=true then some ⟨r.sort,r.num,r.text,[],[]⟩ else none:=by
 unfold stepP;rw[if_neg (by decide),if_neg (by decide),if_neg (by decide),if_pos rfl]
theorem st_0{α:Type}(po:α->Int)(n r:Nd α){p:UInt8}(hp:p=78∨p=88)(h:r.names=[]):stepP po n r p=none:=by
 unfold stepP
 rw[if_neg (by rcases hp with rfl|rfl<;>decide),if_neg (by rcases hp with rfl|rfl<;>decide),if_neg (by rcases hp with rfl|rfl<;>decide),if_neg (by rcases hp with rfl|rfl<;>decide),if_pos hp,h]
theorem st_1{α:Type}(po:α->Int)(n r:Nd α){p:UInt8}(hp:p=78∨p=88){a:ByteArray}{q:List ByteArray}(h:r.names=a :: q):stepP po n r p=if qaY p a (n.names.take (n.names.length-(q.length+1)))=true then some ⟨r.sort,r.num,r.text,q,r.kids⟩ else none:=by
 unfold stepP
 rw[if_neg (by rcases hp with rfl|rfl<;>decide),if_neg (by rcases hp with rfl|rfl<;>decide),if_neg (by rcases hp with rfl|rfl<;>decide),if_neg (by rcases hp with rfl|rfl<;>decide),if_pos hp,h]
theorem st_k0{α:Type}(po:α->Int)(n r:Nd α){v:UInt8}(hv:v=86∨v=65)(h:r.kids=[]):stepP po n r v=none:=by
 unfold stepP
 rw[if_neg (by rcases hv with rfl|rfl<;>decide),if_neg (by rcases hv with rfl|rfl<;>decide),if_neg (by rcases hv with rfl|rfl<;>decide),if_neg (by rcases hv with rfl|rfl<;>decide),if_neg (by rcases hv with rfl|rfl<;>decide),h]
theorem st_k1{α:Type}(po:α->Int)(n r:Nd α){v:UInt8}(hv:v=86∨v=65){k:α}{q:List α}(h:r.kids=k :: q):stepP po n r v=if po k=(v.toNat:Int) then some ⟨r.sort,r.num,r.text,r.names,q⟩ else none:=by
 unfold stepP
 rw[if_neg (by rcases hv with rfl|rfl<;>decide),if_neg (by rcases hv with rfl|rfl<;>decide),if_neg (by rcases hv with rfl|rfl<;>decide),if_neg (by rcases hv with rfl|rfl<;>decide),if_neg (by rcases hv with rfl|rfl<;>decide),h]
theorem xaK {α:Type} (po:α->Int) (n:Nd α):∀ (vs:List UInt8),(∀ v,v∈vs->v=86∨v=65)->∀ r:Nd α,
  foldP po n vs r=if (r.kids.take vs.length).map po=vs.map (fun v=>(v.toNat:Int)) then some ⟨r.sort,r.num,r.text,r.names,r.kids.drop vs.length⟩ else none:=by
 intro vs
 induction vs with
 | nil=>intro _ r;simp[foldP]
 | cons v vs ih=>
  intro b r
  have a:=b v (List.mem_cons_self ..)
  cases hk:r.kids with
  | nil=>
   rw[foldP,st_k0 po n r a hk];simp
  | cons k q=>
   by_cases hp:po k=(v.toNat:Int)
   ·rw[foldP,st_k1 po n r a hk,if_pos hp]
    show foldP po n vs _=_
    rw[ih (fun x hx=>b x (List.mem_cons_of_mem _ hx))]
    simp[hp]
   ·rw[foldP,st_k1 po n r a hk,if_neg hp];simp[hp]
def preL(k:Nat):List UInt8:=(prt k).filter (fun p=>!(p==86 || p==65))
def kdV(k:Nat):List UInt8:=(prt k).filter (fun p=>p==86 || p==65)
theorem qiH:∀k,k<44->prt k=preL k++kdV k:=by decide
theorem qiI(k:Nat):∀v,v∈kdV k->v=86∨v=65:=by
 intro v a
 have:=(List.mem_filter.1 a).2
 simpa using this
def preC{α:Type}(n:Nd α)(pre:List UInt8):Bool:=
 match pre with
 | []=>(n.num==0) && n.text.toList.isEmpty && ((n.names.length:Int)==0)
 | [84]=>qaO n.sort n.num n.text [] 0 && ((n.names.length:Int)==0)
 | [75]=>(n.num==0) && kindB n.text && ((n.names.length:Int)==0)
 | [35]=>decide (lst n.sort.toNat<=n.num/\n.num<=mst n.sort.toNat) && n.text.toList.isEmpty && ((n.names.length:Int)==0)
 | [88]=>(n.num==0) && n.text.toList.isEmpty && (match n.names with|[a]=>freeB a|_=>false)
 | [78]=>(n.num==0) && n.text.toList.isEmpty && (match n.names with|[a]=>nameB a|_=>false)
 | [88,88]=>(n.num==0) && n.text.toList.isEmpty && (match n.names with|[a,b]=>freeB a && freeB b && !(b==a)|_=>false)
 | [78,35]=>decide (lst n.sort.toNat<=n.num/\n.num<=mst n.sort.toNat) && n.text.toList.isEmpty && (match n.names with|[a]=>nameB a|_=>false)
 | _=>false
theorem qeA:∀k,k<44->k=24∨preL k=[]∨preL k=[84]∨preL k=[75]∨preL k=[35]∨preL k=[88]∨preL k=[78]∨preL k=[88,88]∨preL k=[78,35]:=by decide
theorem xfL {α:Type} (po:α->Int) (n r:Nd α) (vs:List UInt8) (hv:∀ v,v∈vs->v=86∨v=65) :
  finB (foldP po n vs r)=((r.num==0) && r.text.toList.isEmpty && ((r.names.length:Int)==0) && decide (r.kids.map po=vs.map (fun v=>(v.toNat:Int)))):=by
 rw[xaK po n vs hv r]
 by_cases h:(r.kids.take vs.length).map po=vs.map (fun v=>(v.toNat:Int))
 ·rw[if_pos h]
  have a:=congrArg List.length h
  simp only[List.length_map,List.length_take]at a
  by_cases hd:r.kids.length=vs.length
  ·have e:r.kids.map po=vs.map (fun v=>(v.toNat:Int)):=by rw[<- h,List.take_of_length_le (by omega)]
   rw[decide_eq_true e]
   simp[finB,hd]
  ·have e:¬r.kids.map po=vs.map (fun v=>(v.toNat:Int)):=fun e=>hd (by simpa using congrArg List.length e)
   rw[decide_eq_false e]
   have b:¬r.kids.length-vs.length=0:=by omega
   simp[finB,b]
 ·rw[if_neg h]
  have e:¬r.kids.map po=vs.map (fun v=>(v.toNat:Int)):=fun e=>h (by
   have a:r.kids.length=vs.length:=by simpa using congrArg List.length e
   rw[List.take_of_length_le (by omega),e])
  rw[decide_eq_false e]
  simp[finB]
theorem emp_E:ByteArray.empty.toList.isEmpty=true:=by
 have e:ByteArray.empty.toList.length=ByteArray.empty.size:=by simp
 exact List.isEmpty_iff.2 (List.eq_nil_of_length_eq_zero e)
theorem asX{a:ByteArray}{l q:List ByteArray}(h:l.length-(q.length+1)=0):qaY 88 a (l.take (l.length-(q.length+1)))=freeB a:=by
 rw[h];simp[qaY]
theorem asN{a:ByteArray}{l q:List ByteArray}:qaY 78 a (l.take (l.length-(q.length+1)))=nameB a:=by
 simp[qaY]
theorem asXX{a b:ByteArray}{r:List ByteArray}:qaY 88 b ((a :: b :: r).take ((a :: b :: r).length-(r.length+1)))=(freeB b && !(b==a)):=by
 have e:(a :: b :: r).length-(r.length+1)=1:=by simp
 rw[e]
 simp[qaY]
theorem xfM {α:Type} (po:α->Int) (n:Nd α) (pre vs:List UInt8) (hv:∀ v,v∈vs->v=86∨v=65)
  (hp:pre=[]∨pre=[84]∨pre=[75]∨pre=[35]∨pre=[88]∨pre=[78]∨pre=[88,88]∨pre=[78,35]) :
  finB (foldP po n (pre++vs) n)=(preC n pre && decide (n.kids.map po=vs.map (fun v=>(v.toNat:Int)))):=by
 have g:=fun r=>xfL po n r vs hv
 have d:finB (none:Option (Nd α))=false:=rfl
 rcases hp with rfl|rfl|rfl|rfl|rfl|rfl|rfl|rfl
 ·exact g _
 ·show finB (foldP po n (84 :: vs) n)=_
  by_cases h:qaO n.sort n.num n.text [] 0=true
  ·rw[qeE ((st_T po n n).trans (if_pos h)),g]
   simp only[preC,h,emp_E];rfl
  ·rw[qdK ((st_T po n n).trans (if_neg h)),d]
   simp only[preC,Bool.eq_false_iff.2 h];rfl
 ·show finB (foldP po n (75 :: vs) n)=_
  by_cases h:kindB n.text=true
  ·rw[qeE ((st_K po n n).trans (if_pos h)),g]
   simp only[preC,h,emp_E]
  ·rw[qdK ((st_K po n n).trans (if_neg h)),d]
   simp only[preC,Bool.eq_false_iff.2 h,Bool.and_false,Bool.false_and]
 ·show finB (foldP po n (35 :: vs) n)=_
  by_cases h:lst n.sort.toNat<=n.num/\n.num<=mst n.sort.toNat
  ·rw[qeE ((st_n po n n).trans (if_pos h)),g]
   simp only[preC,decide_eq_true h];rfl
  ·rw[qdK ((st_n po n n).trans (if_neg h)),d]
   simp only[preC,decide_eq_false h,Bool.false_and]
 ·show finB (foldP po n (88 :: vs) n)=_
  cases hl:n.names with
  | nil=>rw[qdK (st_0 po n n (.inr rfl) hl),d];simp[preC,hl]
  | cons a q=>
   have f:=asX (a:=a) (l:=n.names) (q:=q) (by rw[hl];simp)
   by_cases h:freeB a=true
   ·rw[qeE ((st_1 po n n (.inr rfl) hl).trans (if_pos (f.trans h))),g]
    cases q with
    | nil=>simp[preC,hl,h]
    | cons b r=>simp[preC,hl];omega
   ·rw[qdK ((st_1 po n n (.inr rfl) hl).trans (if_neg (by rw[f];exact h))),d]
    cases q with
    | nil=>simp[preC,hl,h]
    | cons b r=>simp[preC,hl]
 ·show finB (foldP po n (78 :: vs) n)=_
  cases hl:n.names with
  | nil=>rw[qdK (st_0 po n n (.inl rfl) hl),d];simp[preC,hl]
  | cons a q=>
   have f:=asN (a:=a) (l:=n.names) (q:=q)
   by_cases h:nameB a=true
   ·rw[qeE ((st_1 po n n (.inl rfl) hl).trans (if_pos (f.trans h))),g]
    cases q with
    | nil=>simp[preC,hl,h]
    | cons b r=>simp[preC,hl];omega
   ·rw[qdK ((st_1 po n n (.inl rfl) hl).trans (if_neg (by rw[f];exact h))),d]
    cases q with
    | nil=>simp[preC,hl,h]
    | cons b r=>simp[preC,hl]
 ·show finB (foldP po n (88 :: 88 :: vs) n)=_
  cases hl:n.names with
  | nil=>rw[qdK (st_0 po n n (.inr rfl) hl),d];simp[preC,hl]
  | cons a q=>
   have f:=asX (a:=a) (l:=n.names) (q:=q) (by rw[hl];simp)
   by_cases h:freeB a=true
   ·rw[qeE ((st_1 po n n (.inr rfl) hl).trans (if_pos (f.trans h)))]
    cases hq:q with
    | nil=>rw[qdK (st_0 po n _ (.inr rfl) rfl),d];simp[preC,hl,hq]
    | cons b r=>
     subst hq
     have i:=asXX (a:=a) (b:=b) (r:=r)
     rw[<- hl]at i
     by_cases hb2:(freeB b && !(b==a))=true
     ·rw[qeE ((st_1 po n ⟨n.sort,n.num,n.text,b :: r,n.kids⟩ (.inr rfl) rfl).trans (if_pos (i.trans hb2))),g]
      cases r with
      | nil=>simp only[preC,hl,h];simp at hb2;simp[hb2]
      | cons c r=>simp[preC,hl];omega
     ·rw[qdK ((st_1 po n ⟨n.sort,n.num,n.text,b :: r,n.kids⟩ (.inr rfl) rfl).trans (if_neg (by rw[i];exact hb2))),d]
      cases r with
      | nil=>
       have e:(freeB a && freeB b && !(b==a))=false:=by rw[Bool.and_assoc,Bool.eq_false_iff.2 hb2];simp
       simp only[preC,hl,e,Bool.and_false,Bool.false_and]
      | cons c r=>simp[preC,hl]
   ·rw[qdK ((st_1 po n n (.inr rfl) hl).trans (if_neg (by rw[f];exact h))),d]
    match q with
    | []=>simp[preC,hl]
    | [b]=>simp[preC,hl,h]
    | b :: c :: r=>simp[preC,hl]
 ·show finB (foldP po n (78 :: 35 :: vs) n)=_
  cases hl:n.names with
  | nil=>rw[qdK (st_0 po n n (.inl rfl) hl),d];simp[preC,hl]
  | cons a q=>
   have f:=asN (a:=a) (l:=n.names) (q:=q)
   by_cases h:nameB a=true
   ·rw[qeE ((st_1 po n n (.inl rfl) hl).trans (if_pos (f.trans h)))]
    by_cases h4:lst n.sort.toNat<=n.num/\n.num<=mst n.sort.toNat
    ·rw[qeE ((st_n po n _).trans (if_pos h4)),g]
     cases q with
     | nil=>simp[preC,hl,h,h4]
     | cons b r=>simp[preC,hl];omega
    ·rw[qdK ((st_n po n _).trans (if_neg h4)),d]
     simp only[preC,decide_eq_false h4,Bool.false_and]
   ·rw[qdK ((st_1 po n n (.inl rfl) hl).trans (if_neg (by rw[f];exact h))),d]
    cases q with
    | nil=>simp[preC,hl,h]
    | cons b r=>simp[preC,hl]
theorem qfA {α:Type} (po:α->Int) (n:Nd α) (h1:1<=n.sort) (h2:n.sort<=43) (h3:n.sort≠24) :
  justB po n=(preC n (preL n.sort.toNat) && decide (n.kids.map po=(kdV n.sort.toNat).map (fun v=>(v.toNat:Int)))):=by
 have a:n.sort.toNat<44:=by omega
 have b:=(qeA _ a).resolve_left (by omega)
 unfold justB
 rw[qiH _ a,xfM po n _ _ (qiI _) b]
 simp[h1,h2]
theorem qdT {α:Type} (po:α->Int) (n:Nd α) (h:n.sort=24) :
  justB po n=(qeK po n && ((n.num==0) && n.text.toList.isEmpty)):=by
 have e:prt 24=[70]:=by decide
 unfold justB
 rw[h,show (24:Int).toNat=24 from rfl,e]
 by_cases hf:qeK po n=true
 ·rw[qeE ((st_F po n n).trans (if_pos hf))]
  simp[hf,finB,foldP]
 ·rw[qdK ((st_F po n n).trans (if_neg hf))]
  simp[hf,finB]
def opT:(m:Nat)->T m->Int
 | 0,_=>0
 | _+1,t=>Nd.sort t
def poT(m:Nat)(t:T m):Int:=poF (opT m t)
def goodN:(m:Nat)->T m->Int->Bool
 | 0,_,_=>false
 | m+1,t,d=>decide (d<=24) && justB (poT m) (show Nd (T m) from t) && (Nd.kids t).all (fun k=>goodN m k (d+1))
def leafT(s m:Int)(x:ByteArray):T 1:=(⟨s,m,x,[],[]⟩:Nd (T 0))
def leafL(s m:Int)(x:ByteArray):List UInt8:=txtL 1 (leafT s m x)
def lenF{α:Type}(lk:α->Nat)(n:Nd α):Nat:=
 if n.sort<=3 then (leafL n.sort n.num n.text).length
 else if n.sort=4 then (n.names.headD ByteArray.empty).size
 else (wrd n.sort.toNat).size+szN n.names+(if n.text.size=0 then 0 else n.text.size+1)+(if n.sort=37∨n.sort=39 then (Lib.itoa n.num).length+1 else 0)+sumL (fun k=>lk k+1) n.kids+(if n.sort=24 then 4 else 0)
def lenN:(m:Nat)->T m->Nat
 | 0,_=>0
 | m+1,t=>lenF (lenN m) (show Nd (T m) from t)
def wk(k x:Nat):Nat:=if k=0 then x else k+1+x
theorem qeN{k:Nat}(h:1<=k)(x:Nat):wk k x=k+1+x:=by unfold wk;rw[if_neg (by omega)]
def lenFs{α:Type}(lk:α->Nat):List ByteArray->List α->Nat->Nat
 | a :: ns,x :: ks,k=>lenFs lk ns ks (wk (wk k a.size) (lk x))
 | _,_,k=>k
def lenP{α:Type}(lk:α->Nat)(n:Nd α):List UInt8->List ByteArray->List α->Nat->Nat
 | [],_,_,k=>k
 | p :: ps,ns,ks,k=>
  if p=84 then lenP lk n ps ns ks (wk k (leafL n.sort n.num n.text).length)
  else if p=35 then lenP lk n ps ns ks (wk k (Lib.itoa n.num).length)
  else if p=75 then lenP lk n ps ns ks (wk k n.text.size)
  else if p=70 then lenP lk n ps ns ks (wk (lenFs lk n.names n.kids k) 3)
  else if p=78∨p=88 then
   match ns with
   | []=>k
   | a :: q=>lenP lk n ps q ks (wk k a.size)
  else
   match ks with
   | []=>k
   | x :: q=>lenP lk n ps ns q (wk k (lk x))
def fitP{α:Type}(po:α->Int):List UInt8->List ByteArray->List α->Prop
 | [],_,_=>True
 | p :: ps,ns,ks=>
  if p=78∨p=88 then
   match ns with
   | []=>False
   | _ :: q=>fitP po ps q ks
  else if p=86∨p=65 then
   match ks with
   | []=>False
   | x :: q=>po x=(p.toNat:Int)/\fitP po ps ns q
  else fitP po ps ns ks
theorem xfN{α:Type}(lk:α->Nat):∀(ns:List ByteArray)(ks:List α)(k:Nat),ns.length=ks.length->1<=k->lenFs lk ns ks k=k+szN ns+sumL (fun x=>lk x+1) ks:=by
 intro ns
 induction ns with
 | nil=>intro ks k h b;cases ks with
  | nil=>simp[lenFs,szN,sumL]
  | cons x r=>simp at h
 | cons a ns ih=>intro ks k h b;cases ks with
  | nil=>simp at h
  | cons x r=>
   simp only[List.length_cons]at h
   rw[lenFs,ih r _ (by omega) (by rw[qeN b,qeN (by omega)];omega),qeN b,qeN (by omega)]
   simp only[szN,sumL];omega
theorem qhF{v:UInt8}(h:v=86∨v=65):¬v=84/\¬v=35/\¬v=75/\¬v=70/\¬(v=78∨v=88):=by rcases h with rfl|rfl<;>decide
theorem qfB{α:Type}(lk:α->Nat)(n:Nd α):∀(vs:List UInt8),(∀v,v∈vs->v=86∨v=65)->∀(ns:List ByteArray)(ks:List α)(k:Nat),ks.length=vs.length->1<=k->lenP lk n vs ns ks k=k+sumL (fun x=>lk x+1) ks:=by
 intro vs
 induction vs with
 | nil=>intro _ ns ks k h _;have:ks=[]:=List.eq_nil_of_length_eq_zero h;subst this;simp[lenP,sumL]
 | cons v vs ih=>
  intro a ns ks k h b
  cases ks with
  | nil=>simp at h
  | cons x r=>
   obtain⟨c,d,e,f,g⟩:=qhF (a v (List.mem_cons_self ..))
   simp only[lenP,if_neg c,if_neg d,if_neg e,if_neg f,if_neg g]
   rw[ih (fun x hx=>a x (List.mem_cons_of_mem _ hx)) ns r _ (by simpa using h) (by rw[qeN b];omega),qeN b]
   simp only[sumL];omega
theorem xfO{α:Type}(po:α->Int):∀(vs:List UInt8),(∀v,v∈vs->v=86∨v=65)->∀(ns:List ByteArray)(ks:List α),ks.map po=vs.map (fun v=>(v.toNat:Int))->fitP po vs ns ks:=by
 intro vs
 induction vs with
 | nil=>intro _ ns ks h;simp[fitP]
 | cons v vs ih=>
  intro a ns ks h
  cases ks with
  | nil=>simp at h
  | cons x r=>
   obtain⟨c,d,e,f,b⟩:=qhF (a v (List.mem_cons_self ..))
   simp only[List.map_cons,List.cons.injEq]at h
   simp only[fitP,if_neg b,if_pos (a v (List.mem_cons_self ..))]
   exact⟨h.1,ih (fun x hx=>a x (List.mem_cons_of_mem _ hx)) ns r h.2⟩
def wk0(op k:Nat):Nat:=if (wrd op).size=0 then k else wk k (wrd op).size
theorem qkZ:∀k,k<44->((k<5->(wrd k).size=0)/\(5<=k->1<=(wrd k).size/\(wrd k).size<=6)):=by decide
theorem qvX:∀k,k<4->1<=k->preL k=[84]/\kdV k=[]:=by decide
theorem pre_name:preL 4=[88]/\kdV 4=[]:=by decide
theorem qvY:∀k,k<44->5<=k->preL k≠[84]:=by decide
theorem xiF:∀k,k<44->(k=37∨k=39)->(preL k=[35]∨preL k=[78,35]):=by decide
theorem xfP:∀k,k<44->(preL k=[35]∨preL k=[78,35])->(k=37∨k=39):=by decide
theorem lp_T{α:Type}(lk:α->Nat)(n:Nd α)(ps:List UInt8)(ns:List ByteArray)(ks:List α)(k:Nat):lenP lk n (84 :: ps) ns ks k=lenP lk n ps ns ks (wk k (leafL n.sort n.num n.text).length):=by
 rw[lenP.eq_def];exact if_pos rfl
theorem lp_n{α:Type}(lk:α->Nat)(n:Nd α)(ps:List UInt8)(ns:List ByteArray)(ks:List α)(k:Nat):lenP lk n (35 :: ps) ns ks k=lenP lk n ps ns ks (wk k (Lib.itoa n.num).length):=by
 rw[lenP.eq_def];exact (if_neg (by decide)).trans (if_pos rfl)
theorem lp_K{α:Type}(lk:α->Nat)(n:Nd α)(ps:List UInt8)(ns:List ByteArray)(ks:List α)(k:Nat):lenP lk n (75 :: ps) ns ks k=lenP lk n ps ns ks (wk k n.text.size):=by
 rw[lenP.eq_def];exact (if_neg (by decide)).trans ((if_neg (by decide)).trans (if_pos rfl))
theorem lp_F{α:Type}(lk:α->Nat)(n:Nd α)(ps:List UInt8)(ns:List ByteArray)(ks:List α)(k:Nat):lenP lk n (70 :: ps) ns ks k=lenP lk n ps ns ks (wk (lenFs lk n.names n.kids k) 3):=by
 rw[lenP.eq_def];exact (if_neg (by decide)).trans ((if_neg (by decide)).trans ((if_neg (by decide)).trans (if_pos rfl)))
theorem lp_N{α:Type}(lk:α->Nat)(n:Nd α){p:UInt8}(hp:p=78∨p=88)(ps:List UInt8)(a:ByteArray)(ns:List ByteArray)(ks:List α)(k:Nat):lenP lk n (p :: ps) (a :: ns) ks k=lenP lk n ps ns ks (wk k a.size):=by
 rw[lenP.eq_def];dsimp only;rw[if_neg (by rcases hp with rfl|rfl<;>decide),if_neg (by rcases hp with rfl|rfl<;>decide),if_neg (by rcases hp with rfl|rfl<;>decide),if_neg (by rcases hp with rfl|rfl<;>decide),if_pos hp]
theorem lp_V{α:Type}(lk:α->Nat)(n:Nd α){p:UInt8}(hp:p=86∨p=65)(ps:List UInt8)(ns:List ByteArray)(x:α)(ks:List α)(k:Nat):lenP lk n (p :: ps) ns (x :: ks) k=lenP lk n ps ns ks (wk k (lk x)):=by
 obtain⟨a,b,c,d,e⟩:=qhF hp
 rw[lenP.eq_def];dsimp only;rw[if_neg a,if_neg b,if_neg c,if_neg d,if_neg e]
theorem fp_N{α:Type}(po:α->Int){p:UInt8}(hp:p=78∨p=88)(ps:List UInt8)(ns:List ByteArray)(ks:List α)(h:fitP po (p :: ps) ns ks):∃a q,ns=a :: q/\fitP po ps q ks:=by
 cases ns with
 | nil=>rw[fitP.eq_def]at h;dsimp only at h;rw[if_pos hp]at h;exact h.elim
 | cons a q=>rw[fitP.eq_def]at h;dsimp only at h;rw[if_pos hp]at h;exact⟨a,q,rfl,h⟩
theorem fp_V{α:Type}(po:α->Int){p:UInt8}(hp:p=86∨p=65)(ps:List UInt8)(ns:List ByteArray)(ks:List α)(h:fitP po (p :: ps) ns ks):∃x q,ks=x :: q/\po x=(p.toNat:Int)/\fitP po ps ns q:=by
 obtain⟨b,c,d,e,a⟩:=qhF hp
 cases ks with
 | nil=>rw[fitP.eq_def]at h;dsimp only at h;rw[if_neg a,if_pos hp]at h;exact h.elim
 | cons x q=>rw[fitP.eq_def]at h;dsimp only at h;rw[if_neg a,if_pos hp]at h;exact⟨x,q,rfl,h⟩
theorem fp_O{α:Type}(po:α->Int){p:UInt8}(hp:p=84∨p=35∨p=75∨p=70)(ps:List UInt8)(ns:List ByteArray)(ks:List α):fitP po (p :: ps) ns ks↔fitP po ps ns ks:=by
 rw[fitP.eq_def];dsimp only;rw[if_neg (by rcases hp with rfl|rfl|rfl|rfl<;>decide),if_neg (by rcases hp with rfl|rfl|rfl|rfl<;>decide)]
theorem fp_N'{α:Type}(po:α->Int){p:UInt8}(hp:p=78∨p=88)(ps:List UInt8)(a:ByteArray)(q:List ByteArray)(ks:List α)(h:fitP po ps q ks):fitP po (p :: ps) (a :: q) ks:=by
 rw[fitP.eq_def];dsimp only;rw[if_pos hp];exact h
theorem qaG(x:ByteArray)(h:x.toList.isEmpty=true):x.size=0:=by
 have a:=List.isEmpty_iff.1 h
 have e:=ByteArray.toList_eq x
 rw[e]at a
 show x.data.size=0
 rw[<- Array.length_toList,a];rfl
theorem xaL(m:Nat)(k:K (m+1)):¬txtK (m+1) k=[]:=by
 intro h
 rw[txtK]at h
 split at h
 ·cases h
 split at h
 ·cases h
 split at h
 ·cases h
 split at h
 ·cases h
 split at h
 ·cases h
 ·cases h
theorem xaM(x:ByteArray)(h:kindB x=true):¬x.size=0:=by
 intro c
 unfold kindB at h
 obtain⟨k,d⟩:=Option.isSome_iff_exists.1 h
 have a:=(qhE d).2.2
 have b:x.data.toList=[]:=List.eq_nil_of_length_eq_zero (by simpa using c)
 rw[b]at a
 exact xaL _ _ a
theorem xfQ {α:Type} (po:α->Int) (lk:α->Nat) (n:Nd α) (hj:justB po n=true) (k:Nat) :
  lenP lk n (prt n.sort.toNat) n.names n.kids (wk0 n.sort.toNat k)=wk k (lenF lk n)/\fitP po (prt n.sort.toNat) n.names n.kids:=by
 have z:1<=n.sort/\n.sort<=43:=by
  unfold justB at hj;simp only[Bool.and_eq_true,decide_eq_true_eq]at hj;exact hj.1
 by_cases h24:n.sort=24
 ·rw[qdT po n h24]at hj
  simp only[Bool.and_eq_true]at hj
  have e:prt 24=[70]:=by decide
  have g:=qaG _ hj.2.2
  have o:n.names.length=n.kids.length:=by
   have:=hj.1;unfold qeK at this;simp only[Bool.and_eq_true,beq_iff_eq]at this;exact this.1
  have w:(wrd 24).size=4:=by decide
  rw[h24,show (24:Int).toNat=24 from rfl,e]
  refine⟨?_,by simp[fitP]⟩
  have p:1<=wk0 24 k:=by unfold wk0 wk;rw[w];simp;split<;>omega
  rw[lp_F,lenP,xfN lk _ _ _ o p,qeN (by omega)]
  unfold lenF
  rw[h24,if_neg (by omega),if_neg (by omega),show (24:Int).toNat=24 from rfl,w,if_pos g,if_neg (by omega),if_pos rfl]
  unfold wk0 wk
  rw[w]
  by_cases h0:k=0
  ·simp[h0]
  ·simp[h0];omega
 ·have d:n.sort.toNat<44:=by omega
  rw[qfA po n z.1 z.2 h24]at hj
  simp only[Bool.and_eq_true,decide_eq_true_eq]at hj
  obtain⟨c,p⟩:=hj
  have o:n.kids.length=(kdV n.sort.toNat).length:=by simpa using congrArg List.length p
  have A:=qvY _ d
  obtain⟨B,w2⟩:=qkZ _ d
  rw[qiH _ d]
  have f:=qiI n.sort.toNat
  have i:=xfO po _ f
  rcases Nat.lt_or_ge n.sort.toNat 5 with t|t
  ·have y:wk0 n.sort.toNat k=k:=by unfold wk0;rw[if_pos (B t)]
   rw[y]
   by_cases h4:n.sort.toNat=4
   ·obtain⟨u,v⟩:=pre_name
    rw[<- h4]at u v
    rw[u]at c ⊢
    rw[v]at o ⊢
    simp only[preC]at c
    cases m:n.names with
    | nil=>rw[m]at c;simp at c
    | cons a q=>
     refine⟨?_,by simp[fitP]⟩
     rw[List.append_nil,lp_N lk n (.inr rfl),lenP]
     unfold lenF
     rw[if_neg (by omega),if_pos (by omega),m]
     rfl
   ·obtain⟨u,v⟩:=qvX n.sort.toNat (by omega) (by omega)
    rw[u,v]
    refine⟨?_,by simp[fitP]⟩
    rw[List.append_nil,lp_T,lenP]
    unfold lenF
    rw[if_pos (by omega)]
  ·obtain⟨w3,C⟩:=w2 t
   have y:wk0 n.sort.toNat k=wk k (wrd n.sort.toNat).size:=by unfold wk0;rw[if_neg (by omega)]
   have j:1<=wk k (wrd n.sort.toNat).size:=by unfold wk;split<;>omega
   have r:∀(b x:Nat),(wk k b)+x=wk k (b+x):=by intro b x;unfold wk;split<;>omega
   have s:lenF lk n=(wrd n.sort.toNat).size+szN n.names+(if n.text.size=0 then 0 else n.text.size+1)+(if n.sort=37∨n.sort=39 then (Lib.itoa n.num).length+1 else 0)+sumL (fun k=>lk k+1) n.kids:=by
    unfold lenF;rw[if_neg (by omega),if_neg (by omega),if_neg h24];omega
   rw[y,s]
   have l:(n.sort=37∨n.sort=39)↔(preL n.sort.toNat=[35]∨preL n.sort.toNat=[78,35]):=⟨fun h=>xiF _ d (by omega),fun h=>by have:=xfP _ d h;omega⟩
   rcases (qeA _ d).resolve_left (by omega) with h|h|h|h|h|h|h|h
   ·rw[h]at c ⊢
    simp only[preC,Bool.and_eq_true,beq_iff_eq]at c
    have g:=qaG _ c.1.2
    have m:n.names=[]:=List.eq_nil_of_length_eq_zero (by omega)
    rw[if_pos g,if_neg (by rw[l,h];decide),m]
    refine⟨?_,i _ _ p⟩
    rw[List.nil_append,qfB lk n _ f _ _ _ o j]
    rw[r]
    simp[szN]
   ·exact absurd h (A t)
   ·rw[h]at c ⊢
    simp only[preC,Bool.and_eq_true,beq_iff_eq]at c
    have g:=xaM _ c.1.2
    have m:n.names=[]:=List.eq_nil_of_length_eq_zero (by omega)
    rw[if_neg g,if_neg (by rw[l,h];decide),m]
    refine⟨?_,(fp_O po (.inr (.inr (.inl rfl))) _ _ _).2 (i _ _ p)⟩
    rw[show [75]++kdV n.sort.toNat=75 :: kdV n.sort.toNat from rfl,lp_K,qeN j,qfB lk n _ f _ _ _ o (by omega)]
    rw[show wk k (wrd n.sort.toNat).size+1+n.text.size+sumL (fun x=>lk x+1) n.kids=wk k (wrd n.sort.toNat).size+(1+n.text.size+sumL (fun x=>lk x+1) n.kids) by omega,r]
    congr 1;simp only[szN];omega
   ·rw[h]at c ⊢
    simp only[preC,Bool.and_eq_true,beq_iff_eq]at c
    have g:=qaG _ c.1.2
    have m:n.names=[]:=List.eq_nil_of_length_eq_zero (by omega)
    rw[if_pos g,if_pos (by rw[l,h];simp),m]
    refine⟨?_,(fp_O po (.inr (.inl rfl)) _ _ _).2 (i _ _ p)⟩
    rw[show [35]++kdV n.sort.toNat=35 :: kdV n.sort.toNat from rfl,lp_n,qeN j,qfB lk n _ f _ _ _ o (by omega)]
    rw[show wk k (wrd n.sort.toNat).size+1+(Lib.itoa n.num).length+sumL (fun x=>lk x+1) n.kids=wk k (wrd n.sort.toNat).size+(1+(Lib.itoa n.num).length+sumL (fun x=>lk x+1) n.kids) by omega,r]
    congr 1;simp only[szN];omega
   ·rw[h]at c ⊢
    simp only[preC,Bool.and_eq_true,beq_iff_eq]at c
    have g:=qaG _ c.1.2
    rw[if_pos g,if_neg (by rw[l,h];decide)]
    match m:n.names,c.2 with
    | [a],_=>
     refine⟨?_,fp_N' po (.inr rfl) _ _ _ _ (i _ _ p)⟩
     rw[show [88]++kdV n.sort.toNat=88 :: kdV n.sort.toNat from rfl,lp_N lk n (.inr rfl),qeN j,qfB lk n _ f _ _ _ o (by omega)]
     rw[show wk k (wrd n.sort.toNat).size+1+a.size+sumL (fun x=>lk x+1) n.kids=wk k (wrd n.sort.toNat).size+(1+a.size+sumL (fun x=>lk x+1) n.kids) by omega,r]
     congr 1;simp only[szN];omega
   ·rw[h]at c ⊢
    simp only[preC,Bool.and_eq_true,beq_iff_eq]at c
    have g:=qaG _ c.1.2
    rw[if_pos g,if_neg (by rw[l,h];decide)]
    match m:n.names,c.2 with
    | [a],_=>
     refine⟨?_,fp_N' po (.inl rfl) _ _ _ _ (i _ _ p)⟩
     rw[show [78]++kdV n.sort.toNat=78 :: kdV n.sort.toNat from rfl,lp_N lk n (.inl rfl),qeN j,qfB lk n _ f _ _ _ o (by omega)]
     rw[show wk k (wrd n.sort.toNat).size+1+a.size+sumL (fun x=>lk x+1) n.kids=wk k (wrd n.sort.toNat).size+(1+a.size+sumL (fun x=>lk x+1) n.kids) by omega,r]
     congr 1;simp only[szN];omega
   ·rw[h]at c ⊢
    simp only[preC,Bool.and_eq_true,beq_iff_eq]at c
    have g:=qaG _ c.1.2
    rw[if_pos g,if_neg (by rw[l,h];decide)]
    match m:n.names,c.2 with
    | [a,b],_=>
     refine⟨?_,fp_N' po (.inr rfl) _ _ _ _ (fp_N' po (.inr rfl) _ _ _ _ (i _ _ p))⟩
     rw[show [88,88]++kdV n.sort.toNat=88 :: 88 :: kdV n.sort.toNat from rfl,lp_N lk n (.inr rfl),lp_N lk n (.inr rfl),qeN j,qeN (by omega),qfB lk n _ f _ _ _ o (by omega)]
     rw[show wk k (wrd n.sort.toNat).size+1+a.size+1+b.size+sumL (fun x=>lk x+1) n.kids=wk k (wrd n.sort.toNat).size+(1+a.size+1+b.size+sumL (fun x=>lk x+1) n.kids) by omega,r]
     congr 1;simp only[szN];omega
   ·rw[h]at c ⊢
    simp only[preC,Bool.and_eq_true]at c
    have g:=qaG _ c.1.2
    rw[if_pos g,if_pos (by rw[l,h];simp)]
    match m:n.names,c.2 with
    | [a],_=>
     refine⟨?_,fp_N' po (.inl rfl) _ _ _ _ ((fp_O po (.inr (.inl rfl)) _ _ _).2 (i _ _ p))⟩
     rw[show [78,35]++kdV n.sort.toNat=78 :: 35 :: kdV n.sort.toNat from rfl,lp_N lk n (.inl rfl),lp_n,qeN j,qeN (by omega),qfB lk n _ f _ _ _ o (by omega)]
     rw[show wk k (wrd n.sort.toNat).size+1+a.size+1+(Lib.itoa n.num).length+sumL (fun x=>lk x+1) n.kids=wk k (wrd n.sort.toNat).size+(1+a.size+1+(Lib.itoa n.num).length+sumL (fun x=>lk x+1) n.kids) by omega,r]
     congr 1;simp only[szN];omega
end Go.Proofs.YtelogmjfekhmpaaGreatDoor
