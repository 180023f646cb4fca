import Derived.Test.YtcfojmaccikgeaaGreatDoorB2
import Derived.Lib.ItoaNum
import Derived.Lib.ItoaLen
open Option renaming none→Zn,some→Zo
open Bool renaming and_eq_true→Zq
open List renaming eq_nil_of_length_eq_zero→Zz,length_cons→Zy,mem_cons_self→Zj,mem_cons_of_mem→ZB
namespace Go.Proofs.YtcfojmaccikgeaaGreatDoor
open Go.RowKit
variable {α:Type} {p v:UInt8} {a:ByteArray} {q l:List ByteArray}
def mf{α:Type}(f:α->List UInt8):List α->List UInt8
 | []=>[126]
 | k :: _=>63 :: f k
def gw:(n:Nat)->T n->List UInt8
 | 0,_=>[]
 | n+1,t=>
  if Nd.sort t=1 then Lib.itoa (Nd.num t)
  else if Nd.sort t=2 then 34 :: (Nd.text t).data.toList++[34]
  else if Nd.sort t=3 then (if Nd.num t=1 then [121,101,115] else [110,111])
  else if Nd.sort t=6 then mf (gw n) (Nd.kids t)
  else if Nd.sort t=5 then 123 :: fS (gq (Nd.names t) ((Nd.kids t).map (gw n)))++[125]
  else 91 :: fS ((Nd.kids t).map (gw n))++[93]
theorem mM:∀(n:Nat)(t:T n)(d:Int),ia n t d=true->(gw n t).length+10<=82*fJ n t:=by
 intro n;induction n with
 | zero=>intro t d h;simp[ia]at h
 | succ n l=>
  intro t d h;simp only[ia,Zq]at h;have a:gS (Nd.sort t) (Nd.num t) (Nd.text t) (Nd.names t) (Nd.kids t).length=true:=h.1.2;have g:=List.all_eq_true.1 h.2;have b:us ((Nd.kids t).map (gw n))<=82*b5 (fun x=>fJ n x) (Nd.kids t):=by unfold us;rw[yv,<- s6];exact vF _ _ _ fun x q=>l x (d+1) (g x q)
  have m:fJ (n+1) t=1+b5 (fun x=>fJ n x) (Nd.kids t):=rfl;rw[m];have s:=DC ((Nd.kids t).map (gw n));unfold gS at a;simp only[gw];by_cases c:Nd.sort t=1;·rw[if_pos c]at a ⊢;simp only[Zq,decide_eq_true_eq]at a;have:=Lib.itoa_length_le (Nd.num t) om om;omega
  rw[if_neg c]at a ⊢;by_cases f:Nd.sort t=2;·rw[if_pos f]at a ⊢;simp only[Zq,kf,decide_eq_true_eq]at a;have:(Nd.text t).size<=60:=a.1.1.2.1;have o:(Nd.text t).data.toList.length=(Nd.text t).size:=zS;simp only[List.length_append,Zy,List.length_nil,o];omega
  rw[if_neg f]at a ⊢;by_cases i:Nd.sort t=3;·rw[if_pos i];split<;>simp<;>omega
  rw[if_neg i]at a ⊢;by_cases j:Nd.sort t=6
  ·rw[if_pos j];cases hkk:Nd.kids t with
   | nil=>simp[mf];omega
   | cons k r=>have c:=l k (d+1) (g k (by rw[hkk];exact Zj ..));simp only[mf,Zy,b5];omega
  rw[if_neg j];by_cases e:Nd.sort t=5
  ·have p:¬Nd.sort t=4:=by omega
   rw[if_neg p,if_pos e]at a;rw[if_pos e];simp only[Zq]at a;have:=yX (Nd.names t) ((Nd.kids t).map (gw n)) (jD _ a.2);simp only[List.length_append,Zy,List.length_nil];omega
  rw[if_neg e];simp only[List.length_append,Zy,List.length_nil];omega
def Jt:List (List UInt8):=[[],[],[],[],[],[110,111,110,101],[101,109,112,116,121],[115,111,109,101],[111,110,101],[97,100,100],[115,117,98],[109,117,108],[100,105,118],[114,101,109],[108,101,115,115],[115,97,109,101],[97,110,100],[111,114],[110,111,116],[105,102],[108,101,116],[103,101,116],[112,117,116],[99,117,116],[102,111,114,109],[97,116],[115,105,122,101],[106,111,105,110],[112,97,114,116],[115,104,111,119],[114,101,97,100],[101,108,115,101],[99,97,115,101],[109,97,112],[107,101,101,112],[102,111,108,100],[100,114,111,112],[102,97,105,108],[101,109,105,116],[115,101,110,100],[98,111,116,104],[99,104,111,111,115,101],[116,97,107,101],[101,97,99,104]]
def Jr:List (List UInt8):=[[],[84],[84],[84],[88],[75],[75],[86],[86],[86,86],[86,86],[86,86],[86,86],[86,86],[86,86],[86,86],[86,86],[86,86],[86],[86,86,86],[88,86,86],[78,86],[78,86,86],[78,86],[70],[86,86],[86],[86,86],[86,86,86],[86],[86],[86,86],[88,86,86,86],[88,86,86],[88,86,86],[88,88,86,86,86],[],[35],[86],[78,35,86],[65,65],[86,65,65],[88,86,65],[88,86,65]]
def km(k:Nat):ByteArray:=bs (Jt.getD k [])
def jz(k:Nat):List UInt8:=Jr.getD k []
def lst(k:Nat):Int:=if k=39 then 1 else 0
def tX(k:Nat):Int:=if k=37 then 99 else if k=39 then 12 else 0
def EO(s:ByteArray)(k:Nat):Nat->Nat
 | 0=>0
 | n+1=>if km k==s then k else EO s (k+1) n
def t8(s:ByteArray):Nat:=EO s 5 39
def ii(s:ByteArray):Bool:=gh s && (t8 s==0) && !(s==bs [121,101,115]) && !(s==bs [110,111]) && !(s==bs [101,110,100])
def rP(op:Int):Int:=if op<1∨43<op then 0 else if op<36 then 86 else 65
def kA(l:List ByteArray)(i:Nat):Bool:=iU l i && !(l.getD i ByteArray.empty==bs [101,110,100])
def jK(s:ByteArray):Bool:=(iO (s.size+8) s).isSome
def iZ(p:UInt8)(a:ByteArray)(b:List ByteArray):Bool:=if p=78 then gh a else ii a && !(b.contains a)
def iN{α:Type}(a:α->Int)(n:Nd α)(k:Nat):Bool:=(List.range k).all (fun i=>kA n.names i && ((n.kids.map a).getD i 0==86))
def iH{α:Type}(a:α->Int)(n:Nd α):Bool:=(n.names.length==n.kids.length) && iN a n n.names.length
theorem oZ(a:α->Int)(n:Nd α)(k:Nat):iN a n (k+1)=(iN a n k && (kA n.names k && ((n.kids.map a).getD k 0==86))):=by simp[iN,List.range_succ]
theorem sO(a:α->Int)(n:Nd α)(k:Nat)(h:k<n.names.length)(b:(kA n.names k && ((n.kids.map a).getD k 0==86))=false):iN a n n.names.length=false:=by unfold iN;rw[List.all_eq_false];exact⟨k,List.mem_range.2 h,by show ¬(_ && _)=true;rw[b];decide⟩
def jL{α:Type}(b:α->Int)(n r:Nd α)(p:UInt8):Option (Nd α):=
 if p=84 then (if gS n.sort n.num n.text [] 0=true then Zo ⟨r.sort,0,ByteArray.empty,r.names,r.kids⟩ else Zn)
 else if p=35 then (if lst n.sort.toNat<=n.num/\n.num<=tX n.sort.toNat then Zo ⟨r.sort,0,r.text,r.names,r.kids⟩ else Zn)
 else if p=75 then (if jK n.text=true then Zo ⟨r.sort,r.num,ByteArray.empty,r.names,r.kids⟩ else Zn)
 else if p=70 then (if iH b n=true then Zo ⟨r.sort,r.num,r.text,[],[]⟩ else Zn)
 else if p=78∨p=88 then
  match r.names with
  | []=>Zn
  | a :: q=>if iZ p a (n.names.take (n.names.length-(q.length+1)))=true then Zo ⟨r.sort,r.num,r.text,q,r.kids⟩ else Zn
 else
  match r.kids with
  | []=>Zn
  | k :: q=>if b k=(p.toNat:Int) then Zo ⟨r.sort,r.num,r.text,r.names,q⟩ else Zn
def nY{α:Type}(r:Option (Nd α)):Bool:=
 match r with
 | some r=>(r.num==0) && r.text.toList.isEmpty && ((r.names.length:Int)==0) && ((r.kids.length:Int)==0)
 | none=>false
def ja{α:Type}(a:α->Int)(n:Nd α):List UInt8->Nd α->Option (Nd α)
 | [],r=>Zo r
 | p :: ps,r=>
  match jL a n r p with
  | none=>Zn
  | some b=>ja a n ps b
theorem jC{a:α->Int}{n r b:Nd α}(h:jL a n r p=Zo b)(ps:List UInt8):ja a n (p :: ps) r=ja a n ps b:=by rw[ja,h]
theorem jd{a:α->Int}{n r:Nd α}(h:jL a n r p=Zn)(ps:List UInt8):ja a n (p :: ps) r=Zn:=by rw[ja,h]
def iu{α:Type}(a:α->Int)(n:Nd α):Bool:=
 decide (1<=n.sort/\n.sort<=43) && nY (ja a n (jz n.sort.toNat) n)
theorem Fh(a:α->Int)(n r:Nd α):jL a n r 84=if gS n.sort n.num n.text [] 0=true then Zo ⟨r.sort,0,ByteArray.empty,r.names,r.kids⟩ else Zn:=by unfold jL;rw[if_pos rfl]
theorem AD(a:α->Int)(n r:Nd α):jL a n r 35=if lst n.sort.toNat<=n.num/\n.num<=tX n.sort.toNat then Zo ⟨r.sort,0,r.text,r.names,r.kids⟩ else Zn:=by unfold jL;rw[if_neg zC,if_pos rfl]
theorem Ex(a:α->Int)(n r:Nd α):jL a n r 75=if jK n.text=true then Zo ⟨r.sort,r.num,ByteArray.empty,r.names,r.kids⟩ else Zn:=by unfold jL;rw[if_neg zC,if_neg zC,if_pos rfl]
theorem FR(a:α->Int)(n r:Nd α):jL a n r 70=if iH a n=true then Zo ⟨r.sort,r.num,r.text,[],[]⟩ else Zn:=by unfold jL;rw[if_neg zC,if_neg zC,if_neg zC,if_pos rfl]
theorem zh(b:α->Int)(n r:Nd α)(a:p=78∨p=88)(h:r.names=[]):jL b n r p=Zn:=by unfold jL;rw[if_neg (by rcases a with rfl|rfl<;>decide),if_neg (by rcases a with rfl|rfl<;>decide),if_neg (by rcases a with rfl|rfl<;>decide),if_neg (by rcases a with rfl|rfl<;>decide),if_pos a,h]
theorem qh(c:α->Int)(n r:Nd α)(b:p=78∨p=88)(h:r.names=a :: q):jL c n r p=if iZ p a (n.names.take (n.names.length-(q.length+1)))=true then Zo ⟨r.sort,r.num,r.text,q,r.kids⟩ else Zn:=by unfold jL;rw[if_neg (by rcases b with rfl|rfl<;>decide),if_neg (by rcases b with rfl|rfl<;>decide),if_neg (by rcases b with rfl|rfl<;>decide),if_neg (by rcases b with rfl|rfl<;>decide),if_pos b,h]
theorem BC(b:α->Int)(n r:Nd α)(a:v=86∨v=65)(h:r.kids=[]):jL b n r v=Zn:=by unfold jL;rw[if_neg (by rcases a with rfl|rfl<;>decide),if_neg (by rcases a with rfl|rfl<;>decide),if_neg (by rcases a with rfl|rfl<;>decide),if_neg (by rcases a with rfl|rfl<;>decide),if_neg (by rcases a with rfl|rfl<;>decide),h]
theorem uW(b:α->Int)(n r:Nd α)(a:v=86∨v=65){k:α}{q:List α}(h:r.kids=k :: q):jL b n r v=if b k=(v.toNat:Int) then Zo ⟨r.sort,r.num,r.text,r.names,q⟩ else Zn:=by unfold jL;rw[if_neg (by rcases a with rfl|rfl<;>decide),if_neg (by rcases a with rfl|rfl<;>decide),if_neg (by rcases a with rfl|rfl<;>decide),if_neg (by rcases a with rfl|rfl<;>decide),if_neg (by rcases a with rfl|rfl<;>decide),h]
theorem Db (b:α->Int) (n:Nd α):∀ (a:List UInt8),(∀ v,v∈a->v=86∨v=65)->∀ r:Nd α,
  ja b n a r=if (r.kids.take a.length).map b=a.map (fun v=>(v.toNat:Int)) then Zo ⟨r.sort,r.num,r.text,r.names,r.kids.drop a.length⟩ else Zn:=by
 intro a;induction a with
 | nil=>intro _ r;simp[ja]
 | cons v a g=>
  intro e r;have d:=e v (Zj ..);cases hk:r.kids with
  | nil=>rw[ja,BC b n r d hk];simp
  | cons k q=>
   by_cases c:b k=(v.toNat:Int);·rw[ja,uW b n r d hk,if_pos c];show ja b n a _=_;rw[g (fun x f=>e x (ZB _ f))];simp[c]
   ·rw[ja,uW b n r d hk,if_neg c];simp[c]
def iM(k:Nat):List UInt8:=(jz k).filter (fun p=>!(p==86 || p==65))
def lA(k:Nat):List UInt8:=(jz k).filter (fun p=>p==86 || p==65)
theorem uR:∀k,k<44->jz k=iM k++lA k:=by decide
theorem tP(k:Nat):∀v,v∈lA k->v=86∨v=65:=by intro v a;have:=(List.mem_filter.1 a).2;simpa using this
def gy{α:Type}(n:Nd α)(c:List UInt8):Bool:=
 match c with
 | []=>(n.num==0) && n.text.toList.isEmpty && ((n.names.length:Int)==0)
 | [84]=>gS n.sort n.num n.text [] 0 && ((n.names.length:Int)==0)
 | [75]=>(n.num==0) && jK n.text && ((n.names.length:Int)==0)
 | [35]=>decide (lst n.sort.toNat<=n.num/\n.num<=tX n.sort.toNat) && n.text.toList.isEmpty && ((n.names.length:Int)==0)
 | [88]=>(n.num==0) && n.text.toList.isEmpty && (match n.names with|[a]=>ii a|_=>false)
 | [78]=>(n.num==0) && n.text.toList.isEmpty && (match n.names with|[a]=>gh a|_=>false)
 | [88,88]=>(n.num==0) && n.text.toList.isEmpty && (match n.names with|[a,b]=>ii a && ii b && !(b==a)|_=>false)
 | [78,35]=>decide (lst n.sort.toNat<=n.num/\n.num<=tX n.sort.toNat) && n.text.toList.isEmpty && (match n.names with|[a]=>gh a|_=>false)
 | _=>false
theorem nh:∀k,k<44->k=24∨iM k=[]∨iM k=[84]∨iM k=[75]∨iM k=[35]∨iM k=[88]∨iM k=[78]∨iM k=[88,88]∨iM k=[78,35]:=by decide
theorem EF (b:α->Int) (n r:Nd α) (a:List UInt8) (g:∀ v,v∈a->v=86∨v=65) :
  nY (ja b n a r)=((r.num==0) && r.text.toList.isEmpty && ((r.names.length:Int)==0) && decide (r.kids.map b=a.map (fun v=>(v.toNat:Int)))):=by
 rw[Db b n a g r];by_cases h:(r.kids.take a.length).map b=a.map (fun v=>(v.toNat:Int))
 ·rw[if_pos h];have d:=congrArg List.length h;simp only[List.length_map,List.length_take]at d;by_cases c:r.kids.length=a.length
  ·have e:r.kids.map b=a.map (fun v=>(v.toNat:Int)):=by rw[<- h,List.take_of_length_le om]
   rw[decide_eq_true e];simp[nY,c]
  ·have e:¬r.kids.map b=a.map (fun v=>(v.toNat:Int)):=fun e=>c (by simpa using congrArg List.length e);rw[decide_eq_false e];have f:¬r.kids.length-a.length=0:=om;simp[nY,f]
 ·rw[if_neg h];have e:¬r.kids.map b=a.map (fun v=>(v.toNat:Int)):=fun e=>h (by
   have d:r.kids.length=a.length:=by simpa using congrArg List.length e
   rw[List.take_of_length_le om,e])
  rw[decide_eq_false e];simp[nY]
theorem Id:ByteArray.empty.toList.isEmpty=true:=by have e:ByteArray.empty.toList.length=ByteArray.empty.size:=zS;exact List.isEmpty_iff.2 (Zz e)
theorem JJ(h:l.length-(q.length+1)=0):iZ 88 a (l.take (l.length-(q.length+1)))=ii a:=by rw[h];simp[iZ]
theorem JH:iZ 78 a (l.take (l.length-(q.length+1)))=gh a:=by simp[iZ]
theorem Jv{b:ByteArray}{r:List ByteArray}:iZ 88 b ((a :: b :: r).take ((a :: b :: r).length-(r.length+1)))=(ii b && !(b==a)):=by have e:(a :: b :: r).length-(r.length+1)=1:=zS;rw[e];simp[iZ]
theorem Fq (d:α->Int) (n:Nd α) (f i:List UInt8) (s:∀ v,v∈i->v=86∨v=65)
  (t:f=[]∨f=[84]∨f=[75]∨f=[35]∨f=[88]∨f=[78]∨f=[88,88]∨f=[78,35]) :
  nY (ja d n (f++i) n)=(gy n f && decide (n.kids.map d=i.map (fun v=>(v.toNat:Int)))):=by
 have m:=fun r=>EF d n r i s;have g:nY (Zn:Option (Nd α))=false:=rfl;rcases t with rfl|rfl|rfl|rfl|rfl|rfl|rfl|rfl;·exact m _
 ·show nY (ja d n (84 :: i) n)=_;by_cases h:gS n.sort n.num n.text [] 0=true;·rw[jC ((Fh d n n).trans (if_pos h)),m];simp only[gy,h,Id];rfl
  ·rw[jd ((Fh d n n).trans (if_neg h)),g];simp only[gy,Bool.eq_false_iff.2 h];rfl
 ·show nY (ja d n (75 :: i) n)=_;by_cases h:jK n.text=true;·rw[jC ((Ex d n n).trans (if_pos h)),m];simp only[gy,h,Id]
  ·rw[jd ((Ex d n n).trans (if_neg h)),g];simp only[gy,Bool.eq_false_iff.2 h,Bool.and_false,Bool.false_and]
 ·show nY (ja d n (35 :: i) n)=_;by_cases h:lst n.sort.toNat<=n.num/\n.num<=tX n.sort.toNat;·rw[jC ((AD d n n).trans (if_pos h)),m];simp only[gy,decide_eq_true h];rfl
  ·rw[jd ((AD d n n).trans (if_neg h)),g];simp only[gy,decide_eq_false h,Bool.false_and]
 ·show nY (ja d n (88 :: i) n)=_;cases hl:n.names with
  | nil=>rw[jd (zh d n n (.inr rfl) hl),g];simp[gy,hl]
  | cons a q=>
   have j:=JJ (a:=a) (l:=n.names) (q:=q) (by rw[hl];simp);by_cases h:ii a=true
   ·rw[jC ((qh d n n (.inr rfl) hl).trans (if_pos (j.trans h))),m];cases q with
    | nil=>simp[gy,hl,h]
    | cons b r=>simp[gy,hl];omega
   ·rw[jd ((qh d n n (.inr rfl) hl).trans (if_neg (by rw[j];exact h))),g];cases q with
    | nil=>simp[gy,hl,h]
    | cons b r=>simp[gy,hl]
 ·show nY (ja d n (78 :: i) n)=_;cases hl:n.names with
  | nil=>rw[jd (zh d n n (.inl rfl) hl),g];simp[gy,hl]
  | cons a q=>
   have j:=JH (a:=a) (l:=n.names) (q:=q);by_cases h:gh a=true
   ·rw[jC ((qh d n n (.inl rfl) hl).trans (if_pos (j.trans h))),m];cases q with
    | nil=>simp[gy,hl,h]
    | cons b r=>simp[gy,hl];omega
   ·rw[jd ((qh d n n (.inl rfl) hl).trans (if_neg (by rw[j];exact h))),g];cases q with
    | nil=>simp[gy,hl,h]
    | cons b r=>simp[gy,hl]
 ·show nY (ja d n (88 :: 88 :: i) n)=_;cases hl:n.names with
  | nil=>rw[jd (zh d n n (.inr rfl) hl),g];simp[gy,hl]
  | cons a q=>
   have j:=JJ (a:=a) (l:=n.names) (q:=q) (by rw[hl];simp);by_cases h:ii a=true
   ·rw[jC ((qh d n n (.inr rfl) hl).trans (if_pos (j.trans h)))];cases hq:q with
    | nil=>rw[jd (zh d n _ (.inr rfl) rfl),g];simp[gy,hl,hq]
    | cons b r=>
     subst hq;have o:=Jv (a:=a) (b:=b) (r:=r);rw[<- hl]at o;by_cases k:(ii b && !(b==a))=true
     ·rw[jC ((qh d n ⟨n.sort,n.num,n.text,b :: r,n.kids⟩ (.inr rfl) rfl).trans (if_pos (o.trans k))),m];cases r with
      | nil=>simp only[gy,hl,h];simp at k;simp[k]
      | cons c r=>simp[gy,hl];omega
     ·rw[jd ((qh d n ⟨n.sort,n.num,n.text,b :: r,n.kids⟩ (.inr rfl) rfl).trans (if_neg (by rw[o];exact k))),g];cases r with
      | nil=>
       have e:(ii a && ii b && !(b==a))=false:=by rw[Bool.and_assoc,Bool.eq_false_iff.2 k];simp
       simp only[gy,hl,e,Bool.and_false,Bool.false_and]
      | cons c r=>simp[gy,hl]
   ·rw[jd ((qh d n n (.inr rfl) hl).trans (if_neg (by rw[j];exact h))),g];match q with
    | []=>simp[gy,hl]
    | [b]=>simp[gy,hl,h]
    | b :: c :: r=>simp[gy,hl]
 ·show nY (ja d n (78 :: 35 :: i) n)=_;cases hl:n.names with
  | nil=>rw[jd (zh d n n (.inl rfl) hl),g];simp[gy,hl]
  | cons a q=>
   have j:=JH (a:=a) (l:=n.names) (q:=q);by_cases h:gh a=true
   ·rw[jC ((qh d n n (.inl rfl) hl).trans (if_pos (j.trans h)))];by_cases p:lst n.sort.toNat<=n.num/\n.num<=tX n.sort.toNat
    ·rw[jC ((AD d n _).trans (if_pos p)),m];cases q with
     | nil=>simp[gy,hl,h,p]
     | cons b r=>simp[gy,hl];omega
    ·rw[jd ((AD d n _).trans (if_neg p)),g];simp only[gy,decide_eq_false p,Bool.false_and]
   ·rw[jd ((qh d n n (.inl rfl) hl).trans (if_neg (by rw[j];exact h))),g];cases q with
    | nil=>simp[gy,hl,h]
    | cons b r=>simp[gy,hl]
theorem mx (a:α->Int) (n:Nd α) (d:1<=n.sort) (c:n.sort<=43) (f:n.sort≠24) :
  iu a n=(gy n (iM n.sort.toNat) && decide (n.kids.map a=(lA n.sort.toNat).map (fun v=>(v.toNat:Int)))):=by have b:n.sort.toNat<44:=om;have e:=(nh _ b).resolve_left om;unfold iu;rw[uR _ b,Fq a n _ _ (tP _) e];simp[d,c]
theorem lN (a:α->Int) (n:Nd α) (h:n.sort=24) :
  iu a n=(iH a n && ((n.num==0) && n.text.toList.isEmpty)):=by
 have e:jz 24=[70]:=zC;unfold iu;rw[h,show (24:Int).toNat=24 from rfl,e];by_cases b:iH a n=true;·rw[jC ((FR a n n).trans (if_pos b))];simp[b,nY,ja]
 ·rw[jd ((FR a n n).trans (if_neg b))];simp[b,nY]
def pU:(m:Nat)->T m->Int
 | 0,_=>0
 | _+1,t=>Nd.sort t
def jT(m:Nat)(t:T m):Int:=rP (pU m t)
def gD:(m:Nat)->T m->Int->Bool
 | 0,_,_=>false
 | m+1,t,d=>decide (d<=24) && iu (jT m) (show Nd (T m) from t) && (Nd.kids t).all (fun k=>gD m k (d+1))
def lB(s m:Int)(x:ByteArray):T 1:=(⟨s,m,x,[],[]⟩:Nd (T 0))
def ky(s m:Int)(x:ByteArray):List UInt8:=gw 1 (lB s m x)
def jY{α:Type}(a:α->Nat)(n:Nd α):Nat:=
 if n.sort<=3 then (ky n.sort n.num n.text).length
 else if n.sort=4 then (n.names.headD ByteArray.empty).size
 else (km n.sort.toNat).size+jc n.names+(if n.text.size=0 then 0 else n.text.size+1)+(if n.sort=37∨n.sort=39 then (Lib.itoa n.num).length+1 else 0)+b5 (fun k=>a k+1) n.kids+(if n.sort=24 then 4 else 0)
def gx:(m:Nat)->T m->Nat
 | 0,_=>0
 | m+1,t=>jY (gx m) (show Nd (T m) from t)
def wk(k x:Nat):Nat:=if k=0 then x else k+1+x
theorem jN{k:Nat}(h:1<=k)(x:Nat):wk k x=k+1+x:=by unfold wk;rw[if_neg om]
def i6{α:Type}(b:α->Nat):List ByteArray->List α->Nat->Nat
 | a :: ns,x :: ks,k=>i6 b ns ks (wk (wk k a.size) (b x))
 | _,_,k=>k
def jn{α:Type}(b:α->Nat)(n:Nd α):List UInt8->List ByteArray->List α->Nat->Nat
 | [],_,_,k=>k
 | p :: ps,ns,ks,k=>
  if p=84 then jn b n ps ns ks (wk k (ky n.sort n.num n.text).length)
  else if p=35 then jn b n ps ns ks (wk k (Lib.itoa n.num).length)
  else if p=75 then jn b n ps ns ks (wk k n.text.size)
  else if p=70 then jn b n ps ns ks (wk (i6 b n.names n.kids k) 3)
  else if p=78∨p=88 then
   match ns with
   | []=>k
   | a :: q=>jn b n ps q ks (wk k a.size)
  else
   match ks with
   | []=>k
   | x :: q=>jn b n ps ns q (wk k (b x))
def lw{α:Type}(a:α->Int):List UInt8->List ByteArray->List α->Prop
 | [],_,_=>True
 | p :: ps,ns,ks=>
  if p=78∨p=88 then
   match ns with
   | []=>False
   | _ :: q=>lw a ps q ks
  else if p=86∨p=65 then
   match ks with
   | []=>False
   | x :: q=>a x=(p.toNat:Int)/\lw a ps ns q
  else lw a ps ns ks
theorem Ew(e:α->Nat):∀(c:List ByteArray)(b:List α)(k:Nat),c.length=b.length->1<=k->i6 e c b k=k+jc c+b5 (fun x=>e x+1) b:=by
 intro c;induction c with
 | nil=>intro b k h d;cases b with
  | nil=>simp[i6,jc,b5]
  | cons x r=>simp at h
 | cons a c f=>intro b k h d;cases b with
  | nil=>simp at h
  | cons x r=>
   simp only[Zy]at h
   rw[i6,f r _ om (by rw[jN d,jN om];omega),jN d,jN om]
   simp only[jc,b5];omega
theorem nr(h:v=86∨v=65):¬v=84/\¬v=35/\¬v=75/\¬v=70/\¬(v=78∨v=88):=by rcases h with rfl|rfl<;>decide
theorem kW(f:α->Nat)(n:Nd α):∀(b:List UInt8),(∀v,v∈b->v=86∨v=65)->∀(c:List ByteArray)(a:List α)(k:Nat),a.length=b.length->1<=k->jn f n b c a k=k+b5 (fun x=>f x+1) a:=by
 intro b;induction b with
 | nil=>intro _ c a k h _;have:a=[]:=Zz h;subst this;simp[jn,b5]
 | cons v b p=>
  intro d c a k h e;cases a with
  | nil=>simp at h
  | cons x r=>obtain⟨i,g,l,m,j⟩:=nr (d v (Zj ..));simp only[jn,if_neg i,if_neg g,if_neg l,if_neg m,if_neg j];rw[p (fun x o=>d x (ZB _ o)) c r _ (by simpa using h) (by rw[jN e];omega),jN e];simp only[b5];omega
theorem Fo(e:α->Int):∀(a:List UInt8),(∀v,v∈a->v=86∨v=65)->∀(c:List ByteArray)(b:List α),b.map e=a.map (fun v=>(v.toNat:Int))->lw e a c b:=by
 intro a;induction a with
 | nil=>intro _ c b h;simp[lw]
 | cons v a i=>
  intro d c b h;cases b with
  | nil=>simp at h
  | cons x r=>obtain⟨k,j,l,m,f⟩:=nr (d v (Zj ..));simp only[List.map_cons,List.cons.injEq]at h;simp only[lw,if_neg f,if_pos (d v (Zj ..))];exact⟨h.1,i (fun x g=>d x (ZB _ g)) c r h.2⟩
def En(op k:Nat):Nat:=if (km op).size=0 then k else wk k (km op).size
theorem sI:∀k,k<44->((k<5->(km k).size=0)/\(5<=k->1<=(km k).size/\(km k).size<=6)):=by decide
theorem yZ:∀k,k<4->1<=k->iM k=[84]/\lA k=[]:=by decide
theorem sp:iM 4=[88]/\lA 4=[]:=by decide
theorem yz:∀k,k<44->5<=k->iM k≠[84]:=by decide
theorem Hb:∀k,k<44->(k=37∨k=39)->(iM k=[35]∨iM k=[78,35]):=by decide
theorem FB:∀k,k<44->(iM k=[35]∨iM k=[78,35])->(k=37∨k=39):=by decide
theorem Jb(b:α->Nat)(n:Nd α)(ps:List UInt8)(a:List ByteArray)(c:List α)(k:Nat):jn b n (84 :: ps) a c k=jn b n ps a c (wk k (ky n.sort n.num n.text).length):=by rw[jn.eq_def];exact if_pos rfl
theorem ID(b:α->Nat)(n:Nd α)(ps:List UInt8)(a:List ByteArray)(c:List α)(k:Nat):jn b n (35 :: ps) a c k=jn b n ps a c (wk k (Lib.itoa n.num).length):=by rw[jn.eq_def];exact (if_neg zC).trans (if_pos rfl)
theorem Ji(b:α->Nat)(n:Nd α)(ps:List UInt8)(a:List ByteArray)(c:List α)(k:Nat):jn b n (75 :: ps) a c k=jn b n ps a c (wk k n.text.size):=by rw[jn.eq_def];exact (if_neg zC).trans ((if_neg zC).trans (if_pos rfl))
theorem I6(a:α->Nat)(n:Nd α)(ps:List UInt8)(b:List ByteArray)(c:List α)(k:Nat):jn a n (70 :: ps) b c k=jn a n ps b c (wk (i6 a n.names n.kids k) 3):=by rw[jn.eq_def];exact (if_neg zC).trans ((if_neg zC).trans ((if_neg zC).trans (if_pos rfl)))
theorem zb(c:α->Nat)(n:Nd α)(b:p=78∨p=88)(ps:List UInt8)(a:ByteArray)(d:List ByteArray)(e:List α)(k:Nat):jn c n (p :: ps) (a :: d) e k=jn c n ps d e (wk k a.size):=by rw[jn.eq_def];dsimp only;rw[if_neg (by rcases b with rfl|rfl<;>decide),if_neg (by rcases b with rfl|rfl<;>decide),if_neg (by rcases b with rfl|rfl<;>decide),if_neg (by rcases b with rfl|rfl<;>decide),if_pos b]
theorem Je(a:α->Nat)(n:Nd α)(i:p=86∨p=65)(ps:List UInt8)(b:List ByteArray)(x:α)(c:List α)(k:Nat):jn a n (p :: ps) b (x :: c) k=jn a n ps b c (wk k (a x)):=by obtain⟨f,d,g,h,e⟩:=nr i;rw[jn.eq_def];dsimp only;rw[if_neg f,if_neg d,if_neg g,if_neg h,if_neg e]
theorem JD(d:α->Int)(c:p=78∨p=88)(ps:List UInt8)(b:List ByteArray)(e:List α)(h:lw d (p :: ps) b e):∃a q,b=a :: q/\lw d ps q e:=by
 cases b with
 | nil=>rw[lw.eq_def]at h;dsimp only at h;rw[if_pos c]at h;exact h.elim
 | cons a q=>rw[lw.eq_def]at h;dsimp only at h;rw[if_pos c]at h;exact⟨a,q,rfl,h⟩
theorem JA(b:α->Int)(a:p=86∨p=65)(ps:List UInt8)(e:List ByteArray)(c:List α)(h:lw b (p :: ps) e c):∃x q,c=x :: q/\b x=(p.toNat:Int)/\lw b ps e q:=by
 obtain⟨g,f,i,j,d⟩:=nr a;cases c with
 | nil=>rw[lw.eq_def]at h;dsimp only at h;rw[if_neg d,if_pos a]at h;exact h.elim
 | cons x q=>rw[lw.eq_def]at h;dsimp only at h;rw[if_neg d,if_pos a]at h;exact⟨x,q,rfl,h⟩
theorem zy(c:α->Int)(a:p=84∨p=35∨p=75∨p=70)(ps:List UInt8)(b:List ByteArray)(d:List α):lw c (p :: ps) b d↔lw c ps b d:=by rw[lw.eq_def];dsimp only;rw[if_neg (by rcases a with rfl|rfl|rfl|rfl<;>decide),if_neg (by rcases a with rfl|rfl|rfl|rfl<;>decide)]
theorem yF(c:α->Int)(d:p=78∨p=88)(ps:List UInt8)(a:ByteArray)(q:List ByteArray)(b:List α)(h:lw c ps q b):lw c (p :: ps) (a :: q) b:=by rw[lw.eq_def];dsimp only;rw[if_pos d];exact h
theorem gL(x:ByteArray)(h:x.toList.isEmpty=true):x.size=0:=by have a:=List.isEmpty_iff.1 h;have e:=ByteArray.toList_eq x;rw[e]at a;show x.data.size=0;rw[<- Array.length_toList,a];rfl
theorem DK(m:Nat)(k:K (m+1)):¬d9 (m+1) k=[]:=by
 intro h;rw[d9]at h;split at h;·cases h
 split at h;·cases h
 split at h;·cases h
 split at h;·cases h
 split at h;·cases h
 ·cases h
theorem D4(x:ByteArray)(h:jK x=true):¬x.size=0:=by intro c;unfold jK at h;obtain⟨k,d⟩:=Option.isSome_iff_exists.1 h;have a:=(j9 d).2.2;have b:x.data.toList=[]:=Zz (by simpa using c);rw[b]at a;exact DK _ _ a
theorem Gi (o:α->Int) (c:α->Nat) (n:Nd α) (s:iu o n=true) (k:Nat) :
  jn c n (jz n.sort.toNat) n.names n.kids (En n.sort.toNat k)=wk k (jY c n)/\lw o (jz n.sort.toNat) n.names n.kids:=by
 have E:1<=n.sort/\n.sort<=43:=by unfold iu at s;simp only[Zq,decide_eq_true_eq]at s;exact s.1
 by_cases r:n.sort=24
 ·rw[lN o n r]at s;simp only[Zq]at s;have e:jz 24=[70]:=zC;have i:=gL _ s.2.2;have u:n.names.length=n.kids.length:=by have:=s.1;unfold iH at this;simp only[Zq,beq_iff_eq]at this;exact this.1
  have C:(km 24).size=4:=zC;rw[r,show (24:Int).toNat=24 from rfl,e];refine⟨?_,by simp[lw]⟩;have t:1<=En 24 k:=by unfold En wk;rw[C];simp;split<;>omega
  rw[I6,jn,Ew c _ _ _ u t,jN om];unfold jY;rw[r,if_neg om,if_neg om,show (24:Int).toNat=24 from rfl,C,if_pos i,if_neg om,if_pos rfl];unfold En wk;rw[C];by_cases D:k=0;·simp[D]
  ·simp[D];omega
 ·have f:n.sort.toNat<44:=by omega
  rw[mx o n E.1 E.2 r]at s;simp only[Zq,decide_eq_true_eq]at s;obtain⟨d,t⟩:=s;have u:n.kids.length=(lA n.sort.toNat).length:=by simpa using congrArg List.length t
  have H:=yz _ f;obtain⟨w1,G⟩:=sI _ f;rw[uR _ f];have g:=tP n.sort.toNat;have l:=Fo o _ g;rcases Nat.lt_or_ge n.sort.toNat 5 with z|z
  ·have B:En n.sort.toNat k=k:=by unfold En;rw[if_pos (w1 z)]
   rw[B];by_cases F:n.sort.toNat=4
   ·obtain⟨A,y⟩:=sp;rw[<- F]at A y;rw[A]at d ⊢;rw[y]at u ⊢;simp only[gy]at d;cases p:n.names with
    | nil=>rw[p]at d;simp at d
    | cons a q=>refine⟨?_,by simp[lw]⟩;rw[List.append_nil,zb c n (.inr rfl),jn];unfold jY;rw[if_neg om,if_pos om,p];rfl
   ·obtain⟨A,y⟩:=yZ n.sort.toNat om om;rw[A,y];refine⟨?_,by simp[lw]⟩;rw[List.append_nil,Jb,jn];unfold jY;rw[if_pos om]
  ·obtain⟨I,J⟩:=G z;have B:En n.sort.toNat k=wk k (km n.sort.toNat).size:=by unfold En;rw[if_neg om]
   have m:1<=wk k (km n.sort.toNat).size:=by unfold wk;split<;>omega
   have v:∀(b x:Nat),(wk k b)+x=wk k (b+x):=by intro b x;unfold wk;split<;>omega
   have w:jY c n=(km n.sort.toNat).size+jc n.names+(if n.text.size=0 then 0 else n.text.size+1)+(if n.sort=37∨n.sort=39 then (Lib.itoa n.num).length+1 else 0)+b5 (fun k=>c k+1) n.kids:=by unfold jY;rw[if_neg om,if_neg om,if_neg r];omega
   rw[B,w];have j:(n.sort=37∨n.sort=39)↔(iM n.sort.toNat=[35]∨iM n.sort.toNat=[78,35]):=⟨fun h=>Hb _ f om,fun h=>by have:=FB _ f h;omega⟩;rcases (nh _ f).resolve_left om with h|h|h|h|h|h|h|h;·rw[h]at d ⊢;simp only[gy,Zq,beq_iff_eq]at d;have i:=gL _ d.1.2;have p:n.names=[]:=Zz om;rw[if_pos i,if_neg (by rw[j,h];decide),p];refine⟨?_,l _ _ t⟩;rw[List.nil_append,kW c n _ g _ _ _ u m];rw[v];simp[jc]
   ·exact absurd h (H z)
   ·rw[h]at d ⊢;simp only[gy,Zq,beq_iff_eq]at d;have i:=D4 _ d.1.2;have p:n.names=[]:=Zz om;rw[if_neg i,if_neg (by rw[j,h];decide),p];refine⟨?_,(zy o (.inr (.inr (.inl rfl))) _ _ _).2 (l _ _ t)⟩;rw[show [75]++lA n.sort.toNat=75 :: lA n.sort.toNat from rfl,Ji,jN m,kW c n _ g _ _ _ u om];rw[show wk k (km n.sort.toNat).size+1+n.text.size+b5 (fun x=>c x+1) n.kids=wk k (km n.sort.toNat).size+(1+n.text.size+b5 (fun x=>c x+1) n.kids) by omega,v];congr 1;simp only[jc];omega
   ·rw[h]at d ⊢;simp only[gy,Zq,beq_iff_eq]at d;have i:=gL _ d.1.2;have p:n.names=[]:=Zz om;rw[if_pos i,if_pos (by rw[j,h];simp),p];refine⟨?_,(zy o (.inr (.inl rfl)) _ _ _).2 (l _ _ t)⟩;rw[show [35]++lA n.sort.toNat=35 :: lA n.sort.toNat from rfl,ID,jN m,kW c n _ g _ _ _ u om];rw[show wk k (km n.sort.toNat).size+1+(Lib.itoa n.num).length+b5 (fun x=>c x+1) n.kids=wk k (km n.sort.toNat).size+(1+(Lib.itoa n.num).length+b5 (fun x=>c x+1) n.kids) by omega,v];congr 1;simp only[jc];omega
   ·rw[h]at d ⊢;simp only[gy,Zq,beq_iff_eq]at d;have i:=gL _ d.1.2;rw[if_pos i,if_neg (by rw[j,h];decide)];match p:n.names,d.2 with
    | [a],_=>refine⟨?_,yF o (.inr rfl) _ _ _ _ (l _ _ t)⟩;rw[show [88]++lA n.sort.toNat=88 :: lA n.sort.toNat from rfl,zb c n (.inr rfl),jN m,kW c n _ g _ _ _ u om];rw[show wk k (km n.sort.toNat).size+1+a.size+b5 (fun x=>c x+1) n.kids=wk k (km n.sort.toNat).size+(1+a.size+b5 (fun x=>c x+1) n.kids) by omega,v];congr 1;simp only[jc];omega
   ·rw[h]at d ⊢;simp only[gy,Zq,beq_iff_eq]at d;have i:=gL _ d.1.2;rw[if_pos i,if_neg (by rw[j,h];decide)];match p:n.names,d.2 with
    | [a],_=>refine⟨?_,yF o (.inl rfl) _ _ _ _ (l _ _ t)⟩;rw[show [78]++lA n.sort.toNat=78 :: lA n.sort.toNat from rfl,zb c n (.inl rfl),jN m,kW c n _ g _ _ _ u om];rw[show wk k (km n.sort.toNat).size+1+a.size+b5 (fun x=>c x+1) n.kids=wk k (km n.sort.toNat).size+(1+a.size+b5 (fun x=>c x+1) n.kids) by omega,v];congr 1;simp only[jc];omega
   ·rw[h]at d ⊢;simp only[gy,Zq,beq_iff_eq]at d;have i:=gL _ d.1.2;rw[if_pos i,if_neg (by rw[j,h];decide)];match p:n.names,d.2 with
    | [a,b],_=>refine⟨?_,yF o (.inr rfl) _ _ _ _ (yF o (.inr rfl) _ _ _ _ (l _ _ t))⟩;rw[show [88,88]++lA n.sort.toNat=88 :: 88 :: lA n.sort.toNat from rfl,zb c n (.inr rfl),zb c n (.inr rfl),jN m,jN om,kW c n _ g _ _ _ u om];rw[show wk k (km n.sort.toNat).size+1+a.size+1+b.size+b5 (fun x=>c x+1) n.kids=wk k (km n.sort.toNat).size+(1+a.size+1+b.size+b5 (fun x=>c x+1) n.kids) by omega,v];congr 1;simp only[jc];omega
   ·rw[h]at d ⊢;simp only[gy,Zq]at d;have i:=gL _ d.1.2;rw[if_pos i,if_pos (by rw[j,h];simp)];match p:n.names,d.2 with
    | [a],_=>refine⟨?_,yF o (.inl rfl) _ _ _ _ ((zy o (.inr (.inl rfl)) _ _ _).2 (l _ _ t))⟩;rw[show [78,35]++lA n.sort.toNat=78 :: 35 :: lA n.sort.toNat from rfl,zb c n (.inl rfl),ID,jN m,jN om,kW c n _ g _ _ _ u om];rw[show wk k (km n.sort.toNat).size+1+a.size+1+(Lib.itoa n.num).length+b5 (fun x=>c x+1) n.kids=wk k (km n.sort.toNat).size+(1+a.size+1+(Lib.itoa n.num).length+b5 (fun x=>c x+1) n.kids) by omega,v];congr 1;simp only[jc];omega
end Go.Proofs.YtcfojmaccikgeaaGreatDoor
