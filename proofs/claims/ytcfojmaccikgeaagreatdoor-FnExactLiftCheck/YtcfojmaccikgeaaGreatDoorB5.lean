import Derived.Test.YtcfojmaccikgeaaGreatDoorB2
import Derived.Lib.ItoaLen
open Option renaming none→Zn,some→Zo
open Bool renaming and_eq_true→Zq
open List renaming eq_nil_of_length_eq_zero→Zz,length_cons→Zy,mem_cons_self→Zj,mem_cons_of_mem→ZB
namespace Go.Proofs.YtcfojmaccikgeaaGreatDoor
open Go.RowKit
variable {α:Type} {p v:UInt8} {a:ZN} {q l:List ZN}
def mc{α:Type}(f:α->List UInt8):List α->List UInt8
 | []=>[126]
 | k :: _=>63 :: f k
def gt:(n:Nat)->T n->List UInt8
 | 0,_=>[]
 | n+1,t=>
  if Nd.sort t=1 then Lib.itoa (Nd.num t)
  else if Nd.sort t=2 then 34 :: (Nd.text t).data.toList++[34]
  else if Nd.sort t=3 then (if Nd.num t=1 then [121,101,115] else [110,111])
  else if Nd.sort t=6 then mc (gt n) (Nd.kids t)
  else if Nd.sort t=5 then 123 :: fP (go (Nd.names t) ((Nd.kids t).map (gt n)))++[125]
  else 91 :: fP ((Nd.kids t).map (gt n))++[93]
theorem mW:∀(n:Nat)(t:T n)(d:Int),ie n t d=true->(gt n t).length+10<=82*d9 n t:=by
 intro n;induction n with
 | zero=>intro t d h;simp[ie]at h
 | succ n l=>
  intro t d h;simp only[ie,Zq]at h;have a:gM (Nd.sort t) (Nd.num t) (Nd.text t) (Nd.names t) (Nd.kids t).length=true:=h.1.2;have j:=List.all_eq_true.1 h.2;have e:uS ((Nd.kids t).map (gt n))<=82*b4 (fun x=>d9 n x) (Nd.kids t):=by unfold uS;rw[zy,<- t6];exact xE _ _ _ fun x q=>l x (d+1) (j x q)
  have o:d9 (n+1) t=1+b4 (fun x=>d9 n x) (Nd.kids t):=rfl;rw[o];have s:=Dk ((Nd.kids t).map (gt n));unfold gM at a;simp only[gt];by_cases b:Nd.sort t=1;·rw[if_pos b]at a ⊢;simp only[Zq,decide_eq_true_eq]at a;have:=Lib.itoa_length_le (Nd.num t) om om;omega
  rw[if_neg b]at a ⊢;by_cases f:Nd.sort t=2;·rw[if_pos f]at a ⊢;simp only[Zq,kB,decide_eq_true_eq]at a;have:(Nd.text t).size<=60:=a.1.1.2.1;have p:(Nd.text t).data.toList.length=(Nd.text t).size:=zS;simp only[List.length_append,Zy,List.length_nil,p];omega
  rw[if_neg f]at a ⊢;by_cases g:Nd.sort t=3;·rw[if_pos g];split<;>simp<;>omega
  rw[if_neg g]at a ⊢;by_cases i:Nd.sort t=6
  ·rw[if_pos i];cases hkk:Nd.kids t with
   | nil=>simp[mc];omega
   | cons k r=>have b:=l k (d+1) (j k (by rw[hkk];exact Zj ..));simp only[mc,Zy,b4];omega
  rw[if_neg i];by_cases c:Nd.sort t=5
  ·have m:¬Nd.sort t=4:=by omega
   rw[if_neg m,if_pos c]at a;rw[if_pos c];simp only[Zq]at a;have:=zX (Nd.names t) ((Nd.kids t).map (gt n)) (jO _ a.2);simp only[List.length_append,Zy,List.length_nil];omega
  rw[if_neg c];simp only[List.length_append,Zy,List.length_nil];omega
def Kj:List (List UInt8):=[[],[],[],[],[],[110,111,110,101],[101,109,112,116,121],[115,111,109,101],[111,110,101],[97,100,100],[115,117,98],[109,117,108],[100,105,118],[114,101,109],[108,101,115,115],[115,97,109,101],[97,110,100],[111,114],[110,111,116],[105,102],[108,101,116],[103,101,116],[112,117,116],[99,117,116],[102,111,114,109],[97,116],[115,105,122,101],[106,111,105,110],[112,97,114,116],[115,104,111,119],[114,101,97,100],[101,108,115,101],[99,97,115,101],[109,97,112],[107,101,101,112],[102,111,108,100],[100,114,111,112],[102,97,105,108],[101,109,105,116],[115,101,110,100],[98,111,116,104],[99,104,111,111,115,101],[116,97,107,101],[101,97,99,104]]
def Kh:List (List UInt8):=[[],[84],[84],[84],[88],[75],[75],[86],[86],[86,86],[86,86],[86,86],[86,86],[86,86],[86,86],[86,86],[86,86],[86,86],[86],[86,86,86],[88,86,86],[78,86],[78,86,86],[78,86],[70],[86,86],[86],[86,86],[86,86,86],[86],[86],[86,86],[88,86,86,86],[88,86,86],[88,86,86],[88,88,86,86,86],[],[35],[86],[78,35,86],[65,65],[86,65,65],[88,86,65],[88,86,65]]
def ld(k:Nat):ZN:=bs (Kj.getD k [])
def jF(k:Nat):List UInt8:=Kh.getD k []
def lst(k:Nat):Int:=if k=39 then 1 else 0
def uu(k:Nat):Int:=if k=37 then 99 else if k=39 then 12 else 0
def Gk(s:ZN)(k:Nat):Nat->Nat
 | 0=>0
 | n+1=>if ld k==s then k else Gk s (k+1) n
def uX(s:ZN):Nat:=Gk s 5 39
def il(s:ZN):Bool:=gj s && (uX s==0) && !(s==bs [121,101,115]) && !(s==bs [110,111]) && !(s==bs [101,110,100])
def rF(op:Int):Int:=if op<1∨43<op then 0 else if op<36 then 86 else 65
def kJ(l:List ZN)(i:Nat):Bool:=i8 l i && !(l.getD i ByteArray.empty==bs [101,110,100])
def jV(s:ZN):Bool:=(iZ (s.size+8) s).isSome
def iY(p:UInt8)(a:ZN)(b:List ZN):Bool:=if p=78 then gj a else il a && !(b.contains a)
def iN{α:Type}(a:α->Int)(n:Nd α)(k:Nat):Bool:=(List.range k).all (fun i=>kJ n.names i && ((n.kids.map a).getD i 0==86))
def iH{α:Type}(a:α->Int)(n:Nd α):Bool:=(n.names.length==n.kids.length) && iN a n n.names.length
theorem o9(a:α->Int)(n:Nd α)(k:Nat):iN a n (k+1)=(iN a n k && (kJ n.names k && ((n.kids.map a).getD k 0==86))):=by simp[iN,List.range_succ]
theorem s7(a:α->Int)(n:Nd α)(k:Nat)(h:k<n.names.length)(b:(kJ n.names k && ((n.kids.map a).getD k 0==86))=false):iN a n n.names.length=false:=by unfold iN;rw[List.all_eq_false];exact⟨k,List.mem_range.2 h,by show ¬(_ && _)=true;rw[b];decide⟩
def jW{α:Type}(b:α->Int)(n r:Nd α)(p:UInt8):Option (Nd α):=
 if p=84 then (if gM n.sort n.num n.text [] 0=true then Zo ⟨r.sort,0,ByteArray.empty,r.names,r.kids⟩ else Zn)
 else if p=35 then (if lst n.sort.toNat<=n.num/\n.num<=uu n.sort.toNat then Zo ⟨r.sort,0,r.text,r.names,r.kids⟩ else Zn)
 else if p=75 then (if jV n.text=true then Zo ⟨r.sort,r.num,ByteArray.empty,r.names,r.kids⟩ else Zn)
 else if p=70 then (if iH b n=true then Zo ⟨r.sort,r.num,r.text,[],[]⟩ else Zn)
 else if p=78∨p=88 then
  match r.names with
  | []=>Zn
  | a :: q=>if iY p a (n.names.take (n.names.length-(q.length+1)))=true then Zo ⟨r.sort,r.num,r.text,q,r.kids⟩ else Zn
 else
  match r.kids with
  | []=>Zn
  | k :: q=>if b k=(p.toNat:Int) then Zo ⟨r.sort,r.num,r.text,r.names,q⟩ else Zn
def nS{α:Type}(r:Option (Nd α)):Bool:=
 match r with
 | some r=>(r.num==0) && r.text.toList.isEmpty && ((r.names.length:Int)==0) && ((r.kids.length:Int)==0)
 | none=>false
def ja{α:Type}(a:α->Int)(n:Nd α):List UInt8->Nd α->Option (Nd α)
 | [],r=>Zo r
 | p :: ps,r=>
  match jW a n r p with
  | none=>Zn
  | some b=>ja a n ps b
theorem jJ{a:α->Int}{n r b:Nd α}(h:jW a n r p=Zo b)(ps:List UInt8):ja a n (p :: ps) r=ja a n ps b:=by rw[ja,h]
theorem je{a:α->Int}{n r:Nd α}(h:jW a n r p=Zn)(ps:List UInt8):ja a n (p :: ps) r=Zn:=by rw[ja,h]
def gZ{α:Type}(a:α->Int)(n:Nd α):Bool:=
 decide (1<=n.sort/\n.sort<=43) && nS (ja a n (jF n.sort.toNat) n)
theorem GJ(a:α->Int)(n r:Nd α):jW a n r 84=if gM n.sort n.num n.text [] 0=true then Zo ⟨r.sort,0,ByteArray.empty,r.names,r.kids⟩ else Zn:=by unfold jW;rw[if_pos rfl]
theorem Bf(a:α->Int)(n r:Nd α):jW a n r 35=if lst n.sort.toNat<=n.num/\n.num<=uu n.sort.toNat then Zo ⟨r.sort,0,r.text,r.names,r.kids⟩ else Zn:=by unfold jW;rw[if_neg zC,if_pos rfl]
theorem GI(a:α->Int)(n r:Nd α):jW a n r 75=if jV n.text=true then Zo ⟨r.sort,r.num,ByteArray.empty,r.names,r.kids⟩ else Zn:=by unfold jW;rw[if_neg zC,if_neg zC,if_pos rfl]
theorem GH(a:α->Int)(n r:Nd α):jW a n r 70=if iH a n=true then Zo ⟨r.sort,r.num,r.text,[],[]⟩ else Zn:=by unfold jW;rw[if_neg zC,if_neg zC,if_neg zC,if_pos rfl]
theorem zw(b:α->Int)(n r:Nd α)(a:p=78∨p=88)(h:r.names=[]):jW b n r p=Zn:=by unfold jW;rw[if_neg (by rcases a with rfl|rfl<;>decide),if_neg (by rcases a with rfl|rfl<;>decide),if_neg (by rcases a with rfl|rfl<;>decide),if_neg (by rcases a with rfl|rfl<;>decide),if_pos a,h]
theorem qi(c:α->Int)(n r:Nd α)(b:p=78∨p=88)(h:r.names=a :: q):jW c n r p=if iY p a (n.names.take (n.names.length-(q.length+1)))=true then Zo ⟨r.sort,r.num,r.text,q,r.kids⟩ else Zn:=by unfold jW;rw[if_neg (by rcases b with rfl|rfl<;>decide),if_neg (by rcases b with rfl|rfl<;>decide),if_neg (by rcases b with rfl|rfl<;>decide),if_neg (by rcases b with rfl|rfl<;>decide),if_pos b,h]
theorem Cr(b:α->Int)(n r:Nd α)(a:v=86∨v=65)(h:r.kids=[]):jW b n r v=Zn:=by unfold jW;rw[if_neg (by rcases a with rfl|rfl<;>decide),if_neg (by rcases a with rfl|rfl<;>decide),if_neg (by rcases a with rfl|rfl<;>decide),if_neg (by rcases a with rfl|rfl<;>decide),if_neg (by rcases a with rfl|rfl<;>decide),h]
theorem vQ(b:α->Int)(n r:Nd α)(a:v=86∨v=65){k:α}{q:List α}(h:r.kids=k :: q):jW b n r v=if b k=(v.toNat:Int) then Zo ⟨r.sort,r.num,r.text,r.names,q⟩ else Zn:=by unfold jW;rw[if_neg (by rcases a with rfl|rfl<;>decide),if_neg (by rcases a with rfl|rfl<;>decide),if_neg (by rcases a with rfl|rfl<;>decide),if_neg (by rcases a with rfl|rfl<;>decide),if_neg (by rcases a with rfl|rfl<;>decide),h]
theorem Dr (b:α->Int) (n:Nd α):∀ (a:List UInt8),(∀ v,v∈a->v=86∨v=65)->∀ r:Nd α,
  ja b n a r=if (r.kids.take a.length).map b=a.map (fun v=>(v.toNat:Int)) then Zo ⟨r.sort,r.num,r.text,r.names,r.kids.drop a.length⟩ else Zn:=by
 intro a;induction a with
 | nil=>intro _ r;simp[ja]
 | cons v a g=>
  intro e r;have d:=e v (Zj ..);cases hk:r.kids with
  | nil=>rw[ja,Cr b n r d hk];simp
  | cons k q=>
   by_cases c:b k=(v.toNat:Int);·rw[ja,vQ b n r d hk,if_pos c];show ja b n a _=_;rw[g (fun x f=>e x (ZB _ f))];simp[c]
   ·rw[ja,vQ b n r d hk,if_neg c];simp[c]
def iR(k:Nat):List UInt8:=(jF k).filter (fun p=>!(p==86 || p==65))
def jr(k:Nat):List UInt8:=(jF k).filter (fun p=>p==86 || p==65)
theorem vN:∀k,k<44->jF k=iR k++jr k:=by decide
theorem pV(k:Nat):∀v,v∈jr k->v=86∨v=65:=by intro v a;have:=(List.mem_filter.1 a).2;simpa using this
def gr{α:Type}(n:Nd α)(c:List UInt8):Bool:=
 match c with
 | []=>(n.num==0) && n.text.toList.isEmpty && ((n.names.length:Int)==0)
 | [84]=>gM n.sort n.num n.text [] 0 && ((n.names.length:Int)==0)
 | [75]=>(n.num==0) && jV n.text && ((n.names.length:Int)==0)
 | [35]=>decide (lst n.sort.toNat<=n.num/\n.num<=uu n.sort.toNat) && n.text.toList.isEmpty && ((n.names.length:Int)==0)
 | [88]=>(n.num==0) && n.text.toList.isEmpty && (match n.names with|[a]=>il a|_=>false)
 | [78]=>(n.num==0) && n.text.toList.isEmpty && (match n.names with|[a]=>gj a|_=>false)
 | [88,88]=>(n.num==0) && n.text.toList.isEmpty && (match n.names with|[a,b]=>il a && il b && !(b==a)|_=>false)
 | [78,35]=>decide (lst n.sort.toNat<=n.num/\n.num<=uu n.sort.toNat) && n.text.toList.isEmpty && (match n.names with|[a]=>gj a|_=>false)
 | _=>false
theorem nx:∀k,k<44->k=24∨iR k=[]∨iR k=[84]∨iR k=[75]∨iR k=[35]∨iR k=[88]∨iR k=[78]∨iR k=[88,88]∨iR k=[78,35]:=by decide
theorem FG (b:α->Int) (n r:Nd α) (a:List UInt8) (g:∀ v,v∈a->v=86∨v=65) :
  nS (ja b n a r)=((r.num==0) && r.text.toList.isEmpty && ((r.names.length:Int)==0) && decide (r.kids.map b=a.map (fun v=>(v.toNat:Int)))):=by
 rw[Dr b n a g r];by_cases h:(r.kids.take a.length).map b=a.map (fun v=>(v.toNat:Int))
 ·rw[if_pos h];have d:=congrArg List.length h;simp only[List.length_map,List.length_take]at d;by_cases c:r.kids.length=a.length
  ·have e:r.kids.map b=a.map (fun v=>(v.toNat:Int)):=by rw[<- h,List.take_of_length_le om]
   rw[decide_eq_true e];simp[nS,c]
  ·have e:¬r.kids.map b=a.map (fun v=>(v.toNat:Int)):=fun e=>c (by simpa using congrArg List.length e);rw[decide_eq_false e];have f:¬r.kids.length-a.length=0:=om;simp[nS,f]
 ·rw[if_neg h];have e:¬r.kids.map b=a.map (fun v=>(v.toNat:Int)):=fun e=>h (by
   have d:r.kids.length=a.length:=by simpa using congrArg List.length e
   rw[List.take_of_length_le om,e])
  rw[decide_eq_false e];simp[nS]
theorem ID:ByteArray.empty.toList.isEmpty=true:=by have e:ByteArray.empty.toList.length=ByteArray.empty.size:=zS;exact List.isEmpty_iff.2 (Zz e)
theorem Kl(h:l.length-(q.length+1)=0):iY 88 a (l.take (l.length-(q.length+1)))=il a:=by rw[h];simp[iY]
theorem Kk:iY 78 a (l.take (l.length-(q.length+1)))=gj a:=by simp[iY]
theorem J5{b:ZN}{r:List ZN}:iY 88 b ((a :: b :: r).take ((a :: b :: r).length-(r.length+1)))=(il b && !(b==a)):=by have e:(a :: b :: r).length-(r.length+1)=1:=zS;rw[e];simp[iY]
theorem FY (d:α->Int) (n:Nd α) (f k:List UInt8) (t:∀ v,v∈k->v=86∨v=65)
  (s:f=[]∨f=[84]∨f=[75]∨f=[35]∨f=[88]∨f=[78]∨f=[88,88]∨f=[78,35]) :
  nS (ja d n (f++k) n)=(gr n f && decide (n.kids.map d=k.map (fun v=>(v.toNat:Int)))):=by
 have m:=fun r=>FG d n r k t;have g:nS (Zn:Option (Nd α))=false:=rfl;rcases s with rfl|rfl|rfl|rfl|rfl|rfl|rfl|rfl;·exact m _
 ·show nS (ja d n (84 :: k) n)=_;by_cases h:gM n.sort n.num n.text [] 0=true;·rw[jJ ((GJ d n n).trans (if_pos h)),m];simp only[gr,h,ID];rfl
  ·rw[je ((GJ d n n).trans (if_neg h)),g];simp only[gr,Bool.eq_false_iff.2 h];rfl
 ·show nS (ja d n (75 :: k) n)=_;by_cases h:jV n.text=true;·rw[jJ ((GI d n n).trans (if_pos h)),m];simp only[gr,h,ID]
  ·rw[je ((GI d n n).trans (if_neg h)),g];simp only[gr,Bool.eq_false_iff.2 h,Bool.and_false,Bool.false_and]
 ·show nS (ja d n (35 :: k) n)=_;by_cases h:lst n.sort.toNat<=n.num/\n.num<=uu n.sort.toNat;·rw[jJ ((Bf d n n).trans (if_pos h)),m];simp only[gr,decide_eq_true h];rfl
  ·rw[je ((Bf d n n).trans (if_neg h)),g];simp only[gr,decide_eq_false h,Bool.false_and]
 ·show nS (ja d n (88 :: k) n)=_;cases hl:n.names with
  | nil=>rw[je (zw d n n (.inr rfl) hl),g];simp[gr,hl]
  | cons a q=>
   have i:=Kl (a:=a) (l:=n.names) (q:=q) (by rw[hl];simp);by_cases h:il a=true
   ·rw[jJ ((qi d n n (.inr rfl) hl).trans (if_pos (i.trans h))),m];cases q with
    | nil=>simp[gr,hl,h]
    | cons b r=>simp[gr,hl];omega
   ·rw[je ((qi d n n (.inr rfl) hl).trans (if_neg (by rw[i];exact h))),g];cases q with
    | nil=>simp[gr,hl,h]
    | cons b r=>simp[gr,hl]
 ·show nS (ja d n (78 :: k) n)=_;cases hl:n.names with
  | nil=>rw[je (zw d n n (.inl rfl) hl),g];simp[gr,hl]
  | cons a q=>
   have i:=Kk (a:=a) (l:=n.names) (q:=q);by_cases h:gj a=true
   ·rw[jJ ((qi d n n (.inl rfl) hl).trans (if_pos (i.trans h))),m];cases q with
    | nil=>simp[gr,hl,h]
    | cons b r=>simp[gr,hl];omega
   ·rw[je ((qi d n n (.inl rfl) hl).trans (if_neg (by rw[i];exact h))),g];cases q with
    | nil=>simp[gr,hl,h]
    | cons b r=>simp[gr,hl]
 ·show nS (ja d n (88 :: 88 :: k) n)=_;cases hl:n.names with
  | nil=>rw[je (zw d n n (.inr rfl) hl),g];simp[gr,hl]
  | cons a q=>
   have i:=Kl (a:=a) (l:=n.names) (q:=q) (by rw[hl];simp);by_cases h:il a=true
   ·rw[jJ ((qi d n n (.inr rfl) hl).trans (if_pos (i.trans h)))];cases hq:q with
    | nil=>rw[je (zw d n _ (.inr rfl) rfl),g];simp[gr,hl,hq]
    | cons b r=>
     subst hq;have o:=J5 (a:=a) (b:=b) (r:=r);rw[<- hl]at o;by_cases j:(il b && !(b==a))=true
     ·rw[jJ ((qi d n ⟨n.sort,n.num,n.text,b :: r,n.kids⟩ (.inr rfl) rfl).trans (if_pos (o.trans j))),m];cases r with
      | nil=>simp only[gr,hl,h];simp at j;simp[j]
      | cons c r=>simp[gr,hl];omega
     ·rw[je ((qi d n ⟨n.sort,n.num,n.text,b :: r,n.kids⟩ (.inr rfl) rfl).trans (if_neg (by rw[o];exact j))),g];cases r with
      | nil=>
       have e:(il a && il b && !(b==a))=false:=by rw[Bool.and_assoc,Bool.eq_false_iff.2 j];simp
       simp only[gr,hl,e,Bool.and_false,Bool.false_and]
      | cons c r=>simp[gr,hl]
   ·rw[je ((qi d n n (.inr rfl) hl).trans (if_neg (by rw[i];exact h))),g];match q with
    | []=>simp[gr,hl]
    | [b]=>simp[gr,hl,h]
    | b :: c :: r=>simp[gr,hl]
 ·show nS (ja d n (78 :: 35 :: k) n)=_;cases hl:n.names with
  | nil=>rw[je (zw d n n (.inl rfl) hl),g];simp[gr,hl]
  | cons a q=>
   have i:=Kk (a:=a) (l:=n.names) (q:=q);by_cases h:gj a=true
   ·rw[jJ ((qi d n n (.inl rfl) hl).trans (if_pos (i.trans h)))];by_cases p:lst n.sort.toNat<=n.num/\n.num<=uu n.sort.toNat
    ·rw[jJ ((Bf d n _).trans (if_pos p)),m];cases q with
     | nil=>simp[gr,hl,h,p]
     | cons b r=>simp[gr,hl];omega
    ·rw[je ((Bf d n _).trans (if_neg p)),g];simp only[gr,decide_eq_false p,Bool.false_and]
   ·rw[je ((qi d n n (.inl rfl) hl).trans (if_neg (by rw[i];exact h))),g];cases q with
    | nil=>simp[gr,hl,h]
    | cons b r=>simp[gr,hl]
theorem la (a:α->Int) (n:Nd α) (c:1<=n.sort) (d:n.sort<=43) (f:n.sort≠24) :
  gZ a n=(gr n (iR n.sort.toNat) && decide (n.kids.map a=(jr n.sort.toNat).map (fun v=>(v.toNat:Int)))):=by have b:n.sort.toNat<44:=om;have e:=(nx _ b).resolve_left om;unfold gZ;rw[vN _ b,FY a n _ _ (pV _) e];simp[c,d]
theorem lP (a:α->Int) (n:Nd α) (h:n.sort=24) :
  gZ a n=(iH a n && ((n.num==0) && n.text.toList.isEmpty)):=by
 have e:jF 24=[70]:=zC;unfold gZ;rw[h,show (24:Int).toNat=24 from rfl,e];by_cases b:iH a n=true;·rw[jJ ((GH a n n).trans (if_pos b))];simp[b,nS,ja]
 ·rw[je ((GH a n n).trans (if_neg b))];simp[b,nS]
def nj:(m:Nat)->T m->Int
 | 0,_=>0
 | _+1,t=>Nd.sort t
def jM(m:Nat)(t:T m):Int:=rF (nj m t)
def gp:(m:Nat)->T m->Int->Bool
 | 0,_,_=>false
 | m+1,t,d=>decide (d<=24) && gZ (jM m) (show Nd (T m) from t) && (Nd.kids t).all (fun k=>gp m k (d+1))
def lF(s m:Int)(x:ZN):T 1:=(⟨s,m,x,[],[]⟩:Nd (T 0))
def kL(s m:Int)(x:ZN):List UInt8:=gt 1 (lF s m x)
def kD{α:Type}(a:α->Nat)(n:Nd α):Nat:=
 if n.sort<=3 then (kL n.sort n.num n.text).length
 else if n.sort=4 then (n.names.headD ByteArray.empty).size
 else (ld n.sort.toNat).size+jk n.names+(if n.text.size=0 then 0 else n.text.size+1)+(if n.sort=37∨n.sort=39 then (Lib.itoa n.num).length+1 else 0)+b4 (fun k=>a k+1) n.kids+(if n.sort=24 then 4 else 0)
def gw:(m:Nat)->T m->Nat
 | 0,_=>0
 | m+1,t=>kD (gw m) (show Nd (T m) from t)
def wk(k x:Nat):Nat:=if k=0 then x else k+1+x
theorem j7{k:Nat}(h:1<=k)(x:Nat):wk k x=k+1+x:=by unfold wk;rw[if_neg om]
def jc{α:Type}(b:α->Nat):List ZN->List α->Nat->Nat
 | a :: ns,x :: ks,k=>jc b ns ks (wk (wk k a.size) (b x))
 | _,_,k=>k
def jv{α:Type}(b:α->Nat)(n:Nd α):List UInt8->List ZN->List α->Nat->Nat
 | [],_,_,k=>k
 | p :: ps,ns,ks,k=>
  if p=84 then jv b n ps ns ks (wk k (kL n.sort n.num n.text).length)
  else if p=35 then jv b n ps ns ks (wk k (Lib.itoa n.num).length)
  else if p=75 then jv b n ps ns ks (wk k n.text.size)
  else if p=70 then jv b n ps ns ks (wk (jc b n.names n.kids k) 3)
  else if p=78∨p=88 then
   match ns with
   | []=>k
   | a :: q=>jv b n ps q ks (wk k a.size)
  else
   match ks with
   | []=>k
   | x :: q=>jv b n ps ns q (wk k (b x))
def lC{α:Type}(a:α->Int):List UInt8->List ZN->List α->Prop
 | [],_,_=>True
 | p :: ps,ns,ks=>
  if p=78∨p=88 then
   match ns with
   | []=>False
   | _ :: q=>lC a ps q ks
  else if p=86∨p=65 then
   match ks with
   | []=>False
   | x :: q=>a x=(p.toNat:Int)/\lC a ps ns q
  else lC a ps ns ks
theorem F6(e:α->Nat):∀(c:List ZN)(b:List α)(k:Nat),c.length=b.length->1<=k->jc e c b k=k+jk c+b4 (fun x=>e x+1) b:=by
 intro c;induction c with
 | nil=>intro b k h d;cases b with
  | nil=>simp[jc,jk,b4]
  | cons x r=>simp at h
 | cons a c f=>intro b k h d;cases b with
  | nil=>simp at h
  | cons x r=>
   simp only[Zy]at h
   rw[jc,f r _ om (by rw[j7 d,j7 om];omega),j7 d,j7 om]
   simp only[jk,b4];omega
theorem nd(h:v=86∨v=65):¬v=84/\¬v=35/\¬v=75/\¬v=70/\¬(v=78∨v=88):=by rcases h with rfl|rfl<;>decide
theorem kX(f:α->Nat)(n:Nd α):∀(b:List UInt8),(∀v,v∈b->v=86∨v=65)->∀(c:List ZN)(a:List α)(k:Nat),a.length=b.length->1<=k->jv f n b c a k=k+b4 (fun x=>f x+1) a:=by
 intro b;induction b with
 | nil=>intro _ c a k h _;have:a=[]:=Zz h;subst this;simp[jv,b4]
 | cons v b p=>
  intro e c a k h d;cases a with
  | nil=>simp at h
  | cons x r=>obtain⟨g,i,j,l,m⟩:=nd (e v (Zj ..));simp only[jv,if_neg g,if_neg i,if_neg j,if_neg l,if_neg m];rw[p (fun x o=>e x (ZB _ o)) c r _ (by simpa using h) (by rw[j7 d];omega),j7 d];simp only[b4];omega
theorem FH(e:α->Int):∀(a:List UInt8),(∀v,v∈a->v=86∨v=65)->∀(c:List ZN)(b:List α),b.map e=a.map (fun v=>(v.toNat:Int))->lC e a c b:=by
 intro a;induction a with
 | nil=>intro _ c b h;simp[lC]
 | cons v a i=>
  intro d c b h;cases b with
  | nil=>simp at h
  | cons x r=>obtain⟨j,k,l,m,f⟩:=nd (d v (Zj ..));simp only[List.map_cons,List.cons.injEq]at h;simp only[lC,if_neg f,if_pos (d v (Zj ..))];exact⟨h.1,i (fun x g=>d x (ZB _ g)) c r h.2⟩
def EK(op k:Nat):Nat:=if (ld op).size=0 then k else wk k (ld op).size
theorem uq:∀k,k<44->((k<5->(ld k).size=0)/\(5<=k->1<=(ld k).size/\(ld k).size<=6)):=by decide
theorem zi:∀k,k<4->1<=k->iR k=[84]/\jr k=[]:=by decide
theorem tJ:iR 4=[88]/\jr 4=[]:=by decide
theorem zh:∀k,k<44->5<=k->iR k≠[84]:=by decide
theorem Ih:∀k,k<44->(k=37∨k=39)->(iR k=[35]∨iR k=[78,35]):=by decide
theorem Gt:∀k,k<44->(iR k=[35]∨iR k=[78,35])->(k=37∨k=39):=by decide
theorem JQ(b:α->Nat)(n:Nd α)(ps:List UInt8)(c:List ZN)(a:List α)(k:Nat):jv b n (84 :: ps) c a k=jv b n ps c a (wk k (kL n.sort n.num n.text).length):=by rw[jv.eq_def];exact if_pos rfl
theorem Jk(b:α->Nat)(n:Nd α)(ps:List UInt8)(c:List ZN)(a:List α)(k:Nat):jv b n (35 :: ps) c a k=jv b n ps c a (wk k (Lib.itoa n.num).length):=by rw[jv.eq_def];exact (if_neg zC).trans (if_pos rfl)
theorem JP(b:α->Nat)(n:Nd α)(ps:List UInt8)(c:List ZN)(a:List α)(k:Nat):jv b n (75 :: ps) c a k=jv b n ps c a (wk k n.text.size):=by rw[jv.eq_def];exact (if_neg zC).trans ((if_neg zC).trans (if_pos rfl))
theorem JO(a:α->Nat)(n:Nd α)(ps:List UInt8)(c:List ZN)(b:List α)(k:Nat):jv a n (70 :: ps) c b k=jv a n ps c b (wk (jc a n.names n.kids k) 3):=by rw[jv.eq_def];exact (if_neg zC).trans ((if_neg zC).trans ((if_neg zC).trans (if_pos rfl)))
theorem yV(d:α->Nat)(n:Nd α)(b:p=78∨p=88)(ps:List UInt8)(a:ZN)(e:List ZN)(c:List α)(k:Nat):jv d n (p :: ps) (a :: e) c k=jv d n ps e c (wk k a.size):=by rw[jv.eq_def];dsimp only;rw[if_neg (by rcases b with rfl|rfl<;>decide),if_neg (by rcases b with rfl|rfl<;>decide),if_neg (by rcases b with rfl|rfl<;>decide),if_neg (by rcases b with rfl|rfl<;>decide),if_pos b]
theorem JT(a:α->Nat)(n:Nd α)(i:p=86∨p=65)(ps:List UInt8)(c:List ZN)(x:α)(b:List α)(k:Nat):jv a n (p :: ps) c (x :: b) k=jv a n ps c b (wk k (a x)):=by obtain⟨d,e,f,g,h⟩:=nd i;rw[jv.eq_def];dsimp only;rw[if_neg d,if_neg e,if_neg f,if_neg g,if_neg h]
theorem Ka(e:α->Int)(c:p=78∨p=88)(ps:List UInt8)(b:List ZN)(d:List α)(h:lC e (p :: ps) b d):∃a q,b=a :: q/\lC e ps q d:=by
 cases b with
 | nil=>rw[lC.eq_def]at h;dsimp only at h;rw[if_pos c]at h;exact h.elim
 | cons a q=>rw[lC.eq_def]at h;dsimp only at h;rw[if_pos c]at h;exact⟨a,q,rfl,h⟩
theorem Kb(c:α->Int)(a:p=86∨p=65)(ps:List UInt8)(e:List ZN)(b:List α)(h:lC c (p :: ps) e b):∃x q,b=x :: q/\c x=(p.toNat:Int)/\lC c ps e q:=by
 obtain⟨f,g,i,j,d⟩:=nd a;cases b with
 | nil=>rw[lC.eq_def]at h;dsimp only at h;rw[if_neg d,if_pos a]at h;exact h.elim
 | cons x q=>rw[lC.eq_def]at h;dsimp only at h;rw[if_neg d,if_pos a]at h;exact⟨x,q,rfl,h⟩
theorem Aw(d:α->Int)(a:p=84∨p=35∨p=75∨p=70)(ps:List UInt8)(c:List ZN)(b:List α):lC d (p :: ps) c b↔lC d ps c b:=by rw[lC.eq_def];dsimp only;rw[if_neg (by rcases a with rfl|rfl|rfl|rfl<;>decide),if_neg (by rcases a with rfl|rfl|rfl|rfl<;>decide)]
theorem yz(c:α->Int)(d:p=78∨p=88)(ps:List UInt8)(a:ZN)(q:List ZN)(b:List α)(h:lC c ps q b):lC c (p :: ps) (a :: q) b:=by rw[lC.eq_def];dsimp only;rw[if_pos d];exact h
theorem gH(x:ZN)(h:x.toList.isEmpty=true):x.size=0:=by have a:=List.isEmpty_iff.1 h;have e:=ByteArray.toList_eq x;rw[e]at a;show x.data.size=0;rw[<- Array.length_toList,a];rfl
theorem Ej(m:Nat)(k:K (m+1)):¬fI (m+1) k=[]:=by
 intro h;rw[fI]at h;split at h;·cases h
 split at h;·cases h
 split at h;·cases h
 split at h;·cases h
 split at h;·cases h
 ·cases h
theorem Ds(x:ZN)(h:jV x=true):¬x.size=0:=by intro b;unfold jV at h;obtain⟨k,d⟩:=Option.isSome_iff_exists.1 h;have a:=(kr d).2.2;have c:x.data.toList=[]:=Zz (by simpa using b);rw[c]at a;exact Ej _ _ a
theorem F7 (o:α->Int) (c:α->Nat) (n:Nd α) (s:gZ o n=true) (k:Nat) :
  jv c n (jF n.sort.toNat) n.names n.kids (EK n.sort.toNat k)=wk k (kD c n)/\lC o (jF n.sort.toNat) n.names n.kids:=by
 have E:1<=n.sort/\n.sort<=43:=by unfold gZ at s;simp only[Zq,decide_eq_true_eq]at s;exact s.1
 by_cases r:n.sort=24
 ·rw[lP o n r]at s;simp only[Zq]at s;have e:jF 24=[70]:=zC;have m:=gH _ s.2.2;have u:n.names.length=n.kids.length:=by have:=s.1;unfold iH at this;simp only[Zq,beq_iff_eq]at this;exact this.1
  have C:(ld 24).size=4:=zC;rw[r,show (24:Int).toNat=24 from rfl,e];refine⟨?_,by simp[lC]⟩;have t:1<=EK 24 k:=by unfold EK wk;rw[C];simp;split<;>omega
  rw[JO,jv,F6 c _ _ _ u t,j7 om];unfold kD;rw[r,if_neg om,if_neg om,show (24:Int).toNat=24 from rfl,C,if_pos m,if_neg om,if_pos rfl];unfold EK wk;rw[C];by_cases D:k=0;·simp[D]
  ·simp[D];omega
 ·have f:n.sort.toNat<44:=by omega
  rw[la o n E.1 E.2 r]at s;simp only[Zq,decide_eq_true_eq]at s;obtain⟨d,t⟩:=s;have u:n.kids.length=(jr n.sort.toNat).length:=by simpa using congrArg List.length t
  have G:=zh _ f;obtain⟨w1,H⟩:=uq _ f;rw[vN _ f];have g:=pV n.sort.toNat;have j:=FH o _ g;rcases Nat.lt_or_ge n.sort.toNat 5 with A|A
  ·have B:EK n.sort.toNat k=k:=by unfold EK;rw[if_pos (w1 A)]
   rw[B];by_cases F:n.sort.toNat=4
   ·obtain⟨y,z⟩:=tJ;rw[<- F]at y z;rw[y]at d ⊢;rw[z]at u ⊢;simp only[gr]at d;cases p:n.names with
    | nil=>rw[p]at d;simp at d
    | cons a q=>refine⟨?_,by simp[lC]⟩;rw[List.append_nil,yV c n (.inr rfl),jv];unfold kD;rw[if_neg om,if_pos om,p];rfl
   ·obtain⟨y,z⟩:=zi n.sort.toNat om om;rw[y,z];refine⟨?_,by simp[lC]⟩;rw[List.append_nil,JQ,jv];unfold kD;rw[if_pos om]
  ·obtain⟨I,J⟩:=H A;have B:EK n.sort.toNat k=wk k (ld n.sort.toNat).size:=by unfold EK;rw[if_neg om]
   have l:1<=wk k (ld n.sort.toNat).size:=by unfold wk;split<;>omega
   have v:∀(b x:Nat),(wk k b)+x=wk k (b+x):=by intro b x;unfold wk;split<;>omega
   have w:kD c n=(ld n.sort.toNat).size+jk n.names+(if n.text.size=0 then 0 else n.text.size+1)+(if n.sort=37∨n.sort=39 then (Lib.itoa n.num).length+1 else 0)+b4 (fun k=>c k+1) n.kids:=by unfold kD;rw[if_neg om,if_neg om,if_neg r];omega
   rw[B,w];have i:(n.sort=37∨n.sort=39)↔(iR n.sort.toNat=[35]∨iR n.sort.toNat=[78,35]):=⟨fun h=>Ih _ f om,fun h=>by have:=Gt _ f h;omega⟩;rcases (nx _ f).resolve_left om with h|h|h|h|h|h|h|h;·rw[h]at d ⊢;simp only[gr,Zq,beq_iff_eq]at d;have m:=gH _ d.1.2;have p:n.names=[]:=Zz om;rw[if_pos m,if_neg (by rw[i,h];decide),p];refine⟨?_,j _ _ t⟩;rw[List.nil_append,kX c n _ g _ _ _ u l];rw[v];simp[jk]
   ·exact absurd h (G A)
   ·rw[h]at d ⊢;simp only[gr,Zq,beq_iff_eq]at d;have m:=Ds _ d.1.2;have p:n.names=[]:=Zz om;rw[if_neg m,if_neg (by rw[i,h];decide),p];refine⟨?_,(Aw o (.inr (.inr (.inl rfl))) _ _ _).2 (j _ _ t)⟩;rw[show [75]++jr n.sort.toNat=75 :: jr n.sort.toNat from rfl,JP,j7 l,kX c n _ g _ _ _ u om];rw[show wk k (ld n.sort.toNat).size+1+n.text.size+b4 (fun x=>c x+1) n.kids=wk k (ld n.sort.toNat).size+(1+n.text.size+b4 (fun x=>c x+1) n.kids) by omega,v];congr 1;simp only[jk];omega
   ·rw[h]at d ⊢;simp only[gr,Zq,beq_iff_eq]at d;have m:=gH _ d.1.2;have p:n.names=[]:=Zz om;rw[if_pos m,if_pos (by rw[i,h];simp),p];refine⟨?_,(Aw o (.inr (.inl rfl)) _ _ _).2 (j _ _ t)⟩;rw[show [35]++jr n.sort.toNat=35 :: jr n.sort.toNat from rfl,Jk,j7 l,kX c n _ g _ _ _ u om];rw[show wk k (ld n.sort.toNat).size+1+(Lib.itoa n.num).length+b4 (fun x=>c x+1) n.kids=wk k (ld n.sort.toNat).size+(1+(Lib.itoa n.num).length+b4 (fun x=>c x+1) n.kids) by omega,v];congr 1;simp only[jk];omega
   ·rw[h]at d ⊢;simp only[gr,Zq,beq_iff_eq]at d;have m:=gH _ d.1.2;rw[if_pos m,if_neg (by rw[i,h];decide)];match p:n.names,d.2 with
    | [a],_=>refine⟨?_,yz o (.inr rfl) _ _ _ _ (j _ _ t)⟩;rw[show [88]++jr n.sort.toNat=88 :: jr n.sort.toNat from rfl,yV c n (.inr rfl),j7 l,kX c n _ g _ _ _ u om];rw[show wk k (ld n.sort.toNat).size+1+a.size+b4 (fun x=>c x+1) n.kids=wk k (ld n.sort.toNat).size+(1+a.size+b4 (fun x=>c x+1) n.kids) by omega,v];congr 1;simp only[jk];omega
   ·rw[h]at d ⊢;simp only[gr,Zq,beq_iff_eq]at d;have m:=gH _ d.1.2;rw[if_pos m,if_neg (by rw[i,h];decide)];match p:n.names,d.2 with
    | [a],_=>refine⟨?_,yz o (.inl rfl) _ _ _ _ (j _ _ t)⟩;rw[show [78]++jr n.sort.toNat=78 :: jr n.sort.toNat from rfl,yV c n (.inl rfl),j7 l,kX c n _ g _ _ _ u om];rw[show wk k (ld n.sort.toNat).size+1+a.size+b4 (fun x=>c x+1) n.kids=wk k (ld n.sort.toNat).size+(1+a.size+b4 (fun x=>c x+1) n.kids) by omega,v];congr 1;simp only[jk];omega
   ·rw[h]at d ⊢;simp only[gr,Zq,beq_iff_eq]at d;have m:=gH _ d.1.2;rw[if_pos m,if_neg (by rw[i,h];decide)];match p:n.names,d.2 with
    | [a,b],_=>refine⟨?_,yz o (.inr rfl) _ _ _ _ (yz o (.inr rfl) _ _ _ _ (j _ _ t))⟩;rw[show [88,88]++jr n.sort.toNat=88 :: 88 :: jr n.sort.toNat from rfl,yV c n (.inr rfl),yV c n (.inr rfl),j7 l,j7 om,kX c n _ g _ _ _ u om];rw[show wk k (ld n.sort.toNat).size+1+a.size+1+b.size+b4 (fun x=>c x+1) n.kids=wk k (ld n.sort.toNat).size+(1+a.size+1+b.size+b4 (fun x=>c x+1) n.kids) by omega,v];congr 1;simp only[jk];omega
   ·rw[h]at d ⊢;simp only[gr,Zq]at d;have m:=gH _ d.1.2;rw[if_pos m,if_pos (by rw[i,h];simp)];match p:n.names,d.2 with
    | [a],_=>refine⟨?_,yz o (.inl rfl) _ _ _ _ ((Aw o (.inr (.inl rfl)) _ _ _).2 (j _ _ t))⟩;rw[show [78,35]++jr n.sort.toNat=78 :: 35 :: jr n.sort.toNat from rfl,yV c n (.inl rfl),Jk,j7 l,j7 om,kX c n _ g _ _ _ u om];rw[show wk k (ld n.sort.toNat).size+1+a.size+1+(Lib.itoa n.num).length+b4 (fun x=>c x+1) n.kids=wk k (ld n.sort.toNat).size+(1+a.size+1+(Lib.itoa n.num).length+b4 (fun x=>c x+1) n.kids) by omega,v];congr 1;simp only[jk];omega
def iQ(s:Int)(i:Nat):Int:=if ((s=33∨s=34∨s=43)/\i=1)∨(s=35/\i=2) then 20 else 1
theorem uj(s:Int)(i:Nat):1<=iQ s i/\iQ s i<=20:=by unfold iQ;split<;>omega
def gQ{α:Type}(f:α->Int)(s:Int)(l:List α):Nat->Int
 | 0=>1
 | j+1=>gQ f s l j+iQ s j*((l[j]?).map f).getD 0
def gN:(m:Nat)->T m->Int
 | 0,_=>1
 | m+1,t=>min (gQ (gN m) (Nd.sort t) (Nd.kids t) (Nd.kids t).length) 40001
theorem rm(f:α->Int)(s:Int)(l:List α)(j:Nat)(h:j<l.length):gQ f s l (j+1)=gQ f s l j+iQ s j*f l[j]:=by simp[gQ,h]
theorem uk{t c:Int}(b:1<=t)(a:t<=20)(c0:0<=c)(c1:c<=40001):0<=t*c/\t*c<=800020:=by refine⟨Int.mul_nonneg om c0,?_⟩;have b:=Int.mul_le_mul_of_nonneg_right a c0;omega
theorem oN(f:α->Int)(s:Int)(l:List α)(d:∀x,x∈l->0<=f x/\f x<=40001):∀j,1<=gQ f s l j/\gQ f s l j<=1+800020*j/\gQ f s l j<=gQ f s l (j+1):=by
 have a:∀j,0<=iQ s j*((l[j]?).map f).getD 0/\iQ s j*((l[j]?).map f).getD 0<=800020:=by
  intro j;have c:=uj s j;by_cases h:j<l.length;·have:=d _ (List.getElem_mem h);simp only[List.getElem?_eq_getElem h,Option.map_some,Option.getD_some];exact uk c.1 c.2 this.1 this.2
  ·rw[List.getElem?_eq_none om];simp
 intro j;have e:=a j;refine⟨?_,?_,by simp only[gQ];omega⟩
 ·induction j with
  | zero=>simp[gQ]
  | succ j b=>have:=a j;have:=b this;simp only[gQ];omega
 ·induction j with
  | zero=>simp[gQ]
  | succ j b=>have:=a j;have:=b this;simp only[gQ];omega
theorem yg(f:α->Int)(s:Int)(l:List α)(a:∀x,x∈l->0<=f x/\f x<=40001)(i:Nat):∀d,gQ f s l i<=gQ f s l (i+d):=by
 intro d;induction d with
 | zero=>exact Int.le_refl _
 | succ d b=>exact Int.le_trans b (oN f s l a (i+d)).2.2
theorem lq:∀(m:Nat)(t:T m),1<=gN m t/\gN m t<=40001:=by
 intro m;induction m with
 | zero=>intro t;simp[gN]
 | succ m a=>intro t;have:=oN (gN m) (Nd.sort t) (Nd.kids t) (fun x _=>⟨by have:=a x;omega,(a x).2⟩) (Nd.kids t).length;simp only[gN];omega
theorem CO(m:Nat)(t:T (m+1))(i:Nat)(hi:i<=(Nd.kids t).length)(h:40000<gQ (gN m) (Nd.sort t) (Nd.kids t) i):gN (m+1) t=40001:=by have a:=yg (gN m) (Nd.sort t) (Nd.kids t) (fun x _=>⟨by have:=lq m x;omega,(lq m x).2⟩) i ((Nd.kids t).length-i);rw[show i+((Nd.kids t).length-i)=(Nd.kids t).length by omega]at a;simp only[gN];omega
def ke:(m:Nat)->T m->Int
 | 0,_=>0
 | m+1,t=>
  let f:=fun (i:Nat)=>(((Nd.kids t)[i]?).map (ke m)).getD 0
  if Nd.sort t=38∨Nd.sort t=39 then 1
  else if Nd.sort t=40 then min (f 0+f 1) 401
  else if Nd.sort t=41 then max (f 1) (f 2)
  else if Nd.sort t=42 then f 1
  else if Nd.sort t=43 then min (20*f 1) 401
  else 0
theorem k8:∀(m:Nat)(t:T m),0<=ke m t/\ke m t<=401:=by
 intro m;induction m with
 | zero=>intro t;simp[ke]
 | succ m b=>
  intro t;have a:∀i:Nat,0<=(((Nd.kids t)[i]?).map (ke m)).getD 0/\(((Nd.kids t)[i]?).map (ke m)).getD 0<=401:=by
   intro i;cases h:(Nd.kids t)[i]? with
   | none=>simp
   | some x=>simpa using b x
  have c:=a 0;have d:=a 1;have e:=a 2;simp only[ke];split;·omega
  split;·omega
  split;·omega
  split;·omega
  split;·omega
  ·omega
end Go.Proofs.YtcfojmaccikgeaaGreatDoor
